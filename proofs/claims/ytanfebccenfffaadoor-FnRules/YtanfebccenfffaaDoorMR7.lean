/- Texts of mine laid together: IReset, IHas, IBehind, IPut. -/
import Derived.Test.YtanfebccenfffaaDoorMR6
import Derived.Test.YtanfebccenfffaaDoorMR5
import Derived.Test.YtanfebccenfffaaDoorPRule
import Derived.Test.YtanfebccenfffaaDoorRdBox
import Derived.Deep.RegionWith
import Derived.Deep.Cut
import Derived.Deep.CutRange
import Derived.BigRegion
import Derived.Deep.RegionLaw
import Derived.Deep.AppendLies
namespace Go.Proofs.YtanfebccenfffaaDoor
open Go.RowKit

theorem wd_len (l : List UInt8) : (wdB l).size ≤ l.length ∧ (wdR l).length ≤ l.length := ⟨(nextL_size l).1, (nextL_size l).2⟩

theorem elemOk_in {es : List Ent} {lv : Int} {l : List Int} (h1 : rulesOk es lv = true) (h2 : runesOk l = true) : elemOk es lv l = elemE es l := by
  unfold elemOk; rw [if_pos ⟨h1, h2⟩]

theorem putIn_none {st : RS} {l : List Int} (h : runesOk l = true) (h2 : elemE st.es l = none) : putIn st 0 l = .error 3 := by
  unfold putIn; rw [if_neg (by simp [h]), if_pos rfl, h2]
theorem putIn_var {st : RS} {l : List Int} {e : El} (h : runesOk l = true) (h2 : elemE st.es l = some e) (h3 : e.varies = true) : putIn st 0 l = .error 3 := by
  unfold putIn; rw [if_neg (by simp [h]), if_pos rfl, h2]; simp only; rw [if_pos h3]
theorem putIn_reset {st : RS} {l : List Int} {e : El} (h : runesOk l = true) (h2 : elemE st.es l = some e) (h3 : e.varies = false) : putIn st 0 l = .ok { st with last := e, reset := true } := by
  unfold putIn; rw [if_neg (by simp [h]), if_pos rfl, h2]; simp only; rw [if_neg (by simp [h3])]

theorem RInv.len {st : RS} (h : RInv st) : st.es.length ≤ 1048576 ∧ ∀ e ∈ st.es, e.runes.length ≤ 1048576 := by
  obtain ⟨h1, _, h3⟩ := rulesOk_whole h.good
  exact ⟨by omega, fun e he => Nat.le_trans (runesOk_len (h3 e he).1) (by omega)⟩

set_option maxRecDepth 100000 in
set_option maxHeartbeats 8000000 in
theorem reset_any {w u : World} {b T : Nat} {l : List UInt8} {st : RS} {vE : Value} (h : RdM w u b T l st vE) (hl : l.length ≤ 1048576) (hi : RInv st) :
    Calls Tryd.prog 74 #[.pointer (some ⟨b, 0, none⟩)] u fun e u' => ∃ c, e = .returned (.int .i64 c) ∧ Out w u' b (wdR l) (putW st 0 (wdB l)) c := by
  have NW := nextWd_any h hl
  have hx : (wdB l).size ≤ 1048576 := Nat.le_trans (wd_len l).1 hl
  have HI : Hid (RInv st) := hi
  have hil := hi.len
  have HN : Hid (jOk (wdB l) = false → putW st 0 (wdB l) = .error 2) := fun c => putW_no c
  have HY : Hid (jOk (wdB l) = true → putW st 0 (wdB l) = putIn st 0 (jR (wdB l)) ∧ runesOk (jR (wdB l)) = true) := fun c => by
    have e : jR (wdB l) = nD (Dec.decT (wdB l).size (wdB l)).1 := by unfold jR; rw [if_pos c]
    rw [e]
    refine ⟨putW_yes c, ?_⟩
    unfold jOk at c
    rw [Bool.and_eq_true] at c
    exact c.2
  clear h hi
  generalize putW st 0 (wdB l) = R at *
  generalize wdR l = l2 at *
  have JR := fun (u : World) (ht : Tabs3 u) => joinedR_any (wdB l) hx u ht
  generalize jR (wdB l) = r at *
  generalize hj : jOk (wdB l) = jo at *
  generalize wdB l = x at *
  clear hj
  cases jo
  · have HE : Hid (R = .error 2) := HN.out rfl
    clear HN HY
    go_enter Tryd.func74, Tryd.ntmps74
    go_wp2_with fail
    refine NW.mono ?_
    rintro e u1 ⟨rfl, hm⟩
    clear NW
    have J1 := JR _ hm.tab
    have HM : Hid (RdM _ _ _ _ _ _ _) := hm
    clear JR hm
    go_wp2_with fail
    refine J1.mono ?_
    rintro e u2 ⟨v2, rfl, i2, b2⟩
    have HB : Hid (Below _ _ _) := (HM.out.step b2).be
    clear J1 HM
    go_wp2
    go_ret
    exact ⟨2, rfl, .inl ⟨HE.out, by decide, HB.out⟩⟩
  · obtain ⟨hp, hro⟩ := HY.out rfl
    have hrl := runesOk_len hro
    clear HN HY
    go_enter Tryd.func74, Tryd.ntmps74
    go_wp2_with fail
    refine NW.mono ?_
    rintro e u1 ⟨rfl, hm⟩
    clear NW
    have J1 := JR _ hm.tab
    have HM : Hid (RdM _ _ _ _ _ _ _) := hm
    clear JR hm
    go_wp2_with fail
    refine J1.mono ?_
    rintro e u2 ⟨v2, rfl, i2, b2⟩
    have hm2 := HM.out.step b2
    have E := implElemOf_any (sh := st.sh) (lv := st.lv) hm2.en.ents i2 hil.1 (by omega) hil.2 hm2.tab
    rw [elemOk_in HI.out.good hro] at E
    obtain ⟨c0, c1, c2, c3, c4, c5, c6, c7, c8, fz⟩ := hm2.cells
    have hlt := hm2.lt
    have HM2 : Hid (RdM _ _ _ _ _ _ _) := hm2
    clear J1 HM hm2 i2 b2
    cases ho : elemE st.es r with
    | none =>
      rw [ho] at E
      have HE : Hid (R = .error 3) := hp.trans (putIn_none hro ho)
      unfold elRes elOf elV at E
      simp only [Option.getD_none, Option.isSome_none] at E
      clear hp ho hro
      go_wp2_with fail
      refine E.mono ?_
      rintro e u3 ⟨rfl, b3⟩
      have HB : Hid (Below _ _ _) := ((HM2.out.step b3).step ((Below.refl u3.heap.size u3).alloc (Nat.le_refl _) (.cells #[.int .i64 0, .int .i64 0, .int .i64 0, .bool false] 44))).be
      clear E HM2 c0 c1 c2 c3 c4 c5 c6 c7 c8 fz
      go_wp2
      go_ret
      exact ⟨3, rfl, .inl ⟨HE.out, by decide, HB.out⟩⟩
    | some x1 =>
      rw [ho] at E
      unfold elRes elOf elV at E
      simp only [Option.getD_some, Option.isSome_some] at E
      cases hv : x1.varies
      · have HE : Hid (R = .ok { st with last := x1, reset := true }) := hp.trans (putIn_reset hro ho hv)
        rw [hv] at E
        clear hp ho hro
        go_wp2_with fail
        refine E.mono ?_
        rintro e u3 ⟨rfl, b3⟩
        have hm3 := HM2.out.step b3
        clear c0 c1 c2 c3 c4 c5 c6 c7 c8 fz hlt
        obtain ⟨c0, c1, c2, c3, c4, c5, c6, c7, c8, fz⟩ := hm3.cells
        have hlt := hm3.lt
        have hs1 : RdM w (setLs u3 b x1) b T l2 { st with last := x1 } vE := hm3.setLast x1
        have hs2 : RdM w ((setLs u3 b x1).setCell ⟨b, 8, none⟩ (.bool true)) b T l2 { st with last := x1, reset := true } vE := hs1.set rfl rfl rfl
        have HS : Hid (∀ o, RdM w (((setLs u3 b x1).setCell ⟨b, 8, none⟩ (.bool true)).alloc o) b T l2 { st with last := x1, reset := true } vE) := fun o => hs2.step ((Below.refl _ _).alloc (Nat.le_refl _) o)
        unfold setLs at HS
        rw [hv] at HS
        clear E HM2 hm3 hs1 hs2
        go_wp2
        go_ret
        exact ⟨0, rfl, .inr ⟨_, _, _, HE.out, rfl, HS.out _⟩⟩
      · have HE : Hid (R = .error 3) := hp.trans (putIn_var hro ho hv)
        rw [hv] at E
        clear hp ho hro
        go_wp2_with fail
        refine E.mono ?_
        rintro e u3 ⟨rfl, b3⟩
        have HB : Hid (Below _ _ _) := (HM2.out.step b3).be
        have hsz := b3.size
        clear E HM2 c0 c1 c2 c3 c4 c5 c6 c7 c8 fz
        go_wp2
        go_ret
        exact ⟨3, rfl, .inl ⟨HE.out, by decide, HB.out.alloc (by omega) _⟩⟩
end Go.Proofs.YtanfebccenfffaaDoor

namespace Go.Proofs.YtanfebccenfffaaDoor
open Go.RowKit

def q1 (n : Int) (x : El) : Bool := x.first == n

def HasRel (w : World) (es : List Ent) (q : El → Bool) (i : Value) (wr : World) : Prop := ∃ k : Nat, k ≤ es.length ∧ i = .int .i64 k ∧ NotQ es q k ∧ Below w.heap.size w wr

def q2' (a n : Int) (x : El) : Bool := x.first == a && x.second == n
def q3' (a b n : Int) (x : El) : Bool := (x.first == a && x.second == b) && x.third == n

set_option maxRecDepth 100000 in
set_option maxHeartbeats 4000000 in
theorem has1_row (w : World) (B g cap : Nat) (es : List Ent) (n : Int) (hE : Ents w B (.slice (some ⟨g, 0, none⟩) es.length cap) es) (hn : es.length ≤ 1048576) :
    Calls Tryd.prog 101 #[.slice (some ⟨g, 0, none⟩) es.length cap, .int .i64 n] w fun e w' => e = .returned (.bool (hasQ es (q1 n))) ∧ Below w.heap.size w w' := by
  go_enter Tryd.func101, Tryd.ntmps101
  go_wp2
  go_loopw [9] (fun i wr => HasRel w es (q1 n) i wr) (fun i _ => es.length - (intOf i).toNat)
  case atStart => exact ⟨0, Nat.zero_le _, rfl, fun j e hj => by omega, Below.refl _ _⟩
  case round =>
    obtain ⟨k, hk, rfl, HN0, hb⟩ := hrel
    have HN : Hid (NotQ es (q1 n) k) := HN0
    clear HN0
    by_cases hlt : k < es.length
    · obtain ⟨e, he⟩ : ∃ e, es[k]? = some e := ⟨_, List.getElem?_eq_getElem hlt⟩
      obtain ⟨x, hI, a0, a1, a2, a3, a4⟩ := (hE.below hb).cells k e he
      obtain ⟨xa, xn, xc, rfl⟩ : ∃ xa xn xc, x = .slice xa xn xc := by
        rcases hI.form with ⟨rfl, _⟩ | ⟨_, _, rfl, _, _⟩
        · exact ⟨_, _, _, rfl⟩
        · exact ⟨_, _, _, rfl⟩
      have hk8 : (k : Int) < (es.length : Int) := by omega
      have hba := hb.alloc hb.size (.cells #[.slice xa xn xc, .int .i64 e.el.first, .int .i64 e.el.second, .int .i64 e.el.third, .bool e.el.varies] 46)
      have HE : Hid _ := he
      clear he hI hE
      by_cases c0 : e.el.first = n
      · have d0 : (e.el.first == n) = true := by simpa using c0
        have HA : Hid (hasQ es (q1 n) = true) := hasQ_hit HE.out (by show (q1 n e.el) = true; unfold q1; simp [c0])
        clear HN HE c0
        go_wp2
        go_ret
        rw [HA.out]
        exact ⟨rfl, hba⟩
      · have d0 : (e.el.first == n) = false := by simpa using c0
        have HN2 : Hid (NotQ es (q1 n) (k + 1)) := HN.out.succ HE.out (by show (q1 n e.el) = false; unfold q1; simp [c0])
        clear HN HE c0
        go_wp2
        exact ⟨⟨k + 1, by omega, by go_num, HN2.out, hba⟩, by simp [intOf]; omega⟩
    · have HA : Hid (hasQ es (q1 n) = false) := hasQ_none HN.out (by omega)
      clear HN hE
      go_wp2
      go_ret
      rw [HA.out]
      exact ⟨rfl, hb⟩

set_option maxRecDepth 100000 in
set_option maxHeartbeats 4000000 in
theorem has1_nil (w : World) (n : Int) : Calls Tryd.prog 101 #[.slice none 0 0, .int .i64 n] w fun e w' => e = .returned (.bool (hasQ [] (q1 n))) ∧ Below w.heap.size w w' := by
  have HA : Hid (hasQ [] (q1 n) = false) := rfl
  go_enter Tryd.func101, Tryd.ntmps101
  go_wp2
  go_loop [9] (fun i => i = .int .i64 0) (fun _ => 0)
  case atStart => rfl
  case round =>
    subst hrel
    go_wp2
    go_ret
    rw [HA.out]
    exact ⟨rfl, Below.refl _ _⟩

theorem has1_any {w : World} {B : Nat} {v : Value} {es : List Ent} (n : Int) (hE : Ents w B v es) (hn : es.length ≤ 1048576) :
    Calls Tryd.prog 101 #[v, .int .i64 n] w fun e w' => e = .returned (.bool (hasQ es (q1 n))) ∧ Below w.heap.size w w' := by
  rcases hE.form with ⟨rfl, rfl⟩ | ⟨g, cap, rfl, _, _, _, _⟩
  · exact has1_nil w n
  · exact has1_row w B g cap es n hE hn

set_option maxRecDepth 100000 in
set_option maxHeartbeats 4000000 in
theorem has2_row (w : World) (B g cap : Nat) (es : List Ent) (a n : Int) (hE : Ents w B (.slice (some ⟨g, 0, none⟩) es.length cap) es) (hn : es.length ≤ 1048576) :
    Calls Tryd.prog 102 #[.slice (some ⟨g, 0, none⟩) es.length cap, .int .i64 a, .int .i64 n] w fun e w' => e = .returned (.bool (hasQ es (q2' a n))) ∧ Below w.heap.size w w' := by
  go_enter Tryd.func102, Tryd.ntmps102
  go_wp2
  go_loopw [11] (fun i wr => HasRel w es (q2' a n) i wr) (fun i _ => es.length - (intOf i).toNat)
  case atStart => exact ⟨0, Nat.zero_le _, rfl, fun j e hj => by omega, Below.refl _ _⟩
  case round =>
    obtain ⟨k, hk, rfl, HN0, hb⟩ := hrel
    have HN : Hid (NotQ es (q2' a n) k) := HN0
    clear HN0
    by_cases hlt : k < es.length
    · obtain ⟨e, he⟩ : ∃ e, es[k]? = some e := ⟨_, List.getElem?_eq_getElem hlt⟩
      obtain ⟨x, hI, a0, a1, a2, a3, a4⟩ := (hE.below hb).cells k e he
      obtain ⟨xa, xn, xc, rfl⟩ : ∃ xa xn xc, x = .slice xa xn xc := by
        rcases hI.form with ⟨rfl, _⟩ | ⟨_, _, rfl, _, _⟩
        · exact ⟨_, _, _, rfl⟩
        · exact ⟨_, _, _, rfl⟩
      have hk8 : (k : Int) < (es.length : Int) := by omega
      have hba := hb.alloc hb.size (.cells #[.slice xa xn xc, .int .i64 e.el.first, .int .i64 e.el.second, .int .i64 e.el.third, .bool e.el.varies] 46)
      have HE : Hid _ := he
      clear he hI hE
      by_cases c0 : e.el.first = a
      · have d0 : (e.el.first == a) = true := by simpa using c0
        by_cases c1 : e.el.second = n
        · have d1 : (e.el.second == n) = true := by simpa using c1
          have HA : Hid (hasQ es (q2' a n) = true) := hasQ_hit HE.out (by show (q2' a n e.el) = true; unfold q2'; simp [c0, c1])
          clear HN HE c0 c1
          go_wp2
          go_ret
          rw [HA.out]
          exact ⟨rfl, hba⟩
        · have d1 : (e.el.second == n) = false := by simpa using c1
          have HN2 : Hid (NotQ es (q2' a n) (k + 1)) := HN.out.succ HE.out (by show (q2' a n e.el) = false; unfold q2'; simp [c1])
          clear HN HE c0 c1
          go_wp2
          exact ⟨⟨k + 1, by omega, by go_num, HN2.out, hba⟩, by simp [intOf]; omega⟩
      · have d0 : (e.el.first == a) = false := by simpa using c0
        have HN2 : Hid (NotQ es (q2' a n) (k + 1)) := HN.out.succ HE.out (by show (q2' a n e.el) = false; unfold q2'; simp [c0])
        clear HN HE c0
        go_wp2
        exact ⟨⟨k + 1, by omega, by go_num, HN2.out, hba⟩, by simp [intOf]; omega⟩
    · have HA : Hid (hasQ es (q2' a n) = false) := hasQ_none HN.out (by omega)
      clear HN hE
      go_wp2
      go_ret
      rw [HA.out]
      exact ⟨rfl, hb⟩

set_option maxRecDepth 100000 in
set_option maxHeartbeats 4000000 in
theorem has2_nil (w : World) (a n : Int) : Calls Tryd.prog 102 #[.slice none 0 0, .int .i64 a, .int .i64 n] w fun e w' => e = .returned (.bool (hasQ [] (q2' a n))) ∧ Below w.heap.size w w' := by
  have HA : Hid (hasQ [] (q2' a n) = false) := rfl
  go_enter Tryd.func102, Tryd.ntmps102
  go_wp2
  go_loop [11] (fun i => i = .int .i64 0) (fun _ => 0)
  case atStart => rfl
  case round =>
    subst hrel
    go_wp2
    go_ret
    rw [HA.out]
    exact ⟨rfl, Below.refl _ _⟩

theorem has2_any {w : World} {B : Nat} {v : Value} {es : List Ent} (a n : Int) (hE : Ents w B v es) (hn : es.length ≤ 1048576) :
    Calls Tryd.prog 102 #[v, .int .i64 a, .int .i64 n] w fun e w' => e = .returned (.bool (hasQ es (q2' a n))) ∧ Below w.heap.size w w' := by
  rcases hE.form with ⟨rfl, rfl⟩ | ⟨g, cap, rfl, _, _, _, _⟩
  · exact has2_nil w a n
  · exact has2_row w B g cap es a n hE hn

set_option maxRecDepth 100000 in
set_option maxHeartbeats 4000000 in
theorem has3_row (w : World) (B g cap : Nat) (es : List Ent) (a b n : Int) (hE : Ents w B (.slice (some ⟨g, 0, none⟩) es.length cap) es) (hn : es.length ≤ 1048576) :
    Calls Tryd.prog 103 #[.slice (some ⟨g, 0, none⟩) es.length cap, .int .i64 a, .int .i64 b, .int .i64 n] w fun e w' => e = .returned (.bool (hasQ es (q3' a b n))) ∧ Below w.heap.size w w' := by
  go_enter Tryd.func103, Tryd.ntmps103
  go_wp2
  go_loopw [13] (fun i wr => HasRel w es (q3' a b n) i wr) (fun i _ => es.length - (intOf i).toNat)
  case atStart => exact ⟨0, Nat.zero_le _, rfl, fun j e hj => by omega, Below.refl _ _⟩
  case round =>
    obtain ⟨k, hk, rfl, HN0, hb⟩ := hrel
    have HN : Hid (NotQ es (q3' a b n) k) := HN0
    clear HN0
    by_cases hlt : k < es.length
    · obtain ⟨e, he⟩ : ∃ e, es[k]? = some e := ⟨_, List.getElem?_eq_getElem hlt⟩
      obtain ⟨x, hI, a0, a1, a2, a3, a4⟩ := (hE.below hb).cells k e he
      obtain ⟨xa, xn, xc, rfl⟩ : ∃ xa xn xc, x = .slice xa xn xc := by
        rcases hI.form with ⟨rfl, _⟩ | ⟨_, _, rfl, _, _⟩
        · exact ⟨_, _, _, rfl⟩
        · exact ⟨_, _, _, rfl⟩
      have hk8 : (k : Int) < (es.length : Int) := by omega
      have hba := hb.alloc hb.size (.cells #[.slice xa xn xc, .int .i64 e.el.first, .int .i64 e.el.second, .int .i64 e.el.third, .bool e.el.varies] 46)
      have HE : Hid _ := he
      clear he hI hE
      by_cases c0 : e.el.first = a
      · have d0 : (e.el.first == a) = true := by simpa using c0
        by_cases c1 : e.el.second = b
        · have d1 : (e.el.second == b) = true := by simpa using c1
          by_cases c2 : e.el.third = n
          · have d2 : (e.el.third == n) = true := by simpa using c2
            have HA : Hid (hasQ es (q3' a b n) = true) := hasQ_hit HE.out (by show (q3' a b n e.el) = true; unfold q3'; simp [c0, c1, c2])
            clear HN HE c0 c1 c2
            go_wp2
            go_ret
            rw [HA.out]
            exact ⟨rfl, hba⟩
          · have d2 : (e.el.third == n) = false := by simpa using c2
            have HN2 : Hid (NotQ es (q3' a b n) (k + 1)) := HN.out.succ HE.out (by show (q3' a b n e.el) = false; unfold q3'; simp [c2])
            clear HN HE c0 c1 c2
            go_wp2
            exact ⟨⟨k + 1, by omega, by go_num, HN2.out, hba⟩, by simp [intOf]; omega⟩
        · have d1 : (e.el.second == b) = false := by simpa using c1
          have HN2 : Hid (NotQ es (q3' a b n) (k + 1)) := HN.out.succ HE.out (by show (q3' a b n e.el) = false; unfold q3'; simp [c1])
          clear HN HE c0 c1
          go_wp2
          exact ⟨⟨k + 1, by omega, by go_num, HN2.out, hba⟩, by simp [intOf]; omega⟩
      · have d0 : (e.el.first == a) = false := by simpa using c0
        have HN2 : Hid (NotQ es (q3' a b n) (k + 1)) := HN.out.succ HE.out (by show (q3' a b n e.el) = false; unfold q3'; simp [c0])
        clear HN HE c0
        go_wp2
        exact ⟨⟨k + 1, by omega, by go_num, HN2.out, hba⟩, by simp [intOf]; omega⟩
    · have HA : Hid (hasQ es (q3' a b n) = false) := hasQ_none HN.out (by omega)
      clear HN hE
      go_wp2
      go_ret
      rw [HA.out]
      exact ⟨rfl, hb⟩

set_option maxRecDepth 100000 in
set_option maxHeartbeats 4000000 in
theorem has3_nil (w : World) (a b n : Int) : Calls Tryd.prog 103 #[.slice none 0 0, .int .i64 a, .int .i64 b, .int .i64 n] w fun e w' => e = .returned (.bool (hasQ [] (q3' a b n))) ∧ Below w.heap.size w w' := by
  have HA : Hid (hasQ [] (q3' a b n) = false) := rfl
  go_enter Tryd.func103, Tryd.ntmps103
  go_wp2
  go_loop [13] (fun i => i = .int .i64 0) (fun _ => 0)
  case atStart => rfl
  case round =>
    subst hrel
    go_wp2
    go_ret
    rw [HA.out]
    exact ⟨rfl, Below.refl _ _⟩

theorem has3_any {w : World} {B : Nat} {v : Value} {es : List Ent} (a b n : Int) (hE : Ents w B v es) (hn : es.length ≤ 1048576) :
    Calls Tryd.prog 103 #[v, .int .i64 a, .int .i64 b, .int .i64 n] w fun e w' => e = .returned (.bool (hasQ es (q3' a b n))) ∧ Below w.heap.size w w' := by
  rcases hE.form with ⟨rfl, rfl⟩ | ⟨g, cap, rfl, _, _, _, _⟩
  · exact has3_nil w a b n
  · exact has3_row w B g cap es a b n hE hn

/-- What the loop of isBaseFirst holds on to. -/
def BfRel (w : World) (n : Int) (i : Value) (wr : World) : Prop := ∃ k : Nat, k ≤ 127 ∧ i = .int .i64 k ∧ NoBase n k ∧ Below w.heap.size w wr

set_option maxRecDepth 100000 in
set_option maxHeartbeats 4000000 in
theorem isBase_any (n : Int) (w : World) (hm : Held w 2 marksF) : Calls Tryd.prog 100 #[.int .i64 n] w fun e w' => e = .returned (.bool (takenB n)) ∧ Below w.heap.size w w' := by
  go_enter Tryd.func100, Tryd.ntmps100
  go_wp2
  go_loopw [6] (fun i wr => BfRel w n i wr) (fun i _ => 127 - (intOf i).toNat)
  case atStart => exact ⟨0, Nat.zero_le _, rfl, fun j e hj => by omega, Below.refl _ _⟩
  case round =>
    obtain ⟨k, hk, rfl, HN0, hb⟩ := hrel
    have HN : Hid (NoBase n k) := HN0
    clear HN0
    by_cases hlt : k < 127
    · have hk8 : (k : Int) < 127 := by omega
      have BS := baseElem_any (k : Int) (by omega) (by omega) (by omega) wr (hm.below hb hm.lt)
      clear hm
      cases ho : one3 (base (k : Int)) with
      | none =>
        rw [ho] at BS
        have HN2 : Hid (NoBase n (k + 1)) := HN.out.succ (fun e h => by rw [ho] at h; cases h)
        unfold elRes elOf elV at BS
        simp only [Option.getD_none, Option.isSome_none] at BS
        clear HN ho
        go_wp2_with fail
        refine BS.mono ?_
        rintro e' w2 ⟨rfl, b2⟩
        have b3 := hb.trans (b2.mono hb.size)
        clear BS
        go_wp2
        exact ⟨⟨k + 1, by omega, by go_num, HN2.out, b3.alloc b3.size _⟩, by simp [intOf]; omega⟩
      | some x =>
        rw [ho] at BS
        unfold elRes elOf elV at BS
        simp only [Option.getD_some, Option.isSome_some] at BS
        by_cases c : x.first = n
        · have HT : Hid (takenB n = true) := c ▸ taken_of hlt ho
          have d : (x.first == n) = true := by simpa using c
          clear HN ho c
          go_wp2_with fail
          refine BS.mono ?_
          rintro e' w2 ⟨rfl, b2⟩
          have b3 := hb.trans (b2.mono hb.size)
          clear BS
          go_wp2
          go_ret
          rw [HT.out]
          exact ⟨rfl, b3.alloc b3.size _⟩
        · have HN2 : Hid (NoBase n (k + 1)) := HN.out.succ (fun e h => by rw [ho] at h; cases h; exact c)
          have d : (x.first == n) = false := by simpa using c
          clear HN ho c
          go_wp2_with fail
          refine BS.mono ?_
          rintro e' w2 ⟨rfl, b2⟩
          have b3 := hb.trans (b2.mono hb.size)
          clear BS
          go_wp2
          exact ⟨⟨k + 1, by omega, by go_num, HN2.out, b3.alloc b3.size _⟩, by simp [intOf]; omega⟩
    · have HT : Hid (takenB n = false) := HN.out.all (by omega)
      clear HN hm
      go_wp2
      go_ret
      rw [HT.out]
      exact ⟨rfl, hb⟩
end Go.Proofs.YtanfebccenfffaaDoor

namespace Go.Proofs.YtanfebccenfffaaDoor
open Go.RowKit

/-- The elem's block and the result's, still zero. -/
def Box6 (u : World) (s : Nat) (e : El) : Prop := u.heap[s]? = some (.cells #[.int .i64 e.first, .int .i64 e.second, .int .i64 e.third, .bool e.varies] 44) ∧ u.heap[s + 1]? = some (.cells #[.int .i64 0, .int .i64 0, .int .i64 0, .bool false] 44)
theorem Box6.sizes {u : World} {s : Nat} {e : El} (h : Box6 u s e) : s < u.heap.size ∧ s + 1 < u.heap.size := ⟨(Array.getElem?_eq_some_iff.1 h.1).1, (Array.getElem?_eq_some_iff.1 h.2).1⟩
theorem Box6.elem {u : World} {s : Nat} {e : El} (h : Box6 u s e) : u.cell? ⟨s, 0, none⟩ = some (.int .i64 e.first) ∧ u.cell? ⟨s, 1, none⟩ = some (.int .i64 e.second) ∧ u.cell? ⟨s, 2, none⟩ = some (.int .i64 e.third) ∧ u.cell? ⟨s, 3, none⟩ = some (.bool e.varies) :=
  ⟨cell_of_row _ _ 0 _ _ _ h.1, cell_of_row _ _ 1 _ _ _ h.1, cell_of_row _ _ 2 _ _ _ h.1, cell_of_row _ _ 3 _ _ _ h.1⟩
theorem Box6.result {u : World} {s : Nat} {e : El} (h : Box6 u s e) : u.cell? ⟨s + 1, 0, none⟩ = some (.int .i64 0) ∧ u.cell? ⟨s + 1, 1, none⟩ = some (.int .i64 0) ∧ u.cell? ⟨s + 1, 2, none⟩ = some (.int .i64 0) ∧ u.cell? ⟨s + 1, 3, none⟩ = some (.bool false) ∧ ∀ j, u.frozen? ⟨s + 1, j, none⟩ = false :=
  ⟨cell_of_row _ _ 0 _ _ _ h.2, cell_of_row _ _ 1 _ _ _ h.2, cell_of_row _ _ 2 _ _ _ h.2, cell_of_row _ _ 3 _ _ _ h.2, fun j => by simp [World.frozen?, h.2]⟩
theorem Box6.below {u u' : World} {s : Nat} {e : El} (h : Box6 u s e) (hb : Below u.heap.size u u') : Box6 u' s e := by
  have hf := h.sizes
  exact ⟨by rw [hb.block _ hf.1]; exact h.1, by rw [hb.block _ hf.2]; exact h.2⟩
theorem box6_new (w : World) (e : El) : Box6 ((w.alloc (.cells #[.int .i64 e.first, .int .i64 e.second, .int .i64 e.third, .bool e.varies] 44)).alloc (.cells #[.int .i64 0, .int .i64 0, .int .i64 0, .bool false] 44)) w.heap.size e :=
  ⟨by rw [Below.heap_alloc _ _ _ (by simp)]; exact heap_alloc_new w _, heap_alloc2_new w _ _⟩
theorem below_new6 (w : World) (e : El) : Below w.heap.size w ((w.alloc (.cells #[.int .i64 e.first, .int .i64 e.second, .int .i64 e.third, .bool e.varies] 44)).alloc (.cells #[.int .i64 0, .int .i64 0, .int .i64 0, .bool false] 44)) :=
  ((Below.refl w.heap.size w).alloc (Nat.le_refl _) _).alloc (by simp) _

theorem free_taken1 {es : List Ent} {m : Int} (h : takenB m = true) : freeE es m = false := by unfold freeE; rw [h]; rfl
theorem free_has {es : List Ent} {m : Int} (h : takenB m = false) : freeE es m = !hasQ es (q1 m) := by
  unfold freeE hasQ q1
  rw [h, Bool.not_false, Bool.true_and, List.not_any_eq_all_not]
  rfl

def B1i (w : World) (e : El) (es : List Ent) (N : Int) (i : Value) (wr : World) : Prop := ∃ m : Int, i = .int .i64 m ∧ 0 ≤ m ∧ m ≤ 65536 ∧ step1 es (65536 - m).toNat m = N ∧ Box6 wr w.heap.size e ∧ Below w.heap.size w wr

set_option maxRecDepth 100000 in
set_option maxHeartbeats 8000000 in
theorem behind1i_any {w : World} {B : Nat} {v : Value} {es : List Ent} {e : El} (hE : Ents w B v es) (hn : es.length ≤ 1048576) (hF : ∀ e ∈ es, e.el.first ≤ 65535) (h0 : 0 ≤ e.first) (h1 : e.first ≤ 65535) (hm : Held w 2 marksF) :
    Calls Tryd.prog 87 #[v, .agg #[.int .i64 e.first, .int .i64 e.second, .int .i64 e.third, .bool e.varies], .int .i64 1] w fun x w' => x = .returned (elV ⟨step1 es (65535 - e.first).toNat (e.first + 1), 32, 2, false⟩) ∧ Below w.heap.size w w' := by
  have HB : Hid (Below _ _ _) := below_new6 w e
  have HX : Hid (Box6 _ _ _) := box6_new w e
  have HE : Hid (Ents _ _ _ _) := hE
  have HM : Hid (Held w 2 marksF) := hm
  have P := fun n w => plainElem_any n w
  obtain ⟨N, HS⟩ : ∃ N, Hid (step1 es (65535 - e.first).toNat (e.first + 1) = N) := ⟨_, rfl⟩
  rw [HS.out]
  have HS2 : Hid (step1 es (65536 - (e.first + 1)).toNat (e.first + 1) = N) := by
    show _ = _
    rw [show 65536 - (e.first + 1) = 65535 - e.first by omega]; exact HS.out
  clear hE HS hm
  go_enter Tryd.func87, Tryd.ntmps87
  go_wp2_with fail
  go_loopw [7] (fun i wr => B1i w e es N i wr) (fun i _ => (65536 - intOf i).toNat)
  case atStart => exact ⟨e.first + 1, rfl, by omega, by omega, HS2.out, HX.out, HB.out⟩
  case round =>
    clear HS2 HX HB
    obtain ⟨m, rfl, m0, m1, hs, hx, hb⟩ := hrel
    have HS : Hid (step1 es (65536 - m).toNat m = N) := hs
    have IB := isBase_any m wr (HM.out.below hb HM.out.lt)
    have HX : Hid (Box6 _ _ _) := hx
    have HB : Hid (Below _ _ _) := hb
    have HE2 : Hid (Ents _ _ _ _) := HE.out.below hb
    clear hs hx hb HE HM
    go_wp2_with fail
    refine IB.mono ?_
    rintro e' w2 ⟨rfl, b2⟩
    have HX2 : Hid (Box6 _ _ _) := HX.out.below b2
    have HB2 : Hid (Below _ _ _) := HB.out.trans (b2.mono HB.out.size)
    have H1 := has1_any m (HE2.out.below b2) hn
    clear IB b2 HX HB HE2
    cases ht : takenB m
    · cases hf : hasQ es (q1 m)
      · rw [hf] at H1
        have hfree : freeE es m = true := by rw [free_has ht, hf]; rfl
        have hN : m = N := (step1_free hfree).symm.trans HS.out
        subst hN
        clear HS hF hfree hf ht
        go_wp2_with fail
        refine H1.mono ?_
        rintro e' w3 ⟨rfl, b3⟩
        have HX3 : Hid (Box6 _ _ _) := HX2.out.below b3
        have HB3 : Hid (Below _ _ _) := HB2.out.trans (b3.mono HB2.out.size)
        clear H1 b3 HX2 HB2
        go_wp2_with fail
        refine (P _ _).mono ?_
        rintro e' w4 ⟨rfl, b4⟩
        have hx4 := HX3.out.below b4
        have c4 := HB3.out.trans (b4.mono HB3.out.size)
        obtain ⟨q0, q1, q2, q3, f0⟩ := hx4.result
        obtain ⟨n0, n1⟩ := hx4.sizes
        clear P hx4 HX3 HB3 b4
        go_wp2
        refine bodyPost_ret (v := .agg #[.int .i64 m, .int .i64 32, .int .i64 2, .bool false]) ?_ rfl ⟨rfl, below_res4 c4 _ _ _ _⟩
        rw [results_cell1 rfl]
        go_simp
      · rw [hf] at H1
        have hfree : freeE es m = false := by rw [free_has ht, hf]; rfl
        have hm2 : m < 65536 := by
          by_cases c : m = 65536
          · subst c; rw [free_top hF] at hfree; cases hfree
          · omega
        have HS3 : Hid (step1 es (65536 - (m + 1)).toNat (m + 1) = N) := (step1_next hfree hm2).symm.trans HS.out
        clear HS hF hfree hf ht P
        go_wp2_with fail
        refine H1.mono ?_
        rintro e' w3 ⟨rfl, b3⟩
        have HX3 : Hid (Box6 _ _ _) := HX2.out.below b3
        have HB3 : Hid (Below _ _ _) := HB2.out.trans (b3.mono HB2.out.size)
        clear H1 b3 HX2 HB2
        go_wp2
        exact ⟨⟨m + 1, by go_num, by omega, by omega, HS3.out, HX3.out, HB3.out⟩, by simp [intOf]; omega⟩
    · have hfree : freeE es m = false := free_taken1 ht
      have hm2 : m < 65536 := by
        by_cases c : m = 65536
        · subst c; rw [free_top hF] at hfree; cases hfree
        · omega
      have HS3 : Hid (step1 es (65536 - (m + 1)).toNat (m + 1) = N) := (step1_next hfree hm2).symm.trans HS.out
      clear HS hF hfree ht P H1
      go_wp2
      exact ⟨⟨m + 1, by go_num, by omega, by omega, HS3.out, HX2.out, HB2.out⟩, by simp [intOf]; omega⟩

def B2i (w : World) (e : El) (es : List Ent) (N : Int) (i : Value) (wr : World) : Prop := ∃ m : Int, i = .int .i64 m ∧ 0 ≤ m ∧ m ≤ 1000 ∧ Left (fun n => hasQ es (q2 e n)) nx2 999 m N ∧ Box6 wr w.heap.size e ∧ Below w.heap.size w wr

theorem hasQ_le {es : List Ent} {q : El → Bool} (h : hasQ es q = true) : ∃ x ∈ es, q x.el = true := List.any_eq_true.1 h

set_option maxRecDepth 100000 in
set_option maxHeartbeats 8000000 in
theorem behind2i_any {w : World} {B : Nat} {v : Value} {es : List Ent} {e : El} (hE : Ents w B v es) (hn : es.length ≤ 1048576) (hF : ∀ x ∈ es, x.el.second ≤ 999) (h0 : 0 ≤ e.second) (h1 : e.second ≤ 999) :
    Calls Tryd.prog 87 #[v, .agg #[.int .i64 e.first, .int .i64 e.second, .int .i64 e.third, .bool e.varies], .int .i64 2] w fun x w' => x = .returned (elV (behind2 es e)) ∧ Below w.heap.size w w' := by
  have HB : Hid (Below _ _ _) := below_new6 w e
  have HX : Hid (Box6 _ _ _) := box6_new w e
  have HE : Hid (Ents _ _ _ _) := hE
  unfold behind2
  obtain ⟨N, HS⟩ : ∃ N, Hid (stepN (fun n => hasQ es (q2 e n)) nx2 1001 (e.second + 1) = N) := ⟨_, rfl⟩
  rw [HS.out]
  have HS2 : Hid (Left (fun n => hasQ es (q2 e n)) nx2 999 (e.second + 1) N) := ⟨1001, by omega, HS.out⟩
  clear hE HS
  go_enter Tryd.func87, Tryd.ntmps87
  go_wp2_with fail
  go_loopw [8] (fun i wr => B2i w e es N i wr) (fun i _ => (1000 - intOf i).toNat)
  case atStart => exact ⟨e.second + 1, rfl, by omega, by omega, HS2.out, HX.out, HB.out⟩
  case round =>
    clear HS2 HX HB
    obtain ⟨m, rfl, m0, m1, hs, hx, hb⟩ := hrel
    have HS : Hid (Left _ _ _ _ _) := hs
    have H2 := has2_any e.first m (HE.out.below hb) hn
    obtain ⟨e0, e1, e2, e3⟩ := hx.elem
    have HX : Hid (Box6 _ _ _) := hx
    have HB : Hid (Below _ _ _) := hb
    clear hs hx hb HE
    cases hf : hasQ es (q2' e.first m)
    · rw [hf] at H2
      have hN : m = N := HS.out.last hf
      subst hN
      clear HS hF hf
      go_wp2_with fail
      refine H2.mono ?_
      rintro e' w3 ⟨rfl, b3⟩
      have hx3 := HX.out.below b3
      have c3 := HB.out.trans (b3.mono HB.out.size)
      clear H2 b3 HX HB e0 e1 e2 e3
      obtain ⟨e0, e1, e2, e3⟩ := hx3.elem
      obtain ⟨q0, q1, q2, q3, f0⟩ := hx3.result
      obtain ⟨n0, n1⟩ := hx3.sizes
      clear hx3
      go_wp2
      refine bodyPost_ret (v := .agg #[.int .i64 e.first, .int .i64 m, .int .i64 2, .bool false]) ?_ rfl ⟨rfl, below_res4 c3 _ _ _ _⟩
      rw [results_cell1 rfl]
      go_simp
    · rw [hf] at H2
      have hm2 : m ≤ 999 := by
        obtain ⟨x, hx, hq⟩ := hasQ_le hf
        unfold q2' at hq
        rw [Bool.and_eq_true] at hq
        have := hF x hx
        have := eq_of_beq hq.2
        omega
      have HS3 : Hid (Left (fun n => hasQ es (q2 e n)) nx2 999 (m + 1) N) := HS.out.next hf hm2 (by unfold nx2; omega)
      clear HS hF hf
      go_wp2_with fail
      refine H2.mono ?_
      rintro e' w3 ⟨rfl, b3⟩
      have HX3 : Hid (Box6 _ _ _) := HX.out.below b3
      have HB3 : Hid (Below _ _ _) := HB.out.trans (b3.mono HB.out.size)
      clear H2 b3 HX HB e0 e1 e2 e3
      go_wp2
      exact ⟨⟨m + 1, by go_num, by omega, by omega, HS3.out, HX3.out, HB3.out⟩, by simp [intOf]; omega⟩

/-- Where the program stands at 8 it goes on by one. -/
def B3i (w : World) (e : El) (es : List Ent) (N : Int) (i : Value) (wr : World) : Prop := ∃ m : Int, i = .int .i64 m ∧ 0 ≤ m ∧ m ≤ 100 ∧ Left (fun n => hasQ es (q3 e n)) nx3 99 (if m = 8 then 9 else m) N ∧ Box6 wr w.heap.size e ∧ Below w.heap.size w wr

set_option maxRecDepth 100000 in
set_option maxHeartbeats 8000000 in
theorem behind3i_any {w : World} {B : Nat} {v : Value} {es : List Ent} {e : El} (hE : Ents w B v es) (hn : es.length ≤ 1048576) (hF : ∀ x ∈ es, x.el.third ≤ 99) (h0 : 0 ≤ e.third) (h1 : e.third ≤ 99) :
    Calls Tryd.prog 87 #[v, .agg #[.int .i64 e.first, .int .i64 e.second, .int .i64 e.third, .bool e.varies], .int .i64 3] w fun x w' => x = .returned (elV (behind3 es e)) ∧ Below w.heap.size w w' := by
  have HB : Hid (Below _ _ _) := below_new6 w e
  have HX : Hid (Box6 _ _ _) := box6_new w e
  have HE : Hid (Ents _ _ _ _) := hE
  unfold behind3
  obtain ⟨N, HS⟩ : ∃ N, Hid (stepN (fun n => hasQ es (q3 e n)) nx3 1001 (nx3 e.third) = N) := ⟨_, rfl⟩
  rw [HS.out]
  have HS2 : Hid (Left (fun n => hasQ es (q3 e n)) nx3 99 (if e.third + 1 = 8 then 9 else e.third + 1) N) := by
    refine ⟨1001, by split <;> omega, ?_⟩
    rw [← HS.out]
    congr 1
    unfold nx3
    split <;> omega
  clear hE HS
  go_enter Tryd.func87, Tryd.ntmps87
  go_wp2_with fail
  go_loopw [9] (fun i wr => B3i w e es N i wr) (fun i _ => (100 - intOf i).toNat)
  case atStart => exact ⟨e.third + 1, rfl, by omega, by omega, HS2.out, HX.out, HB.out⟩
  case round =>
    clear HS2 HX HB
    obtain ⟨m, rfl, m0, m1, hs, hx, hb⟩ := hrel
    have HS : Hid (Left _ _ _ _ _) := hs
    have H3 := has3_any e.first e.second m (HE.out.below hb) hn
    obtain ⟨e0, e1, e2, e3⟩ := hx.elem
    have HX : Hid (Box6 _ _ _) := hx
    have HB : Hid (Below _ _ _) := hb
    clear hs hx hb HE
    by_cases h8 : m = 8
    · subst h8
      have HS3 : Hid (Left (fun n => hasQ es (q3 e n)) nx3 99 (if (9 : Int) = 8 then 9 else 9) N) := by
        have := HS.out
        rw [if_pos rfl] at this
        rw [if_neg (by omega)]
        exact this
      clear HS hF H3
      go_wp2
      exact ⟨⟨9, by go_num, by omega, by omega, HS3.out, HX.out, HB.out⟩, by simp [intOf]⟩
    · have h8' : (m == 8) = false := by simpa using h8
      have hs4 := HS.out
      rw [if_neg h8] at hs4
      cases hf : hasQ es (q3' e.first e.second m)
      · rw [hf] at H3
        have hN : m = N := hs4.last hf
        subst hN
        clear HS hs4 hF hf h8
        go_wp2_with fail
        refine H3.mono ?_
        rintro e' w3 ⟨rfl, b3⟩
        have hx3 := HX.out.below b3
        have c3 := HB.out.trans (b3.mono HB.out.size)
        clear H3 b3 HX HB e0 e1 e2 e3
        obtain ⟨e0, e1, e2, e3⟩ := hx3.elem
        obtain ⟨q0, q1, q2, q3, f0⟩ := hx3.result
        obtain ⟨n0, n1⟩ := hx3.sizes
        clear hx3
        go_wp2
        refine bodyPost_ret (v := .agg #[.int .i64 e.first, .int .i64 e.second, .int .i64 m, .bool false]) ?_ rfl ⟨rfl, below_res4 c3 _ _ _ _⟩
        rw [results_cell1 rfl]
        go_simp
      · rw [hf] at H3
        have hm2 : m ≤ 99 := by
          obtain ⟨x, hx, hq⟩ := hasQ_le hf
          unfold q3' at hq
          rw [Bool.and_eq_true] at hq
          have := hF x hx
          have := eq_of_beq hq.2
          omega
        have HS3 : Hid (Left (fun n => hasQ es (q3 e n)) nx3 99 (if m + 1 = 8 then 9 else m + 1) N) := by
          have h5 := hs4.next hf hm2 (nx3_lt m)
          have e5 : nx3 m = (if m + 1 = 8 then 9 else m + 1) := by
            unfold nx3
            split <;> omega
          rw [e5] at h5
          exact h5
        clear HS hs4 hF hf h8
        go_wp2_with fail
        refine H3.mono ?_
        rintro e' w3 ⟨rfl, b3⟩
        have HX3 : Hid (Box6 _ _ _) := HX.out.below b3
        have HB3 : Hid (Below _ _ _) := HB.out.trans (b3.mono HB.out.size)
        clear H3 b3 HX HB e0 e1 e2 e3
        go_wp2
        exact ⟨⟨m + 1, by go_num, by omega, by omega, HS3.out, HX3.out, HB3.out⟩, by simp [intOf]; omega⟩

theorem behindI_any {w : World} {B : Nat} {v : Value} {st : RS} {n : Nat} (hE : Ents w B v st.es) (hi : RInv st) (h : n = 1 ∨ n = 2 ∨ n = 3) (hm : Held w 2 marksF) :
    Calls Tryd.prog 87 #[v, .agg #[.int .i64 st.last.first, .int .i64 st.last.second, .int .i64 st.last.third, .bool st.last.varies], .int .i64 (n : Int)] w fun x w' => x = .returned (elV (behindE st.es st.last n)) ∧ Below w.heap.size w w' := by
  obtain ⟨h1, h2, h3⟩ := rulesOk_whole hi.good
  rcases h with rfl | rfl | rfl
  · exact behind1i_any hE (by omega) (fun e he => (h3 e he).2.1.2) hi.f0 hi.f1 hm
  · exact behind2i_any hE (by omega) (fun e he => (h3 e he).2.2.1.2) hi.s0 hi.s1
  · exact behind3i_any hE (by omega) (fun e he => (h3 e he).2.2.2.1.2) hi.t0 hi.t1
end Go.Proofs.YtanfebccenfffaaDoor

namespace Go.Proofs.YtanfebccenfffaaDoor
open Go.RowKit

theorem putIn_noreset {st : RS} {lev : Nat} {l : List Int} (h : runesOk l = true) (hl : lev ≠ 0) (h2 : st.reset = false) : putIn st lev l = .error 3 := by
  unfold putIn; rw [if_neg (by simp [h]), if_neg hl, if_pos h2]
theorem putI_twice {st : RS} {lev : Nat} {l : List Int} (h : runesOk l = true) (hl : lev ≠ 0) (h2 : st.reset = true) (h3 : 0 ≤ atE st.es l) : putIn st lev l = .error 4 := by
  unfold putIn; rw [if_neg (by simp [h]), if_neg hl, if_neg (by simp [h2]), if_pos h3]
theorem putIn_full {st : RS} {lev : Nat} {l : List Int} (h : runesOk l = true) (hl : lev ≠ 0) (h2 : st.reset = true) (h3 : ¬ 0 ≤ atE st.es l) (h4 : rulesOk (st.es ++ [⟨l, behindE st.es st.last lev⟩]) st.lv = false) : putIn st lev l = .error 5 := by
  unfold putIn; rw [if_neg (by simp [h]), if_neg hl, if_neg (by simp [h2]), if_neg h3, if_neg (by simp [h4])]
theorem putI_put {st : RS} {lev : Nat} {l : List Int} (h : runesOk l = true) (hl : lev ≠ 0) (h2 : st.reset = true) (h3 : ¬ 0 ≤ atE st.es l) (h4 : rulesOk (st.es ++ [⟨l, behindE st.es st.last lev⟩]) st.lv = true) : putIn st lev l = .ok { st with es := st.es ++ [⟨l, behindE st.es st.last lev⟩], last := behindE st.es st.last lev } := by
  unfold putIn; rw [if_neg (by simp [h]), if_neg hl, if_neg (by simp [h2]), if_neg h3, if_pos h4]

theorem own_over {u : World} {B b : Nat} {v : Value} {l : List Int} (h : Ints u B v l) (hb : b + 1 ≤ B) : v.ownBlock = none ∨ v.ownBlock ≠ some b := by
  cases e : v.ownBlock with
  | none => exact .inl rfl
  | some g =>
    refine .inr fun c => ?_
    have := (World.ownsRow.lt h g e).1
    cases c
    omega

/-- elemBehind with the reader's last elem, and what the reader holds behind it. -/
theorem behindK {w u : World} {b T n : Nat} {l : List UInt8} {st : RS} {vE : Value} (h : RdM w u b T l st vE) (hi : RInv st) (hn : n = 1 ∨ n = 2 ∨ n = 3) :
    Calls Tryd.prog 87 #[vE, .agg #[.int .i64 st.last.first, .int .i64 st.last.second, .int .i64 st.last.third, .bool st.last.varies], .int .i64 (n : Int)] u fun x u' => x = .returned (elV (behindE st.es st.last n)) ∧ Below u.heap.size u u' ∧ (u'.cell? ⟨b, 4, none⟩ = some (.int .i64 st.last.first) ∧ u'.cell? ⟨b, 5, none⟩ = some (.int .i64 st.last.second) ∧ u'.cell? ⟨b, 6, none⟩ = some (.int .i64 st.last.third) ∧ u'.cell? ⟨b, 7, none⟩ = some (.bool st.last.varies)) ∧ ∀ j, u'.frozen? ⟨b, j, none⟩ = false :=
  (behindI_any h.en.ents hi hn h.tab.1).mono fun _ _ ⟨h1, h2⟩ => by
    obtain ⟨_, _, _, _, c4, c5, c6, c7, _, fz⟩ := (h.step h2).cells
    exact ⟨h1, h2, ⟨c4, c5, c6, c7⟩, fz⟩

set_option maxRecDepth 100000 in
set_option maxHeartbeats 16000000 in
theorem put_any {w u : World} {b T lev : Nat} {l : List UInt8} {st : RS} {vE : Value} (h : RdM w u b T l st vE) (hl : l.length ≤ 1048576) (hi : RInv st) (hlev : lev = 1 ∨ lev = 2 ∨ lev = 3) :
    Calls Tryd.prog 75 #[.pointer (some ⟨b, 0, none⟩), .int .i64 (lev : Int)] u fun e u' => ∃ c, e = .returned (.int .i64 c) ∧ Out w u' b (wdR l) (putW st lev (wdB l)) c := by
  have NW := nextWd_any h hl
  have hx : (wdB l).size ≤ 1048576 := Nat.le_trans (wd_len l).1 hl
  have HI : Hid (RInv st) := hi
  have hil := hi.len
  have hl0 : lev ≠ 0 := by omega
  have HN : Hid (jOk (wdB l) = false → putW st lev (wdB l) = .error 2) := fun c => putW_no c
  have HY : Hid (jOk (wdB l) = true → putW st lev (wdB l) = putIn st lev (jR (wdB l)) ∧ runesOk (jR (wdB l)) = true) := fun c => by
    have e : jR (wdB l) = nD (Dec.decT (wdB l).size (wdB l)).1 := by unfold jR; rw [if_pos c]
    rw [e]
    refine ⟨putW_yes c, ?_⟩
    unfold jOk at c
    rw [Bool.and_eq_true] at c
    exact c.2
  clear h hi
  generalize putW st lev (wdB l) = R at *
  generalize wdR l = l2 at *
  have JR := fun (u : World) (ht : Tabs3 u) => joinedR_any (wdB l) hx u ht
  generalize jR (wdB l) = r at *
  generalize hj : jOk (wdB l) = jo at *
  generalize wdB l = x at *
  clear hj
  cases jo
  · have HE : Hid (R = .error 2) := HN.out rfl
    clear HN HY
    go_enter Tryd.func75, Tryd.ntmps75
    go_wp2_with fail
    refine NW.mono ?_
    rintro e u1 ⟨rfl, hm⟩
    clear NW
    have J1 := JR _ hm.tab
    have HM : Hid (RdM _ _ _ _ _ _ _) := hm
    clear JR hm
    go_wp2_with fail
    refine J1.mono ?_
    rintro e u2 ⟨v2, rfl, i2, b2⟩
    have HB : Hid (Below _ _ _) := (HM.out.step b2).be
    clear J1 HM
    go_wp2
    go_ret
    exact ⟨2, rfl, .inl ⟨HE.out, by decide, HB.out⟩⟩
  · obtain ⟨hp, hro⟩ := HY.out rfl
    have hrl := runesOk_len hro
    clear HN HY
    cases hre : st.reset
    · have HE : Hid (R = .error 3) := hp.trans (putIn_noreset hro hl0 hre)
      clear hp hro
      go_enter Tryd.func75, Tryd.ntmps75
      go_wp2_with fail
      refine NW.mono ?_
      rintro e u1 ⟨rfl, hm⟩
      clear NW
      have J1 := JR _ hm.tab
      have HM : Hid (RdM _ _ _ _ _ _ _) := hm
      clear JR hm
      go_wp2_with fail
      refine J1.mono ?_
      rintro e u2 ⟨v2, rfl, i2, b2⟩
      have hm2 := HM.out.step b2
      obtain ⟨c0, c1, c2, c3, c4, c5, c6, c7, c8, fz⟩ := hm2.cells
      rw [hre] at c8
      have HB : Hid (Below _ _ _) := hm2.be
      clear J1 HM hm2
      go_wp2
      go_ret
      exact ⟨3, rfl, .inl ⟨HE.out, by decide, HB.out⟩⟩
    · go_enter Tryd.func75, Tryd.ntmps75
      go_wp2_with fail
      refine NW.mono ?_
      rintro e u1 ⟨rfl, hm0⟩
      clear NW
      have hm := hm0.up
      have J1 := JR _ hm.tab
      have HM : Hid (RdM _ _ _ _ _ _ _) := hm
      clear JR hm hm0
      go_wp2_with fail
      refine J1.mono ?_
      rintro e u2 ⟨v2, rfl, i2, b2⟩
      obtain ⟨va, vm, vc, rfl⟩ : ∃ a m c, v2 = .slice a m c := by
        rcases i2.form with ⟨rfl, _⟩ | ⟨_, _, rfl, _, _⟩
        · exact ⟨_, _, _, rfl⟩
        · exact ⟨_, _, _, rfl⟩
      have hm2 := HM.out.step b2
      have E := entry_any hm2.en.ents i2 hil.1 (by omega) hil.2
      obtain ⟨c0, c1, c2, c3, c4, c5, c6, c7, c8, fz⟩ := hm2.cells
      rw [hre] at c8
      have hlt := hm2.lt
      have hb1 := HM.out.lt
      have HM2 : Hid (RdM _ _ _ _ _ _ _) := hm2
      have I2 : Hid (Ints _ _ _ _) := i2
      clear J1 HM hm2 i2 b2
      cases ho : entOf st.es r with
      | some x1 =>
        rw [ho] at E
        have h0 : 0 ≤ atE st.es r := by
          have := entOf_some (es := st.es) (l := r)
          rw [ho] at this
          exact of_decide_eq_true this.symm
        have HE : Hid (R = .error 4) := hp.trans (putI_twice hro hl0 hre h0)
        unfold elRes elOf elV at E
        simp only [Option.getD_some, Option.isSome_some] at E
        clear hp ho hro h0
        go_wp2_with fail
        refine E.mono ?_
        rintro e u3 ⟨rfl, b3⟩
        have HB : Hid (Below _ _ _) := (HM2.out.step b3).be
        have hsz := b3.size
        clear E HM2 c0 c1 c2 c3 c4 c5 c6 c7 c8 fz I2
        go_wp2
        go_ret
        exact ⟨4, rfl, .inl ⟨HE.out, by decide, HB.out.alloc (by omega) _⟩⟩
      | none =>
        rw [ho] at E
        have h0 : ¬ 0 ≤ atE st.es r := by rw [atE_of_none ho]; omega
        unfold elRes elOf elV at E
        simp only [Option.getD_none, Option.isSome_none] at E
        clear ho
        go_wp2_with fail
        refine E.mono ?_
        rintro e u3 ⟨rfl, b3⟩
        have hal := (Below.refl u3.heap.size u3).alloc (Nat.le_refl _) (.cells #[.int .i64 0, .int .i64 0, .int .i64 0, .bool false] 44)
        have HM4 : Hid (RdM _ _ _ _ _ _ _) := (HM2.out.step b3).step hal
        have I4 : Hid (Ints _ _ _ _) := (I2.out.below b3).below hal
        clear E HM2 c0 c1 c2 c3 c4 c5 c6 c7 c8 fz I2 b3 hal
        have BH := fun (u : World) (hb : Below (u3.alloc (.cells #[.int .i64 0, .int .i64 0, .int .i64 0, .bool false] 44)).heap.size (u3.alloc (.cells #[.int .i64 0, .int .i64 0, .int .i64 0, .bool false] 44)) u) => behindK (HM4.out.step hb) HI.out hlev
        obtain ⟨nb, HNB⟩ : ∃ nb, Hid (behindE st.es st.last lev = nb) := ⟨_, rfl⟩
        rw [HNB.out] at BH
        unfold elV at BH
        obtain ⟨c0, c1, c2, c3, c4, c5, c6, c7, c8, fz⟩ := HM4.out.cells
        rw [hre] at c8
        have hlt4 := HM4.out.lt
        have KP : Hid (∀ u5 u6, Below (u3.alloc (.cells #[.int .i64 0, .int .i64 0, .int .i64 0, .bool false] 44)).heap.size (u3.alloc (.cells #[.int .i64 0, .int .i64 0, .int .i64 0, .bool false] 44)) u5 → Below u5.heap.size u5 u6 → RdM w (setLs u6 b nb) b u1.heap.size l2 { st with last := nb } vE ∧ Ints (setLs u6 b nb) u1.heap.size (.slice va vm vc) r) := fun u5 u6 h5 h6 =>
          ⟨((HM4.out.step h5).step h6).setLast nb, World.ownsRow.kept ((I4.out.below h5).below h6) (setLs_grown u6 b nb) (own_over ((I4.out.below h5).below h6) hb1)⟩
        go_upto_region 9 with fail
        go_cut [5] from 33 to 46 (fun s5 wx => s5 = .slice va vm vc ∧ RdM w wx b u1.heap.size l2 { st with last := nb } vE ∧ Ints wx u1.heap.size (.slice va vm vc) r)
        case first =>
          go_region_with (go_at_call 87; refine (BH _ (by repeat (first | exact Below.refl _ _ | refine Below.drew ?_))).mono ?_; rintro e u6 ⟨rfl, b6, ⟨k4, k5, k6, k7⟩, kf⟩)
          all_goals
            have hK := KP.out _ _ (by repeat (first | exact Below.refl _ _ | refine Below.drew ?_)) b6
            go_wp2_with fail
            go_meet
            case rel => exact ⟨rfl, hK⟩
        case rest =>
          obtain ⟨rfl, hmc, hIc⟩ := hcut
          clear BH KP c0 c1 c2 c3 c4 c5 c6 c7 c8 fz HM4 I4 hlt4
          obtain ⟨xs, hxl, h1, h2, h3, h4, h5⟩ := hmc.en
          obtain ⟨c0, c1, c2, c3, c4, c5, c6, c7, c8, fz⟩ := hmc.cells
          simp only at c2 c3 c4 c5 c6 c7 c8
          rw [hre] at c8
          have hltc := hmc.lt
          have hlen := (rulesOk_whole HI.out.good).1
          have HMc : Hid (RdM _ _ _ _ _ _ _) := hmc
          have HIc : Hid (Ints _ _ _ _) := hIc
          have H2 : Hid _ := h2
          have H3 : Hid _ := h3
          have H5 : Hid _ := h5
          have KG : Hid (∀ u9 : World, (wc.alloc (.cells #[.slice va vm vc, .int .i64 nb.first, .int .i64 nb.second, .int .i64 nb.third, .bool nb.varies] 46)).grownBy u9 vE.ownBlock → u9.cell? ⟨b, 1, none⟩ = some vE ∧ ∀ j, u9.frozen? ⟨b, j, none⟩ = false) := fun u9 hg => by
            have hb9 : u9.heap[b]? = some (.cells (rdC l2 vE { st with last := nb }) 67) := by
              rw [hg.block b (by simp; omega) (fun c => by have := (World.ownsRow.lt h1 b c.symm).1; omega), Below.heap_alloc _ _ _ hltc]; exact HMc.out.blk
            exact ⟨cell_of_row _ _ 1 _ _ _ hb9, fun j => by simp [World.frozen?, hb9]⟩
          obtain ⟨it, hit, hzz, hz1, hz2⟩ := info_parts info_ent
          clear hmc hIc h2 h3 h4 h5 HI
          have h1a : ∀ u : World, u.heap = (wc.alloc (.cells #[.slice va vm vc, .int .i64 nb.first, .int .i64 nb.second, .int .i64 nb.third, .bool nb.varies] 46)).heap → u.ownsRow (b + 1) 46 5 vE st.es.length (entAll xs st.es) := fun u hu => by
            have := h1.alloc (o := (.cells #[.slice va vm vc, .int .i64 nb.first, .int .i64 nb.second, .int .i64 nb.third, .bool nb.varies] 46))
            unfold World.ownsRow at this ⊢
            rw [hu]; exact this
          have PUT : Hid (∀ (uA u9 : World) (g9 cap9 : Nat), uA = wc.alloc (.cells #[.slice va vm vc, .int .i64 nb.first, .int .i64 nb.second, .int .i64 nb.third, .bool nb.varies] 46) → uA.grownBy u9 vE.ownBlock → u9.ownsRow (b + 1) 46 5 (.slice (some ⟨g9, 0, none⟩) (st.es.length + 1) cap9) (st.es.length + 1) (entAll xs st.es ++ entC (.slice va vm vc) nb) → RdM w (u9.setCell ⟨b, 1, none⟩ (.slice (some ⟨g9, 0, none⟩) (st.es.length + 1) cap9)) b u9.heap.size l2 { st with es := st.es ++ [⟨r, nb⟩], last := nb } (.slice (some ⟨g9, 0, none⟩) (st.es.length + 1) cap9)) := fun uA u9 g9 cap9 hA hg ho => by
            subst hA
            have hal := (Below.refl wc.heap.size wc).alloc (Nat.le_refl _) (.cells #[.slice va vm vc, .int .i64 nb.first, .int .i64 nb.second, .int .i64 nb.third, .bool nb.varies] 46)
            exact RdM.put (st := { st with last := nb }) (HMc.out.step hal) hxl (h1a _ rfl) (fun k e he => by obtain ⟨z, hz, hzi⟩ := H2.out k e he; exact ⟨z, hz, hzi.below hal⟩) H3.out H5.out (HIc.out.below hal) (Nat.le_refl _) hb1 hg ho
          go_upto_region 10 with fail
          go_cut [5] from 47 to 63 (fun _ wx => ∃ g9 cap9 T9, RdM w wx b T9 l2 { st with es := st.es ++ [⟨r, nb⟩], last := nb } (.slice (some ⟨g9, 0, none⟩) (st.es.length + 1) cap9))
          case first =>
            go_region_law (refine step_append_lies _ rfl (.tmp 52) (.tmp 59) 37 rfl (b + 1) 46 it _ 5 56 Tryd.underlying37 hit hzz hz1 hz2 rfl (by decide) _ _ _ (by simp [Act.eval]) (h1a _ rfl) ⟨wc.heap.size, 0, none⟩ 1 1 (entC (.slice va vm vc) nb) (by simp [Act.eval]) rfl (cells5_new _ _ _ _) (fun z hz => by simp [entC] at hz; rcases hz with rfl | rfl | rfl | rfl | rfl <;> rfl) (by omega) (by unfold maxLen; omega) (by omega) (by simp; omega) (wc.heap.size + 1) (by simp) ?_; intro g9 cap9 w9 ho9 hg9 hgg9 hlt9; have k1 := (KG.out w9 (grown_drew hg9)).1; have kf := (KG.out w9 (grown_drew hg9)).2)
            all_goals
              have hK := PUT.out _ _ g9 cap9 rfl (grown_drew hg9) ho9
              go_wp2_with fail
              go_meet
              case rel => exact ⟨g9, cap9, _, hK⟩
          case rest =>
            obtain ⟨g9, cap9, T9, hm9⟩ := hcut
            have hr9 : ∀ e ∈ st.es ++ [⟨r, nb⟩], e.runes.length ≤ 1048576 := fun e he => by
              rcases List.mem_append.1 he with h | h
              · exact hil.2 e h
              · simp at h; subst h; exact Nat.le_trans hrl (by omega)
            have GR := implGood3_any (sh := st.sh) (lv := st.lv) hm9.en.ents hr9 hm9.tab
            clear PUT KG HMc HIc H2 H3 H5 h1 h1a hr9 c0 c1 c2 c3 c4 c5 c6 c7 c8 fz hltc hxl
            obtain ⟨c0, c1, c2, c3, c4, c5, c6, c7, c8, fz⟩ := hm9.cells
            simp only at c1 c2 c3
            have HM9 : Hid (RdM _ _ _ _ _ _ _) := hm9
            have hlt9 := hm9.lt
            clear hm9
            cases hg : rulesOk (st.es ++ [⟨r, nb⟩]) st.lv
            · have HE : Hid (R = .error 5) := hp.trans (putIn_full hro hl0 hre (by omega) (by rw [HNB.out]; exact hg))
              rw [hg] at GR
              go_wp2_with fail
              refine GR.mono ?_
              rintro e u10 ⟨rfl, b10⟩
              have HB : Hid (Below _ _ _) := (HM9.out.step b10).be
              clear GR HM9 c0 c1 c2 c3 c4 c5 c6 c7 c8 fz
              go_wp2
              go_ret
              exact ⟨5, rfl, .inl ⟨HE.out, by decide, HB.out⟩⟩
            · have HE : Hid (R = .ok { st with es := st.es ++ [⟨r, nb⟩], last := nb }) := by
                show _ = _
                rw [← HNB.out]
                exact hp.trans (putI_put hro hl0 hre (by omega) (by rw [HNB.out]; exact hg))
              rw [hg] at GR
              go_wp2_with fail
              refine GR.mono ?_
              rintro e u10 ⟨rfl, b10⟩
              have HS : Hid (RdM _ _ _ _ _ _ _) := HM9.out.step b10
              clear GR HM9 c0 c1 c2 c3 c4 c5 c6 c7 c8 fz
              go_wp2
              go_ret
              exact ⟨0, rfl, .inr ⟨_, _, _, HE.out, rfl, HS.out⟩⟩
end Go.Proofs.YtanfebccenfffaaDoor
