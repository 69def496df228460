/- Texts of mine laid together: IBase, IElemOf, Rn4, INorm2, Read, ImplD, DGood, IApartT, IReader. -/
import Derived.Test.YtanfebccenfffaaDoorMR5
import Derived.Test.YtanfebccenfffaaDoorSRule3
import Derived.Test.YtanfebccenfffaaDoorNorm2
import Derived.Test.YtanfebccenfffaaDoorMR1
import Derived.Test.YtanfebccenfffaaDoorMR3
import Derived.WalkSmall
import Derived.WalkKit
import Derived.Test.YtanfebccenfffaaDoorGood
import Derived.Test.YtanfebccenfffaaDoorMR4
import Derived.Test.YtanfebccenfffaaDoorPRead
namespace Go.Proofs.YtanfebccenfffaaDoor
open Go.RowKit

set_option maxRecDepth 100000 in
set_option maxHeartbeats 4000000 in
theorem baseElem_any (r : Int) (h0 : 0 ≤ r) (h1 : r ≤ 1114111) (hs : ¬ (55296 ≤ r ∧ r ≤ 57343)) (w : World) (hm : Held w 2 marksF) :
    Calls Tryd.prog 55 #[.int .i64 r] w fun e w' => e = .returned (elRes (one3 (base r))) ∧ Below w.heap.size w w' := by
  have hba := (Below.refl w.heap.size w).alloc (Nat.le_refl _) (.cells #[.int .i64 0, .int .i64 0, .int .i64 0, .bool false] 44)
  have hx : Zel (w.alloc (.cells #[.int .i64 0, .int .i64 0, .int .i64 0, .bool false] 44)) w.heap.size := heap_alloc_new _ _
  have W := weight_any r h0 h1 hs _ (hm.below hba hm.lt)
  clear hm hs h0 h1
  rcases base_cases r with hb | ⟨e, hb⟩ | ⟨e, f, hb⟩
  · rw [hb] at W ⊢
    unfold wtV at W
    have HO : Hid (one3 [] = none) := rfl
    have ta : ∀ w, (Instr.typeAssert (.iface 112 (.agg #[])) 99 96 true).run Tryd.prog w = .ok (.tuple #[.agg #[.int .i64 0, .int .i64 0, .int .i64 0, .bool false], .bool false]) w := fun _ => by kernel_rfl
    clear hb
    go_enter Tryd.func55, Tryd.ntmps55
    go_wp2_with fail
    refine W.mono ?_
    rintro e' w2 ⟨rfl, b2⟩
    have hb4 := hba.trans (b2.mono hba.size)
    obtain ⟨hlt, ⟨q0, q1, q2, q3⟩, f0⟩ := (hx.below b2).facts
    clear W hx b2 hba
    go_wp2
    refine bodyPost_ret (v := .tuple #[.agg #[.int .i64 0, .int .i64 0, .int .i64 0, .bool false], .bool false]) ?_ rfl ⟨ret_e0 HO.out, below_res1a hb4 _ _ _ _ _⟩
    rw [results_cell_tmp rfl]
    go_simp

  · have hf := base_first hb
    rw [hb] at W ⊢
    unfold wtV at W
    have ta : ∀ w, (Instr.typeAssert (.iface 96 (.agg #[.int .i64 e.first, .int .i64 e.second, .int .i64 e.third, .bool e.varies])) 99 96 true).run Tryd.prog w = .ok (.tuple #[.agg #[.int .i64 e.first, .int .i64 e.second, .int .i64 e.third, .bool e.varies], .bool true]) w := fun _ => by kernel_rfl
    clear hb
    by_cases hz : 0 < e.first
    · have HO : Hid (one3 [e] = some e) := one3_pos hz
      go_enter Tryd.func55, Tryd.ntmps55
      go_wp2_with fail
      refine W.mono ?_
      rintro e' w2 ⟨rfl, b2⟩
      have hb4 := hba.trans (b2.mono hba.size)
      obtain ⟨hlt, ⟨q0, q1, q2, q3⟩, f0⟩ := (hx.below b2).facts
      clear W hx b2 hba
      go_wp2
      refine bodyPost_ret (v := .tuple #[.agg #[.int .i64 e.first, .int .i64 e.second, .int .i64 e.third, .bool e.varies], .bool true]) ?_ rfl ⟨ret_e HO.out, below_res1a hb4 _ _ _ _ _⟩
      rw [results_cell_tmp rfl]
      go_simp
    · have HO : Hid (one3 [e] = none) := one3_zero hf hz
      go_enter Tryd.func55, Tryd.ntmps55
      go_wp2_with fail
      refine W.mono ?_
      rintro e' w2 ⟨rfl, b2⟩
      have hb4 := hba.trans (b2.mono hba.size)
      obtain ⟨hlt, ⟨q0, q1, q2, q3⟩, f0⟩ := (hx.below b2).facts
      clear W hx b2 hba
      go_wp2
      refine bodyPost_ret (v := .tuple #[.agg #[.int .i64 0, .int .i64 0, .int .i64 0, .bool false], .bool false]) ?_ rfl ⟨ret_e0 HO.out, below_res1a hb4 _ _ _ _ _⟩
      rw [results_cell_tmp rfl]
      go_simp

  · rw [hb] at W ⊢
    unfold wtV at W
    have HO : Hid (one3 [e, f] = none) := rfl
    have ta : ∀ w, (Instr.typeAssert (.iface 116 (.agg #[.int .i64 e.first, .int .i64 e.second, .int .i64 e.third, .bool e.varies, .int .i64 f.first, .int .i64 f.second, .int .i64 f.third, .bool f.varies])) 99 96 true).run Tryd.prog w = .ok (.tuple #[.agg #[.int .i64 0, .int .i64 0, .int .i64 0, .bool false], .bool false]) w := fun _ => by kernel_rfl
    clear hb
    go_enter Tryd.func55, Tryd.ntmps55
    go_wp2_with fail
    refine W.mono ?_
    rintro e' w2 ⟨rfl, b2⟩
    have hb4 := hba.trans (b2.mono hba.size)
    obtain ⟨hlt, ⟨q0, q1, q2, q3⟩, f0⟩ := (hx.below b2).facts
    clear W hx b2 hba
    go_wp2
    refine bodyPost_ret (v := .tuple #[.agg #[.int .i64 0, .int .i64 0, .int .i64 0, .bool false], .bool false]) ?_ rfl ⟨ret_e0 HO.out, below_res1a hb4 _ _ _ _ _⟩
    rw [results_cell_tmp rfl]
    go_simp
end Go.Proofs.YtanfebccenfffaaDoor

namespace Go.Proofs.YtanfebccenfffaaDoor
open Go.RowKit

theorem below_res4a {w wr : World} (h : Below w.heap.size w wr) (x y z t : Value) (o : Obj) : Below w.heap.size w (((((wr.setCell ⟨w.heap.size + 1, 0, none⟩ x).setCell ⟨w.heap.size + 1, 1, none⟩ y).setCell ⟨w.heap.size + 1, 2, none⟩ z).setCell ⟨w.heap.size + 1, 3, none⟩ t).alloc o) :=
  (below_res4 h x y z t).alloc (below_res4 h x y z t).size _

theorem runesOk_good2 {l : List Int} (h : runesOk l = true) : ∀ x ∈ l, 0 ≤ x ∧ x ≤ 1114111 ∧ ¬ (55296 ≤ x ∧ x ≤ 57343) := by
  unfold runesOk at h
  rw [Bool.and_eq_true, Bool.and_eq_true] at h
  intro x hx
  have := goodB_true ((okR_true h.2.1).2 x hx)
  omega

set_option maxRecDepth 100000 in
set_option maxHeartbeats 8000000 in
theorem implElemOf_any {w : World} {B B' : Nat} {v : Value} {es : List Ent} {sh : Bool} {lv : Int} {vl : Value} {l : List Int} (hE : Ents w B v es) (hL : Ints w B' vl l) (hn : es.length ≤ 1048576) (hl : l.length ≤ 1048576) (hr : ∀ e ∈ es, e.runes.length ≤ 1048576) (ht : Tabs3 w) :
    Calls Tryd.prog 21 #[.agg #[v, .bool sh, .int .i64 lv], vl] w fun e w' => e = .returned (elRes (elemOk es lv l)) ∧ Below w.heap.size w w' := by
  have hba := ((Below.refl w.heap.size w).alloc (Nat.le_refl _) (.cells #[v, .bool sh, .int .i64 lv] 39)).alloc (by simp) (.cells #[.int .i64 0, .int .i64 0, .int .i64 0, .bool false] 44)
  have HX0 : Hid (Box4 _ _ _ _ _ _) := box4_new w v sh lv
  have HB : Hid (Below _ _ _) := hba
  have HE : Hid (Ents _ _ _ _) := hE.below hba
  have HL : Hid (Ints _ _ _ _) := hL.below hba
  have HT : Hid (Tabs3 _) := ht.below hba
  have GR := implGood3_any (sh := sh) (lv := lv) HE.out hr HT.out
  clear hba hE hL ht
  cases hro : rulesOk es lv
  · rw [hro] at GR
    have HF : Hid (elemOk es lv l = none) := by show _ = _; unfold elemOk; rw [if_neg (by simp [hro])]
    clear hr HE HL HT hro
    go_enter Tryd.func21, Tryd.ntmps21
    go_wp2_with fail
    refine GR.mono ?_
    rintro e' w2 ⟨rfl, b2⟩
    have hx := HX0.out.below b2
    have b4 := HB.out.trans (b2.mono HB.out.size)
    clear GR HX0 HB b2
    obtain ⟨⟨n1, n2⟩, _, ⟨q0, q1, q2, q3⟩, f0⟩ := hx.facts
    clear hx
    go_wp2
    refine bodyPost_ret (v := .tuple #[.agg #[.int .i64 0, .int .i64 0, .int .i64 0, .bool false], .bool false]) ?_ rfl ⟨ret_e0 HF.out, below_res4 b4 _ _ _ _⟩
    rw [results_cell_tmp rfl]
    go_simp
  · rw [hro] at GR
    go_enter Tryd.func21, Tryd.ntmps21
    go_wp2_with fail
    refine GR.mono ?_
    rintro e' w2 ⟨rfl, b2⟩
    have HX2 : Hid (Box4 _ _ _ _ _ _) := HX0.out.below b2
    have HB2 : Hid (Below _ _ _) := HB.out.trans (b2.mono HB.out.size)
    have HE2 : Hid (Ents _ _ _ _) := HE.out.below b2
    have HL2 : Hid (Ints _ _ _ _) := HL.out.below b2
    have HT2 : Hid (Tabs3 _) := HT.out.below b2
    have RN := joined_any hl HL2.out HT2.out
    clear GR HX0 HB HE HL HT b2
    cases hru : runesOk l
    · rw [hru] at RN
      have HF : Hid (elemOk es lv l = none) := by show _ = _; unfold elemOk; rw [if_neg (by simp [hru])]
      clear hr HE2 HL2 HT2 hro hru
      go_wp2_with fail
      refine RN.mono ?_
      rintro e' w3 ⟨rfl, b3⟩
      have hx := HX2.out.below b3
      have b4 := HB2.out.trans (b3.mono HB2.out.size)
      clear RN HX2 HB2 b3
      obtain ⟨⟨n1, n2⟩, _, ⟨q0, q1, q2, q3⟩, f0⟩ := hx.facts
      clear hx
      go_wp2
      refine bodyPost_ret (v := .tuple #[.agg #[.int .i64 0, .int .i64 0, .int .i64 0, .bool false], .bool false]) ?_ rfl ⟨ret_e0 HF.out, below_res4 b4 _ _ _ _⟩
      rw [results_cell_tmp rfl]
      go_simp
    · rw [hru] at RN
      have HF : Hid (elemOk es lv l = elemE es l) := by show _ = _; unfold elemOk; rw [if_pos ⟨hro, hru⟩]
      have hg := runesOk_good2 hru
      have hll : 1 ≤ l.length := by
        unfold runesOk at hru
        rw [Bool.and_eq_true] at hru
        exact (of_decide_eq_true hru.1).1
      clear hro hru
      go_wp2_with fail
      refine RN.mono ?_
      rintro e' w3 ⟨rfl, b3⟩
      have HX : Hid (Box4 _ _ _ _ _ _) := HX2.out.below b3
      have HB3 : Hid (Below _ _ _) := HB2.out.trans (b3.mono HB2.out.size)
      have HL3 : Hid (Ints _ _ _ _) := HL2.out.below b3
      have HT3 : Hid (Tabs3 _) := HT2.out.below b3
      have EL := entry_any (HE2.out.below b3) HL3.out hn hl hr
      clear RN HX2 HB2 HE2 HL2 HT2 b3 hr
      obtain ⟨_, ⟨p0, p1, p2⟩, _, _⟩ := HX.out.facts
      cases ho : entOf es l with
      | some e =>
        rw [ho] at EL
        have HO : Hid (elemOk es lv l = some e) := HF.out.trans (elemE_of ho)
        unfold elRes elOf elV at EL
        simp only [Option.getD_some, Option.isSome_some] at EL
        clear HF ho hg HL3 HT3
        go_wp2_with fail
        refine EL.mono ?_
        rintro e' w4 ⟨rfl, b4⟩
        have hx := HX.out.below b4
        have b5 := HB3.out.trans (b4.mono HB3.out.size)
        clear EL HX HB3 b4 p0 p1 p2
        obtain ⟨⟨n1, n2⟩, _, ⟨q0, q1, q2, q3⟩, f0⟩ := hx.facts
        clear hx
        go_wp2
        refine bodyPost_ret (v := .tuple #[.agg #[.int .i64 e.first, .int .i64 e.second, .int .i64 e.third, .bool e.varies], .bool true]) ?_ rfl ⟨ret_e HO.out, below_res4a b5 _ _ _ _ _⟩
        rw [results_cell_tmp rfl]
        go_simp
      | none =>
        rw [ho] at EL
        unfold elRes elOf elV at EL
        simp only [Option.getD_none, Option.isSome_none] at EL
        have ha := atE_of_none ho
        clear ho
        by_cases h1 : l.length = 1
        · obtain ⟨r, rfl⟩ : ∃ r, l = [r] := List.length_eq_one_iff.1 h1
          obtain ⟨g, cap, rfl⟩ := ints_some HL3.out (by simp)
          have HO : Hid (elemOk es lv [r] = one3 (base r)) := HF.out.trans (elemE_base ha)
          have hr3 := hg r (by simp)
          clear HF ha hg hll h1 hl
          simp only [List.length_singleton] at *
          go_wp2_with fail
          refine EL.mono ?_
          rintro e' w4 ⟨rfl, b4⟩
          have hal := (Below.refl w4.heap.size w4).alloc (Nat.le_refl _) (.cells #[.int .i64 0, .int .i64 0, .int .i64 0, .bool false] 44)
          have HX4 : Hid (Box4 _ _ _ _ _ _) := (HX.out.below b4).below hal
          have HB4 := HB3.out.trans (b4.mono HB3.out.size)
          have HB5 : Hid (Below _ _ _) := HB4.trans (hal.mono HB4.size)
          have c0 : w4.cell? ⟨g, 0, none⟩ = some (.int .i64 r) := by
            have h3 := World.ownsRow.cellAt (n := 1) (HL3.out.below b4) 0 (by omega)
            rw [h3]; rfl
          have glt : g < w4.heap.size := (World.ownsRow.lt (HL3.out.below b4) g rfl).2
          have BS := baseElem_any r hr3.1 hr3.2.1 hr3.2.2 _ ((HT3.out.below b4).below hal).1
          clear EL HX HB3 HB4 b4 p0 p1 p2 HL3 HT3 hal
          obtain ⟨o, HO2⟩ : ∃ o, Hid (one3 (base r) = o) := ⟨_, rfl⟩
          rw [HO2.out] at BS
          have HO3 : Hid (elemOk es lv [r] = o) := HO.out.trans HO2.out
          clear HO HO2
          unfold elRes elV at BS
          go_wp2_with fail
          refine BS.mono ?_
          rintro e' w5 ⟨rfl, b5⟩
          have hx := HX4.out.below b5
          have b6 := HB5.out.trans (b5.mono HB5.out.size)
          clear BS HX4 HB5 b5 c0 glt
          obtain ⟨⟨n1, n2⟩, _, ⟨q0, q1, q2, q3⟩, f0⟩ := hx.facts
          clear hx
          go_wp2
          refine bodyPost_ret (v := elRes o) ?_ rfl ⟨by rw [HO3.out], below_res4 b6 _ _ _ _⟩
          rw [results_cell_tmp rfl]
          unfold elRes elV
          go_simp
        · have HO : Hid (elemOk es lv l = none) := HF.out.trans (elemE_far ha h1)
          obtain ⟨a, c, rfl⟩ : ∃ a c, vl = .slice a l.length c := by
            rcases HL3.out.form with ⟨rfl, rfl⟩ | ⟨g, cap, rfl, _, _⟩
            · exact ⟨_, _, rfl⟩
            · exact ⟨_, _, rfl⟩
          have h2 : (1 : Int) < (l.length : Int) := by omega
          clear HF ha hg HL3 HT3 h1
          go_wp2_with fail
          refine EL.mono ?_
          rintro e' w4 ⟨rfl, b4⟩
          have hx := HX.out.below b4
          have b5 := HB3.out.trans (b4.mono HB3.out.size)
          clear EL HX HB3 b4 p0 p1 p2
          obtain ⟨⟨n1, n2⟩, _, ⟨q0, q1, q2, q3⟩, f0⟩ := hx.facts
          clear hx
          go_wp2
          refine bodyPost_ret (v := .tuple #[.agg #[.int .i64 0, .int .i64 0, .int .i64 0, .bool false], .bool false]) ?_ rfl ⟨ret_e0 HO.out, below_res4a b5 _ _ _ _ _⟩
          rw [results_cell_tmp rfl]
          go_simp
end Go.Proofs.YtanfebccenfffaaDoor

namespace Go.Proofs.YtanfebccenfffaaDoor

/-- A text's runes, taken apart. -/
def rn4 (s : ByteArray) : List Int := nD (Dec.decT s.size s).1
/-- Whether a text is one of chapter 4's. -/
def ok4 (s : ByteArray) : Bool := decide (s.size ≤ 200 ∧ (rn4 s).length ≤ 200)
end Go.Proofs.YtanfebccenfffaaDoor

namespace Go.Proofs.YtanfebccenfffaaDoor
open Go.RowKit

theorem okD_eq {zs : List Int} (h : okR zs = true) : okD zs = decide ((nD zs).length ≤ 200) := by
  unfold okD
  rw [h, Bool.true_and, nD_len]

set_option maxRecDepth 100000 in
set_option maxHeartbeats 2000000 in
theorem implD_any {w : World} {B : Nat} {v : Value} {zs : List Int} (_hz : zs.length ≤ 1048576) (hI : Ints w B v zs) (hm : Held w 2 marksF) (hc : Held w 0 capF) (ho : Held w 1 othF) :
    Calls Tryd.prog 7 #[v] w fun e w' => ∃ v', e = .returned (.tuple #[v', .bool (okD zs)]) ∧ Ints w' w.heap.size v' (ansD zs) ∧ Below w.heap.size w w' := by
  have F := fullD_any hI hm hc ho
  have hlen := fullA_len zs
  unfold ansD
  clear hI hm hc ho
  cases hok : okR zs
  · rw [hok] at F
    rw [okD_no hok, if_neg (by simp)]
    clear hok hlen
    go_enter Tryd.func7, Tryd.ntmps7
    go_wp2_with fail
    refine F.mono ?_
    rintro e w1 ⟨v1, rfl, h1, h2⟩
    clear F
    go_wp2
    go_ret2
    exact ⟨_, rfl, ⟨rfl, .inl ⟨rfl, rfl⟩⟩, h2⟩
  · rw [hok] at F
    unfold fullA at F hlen
    rw [okD_eq hok]
    rw [hok, if_pos rfl] at F hlen
    clear hok
    generalize nD zs = ds at *
    by_cases hl : ds.length ≤ 200
    · have hl2 : ¬ (200 : Int) < (ds.length : Int) := by omega
      rw [decide_eq_true hl, if_pos rfl]
      go_enter Tryd.func7, Tryd.ntmps7
      go_wp2_with fail
      refine F.mono ?_
      rintro e w1 ⟨v1, rfl, h1, h2⟩
      clear F
      rcases h1.form with ⟨rfl, rfl⟩ | ⟨g, cap, rfl, _, _⟩
      · go_wp2
        go_ret2
        exact ⟨_, rfl, h1, h2⟩
      · go_wp2
        go_ret2
        exact ⟨_, rfl, h1, h2⟩
    · have hl2 : (200 : Int) < (ds.length : Int) := by omega
      rw [decide_eq_false hl, if_neg (by simp)]
      go_enter Tryd.func7, Tryd.ntmps7
      go_wp2_with fail
      refine F.mono ?_
      rintro e w1 ⟨v1, rfl, h1, h2⟩
      clear F
      rcases h1.form with ⟨rfl, rfl⟩ | ⟨g, cap, rfl, _, _⟩
      · exact absurd (by simp) hl
      · go_wp2
        go_ret2
        exact ⟨_, rfl, ⟨rfl, .inl ⟨rfl, rfl⟩⟩, h2⟩
end Go.Proofs.YtanfebccenfffaaDoor

namespace Go.Proofs.YtanfebccenfffaaDoor
open Go.RowKit

theorem own_low {w : World} {B B' e size n : Nat} {v : Value} {xs : List Value} (h : w.ownsRow B' e size v n xs) (hB : B ≤ B') : w.ownsRow B e size v n xs := by
  obtain ⟨h1, h2⟩ := h
  refine ⟨h1, ?_⟩
  rcases h2 with h2 | ⟨g, cap, cur, a, b, c⟩
  · exact .inl h2
  · exact .inr ⟨g, cap, cur, a, by omega, c⟩

def ReadRel (s : ByteArray) (w : World) (v b nx : Value) (wr : World) : Prop :=
  ∃ (p q f bad : Nat) (acc : List Int), b = .int .i64 bad ∧ nx = .int .i64 q ∧ wr.heap[w.heap.size]? = some (.stringIter s p) ∧ Ints wr (w.heap.size + 1) v acc ∧ Below w.heap.size w wr ∧
    p ≤ q ∧ q ≤ s.size ∧ (∀ j, p ≤ j → j < q → 128 ≤ Dec.bt s j ∧ Dec.bt s j ≤ 191) ∧
    acc ++ (Dec.decT f (s.extract q s.size)).1 = (Dec.decT s.size s).1 ∧ bad + (Dec.decT f (s.extract q s.size)).2 = (Dec.decT s.size s).2 ∧ s.size ≤ q + f ∧ acc.length ≤ q ∧ bad ≤ q

theorem extract_all (s : ByteArray) : s.extract 0 s.size = s := by simp

set_option maxRecDepth 100000 in
set_option maxHeartbeats 2000000 in
theorem readText_any (s : ByteArray) (w : World) (hs : s.size ≤ 1073741824) :
    Calls Tryd.prog 116 #[.string s] w fun e w' => ∃ v, e = .returned (.tuple #[v, .int .i64 ((Dec.decT s.size s).2 : Int)]) ∧ Ints w' w.heap.size v (Dec.decT s.size s).1 ∧ Below w.heap.size w w' := by
  obtain ⟨i0, hi, hz0, hz1, hz2⟩ := info_parts info_int
  go_enter Tryd.func116, Tryd.ntmps116
  go_wp2
  go_loopw [4, 5, 6] (fun v b nx wr => ReadRel s w v b nx wr) (fun _ _ _ wr => s.size - wr.iterPos w.heap.size)
  case atStart => exact ⟨0, 0, s.size, 0, [], rfl, rfl, World.iter_heap w s 0, World.ownsRow_nil _ _ _ _, (Below.refl _ _).alloc (Nat.le_refl _) _, Nat.le_refl _, Nat.zero_le _, fun j _ h => by omega, by rw [extract_all]; simp, by rw [extract_all]; simp, by omega, by simp, Nat.le_refl _⟩
  case round =>
    obtain ⟨p, q, f, bad, acc, rfl, rfl, hit, hown, hbw, hpq, hqs, hct, hA, hB, hf, hal, hbl⟩ := hrel
    have HA : Hid _ := hA
    have HB : Hid _ := hB
    have HC : Hid _ := hct
    clear hA hB hct
    have hpos0 := iterPos_of hit
    unfold Ints at hown
    by_cases hp : p < s.size
    · have hnx : ∀ ty, (Instr.next (.pointer (some ⟨w.heap.size, 0, none⟩)) true ty).run Tryd.prog wr = _ := fun ty => Lib.run_next_any_at wr w.heap.size s p ty hit hp
      have hd1 := decode_le s p
      have hit2 := Lib.iterAt_heap wr w.heap.size s p (p + (Utf8.decode s p).2) hit
      have hbw2 := Lib.below_iterAt hbw (k := w.heap.size) (Nat.le_refl _) s (p + (Utf8.decode s p).2)
      have hown2 := ownsRow_iterAt hown (k := w.heap.size) (by omega) s (p + (Utf8.decode s p).2)
      obtain ⟨W1, hW1⟩ : ∃ W1, W1 = wr.iterAt w.heap.size s (p + (Utf8.decode s p).2) := ⟨_, rfl⟩
      rw [← hW1] at hnx hit2 hbw2 hown2
      have hBlt := lt_of_block hit2
      clear hW1 hit hown hbw
      by_cases hlt : p < q
      · have hw1 := Dec.decode_cont s p hp (HC.out p (Nat.le_refl _) hlt).1 (HC.out p (Nat.le_refl _) hlt).2
        have HW : Hid _ := hw1
        clear hw1
        go_wp2
        go_roundw
        case rel => exact ⟨p + (Utf8.decode s p).2, q, f, bad, acc, rfl, rfl, hit2, hown2, hbw2, by rw [HW.out]; omega, hqs, fun j j1 j2 => HC.out j (by rw [HW.out] at j1; omega) j2, HA.out, HB.out, hf, hal, hbl⟩
        case measure => rw [iterPos_of hit2, hpos0, HW.out]; omega
      · have hqp : q = p := by omega
        subst hqp
        have hex := Dec.size_extract s q
        have hd := Dec.decode_one s q hp
        obtain ⟨r, n, ok, HO⟩ : ∃ r n ok, Hid (Dec.one (s.extract q s.size) = (r, n, ok)) := ⟨_, _, _, rfl⟩
        have hn := Dec.one_le (s.extract q s.size) (by omega)
        have hcont := Dec.one_cont (s.extract q s.size)
        rw [HO.out] at hn hd hcont
        have HD : Hid _ := hd
        have HT : Hid _ := hcont
        clear hd hcont
        have hn1 : 1 ≤ n := hn.1
        have hn2 : n ≤ (s.extract q s.size).size := hn.2
        clear hn
        have O := fun w => front_any (s.extract q s.size) (by omega) (by unfold maxLen; omega) w
        rw [HO.out] at O
        obtain ⟨f', rfl⟩ : ∃ f', f = f' + 1 := ⟨f - 1, by omega⟩
        have hds := decT_step (by omega) HO.out f'
        rw [Dec.extract_extract] at hds
        have HA1 := HA.out
        have HB1 := HB.out
        rw [hds] at HA1 HB1
        have HA2 : Hid _ := HA1
        have HB2 : Hid _ := HB1
        have HEX : Hid _ := hex
        have hn3 : q + n ≤ s.size := by omega
        clear HA1 HB1 hds HA HB hex hn2
        have hsz := hbw2.size
        cases ok
        all_goals
          go_wp2_with (first
            | (go_at_call 119; refine (O _).mono ?_; rintro e w' ⟨rfl, rfl⟩)
            | (at_builtin; refine wpList_append_own _ rfl _ _ 23 rfl (w.heap.size + 1) 3 i0 (.int .i64 0) 1 8 Tryd.underlying23 hi hz0 hz1 hz2 rfl (by decide) _ _ _ rfl (hown2.alloc _) ⟨_, 0, none⟩ 1 1 [.int .i64 ((Utf8.decode s q).1 : Int)] rfl rfl (cell_one_new _ _ _) (fun x hx => by simp at hx; subst hx; rfl) (by unfold maxLen; omega) (by omega) (by simp; omega) ?_; intro v' w3 hown' hgrow3 _))
          have hit3 : w3.heap[w.heap.size]? = some (.stringIter s (q + (Utf8.decode s q).2)) := by
            rw [hgrow3.block w.heap.size (by simp; omega) (fun h => by have := (hown2.lt _ h.symm).1; omega), Below.heap_alloc _ _ _ hBlt]; exact hit2
          have hbw3 : Below w.heap.size w w3 := Below.grown (hbw2.alloc (by omega) _) hgrow3 (by simp; omega) (fun j hj => by have := (hown2.lt _ hj).1; omega)
          have hI := Ints.snoc hown'
          have HA3 := HA2.out
        · have hd1 : ((Utf8.decode s q).1 : Int) = r := HD.out.1
          have hd2 : (Utf8.decode s q).2 = 1 := HD.out.2
          rw [hd1] at hI
          have HB3 : bad + ((Dec.decT f' (s.extract (q + n) s.size)).2 + 1) = _ := HB2.out
          refine ⟨⟨q + (Utf8.decode s q).2, q + n, f', bad + 1, acc ++ [r], by go_num, by go_num, hit3, hI, hbw3, by omega, hn3, ?_, by simpa using HA3, by omega, by omega, by simp; omega, by omega⟩, by rw [iterPos_of hit3, hpos0]; omega⟩
          intro j j1 j2
          have := HT.out trivial (j - q) (by omega) (by show j - q < n; omega)
          rw [Dec.bt_extract s q (j - q) (by omega), show q + (j - q) = j by omega] at this
          exact this
        · have hd1 : ((Utf8.decode s q).1 : Int) = r := HD.out.1
          have hd2 : (Utf8.decode s q).2 = n := HD.out.2
          rw [hd1] at hI
          have HB3 : bad + ((Dec.decT f' (s.extract (q + n) s.size)).2 + 0) = _ := HB2.out
          exact ⟨⟨q + (Utf8.decode s q).2, q + n, f', bad, acc ++ [r], by go_num, by go_num, hit3, hI, hbw3, by omega, hn3, fun j j1 j2 => by omega, by simpa using HA3, by omega, by omega, by simp; omega, by omega⟩, by rw [iterPos_of hit3, hpos0]; omega⟩
    · have hnx : ∀ ty, (Instr.next (.pointer (some ⟨w.heap.size, 0, none⟩)) true ty).run Tryd.prog wr = _ := fun ty => Lib.run_next_end_at wr w.heap.size s p ty hit hp
      have hq0 : (s.extract q s.size).size = 0 := by rw [Dec.size_extract]; omega
      have HA2 := HA.out
      have HB2 := HB.out
      rw [Dec.decT_end _ _ hq0] at HA2 HB2
      have HA3 : Hid _ := HA2
      have HB3 : Hid _ := HB2
      clear HA2 HB2 HA HB hq0
      go_wp2
      go_ret2
      have HA4 := HA3.out
      have HB4 := HB3.out
      simp only [List.append_nil, Nat.add_zero] at HA4 HB4
      refine ⟨_, ret_v (by rw [HB4]), ?_, hbw⟩
      rw [← HA4]
      exact own_low hown (by omega)
end Go.Proofs.YtanfebccenfffaaDoor

namespace Go.Proofs.YtanfebccenfffaaDoor
open Go.RowKit

set_option maxRecDepth 100000 in
set_option maxHeartbeats 1000000 in
theorem implDecode_any (s : ByteArray) (w : World) (hs : s.size ≤ 200) :
    Calls Tryd.prog 112 #[.string s] w fun e w' => ∃ v, e = .returned (.tuple #[v, .bool true]) ∧ Ints w' w.heap.size v (Dec.decT s.size s).1 ∧ Below w.heap.size w w' := by
  have D := fun w => readText_any s w (by omega)
  go_enter Tryd.func112, Tryd.ntmps112
  go_wp2_with (go_at_call 116; refine (D _).mono ?_; rintro e w' ⟨v, rfl, hI, hb⟩)
  go_ret2
  exact ⟨_, rfl, hI, hb⟩

set_option maxRecDepth 100000 in
set_option maxHeartbeats 1000000 in
theorem implDecode_no (s : ByteArray) (w : World) (hs : 200 < s.size) (hm : s.size ≤ 1048576) :
    Calls Tryd.prog 112 #[.string s] w fun e w' => e = .returned (.tuple #[.slice none 0 0, .bool false]) ∧ w' = w := by
  go_enter Tryd.func112, Tryd.ntmps112
  go_wp2
  go_ret2
  exact ⟨rfl, rfl⟩
end Go.Proofs.YtanfebccenfffaaDoor

namespace Go.Proofs.YtanfebccenfffaaDoor
open Go.RowKit

set_option maxHeartbeats 1000000 in
theorem decode_good (s : ByteArray) (p : Nat) : (Utf8.decode s p).1 ≤ 1114111 ∧ ((Utf8.decode s p).1 < 55296 ∨ 57343 < (Utf8.decode s p).1) := by
  have hb : ∀ k, (s.get! (p + k)).toNat < 256 := fun k => (s.get! (p + k)).toNat_lt
  have h0 := hb 0; have h1 := hb 1; have h2 := hb 2; have h3 := hb 3
  simp only [Utf8.decode]
  repeat' split
  all_goals simp_all [Utf8.runeError, Utf8.valid]
  all_goals omega

theorem one_good (t : ByteArray) (h : 0 < t.size) : goodB (Dec.one t).1 = true := by
  have hd := (Dec.decode_one t 0 h).1
  rw [extract_all] at hd
  have hg := decode_good t 0
  rw [← hd]
  exact decide_eq_true (by omega)

theorem dec_good : ∀ (f : Nat) (t : ByteArray), ∀ x ∈ (Dec.decT f t).1, goodB x = true := by
  intro f
  induction f with
  | zero => intro t x hx; simp [Dec.decT] at hx
  | succ f ih =>
    intro t x hx
    simp only [Dec.decT] at hx
    split at hx
    · rename_i h0
      simp only [List.mem_cons] at hx
      rcases hx with rfl | hx
      · exact one_good t h0
      · exact ih _ x hx
    · simp at hx
end Go.Proofs.YtanfebccenfffaaDoor

namespace Go.Proofs.YtanfebccenfffaaDoor
open Go.RowKit

theorem okR_dec {x : ByteArray} (h : x.size ≤ 200) : okR (Dec.decT x.size x).1 = true := decide_eq_true ⟨Nat.le_trans (Dec.decT_len x.size x (Nat.le_refl _)).1 h, dec_good x.size x⟩

/-- The runes of a text, where they are not too many. -/
def aR (x : ByteArray) : List Int := if ok4 x = true then rn4 x else []

theorem aR_len (x : ByteArray) : (aR x).length ≤ 200 := by
  unfold aR
  split
  · rename_i h
    exact (of_decide_eq_true h).2
  · simp

set_option maxRecDepth 100000 in
set_option maxHeartbeats 4000000 in
theorem apartT_any (x : ByteArray) (hx : x.size ≤ 1048576) (u : World) (ht : Tabs3 u) :
    Calls Tryd.prog 99 #[.string x] u fun e u' => ∃ v, e = .returned (.tuple #[v, .bool (ok4 x)]) ∧ Ints u' u.heap.size v (aR x) ∧ Below u.heap.size u u' := by
  by_cases h : x.size ≤ 200
  · have D := fun w => implDecode_any x w h
    have hok := okR_dec h
    have hlen := (Dec.decT_len x.size x (Nat.le_refl _)).1
    have N := fun (u' : World) (v : Value) (hb : Below u.heap.size u u') (hI : Ints u' u.heap.size v (Dec.decT x.size x).1) => implD_any (by omega) hI (ht.below hb).1 (ht.below hb).2.1 (ht.below hb).2.2
    have ho4 : okD (Dec.decT x.size x).1 = ok4 x := by
      rw [okD_eq hok]
      unfold ok4 rn4
      rw [decide_eq_decide]
      omega
    have han : ansD (Dec.decT x.size x).1 = aR x := by
      unfold ansD aR
      rw [ho4]
      rfl
    rw [ho4, han] at N
    generalize (Dec.decT x.size x).1 = ds at *
    generalize ok4 x = ok at *
    generalize aR x = l at *
    clear hok ht ho4 han
    go_enter Tryd.func99, Tryd.ntmps99
    go_wp2_with fail
    refine (D _).mono ?_
    rintro e w1 ⟨v1, rfl, i1, b1⟩
    clear D
    have N1 := N _ _ b1 i1
    clear N i1
    go_wp2_with fail
    refine N1.mono ?_
    rintro e w2 ⟨v2, rfl, i2, b2⟩
    clear N1
    go_wp2
    go_ret2
    exact ⟨_, rfl, ints_low2 i2 b1.size, b1.trans (b2.mono b1.size)⟩
  · have D := fun w => implDecode_no x w (by omega) hx
    have h1 : ok4 x = false := decide_eq_false fun c => h c.1
    have h2 : aR x = [] := by unfold aR; rw [h1]; rfl
    rw [h1, h2]
    clear h1 h2 ht
    go_enter Tryd.func99, Tryd.ntmps99
    go_wp2_with fail
    refine (D _).mono ?_
    rintro e w1 ⟨rfl, rfl⟩
    clear D
    go_wp2
    go_ret2
    exact ⟨_, rfl, ⟨rfl, .inl ⟨rfl, rfl⟩⟩, Below.refl _ _⟩
end Go.Proofs.YtanfebccenfffaaDoor

namespace Go.Proofs.YtanfebccenfffaaDoor
open Go.RowKit

set_option maxRecDepth 100000 in
set_option maxHeartbeats 2000000 in
theorem cut_any (t : List UInt8) (ht : t.length ≤ 1048576) (w : World) :
    Calls Tryd.prog 84 #[.string ⟨t.toArray⟩, .string ⟨#[32]⟩] w fun e w' => ∃ b, e = .returned (.tuple #[.string ⟨(cutL t).1.toArray⟩, .string ⟨(cutL t).2.toArray⟩, .bool b]) ∧ ∃ n, w' = w.drewN n := by
  have A := fun w => liteCut_any t ht w
  generalize (⟨(cutL t).1.toArray⟩ : ByteArray) = x1 at *
  generalize (⟨(cutL t).2.toArray⟩ : ByteArray) = x2 at *
  generalize (⟨t.toArray⟩ : ByteArray) = s at *
  go_enter Tryd.func84, Tryd.ntmps84
  go_wp2_with fail
  refine (A _).mono ?_
  rintro e w1 ⟨bb, rfl, n, rfl⟩
  clear A
  go_wp2
  go_ret3
  exact ⟨_, rfl, n, rfl⟩

theorem RdM.drewN {w u : World} {b T : Nat} {l : List UInt8} {st : RS} {vE : Value} (h : RdM w u b T l st vE) (n : Nat) : RdM w (u.drewN n) b T l st vE := h.step (below_drewN (Below.refl _ _) n)

set_option maxRecDepth 100000 in
set_option maxHeartbeats 4000000 in
theorem nextWd_any {w u : World} {b T : Nat} {l : List UInt8} {st : RS} {vE : Value} (h : RdM w u b T l st vE) (hl : l.length ≤ 1048576) :
    Calls Tryd.prog 72 #[.pointer (some ⟨b, 0, none⟩)] u fun e u' => e = .returned (.string (wdB l)) ∧ RdM w u' b T (wdR l) st vE := by
  have A := fun w => trim_any l w
  have C := fun w => cut_any (l.dropWhile (· == 32)) (Nat.le_trans (List.dropWhile_sublist (fun x => x == 32)).length_le hl) w
  rw [← nextL_cut] at C
  have HM : Hid (RdM _ _ _ _ _ _ _) := h
  obtain ⟨c0, _, _, _, _, _, _, _, _, fz⟩ := h.cells
  have hlt := h.lt
  have HS : Hid (∀ n, RdM w ((u.drewN n).setCell ⟨b, 0, none⟩ (.string ⟨(nextL l).2.toArray⟩)) b T (nextL l).2 st vE) := fun n => (HM.out.drewN n).set (l' := (nextL l).2) (st' := st) (vE' := vE) rfl rfl rfl
  unfold wdB wdR
  generalize (⟨(nextL l).1.toArray⟩ : ByteArray) = x1 at *
  have HS2 : Hid (∀ n x, x = (⟨(nextL l).2.toArray⟩ : ByteArray) → RdM w ((u.drewN n).setCell ⟨b, 0, none⟩ (.string x)) b T (nextL l).2 st vE) := fun n x hx => by rw [hx]; exact HS.out n
  obtain ⟨x2, hx2⟩ : ∃ x2, x2 = (⟨(nextL l).2.toArray⟩ : ByteArray) := ⟨_, rfl⟩
  rw [← hx2] at C
  have HS3 : Hid (∀ n, RdM w ((u.drewN n).setCell ⟨b, 0, none⟩ (.string x2)) b T (nextL l).2 st vE) := fun n => HS2.out n x2 hx2
  clear HS HS2 hx2 HM h
  generalize (⟨(l.dropWhile (· == 32)).toArray⟩ : ByteArray) = x3 at *
  generalize (⟨l.toArray⟩ : ByteArray) = x4 at *
  go_enter Tryd.func72, Tryd.ntmps72
  go_wp2_with fail
  refine (A _).mono ?_
  rintro e w1 ⟨rfl, rfl⟩
  clear A
  go_wp2_with fail
  refine (C _).mono ?_
  rintro e w2 ⟨bb, rfl, n, rfl⟩
  clear C
  go_wp2
  go_ret
  exact ⟨rfl, HS3.out n⟩

/-- The runes of a word. -/
def jR (x : ByteArray) : List Int := if jOk x = true then nD (Dec.decT x.size x).1 else []

theorem jOk_yes {x : ByteArray} (h : ok4 x = true) : jOk x = runesOk (rn4 x) := by
  unfold jOk
  rw [decide_eq_true (of_decide_eq_true h).1, Bool.true_and]
  rfl

theorem jOk_no {x : ByteArray} (h : ok4 x = false) : jOk x = false := by
  unfold jOk
  by_cases c : x.size ≤ 200
  · rw [decide_eq_true c, Bool.true_and]
    cases d : runesOk (nD (Dec.decT x.size x).1)
    · rfl
    · have := runesOk_len d
      exact absurd ⟨c, by unfold rn4; omega⟩ (of_decide_eq_false h)
  · rw [decide_eq_false c, Bool.false_and]

set_option maxRecDepth 100000 in
set_option maxHeartbeats 4000000 in
theorem joinedR_any (x : ByteArray) (hx : x.size ≤ 1048576) (u : World) (ht : Tabs3 u) :
    Calls Tryd.prog 86 #[.string x] u fun e u' => ∃ v, e = .returned (.tuple #[v, .bool (jOk x)]) ∧ Ints u' u.heap.size v (jR x) ∧ Below u.heap.size u u' := by
  have A := fun w => apartT_any x hx w
  have hl := aR_len x
  unfold jR
  cases h : ok4 x
  · rw [jOk_no h]
    have A1 := A u ht
    rw [h] at A1
    simp only [Bool.false_eq_true, if_false]
    clear A h ht
    go_enter Tryd.func86, Tryd.ntmps86
    go_wp2_with fail
    refine A1.mono ?_
    rintro e w1 ⟨v1, rfl, i1, b1⟩
    clear A1
    go_wp2
    go_ret2
    exact ⟨_, rfl, ⟨rfl, .inl ⟨rfl, rfl⟩⟩, b1⟩
  · have A1 := A u ht
    have hr : aR x = rn4 x := by unfold aR; rw [h]; rfl
    rw [jOk_yes h]
    rw [h, hr] at A1
    rw [hr] at hl
    change Calls Tryd.prog 86 #[.string x] u fun e u' => ∃ v, e = .returned (.tuple #[v, .bool (runesOk (rn4 x))]) ∧ Ints u' u.heap.size v (if runesOk (rn4 x) = true then rn4 x else []) ∧ Below u.heap.size u u'
    generalize rn4 x = r at *
    have J := fun (u' : World) (v : Value) (B : Nat) (hb : Below u.heap.size u u') (hI : Ints u' B v r) => joined_any (by omega) hI (ht.below hb)
    clear A h hr ht
    cases hr : runesOk r
    · rw [hr] at J
      simp only [Bool.false_eq_true, if_false]
      go_enter Tryd.func86, Tryd.ntmps86
      go_wp2_with fail
      refine A1.mono ?_
      rintro e w1 ⟨v1, rfl, i1, b1⟩
      have J1 := J _ _ _ b1 i1
      clear A1 J
      go_wp2_with fail
      refine J1.mono ?_
      rintro e w3 ⟨rfl, b4⟩
      clear J1
      go_wp2
      go_ret2
      exact ⟨_, rfl, ⟨rfl, .inl ⟨rfl, rfl⟩⟩, b1.trans (b4.mono b1.size)⟩
    · rw [hr] at J
      simp only [if_true]
      go_enter Tryd.func86, Tryd.ntmps86
      go_wp2_with fail
      refine A1.mono ?_
      rintro e w1 ⟨v1, rfl, i1, b1⟩
      have J1 := J _ _ _ b1 i1
      clear A1 J
      go_wp2_with fail
      refine J1.mono ?_
      rintro e w3 ⟨rfl, b4⟩
      clear J1
      have i3 := i1.below b4
      go_wp2
      go_ret2
      exact ⟨_, rfl, i3, b1.trans (b4.mono b1.size)⟩

theorem levR_lit (st : RS) (x : ByteArray) : levR st x = if (x.toList == [49, 93]) = true then .ok { st with lv := 1 } else if (x.toList == [50, 93]) = true then .ok { st with lv := 2 } else if (x.toList == [51, 93]) = true then .ok { st with lv := 3 } else if (x.toList == [52, 93]) = true then .ok { st with lv := 4 } else .error 2 := by
  unfold levR
  rw [levN_lit]
  repeat' split
  all_goals simp_all

/-- What a step of the reader leaves. -/
def Out (w u' : World) (b : Nat) (l : List UInt8) (r : Except Int RS) (c : Int) : Prop := (r = .error c ∧ c ≠ 0 ∧ Below b w u') ∨ ∃ st T vE, r = .ok st ∧ c = 0 ∧ RdM w u' b T l st vE

set_option maxRecDepth 100000 in
set_option maxHeartbeats 4000000 in
theorem levels_any {w u : World} {b T : Nat} {l : List UInt8} {st : RS} {vE : Value} (h : RdM w u b T l st vE) (hl : l.length ≤ 1048576) :
    Calls Tryd.prog 73 #[.pointer (some ⟨b, 0, none⟩)] u fun e u' => ∃ c, e = .returned (.int .i64 c) ∧ Out w u' b (wdR l) (levR st (wdB l)) c := by
  have NW := nextWd_any h hl
  have HR : Hid (levR st (wdB l) = if ((wdB l).toList == [49, 93]) = true then .ok { st with lv := 1 } else if ((wdB l).toList == [50, 93]) = true then .ok { st with lv := 2 } else if ((wdB l).toList == [51, 93]) = true then .ok { st with lv := 3 } else if ((wdB l).toList == [52, 93]) = true then .ok { st with lv := 4 } else .error 2) := levR_lit st (wdB l)
  clear h
  generalize levR st (wdB l) = R at *
  generalize wdB l = x at *
  generalize wdR l = l2 at *
  by_cases c1 : (x.toList == [49, 93]) = true
  · have HR1 : Hid (R = .ok { st with lv := 1 }) := HR.out.trans (by rw [if_pos c1])
    clear HR
    go_enter Tryd.func73, Tryd.ntmps73
    go_wp2_with fail
    refine NW.mono ?_
    rintro e u1 ⟨rfl, hm⟩
    have HS : Hid (RdM w (u1.setCell ⟨b, 3, none⟩ (.int .i64 1)) b T l2 { st with lv := 1 } vE) := hm.set rfl rfl rfl
    obtain ⟨_, _, _, c3, _, _, _, _, _, fz⟩ := hm.cells
    have hlt := hm.lt
    clear NW hm
    go_wp2
    go_ret
    exact ⟨0, rfl, .inr ⟨_, _, _, HR1.out, rfl, HS.out⟩⟩
  · have c1' : (x.toList == [49, 93]) = false := by simpa using c1
    by_cases c2 : (x.toList == [50, 93]) = true
    · have HR1 : Hid (R = .ok { st with lv := 2 }) := HR.out.trans (by rw [if_neg c1, if_pos c2])
      clear HR c1
      go_enter Tryd.func73, Tryd.ntmps73
      go_wp2_with fail
      refine NW.mono ?_
      rintro e u1 ⟨rfl, hm⟩
      have HS : Hid (RdM w (u1.setCell ⟨b, 3, none⟩ (.int .i64 2)) b T l2 { st with lv := 2 } vE) := hm.set rfl rfl rfl
      obtain ⟨_, _, _, c3, _, _, _, _, _, fz⟩ := hm.cells
      have hlt := hm.lt
      clear NW hm
      go_wp2
      go_ret
      exact ⟨0, rfl, .inr ⟨_, _, _, HR1.out, rfl, HS.out⟩⟩
    · have c2' : (x.toList == [50, 93]) = false := by simpa using c2
      by_cases c3 : (x.toList == [51, 93]) = true
      · have HR1 : Hid (R = .ok { st with lv := 3 }) := HR.out.trans (by rw [if_neg c1, if_neg c2, if_pos c3])
        clear HR c1 c2
        go_enter Tryd.func73, Tryd.ntmps73
        go_wp2_with fail
        refine NW.mono ?_
        rintro e u1 ⟨rfl, hm⟩
        have HS : Hid (RdM w (u1.setCell ⟨b, 3, none⟩ (.int .i64 3)) b T l2 { st with lv := 3 } vE) := hm.set rfl rfl rfl
        obtain ⟨_, _, _, c3', _, _, _, _, _, fz⟩ := hm.cells
        have hlt := hm.lt
        clear NW hm
        go_wp2
        go_ret
        exact ⟨0, rfl, .inr ⟨_, _, _, HR1.out, rfl, HS.out⟩⟩
      · have c3' : (x.toList == [51, 93]) = false := by simpa using c3
        by_cases c4 : (x.toList == [52, 93]) = true
        · have HR1 : Hid (R = .ok { st with lv := 4 }) := HR.out.trans (by rw [if_neg c1, if_neg c2, if_neg c3, if_pos c4])
          clear HR c1 c2 c3
          go_enter Tryd.func73, Tryd.ntmps73
          go_wp2_with fail
          refine NW.mono ?_
          rintro e u1 ⟨rfl, hm⟩
          have HS : Hid (RdM w (u1.setCell ⟨b, 3, none⟩ (.int .i64 4)) b T l2 { st with lv := 4 } vE) := hm.set rfl rfl rfl
          obtain ⟨_, _, _, c3'', _, _, _, _, _, fz⟩ := hm.cells
          have hlt := hm.lt
          clear NW hm
          go_wp2
          go_ret
          exact ⟨0, rfl, .inr ⟨_, _, _, HR1.out, rfl, HS.out⟩⟩
        · have c4' : (x.toList == [52, 93]) = false := by simpa using c4
          have HR1 : Hid (R = .error 2) := HR.out.trans (by rw [if_neg c1, if_neg c2, if_neg c3, if_neg c4])
          clear HR c1 c2 c3 c4
          go_enter Tryd.func73, Tryd.ntmps73
          go_wp2_with fail
          refine NW.mono ?_
          rintro e u1 ⟨rfl, hm⟩
          have HB : Hid (Below _ _ _) := hm.be
          clear NW hm
          go_wp2
          go_ret
          exact ⟨2, rfl, .inl ⟨HR1.out, by decide, HB.out⟩⟩
end Go.Proofs.YtanfebccenfffaaDoor
