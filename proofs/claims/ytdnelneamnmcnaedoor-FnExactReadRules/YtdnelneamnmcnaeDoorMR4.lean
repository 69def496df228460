/- Texts of mine laid together: IElemOf, INorm2, One, Front, OneAt, Decode, Read. -/
import Derived.Test.YtdnelneamnmcnaeDoorMR3
import Derived.Test.YtdnelneamnmcnaeDoorMR1
import Derived.Test.YtdnelneamnmcnaeDoorProg
import Derived.Test.YtdnelneamnmcnaeDoorDec
import Derived.WalkKit
import Derived.WalkSpells
import Derived.WalkLawsBesides
import Derived.Test.YtdnelneamnmcnaeDoorInts
import Derived.Lib.OthersKept
import Derived.WalkSmall
namespace Go.Proofs.YtdnelneamnmcnaeDoor
open Go.RowKit

theorem below_res4a {w wr : World} (h : Below w.heap.size w wr) (x y z t : Value) (o : Obj) : Below w.heap.size w (((((wr.setCell ⟨w.heap.size + 1, 0, none⟩ x).setCell ⟨w.heap.size + 1, 1, none⟩ y).setCell ⟨w.heap.size + 1, 2, none⟩ z).setCell ⟨w.heap.size + 1, 3, none⟩ t).alloc o) :=
  (below_res4 h x y z t).alloc (below_res4 h x y z t).size _

theorem runesOk_good2 {l : List Int} (h : runesOk l = true) : ∀ x ∈ l, 0 ≤ x ∧ x ≤ 1114111 ∧ ¬ (55296 ≤ x ∧ x ≤ 57343) := by
  unfold runesOk at h
  rw [Bool.and_eq_true, Bool.and_eq_true] at h
  intro x hx
  have := goodB_true ((okR_true h.2.1).2 x hx)
  omega

set_option maxRecDepth 100000 in
set_option maxHeartbeats 8000000 in
theorem implElemOf_any {w : World} {B B' : Nat} {v : Value} {es : List Ent} {sh : Bool} {lv : Int} {vl : Value} {l : List Int} (hE : Ents w B v es) (hL : Ints w B' vl l) (hn : es.length ≤ 1048576) (hl : l.length ≤ 1048576) (hr : ∀ e ∈ es, e.runes.length ≤ 1048576) (ht : Tabs3 w) :
    Calls Tryd.prog 90 #[.agg #[v, .bool sh, .int .i64 lv], vl] w fun e w' => e = .returned (elRes (elemOk es lv l)) ∧ Below w.heap.size w w' := by
  have hba := ((Below.refl w.heap.size w).alloc (Nat.le_refl _) (.cells #[v, .bool sh, .int .i64 lv] 42)).alloc (by simp) (.cells #[.int .i64 0, .int .i64 0, .int .i64 0, .bool false] 59)
  have HX0 : Hid (Box4 _ _ _ _ _ _) := box4_new w v sh lv
  have HB : Hid (Below _ _ _) := hba
  have HE : Hid (Ents _ _ _ _) := hE.below hba
  have HL : Hid (Ints _ _ _ _) := hL.below hba
  have HT : Hid (Tabs3 _) := ht.below hba
  have GR := implGood3_any (sh := sh) (lv := lv) HE.out hr HT.out
  clear hba hE hL ht
  cases hro : rulesOk es lv
  · rw [hro] at GR
    have HF : Hid (elemOk es lv l = none) := by show _ = _; unfold elemOk; rw [if_neg (by simp [hro])]
    clear hr HE HL HT hro
    go_enter Tryd.func90, Tryd.ntmps90
    go_wp2_with fail
    refine GR.mono ?_
    rintro e' w2 ⟨rfl, b2⟩
    have hx := HX0.out.below b2
    have b4 := HB.out.trans (b2.mono HB.out.size)
    clear GR HX0 HB b2
    obtain ⟨⟨n1, n2⟩, _, ⟨q0, q1, q2, q3⟩, f0⟩ := hx.facts
    clear hx
    go_wp2
    refine bodyPost_ret (v := .tuple #[.agg #[.int .i64 0, .int .i64 0, .int .i64 0, .bool false], .bool false]) ?_ rfl ⟨ret_e0 HF.out, below_res4 b4 _ _ _ _⟩
    rw [results_cell_tmp rfl]
    go_simp
  · rw [hro] at GR
    go_enter Tryd.func90, Tryd.ntmps90
    go_wp2_with fail
    refine GR.mono ?_
    rintro e' w2 ⟨rfl, b2⟩
    have HX2 : Hid (Box4 _ _ _ _ _ _) := HX0.out.below b2
    have HB2 : Hid (Below _ _ _) := HB.out.trans (b2.mono HB.out.size)
    have HE2 : Hid (Ents _ _ _ _) := HE.out.below b2
    have HL2 : Hid (Ints _ _ _ _) := HL.out.below b2
    have HT2 : Hid (Tabs3 _) := HT.out.below b2
    have RN := joined_any hl HL2.out HT2.out
    clear GR HX0 HB HE HL HT b2
    cases hru : runesOk l
    · rw [hru] at RN
      have HF : Hid (elemOk es lv l = none) := by show _ = _; unfold elemOk; rw [if_neg (by simp [hru])]
      clear hr HE2 HL2 HT2 hro hru
      go_wp2_with fail
      refine RN.mono ?_
      rintro e' w3 ⟨rfl, b3⟩
      have hx := HX2.out.below b3
      have b4 := HB2.out.trans (b3.mono HB2.out.size)
      clear RN HX2 HB2 b3
      obtain ⟨⟨n1, n2⟩, _, ⟨q0, q1, q2, q3⟩, f0⟩ := hx.facts
      clear hx
      go_wp2
      refine bodyPost_ret (v := .tuple #[.agg #[.int .i64 0, .int .i64 0, .int .i64 0, .bool false], .bool false]) ?_ rfl ⟨ret_e0 HF.out, below_res4 b4 _ _ _ _⟩
      rw [results_cell_tmp rfl]
      go_simp
    · rw [hru] at RN
      have HF : Hid (elemOk es lv l = elemE es l) := by show _ = _; unfold elemOk; rw [if_pos ⟨hro, hru⟩]
      have hg := runesOk_good2 hru
      have hll : 1 ≤ l.length := by
        unfold runesOk at hru
        rw [Bool.and_eq_true] at hru
        exact (of_decide_eq_true hru.1).1
      clear hro hru
      go_wp2_with fail
      refine RN.mono ?_
      rintro e' w3 ⟨rfl, b3⟩
      have HX : Hid (Box4 _ _ _ _ _ _) := HX2.out.below b3
      have HB3 : Hid (Below _ _ _) := HB2.out.trans (b3.mono HB2.out.size)
      have HL3 : Hid (Ints _ _ _ _) := HL2.out.below b3
      have HT3 : Hid (Tabs3 _) := HT2.out.below b3
      have EL := entry_any (HE2.out.below b3) HL3.out hn hl hr
      clear RN HX2 HB2 HE2 HL2 HT2 b3 hr
      obtain ⟨_, ⟨p0, p1, p2⟩, _, _⟩ := HX.out.facts
      cases ho : entOf es l with
      | some e =>
        rw [ho] at EL
        have HO : Hid (elemOk es lv l = some e) := HF.out.trans (elemE_of ho)
        unfold elRes elOf elV at EL
        simp only [Option.getD_some, Option.isSome_some] at EL
        clear HF ho hg HL3 HT3
        go_wp2_with fail
        refine EL.mono ?_
        rintro e' w4 ⟨rfl, b4⟩
        have hx := HX.out.below b4
        have b5 := HB3.out.trans (b4.mono HB3.out.size)
        clear EL HX HB3 b4 p0 p1 p2
        obtain ⟨⟨n1, n2⟩, _, ⟨q0, q1, q2, q3⟩, f0⟩ := hx.facts
        clear hx
        go_wp2
        refine bodyPost_ret (v := .tuple #[.agg #[.int .i64 e.first, .int .i64 e.second, .int .i64 e.third, .bool e.varies], .bool true]) ?_ rfl ⟨ret_e HO.out, below_res4a b5 _ _ _ _ _⟩
        rw [results_cell_tmp rfl]
        go_simp
      | none =>
        rw [ho] at EL
        unfold elRes elOf elV at EL
        simp only [Option.getD_none, Option.isSome_none] at EL
        have ha := atE_of_none ho
        clear ho
        by_cases h1 : l.length = 1
        · obtain ⟨r, rfl⟩ : ∃ r, l = [r] := List.length_eq_one_iff.1 h1
          obtain ⟨g, cap, rfl⟩ := ints_some HL3.out (by simp)
          have HO : Hid (elemOk es lv [r] = one3 (base r)) := HF.out.trans (elemE_base ha)
          have hr3 := hg r (by simp)
          clear HF ha hg hll h1 hl
          simp only [List.length_singleton] at *
          go_wp2_with fail
          refine EL.mono ?_
          rintro e' w4 ⟨rfl, b4⟩
          have hal := (Below.refl w4.heap.size w4).alloc (Nat.le_refl _) (.cells #[.int .i64 0, .int .i64 0, .int .i64 0, .bool false] 59)
          have HX4 : Hid (Box4 _ _ _ _ _ _) := (HX.out.below b4).below hal
          have HB4 := HB3.out.trans (b4.mono HB3.out.size)
          have HB5 : Hid (Below _ _ _) := HB4.trans (hal.mono HB4.size)
          have c0 : w4.cell? ⟨g, 0, none⟩ = some (.int .i64 r) := by
            have h3 := World.ownsRow.cellAt (n := 1) (HL3.out.below b4) 0 (by omega)
            rw [h3]; rfl
          have glt : g < w4.heap.size := (World.ownsRow.lt (HL3.out.below b4) g rfl).2
          have BS := baseElem_any r hr3.1 hr3.2.1 hr3.2.2 _ ((HT3.out.below b4).below hal).1
          clear EL HX HB3 HB4 b4 p0 p1 p2 HL3 HT3 hal
          obtain ⟨o, HO2⟩ : ∃ o, Hid (one3 (base r) = o) := ⟨_, rfl⟩
          rw [HO2.out] at BS
          have HO3 : Hid (elemOk es lv [r] = o) := HO.out.trans HO2.out
          clear HO HO2
          unfold elRes elV at BS
          go_wp2_with fail
          refine BS.mono ?_
          rintro e' w5 ⟨rfl, b5⟩
          have hx := HX4.out.below b5
          have b6 := HB5.out.trans (b5.mono HB5.out.size)
          clear BS HX4 HB5 b5 c0 glt
          obtain ⟨⟨n1, n2⟩, _, ⟨q0, q1, q2, q3⟩, f0⟩ := hx.facts
          clear hx
          go_wp2
          refine bodyPost_ret (v := elRes o) ?_ rfl ⟨by rw [HO3.out], below_res4 b6 _ _ _ _⟩
          rw [results_cell_tmp rfl]
          unfold elRes elV
          go_simp
        · have HO : Hid (elemOk es lv l = none) := HF.out.trans (elemE_far ha h1)
          obtain ⟨a, c, rfl⟩ : ∃ a c, vl = .slice a l.length c := by
            rcases HL3.out.form with ⟨rfl, rfl⟩ | ⟨g, cap, rfl, _, _⟩
            · exact ⟨_, _, rfl⟩
            · exact ⟨_, _, rfl⟩
          have h2 : (1 : Int) < (l.length : Int) := by omega
          clear HF ha hg HL3 HT3 h1
          go_wp2_with fail
          refine EL.mono ?_
          rintro e' w4 ⟨rfl, b4⟩
          have hx := HX.out.below b4
          have b5 := HB3.out.trans (b4.mono HB3.out.size)
          clear EL HX HB3 b4 p0 p1 p2
          obtain ⟨⟨n1, n2⟩, _, ⟨q0, q1, q2, q3⟩, f0⟩ := hx.facts
          clear hx
          go_wp2
          refine bodyPost_ret (v := .tuple #[.agg #[.int .i64 0, .int .i64 0, .int .i64 0, .bool false], .bool false]) ?_ rfl ⟨ret_e0 HO.out, below_res4a b5 _ _ _ _ _⟩
          rw [results_cell_tmp rfl]
          go_simp
end Go.Proofs.YtdnelneamnmcnaeDoor

namespace Go.Proofs.YtdnelneamnmcnaeDoor
open Go.RowKit

theorem okD_eq {zs : List Int} (h : okR zs = true) : okD zs = decide ((nD zs).length ≤ 200) := by
  unfold okD
  rw [h, Bool.true_and, nD_len]

set_option maxRecDepth 100000 in
set_option maxHeartbeats 2000000 in
theorem implD_any {w : World} {B : Nat} {v : Value} {zs : List Int} (_hz : zs.length ≤ 1048576) (hI : Ints w B v zs) (hm : Held w 0 marksF) (hc : Held w 2 capF) (ho : Held w 3 othF) :
    Calls Tryd.prog 102 #[v] w fun e w' => ∃ v', e = .returned (.tuple #[v', .bool (okD zs)]) ∧ Ints w' w.heap.size v' (ansD zs) ∧ Below w.heap.size w w' := by
  have F := fullD_any hI hm hc ho
  have hlen := fullA_len zs
  unfold ansD
  clear hI hm hc ho
  cases hok : okR zs
  · rw [hok] at F
    rw [okD_no hok, if_neg (by simp)]
    clear hok hlen
    go_enter Tryd.func102, Tryd.ntmps102
    go_wp2_with fail
    refine F.mono ?_
    rintro e w1 ⟨v1, rfl, h1, h2⟩
    clear F
    go_wp2
    go_ret2
    exact ⟨_, rfl, ⟨rfl, .inl ⟨rfl, rfl⟩⟩, h2⟩
  · rw [hok] at F
    unfold fullA at F hlen
    rw [okD_eq hok]
    rw [hok, if_pos rfl] at F hlen
    clear hok
    generalize nD zs = ds at *
    by_cases hl : ds.length ≤ 200
    · have hl2 : ¬ (200 : Int) < (ds.length : Int) := by omega
      rw [decide_eq_true hl, if_pos rfl]
      go_enter Tryd.func102, Tryd.ntmps102
      go_wp2_with fail
      refine F.mono ?_
      rintro e w1 ⟨v1, rfl, h1, h2⟩
      clear F
      rcases h1.form with ⟨rfl, rfl⟩ | ⟨g, cap, rfl, _, _⟩
      · go_wp2
        go_ret2
        exact ⟨_, rfl, h1, h2⟩
      · go_wp2
        go_ret2
        exact ⟨_, rfl, h1, h2⟩
    · have hl2 : (200 : Int) < (ds.length : Int) := by omega
      rw [decide_eq_false hl, if_neg (by simp)]
      go_enter Tryd.func102, Tryd.ntmps102
      go_wp2_with fail
      refine F.mono ?_
      rintro e w1 ⟨v1, rfl, h1, h2⟩
      clear F
      rcases h1.form with ⟨rfl, rfl⟩ | ⟨g, cap, rfl, _, _⟩
      · exact absurd (by simp) hl
      · go_wp2
        go_ret2
        exact ⟨_, rfl, ⟨rfl, .inl ⟨rfl, rfl⟩⟩, h2⟩
end Go.Proofs.YtdnelneamnmcnaeDoor

namespace Go.Proofs.YtdnelneamnmcnaeDoor
open Go.RowKit

theorem ret3 {a a' b b' c c' : Int} (h1 : a = a') (h2 : b = b') (h3 : c = c') :
    Ending.returned (.tuple #[.int .i64 a, .int .u8 b, .int .u8 c]) = .returned (.tuple #[.int .i64 a', .int .u8 b', .int .u8 c']) := by rw [h1, h2, h3]

set_option maxHeartbeats 1000000 in
theorem form_any (b : Nat) (hb : b < 256) (w : World) :
    Calls Tryd.prog 119 #[.int .u8 (b : Int)] w fun e w' => e = .returned (.tuple #[.int .i64 (Dec.more b + 1), .int .u8 (Dec.lo1 b : Int), .int .u8 (Dec.hi1 b : Int)]) ∧ w' = w := by
  go_enter Tryd.func119, Tryd.ntmps119
  go_wp2
  all_goals
    go_ret3
    refine ⟨ret3 ?_ ?_ ?_, rfl⟩
    all_goals
      try simp only [beq_iff_eq, beq_eq_false_iff_ne, ne_eq] at *
      simp only [Dec.more, Dec.lo1, Dec.hi1]
      repeat' split
      all_goals omega

set_option maxRecDepth 100000 in
set_option maxHeartbeats 1000000 in
theorem lead_any (b : Nat) (hb : b < 256) (w : World) :
    Calls Tryd.prog 86 #[.int .u8 (b : Int)] w fun e w' => e = .returned (.tuple #[.int .i64 (Dec.more b), .int .u8 (Dec.lo0 b : Int), .int .u8 (Dec.hi0 b : Int)]) ∧ w' = w := by
  go_enter Tryd.func86, Tryd.ntmps86
  go_wp2
  all_goals
    go_ret3
    refine ⟨ret3 ?_ ?_ ?_, rfl⟩
    all_goals
      try simp only [beq_iff_eq, beq_eq_false_iff_ne, ne_eq] at *
      simp only [Dec.more, Dec.lo0, Dec.hi0, Dec.lo1, Dec.hi1]
      repeat' split
      all_goals omega
end Go.Proofs.YtdnelneamnmcnaeDoor

namespace Go.Proofs.YtdnelneamnmcnaeDoor
open Go.RowKit

theorem form_m (b m : Nat) (hb : b < 256) (hm : Dec.more b = (m : Int)) (w : World) :
    Calls Tryd.prog 119 #[.int .u8 (b : Int)] w fun e w' => e = .returned (.tuple #[.int .i64 ((m : Int) + 1), .int .u8 (Dec.lo1 b : Int), .int .u8 (Dec.hi1 b : Int)]) ∧ w' = w := by
  have h := form_any b hb w
  rw [hm] at h
  exact h

theorem form_no (b : Nat) (hb : b < 256) (hm : Dec.more b = -1) (w : World) :
    Calls Tryd.prog 119 #[.int .u8 (b : Int)] w fun e w' => e = .returned (.tuple #[.int .i64 0, .int .u8 (Dec.lo1 b : Int), .int .u8 (Dec.hi1 b : Int)]) ∧ w' = w := by
  have h := form_any b hb w
  rw [hm] at h
  exact h

theorem ret_ib {a a' : Int} {b b' : Bool} (h1 : a = a') (h2 : b = b') :
    Ending.returned (.tuple #[.int .i64 a, .bool b]) = .returned (.tuple #[.int .i64 a', .bool b']) := by rw [h1, h2]

theorem front_end (t : ByteArray) (m k lo hi r : Nat) (o : Int × Nat × Bool) (h : Dec.goes t m (m + 1 - k) k lo hi r = o) (hk : k ≤ m + 1)
    (hn : ¬ k < m + 1 ∨ ¬ (k < t.size ∧ lo ≤ Dec.bt t k ∧ Dec.bt t k ≤ hi)) : (k : Int) = (o.2.1 : Int) ∧ ((k : Int) == (m : Int) + 1) = o.2.2 := by
  by_cases c : k < m + 1
  · have hn' : ¬ (k < t.size ∧ lo ≤ Dec.bt t k ∧ Dec.bt t k ≤ hi) := by rcases hn with h | h; exact absurd c h; exact h
    rw [show m + 1 - k = (m - k) + 1 by omega, Dec.goes_no hn'] at h
    subst h
    refine ⟨rfl, ?_⟩
    simp; omega
  · have : k = m + 1 := by omega
    subst this
    rw [show m + 1 - (m + 1) = 0 by omega] at h
    subst h
    simp [Dec.goes]

theorem front_step (t : ByteArray) (m k lo hi r : Nat) (o : Int × Nat × Bool) (h : Dec.goes t m (m + 1 - k) k lo hi r = o) (hk : k < m + 1)
    (hy : k < t.size ∧ lo ≤ Dec.bt t k ∧ Dec.bt t k ≤ hi) : Dec.goes t m (m + 1 - (k + 1)) (k + 1) 128 191 (r * 64 + Dec.bt t k % 64) = o := by
  rw [show m + 1 - k = (m + 1 - (k + 1)) + 1 by omega, Dec.goes_yes _ rfl hy] at h
  exact h

set_option maxRecDepth 100000 in
set_option maxHeartbeats 1000000 in
theorem front_any (t : ByteArray) (h0 : 0 < t.size) (ht : t.size ≤ maxLen) (w : World) :
    Calls Tryd.prog 117 #[.string t] w fun e w' => e = .returned (.tuple #[.int .i64 ((Dec.one t).2.1 : Int), .bool (Dec.one t).2.2]) ∧ w' = w := by
  unfold maxLen at ht
  have hb0 : (t[0]'h0).toNat < 256 := (t[0]'h0).toNat_lt
  have e0 := Dec.bt_get t 0 h0
  rcases Dec.more_cases (t[0]'h0).toNat with hm | hm
  · have ho : Dec.one t = (65533, 1, false) := by unfold Dec.one; rw [← e0, hm]; rfl
    rw [ho]
    clear ho e0
    have F := fun w => form_no _ hb0 hm w
    clear hm
    go_enter Tryd.func117, Tryd.ntmps117
    go_wp2_with (go_at_call 119; refine (F _).mono ?_; rintro e w' ⟨rfl, rfl⟩)
    go_loop [5, 6, 7] (fun _ _ k => k = .int .i64 1) (fun _ _ _ => 0)
    case atStart => rfl
    case round =>
      subst hrel
      go_wp2
      go_ret2
      exact ⟨rfl, rfl⟩
  · obtain ⟨m, hm3, hm⟩ : ∃ m : Nat, m ≤ 3 ∧ Dec.more (t[0]'h0).toNat = (m : Int) := by
      rcases hm with h | h | h | h
      · exact ⟨0, by omega, h⟩
      · exact ⟨1, by omega, h⟩
      · exact ⟨2, by omega, h⟩
      · exact ⟨3, by omega, h⟩
    have HO : Hid (Dec.goes t m m 1 (Dec.lo1 (t[0]'h0).toNat) (Dec.hi1 (t[0]'h0).toNat) (Dec.first (t[0]'h0).toNat m) = Dec.one t) := by
      show _ = _
      unfold Dec.one
      rw [← e0, hm, if_neg (by omega)]
      rfl
    have F := fun w => form_m _ m hb0 hm w
    clear hm e0
    generalize Dec.one t = o at *
    have hl1 : Dec.lo1 (t[0]'h0).toNat < 256 := by unfold Dec.lo1; repeat' split
                                                   all_goals omega
    have hh1 : Dec.hi1 (t[0]'h0).toNat < 256 := by unfold Dec.hi1; repeat' split
                                                   all_goals omega
    go_enter Tryd.func117, Tryd.ntmps117
    go_wp2_with (go_at_call 119; refine (F _).mono ?_; rintro e w' ⟨rfl, rfl⟩)
    go_loop [5, 6, 7] (fun lo hi k => ∃ k' lo' hi' r : Nat, 1 ≤ k' ∧ k' ≤ m + 1 ∧ k' ≤ t.size ∧ lo' < 256 ∧ hi' < 256 ∧ k = .int .i64 k' ∧ lo = .int .u8 lo' ∧ hi = .int .u8 hi' ∧ Hid (Dec.goes t m (m + 1 - k') k' lo' hi' r = o)) (fun _ _ k => m + 1 - (intOf k).toNat)
    case atStart => exact ⟨1, _, _, _, by omega, by omega, by omega, hl1, hh1, rfl, rfl, rfl, HO⟩
    case round =>
      obtain ⟨k, lo, hi, r, hk1, hk2, hk3, hlo, hhi, rfl, rfl, rfl, HG⟩ := hrel
      clear HO F
      by_cases c1 : k < m + 1
      · by_cases c2 : k < t.size
        · have ek := Dec.bt_get t k c2
          have EK : Hid (Dec.bt t k = (t[k]'c2).toNat) := ek.symm
          clear ek
          have hbk : (t[k]'c2).toNat < 256 := (t[k]'c2).toNat_lt
          by_cases c3 : (lo : Int) ≤ ((t[k]'c2).toNat : Int)
          · by_cases c4 : ((t[k]'c2).toNat : Int) ≤ (hi : Int)
            · have HS : Hid _ := front_step t m k lo hi r o HG.out c1 ⟨c2, by rw [EK.out]; omega⟩
              go_wp2
              go_round
              case rel => exact ⟨k + 1, 128, 191, _, by omega, by omega, by omega, by omega, by omega, by go_num, rfl, rfl, HS⟩
              case measure => simp [intOf]; omega
            · have HS := front_end t m k lo hi r o HG.out hk2 (.inr (by rw [EK.out]; omega))
              have HS' : Hid _ := HS
              clear HS
              go_wp2
              go_ret2
              exact ⟨ret_ib HS'.out.1 HS'.out.2, rfl⟩
          · have HS' : Hid _ := front_end t m k lo hi r o HG.out hk2 (.inr (by rw [EK.out]; omega))
            go_wp2
            go_ret2
            exact ⟨ret_ib HS'.out.1 HS'.out.2, rfl⟩
        · have HS' : Hid _ := front_end t m k lo hi r o HG.out hk2 (.inr (by omega))
          go_wp2
          go_ret2
          exact ⟨ret_ib HS'.out.1 HS'.out.2, rfl⟩
      · have HS' : Hid _ := front_end t m k lo hi r o HG.out hk2 (.inl c1)
        go_wp2
        go_ret2
        exact ⟨ret_ib HS'.out.1 HS'.out.2, rfl⟩
end Go.Proofs.YtdnelneamnmcnaeDoor

namespace Go.Proofs.YtdnelneamnmcnaeDoor
open Go.RowKit

theorem lead_m (b m : Nat) (hb : b < 256) (h1 : 1 ≤ m) (hm : Dec.more b = (m : Int)) (w : World) :
    Calls Tryd.prog 86 #[.int .u8 (b : Int)] w fun e w' => e = .returned (.tuple #[.int .i64 (m : Int), .int .u8 (Dec.lo1 b : Int), .int .u8 (Dec.hi1 b : Int)]) ∧ w' = w := by
  have h := lead_any b hb w
  have e1 : Dec.lo0 b = Dec.lo1 b := by unfold Dec.lo0; rw [hm, if_neg (by omega)]
  have e2 : Dec.hi0 b = Dec.hi1 b := by unfold Dec.hi0; rw [hm, if_neg (by omega)]
  rw [hm, e1, e2] at h
  exact h

theorem lead_0 (b : Nat) (hb : b < 256) (c : Int) (hc : c ≤ 0) (hm : Dec.more b = c) (w : World) :
    Calls Tryd.prog 86 #[.int .u8 (b : Int)] w fun e w' => e = .returned (.tuple #[.int .i64 c, .int .u8 0, .int .u8 0]) ∧ w' = w := by
  have h := lead_any b hb w
  have e1 : Dec.lo0 b = 0 := by unfold Dec.lo0; rw [hm, if_pos (by omega)]
  have e2 : Dec.hi0 b = 0 := by unfold Dec.hi0; rw [hm, if_pos (by omega)]
  rw [hm, e1, e2] at h
  exact h

theorem ret_iib {a a' c c' : Int} {b b' : Bool} (h1 : a = a') (h0 : c = c') (h2 : b = b') :
    Ending.returned (.tuple #[.int .i64 a, .int .i64 c, .bool b]) = .returned (.tuple #[.int .i64 a', .int .i64 c', .bool b']) := by rw [h1, h2, h0]

theorem wraps40 (n : Int) (h0 : 0 ≤ n) (h1 : n < 2 ^ 40) : IntKind.i64.wrap n = n := by
  have e : (2 : Int) ^ 40 = 1099511627776 := by decide
  rw [e] at h1; rw [IntKind.wrap_i64]; omega

theorem and_low (x i : Nat) (hi : i ≤ 6) (hx : x < 256) : bits .and .i64 (x : Int) (2 ^ i - 1) = ((x % 2 ^ i : Nat) : Int) := by
  have e : (2 : Int) ^ 40 = 1099511627776 := by decide
  rw [bits_mask .i64 40 (by decide) wraps40 i (by omega) (x : Int) (by omega) (by rw [e]; omega)]
  simp

theorem first_bits (x m : Nat) (hx : x < 256) (h1 : 1 ≤ m) (h3 : m ≤ 3) : bits .and .i64 (x : Int) (63 / 2 ^ m) = (Dec.first x m : Int) := by
  match m, h1, h3 with
  | 1, _, _ => exact and_low x 5 (by omega) hx
  | 2, _, _ => exact and_low x 4 (by omega) hx
  | 3, _, _ => exact and_low x 3 (by omega) hx

theorem join6 (r x : Nat) (hr : r < 262144) (hx : x < 256) : bits .or .i64 ((r : Int) * 64) (bits .and .i64 (x : Int) 63) = ((r * 64 + x % 64 : Nat) : Int) := by
  have e : (2 : Int) ^ 40 = 1099511627776 := by decide
  have e6 : (2 : Int) ^ 6 = 64 := by decide
  have h := and_low x 6 (by omega) hx
  have h63 : ((2 : Int) ^ 6 - 1) = 63 := by decide
  have h64 : 2 ^ 6 = 64 := by decide
  rw [h63, h64] at h
  rw [h, bits_join .i64 40 (by decide) wraps40 6 _ _ (by omega) (by rw [e6]; omega) (by rw [e]; omega) (by omega) (by rw [e6]; omega) (by rw [e]; omega)]
  omega

theorem pow_bd (k : Nat) (h : k ≤ 3) : 64 ^ k ≤ 262144 := by
  match k, h with
  | 0, _ => decide
  | 1, _ => decide
  | 2, _ => decide
  | 3, _ => decide

theorem first_lt (x m : Nat) (h1 : 1 ≤ m) (h3 : m ≤ 3) : Dec.first x m < 64 := by
  match m, h1, h3 with
  | 1, _, _ => show x % 32 < 64; omega
  | 2, _, _ => show x % 16 < 64; omega
  | 3, _, _ => show x % 8 < 64; omega

theorem one_end (t : ByteArray) (m k lo hi r : Nat) (o : Int × Nat × Bool) (h : Dec.goes t m (m + 1 - k) k lo hi r = o)
    (hk : k = m + 1) : (r : Int) = o.1 ∧ ((m : Int) + 1) = (o.2.1 : Int) ∧ true = o.2.2 := by
  subst hk
  rw [show m + 1 - (m + 1) = 0 by omega] at h
  subst h
  simp [Dec.goes]

theorem one_bad (t : ByteArray) (m k lo hi r : Nat) (o : Int × Nat × Bool) (h : Dec.goes t m (m + 1 - k) k lo hi r = o) (hk : k < m + 1)
    (hn : ¬ (k < t.size ∧ lo ≤ Dec.bt t k ∧ Dec.bt t k ≤ hi)) : (65533 : Int) = o.1 ∧ (k : Int) = (o.2.1 : Int) ∧ false = o.2.2 := by
  rw [show m + 1 - k = (m - k) + 1 by omega, Dec.goes_no hn] at h
  subst h
  exact ⟨rfl, rfl, rfl⟩

set_option maxRecDepth 100000 in
set_option maxHeartbeats 2000000 in
theorem one_any (t : ByteArray) (h0 : 0 < t.size) (ht : t.size ≤ maxLen) (w : World) :
    Calls Tryd.prog 67 #[.string t] w fun e w' => e = .returned (.tuple #[.int .i64 (Dec.one t).1, .int .i64 ((Dec.one t).2.1 : Int), .bool (Dec.one t).2.2]) ∧ w' = w := by
  unfold maxLen at ht
  have hb0 : (t[0]'h0).toNat < 256 := (t[0]'h0).toNat_lt
  have e0 := Dec.bt_get t 0 h0
  rcases Dec.more_cases (t[0]'h0).toNat with hm | hm | hm
  · have ho : Dec.one t = (65533, 1, false) := by unfold Dec.one; rw [← e0, hm]; rfl
    rw [ho]
    clear ho e0
    have F := fun w => lead_0 _ hb0 (-1) (by omega) hm w
    clear hm
    go_enter Tryd.func67, Tryd.ntmps67
    go_wp2_with (go_at_call 86; refine (F _).mono ?_; rintro e w' ⟨rfl, rfl⟩)
    go_ret3
    exact ⟨rfl, rfl⟩
  · have ho : Dec.one t = (((t[0]'h0).toNat : Int), 1, true) := by unfold Dec.one; rw [← e0, hm]; rfl
    rw [ho]
    clear ho e0
    have F := fun w => lead_0 _ hb0 0 (by omega) hm w
    clear hm
    go_enter Tryd.func67, Tryd.ntmps67
    go_wp2_with (go_at_call 86; refine (F _).mono ?_; rintro e w' ⟨rfl, rfl⟩)
    go_ret3
    exact ⟨rfl, rfl⟩
  · obtain ⟨m, hm1, hm3, hm⟩ : ∃ m : Nat, 1 ≤ m ∧ m ≤ 3 ∧ Dec.more (t[0]'h0).toNat = (m : Int) := by
      rcases hm with h | h | h
      · exact ⟨1, by omega, by omega, h⟩
      · exact ⟨2, by omega, by omega, h⟩
      · exact ⟨3, by omega, by omega, h⟩
    have HO : Hid (Dec.goes t m m 1 (Dec.lo1 (t[0]'h0).toNat) (Dec.hi1 (t[0]'h0).toNat) (Dec.first (t[0]'h0).toNat m) = Dec.one t) := by
      show _ = _
      unfold Dec.one
      rw [← e0, hm, if_neg (by omega)]
      rfl
    have F := fun w => lead_m _ m hb0 hm1 hm w
    clear hm e0
    generalize Dec.one t = o at *
    have hl1 : Dec.lo1 (t[0]'h0).toNat < 256 := by unfold Dec.lo1; repeat' split
                                                   all_goals omega
    have hh1 : Dec.hi1 (t[0]'h0).toNat < 256 := by unfold Dec.hi1; repeat' split
                                                   all_goals omega
    go_enter Tryd.func67, Tryd.ntmps67
    go_wp2_with (go_at_call 86; refine (F _).mono ?_; rintro e w' ⟨rfl, rfl⟩)
    have HF : Hid _ := first_bits (t[0]'h0).toNat m hb0 hm1 hm3
    have hfl := first_lt (t[0]'h0).toNat m hm1 hm3
    go_loop [6, 7, 8, 9] (fun lo hi a k => ∃ k' lo' hi' r : Nat, 1 ≤ k' ∧ k' ≤ m + 1 ∧ k' ≤ t.size ∧ lo' < 256 ∧ hi' < 256 ∧ r < 64 ^ k' ∧ k = .int .i64 k' ∧ lo = .int .u8 lo' ∧ hi = .int .u8 hi' ∧ a = .int .i64 r ∧ Hid (Dec.goes t m (m + 1 - k') k' lo' hi' r = o)) (fun _ _ _ k => m + 1 - (intOf k).toNat)
    case atStart => exact ⟨1, _, _, _, by omega, by omega, by omega, hl1, hh1, by omega, rfl, rfl, rfl, by rw [HF.out], HO⟩
    case round =>
      obtain ⟨k, lo, hi, r, hk1, hk2, hk3, hlo, hhi, hr, rfl, rfl, rfl, rfl, HG⟩ := hrel
      clear HO F HF hfl
      by_cases c1 : k < m + 1
      · have hr2 : r < 262144 := Nat.lt_of_lt_of_le hr (pow_bd k (by omega))
        by_cases c2 : k < t.size
        · have EK : Hid (Dec.bt t k = (t[k]'c2).toNat) := (Dec.bt_get t k c2).symm
          have hbk : (t[k]'c2).toNat < 256 := (t[k]'c2).toNat_lt
          have hke : ((k : Int) == (t.size : Int)) = false := by simp; omega
          by_cases c3 : (lo : Int) ≤ ((t[k]'c2).toNat : Int)
          · by_cases c4 : ((t[k]'c2).toNat : Int) ≤ (hi : Int)
            · have HS : Hid _ := front_step t m k lo hi r o HG.out c1 ⟨c2, by rw [EK.out]; omega⟩
              have HJ : Hid _ := join6 r (t[k]'c2).toNat hr2 hbk
              have HR : Hid (r < 64 ^ k) := hr
              clear hr
              go_wp2
              go_round
              case rel =>
                (repeat apply Exists.intro)
                refine ⟨?_, rfl, rfl, rfl, rfl, rfl, rfl, rfl⟩
                exact ⟨k + 1, by omega, by omega, by omega, 128, by omega, 191, by omega, r * 64 + Dec.bt t k % 64, by have := HR.out; rw [Nat.pow_succ]; omega, by go_num, rfl, rfl, by rw [EK.out, HJ.out], HS⟩
              case measure => simp [intOf]; omega
            · have HS : Hid _ := one_bad t m k lo hi r o HG.out c1 (by rw [EK.out]; omega)
              go_wp2
              go_ret3
              exact ⟨ret_iib HS.out.1 HS.out.2.1 HS.out.2.2, rfl⟩
          · have HS : Hid _ := one_bad t m k lo hi r o HG.out c1 (by rw [EK.out]; omega)
            go_wp2
            go_ret3
            exact ⟨ret_iib HS.out.1 HS.out.2.1 HS.out.2.2, rfl⟩
        · have HS : Hid _ := one_bad t m k lo hi r o HG.out c1 (by omega)
          have hke : ((k : Int) == (t.size : Int)) = true := by simp; omega
          go_wp2
          go_ret3
          exact ⟨ret_iib HS.out.1 HS.out.2.1 HS.out.2.2, rfl⟩
      · have HS : Hid _ := one_end t m k lo hi r o HG.out (by omega)
        go_wp2
        go_ret3
        exact ⟨ret_iib HS.out.1 HS.out.2.1 HS.out.2.2, rfl⟩
end Go.Proofs.YtdnelneamnmcnaeDoor

namespace Go.Proofs.YtdnelneamnmcnaeDoor
open Go.RowKit

def strLen : Value → Nat
  | .string t => t.size
  | _ => 0

def DecRel (s : ByteArray) (w : World) (sv v b : Value) (wr : World) : Prop :=
  ∃ (t : ByteArray) (f bad : Nat) (acc : List Int), sv = .string t ∧ b = .int .i64 bad ∧ Ints wr w.heap.size v acc ∧ Below w.heap.size w wr ∧
    acc ++ (Dec.decT f t).1 = (Dec.decT s.size s).1 ∧ bad + (Dec.decT f t).2 = (Dec.decT s.size s).2 ∧ t.size ≤ f ∧ acc.length + t.size ≤ s.size ∧ bad + t.size ≤ s.size

theorem decT_step {t : ByteArray} {r : Int} {n : Nat} {ok : Bool} (h0 : 0 < t.size) (ho : Dec.one t = (r, n, ok)) (f : Nat) :
    Dec.decT (f + 1) t = (r :: (Dec.decT f (t.extract n t.size)).1, (Dec.decT f (t.extract n t.size)).2 + (if ok then 0 else 1)) := by
  simp only [Dec.decT, if_pos h0, ho]

theorem ret_v {v : Value} {a a' : Int} (h : a = a') : Ending.returned (.tuple #[v, .int .i64 a]) = .returned (.tuple #[v, .int .i64 a']) := by rw [h]

set_option maxRecDepth 100000 in
set_option maxHeartbeats 2000000 in
theorem l1Decode_any (s : ByteArray) (w : World) (hs : s.size ≤ 1073741824) :
    Calls Tryd.prog 49 #[.string s] w fun e w' => ∃ v, e = .returned (.tuple #[v, .int .i64 ((Dec.decT s.size s).2 : Int)]) ∧ Ints w' w.heap.size v (Dec.decT s.size s).1 ∧ Below w.heap.size w w' := by
  obtain ⟨i0, hi, hz0, hz1, hz2⟩ := info_parts info_int
  go_enter Tryd.func49, Tryd.ntmps49
  go_wp2
  go_loopw [0, 4, 5] (fun sv v b wr => DecRel s w sv v b wr) (fun sv _ _ _ => strLen sv)
  case atStart => exact ⟨s, s.size, 0, [], rfl, rfl, World.ownsRow_nil _ _ _ _, Below.refl _ _, by simp, by simp, Nat.le_refl _, by simp, by simp⟩
  case round =>
    obtain ⟨t, f, bad, acc, rfl, rfl, hown, hbw, hA, hB, hf, hal, hbl⟩ := hrel
    have HA : Hid _ := hA
    have HB : Hid _ := hB
    clear hA hB
    unfold Ints at hown
    by_cases hp : 0 < t.size
    · obtain ⟨r, n, ok, HO⟩ : ∃ r n ok, Hid (Dec.one t = (r, n, ok)) := ⟨_, _, _, rfl⟩
      have hn := Dec.one_le t hp
      rw [HO.out] at hn
      have hn1 : 1 ≤ n := hn.1
      have hn2 : n ≤ t.size := hn.2
      clear hn
      have O := fun w => one_any t hp (by unfold maxLen; omega) w
      rw [HO.out] at O
      obtain ⟨f', rfl⟩ : ∃ f', f = f' + 1 := ⟨f - 1, by omega⟩
      have hds := decT_step hp HO.out f'
      have HA' : Hid _ := HA.out
      have HB' : Hid _ := HB.out
      unfold Hid at HA' HB'
      rw [hds] at HA' HB'
      have HA2 : Hid _ := HA'
      have HB2 : Hid _ := HB'
      clear HA' HB' hds HA HB
      have hsz := hbw.size
      have hex := Dec.size_extract t n
      cases ok
      all_goals
        go_wp2_with (first
          | (go_at_call 67; refine (O _).mono ?_; rintro e w' ⟨rfl, rfl⟩)
          | (at_builtin; refine wpList_append_own _ rfl _ _ 22 rfl w.heap.size 3 i0 (.int .i64 0) 1 8 Tryd.underlying22 hi hz0 hz1 hz2 rfl (by decide) _ _ _ rfl (hown.alloc _) ⟨_, 0, none⟩ 1 1 [.int .i64 r] rfl rfl (cell_one_new _ _ _) (fun x hx => by simp at hx; subst hx; rfl) (by unfold maxLen; omega) (by omega) (by simp; omega) ?_; intro v' w3 hown' hgrow3 _))
      · have hb3 := Below.grown (hbw.alloc (by omega) _) hgrow3 (by simp; omega) (fun j hj => (hown.lt _ hj).1)
        have HA3 := HA2.out
        have HB3 : bad + ((Dec.decT f' (t.extract n t.size)).2 + 1) = _ := HB2.out
        exact ⟨⟨t.extract n t.size, f', bad + 1, acc ++ [r], rfl, by go_num, Ints.snoc hown', hb3, by simpa using HA3, by omega, by omega, by simp; omega, by omega⟩, by simp only [strLen]; omega⟩
      · have hb3 := Below.grown (hbw.alloc (by omega) _) hgrow3 (by simp; omega) (fun j hj => (hown.lt _ hj).1)
        have HA3 := HA2.out
        have HB3 : bad + ((Dec.decT f' (t.extract n t.size)).2 + 0) = _ := HB2.out
        exact ⟨⟨t.extract n t.size, f', bad, acc ++ [r], rfl, by go_num, Ints.snoc hown', hb3, by simpa using HA3, by omega, by omega, by simp; omega, by omega⟩, by simp only [strLen]; omega⟩
    · have ht0 : t.size = 0 := by omega
      have HA2 := HA.out
      have HB2 := HB.out
      rw [Dec.decT_end _ _ ht0] at HA2 HB2
      have HA3 : Hid _ := HA2
      have HB3 : Hid _ := HB2
      clear HA2 HB2 HA HB
      go_wp2
      go_ret2
      have HA4 := HA3.out
      have HB4 := HB3.out
      simp only [List.append_nil, Nat.add_zero] at HA4 HB4
      refine ⟨_, ret_v (by rw [HB4]), ?_, hbw⟩
      rw [← HA4]
      exact hown
end Go.Proofs.YtdnelneamnmcnaeDoor

namespace Go.Proofs.YtdnelneamnmcnaeDoor
open Go.RowKit

theorem own_low {w : World} {B B' e size n : Nat} {v : Value} {xs : List Value} (h : w.ownsRow B' e size v n xs) (hB : B ≤ B') : w.ownsRow B e size v n xs := by
  obtain ⟨h1, h2⟩ := h
  refine ⟨h1, ?_⟩
  rcases h2 with h2 | ⟨g, cap, cur, a, b, c⟩
  · exact .inl h2
  · exact .inr ⟨g, cap, cur, a, by omega, c⟩

def ReadRel (s : ByteArray) (w : World) (v b nx : Value) (wr : World) : Prop :=
  ∃ (p q f bad : Nat) (acc : List Int), b = .int .i64 bad ∧ nx = .int .i64 q ∧ wr.heap[w.heap.size]? = some (.stringIter s p) ∧ Ints wr (w.heap.size + 1) v acc ∧ Below w.heap.size w wr ∧
    p ≤ q ∧ q ≤ s.size ∧ (∀ j, p ≤ j → j < q → 128 ≤ Dec.bt s j ∧ Dec.bt s j ≤ 191) ∧
    acc ++ (Dec.decT f (s.extract q s.size)).1 = (Dec.decT s.size s).1 ∧ bad + (Dec.decT f (s.extract q s.size)).2 = (Dec.decT s.size s).2 ∧ s.size ≤ q + f ∧ acc.length ≤ q ∧ bad ≤ q

theorem extract_all (s : ByteArray) : s.extract 0 s.size = s := by simp

set_option maxRecDepth 100000 in
set_option maxHeartbeats 2000000 in
theorem readText_any (s : ByteArray) (w : World) (hs : s.size ≤ 1073741824) :
    Calls Tryd.prog 114 #[.string s] w fun e w' => ∃ v, e = .returned (.tuple #[v, .int .i64 ((Dec.decT s.size s).2 : Int)]) ∧ Ints w' w.heap.size v (Dec.decT s.size s).1 ∧ Below w.heap.size w w' := by
  obtain ⟨i0, hi, hz0, hz1, hz2⟩ := info_parts info_int
  go_enter Tryd.func114, Tryd.ntmps114
  go_wp2
  go_loopw [4, 5, 6] (fun v b nx wr => ReadRel s w v b nx wr) (fun _ _ _ wr => s.size - wr.iterPos w.heap.size)
  case atStart => exact ⟨0, 0, s.size, 0, [], rfl, rfl, World.iter_heap w s 0, World.ownsRow_nil _ _ _ _, (Below.refl _ _).alloc (Nat.le_refl _) _, Nat.le_refl _, Nat.zero_le _, fun j _ h => by omega, by rw [extract_all]; simp, by rw [extract_all]; simp, by omega, by simp, Nat.le_refl _⟩
  case round =>
    obtain ⟨p, q, f, bad, acc, rfl, rfl, hit, hown, hbw, hpq, hqs, hct, hA, hB, hf, hal, hbl⟩ := hrel
    have HA : Hid _ := hA
    have HB : Hid _ := hB
    have HC : Hid _ := hct
    clear hA hB hct
    have hpos0 := iterPos_of hit
    unfold Ints at hown
    by_cases hp : p < s.size
    · have hnx : ∀ ty, (Instr.next (.pointer (some ⟨w.heap.size, 0, none⟩)) true ty).run Tryd.prog wr = _ := fun ty => Lib.run_next_any_at wr w.heap.size s p ty hit hp
      have hd1 := decode_le s p
      have hit2 := Lib.iterAt_heap wr w.heap.size s p (p + (Utf8.decode s p).2) hit
      have hbw2 := Lib.below_iterAt hbw (k := w.heap.size) (Nat.le_refl _) s (p + (Utf8.decode s p).2)
      have hown2 := ownsRow_iterAt hown (k := w.heap.size) (by omega) s (p + (Utf8.decode s p).2)
      obtain ⟨W1, hW1⟩ : ∃ W1, W1 = wr.iterAt w.heap.size s (p + (Utf8.decode s p).2) := ⟨_, rfl⟩
      rw [← hW1] at hnx hit2 hbw2 hown2
      have hBlt := lt_of_block hit2
      clear hW1 hit hown hbw
      by_cases hlt : p < q
      · have hw1 := Dec.decode_cont s p hp (HC.out p (Nat.le_refl _) hlt).1 (HC.out p (Nat.le_refl _) hlt).2
        have HW : Hid _ := hw1
        clear hw1
        go_wp2
        go_roundw
        case rel => exact ⟨p + (Utf8.decode s p).2, q, f, bad, acc, rfl, rfl, hit2, hown2, hbw2, by rw [HW.out]; omega, hqs, fun j j1 j2 => HC.out j (by rw [HW.out] at j1; omega) j2, HA.out, HB.out, hf, hal, hbl⟩
        case measure => rw [iterPos_of hit2, hpos0, HW.out]; omega
      · have hqp : q = p := by omega
        subst hqp
        have hex := Dec.size_extract s q
        have hd := Dec.decode_one s q hp
        obtain ⟨r, n, ok, HO⟩ : ∃ r n ok, Hid (Dec.one (s.extract q s.size) = (r, n, ok)) := ⟨_, _, _, rfl⟩
        have hn := Dec.one_le (s.extract q s.size) (by omega)
        have hcont := Dec.one_cont (s.extract q s.size)
        rw [HO.out] at hn hd hcont
        have HD : Hid _ := hd
        have HT : Hid _ := hcont
        clear hd hcont
        have hn1 : 1 ≤ n := hn.1
        have hn2 : n ≤ (s.extract q s.size).size := hn.2
        clear hn
        have O := fun w => front_any (s.extract q s.size) (by omega) (by unfold maxLen; omega) w
        rw [HO.out] at O
        obtain ⟨f', rfl⟩ : ∃ f', f = f' + 1 := ⟨f - 1, by omega⟩
        have hds := decT_step (by omega) HO.out f'
        rw [Dec.extract_extract] at hds
        have HA1 := HA.out
        have HB1 := HB.out
        rw [hds] at HA1 HB1
        have HA2 : Hid _ := HA1
        have HB2 : Hid _ := HB1
        have HEX : Hid _ := hex
        have hn3 : q + n ≤ s.size := by omega
        clear HA1 HB1 hds HA HB hex hn2
        have hsz := hbw2.size
        cases ok
        all_goals
          go_wp2_with (first
            | (go_at_call 117; refine (O _).mono ?_; rintro e w' ⟨rfl, rfl⟩)
            | (at_builtin; refine wpList_append_own _ rfl _ _ 22 rfl (w.heap.size + 1) 3 i0 (.int .i64 0) 1 8 Tryd.underlying22 hi hz0 hz1 hz2 rfl (by decide) _ _ _ rfl (hown2.alloc _) ⟨_, 0, none⟩ 1 1 [.int .i64 ((Utf8.decode s q).1 : Int)] rfl rfl (cell_one_new _ _ _) (fun x hx => by simp at hx; subst hx; rfl) (by unfold maxLen; omega) (by omega) (by simp; omega) ?_; intro v' w3 hown' hgrow3 _))
          have hit3 : w3.heap[w.heap.size]? = some (.stringIter s (q + (Utf8.decode s q).2)) := by
            rw [hgrow3.block w.heap.size (by simp; omega) (fun h => by have := (hown2.lt _ h.symm).1; omega), Below.heap_alloc _ _ _ hBlt]; exact hit2
          have hbw3 : Below w.heap.size w w3 := Below.grown (hbw2.alloc (by omega) _) hgrow3 (by simp; omega) (fun j hj => by have := (hown2.lt _ hj).1; omega)
          have hI := Ints.snoc hown'
          have HA3 := HA2.out
        · have hd1 : ((Utf8.decode s q).1 : Int) = r := HD.out.1
          have hd2 : (Utf8.decode s q).2 = 1 := HD.out.2
          rw [hd1] at hI
          have HB3 : bad + ((Dec.decT f' (s.extract (q + n) s.size)).2 + 1) = _ := HB2.out
          refine ⟨⟨q + (Utf8.decode s q).2, q + n, f', bad + 1, acc ++ [r], by go_num, by go_num, hit3, hI, hbw3, by omega, hn3, ?_, by simpa using HA3, by omega, by omega, by simp; omega, by omega⟩, by rw [iterPos_of hit3, hpos0]; omega⟩
          intro j j1 j2
          have := HT.out trivial (j - q) (by omega) (by show j - q < n; omega)
          rw [Dec.bt_extract s q (j - q) (by omega), show q + (j - q) = j by omega] at this
          exact this
        · have hd1 : ((Utf8.decode s q).1 : Int) = r := HD.out.1
          have hd2 : (Utf8.decode s q).2 = n := HD.out.2
          rw [hd1] at hI
          have HB3 : bad + ((Dec.decT f' (s.extract (q + n) s.size)).2 + 0) = _ := HB2.out
          exact ⟨⟨q + (Utf8.decode s q).2, q + n, f', bad, acc ++ [r], by go_num, by go_num, hit3, hI, hbw3, by omega, hn3, fun j j1 j2 => by omega, by simpa using HA3, by omega, by omega, by simp; omega, by omega⟩, by rw [iterPos_of hit3, hpos0]; omega⟩
    · have hnx : ∀ ty, (Instr.next (.pointer (some ⟨w.heap.size, 0, none⟩)) true ty).run Tryd.prog wr = _ := fun ty => Lib.run_next_end_at wr w.heap.size s p ty hit hp
      have hq0 : (s.extract q s.size).size = 0 := by rw [Dec.size_extract]; omega
      have HA2 := HA.out
      have HB2 := HB.out
      rw [Dec.decT_end _ _ hq0] at HA2 HB2
      have HA3 : Hid _ := HA2
      have HB3 : Hid _ := HB2
      clear HA2 HB2 HA HB hq0
      go_wp2
      go_ret2
      have HA4 := HA3.out
      have HB4 := HB3.out
      simp only [List.append_nil, Nat.add_zero] at HA4 HB4
      refine ⟨_, ret_v (by rw [HB4]), ?_, hbw⟩
      rw [← HA4]
      exact own_low hown (by omega)
end Go.Proofs.YtdnelneamnmcnaeDoor
