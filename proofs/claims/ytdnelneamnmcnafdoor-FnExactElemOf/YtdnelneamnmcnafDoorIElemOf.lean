/- Contract of the program's ElemOf. -/
import Derived.Test.YtdnelneamnmcnafDoorIGood3
namespace Go.Proofs.YtdnelneamnmcnafDoor
open Go.RowKit

theorem below_res4a {w wr : World} (h : Below w.heap.size w wr) (x y z t : Value) (o : Obj) : Below w.heap.size w (((((wr.setCell ⟨w.heap.size + 1, 0, none⟩ x).setCell ⟨w.heap.size + 1, 1, none⟩ y).setCell ⟨w.heap.size + 1, 2, none⟩ z).setCell ⟨w.heap.size + 1, 3, none⟩ t).alloc o) :=
  (below_res4 h x y z t).alloc (below_res4 h x y z t).size _

theorem runesOk_good2 {l : List Int} (h : runesOk l = true) : ∀ x ∈ l, 0 ≤ x ∧ x ≤ 1114111 ∧ ¬ (55296 ≤ x ∧ x ≤ 57343) := by
  unfold runesOk at h
  rw [Bool.and_eq_true, Bool.and_eq_true] at h
  intro x hx
  have := goodB_true ((okR_true h.2.1).2 x hx)
  omega

set_option maxRecDepth 100000 in
set_option maxHeartbeats 8000000 in
theorem implElemOf_any {w : World} {B B' : Nat} {v : Value} {es : List Ent} {sh : Bool} {lv : Int} {vl : Value} {l : List Int} (hE : Ents w B v es) (hL : Ints w B' vl l) (hn : es.length ≤ 1048576) (hl : l.length ≤ 1048576) (hr : ∀ e ∈ es, e.runes.length ≤ 1048576) (ht : Tabs3 w) :
    Calls Tryd.prog 8 #[.agg #[v, .bool sh, .int .i64 lv], vl] w fun e w' => e = .returned (elRes (elemOk es lv l)) ∧ Below w.heap.size w w' := by
  have hba := ((Below.refl w.heap.size w).alloc (Nat.le_refl _) (.cells #[v, .bool sh, .int .i64 lv] 33)).alloc (by simp) (.cells #[.int .i64 0, .int .i64 0, .int .i64 0, .bool false] 28)
  have HX0 : Hid (Box4 _ _ _ _ _ _) := box4_new w v sh lv
  have HB : Hid (Below _ _ _) := hba
  have HE : Hid (Ents _ _ _ _) := hE.below hba
  have HL : Hid (Ints _ _ _ _) := hL.below hba
  have HT : Hid (Tabs3 _) := ht.below hba
  have GR := implGood3_any (sh := sh) (lv := lv) HE.out hr HT.out
  clear hba hE hL ht
  cases hro : rulesOk es lv
  · rw [hro] at GR
    have HF : Hid (elemOk es lv l = none) := by show _ = _; unfold elemOk; rw [if_neg (by simp [hro])]
    clear hr HE HL HT hro
    go_enter Tryd.func8, Tryd.ntmps8
    go_wp2_with fail
    refine GR.mono ?_
    rintro e' w2 ⟨rfl, b2⟩
    have hx := HX0.out.below b2
    have b4 := HB.out.trans (b2.mono HB.out.size)
    clear GR HX0 HB b2
    obtain ⟨⟨n1, n2⟩, _, ⟨q0, q1, q2, q3⟩, f0⟩ := hx.facts
    clear hx
    go_wp2
    refine bodyPost_ret (v := .tuple #[.agg #[.int .i64 0, .int .i64 0, .int .i64 0, .bool false], .bool false]) ?_ rfl ⟨ret_e0 HF.out, below_res4 b4 _ _ _ _⟩
    rw [results_cell_tmp rfl]
    go_simp
  · rw [hro] at GR
    go_enter Tryd.func8, Tryd.ntmps8
    go_wp2_with fail
    refine GR.mono ?_
    rintro e' w2 ⟨rfl, b2⟩
    have HX2 : Hid (Box4 _ _ _ _ _ _) := HX0.out.below b2
    have HB2 : Hid (Below _ _ _) := HB.out.trans (b2.mono HB.out.size)
    have HE2 : Hid (Ents _ _ _ _) := HE.out.below b2
    have HL2 : Hid (Ints _ _ _ _) := HL.out.below b2
    have HT2 : Hid (Tabs3 _) := HT.out.below b2
    have RN := joined_any hl HL2.out HT2.out
    clear GR HX0 HB HE HL HT b2
    cases hru : runesOk l
    · rw [hru] at RN
      have HF : Hid (elemOk es lv l = none) := by show _ = _; unfold elemOk; rw [if_neg (by simp [hru])]
      clear hr HE2 HL2 HT2 hro hru
      go_wp2_with fail
      refine RN.mono ?_
      rintro e' w3 ⟨rfl, b3⟩
      have hx := HX2.out.below b3
      have b4 := HB2.out.trans (b3.mono HB2.out.size)
      clear RN HX2 HB2 b3
      obtain ⟨⟨n1, n2⟩, _, ⟨q0, q1, q2, q3⟩, f0⟩ := hx.facts
      clear hx
      go_wp2
      refine bodyPost_ret (v := .tuple #[.agg #[.int .i64 0, .int .i64 0, .int .i64 0, .bool false], .bool false]) ?_ rfl ⟨ret_e0 HF.out, below_res4 b4 _ _ _ _⟩
      rw [results_cell_tmp rfl]
      go_simp
    · rw [hru] at RN
      have HF : Hid (elemOk es lv l = elemE es l) := by show _ = _; unfold elemOk; rw [if_pos ⟨hro, hru⟩]
      have hg := runesOk_good2 hru
      have hll : 1 ≤ l.length := by
        unfold runesOk at hru
        rw [Bool.and_eq_true] at hru
        exact (of_decide_eq_true hru.1).1
      clear hro hru
      go_wp2_with fail
      refine RN.mono ?_
      rintro e' w3 ⟨rfl, b3⟩
      have HX : Hid (Box4 _ _ _ _ _ _) := HX2.out.below b3
      have HB3 : Hid (Below _ _ _) := HB2.out.trans (b3.mono HB2.out.size)
      have HL3 : Hid (Ints _ _ _ _) := HL2.out.below b3
      have HT3 : Hid (Tabs3 _) := HT2.out.below b3
      have EL := entry_any (HE2.out.below b3) HL3.out hn hl hr
      clear RN HX2 HB2 HE2 HL2 HT2 b3 hr
      obtain ⟨_, ⟨p0, p1, p2⟩, _, _⟩ := HX.out.facts
      cases ho : entOf es l with
      | some e =>
        rw [ho] at EL
        have HO : Hid (elemOk es lv l = some e) := HF.out.trans (elemE_of ho)
        unfold elRes elOf elV at EL
        simp only [Option.getD_some, Option.isSome_some] at EL
        clear HF ho hg HL3 HT3
        go_wp2_with fail
        refine EL.mono ?_
        rintro e' w4 ⟨rfl, b4⟩
        have hx := HX.out.below b4
        have b5 := HB3.out.trans (b4.mono HB3.out.size)
        clear EL HX HB3 b4 p0 p1 p2
        obtain ⟨⟨n1, n2⟩, _, ⟨q0, q1, q2, q3⟩, f0⟩ := hx.facts
        clear hx
        go_wp2
        refine bodyPost_ret (v := .tuple #[.agg #[.int .i64 e.first, .int .i64 e.second, .int .i64 e.third, .bool e.varies], .bool true]) ?_ rfl ⟨ret_e HO.out, below_res4a b5 _ _ _ _ _⟩
        rw [results_cell_tmp rfl]
        go_simp
      | none =>
        rw [ho] at EL
        unfold elRes elOf elV at EL
        simp only [Option.getD_none, Option.isSome_none] at EL
        have ha := atE_of_none ho
        clear ho
        by_cases h1 : l.length = 1
        · obtain ⟨r, rfl⟩ : ∃ r, l = [r] := List.length_eq_one_iff.1 h1
          obtain ⟨g, cap, rfl⟩ := ints_some HL3.out (by simp)
          have HO : Hid (elemOk es lv [r] = one3 (base r)) := HF.out.trans (elemE_base ha)
          have hr3 := hg r (by simp)
          clear HF ha hg hll h1 hl
          simp only [List.length_singleton] at *
          go_wp2_with fail
          refine EL.mono ?_
          rintro e' w4 ⟨rfl, b4⟩
          have hal := (Below.refl w4.heap.size w4).alloc (Nat.le_refl _) (.cells #[.int .i64 0, .int .i64 0, .int .i64 0, .bool false] 28)
          have HX4 : Hid (Box4 _ _ _ _ _ _) := (HX.out.below b4).below hal
          have HB4 := HB3.out.trans (b4.mono HB3.out.size)
          have HB5 : Hid (Below _ _ _) := HB4.trans (hal.mono HB4.size)
          have c0 : w4.cell? ⟨g, 0, none⟩ = some (.int .i64 r) := by
            have h3 := World.ownsRow.cellAt (n := 1) (HL3.out.below b4) 0 (by omega)
            rw [h3]; rfl
          have glt : g < w4.heap.size := (World.ownsRow.lt (HL3.out.below b4) g rfl).2
          have BS := baseElem_any r hr3.1 hr3.2.1 hr3.2.2 _ ((HT3.out.below b4).below hal).1
          clear EL HX HB3 HB4 b4 p0 p1 p2 HL3 HT3 hal
          obtain ⟨o, HO2⟩ : ∃ o, Hid (one3 (base r) = o) := ⟨_, rfl⟩
          rw [HO2.out] at BS
          have HO3 : Hid (elemOk es lv [r] = o) := HO.out.trans HO2.out
          clear HO HO2
          unfold elRes elV at BS
          go_wp2_with fail
          refine BS.mono ?_
          rintro e' w5 ⟨rfl, b5⟩
          have hx := HX4.out.below b5
          have b6 := HB5.out.trans (b5.mono HB5.out.size)
          clear BS HX4 HB5 b5 c0 glt
          obtain ⟨⟨n1, n2⟩, _, ⟨q0, q1, q2, q3⟩, f0⟩ := hx.facts
          clear hx
          go_wp2
          refine bodyPost_ret (v := elRes o) ?_ rfl ⟨by rw [HO3.out], below_res4 b6 _ _ _ _⟩
          rw [results_cell_tmp rfl]
          unfold elRes elV
          go_simp
        · have HO : Hid (elemOk es lv l = none) := HF.out.trans (elemE_far ha h1)
          obtain ⟨a, c, rfl⟩ : ∃ a c, vl = .slice a l.length c := by
            rcases HL3.out.form with ⟨rfl, rfl⟩ | ⟨g, cap, rfl, _, _⟩
            · exact ⟨_, _, rfl⟩
            · exact ⟨_, _, rfl⟩
          have h2 : (1 : Int) < (l.length : Int) := by omega
          clear HF ha hg HL3 HT3 h1
          go_wp2_with fail
          refine EL.mono ?_
          rintro e' w4 ⟨rfl, b4⟩
          have hx := HX.out.below b4
          have b5 := HB3.out.trans (b4.mono HB3.out.size)
          clear EL HX HB3 b4 p0 p1 p2
          obtain ⟨⟨n1, n2⟩, _, ⟨q0, q1, q2, q3⟩, f0⟩ := hx.facts
          clear hx
          go_wp2
          refine bodyPost_ret (v := .tuple #[.agg #[.int .i64 0, .int .i64 0, .int .i64 0, .bool false], .bool false]) ?_ rfl ⟨ret_e0 HO.out, below_res4a b5 _ _ _ _ _⟩
          rw [results_cell_tmp rfl]
          go_simp
end Go.Proofs.YtdnelneamnmcnafDoor
