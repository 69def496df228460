/- Contract of the specification's ElemOf. -/
import Derived.Test.YtdnelneamnmcnafDoorSRule3
namespace Go.Proofs.YtdnelneamnmcnafDoor
open Go.RowKit

set_option maxRecDepth 100000 in
set_option maxHeartbeats 4000000 in
theorem elemOf_any {w : World} {B B' : Nat} {v : Value} {es : List Ent} {sh : Bool} {lv : Int} {vl : Value} {l : List Int} (hE : Ents w B v es) (hL : Ints w B' vl l) (hn : es.length ≤ 1048576) (hl : l.length ≤ 1048576) (hr : ∀ e ∈ es, e.runes.length ≤ 1048576) :
    Calls Tryd.prog 5 #[.agg #[v, .bool sh, .int .i64 lv], vl] w fun e w' => e = .returned (elRes (elemOk es lv l)) ∧ Below w.heap.size w w' := by
  have hba := ((Below.refl w.heap.size w).alloc (Nat.le_refl _) (.cells #[v, .bool sh, .int .i64 lv] 33)).alloc (by simp) (.cells #[.int .i64 0, .int .i64 0, .int .i64 0, .bool false] 28)
  have HX0 : Hid (Box4 _ _ _ _ _ _) := box4_new w v sh lv
  have HB : Hid (Below _ _ _) := hba
  have HE : Hid (Ents _ _ _ _) := hE.below hba
  have HL : Hid (Ints _ _ _ _) := hL.below hba
  have GR := good3_any (sh := sh) (lv := lv) (hE.below hba) hr
  clear hba hE hL
  cases hro : rulesOk es lv
  · rw [hro] at GR
    have HF : Hid (elemOk es lv l = none) := by show _ = _; unfold elemOk; rw [if_neg (by simp [hro])]
    clear hr HE HL hro
    go_enter Tryd.func5, Tryd.ntmps5
    go_wp2_with fail
    refine GR.mono ?_
    rintro e' w2 ⟨rfl, b2⟩
    have hx := HX0.out.below b2
    have b4 := HB.out.trans (b2.mono HB.out.size)
    clear GR HX0 HB b2
    obtain ⟨⟨n1, n2⟩, _, ⟨q0, q1, q2, q3⟩, f0⟩ := hx.facts
    clear hx
    go_wp2
    refine bodyPost_ret (v := .tuple #[.agg #[.int .i64 0, .int .i64 0, .int .i64 0, .bool false], .bool false]) ?_ rfl ⟨ret_e0 HF.out, below_res4 b4 _ _ _ _⟩
    rw [results_cell_tmp rfl]
    go_simp
  · rw [hro] at GR
    go_enter Tryd.func5, Tryd.ntmps5
    go_wp2_with fail
    refine GR.mono ?_
    rintro e' w2 ⟨rfl, b2⟩
    have HX2 : Hid (Box4 _ _ _ _ _ _) := HX0.out.below b2
    have HB2 : Hid (Below _ _ _) := HB.out.trans (b2.mono HB.out.size)
    have HE2 : Hid (Ents _ _ _ _) := HE.out.below b2
    have HL2 : Hid (Ints _ _ _ _) := HL.out.below b2
    have RN := runes3_any hl HL2.out
    clear GR HX0 HB HE HL b2
    cases hru : runesOk l
    · rw [hru] at RN
      have HF : Hid (elemOk es lv l = none) := by show _ = _; unfold elemOk; rw [if_neg (by simp [hru])]
      clear hr HE2 HL2 hro hru
      go_wp2_with fail
      refine RN.mono ?_
      rintro e' w3 ⟨rfl, b3⟩
      have hx := HX2.out.below b3
      have b4 := HB2.out.trans (b3.mono HB2.out.size)
      clear RN HX2 HB2 b3
      obtain ⟨⟨n1, n2⟩, _, ⟨q0, q1, q2, q3⟩, f0⟩ := hx.facts
      clear hx
      go_wp2
      refine bodyPost_ret (v := .tuple #[.agg #[.int .i64 0, .int .i64 0, .int .i64 0, .bool false], .bool false]) ?_ rfl ⟨ret_e0 HF.out, below_res4 b4 _ _ _ _⟩
      rw [results_cell_tmp rfl]
      go_simp
    · rw [hru] at RN
      have HF : Hid (elemOk es lv l = elemE es l) := by show _ = _; unfold elemOk; rw [if_pos ⟨hro, hru⟩]
      have hg := runesOk_good hru
      clear hro hru
      go_wp2_with fail
      refine RN.mono ?_
      rintro e' w3 ⟨rfl, b3⟩
      have HX : Hid (Box4 _ _ _ _ _ _) := HX2.out.below b3
      have HB3 : Hid (Below _ _ _) := HB2.out.trans (b3.mono HB2.out.size)
      have EL := elem3_any (sh := sh) (lv := lv) (HE2.out.below b3) (HL2.out.below b3) hn hl hr hg
      clear RN HX2 HB2 HE2 HL2 b3 hr hg
      obtain ⟨o, HO⟩ : ∃ o, Hid (elemOk es lv l = o) := ⟨_, rfl⟩
      rw [← HF.out, HO.out] at EL
      clear HF
      unfold elRes elV at EL
      obtain ⟨_, ⟨p0, p1, p2⟩, _, _⟩ := HX.out.facts
      go_wp2_with fail
      refine EL.mono ?_
      rintro e' w4 ⟨rfl, b4⟩
      have hx := HX.out.below b4
      have b5 := HB3.out.trans (b4.mono HB3.out.size)
      clear EL HX HB3 b4 p0 p1 p2
      obtain ⟨⟨n1, n2⟩, _, ⟨q0, q1, q2, q3⟩, f0⟩ := hx.facts
      clear hx
      go_wp2
      refine bodyPost_ret (v := elRes o) ?_ rfl ⟨by rw [HO.out], below_res4 b5 _ _ _ _⟩
      rw [results_cell_tmp rfl]
      unfold elRes elV
      go_simp
end Go.Proofs.YtdnelneamnmcnafDoor
