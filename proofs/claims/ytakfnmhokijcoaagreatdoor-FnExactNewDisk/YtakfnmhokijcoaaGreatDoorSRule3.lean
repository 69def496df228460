/- Contract of the specification's l3Elem. -/
import Derived.Test.YtakfnmhokijcoaaGreatDoorSEl3
namespace Go.Proofs.YtakfnmhokijcoaaGreatDoor
open Go.RowKit

set_option maxRecDepth 100000 in
set_option maxHeartbeats 4000000 in
theorem elem3_any {w : World} {B B' : Nat} {v : Value} {es : List Ent} {sh : Bool} {lv : Int} {vl : Value} {l : List Int} (hE : Ents w B v es) (hL : Ints w B' vl l) (hn : es.length ≤ 1048576) (hl : l.length ≤ 1048576) (hr : ∀ e ∈ es, e.runes.length ≤ 1048576) (hg : ∀ x ∈ l, 0 ≤ x ∧ x ≤ 1114111) :
    Calls Tryz.prog 20 #[.agg #[v, .bool sh, .int .i64 lv], vl] w fun e w' => e = .returned (elRes (elemE es l)) ∧ Below w.heap.size w w' := by
  have hba := ((Below.refl w.heap.size w).alloc (Nat.le_refl _) (.cells #[v, .bool sh, .int .i64 lv] 32)).alloc (by simp) (.cells #[.int .i64 0, .int .i64 0, .int .i64 0, .bool false] 41)
  have AT := at3_any (sh := sh) (lv := lv) (hE.below hba) (hL.below hba) hn hl hr
  have HX0 : Hid (Box4 _ _ _ _ _ _) := box4_new w v sh lv
  have HB : Hid (Below _ _ _) := hba
  have HE0 : Hid (Ents _ _ _ _) := hE.below hba
  have HL0 : Hid (Ints _ _ _ _) := hL.below hba
  clear hba
  rcases atE_cases es l with ha | ⟨i, e, he, ha⟩
  · rw [ha] at AT
    by_cases h1 : l.length = 1
    · obtain ⟨r, rfl⟩ : ∃ r, l = [r] := List.length_eq_one_iff.1 h1
      obtain ⟨g, cap, rfl⟩ := ints_some hL (by simp)
      have HF : Hid (elemE es [r] = one3 (base r)) := elemE_base ha
      have BS := fun w => specBase_any r (hg r (by simp)).1 (hg r (by simp)).2 w
      clear hE hL hr hg ha hl HE0
      simp only [List.length_singleton] at *
      generalize base r = bs at *
      go_enter Tryz.func20, Tryz.ntmps20
      go_wp2_with fail
      refine AT.mono ?_
      rintro e' w2 ⟨rfl, b2⟩
      have c0 : w2.cell? ⟨g, 0, none⟩ = some (.int .i64 r) := by
        have h3 := World.ownsRow.cellAt (n := 1) (HL0.out.below b2) 0 (by omega)
        rw [h3]; rfl
      have HX : Hid (Box4 _ _ _ _ _ _) := HX0.out.below b2
      have HC : Hid (Below _ _ _) := HB.out.trans (b2.mono HB.out.size)
      clear AT HL0 HX0 HB b2
      go_wp2_with fail
      refine (BS _).mono ?_
      rintro e' w3 ⟨v3, rfl, hI, b3⟩
      have hx := HX.out.below b3
      have b4 := HC.out.trans (b3.mono HC.out.size)
      clear BS c0 b3 HX HC
      obtain ⟨⟨n1, n2⟩, _, ⟨q0, q1, q2, q3⟩, f0⟩ := hx.facts
      clear hx
      match bs, HF, hI with
      | [], HF, hI =>
        have HO : Hid (elemE es [r] = none) := HF.out
        clear HF
        rcases hI.form with ⟨rfl, _⟩ | ⟨g3, cap3, rfl, _, _⟩
        · clear hI
          go_wp2
          refine bodyPost_ret (v := .tuple #[.agg #[.int .i64 0, .int .i64 0, .int .i64 0, .bool false], .bool false]) ?_ rfl ⟨ret_e0 HO.out, below_res4 b4 _ _ _ _⟩
          rw [results_cell_tmp rfl]
          go_simp
        · clear hI
          go_wp2
          refine bodyPost_ret (v := .tuple #[.agg #[.int .i64 0, .int .i64 0, .int .i64 0, .bool false], .bool false]) ?_ rfl ⟨ret_e0 HO.out, below_res4 b4 _ _ _ _⟩
          rw [results_cell_tmp rfl]
          go_simp
      | [x], HF, hI =>
        rcases hI.form with ⟨_, h⟩ | ⟨g3, cap3, rfl, _, _⟩
        · cases h
        · obtain ⟨a0, a1, a2, a3⟩ := hI.cells 0 x rfl
          simp only [Nat.zero_mul, Nat.zero_add] at a0 a1 a2 a3
          clear hI
          by_cases hf : x.first = 0
          · have HO : Hid (elemE es [r] = none) := HF.out.trans (if_pos hf)
            clear HF
            rw [hf] at a0
            go_wp2
            refine bodyPost_ret (v := .tuple #[.agg #[.int .i64 0, .int .i64 0, .int .i64 0, .bool false], .bool false]) ?_ rfl ⟨ret_e0 HO.out, below_res4 b4 _ _ _ _⟩
            rw [results_cell_tmp rfl]
            go_simp
          · have HO : Hid (elemE es [r] = some x) := HF.out.trans (if_neg hf)
            clear HF
            have hf2 : (x.first == 0) = false := by simpa using hf
            go_wp2
            refine bodyPost_ret (v := .tuple #[.agg #[.int .i64 x.first, .int .i64 x.second, .int .i64 x.third, .bool x.varies], .bool true]) ?_ rfl ⟨ret_e HO.out, below_res4 b4 _ _ _ _⟩
            rw [results_cell_tmp rfl]
            go_simp
      | x :: y :: zs, HF, hI =>
        have HO : Hid (elemE es [r] = none) := HF.out
        clear HF
        rcases hI.form with ⟨_, h⟩ | ⟨g3, cap3, rfl, _, _⟩
        · cases h
        · simp only [List.length_cons]
          clear hI
          have hz : ((zs.length + 1 + 1 : Nat) : Int) ≠ 1 := by omega
          go_wp2
          refine bodyPost_ret (v := .tuple #[.agg #[.int .i64 0, .int .i64 0, .int .i64 0, .bool false], .bool false]) ?_ rfl ⟨ret_e0 HO.out, below_res4 b4 _ _ _ _⟩
          rw [results_cell_tmp rfl]
          go_simp
    · have HF : Hid (elemE es l = none) := elemE_far ha h1
      obtain ⟨a, c, rfl⟩ : ∃ a c, vl = .slice a l.length c := by
        rcases hL.form with ⟨rfl, rfl⟩ | ⟨g, cap, rfl, _, _⟩
        · exact ⟨_, _, rfl⟩
        · exact ⟨_, _, rfl⟩
      have h2 : ((l.length : Int) != 1) = true := by simp; omega
      clear hE hL hr hg ha h1 HE0 HL0
      go_enter Tryz.func20, Tryz.ntmps20
      go_wp2_with fail
      refine AT.mono ?_
      rintro e' w2 ⟨rfl, b2⟩
      have hx := HX0.out.below b2
      have b4 := HB.out.trans (b2.mono HB.out.size)
      clear AT HX0 HB
      obtain ⟨⟨n1, n2⟩, _, ⟨q0, q1, q2, q3⟩, f0⟩ := hx.facts
      clear hx
      go_wp2
      refine bodyPost_ret (v := .tuple #[.agg #[.int .i64 0, .int .i64 0, .int .i64 0, .bool false], .bool false]) ?_ rfl ⟨ret_e0 HF.out, below_res4 b4 _ _ _ _⟩
      rw [results_cell_tmp rfl]
      go_simp
  · have HF : Hid (elemE es l = some e.el) := elemE_hit he ha
    rw [ha] at AT
    have hi := (List.getElem?_eq_some_iff.1 he).1
    rcases hE.form with ⟨_, rfl⟩ | ⟨g, cap, rfl, hc, hc2, _, _⟩
    · simp at hi
    · clear hE hL hr hg ha
      have hi2 : (i : Int) < (es.length : Int) := by omega
      go_enter Tryz.func20, Tryz.ntmps20
      go_wp2_with fail
      refine AT.mono ?_
      rintro e' w2 ⟨rfl, b2⟩
      have hx := HX0.out.below b2
      have b4 := HB.out.trans (b2.mono HB.out.size)
      obtain ⟨x, hI, a0, a1, a2, a3, a4⟩ := (HE0.out.below b2).cells i e he
      clear AT HX0 HB HE0 HL0 hI he
      obtain ⟨⟨n1, n2⟩, ⟨p0, p1, p2⟩, ⟨q0, q1, q2, q3⟩, f0⟩ := hx.facts
      clear hx
      go_wp2
      refine bodyPost_ret (v := .tuple #[.agg #[.int .i64 e.el.first, .int .i64 e.el.second, .int .i64 e.el.third, .bool e.el.varies], .bool true]) ?_ rfl ⟨ret_e HF.out, below_res4 b4 _ _ _ _⟩
      rw [results_cell_tmp rfl]
      go_simp

/-- What ElemOf answers. -/
def elemOk (es : List Ent) (lv : Int) (l : List Int) : Option El := if rulesOk es lv = true ∧ runesOk l = true then elemE es l else none

theorem runesOk_good {l : List Int} (h : runesOk l = true) : ∀ x ∈ l, 0 ≤ x ∧ x ≤ 1114111 := by
  unfold runesOk at h
  rw [Bool.and_eq_true, Bool.and_eq_true] at h
  intro x hx
  have := (okR_true h.2.1).2 x hx
  exact ⟨(goodB_true this).1, (goodB_true this).2.1⟩

end Go.Proofs.YtakfnmhokijcoaaGreatDoor
