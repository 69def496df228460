/- Contracts of the program's weightOf and baseElem: what a good rune weighs. -/
import Derived.Test.YtddelohmppdndaaGreatDoorIIdx
import Derived.Test.YtddelohmppdndaaGreatDoorIClass
import Derived.Test.YtddelohmppdndaaGreatDoorResC
import Derived.Test.YtddelohmppdndaaGreatDoorSEl3
namespace Go.Proofs.YtddelohmppdndaaGreatDoor
open Go.RowKit

set_option maxRecDepth 100000 in
set_option maxHeartbeats 1000000 in
theorem plainElem_any (n : Int) (w : World) : Calls Tryz.prog 105 #[.int .i64 n] w fun e w' => e = .returned (.agg #[.int .i64 n, .int .i64 32, .int .i64 2, .bool false]) ∧ Below w.heap.size w w' := by
  go_enter Tryz.func105, Tryz.ntmps105
  go_wp2
  refine bodyPost_ret (v := .agg #[.int .i64 n, .int .i64 32, .int .i64 2, .bool false]) ?_ rfl ⟨rfl, (Below.refl _ _).alloc (Nat.le_refl _) _⟩
  rw [results_cell1 rfl]
  go_simp

/-- The interface value of what a rune weighs. -/
def wtV : List El → Value
  | [] => .iface 143 (.agg #[])
  | [e] => .iface 146 (.agg #[.int .i64 e.first, .int .i64 e.second, .int .i64 e.third, .bool e.varies])
  | e :: f :: _ => .iface 149 (.agg #[.int .i64 e.first, .int .i64 e.second, .int .i64 e.third, .bool e.varies, .int .i64 f.first, .int .i64 f.second, .int .i64 f.third, .bool f.varies])

theorem ret_w {x y : Value} (h : x = y) : Ending.returned x = .returned y := by rw [h]

set_option maxRecDepth 100000 in
set_option maxHeartbeats 2000000 in
theorem weight_ctl (r : Int) (h0 : 0 ≤ r) (h : r ≤ 31 ∨ r = 127) (w : World) :
    Calls Tryz.prog 97 #[.int .i64 r] w fun e w' => e = .returned (wtV (base r)) ∧ Below w.heap.size w w' := by
  rw [base_ctl h0 h]
  unfold wtV
  by_cases h1 : r ≤ 31
  · clear h
    go_enter Tryz.func97, Tryz.ntmps97
    go_wp2
    go_ret
    exact ⟨rfl, Below.refl _ _⟩
  · have h2 : r = 127 := by omega
    subst h2
    clear h h0 h1
    go_enter Tryz.func97, Tryz.ntmps97
    go_wp2
    go_ret
    exact ⟨rfl, Below.refl _ _⟩

set_option maxRecDepth 100000 in
set_option maxHeartbeats 2000000 in
theorem weight_vs (r : Int) (i : Nat) (h : placeIn vsl r = some i) (hr : r ∈ vsl) (w : World) :
    Calls Tryz.prog 97 #[.int .i64 r] w fun e w' => e = .returned (wtV (base r)) ∧ Below w.heap.size w w' := by
  obtain ⟨b0, b1, _, _, _⟩ := vsl_bd r hr
  have hi : i < 9 := by unfold placeIn at h; exact (List.findIdx?_eq_some_iff_getElem.1 h).1
  have I := fun w => idxRune_any r (by omega) (by omega) (by omega) w
  have e : idxV r = (i : Int) := by unfold idxV; rw [h]
  rw [e] at I
  rw [base_vs h]
  unfold wtV
  have h1 : ¬ r ≤ 31 := by omega
  have h2 : (r == 127) = false := by simp; omega
  have HC : Hid ((i : Int) + 1 = 1 + (i : Int)) := by show _ = _; omega
  clear h hr e
  go_enter Tryz.func97, Tryz.ntmps97
  go_wp2_with fail
  refine (I _).mono ?_
  rintro e w1 ⟨rfl, b1⟩
  clear I
  go_wp2
  go_ret
  exact ⟨ret_w (by rw [HC.out]; rfl), b1⟩

set_option maxRecDepth 100000 in
set_option maxHeartbeats 2000000 in
theorem weight_digit (r : Int) (h : 48 ≤ r ∧ r ≤ 57) (w : World) :
    Calls Tryz.prog 97 #[.int .i64 r] w fun e w' => e = .returned (wtV (base r)) ∧ Below w.heap.size w w' := by
  have I := fun w => idxRune_any r (by omega) (by omega) (by omega) w
  have P := fun n w => plainElem_any n w
  have e : idxV r = -1 := by unfold idxV; rw [place_out fun c => (vsl_bd r c).2.2.1 h]
  rw [e] at I
  rw [base_digit h]
  unfold wtV
  obtain ⟨h1, h2⟩ := h
  have h3 : ¬ r ≤ 31 := by omega
  have h4 : (r == 127) = false := by simp; omega
  have HC : Hid (2000 + (r - 48) * 100 = 2000 + 100 * (r - 48)) := by show _ = _; omega
  clear e
  go_enter Tryz.func97, Tryz.ntmps97
  go_wp2_with fail
  refine (I _).mono ?_
  rintro e w1 ⟨rfl, b1⟩
  clear I
  go_wp2_with fail
  refine (P _ _).mono ?_
  rintro e w2 ⟨rfl, b2⟩
  clear P
  go_wp2
  go_ret
  exact ⟨ret_w (by rw [HC.out]; rfl), b1.trans (b2.mono b1.size)⟩

set_option maxRecDepth 100000 in
set_option maxHeartbeats 2000000 in
theorem weight_small (r : Int) (h : 97 ≤ r ∧ r ≤ 122) (w : World) :
    Calls Tryz.prog 97 #[.int .i64 r] w fun e w' => e = .returned (wtV (base r)) ∧ Below w.heap.size w w' := by
  have I := fun w => idxRune_any r (by omega) (by omega) (by omega) w
  have P := fun n w => plainElem_any n w
  have e : idxV r = -1 := by unfold idxV; rw [place_out fun c => (vsl_bd r c).2.2.2.1 h]
  rw [e] at I
  rw [base_small h]
  unfold wtV
  obtain ⟨h1, h2⟩ := h
  have h3 : ¬ r ≤ 31 := by omega
  have h4 : (r == 127) = false := by simp; omega
  have h5 : ¬ r ≤ 57 := by omega
  have HC : Hid (4000 + (r - 97) * 200 = 4000 + 200 * (r - 97)) := by show _ = _; omega
  clear e
  go_enter Tryz.func97, Tryz.ntmps97
  go_wp2_with fail
  refine (I _).mono ?_
  rintro e w1 ⟨rfl, b1⟩
  clear I
  go_wp2_with fail
  refine (P _ _).mono ?_
  rintro e w2 ⟨rfl, b2⟩
  clear P
  go_wp2
  go_ret
  exact ⟨ret_w (by rw [HC.out]; rfl), b1.trans (b2.mono b1.size)⟩

set_option maxRecDepth 100000 in
set_option maxHeartbeats 2000000 in
theorem weight_cap (r : Int) (h : 65 ≤ r ∧ r ≤ 90) (w : World) :
    Calls Tryz.prog 97 #[.int .i64 r] w fun e w' => e = .returned (wtV (base r)) ∧ Below w.heap.size w w' := by
  have I := fun w => idxRune_any r (by omega) (by omega) (by omega) w
  have P := fun n w => plainElem_any n w
  have e : idxV r = -1 := by unfold idxV; rw [place_out fun c => (vsl_bd r c).2.2.2.2 h]
  rw [e] at I
  rw [base_cap h]
  unfold wtV
  obtain ⟨h1, h2⟩ := h
  have h3 : ¬ r ≤ 31 := by omega
  have h4 : (r == 127) = false := by simp; omega
  have h5 : ¬ r ≤ 57 := by omega
  have h6 : ¬ 97 ≤ r := by omega
  have HC : Hid (4000 + (r - 65) * 200 = 4000 + 200 * (r - 65)) := by show _ = _; omega
  clear e
  go_enter Tryz.func97, Tryz.ntmps97
  go_wp2_with fail
  refine (I _).mono ?_
  rintro e w1 ⟨rfl, b1⟩
  clear I
  go_wp2_with fail
  refine (P _ _).mono ?_
  rintro e w2 ⟨rfl, b2⟩
  clear P
  have b3 := b1.trans (b2.mono b1.size)
  go_wp2
  go_ret
  exact ⟨ret_w (by rw [HC.out]; rfl), b3.alloc b3.size _⟩

theorem mkl_at (k : Nat) (hk : k < 15) : mkl[k]? = some (at0 (marksT.getD k []) 0) := by
  iterate 15 (rcases k with _ | k; · rfl)
  omega

set_option maxRecDepth 100000 in
set_option maxHeartbeats 4000000 in
theorem weight_far (r : Int) (h0 : 0 ≤ r) (hr1 : r ≤ 1114111) (hs : ¬ (55296 ≤ r ∧ r ≤ 57343)) (hv : placeIn vsl r = none) (h1 : ¬ (r ≤ 31 ∨ r = 127)) (h2 : ¬ (48 ≤ r ∧ r ≤ 57)) (h3 : ¬ (97 ≤ r ∧ r ≤ 122)) (h4 : ¬ (65 ≤ r ∧ r ≤ 90)) (w : World) (hm : Held w 0 marksF) :
    Calls Tryz.prog 97 #[.int .i64 r] w fun e w' => e = .returned (wtV (base r)) ∧ Below w.heap.size w w' := by
  have I := fun w => idxRune_any r h0 hr1 hs w
  have P := fun n w => plainElem_any n w
  have e : idxV r = -1 := by unfold idxV; rw [hv]
  rw [e] at I
  have B2 : Hid (placeIn mkl r = none → base r = [⟨60000 + r / 32768, 32, 2, false⟩, ⟨32768 + r % 32768, 0, 0, false⟩]) := fun h => base_two hv h h1 h2 h3 h4
  have BM : Hid (∀ i, placeIn mkl r = some i → base r = [⟨0, 40 + (i : Int), 2, false⟩]) := fun i h => base_mk hv h
  have c1 : ¬ r ≤ 31 := fun c => h1 (.inl c)
  have c2 : (r == 127) = false := by simp; omega
  have cs : r < 48 ∨ (57 < r ∧ r < 65) ∨ (90 < r ∧ r < 97) ∨ 122 < r := by omega
  have hq : Int.tdiv r 32768 = r / 32768 := Int.tdiv_eq_ediv_of_nonneg h0
  have hp : Int.tmod r 32768 = r % 32768 := Int.tmod_eq_emod_of_nonneg h0
  clear e h1 hv hs h2 h3 h4
  rcases cs with d | ⟨d, d'⟩ | ⟨d, d'⟩ | d
  all_goals
    go_enter Tryz.func97, Tryz.ntmps97
    go_wp2_with fail
    refine (I _).mono ?_
    rintro e w1 ⟨rfl, b1⟩
    clear I
    obtain ⟨t, fr, hh0⟩ := hm.below b1 hm.lt
    have hh : w1.heap[0]? = some (.cells marksA t fr) := hh0
    clear hh0 hm
    go_wp2_with (refine wpList_load_row rfl 115 (.global 0) rfl 0 rfl t marksA fr _ hh Tryz.underlying115 rfl (by kernel_rfl) ?_)
    clear hh
    go_loopw [67] (fun i wr => ∃ k : Nat, k ≤ 15 ∧ i = .int .i64 k ∧ Hid (NotYet mkl r k) ∧ Below w.heap.size w wr) (fun i _ => 15 - (intOf i).toNat)
    case atStart => exact ⟨0, Nat.zero_le _, rfl, fun j x hj => by omega, b1⟩
    case round =>
      obtain ⟨k, hk, rfl, HN, hb⟩ := hrel
      by_cases hlt : k < 15
      · have hi := fun w => marks_index k hlt w
        have HX : Hid (mkl[k]? = some (at0 (marksT.getD k []) 0)) := mkl_at k hlt
        generalize at0 (marksT.getD k []) 0 = a at *
        generalize at0 (marksT.getD k []) 1 = b at *
        have hk8 : (k : Int) < 15 := by omega
        by_cases e : a = r
        · subst e
          have HR : Hid (base a = [⟨0, 40 + (k : Int), 2, false⟩]) := BM.out k (place_hit HN.out HX.out)
          clear HN HX B2 BM P
          go_wp2
          go_ret
          rw [HR.out]
          exact ⟨rfl, hb.alloc hb.size _⟩
        · have e2 : (a == r) = false := by simpa using e
          have HN2 : Hid (NotYet mkl r (k + 1)) := HN.out.succ HX.out e
          clear e HN HX B2 BM P
          go_wp2
          exact ⟨⟨k + 1, by omega, by go_num, HN2, hb.alloc hb.size _⟩, by simp [intOf]; omega⟩
      · have HR : Hid (base r = [⟨60000 + r / 32768, 32, 2, false⟩, ⟨32768 + r % 32768, 0, 0, false⟩]) := B2.out (place_none HN.out (by show 15 ≤ k; omega))
        clear HN B2 BM
        go_wp2_with fail
        refine (P _ _).mono ?_
        rintro e w2 ⟨rfl, b2⟩
        clear P
        go_wp2
        go_ret
        rw [HR.out]
        exact ⟨rfl, hb.trans (b2.mono hb.size)⟩

theorem weight_any (r : Int) (h0 : 0 ≤ r) (h1 : r ≤ 1114111) (hs : ¬ (55296 ≤ r ∧ r ≤ 57343)) (w : World) (hm : Held w 0 marksF) :
    Calls Tryz.prog 97 #[.int .i64 r] w fun e w' => e = .returned (wtV (base r)) ∧ Below w.heap.size w w' := by
  by_cases c : r ≤ 31 ∨ r = 127
  · exact weight_ctl r h0 c w
  · by_cases v : r ∈ vsl
    · obtain ⟨i, hi, _⟩ := place_in v
      exact weight_vs r i hi v w
    · by_cases d : 48 ≤ r ∧ r ≤ 57
      · exact weight_digit r d w
      · by_cases s : 97 ≤ r ∧ r ≤ 122
        · exact weight_small r s w
        · by_cases u : 65 ≤ r ∧ r ≤ 90
          · exact weight_cap r u w
          · exact weight_far r h0 h1 hs (place_out v) c d s u w hm
end Go.Proofs.YtddelohmppdndaaGreatDoor
