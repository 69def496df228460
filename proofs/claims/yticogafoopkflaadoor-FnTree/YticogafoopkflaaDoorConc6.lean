/- Contract of slices.Concat of two lists of Rows. -/
import Derived.Test.YticogafoopkflaaDoorRwApp
import Derived.Lib.AppendZeros
namespace Go.Proofs.YticogafoopkflaaDoor
open Go.RowKit

theorem zc3_size (n : Nat) : (Builtin.zeroCells #[.string ⟨#[]⟩, .string ⟨#[]⟩, .string ⟨#[]⟩] n).size = n * 3 := by simp [Builtin.zeroCells]

set_option maxRecDepth 100000 in
set_option maxHeartbeats 2000000 in
/-- slices.Grow of nothing. -/
theorem growR_none (w : World) (n : Nat) (hn : n ≤ 1048576) :
    Calls Tryd.prog 86 #[.slice none 0 0, .int .i64 n] w fun e w' => ∃ v, e = .returned v ∧ Rws w' w.heap.size v [] ∧ Below w.heap.size w w' := by
  by_cases h0 : 0 < n
  · obtain ⟨i0, hi, hzz, hz1, hz2⟩ := info_parts info_rwA
    have hn8 : (0 : Int) < (n : Int) := by omega
    go_enter Tryd.func86, Tryd.ntmps86
    go_wp2_with (at_builtin; refine Go.Lib.wpList_append_run _ rfl _ _ 23 3 rfl _ _ rfl rfl _ _ (Go.Lib.run_append_nil_zeros _ 23 3 _ 32 i0 (.agg #[.string ⟨#[]⟩, .string ⟨#[]⟩, .string ⟨#[]⟩]) .i64 .i64 Tryd.underlying23 Tryd.underlying3 hi hzz n h0 (by rw [hz1]; decide) (by omega) (by rw [hz2]; omega)) ?_)
    go_ret
    refine ⟨_, rfl, ⟨rfl, .inr ⟨w.heap.size, _, _, rfl, Nat.le_refl _, heap_alloc_new _ _, Nat.zero_le _, grownCap_le_maxLen w n 0 _ (by unfold maxLen; omega), ?_, rfl⟩⟩, ((Below.refl _ _).alloc (Nat.le_refl _) _).drew⟩
    have := grownCap_ge w n 0 32
    rw [Array.size_append, zc3_size, zc3_size]
    omega
  · obtain rfl : n = 0 := by omega
    go_enter Tryd.func86, Tryd.ntmps86
    go_wp2
    go_ret
    exact ⟨_, rfl, ⟨rfl, .inl ⟨rfl, rfl⟩⟩, Below.refl _ _⟩

set_option maxRecDepth 100000 in
set_option maxHeartbeats 2000000 in
theorem concatR_any (w : World) (tb : Nat) (x1 x2 : Value) (l1 l2 : List Rw) (hh : w.heap[tb]? = some (.cells #[x1, x2] 23)) (hl1 : l1.length ≤ 4000) (hl2 : l2.length ≤ 4000) (hr1 : SlV w x1 l1) (hr2 : SlV w x2 l2) :
    Calls Tryd.prog 79 #[.slice (some ⟨tb, 0, none⟩) 2 2] w fun e w' => ∃ v, e = .returned v ∧ Rws w' w.heap.size v (l1 ++ l2) ∧ Below w.heap.size w w' := by
  have q0 := cell_of_row _ _ 0 _ _ _ hh
  have q1 := cell_of_row _ _ 1 _ _ _ hh
  have hhl : tb < w.heap.size := (Array.getElem?_eq_some_iff.1 hh).1
  have HR1 : Hid (SlV w x1 l1) := hr1
  have HR2 : Hid (SlV w x2 l2) := hr2
  obtain ⟨a1, c1, rfl, _⟩ := hr1
  obtain ⟨a2, c2, rfl, _⟩ := hr2
  have G := fun u => growR_none u (l1.length + l2.length) (by omega)
  rw [show ((l1.length + l2.length : Nat) : Int) = (l1.length : Int) + (l2.length : Int) by omega] at G
  clear hh
  go_enter Tryd.func79, Tryd.ntmps79
  go_wp2
  go_loop [3, 11] (fun s i => (s = .int .i64 0 ∧ i = .int .i64 0) ∨ (s = .int .i64 (l1.length : Int) ∧ i = .int .i64 1) ∨ (s = .int .i64 ((l1.length : Int) + (l2.length : Int)) ∧ i = .int .i64 2)) (fun _ i => 2 - (intOf i).toNat)
  case atStart => exact .inl ⟨rfl, rfl⟩
  case round =>
    rcases hrel with ⟨rfl, rfl⟩ | ⟨rfl, rfl⟩ | ⟨rfl, rfl⟩
    · go_wp2
      exact ⟨.inr (.inl ⟨by go_num, rfl⟩), by simp [intOf]⟩
    · go_wp2
      exact ⟨.inr (.inr ⟨by go_num, rfl⟩), by simp [intOf]⟩
    · go_wp2_with fail
      refine (G _).mono ?_
      rintro e w1 ⟨v1, rfl, i1, b1⟩
      clear G
      have r0 : w1.cell? ⟨tb, 0, none⟩ = _ := (b1.cell hhl).trans q0
      have r1 : w1.cell? ⟨tb, 1, none⟩ = _ := (b1.cell hhl).trans q1
      go_wp2_with fail
      go_loopw [6, 27] (fun v i wr => (i = .int .i64 0 ∧ Rws wr w.heap.size v [] ∧ Below w.heap.size w wr) ∨ (i = .int .i64 1 ∧ Rws wr w.heap.size v l1 ∧ Below w.heap.size w wr) ∨ (i = .int .i64 2 ∧ Rws wr w.heap.size v (l1 ++ l2) ∧ Below w.heap.size w wr)) (fun _ i _ => 2 - (intOf i).toNat)
      case atStart => exact .inl ⟨rfl, i1, b1⟩
      case round =>
        clear i1 b1 r0 r1
        rcases hrel with ⟨rfl, i2, b2⟩ | ⟨rfl, i2, b2⟩ | ⟨rfl, i2, b2⟩
        · have r0 : wr.cell? ⟨tb, 0, none⟩ = _ := (b2.cell hhl).trans q0
          have hsz := b2.size
          go_wp2_with (at_builtin; refine append_rws rfl _ _ rfl w.heap.size _ (.slice a1 l1.length c1) [] l1 rfl rfl i2 (HR1.out.below b2 (Nat.le_refl _)) (by simp; omega) hsz ?_)
          intro v3 w3 ho3 hg3
          have b3 : Below w.heap.size w w3 := Below.grown b2 hg3 b2.size (fun j hj => (World.ownsRow.lt i2 j hj).1)
          have I3 : Hid (Rws w3 w.heap.size v3 l1) := ho3
          have B3 : Hid (Below _ _ _) := b3
          clear ho3 hg3 b3 i2 b2 r0
          go_wp2
          exact ⟨.inr (.inl ⟨rfl, I3.out, B3.out⟩), by simp [intOf]⟩
        · have r1 : wr.cell? ⟨tb, 1, none⟩ = _ := (b2.cell hhl).trans q1
          have hsz := b2.size
          go_wp2_with (at_builtin; refine append_rws rfl _ _ rfl w.heap.size _ (.slice a2 l2.length c2) l1 l2 rfl rfl i2 (HR2.out.below b2 (Nat.le_refl _)) (by omega) hsz ?_)
          intro v3 w3 ho3 hg3
          have b3 : Below w.heap.size w w3 := Below.grown b2 hg3 b2.size (fun j hj => (World.ownsRow.lt i2 j hj).1)
          have I3 : Hid (Rws w3 w.heap.size v3 (l1 ++ l2)) := ho3
          have B3 : Hid (Below _ _ _) := b3
          clear ho3 hg3 b3 i2 b2 r1
          go_wp2
          exact ⟨.inr (.inr ⟨rfl, I3.out, B3.out⟩), by simp [intOf]⟩
        · have I3 : Hid (Rws _ _ _ _) := i2
          have B3 : Hid (Below _ _ _) := b2
          clear i2 b2
          go_wp2
          go_ret
          exact ⟨_, rfl, I3.out, B3.out⟩
end Go.Proofs.YticogafoopkflaaDoor
