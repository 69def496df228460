/- The walk of the law FnExactPlainRules, from the program's contract (a hypothesis of the walk). -/
import Derived.Test.YtdnelneamnmcnaeInts
import Derived.Laws.ResultCell
import Derived.Deep.WholeRow
namespace Go.Proofs.Ytdnelneamnmcnae
open Go.RowKit

set_option maxRecDepth 100000 in
set_option maxHeartbeats 1000000 in
theorem specPlain_any (w : World) : Calls Try.prog 4 #[] w fun e w' => e = .returned (.agg #[.slice none 0 0, .bool false, .int .i64 3]) ∧ Below w.heap.size w w' := by
  go_enter Try.func4, Try.ntmps4
  go_wp2
  refine bodyPost_ret (v := .agg #[.slice none 0 0, .bool false, .int .i64 3]) ?_ rfl ⟨rfl, (Below.refl _ _).alloc (Nat.le_refl _) _⟩
  exact results_cell_row rfl _ _ w.heap.size 24 _ (0, 0) _ rfl (heap_alloc_new _ _) Try.underlying24 rfl (by kernel_rfl)

set_option maxRecDepth 100000 in
set_option maxHeartbeats 1000000 in
theorem eqEnt_none (w : World) (a b : Option Addr) (c d : Nat) : Calls Try.prog 9 #[.slice a 0 c, .slice b 0 d] w fun e w' => e = .returned (.bool true) ∧ w' = w := by
  go_enter Try.func9, Try.ntmps9
  go_wp2
  go_loopw [5] (fun i wr => i = .int .i64 0 ∧ wr = w) (fun _ _ => 0)
  case atStart => exact ⟨rfl, rfl⟩
  case round =>
    obtain ⟨rfl, rfl⟩ := hrel
    go_wp2
    go_ret
    exact ⟨rfl, rfl⟩

set_option maxRecDepth 100000 in
set_option maxHeartbeats 1000000 in
theorem markEnt_none (w : World) (a : Option Addr) (c : Nat) (k0 : Int) : Calls Try.prog 10 #[.slice a 0 c, .int .i64 k0] w fun e w' => e = .returned (.int .i64 k0) ∧ w' = w := by
  go_enter Try.func10, Try.ntmps10
  go_wp2
  go_loopw [1, 5] (fun k i wr => k = .int .i64 k0 ∧ i = .int .i64 0 ∧ wr = w) (fun _ _ _ => 0)
  case atStart => exact ⟨rfl, rfl, rfl⟩
  case round =>
    obtain ⟨rfl, rfl, rfl⟩ := hrel
    go_wp2
    go_ret
    exact ⟨rfl, rfl⟩

set_option maxRecDepth 100000 in
set_option maxHeartbeats 1000000 in
theorem heldEnt_none (w : World) (a : Option Addr) (c : Nat) (k0 : Int) : Calls Try.prog 11 #[.slice a 0 c, .int .i64 k0] w fun e w' => e = .returned (.int .i64 k0) ∧ w' = w := by
  go_enter Try.func11, Try.ntmps11
  go_wp2
  go_loopw [1, 5] (fun k i wr => k = .int .i64 k0 ∧ i = .int .i64 0 ∧ wr = w) (fun _ _ _ => 0)
  case atStart => exact ⟨rfl, rfl, rfl⟩
  case round =>
    obtain ⟨rfl, rfl, rfl⟩ := hrel
    go_wp2
    go_ret
    exact ⟨rfl, rfl⟩

set_option maxRecDepth 100000 in
set_option maxHeartbeats 1000000 in
theorem eqRules_plain (w : World) : Calls Try.prog 6 #[.agg #[.slice none 0 0, .bool false, .int .i64 3], .agg #[.slice none 0 0, .bool false, .int .i64 3]] w fun e w' => e = .returned (.bool true) ∧ Below w.heap.size w w' := by
  have E := fun u => eqEnt_none u none none 0 0
  go_enter Try.func6, Try.ntmps6
  go_wp2_with (go_at_call 9; refine (E _).mono ?_; rintro e w1 ⟨rfl, rfl⟩)
  go_ret
  exact ⟨rfl, ((Below.refl _ _).alloc (Nat.le_refl _) _).alloc (by simp) _⟩

set_option maxRecDepth 100000 in
set_option maxHeartbeats 1000000 in
theorem markRules_plain (w : World) : Calls Try.prog 7 #[.agg #[.slice none 0 0, .bool false, .int .i64 3], .int .i64 1] w fun e w' => e = .returned (.int .i64 1) ∧ Below w.heap.size w w' := by
  have E := fun u => markEnt_none u none 0 1
  go_enter Try.func7, Try.ntmps7
  go_wp2_with (go_at_call 10; refine (E _).mono ?_; rintro e w1 ⟨rfl, rfl⟩)
  go_ret
  exact ⟨rfl, (Below.refl _ _).alloc (Nat.le_refl _) _⟩

set_option maxRecDepth 100000 in
set_option maxHeartbeats 1000000 in
theorem heldRules_plain (w : World) : Calls Try.prog 8 #[.agg #[.slice none 0 0, .bool false, .int .i64 3], .int .i64 1] w fun e w' => e = .returned (.int .i64 1) ∧ Below w.heap.size w w' := by
  have E := fun u => heldEnt_none u none 0 1
  go_enter Try.func8, Try.ntmps8
  go_wp2_with (go_at_call 11; refine (E _).mono ?_; rintro e w1 ⟨rfl, rfl⟩)
  go_ret
  exact ⟨rfl, (Below.refl _ _).alloc (Nat.le_refl _) _⟩

/-- A block of three cells that holds the plain rules, kept. -/
def Pl (w : World) (g : Nat) : Prop := w.heap[g]? = some (.cells #[.slice none 0 0, .bool false, .int .i64 3] 24)
theorem Pl.cells {w : World} {g : Nat} (h : Pl w g) : w.cell? ⟨g, 0, none⟩ = some (.slice none 0 0) ∧ w.cell? ⟨g, 1, none⟩ = some (.bool false) ∧ w.cell? ⟨g, 2, none⟩ = some (.int .i64 3) := by
  refine ⟨?_, ?_, ?_⟩ <;> simp [World.cell?, show w.heap[g]? = _ from h]
theorem Pl.below {w w' : World} {g : Nat} (h : Pl w g) (hb : Below w.heap.size w w') : Pl w' g := by
  unfold Pl
  rw [hb.block g (Array.getElem?_eq_some_iff.1 h).1]; exact h

set_option maxRecDepth 100000 in
set_option maxHeartbeats 4000000 in
theorem plainRules_walk (w : World) (I : ∀ u, Below w.heap.size w u → Calls Try.prog 5 #[] u fun e w' => e = .returned (.agg #[.slice none 0 0, .bool false, .int .i64 3]) ∧ Below u.heap.size u w') :
    Calls Try.prog 3 #[] w fun e w' => e = .returned (.bool true) ∧ Below w.heap.size w w' := by
  have A := specPlain_any w
  have HI : Hid _ := I
  clear I
  go_enter Try.func3, Try.ntmps3
  go_wp2_with fail
  refine A.mono ?_
  rintro e w1 ⟨rfl, b1⟩
  clear A
  have b2 := b1.alloc b1.size (.cells #[.slice none 0 0, .bool false, .int .i64 3] 24)
  have p1 : Pl (w1.alloc (.cells #[.slice none 0 0, .bool false, .int .i64 3] 24)) w1.heap.size := heap_alloc_new _ _
  go_wp2_with fail
  refine (HI.out _ b2).mono ?_
  rintro e w3 ⟨rfl, b3⟩
  have c3 := b2.trans (b3.mono b2.size)
  have p13 := p1.below b3
  have b4 := c3.alloc c3.size (.cells #[.slice none 0 0, .bool false, .int .i64 3] 24)
  have p2 : Pl (w3.alloc (.cells #[.slice none 0 0, .bool false, .int .i64 3] 24)) w3.heap.size := heap_alloc_new _ _
  have p14 := p13.below ((Below.refl _ _).alloc (Nat.le_refl _) (.cells #[.slice none 0 0, .bool false, .int .i64 3] 24))
  obtain ⟨x0, x1, x2⟩ := p14.cells
  obtain ⟨y0, y1, y2⟩ := p2.cells
  clear p1 p13
  go_wp2_with fail
  refine (eqRules_plain _).mono ?_
  rintro e w5 ⟨rfl, b5⟩
  have c5 := b4.trans (b5.mono b4.size)
  have p15 := p14.below b5
  have p25 := p2.below b5
  clear x0 x1 x2 y0 y1 y2 p14 p2
  obtain ⟨y0, y1, y2⟩ := p25.cells
  go_wp2_with fail
  refine (markRules_plain _).mono ?_
  rintro e w6 ⟨rfl, b6⟩
  have c6 := c5.trans (b6.mono c5.size)
  have p16 := p15.below b6
  have p26 := p25.below b6
  clear y0 y1 y2 p15 p25
  obtain ⟨y0, y1, y2⟩ := p26.cells
  go_wp2_with fail
  refine (heldRules_plain _).mono ?_
  rintro e w7 ⟨rfl, b7⟩
  have c7 := c6.trans (b7.mono c6.size)
  have p17 := p16.below b7
  have p27 := p26.below b7
  clear y0 y1 y2 p16 p26
  go_wp2_with fail
  refine (HI.out _ c7).mono ?_
  rintro e w8 ⟨rfl, b8⟩
  have c8 := c7.trans (b8.mono c7.size)
  have p18 := p17.below b8
  have p28 := p27.below b8
  have b9 := c8.alloc c8.size (.cells #[.slice none 0 0, .bool false, .int .i64 3] 24)
  have p5 : Pl (w8.alloc (.cells #[.slice none 0 0, .bool false, .int .i64 3] 24)) w8.heap.size := heap_alloc_new _ _
  have p19 := p18.below ((Below.refl _ _).alloc (Nat.le_refl _) (.cells #[.slice none 0 0, .bool false, .int .i64 3] 24))
  have p29 := p28.below ((Below.refl _ _).alloc (Nat.le_refl _) (.cells #[.slice none 0 0, .bool false, .int .i64 3] 24))
  obtain ⟨x0, x1, x2⟩ := p19.cells
  obtain ⟨y0, y1, y2⟩ := p5.cells
  clear HI p17 p27 p18 p28
  go_wp2_with fail
  refine (eqRules_plain _).mono ?_
  rintro e wA ⟨rfl, bA⟩
  have cA := b9.trans (bA.mono b9.size)
  have p2A := p29.below bA
  clear x0 x1 x2 y0 y1 y2
  obtain ⟨y0, y1, y2⟩ := p2A.cells
  go_wp2_with fail
  refine (heldRules_plain _).mono ?_
  rintro e wB ⟨rfl, bB⟩
  go_wp2
  go_ret
  exact ⟨rfl, cA.trans (bB.mono cA.size)⟩
end Go.Proofs.Ytdnelneamnmcnae
