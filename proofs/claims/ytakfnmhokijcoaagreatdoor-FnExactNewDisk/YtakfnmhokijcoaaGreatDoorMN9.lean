/- Texts of mine laid together: WNewDisk. -/
import Derived.Test.YtakfnmhokijcoaaGreatDoorMN8
namespace Go.Proofs.YtakfnmhokijcoaaGreatDoor
open Go.RowKit

theorem drew_belowD {w : World} (n : Nat) : Below w.heap.size w (w.drewN n) := ⟨rfl, rfl, rfl, Nat.le_refl _, fun _ _ => rfl⟩

theorem below_dN {B : Nat} {w u : World} (h : Below B w u) (n : Nat) : Below B w (u.drewN n) := ⟨h.os, h.tape, h.output, h.size, h.block⟩

set_option maxRecDepth 100000 in
set_option maxHeartbeats 1000000 in
theorem eqDisk_same (w : World) (r : ByteArray) : Calls Tryz.prog 6 #[.agg #[.string r, .slice none 0 0, .string ⟨#[]⟩, .int .i64 0], .agg #[.string r, .slice none 0 0, .string ⟨#[]⟩, .int .i64 0]] w fun e w' => e = .returned (.bool true) ∧ Below w.heap.size w w' := by
  have E := fun u => eqStr_none u none none 0 0
  have hb := ((Below.refl w.heap.size w).alloc (Nat.le_refl _) (.cells #[.string r, .slice none 0 0, .string ⟨#[]⟩, .int .i64 0] 24)).alloc (by simp) (.cells #[.string r, .slice none 0 0, .string ⟨#[]⟩, .int .i64 0] 24)
  have H1 : Hid (BoxD ((w.alloc (.cells #[.string r, .slice none 0 0, .string ⟨#[]⟩, .int .i64 0] 24)).alloc (.cells #[.string r, .slice none 0 0, .string ⟨#[]⟩, .int .i64 0] 24)) w.heap.size r) := (boxD_new w r).below ((Below.refl _ _).alloc (Nat.le_refl _) (.cells #[.string r, .slice none 0 0, .string ⟨#[]⟩, .int .i64 0] 24))
  have H2 : Hid (BoxD ((w.alloc (.cells #[.string r, .slice none 0 0, .string ⟨#[]⟩, .int .i64 0] 24)).alloc (.cells #[.string r, .slice none 0 0, .string ⟨#[]⟩, .int .i64 0] 24)) (w.heap.size + 1) r) := by
    have := boxD_new (w.alloc (.cells #[.string r, .slice none 0 0, .string ⟨#[]⟩, .int .i64 0] 24)) r
    simp at this
    exact this
  have HB : Hid (Below _ _ _) := hb
  clear hb
  go_enter Tryz.func6, Tryz.ntmps6
  go_wp2_with fail
  refine (E _).mono ?_
  rintro e w1 ⟨rfl, n, rfl⟩
  have b1 := drew_belowD (w := (w.alloc (.cells #[.string r, .slice none 0 0, .string ⟨#[]⟩, .int .i64 0] 24)).alloc (.cells #[.string r, .slice none 0 0, .string ⟨#[]⟩, .int .i64 0] 24)) n
  have HBn : Hid (Below w.heap.size w (((w.alloc (.cells #[.string r, .slice none 0 0, .string ⟨#[]⟩, .int .i64 0] 24)).alloc (.cells #[.string r, .slice none 0 0, .string ⟨#[]⟩, .int .i64 0] 24)).drewN n)) := below_dN HB.out n
  obtain ⟨h1, ⟨_, _, c2, c3⟩, _⟩ := (H1.out.below b1).facts
  obtain ⟨h2, ⟨_, _, d2, d3⟩, _⟩ := (H2.out.below b1).facts
  clear E b1 H1 H2 HB
  go_wp2
  go_ret
  exact ⟨rfl, HBn.out⟩

set_option maxRecDepth 100000 in
set_option maxHeartbeats 1000000 in
theorem markDisk_none (w : World) (r : ByteArray) (m : Int) : Calls Tryz.prog 7 #[.agg #[.string r, .slice none 0 0, .string ⟨#[]⟩, .int .i64 0], .int .i64 m] w fun e w' => e = .returned (.int .i64 m) ∧ Below w.heap.size w w' := by
  have E := fun u => markT_none u none 0 m
  have HB : Hid (∀ o, Below w.heap.size w (w.alloc o)) := fun o => (Below.refl w.heap.size w).alloc (Nat.le_refl _) o
  go_enter Tryz.func7, Tryz.ntmps7
  go_wp2_with fail
  refine (E _).mono ?_
  rintro e w1 ⟨rfl, rfl⟩
  clear E
  go_wp2
  go_ret
  exact ⟨rfl, HB.out _⟩

set_option maxRecDepth 100000 in
set_option maxHeartbeats 1000000 in
theorem heldDisk_none (w : World) (r : ByteArray) (m : Int) (hm : ¬ m < 0) : Calls Tryz.prog 8 #[.agg #[.string r, .slice none 0 0, .string ⟨#[]⟩, .int .i64 0], .int .i64 m] w fun e w' => e = .returned (.int .i64 m) ∧ Below w.heap.size w w' := by
  have E := fun u => heldT_none u none 0 m
  have HB : Hid (∀ o, Below w.heap.size w (w.alloc o)) := fun o => (Below.refl w.heap.size w).alloc (Nat.le_refl _) o
  go_enter Tryz.func8, Tryz.ntmps8
  go_wp2_with fail
  refine (E _).mono ?_
  rintro e w1 ⟨rfl, b1⟩
  have HB1 : Hid (Below w.heap.size w w1) := (HB.out _).trans (b1.mono (HB.out _).size)
  clear E b1
  go_wp2
  go_ret
  exact ⟨rfl, HB1.out⟩

set_option maxRecDepth 100000 in
set_option maxHeartbeats 4000000 in
theorem newDisk_walk (w : World) (s : ByteArray) (hs : s.size ≤ maxLen) (ht : Tabs3 w) :
    Calls Tryz.prog 3 #[.string s] w fun e w' => e = .returned (.bool true) ∧ Below w.heap.size w w' := by
  unfold maxLen at hs
  by_cases hl : 1048576 < s.size
  · have hl2 : (1048576 : Int) < (s.size : Int) := by omega
    go_enter Tryz.func3, Tryz.ntmps3
    go_wp2
    go_ret
    exact ⟨rfl, Below.refl _ _⟩
  have hl2 : ¬ (1048576 : Int) < (s.size : Int) := by omega
  have SP := specND_any s w (by omega)
  have IM : Hid (∀ u, Below w.heap.size w u → Calls Tryz.prog 5 #[.string s] u fun e w' => e = .returned (ndV (ndR s) (ndOk s)) ∧ Below u.heap.size u w') := fun u hu => implND_any s u (ht.below hu) (by omega)
  generalize ndR s = r at *
  generalize ndOk s = ok at *
  unfold ndV at SP IM
  have EQ : Hid (∀ u, Calls Tryz.prog 6 #[.agg #[.string r, .slice none 0 0, .string ⟨#[]⟩, .int .i64 0], .agg #[.string r, .slice none 0 0, .string ⟨#[]⟩, .int .i64 0]] u fun e w' => e = .returned (.bool true) ∧ Below u.heap.size u w') := fun u => eqDisk_same u r
  have MK : Hid (∀ u, Calls Tryz.prog 7 #[.agg #[.string r, .slice none 0 0, .string ⟨#[]⟩, .int .i64 0], .int .i64 1] u fun e w' => e = .returned (.int .i64 1) ∧ Below u.heap.size u w') := fun u => markDisk_none u r 1
  have HD : Hid (∀ u, Calls Tryz.prog 8 #[.agg #[.string r, .slice none 0 0, .string ⟨#[]⟩, .int .i64 0], .int .i64 1] u fun e w' => e = .returned (.int .i64 1) ∧ Below u.heap.size u w') := fun u => heldDisk_none u r 1 (by omega)
  clear ht
  go_enter Tryz.func3, Tryz.ntmps3
  go_wp2_with fail
  refine SP.mono ?_
  rintro e w1 ⟨rfl, b1⟩
  have X1 : Hid (BoxD (w1.alloc (.cells #[.string r, .slice none 0 0, .string ⟨#[]⟩, .int .i64 0] 24)) w1.heap.size r) := boxD_new w1 r
  have HB1 : Hid (Below w.heap.size w (w1.alloc (.cells #[.string r, .slice none 0 0, .string ⟨#[]⟩, .int .i64 0] 24))) := b1.alloc b1.size _
  have I1 := IM.out _ HB1.out
  clear SP b1
  go_wp2_with fail
  refine I1.mono ?_
  rintro e w2 ⟨rfl, b2⟩
  have bA := (Below.refl w2.heap.size w2).alloc (Nat.le_refl _) (.cells #[.string r, .slice none 0 0, .string ⟨#[]⟩, .int .i64 0] 24)
  have x2 := X1.out.below b2
  have HB2 : Hid (Below w.heap.size w w2) := HB1.out.trans (b2.mono HB1.out.size)
  obtain ⟨h1, ⟨c0, c1, c2, c3⟩, _⟩ := x2.facts
  have E2 := EQ.out (w2.alloc (.cells #[.string r, .slice none 0 0, .string ⟨#[]⟩, .int .i64 0] 24))
  have HX2 : Hid (BoxD (w2.alloc (.cells #[.string r, .slice none 0 0, .string ⟨#[]⟩, .int .i64 0] 24)) w1.heap.size r) := x2.below bA
  have HY2 : Hid (BoxD (w2.alloc (.cells #[.string r, .slice none 0 0, .string ⟨#[]⟩, .int .i64 0] 24)) w2.heap.size r) := boxD_new w2 r
  have HBA : Hid (Below w.heap.size w (w2.alloc (.cells #[.string r, .slice none 0 0, .string ⟨#[]⟩, .int .i64 0] 24))) := HB2.out.trans (bA.mono HB2.out.size)
  clear I1 b2 x2 X1 HB1 bA
  go_wp2_with fail
  refine E2.mono ?_
  rintro e w3 ⟨rfl, b3⟩
  have HX3 : Hid (BoxD w3 w1.heap.size r) := HX2.out.below b3
  have HY3 : Hid (BoxD w3 w2.heap.size r) := HY2.out.below b3
  have HB3 : Hid (Below w.heap.size w w3) := HBA.out.trans (b3.mono HBA.out.size)
  have M3 := MK.out w3
  obtain ⟨k1, ⟨d0, d1, d2, d3⟩, _⟩ := HY3.out.facts
  clear E2 b3 HX2 HY2 HBA c0 c1 c2 c3 h1
  go_wp2_with fail
  refine M3.mono ?_
  rintro e w4 ⟨rfl, b4⟩
  have HX4 : Hid (BoxD w4 w1.heap.size r) := HX3.out.below b4
  have HY4 : Hid (BoxD w4 w2.heap.size r) := HY3.out.below b4
  have HB4 : Hid (Below w.heap.size w w4) := HB3.out.trans (b4.mono HB3.out.size)
  have D4 := HD.out w4
  clear M3 b4 HX3 HY3 HB3 d0 d1 d2 d3 k1
  obtain ⟨k1, ⟨d0, d1, d2, d3⟩, _⟩ := HY4.out.facts
  go_wp2_with fail
  refine D4.mono ?_
  rintro e w5 ⟨rfl, b5⟩
  have HX5 : Hid (BoxD w5 w1.heap.size r) := HX4.out.below b5
  have HY5 : Hid (BoxD w5 w2.heap.size r) := HY4.out.below b5
  have HB5 : Hid (Below w.heap.size w w5) := HB4.out.trans (b5.mono HB4.out.size)
  have I5 := IM.out w5 HB5.out
  clear D4 b5 HX4 HY4 HB4 d0 d1 d2 d3 k1
  go_wp2_with fail
  refine I5.mono ?_
  rintro e w6 ⟨rfl, b6⟩
  have x6 := HX5.out.below b6
  have y6 := HY5.out.below b6
  have HB6 : Hid (Below w.heap.size w w6) := HB5.out.trans (b6.mono HB5.out.size)
  have bA := (Below.refl w6.heap.size w6).alloc (Nat.le_refl _) (.cells #[.string r, .slice none 0 0, .string ⟨#[]⟩, .int .i64 0] 24)
  obtain ⟨h1, ⟨c0, c1, c2, c3⟩, _⟩ := x6.facts
  have E6 := EQ.out (w6.alloc (.cells #[.string r, .slice none 0 0, .string ⟨#[]⟩, .int .i64 0] 24))
  have HY6 : Hid (BoxD (w6.alloc (.cells #[.string r, .slice none 0 0, .string ⟨#[]⟩, .int .i64 0] 24)) w2.heap.size r) := y6.below bA
  have HBA : Hid (Below w.heap.size w (w6.alloc (.cells #[.string r, .slice none 0 0, .string ⟨#[]⟩, .int .i64 0] 24))) := HB6.out.trans (bA.mono HB6.out.size)
  clear I5 b6 x6 y6 HX5 HY5 HB5 bA
  go_wp2_with fail
  refine E6.mono ?_
  rintro e w7 ⟨rfl, b7⟩
  have HB7 : Hid (Below w.heap.size w w7) := HBA.out.trans (b7.mono HBA.out.size)
  have D7 := HD.out w7
  obtain ⟨k1, ⟨d0, d1, d2, d3⟩, _⟩ := (HY6.out.below b7).facts
  clear E6 b7 HY6 HBA c0 c1 c2 c3 h1
  go_wp2_with fail
  refine D7.mono ?_
  rintro e w8 ⟨rfl, b8⟩
  have HB8 : Hid (Below w.heap.size w w8) := HB7.out.trans (b8.mono HB7.out.size)
  clear D7 b8 HB7
  go_wp2
  go_ret
  exact ⟨rfl, HB8.out⟩
end Go.Proofs.YtakfnmhokijcoaaGreatDoor
