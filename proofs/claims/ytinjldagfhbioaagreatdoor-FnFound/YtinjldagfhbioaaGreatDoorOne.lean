/- Contracts of the specification's l1Lead, l1One and of the program's sequenceForm, sequenceAtFront: each reads one rune's form from the front as the plain function says. -/
import Derived.Test.YtinjldagfhbioaaGreatDoorProg
import Derived.Test.YtinjldagfhbioaaGreatDoorDec
import Derived.WalkKit
import Derived.WalkSpells
import Derived.WalkLawsBesides
namespace Go.Proofs.YtinjldagfhbioaaGreatDoor
open Go.RowKit

theorem ret3 {a a' b b' c c' : Int} (h1 : a = a') (h2 : b = b') (h3 : c = c') :
    Ending.returned (.tuple #[.int .i64 a, .int .u8 b, .int .u8 c]) = .returned (.tuple #[.int .i64 a', .int .u8 b', .int .u8 c']) := by rw [h1, h2, h3]

set_option maxHeartbeats 1000000 in
theorem form_any (b : Nat) (hb : b < 256) (w : World) :
    Calls Tryz.prog 56 #[.int .u8 (b : Int)] w fun e w' => e = .returned (.tuple #[.int .i64 (Dec.more b + 1), .int .u8 (Dec.lo1 b : Int), .int .u8 (Dec.hi1 b : Int)]) ∧ w' = w := by
  go_enter Tryz.func56, Tryz.ntmps56
  go_wp2
  all_goals
    go_ret3
    refine ⟨ret3 ?_ ?_ ?_, rfl⟩
    all_goals
      try simp only [beq_iff_eq, beq_eq_false_iff_ne, ne_eq] at *
      simp only [Dec.more, Dec.lo1, Dec.hi1]
      repeat' split
      all_goals omega

set_option maxRecDepth 100000 in
set_option maxHeartbeats 1000000 in
theorem lead_any (b : Nat) (hb : b < 256) (w : World) :
    Calls Tryz.prog 64 #[.int .u8 (b : Int)] w fun e w' => e = .returned (.tuple #[.int .i64 (Dec.more b), .int .u8 (Dec.lo0 b : Int), .int .u8 (Dec.hi0 b : Int)]) ∧ w' = w := by
  go_enter Tryz.func64, Tryz.ntmps64
  go_wp2
  all_goals
    go_ret3
    refine ⟨ret3 ?_ ?_ ?_, rfl⟩
    all_goals
      try simp only [beq_iff_eq, beq_eq_false_iff_ne, ne_eq] at *
      simp only [Dec.more, Dec.lo0, Dec.hi0, Dec.lo1, Dec.hi1]
      repeat' split
      all_goals omega
end Go.Proofs.YtinjldagfhbioaaGreatDoor
