/- Contract of the specification's l4Runes. -/
import Derived.Test.YtanfebccenfffagDoorSD
import Derived.Test.YtanfebccenfffagDoorDecode
import Derived.Test.YtanfebccenfffagDoorRn4
namespace Go.Proofs.YtanfebccenfffagDoor
open Go.RowKit

set_option maxRecDepth 100000 in
set_option maxHeartbeats 1000000 in
theorem runes4_any (s : ByteArray) (w : World) (hs : s.size ≤ 1073741824) :
    Calls Tryd.prog 25 #[.string s] w fun e w' => ∃ v, e = .returned (.tuple #[v, .bool (ok4 s)]) ∧ (s.size ≤ 200 → Ints w' w.heap.size v (rn4 s)) ∧ Below w.heap.size w w' := by
  by_cases hl : 200 < s.size
  · have h2 : (200 : Int) < (s.size : Int) := by omega
    have HK : Hid (ok4 s = false) := decide_eq_false fun c => by omega
    go_enter Tryd.func25, Tryd.ntmps25
    go_wp2
    go_ret2
    rw [HK.out]
    exact ⟨_, rfl, fun h => absurd h (by omega), Below.refl _ _⟩
  · have h2 : ¬ (200 : Int) < (s.size : Int) := by omega
    have HK : Hid (ok4 s = decide (((rn4 s).length : Int) ≤ 200)) := by
      show _ = _
      unfold ok4
      rw [decide_eq_decide]
      omega
    have DEC := fun w => l1Decode_any s w hs
    have hdl := (Dec.decT_len s.size s (Nat.le_refl _)).1
    have hnl : (rn4 s).length ≤ 1800 := by unfold rn4; rw [nD_len]; have := apD_len (Dec.decT s.size s).1; omega
    have D := fun (u : World) (B : Nat) (v : Value) (h : Ints u B v (Dec.decT s.size s).1) => d_any (by omega) h
    change ∀ (u : World) (B : Nat) (v : Value), Ints u B v (Dec.decT s.size s).1 → Calls Tryd.prog 38 #[v] u fun e w' => ∃ v', e = .returned v' ∧ Ints w' u.heap.size v' (rn4 s) ∧ Below u.heap.size u w' at D
    rw [HK.out]
    clear HK hdl
    generalize rn4 s = l at *
    generalize (Dec.decT s.size s).1 = l0 at *
    generalize (Dec.decT s.size s).2 = n0 at *
    go_enter Tryd.func25, Tryd.ntmps25
    go_wp2_with fail
    refine (DEC _).mono ?_
    rintro e w1 ⟨v1, rfl, i1, b1⟩
    clear DEC
    go_wp2_with fail
    refine (D _ _ _ i1).mono ?_
    rintro e w2 ⟨v2, rfl, i2, b2⟩
    clear D i1
    have i2' := ints_low2 i2 b1.size
    have HB : Hid (Below _ _ _) := b1.trans (b2.mono b1.size)
    obtain ⟨a, c, rfl⟩ : ∃ a c, v2 = .slice a l.length c := by
      rcases i2'.form with ⟨rfl, rfl⟩ | ⟨g, cap, rfl, _, _⟩
      · exact ⟨_, _, rfl⟩
      · exact ⟨_, _, rfl⟩
    have HI : Hid (Ints _ _ _ _) := i2'
    clear i2 i2' b1 b2
    go_wp2
    go_ret2
    exact ⟨_, rfl, fun _ => HI.out, HB.out⟩
end Go.Proofs.YtanfebccenfffagDoor
