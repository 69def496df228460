/- Contract of the program's apartText. -/
import Derived.Test.YtanfebccenfffagDoorRn4
import Derived.Test.YtanfebccenfffagDoorIRule1
import Derived.Test.YtanfebccenfffagDoorINorm2
import Derived.Test.YtanfebccenfffagDoorImplD
import Derived.Test.YtanfebccenfffagDoorDGood
namespace Go.Proofs.YtanfebccenfffagDoor
open Go.RowKit

theorem okR_dec {x : ByteArray} (h : x.size ≤ 200) : okR (Dec.decT x.size x).1 = true := decide_eq_true ⟨Nat.le_trans (Dec.decT_len x.size x (Nat.le_refl _)).1 h, dec_good x.size x⟩

/-- The runes of a text, where they are not too many. -/
def aR (x : ByteArray) : List Int := if ok4 x = true then rn4 x else []

theorem aR_len (x : ByteArray) : (aR x).length ≤ 200 := by
  unfold aR
  split
  · rename_i h
    exact (of_decide_eq_true h).2
  · simp

set_option maxRecDepth 100000 in
set_option maxHeartbeats 4000000 in
theorem apartT_any (x : ByteArray) (hx : x.size ≤ 1048576) (u : World) (ht : Tabs3 u) :
    Calls Tryd.prog 27 #[.string x] u fun e u' => ∃ v, e = .returned (.tuple #[v, .bool (ok4 x)]) ∧ Ints u' u.heap.size v (aR x) ∧ Below u.heap.size u u' := by
  by_cases h : x.size ≤ 200
  · have D := fun w => implDecode_any x w h
    have hok := okR_dec h
    have hlen := (Dec.decT_len x.size x (Nat.le_refl _)).1
    have N := fun (u' : World) (v : Value) (hb : Below u.heap.size u u') (hI : Ints u' u.heap.size v (Dec.decT x.size x).1) => implD_any (by omega) hI (ht.below hb).1 (ht.below hb).2.1 (ht.below hb).2.2
    have ho4 : okD (Dec.decT x.size x).1 = ok4 x := by
      rw [okD_eq hok]
      unfold ok4 rn4
      rw [decide_eq_decide]
      omega
    have han : ansD (Dec.decT x.size x).1 = aR x := by
      unfold ansD aR
      rw [ho4]
      rfl
    rw [ho4, han] at N
    generalize (Dec.decT x.size x).1 = ds at *
    generalize ok4 x = ok at *
    generalize aR x = l at *
    clear hok ht ho4 han
    go_enter Tryd.func27, Tryd.ntmps27
    go_wp2_with fail
    refine (D _).mono ?_
    rintro e w1 ⟨v1, rfl, i1, b1⟩
    clear D
    have N1 := N _ _ b1 i1
    clear N i1
    go_wp2_with fail
    refine N1.mono ?_
    rintro e w2 ⟨v2, rfl, i2, b2⟩
    clear N1
    go_wp2
    go_ret2
    exact ⟨_, rfl, ints_low2 i2 b1.size, b1.trans (b2.mono b1.size)⟩
  · have D := fun w => implDecode_no x w (by omega) hx
    have h1 : ok4 x = false := decide_eq_false fun c => h c.1
    have h2 : aR x = [] := by unfold aR; rw [h1]; rfl
    rw [h1, h2]
    clear h1 h2 ht
    go_enter Tryd.func27, Tryd.ntmps27
    go_wp2_with fail
    refine (D _).mono ?_
    rintro e w1 ⟨rfl, rfl⟩
    clear D
    go_wp2
    go_ret2
    exact ⟨_, rfl, ⟨rfl, .inl ⟨rfl, rfl⟩⟩, Below.refl _ _⟩
end Go.Proofs.YtanfebccenfffagDoor
