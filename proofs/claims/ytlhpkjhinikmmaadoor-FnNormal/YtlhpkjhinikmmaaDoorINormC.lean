/- Contract of the program's NormalC. -/
import Derived.Test.YtlhpkjhinikmmaaDoorIComp
import Derived.Test.YtlhpkjhinikmmaaDoorINorm2
namespace Go.Proofs.YtlhpkjhinikmmaaDoor
open Go.RowKit

set_option maxRecDepth 100000 in
set_option maxHeartbeats 1000000 in
theorem put_nil (w : World) : Calls Tryd.prog 20 #[.slice none 0 0] w fun e w' => ∃ v, e = .returned v ∧ Ints w' w.heap.size v [] ∧ Below w.heap.size w w' := by
  go_enter Tryd.func20, Tryd.ntmps20
  go_wp2
  go_loop [3, 11] (fun o i => o = .slice none 0 0 ∧ i = .int .i64 0) (fun _ _ => 0)
  case atStart => exact ⟨rfl, rfl⟩
  case round =>
    obtain ⟨rfl, rfl⟩ := hrel
    go_wp2
    go_ret
    exact ⟨_, rfl, ⟨rfl, .inl ⟨rfl, rfl⟩⟩, Below.refl _ _⟩

theorem put_any {w : World} {B : Nat} {v : Value} {ds : List Int} (hz : ds.length ≤ 2000) (hI : Ints w B v ds) (hm : Held w 2 marksF) (ht : Tabs w) :
    Calls Tryd.prog 20 #[v] w fun e w' => ∃ v', e = .returned v' ∧ Ints w' w.heap.size v' (compI ds ds.length).1 ∧ Below w.heap.size w w' := by
  rcases hI.form with ⟨rfl, rfl⟩ | ⟨g, cap, rfl, _, _⟩
  · exact put_nil w
  · exact put_row w B g cap ds hz hI hm ht

def ansC (zs : List Int) : List Int := if okD zs = true then nC zs else []

theorem okD_okR {zs : List Int} (h : okD zs = true) : okR zs = true := by
  unfold okD at h
  simp at h
  exact h.1

theorem nD_bound {zs : List Int} (h : okR zs = true) : (nD zs).length ≤ 1800 := by
  have h6 := (okR_true h).1
  have h7 := apD_len zs
  rw [nD_len]; omega

set_option maxRecDepth 100000 in
set_option maxHeartbeats 2000000 in
theorem implC_any {w : World} {B : Nat} {v : Value} {zs : List Int} (hz : zs.length ≤ 1048576) (hI : Ints w B v zs) (hm : Held w 2 marksF) (hc : Held w 0 capF) (ho : Held w 1 othF) :
    Calls Tryd.prog 9 #[v] w fun e w' => ∃ v', e = .returned (.tuple #[v', .bool (okD zs)]) ∧ Ints w' w.heap.size v' (ansC zs) ∧ Below w.heap.size w w' := by
  have D := implD_any hz hI hm hc ho
  unfold ansC
  unfold ansD at D
  cases hok : okD zs
  · rw [hok, if_neg (by simp)] at D
    rw [if_neg (by simp)]
    clear hI hok hm hc ho
    go_enter Tryd.func9, Tryd.ntmps9
    go_wp2_with fail
    refine D.mono ?_
    rintro e w1 ⟨v', rfl, h1, h2⟩
    clear D
    go_wp2
    go_ret2
    exact ⟨_, rfl, ⟨rfl, .inl ⟨rfl, rfl⟩⟩, h2⟩
  · rw [hok, if_pos rfl] at D
    rw [if_pos rfl]
    have hbd := nD_bound (okD_okR hok)
    have CA := fun (u : World) (B : Nat) (v : Value) (h : Ints u B v (nD zs)) (hm : Held u 2 marksF) (ht : Tabs u) => put_any (by omega) h hm ht
    rw [nC_I] at CA
    have HT : Hid (∀ u, Below w.heap.size w u → Held u 2 marksF ∧ Tabs u) := fun u hu => ⟨hm.below hu hm.lt, hc.below hu hc.lt, ho.below hu ho.lt⟩
    clear hI hok hm hc ho
    generalize nC zs = cs at *
    go_enter Tryd.func9, Tryd.ntmps9
    go_wp2_with fail
    refine D.mono ?_
    rintro e w1 ⟨v', rfl, h1, h2⟩
    clear D
    go_wp2_with fail
    refine (CA _ _ _ h1 (HT.out _ h2).1 (HT.out _ h2).2).mono ?_
    rintro e w2 ⟨v2, rfl, h3, h4⟩
    clear CA
    go_wp2
    go_ret2
    exact ⟨_, rfl, ints_low2 h3 h2.size, h2.trans (h4.mono h2.size)⟩

theorem ansC_len {zs : List Int} : (ansC zs).length ≤ 1800 := by
  unfold ansC
  split
  · rename_i h
    exact Nat.le_trans (compS_len (nD zs) (nD zs).length).1 (nD_bound (okD_okR h))
  · simp
end Go.Proofs.YtlhpkjhinikmmaaDoor
