/- Contract of the program's NormalD. -/
import Derived.Test.YtfcocilgkepadaaDoorINorm
namespace Go.Proofs.YtfcocilgkepadaaDoor
open Go.RowKit

theorem okD_apD {zs : List Int} (h : okR zs = true) : okR (apD zs) = okD zs := by
  unfold okD
  rw [h, Bool.true_and]
  unfold okR
  apply decide_eq_decide.2
  exact ⟨fun c => c.1, fun c => ⟨c, apD_good (okR_true h).2⟩⟩

theorem ansD_apD {zs : List Int} (h : okR zs = true) : sortA (apD zs) = ansD zs := by
  unfold sortA ansD
  rw [okD_apD h]; rfl

def NRel (w : World) (zs : List Int) (lv i : Value) (wr : World) : Prop :=
  ∃ k : Nat, k ≤ zs.length ∧ i = .int .i64 k ∧ Ints wr w.heap.size lv ((zs.take k).flatMap all2) ∧ Below w.heap.size w wr

theorem nrel_step {w wr w2 : World} {zs : List Int} {k : Nat} {x : Int} {lv v : Value} (hk : k < zs.length) (hx : zs[k]? = some x) (h : Ints wr w.heap.size lv ((zs.take k).flatMap all2)) (hb : Below w.heap.size w wr)
    (hp : ApPost wr w.heap.size lv ((zs.take k).flatMap all2 ++ all2 x) v w2) : NRel w zs v (.int .i64 ((k : Int) + 1)) w2 := by
  refine ⟨k + 1, hk, by go_num, ?_, Below.grown hb hp.2.1 hb.size (fun j hj => (World.ownsRow.lt h j hj).1)⟩
  rw [take_flat hx]
  exact hp.1

set_option maxRecDepth 100000 in
set_option maxHeartbeats 2000000 in
theorem implD_row (w : World) (B g cap : Nat) (zs : List Int) (hok : okR zs = true) (hI : Ints w B (.slice (some ⟨g, 0, none⟩) zs.length cap) zs) (hm : Held w 2 marksF) (ht : Tabs w) :
    Calls Tryd.prog 6 #[.slice (some ⟨g, 0, none⟩) zs.length cap] w fun e w' => ∃ v', e = .returned (.tuple #[v', .bool (okD zs)]) ∧ Ints w' w.heap.size v' (ansD zs) ∧ Below w.heap.size w w' := by
  have G := goods_any hI
  rw [hok] at G
  have hz := (okR_true hok).1
  have HG : Hid (∀ x ∈ zs, goodB x = true) := (okR_true hok).2
  have HE : Hid (okR (apD zs) = okD zs ∧ sortA (apD zs) = ansD zs) := ⟨okD_apD hok, ansD_apD hok⟩
  have HB : Hid (∀ k, ((zs.take k).flatMap all2).length ≤ 1800) := fun k => Nat.le_trans (take_flat_len zs k all2_len) (by omega)
  clear hok
  go_enter Tryd.func6, Tryd.ntmps6
  go_wp2_with fail
  refine G.mono ?_
  rintro e w1 ⟨rfl, rfl⟩
  clear G
  go_wp2_with fail
  go_loopw [4, 12] (fun lv i wr => NRel w1 zs lv i wr) (fun _ i _ => zs.length - (intOf i).toNat)
  case atStart => exact ⟨0, Nat.zero_le _, rfl, ⟨rfl, .inl ⟨rfl, rfl⟩⟩, Below.refl _ _⟩
  case round =>
    obtain ⟨k, hk, rfl, ho, hbr⟩ := hrel
    by_cases hlt : k < zs.length
    · obtain ⟨x, hx⟩ : ∃ x, zs[k]? = some x := ⟨_, List.getElem?_eq_getElem hlt⟩
      have c1 := ints_at0 (hI.below hbr) k x hx
      have CA := app_any x wr w1.heap.size _ _ (HG.out x (List.mem_of_getElem? hx)) ho (Nat.le_trans (HB.out k) (by omega)) hbr.size ht.1.lt ht.2.lt (ht.below hbr)
      have HX : Hid _ := hx
      clear hx
      go_wp2_with fail
      refine CA.mono ?_
      rintro e w2 ⟨v2, rfl, h2⟩
      have HA : Hid _ := nrel_step hlt HX.out ho hbr h2
      clear CA c1 h2
      go_wp2
      exact ⟨HA.out, by simp [intOf]; omega⟩
    · have hk3 : k = zs.length := by omega
      subst hk3
      rw [List.take_length] at ho
      have R := implSort_any (zs := apD zs) (Nat.le_trans (apD_len zs) (by omega)) ho (hm.below hbr hm.lt)
      rw [HE.out.1, HE.out.2] at R
      go_wp2_with fail
      refine R.mono ?_
      rintro e w2 ⟨v, rfl, h1, h2⟩
      clear R
      go_wp2
      go_ret2
      exact ⟨_, rfl, ints_low2 h1 hbr.size, hbr.trans (h2.mono hbr.size)⟩

set_option maxRecDepth 100000 in
set_option maxHeartbeats 2000000 in
theorem implD_nil (w : World) (hm : Held w 2 marksF) :
    Calls Tryd.prog 6 #[.slice none 0 0] w fun e w' => ∃ v', e = .returned (.tuple #[v', .bool true]) ∧ Ints w' w.heap.size v' [] ∧ Below w.heap.size w w' := by
  have G := goods_none w none 0
  have hI : Ints w w.heap.size (.slice none 0 0) [] := ⟨rfl, .inl ⟨rfl, rfl⟩⟩
  have R := implSort_any (zs := []) (by simp) hI hm
  rw [show okR [] = true from decide_eq_true ⟨by simp, by simp⟩, show sortA [] = [] by decide] at R
  go_enter Tryd.func6, Tryd.ntmps6
  go_wp2_with fail
  refine G.mono ?_
  rintro e w1 ⟨rfl, rfl⟩
  clear G
  go_wp2_with fail
  go_loop [4, 12] (fun o i => o = .slice none 0 0 ∧ i = .int .i64 0) (fun _ _ => 0)
  case atStart => exact ⟨rfl, rfl⟩
  case round =>
    obtain ⟨rfl, rfl⟩ := hrel
    go_wp2_with fail
    refine R.mono ?_
    rintro e w2 ⟨v, rfl, h1, h2⟩
    clear R
    go_wp2
    go_ret2
    exact ⟨_, rfl, h1, h2⟩

set_option maxRecDepth 100000 in
set_option maxHeartbeats 2000000 in
theorem implD_any {w : World} {B : Nat} {v : Value} {zs : List Int} (_hz : zs.length ≤ 1048576) (hI : Ints w B v zs) (hm : Held w 2 marksF) (hc : Held w 0 capF) (ho : Held w 1 othF) :
    Calls Tryd.prog 6 #[v] w fun e w' => ∃ v', e = .returned (.tuple #[v', .bool (okD zs)]) ∧ Ints w' w.heap.size v' (ansD zs) ∧ Below w.heap.size w w' := by
  cases hok : okR zs
  · have G := goods_any hI
    unfold ansD
    rw [hok] at G
    rw [okD_no hok, if_neg (by simp)]
    clear hI hok hm hc ho
    go_enter Tryd.func6, Tryd.ntmps6
    go_wp2_with fail
    refine G.mono ?_
    rintro e w1 ⟨rfl, rfl⟩
    clear G
    go_wp2
    go_ret2
    exact ⟨_, rfl, ⟨rfl, .inl ⟨rfl, rfl⟩⟩, Below.refl _ _⟩
  · rcases hI.form with ⟨rfl, rfl⟩ | ⟨g, cap, rfl, _, _⟩
    · exact implD_nil w hm
    · exact implD_row w B g cap zs hok hI hm ⟨hc, ho⟩
end Go.Proofs.YtfcocilgkepadaaDoor
