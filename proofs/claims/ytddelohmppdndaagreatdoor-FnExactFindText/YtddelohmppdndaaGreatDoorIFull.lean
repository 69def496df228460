/- Contract of the program's fullNormalD. -/
import Derived.Test.YtddelohmppdndaaGreatDoorINorm
namespace Go.Proofs.YtddelohmppdndaaGreatDoor
open Go.RowKit

/-- What fullNormalD answers. -/
def fullA (zs : List Int) : List Int := if okR zs = true then nD zs else []

theorem runs_any {w : World} {B : Nat} {v : Value} {zs : List Int} (hz : zs.length ≤ 1048576) (hI : Ints w B v zs) (hB : 0 < B) (hm : Held w 0 marksF) :
    Calls Tryz.prog 90 #[v] w fun e w' => e = .returned (.tuple #[]) ∧ Ints w' B v (sortM zs) ∧ w.grownBy w' v.ownBlock := by
  rcases hI.form with ⟨rfl, rfl⟩ | ⟨g, cap, rfl, _, _⟩
  · refine (sortRuns_nil w).mono ?_
    rintro e w' ⟨rfl, rfl⟩
    rw [show sortM [] = [] by decide]
    exact ⟨rfl, ⟨rfl, .inl ⟨rfl, rfl⟩⟩, grown_refl _ _⟩
  · refine (sortRuns_any w B g cap zs.length zs hI hB hz hm).mono ?_
    rintro e w' ⟨rfl, hs⟩
    refine ⟨rfl, ?_, hs.2.1⟩
    have := hs.1
    unfold Own at this
    unfold Ints
    rw [sortM_length]
    exact this

def NRel (w : World) (zs : List Int) (lv i : Value) (wr : World) : Prop :=
  ∃ k : Nat, k ≤ zs.length ∧ i = .int .i64 k ∧ Ints wr w.heap.size lv ((zs.take k).flatMap all2) ∧ Below w.heap.size w wr

theorem nrel_step {w wr w2 : World} {zs : List Int} {k : Nat} {x : Int} {lv v : Value} (hk : k < zs.length) (hx : zs[k]? = some x) (h : Ints wr w.heap.size lv ((zs.take k).flatMap all2)) (hb : Below w.heap.size w wr)
    (hp : ApPost wr w.heap.size lv ((zs.take k).flatMap all2 ++ all2 x) v w2) : NRel w zs v (.int .i64 ((k : Int) + 1)) w2 := by
  refine ⟨k + 1, hk, by go_num, ?_, Below.grown hb hp.2.1 hb.size (fun j hj => (World.ownsRow.lt h j hj).1)⟩
  rw [take_flat hx]
  exact hp.1

set_option maxRecDepth 100000 in
set_option maxHeartbeats 2000000 in
theorem fullD_row (w : World) (B g cap : Nat) (zs : List Int) (hok : okR zs = true) (hI : Ints w B (.slice (some ⟨g, 0, none⟩) zs.length cap) zs) (hm : Held w 0 marksF) (ht : Tabs w) :
    Calls Tryz.prog 73 #[.slice (some ⟨g, 0, none⟩) zs.length cap] w fun e w' => ∃ v', e = .returned (.tuple #[v', .bool true]) ∧ Ints w' w.heap.size v' (nD zs) ∧ Below w.heap.size w w' := by
  have G := goods_any hI
  rw [hok] at G
  have hz := (okR_true hok).1
  have HG : Hid (∀ x ∈ zs, goodB x = true) := (okR_true hok).2
  have HB : Hid (∀ k, ((zs.take k).flatMap all2).length ≤ 1800) := fun k => Nat.le_trans (take_flat_len zs k all2_len) (by omega)
  clear hok
  go_enter Tryz.func73, Tryz.ntmps73
  go_wp2_with fail
  refine G.mono ?_
  rintro e w1 ⟨rfl, rfl⟩
  clear G
  go_wp2_with fail
  go_loopw [4, 12] (fun lv i wr => NRel w1 zs lv i wr) (fun _ i _ => zs.length - (intOf i).toNat)
  case atStart => exact ⟨0, Nat.zero_le _, rfl, ⟨rfl, .inl ⟨rfl, rfl⟩⟩, Below.refl _ _⟩
  case round =>
    obtain ⟨k, hk, rfl, ho, hbr⟩ := hrel
    by_cases hlt : k < zs.length
    · obtain ⟨x, hx⟩ : ∃ x, zs[k]? = some x := ⟨_, List.getElem?_eq_getElem hlt⟩
      have c1 := ints_at0 (hI.below hbr) k x hx
      have CA := app_any x wr w1.heap.size _ _ (HG.out x (List.mem_of_getElem? hx)) ho (Nat.le_trans (HB.out k) (by omega)) hbr.size ht.1.lt ht.2.lt (ht.below hbr)
      have HX : Hid _ := hx
      clear hx
      go_wp2_with fail
      refine CA.mono ?_
      rintro e w2 ⟨v2, rfl, h2⟩
      have HA : Hid _ := nrel_step hlt HX.out ho hbr h2
      clear CA c1 h2
      go_wp2
      exact ⟨HA.out, by simp [intOf]; omega⟩
    · have hk3 : k = zs.length := by omega
      subst hk3
      rw [List.take_length] at ho
      have R := runs_any (zs := apD zs) (Nat.le_trans (apD_len zs) (by omega)) ho hm.lt (hm.below hbr hm.lt)
      have HL : Hid (∀ j, Value.ownBlock _ = some j → w1.heap.size ≤ j) := fun j hj => (World.ownsRow.lt ho j hj).1
      clear ho
      go_wp2_with fail
      refine R.mono ?_
      rintro e w2 ⟨rfl, h1, h2⟩
      clear R
      go_wp2
      go_ret2
      exact ⟨_, rfl, h1, Below.grown hbr h2 hbr.size HL.out⟩

set_option maxRecDepth 100000 in
set_option maxHeartbeats 2000000 in
theorem fullD_nil (w : World) (hm : Held w 0 marksF) :
    Calls Tryz.prog 73 #[.slice none 0 0] w fun e w' => ∃ v', e = .returned (.tuple #[v', .bool true]) ∧ Ints w' w.heap.size v' [] ∧ Below w.heap.size w w' := by
  have G := goods_none w none 0
  have R := sortRuns_nil
  go_enter Tryz.func73, Tryz.ntmps73
  go_wp2_with fail
  refine G.mono ?_
  rintro e w1 ⟨rfl, rfl⟩
  clear G
  go_wp2_with fail
  go_loop [4, 12] (fun o i => o = .slice none 0 0 ∧ i = .int .i64 0) (fun _ _ => 0)
  case atStart => exact ⟨rfl, rfl⟩
  case round =>
    obtain ⟨rfl, rfl⟩ := hrel
    go_wp2_with fail
    refine (R _).mono ?_
    rintro e w2 ⟨rfl, rfl⟩
    clear R
    go_wp2
    go_ret2
    exact ⟨_, rfl, ⟨rfl, .inl ⟨rfl, rfl⟩⟩, Below.refl _ _⟩

set_option maxRecDepth 100000 in
set_option maxHeartbeats 2000000 in
theorem fullD_any {w : World} {B : Nat} {v : Value} {zs : List Int} (hI : Ints w B v zs) (hm : Held w 0 marksF) (hc : Held w 1 capF) (ho : Held w 2 othF) :
    Calls Tryz.prog 73 #[v] w fun e w' => ∃ v', e = .returned (.tuple #[v', .bool (okR zs)]) ∧ Ints w' w.heap.size v' (fullA zs) ∧ Below w.heap.size w w' := by
  unfold fullA
  cases hok : okR zs
  · have G := goods_any hI
    rw [hok] at G
    rw [if_neg (by simp)]
    clear hI hok hm hc ho
    go_enter Tryz.func73, Tryz.ntmps73
    go_wp2_with fail
    refine G.mono ?_
    rintro e w1 ⟨rfl, rfl⟩
    clear G
    go_wp2
    go_ret2
    exact ⟨_, rfl, ⟨rfl, .inl ⟨rfl, rfl⟩⟩, Below.refl _ _⟩
  · rw [if_pos rfl]
    rcases hI.form with ⟨rfl, rfl⟩ | ⟨g, cap, rfl, _, _⟩
    · rw [show nD [] = [] by decide]
      exact fullD_nil w hm
    · exact fullD_row w B g cap zs hok hI hm ⟨hc, ho⟩

theorem fullA_len (zs : List Int) : (fullA zs).length ≤ 1800 := by
  unfold fullA
  split
  · rename_i h
    have h6 := (okR_true h).1
    have h7 := apD_len zs
    rw [nD_len]; omega
  · simp

end Go.Proofs.YtddelohmppdndaaGreatDoor
