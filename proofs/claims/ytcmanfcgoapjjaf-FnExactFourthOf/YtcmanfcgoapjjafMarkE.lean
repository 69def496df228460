/- Contracts of the laws' markElemS and heldElemS. -/
import Derived.Test.YtcmanfcgoapjjafElems
namespace Go.Proofs.Ytcmanfcgoapjjaf
open Go.RowKit

/-- What is written into an elem from the number k on. -/
def mkE (k : Int) : El := ⟨k, k + 1, k + 1 + 1, (k + 1 + 1 + 1) % 3 == 0⟩
def marksE (es : List El) (k : Int) : Nat → List El
  | 0 => es
  | i + 1 => (marksE es k i).set i (mkE (k + 4 * (i : Int)))

theorem marksE_len (es : List El) (k : Int) (i : Nat) : (marksE es k i).length = es.length := by
  induction i with
  | zero => rfl
  | succ i ih => simp [marksE, ih]

theorem marksE_at (es : List El) (k : Int) (i j : Nat) (hj : j < i) (hl : j < es.length) : (marksE es k i)[j]? = some (mkE (k + 4 * (j : Int))) := by
  induction i with
  | zero => omega
  | succ i ih =>
    by_cases e : j = i
    · subst e; simp [marksE, marksE_len, hl]
    · rw [marksE, List.getElem?_set_ne (by omega)]; exact ih (by omega)

def MERel (w : World) (B g cap : Nat) (es : List El) (k0 : Int) (kv i : Value) (wr : World) : Prop :=
  ∃ j : Nat, j ≤ es.length ∧ i = .int .i64 j ∧ kv = .int .i64 (k0 + 4 * (j : Int)) ∧ wr.ownsRow B 37 4 (.slice (some ⟨g, 0, none⟩) es.length cap) es.length (elAll (marksE es k0 j)) ∧ w.grownBy wr (some g)

theorem me_step {w wr : World} {B g cap j : Nat} {es : List El} {k0 : Int} (hj : j < es.length) (hown : wr.ownsRow B 37 4 (.slice (some ⟨g, 0, none⟩) es.length cap) es.length (elAll (marksE es k0 j))) (hg : w.grownBy wr (some g)) {k : Int} (hk : k = k0 + 4 * (j : Int)) {k' : Int} (hk' : k' = k0 + 4 * ((j + 1 : Nat) : Int)) :
    MERel w B g cap es k0 (.int .i64 k') (.int .i64 ((j : Int) + 1))
      ((((wr.setCell ⟨g, j * 4, none⟩ (.int .i64 k)).setCell ⟨g, j * 4 + 1, none⟩ (.int .i64 (k + 1))).setCell ⟨g, j * 4 + 2, none⟩ (.int .i64 (k + 1 + 1))).setCell ⟨g, j * 4 + 3, none⟩ (.bool ((k + 1 + 1 + 1) % 3 == 0))) := by
  subst hk
  subst hk'
  have h1 := hown.stored (j * 4) (.int .i64 (k0 + 4 * (j : Int)))
  have h2 := h1.1.stored (j * 4 + 1) (.int .i64 (k0 + 4 * (j : Int) + 1))
  have h3 := h2.1.stored (j * 4 + 2) (.int .i64 (k0 + 4 * (j : Int) + 1 + 1))
  have h4 := h3.1.stored (j * 4 + 3) (.bool ((k0 + 4 * (j : Int) + 1 + 1 + 1) % 3 == 0))
  refine ⟨j + 1, hj, by go_num, rfl, ?_, (((hg.trans h1.2).trans h2.2).trans h3.2).trans h4.2⟩
  rw [marksE, elAll_set _ _ _ (by rw [marksE_len]; exact hj)]
  exact h4.1

set_option maxRecDepth 100000 in
set_option maxHeartbeats 2000000 in
theorem markE_row (w : World) (B g cap : Nat) (es : List El) (k0 : Int) (hk0 : 0 ≤ k0) (hk1 : k0 ≤ 1073741824) (hz : es.length ≤ 1048576) (hI : Elems w B (.slice (some ⟨g, 0, none⟩) es.length cap) es) :
    Calls Try.prog 10 #[.slice (some ⟨g, 0, none⟩) es.length cap, .int .i64 k0] w fun e w' => e = .returned (.int .i64 (k0 + 4 * (es.length : Int))) ∧ w'.ownsRow B 37 4 (.slice (some ⟨g, 0, none⟩) es.length cap) es.length (elAll (marksE es k0 es.length)) ∧ w.grownBy w' (some g) := by
  go_enter Try.func10, Try.ntmps10
  go_wp2
  go_loopw [1, 5] (fun kv i wr => MERel w B g cap es k0 kv i wr) (fun _ i _ => es.length - (intOf i).toNat)
  case atStart => exact ⟨0, Nat.zero_le _, rfl, by simp, hI, World.grownBy.refl _ _⟩
  case round =>
    clear hI
    obtain ⟨j, hj, rfl, rfl, hown, hg⟩ := hrel
    by_cases hlt : j < es.length
    · obtain ⟨e, he⟩ : ∃ e, (marksE es k0 j)[j]? = some e := ⟨_, List.getElem?_eq_getElem (by rw [marksE_len]; exact hlt)⟩
      have hE : Elems wr B (.slice (some ⟨g, 0, none⟩) (marksE es k0 j).length cap) (marksE es k0 j) := by
        unfold Elems
        rw [marksE_len]; exact hown
      obtain ⟨a0, a1, a2, a3⟩ := hE.cells j e he
      have f0 := hown.frozenAt (j * 4)
      have f1 := hown.frozenAt (j * 4 + 1)
      have f2 := hown.frozenAt (j * 4 + 2)
      have f3 := hown.frozenAt (j * 4 + 3)
      have hj8 : (j : Int) < (es.length : Int) := by omega
      obtain ⟨k, hk⟩ : ∃ k, k = k0 + 4 * (j : Int) := ⟨_, rfl⟩
      have hkb : 0 ≤ k ∧ k ≤ 2000000000 := by omega
      rw [← hk]
      have HK : Hid _ := hk
      obtain ⟨hkb0, hkb1⟩ := hkb
      have HW : Hid _ := hown
      clear hE he hk hown
      go_wp2
      exact ⟨me_step hlt HW.out hg HK.out (by have := HK.out; omega), by simp [intOf]; omega⟩
    · have hjz : j = es.length := by omega
      subst hjz
      go_wp2
      go_ret
      exact ⟨rfl, hown, hg⟩

set_option maxRecDepth 100000 in
set_option maxHeartbeats 1000000 in
theorem markE_none (w : World) (a : Option Addr) (c : Nat) (k0 : Int) : Calls Try.prog 10 #[.slice a 0 c, .int .i64 k0] w fun e w' => e = .returned (.int .i64 k0) ∧ w' = w := by
  go_enter Try.func10, Try.ntmps10
  go_wp2
  go_loop [1, 5] (fun k i => k = .int .i64 k0 ∧ i = .int .i64 0) (fun _ _ => 0)
  case atStart => exact ⟨rfl, rfl⟩
  case round =>
    obtain ⟨rfl, rfl⟩ := hrel
    go_wp2
    go_ret
    exact ⟨rfl, rfl⟩

theorem markE_any {w : World} {B : Nat} {v : Value} {es : List El} {k0 : Int} (hk0 : 0 ≤ k0) (hk1 : k0 ≤ 1073741824) (hz : es.length ≤ 1048576) (hI : Elems w B v es) :
    Calls Try.prog 10 #[v, .int .i64 k0] w fun e w' => e = .returned (.int .i64 (k0 + 4 * (es.length : Int))) ∧ Elems w' B v (marksE es k0 es.length) ∧ w.grownBy w' v.ownBlock := by
  rcases hI.form with ⟨rfl, rfl⟩ | ⟨g, cap, rfl, h1, h2⟩
  · refine (markE_none w _ _ k0).mono ?_
    rintro e w' ⟨rfl, rfl⟩
    exact ⟨by simp, hI, World.grownBy.refl _ _⟩
  · refine (markE_row w B g cap es k0 hk0 hk1 hz hI).mono ?_
    rintro e w' ⟨rfl, h3, h4⟩
    refine ⟨rfl, ?_, h4⟩
    unfold Elems
    rw [marksE_len]; exact h3

set_option maxRecDepth 100000 in
set_option maxHeartbeats 1000000 in
theorem heldE_none (w : World) (a : Option Addr) (c : Nat) (k0 : Int) : Calls Try.prog 13 #[.slice a 0 c, .int .i64 k0] w fun e w' => e = .returned (.int .i64 k0) ∧ w' = w := by
  go_enter Try.func13, Try.ntmps13
  go_wp2
  go_loop [1, 5] (fun k i => k = .int .i64 k0 ∧ i = .int .i64 0) (fun _ _ => 0)
  case atStart => exact ⟨rfl, rfl⟩
  case round =>
    obtain ⟨rfl, rfl⟩ := hrel
    go_wp2
    go_ret
    exact ⟨rfl, rfl⟩

set_option maxRecDepth 100000 in
set_option maxHeartbeats 2000000 in
theorem heldE_row (w : World) (B g cap : Nat) (es : List El) (k0 : Int) (hk0 : 0 ≤ k0) (hk1 : k0 ≤ 1073741824) (hz : es.length ≤ 1048576) (hI : Elems w B (.slice (some ⟨g, 0, none⟩) (marksE es k0 es.length).length cap) (marksE es k0 es.length)) :
    Calls Try.prog 13 #[.slice (some ⟨g, 0, none⟩) es.length cap, .int .i64 k0] w fun e w' => e = .returned (.int .i64 (k0 + 4 * (es.length : Int))) ∧ w' = w := by
  go_enter Try.func13, Try.ntmps13
  go_wp2
  go_loop [1, 5] (fun kv i => ∃ j : Nat, j ≤ es.length ∧ i = .int .i64 j ∧ kv = .int .i64 (k0 + 4 * (j : Int))) (fun _ i => es.length - (intOf i).toNat)
  case atStart => exact ⟨0, Nat.zero_le _, rfl, by simp⟩
  case round =>
    obtain ⟨j, hj, rfl, rfl⟩ := hrel
    by_cases hlt : j < es.length
    · obtain ⟨a0, a1, a2, a3⟩ := hI.cells j _ (marksE_at es k0 es.length j hlt hlt)
      have hj8 : (j : Int) < (es.length : Int) := by omega
      obtain ⟨k, hk⟩ : ∃ k, k = k0 + 4 * (j : Int) := ⟨_, rfl⟩
      have hkb : 0 ≤ k ∧ k ≤ 2000000000 := by omega
      rw [← hk] at a0 a1 a2 a3 ⊢
      simp only [mkE] at a0 a1 a2 a3
      have HK : Hid _ := hk
      obtain ⟨hkb0, hkb1⟩ := hkb
      clear hk hI
      go_wp2
      exact ⟨⟨j + 1, by omega, by go_num, by have := HK.out; congr 1; omega⟩, by simp [intOf]; omega⟩
    · have hjz : j = es.length := by omega
      subst hjz
      clear hI
      go_wp2
      go_ret
      exact ⟨rfl, rfl⟩

theorem heldE_any {w : World} {B : Nat} {v : Value} {es : List El} {k0 : Int} (hk0 : 0 ≤ k0) (hk1 : k0 ≤ 1073741824) (hz : es.length ≤ 1048576) (hI : Elems w B v (marksE es k0 es.length)) :
    Calls Try.prog 13 #[v, .int .i64 k0] w fun e w' => e = .returned (.int .i64 (k0 + 4 * (es.length : Int))) ∧ w' = w := by
  have hl := marksE_len es k0 es.length
  rcases hI.form with ⟨rfl, h⟩ | ⟨g, cap, rfl, h1, h2⟩
  · have e0 : es.length = 0 := by rw [← hl, h]; rfl
    rw [e0]
    refine (heldE_none w _ _ k0).mono ?_
    rintro e w' ⟨rfl, rfl⟩
    exact ⟨by simp, rfl⟩
  · rw [hl]
    exact heldE_row w B g cap es k0 hk0 hk1 hz hI
end Go.Proofs.Ytcmanfcgoapjjaf
