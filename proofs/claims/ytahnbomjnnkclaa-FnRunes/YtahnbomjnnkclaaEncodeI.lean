/- Contracts of the program's EncodeRunes over a row of integers of the call's own: as the specification's. -/
import Derived.Test.YtahnbomjnnkclaaEncode
namespace Go.Proofs.Ytahnbomjnnkclaa
open Go.RowKit

def BldRel (w : World) (zs : List Int) (i : Value) (wr : World) : Prop :=
  ∃ k : Nat, k ≤ zs.length ∧ i = .int .i64 k ∧ Lib.IsBuilderF 44 5 w.heap.size w.heap.size (Lib.byteCells (encAll (zs.take k))) wr ∧ Below w.heap.size w wr ∧ (∀ j x, j < k → zs[j]? = some x → goodB x = true)

set_option maxRecDepth 100000 in
set_option maxHeartbeats 1000000 in
theorem implEnc_none (w : World) (a : Option Addr) (c : Nat) :
    Calls Try.prog 5 #[.slice a 0 c] w fun e w' => e = .returned (.tuple #[.string ⟨#[]⟩, .bool true]) ∧ Below w.heap.size w w' := by
  go_enter Try.func5, Try.ntmps5
  go_wp2
  go_loopw [12] (fun i wr => BldRel w [] i wr) (fun _ _ => 0)
  case atStart => exact ⟨0, Nat.le_refl _, rfl, Lib.IsBuilderF.of (Lib.fresh_isBuilder 44 5 w), (Below.refl _ w).alloc (Nat.le_refl _) _, fun j x hj => by omega⟩
  case round =>
    obtain ⟨k, hk, rfl, hI, hbw, _⟩ := hrel
    have hk0 : k = 0 := by simpa using hk
    subst hk0
    have hsz := hbw.size
    go_wp2_with (go_at_call 18; refine (string_any w.heap.size w.heap.size [] _ hI (by omega)).mono ?_; rintro e w1 ⟨rfl, _, hb1, _⟩)
    go_ret2
    exact ⟨rfl, hbw.trans hb1⟩

set_option maxRecDepth 100000 in
set_option maxHeartbeats 2000000 in
theorem implEnc_row (w : World) (g cap : Nat) (zs : List Int) (hz : zs.length ≤ 200) (hg : g < w.heap.size)
    (hc : ∀ j, j < zs.length → w.cell? ⟨g, j, none⟩ = some (.int .i64 (zs[j]?.getD 0))) :
    Calls Try.prog 5 #[.slice (some ⟨g, 0, none⟩) zs.length cap] w fun e w' =>
      (((∀ x ∈ zs, goodB x = true) ∧ e = .returned (.tuple #[.string ⟨(encAll zs).toArray⟩, .bool true])) ∨
       ((¬ ∀ x ∈ zs, goodB x = true) ∧ e = .returned (.tuple #[.string ⟨#[]⟩, .bool false]))) ∧ Below w.heap.size w w' := by
  go_enter Try.func5, Try.ntmps5
  go_wp2
  go_loopw [12] (fun i wr => BldRel w zs i wr) (fun i _ => zs.length - (intOf i).toNat)
  case atStart => exact ⟨0, Nat.zero_le _, rfl, Lib.IsBuilderF.of (Lib.fresh_isBuilder 44 5 w), (Below.refl _ w).alloc (Nat.le_refl _) _, fun j x hj => by omega⟩
  case round =>
    obtain ⟨k, hk, rfl, hI, hbw, hG⟩ := hrel
    have hsz := hbw.size
    have hle := encAll_le zs k
    have HG : Hid _ := hG
    clear hG
    by_cases hlt : k < zs.length
    · obtain ⟨x, hx⟩ : ∃ x, zs[k]? = some x := ⟨_, List.getElem?_eq_getElem hlt⟩
      have c0 := (hbw.cell (p := ⟨g, k, none⟩) hg).trans (hc k hlt)
      rw [hx] at c0
      have c1 : wr.cell? ⟨g, k, none⟩ = some (.int .i64 x) := c0
      have HX : Hid _ := hx
      cases hgx : goodB x
      · have P := fun w => implGood_no x hgx w
        have HN : Hid (¬ ∀ x ∈ zs, goodB x = true) := fun h => by
          have := h x (List.mem_of_getElem? hx)
          rw [hgx] at this; cases this
        clear hc c0 hx hgx
        go_wp2_with (go_at_call 16; refine (P _).mono ?_; rintro e w1 ⟨rfl, rfl⟩)
        go_ret2
        exact ⟨.inr ⟨HN.out, rfl⟩, hbw⟩
      · have P := fun w => implGood_yes x hgx w
        obtain ⟨hx1, hx2, _⟩ := goodB_true hgx
        have HE : Hid _ := encAll_snoc zs k x hx
        have HG2 : Hid (∀ j y, j < k + 1 → zs[j]? = some y → goodB y = true) := by
          intro j y hj hy
          by_cases e : j = k
          · subst e; rw [hx] at hy; cases hy; exact hgx
          · exact HG.out j y (by omega) hy
        have W := writeRune_any w.heap.size w.heap.size (Lib.byteCells (encAll (zs.take k))) x (by omega) (by omega) wr hI (by rw [Lib.byteCells_length]; omega) hsz
        clear hc c0 hx hgx HG
        go_wp2_with (first
          | (go_at_call 16; refine (P _).mono ?_; rintro e w1 ⟨rfl, rfl⟩)
          | (go_at_call 17; refine W.mono ?_; rintro e w2 ⟨rfl, h1, b1, k1⟩))
        exact ⟨⟨k + 1, by omega, by go_num, by rw [HE.out, Lib.byteCells_append, Lib.byteCells_encodeRune]; exact Or.inr h1, hbw.trans b1, HG2.out⟩, by simp [intOf]; omega⟩
    · have e2 : zs.take k = zs := List.take_of_length_le (by omega)
      rw [e2] at hI
      have HY : Hid (∀ x ∈ zs, goodB x = true) := by
        intro x hx
        obtain ⟨j, hj⟩ := List.mem_iff_getElem?.1 hx
        have := (List.getElem?_eq_some_iff.1 hj).1
        exact HG.out j x (by omega) hj
      clear hc e2 hle
      go_wp2_with (go_at_call 18; refine (string_any w.heap.size w.heap.size (encAll zs) _ hI (by omega)).mono ?_; rintro e w1 ⟨rfl, _, hb1, _⟩)
      go_ret2
      exact ⟨.inl ⟨HY.out, rfl⟩, hbw.trans hb1⟩

/-- Whether a row is encoded at all, and its text. -/
def encOk (zs : List Int) : Bool := decide (zs.length ≤ 200 ∧ ∀ x ∈ zs, goodB x = true)
def encS (zs : List Int) : ByteArray := if encOk zs = true then ⟨(encAll zs).toArray⟩ else ⟨#[]⟩

theorem enc_yes {zs : List Int} (h1 : zs.length ≤ 200) (h2 : ∀ x ∈ zs, goodB x = true) : encOk zs = true ∧ encS zs = ⟨(encAll zs).toArray⟩ := by
  have h : encOk zs = true := decide_eq_true ⟨h1, h2⟩
  exact ⟨h, by unfold encS; rw [if_pos h]⟩
theorem enc_no {zs : List Int} (h : ¬ (zs.length ≤ 200 ∧ ∀ x ∈ zs, goodB x = true)) : encOk zs = false ∧ encS zs = ⟨#[]⟩ := by
  have h : encOk zs = false := decide_eq_false h
  exact ⟨h, by unfold encS; rw [h]; rfl⟩

theorem specEnc_any {w : World} {B : Nat} {v : Value} {zs : List Int} (hz : zs.length ≤ 1048576) (hI : Ints w B v zs) :
    Calls Try.prog 6 #[v] w fun e w' => e = .returned (.tuple #[.string (encS zs), .bool (encOk zs)]) ∧ Below w.heap.size w w' := by
  have hl := World.ownsRow.lt hI
  rcases hI.form with ⟨rfl, rfl⟩ | ⟨g, cap, rfl, h1, h2⟩
  · obtain ⟨e1, e2⟩ := enc_yes (zs := []) (by simp) (by simp)
    rw [e1, e2]
    refine (specEnc_none w _ _).mono ?_
    rintro e w' ⟨rfl, rfl⟩
    exact ⟨rfl, Below.refl _ _⟩
  · by_cases c : zs.length ≤ 200
    · by_cases d : ∀ x ∈ zs, goodB x = true
      · obtain ⟨e1, e2⟩ := enc_yes c d
        rw [e1, e2]
        exact specEnc_good w g cap zs c (hl g rfl).2 (fun j hj => hI.cell j hj) d
      · obtain ⟨e1, e2⟩ := enc_no (zs := zs) (fun h => d h.2)
        rw [e1, e2]
        refine (specEnc_bad w g cap zs c (fun j hj => hI.cell j hj) d).mono ?_
        rintro e w' ⟨rfl, rfl⟩
        exact ⟨rfl, Below.refl _ _⟩
    · obtain ⟨e1, e2⟩ := enc_no (zs := zs) (fun h => c h.1)
      rw [e1, e2]
      refine (specEnc_long w _ zs.length cap (by omega) hz).mono ?_
      rintro e w' ⟨rfl, rfl⟩
      exact ⟨rfl, Below.refl _ _⟩

theorem implEnc_any {w : World} {B : Nat} {v : Value} {zs : List Int} (hz : zs.length ≤ 1048576) (hI : Ints w B v zs) :
    Calls Try.prog 5 #[v] w fun e w' => e = .returned (.tuple #[.string (encS zs), .bool (encOk zs)]) ∧ Below w.heap.size w w' := by
  have hl := World.ownsRow.lt hI
  rcases hI.form with ⟨rfl, rfl⟩ | ⟨g, cap, rfl, h1, h2⟩
  · obtain ⟨e1, e2⟩ := enc_yes (zs := []) (by simp) (by simp)
    rw [e1, e2]
    exact implEnc_none w _ _
  · by_cases c : zs.length ≤ 200
    · refine (implEnc_row w g cap zs c (hl g rfl).2 (fun j hj => hI.cell j hj)).mono ?_
      rintro e w' ⟨⟨d, rfl⟩ | ⟨d, rfl⟩, hb⟩
      · obtain ⟨e1, e2⟩ := enc_yes c d
        rw [e1, e2]
        exact ⟨rfl, hb⟩
      · obtain ⟨e1, e2⟩ := enc_no (zs := zs) (fun h => d h.2)
        rw [e1, e2]
        exact ⟨rfl, hb⟩
    · obtain ⟨e1, e2⟩ := enc_no (zs := zs) (fun h => c h.1)
      rw [e1, e2]
      refine (implEnc_long w _ zs.length cap (by omega) hz).mono ?_
      rintro e w' ⟨rfl, rfl⟩
      exact ⟨rfl, Below.refl _ _⟩
end Go.Proofs.Ytahnbomjnnkclaa
