/- Texts of mine laid together: IAlike. -/
import Derived.Test.YtinjldagfhbioaaGreatDoorMD1
import Derived.Test.YtinjldagfhbioaaGreatDoorMD5
import Derived.Test.YtinjldagfhbioaaGreatDoorInts
import Derived.BigQuiet
namespace Go.Proofs.YtinjldagfhbioaaGreatDoor
open Go.RowKit

theorem ret_num {x y : Int} (h : x = y) : Ending.returned (.int .i64 x) = .returned (.int .i64 y) := by rw [h]

def AlRel (a b : List Int) (i : Value) : Prop := ∃ k : Nat, k ≤ a.length ∧ k ≤ b.length ∧ i = .int .i64 k ∧ ∀ j, j < k → a[j]? = b[j]?

set_option maxRecDepth 100000 in
set_option maxHeartbeats 1000000 in
theorem alike_row (w : World) (g g' c c' : Nat) (a b : List Int) (ha : a.length ≤ 1048576) (hb : b.length ≤ 1048576) (hra : ∀ x ∈ a, 1 ≤ x ∧ x ≤ 65535) (hrb : ∀ x ∈ b, 1 ≤ x ∧ x ≤ 65535)
    (h1 : ∀ j x, a[j]? = some x → w.cell? ⟨g, j, none⟩ = some (.int .i64 x)) (h2 : ∀ j x, b[j]? = some x → w.cell? ⟨g', j, none⟩ = some (.int .i64 x)) :
    Calls Tryz.prog 60 #[.slice (some ⟨g, 0, none⟩) a.length c, .slice (some ⟨g', 0, none⟩) b.length c'] w fun e w' => e = .returned (.int .i64 (alike a b)) ∧ ∃ n, w' = w.drewN n := by
  have HRA : Hid (∀ x ∈ a, 1 ≤ x ∧ x ≤ 65535) := hra
  have HRB : Hid (∀ x ∈ b, 1 ≤ x ∧ x ≤ 65535) := hrb
  have H1 : Hid _ := h1
  have H2 : Hid _ := h2
  clear hra hrb h1 h2
  rcases Nat.lt_or_ge a.length b.length with hab | hab
  all_goals
    have hab8 : (a.length : Int) < (b.length : Int) ∨ (b.length : Int) ≤ (a.length : Int) := by omega
    clear hab8
    go_enter Tryz.func60, Tryz.ntmps60
    go_wp2
    all_goals
      go_loopw [14] (fun i wr => AlRel a b i ∧ ∃ n, wr = w.drewN n) (fun i _ => a.length - (intOf i).toNat)
      case atStart => exact ⟨⟨0, Nat.zero_le _, Nat.zero_le _, rfl, fun j hj => by omega⟩, 0, rfl⟩
      case round =>
        obtain ⟨⟨k, hka, hkb, rfl, hsame⟩, n0, rfl⟩ := hrel
        have HS : Hid (∀ j, j < k → a[j]? = b[j]?) := hsame
        clear hsame
        by_cases hlt : k < a.length ∧ k < b.length
        · obtain ⟨hla, hlb⟩ := hlt
          obtain ⟨x, hx⟩ : ∃ x, a[k]? = some x := ⟨_, List.getElem?_eq_getElem hla⟩
          obtain ⟨y, hy⟩ : ∃ y, b[k]? = some y := ⟨_, List.getElem?_eq_getElem hlb⟩
          have c0 := H1.out k x hx
          have c1 := H2.out k y hy
          have hxr := HRA.out x (List.mem_of_getElem? hx)
          have hyr := HRB.out y (List.mem_of_getElem? hy)
          have hla8 : (k : Int) < (a.length : Int) := by omega
          have hlb8 : (k : Int) < (b.length : Int) := by omega
          have hor : (FloatKind.f64.format.order (floatOfInt .f64 x) (floatOfInt .f64 y) != some .eq) = !decide (x = y) := congrArg (fun b => !b) (near_neq hxr hyr)
          have HX : Hid (a[k]? = some x ∧ b[k]? = some y) := ⟨hx, hy⟩
          clear hx hy
          by_cases hxy : x = y
          · rw [decide_eq_true hxy, Bool.not_true] at hor
            have HS2 : Hid (∀ j, j < k + 1 → a[j]? = b[j]?) := fun j hj => by
              by_cases c : j = k
              · subst c; rw [HX.out.1, HX.out.2, hxy]
              · exact HS.out j (by omega)
            clear hxy HX HS
            go_wp2_with fail
            go_quiet (fail)
            go_wp2
            exact ⟨⟨⟨k + 1, by omega, by omega, by go_num, HS2.out⟩, n0 + nq, rfl⟩, by simp [intOf]; omega⟩
          · rw [decide_eq_false hxy, Bool.not_false] at hor
            have HF : Hid (alike a b = k) := alike_at a b k x y HS.out HX.out.1 HX.out.2 hxy
            clear hxy HX HS
            go_wp2_with fail
            go_quiet (fail)
            go_wp2
            go_ret
            rw [HF.out]
            exact ⟨rfl, n0 + nq, rfl⟩
        · have hfin : alike a b = k := by
            have := alike_all a b (fun j hj => HS.out j (by omega))
            omega
          have HF : Hid (alike a b = k) := hfin
          clear hfin HS
          have hkk : (k = a.length ∧ a.length < b.length) ∨ (k = b.length ∧ b.length ≤ a.length) := by omega
          rcases hkk with ⟨rfl, hq⟩ | ⟨rfl, hq⟩
          all_goals
            first
              | (exfalso; omega)
              | (go_wp2
                 go_ret
                 rw [HF.out]
                 exact ⟨ret_num (by omega), n0, rfl⟩)

set_option maxRecDepth 100000 in
set_option maxHeartbeats 1000000 in
theorem alike_none (w : World) (a b : Option Addr) (c d : Nat) (l l' : List Int) (h : l = [] ∨ l' = []) :
    Calls Tryz.prog 60 #[.slice a l.length c, .slice b l'.length d] w fun e w' => e = .returned (.int .i64 (alike l l')) ∧ ∃ n, w' = w.drewN n := by
  have HA : Hid (alike l l' = 0) := by
    show _ = _
    rcases h with rfl | rfl
    · simp [alike]
    · cases l <;> simp [alike]
  rw [HA.out]
  have hn : (l.length = 0 ∧ (l.length : Int) ≤ (l'.length : Int)) ∨ (l'.length = 0 ∧ (l'.length : Int) < (l.length : Int)) ∨ (l'.length = 0 ∧ l.length = 0) := by
    rcases h with rfl | rfl
    · left; simp
    · by_cases c : l.length = 0
      · right; right; exact ⟨rfl, c⟩
      · right; left; exact ⟨rfl, by simp; omega⟩
  generalize l.length = n at *
  generalize l'.length = m at *
  clear h HA
  go_enter Tryz.func60, Tryz.ntmps60
  go_wp2
  all_goals
    go_loop [14] (fun i => i = .int .i64 0) (fun _ => 0)
    case atStart => rfl
    case round =>
      subst hrel
      have h0 : ¬ (0 : Int) < (n : Int) ∨ ¬ (0 : Int) < (m : Int) := by omega
      have hz : (n = 0 ∨ m = 0) := by omega
      rcases hn with ⟨rfl, hq⟩ | ⟨rfl, hq⟩ | ⟨rfl, rfl⟩
      all_goals
        first
          | (exfalso; omega)
          | (go_wp2
             go_ret
             exact ⟨ret_num (by omega), 0, rfl⟩)

theorem alike_any {w : World} {B B' : Nat} {va vb : Value} {a b : List Int} (ha : a.length ≤ 1048576) (hb : b.length ≤ 1048576) (hra : ∀ x ∈ a, 1 ≤ x ∧ x ≤ 65535) (hrb : ∀ x ∈ b, 1 ≤ x ∧ x ≤ 65535) (h1 : Ints w B va a) (h2 : Ints w B' vb b) :
    Calls Tryz.prog 60 #[va, vb] w fun e w' => e = .returned (.int .i64 (alike a b)) ∧ ∃ n, w' = w.drewN n := by
  rcases h1.form with ⟨rfl, rfl⟩ | ⟨g, c, rfl, _, _⟩
  · obtain ⟨b2, d2, rfl⟩ : ∃ b2 d2, vb = .slice b2 b.length d2 := by
      rcases h2.form with ⟨rfl, rfl⟩ | ⟨g, c, rfl, _, _⟩
      · exact ⟨_, _, rfl⟩
      · exact ⟨_, _, rfl⟩
    exact alike_none w none b2 0 d2 [] b (.inl rfl)
  · rcases h2.form with ⟨rfl, rfl⟩ | ⟨g', c', rfl, _, _⟩
    · exact alike_none w (some ⟨g, 0, none⟩) none c 0 a [] (.inr rfl)
    · exact alike_row w g g' c c' a b ha hb hra hrb (fun j x hx => by have := h1.cell j (List.getElem?_eq_some_iff.1 hx).1; rw [hx] at this; exact this) (fun j x hx => by have := h2.cell j (List.getElem?_eq_some_iff.1 hx).1; rw [hx] at this; exact this)
end Go.Proofs.YtinjldagfhbioaaGreatDoor
