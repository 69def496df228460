/- Contracts of the program's goodElem, isJoined and elemOfEntry. -/
import Derived.Test.YtddelohmppdndaaGreatDoorSEl3
import Derived.Test.YtddelohmppdndaaGreatDoorIIs
namespace Go.Proofs.YtddelohmppdndaaGreatDoor
open Go.RowKit

/-- Whether an elem may be an entry's. -/
def elOk (e : El) : Bool := decide (1 ≤ e.first ∧ e.first ≤ 65535) && (decide (32 ≤ e.second ∧ e.second ≤ 999) && (decide (2 ≤ e.third ∧ e.third ≤ 99) && !e.varies))

set_option maxRecDepth 100000 in
set_option maxHeartbeats 2000000 in
theorem goodElem_any (e : El) (w : World) : Calls Tryz.prog 92 #[.agg #[.int .i64 e.first, .int .i64 e.second, .int .i64 e.third, .bool e.varies]] w fun x w' => x = .returned (.bool (elOk e)) ∧ Below w.heap.size w w' := by
  obtain ⟨b, HB⟩ : ∃ b, Hid (elOk e = b) := ⟨_, rfl⟩
  rw [HB.out]
  obtain ⟨a, c, d, v⟩ := e
  simp only at *
  have hal := (Below.refl w.heap.size w).alloc (Nat.le_refl _) (.cells #[.int .i64 a, .int .i64 c, .int .i64 d, .bool v] 67)
  have fin : ∀ x, (x = true ↔ ((1 ≤ a ∧ a ≤ 65535) ∧ (32 ≤ c ∧ c ≤ 999) ∧ (2 ≤ d ∧ d ≤ 99) ∧ v = false)) → b = x := by
    intro x hx
    rw [← HB.out]
    unfold elOk
    rw [Bool.eq_iff_iff, hx]
    simp
  have HF : Hid _ := fin
  clear fin HB
  by_cases h1 : 1 ≤ a
  · by_cases h2 : a ≤ 65535
    · by_cases h3 : 32 ≤ c
      · by_cases h4 : c ≤ 999
        · by_cases h5 : 2 ≤ d
          · by_cases h6 : d ≤ 99
            · cases v
              · rw [HF.out true (by simp; omega)]
                clear HF
                go_enter Tryz.func92, Tryz.ntmps92
                go_wp2
                go_ret
                exact ⟨rfl, hal⟩
              · rw [HF.out false (by simp)]
                clear HF
                go_enter Tryz.func92, Tryz.ntmps92
                go_wp2
                go_ret
                exact ⟨rfl, hal⟩
            · rw [HF.out false (by simp; omega)]
              clear HF
              go_enter Tryz.func92, Tryz.ntmps92
              go_wp2
              go_ret
              exact ⟨rfl, hal⟩
          · rw [HF.out false (by simp; omega)]
            clear HF
            go_enter Tryz.func92, Tryz.ntmps92
            go_wp2
            go_ret
            exact ⟨rfl, hal⟩
        · rw [HF.out false (by simp; omega)]
          clear HF
          go_enter Tryz.func92, Tryz.ntmps92
          go_wp2
          go_ret
          exact ⟨rfl, hal⟩
      · rw [HF.out false (by simp; omega)]
        clear HF
        go_enter Tryz.func92, Tryz.ntmps92
        go_wp2
        go_ret
        exact ⟨rfl, hal⟩
    · rw [HF.out false (by simp; omega)]
      clear HF
      go_enter Tryz.func92, Tryz.ntmps92
      go_wp2
      go_ret
      exact ⟨rfl, hal⟩
  · rw [HF.out false (by simp; omega)]
    clear HF
    go_enter Tryz.func92, Tryz.ntmps92
    go_wp2
    go_ret
    exact ⟨rfl, hal⟩

/-- The program's tables. -/
def Tabs3 (w : World) : Prop := Held w 0 marksF ∧ Held w 1 capF ∧ Held w 2 othF
theorem Tabs3.below {w w' : World} (h : Tabs3 w) (hb : Below w.heap.size w w') : Tabs3 w' := ⟨h.1.below hb h.1.lt, h.2.1.below hb h.2.1.lt, h.2.2.below hb h.2.2.lt⟩

theorem runesOk_far {l : List Int} (h : ¬ (1 ≤ l.length ∧ l.length ≤ 4)) : runesOk l = false := by
  unfold runesOk
  rw [decide_eq_false h, Bool.false_and]

theorem runesOk_near {l : List Int} (h : 1 ≤ l.length ∧ l.length ≤ 4) : runesOk l = (isD l && okR l) := by
  unfold runesOk isD
  rw [decide_eq_true h, Bool.true_and]
  cases okR l <;> simp

set_option maxRecDepth 100000 in
set_option maxHeartbeats 2000000 in
theorem joined_any {w : World} {B : Nat} {v : Value} {l : List Int} (hz : l.length ≤ 1048576) (hI : Ints w B v l) (ht : Tabs3 w) :
    Calls Tryz.prog 91 #[v] w fun e w' => e = .returned (.bool (runesOk l)) ∧ Below w.heap.size w w' := by
  have D := implIsN_any hz hI ht.1 ht.2.1 ht.2.2
  obtain ⟨a, c, rfl⟩ : ∃ a c, v = .slice a l.length c := by
    rcases hI.form with ⟨rfl, rfl⟩ | ⟨g, cap, rfl, _, _⟩
    · exact ⟨_, _, rfl⟩
    · exact ⟨_, _, rfl⟩
  clear hI ht
  by_cases h1 : 1 ≤ l.length
  · by_cases h2 : l.length ≤ 4
    · rw [runesOk_near ⟨h1, h2⟩]
      have h3 : ¬ (l.length : Int) < 1 := by omega
      have h4 : ¬ (4 : Int) < (l.length : Int) := by omega
      generalize isD l = x at *
      generalize okR l = y at *
      generalize l.length = n at *
      cases x
      · go_enter Tryz.func91, Tryz.ntmps91
        go_wp2_with fail
        refine D.mono ?_
        rintro e w1 ⟨rfl, b1⟩
        clear D
        go_wp2
        go_ret
        exact ⟨rfl, b1⟩
      · go_enter Tryz.func91, Tryz.ntmps91
        go_wp2_with fail
        refine D.mono ?_
        rintro e w1 ⟨rfl, b1⟩
        clear D
        go_wp2
        go_ret
        exact ⟨rfl, b1⟩
    · rw [runesOk_far (fun h => h2 h.2)]
      have h3 : ¬ (l.length : Int) < 1 := by omega
      have h4 : (4 : Int) < (l.length : Int) := by omega
      clear D
      go_enter Tryz.func91, Tryz.ntmps91
      go_wp2
      go_ret
      exact ⟨rfl, Below.refl _ _⟩
  · rw [runesOk_far (fun h => h1 h.1)]
    have h3 : (l.length : Int) < 1 := by omega
    clear D
    go_enter Tryz.func91, Tryz.ntmps91
    go_wp2
    go_ret
    exact ⟨rfl, Below.refl _ _⟩
end Go.Proofs.YtddelohmppdndaaGreatDoor
