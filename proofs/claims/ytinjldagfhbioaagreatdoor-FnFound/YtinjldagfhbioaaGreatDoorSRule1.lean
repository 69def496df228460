/- Contracts of the specification's l3Runes and l3At. -/
import Derived.Test.YtinjldagfhbioaaGreatDoorEnts
import Derived.Test.YtinjldagfhbioaaGreatDoorSD
import Derived.Test.YtinjldagfhbioaaGreatDoorSame2
namespace Go.Proofs.YtinjldagfhbioaaGreatDoor
open Go.RowKit

/-- Whether runes may be an entry's. -/
def runesOk (l : List Int) : Bool := decide (1 ≤ l.length ∧ l.length ≤ 4) && (okR l && decide (nD l = l))

set_option maxRecDepth 100000 in
set_option maxHeartbeats 2000000 in
theorem runes3_any {w : World} {B : Nat} {v : Value} {l : List Int} (hz : l.length ≤ 1048576) (hI : Ints w B v l) :
    Calls Tryz.prog 41 #[v] w fun e w' => e = .returned (.bool (runesOk l)) ∧ Below w.heap.size w w' := by
  have G := good_any hz hI
  unfold runesOk
  by_cases hl : 1 ≤ l.length ∧ l.length ≤ 4
  · obtain ⟨g, cap, rfl⟩ := ints_some hI hl.1
    have Y := fun w => l1In_yes (l.length : Int) 1 4 (by omega) w
    rw [show decide (1 ≤ l.length ∧ l.length ≤ 4) = true from decide_eq_true hl, Bool.true_and]
    cases hok : okR l
    · rw [hok] at G
      clear hI hok
      go_enter Tryz.func41, Tryz.ntmps41
      go_wp2_with fail
      refine (Y _).mono ?_
      rintro e w1 ⟨rfl, rfl⟩
      go_wp2_with fail
      refine G.mono ?_
      rintro e w1 ⟨rfl, rfl⟩
      clear G Y
      go_wp2
      go_ret
      exact ⟨rfl, Below.refl _ _⟩
    · rw [hok] at G
      have D := d_any (okR_true hok).1 hI
      have hb : (nD l).length ≤ 1800 := by
        have h6 := (okR_true hok).1
        have h7 := apD_len l
        rw [nD_len]; omega
      clear hok
      generalize nD l = ds at *
      go_enter Tryz.func41, Tryz.ntmps41
      go_wp2_with fail
      refine (Y _).mono ?_
      rintro e w1 ⟨rfl, rfl⟩
      go_wp2_with fail
      refine G.mono ?_
      rintro e w1 ⟨rfl, rfl⟩
      go_wp2_with fail
      refine D.mono ?_
      rintro e w2 ⟨v2, rfl, h2, b2⟩
      clear D G Y
      go_wp2_with fail
      refine (same2_any (by omega) hz h2 (hI.below b2)).mono ?_
      rintro e w3 ⟨rfl, n3, rfl⟩
      go_wp2
      go_ret
      exact ⟨rfl, below_drewN b2 n3⟩
  · rw [show decide (1 ≤ l.length ∧ l.length ≤ 4) = false from decide_eq_false hl, Bool.false_and]
    have N := fun w => l1In_no (l.length : Int) 1 4 (by omega) w
    clear G
    rcases hI.form with ⟨rfl, rfl⟩ | ⟨g, cap, rfl, _, _⟩
    · simp only [List.length_nil] at N
      clear hI hl
      go_enter Tryz.func41, Tryz.ntmps41
      go_wp2_with fail
      refine (N _).mono ?_
      rintro e w1 ⟨rfl, rfl⟩
      go_wp2
      go_ret
      exact ⟨rfl, Below.refl _ _⟩
    · clear hI hl
      go_enter Tryz.func41, Tryz.ntmps41
      go_wp2_with fail
      refine (N _).mono ?_
      rintro e w1 ⟨rfl, rfl⟩
      go_wp2
      go_ret
      exact ⟨rfl, Below.refl _ _⟩

/-- The place of the entry with these runes; less than 0: none. -/
def atE (es : List Ent) (l : List Int) : Int := match es.findIdx? (fun e => decide (e.runes = l)) with
  | some i => (i : Int)
  | none => -1

def NoEnt (es : List Ent) (l : List Int) (k : Nat) : Prop := ∀ j e, j < k → es[j]? = some e → e.runes ≠ l

theorem NoEnt.succ {es : List Ent} {l : List Int} {e : Ent} {k : Nat} (h : NoEnt es l k) (hx : es[k]? = some e) (hn : e.runes ≠ l) : NoEnt es l (k + 1) := by
  intro j y hj hy
  by_cases c : j = k
  · subst c; rw [hx] at hy; cases hy; exact hn
  · exact h j y (by omega) hy

theorem atE_hit {es : List Ent} {l : List Int} {e : Ent} {k : Nat} (h : NoEnt es l k) (hx : es[k]? = some e) (hr : e.runes = l) : atE es l = (k : Int) := by
  unfold atE
  have : es.findIdx? (fun e => decide (e.runes = l)) = some k := by
    rw [List.findIdx?_eq_some_iff_getElem]
    obtain ⟨hk, he⟩ := List.getElem?_eq_some_iff.1 hx
    refine ⟨hk, by simp [he, hr], fun j hj => ?_⟩
    have := h j es[j] hj (List.getElem?_eq_getElem (by omega))
    simpa using this
  rw [this]

theorem atE_none {es : List Ent} {l : List Int} {k : Nat} (h : NoEnt es l k) (hk : es.length ≤ k) : atE es l = -1 := by
  unfold atE
  have : es.findIdx? (fun e => decide (e.runes = l)) = none := by
    rw [List.findIdx?_eq_none_iff]
    intro x hx
    obtain ⟨j, hj⟩ := List.mem_iff_getElem?.1 hx
    have h1 := (List.getElem?_eq_some_iff.1 hj).1
    simpa using h j x (by omega) hj
  rw [this]

def ARel3 (w : World) (es : List Ent) (l : List Int) (i : Value) (wr : World) : Prop := ∃ k : Nat, k ≤ es.length ∧ i = .int .i64 k ∧ NoEnt es l k ∧ Below w.heap.size w wr

set_option maxRecDepth 100000 in
set_option maxHeartbeats 4000000 in
theorem at3_row (w : World) (B B' g cap : Nat) (es : List Ent) (sh : Bool) (lv : Int) (vl : Value) (l : List Int) (hE : Ents w B (.slice (some ⟨g, 0, none⟩) es.length cap) es) (hL : Ints w B' vl l) (hn : es.length ≤ 1048576) (hl : l.length ≤ 1048576) (hr : ∀ e ∈ es, e.runes.length ≤ 1048576) :
    Calls Tryz.prog 42 #[.agg #[.slice (some ⟨g, 0, none⟩) es.length cap, .bool sh, .int .i64 lv], vl] w fun e w' => e = .returned (.int .i64 (atE es l)) ∧ Below w.heap.size w w' := by
  go_enter Tryz.func42, Tryz.ntmps42
  go_wp2
  go_loopw [10] (fun i wr => ARel3 w es l i wr) (fun i _ => es.length - (intOf i).toNat)
  case atStart => exact ⟨0, Nat.zero_le _, rfl, fun j e hj => by omega, (Below.refl _ _).alloc (Nat.le_refl _) _⟩
  case round =>
    obtain ⟨k, hk, rfl, HN0, hb⟩ := hrel
    have HN : Hid (NoEnt es l k) := HN0
    clear HN0
    by_cases hlt : k < es.length
    · obtain ⟨e, he⟩ : ∃ e, es[k]? = some e := ⟨_, List.getElem?_eq_getElem hlt⟩
      obtain ⟨x, hI, a0, a1, a2, a3, a4⟩ := (hE.below hb).cells k e he
      obtain ⟨xa, xn, xc, rfl⟩ : ∃ xa xn xc, x = .slice xa xn xc := by
        rcases hI.form with ⟨rfl, _⟩ | ⟨_, _, rfl, _, _⟩
        · exact ⟨_, _, _, rfl⟩
        · exact ⟨_, _, _, rfl⟩
      have hk8 : (k : Int) < (es.length : Int) := by omega
      have hrl := hr e (List.mem_of_getElem? he)
      have hba := hb.alloc hb.size (.cells #[.slice xa xn xc, .int .i64 e.el.first, .int .i64 e.el.second, .int .i64 e.el.third, .bool e.el.varies] 74)
      have hbr := (Below.refl wr.heap.size wr).alloc (Nat.le_refl _) (.cells #[.slice xa xn xc, .int .i64 e.el.first, .int .i64 e.el.second, .int .i64 e.el.third, .bool e.el.varies] 74)
      have SM := same2_any hrl hl (hI.below hbr) ((hL.below hb).below hbr)
      have HE : Hid _ := he
      clear he hI hE hL hr
      go_wp2_with fail
      refine SM.mono ?_
      rintro e' w2 ⟨rfl, n2, rfl⟩
      clear SM
      by_cases c : e.runes = l
      · have HA : Hid (atE es l = (k : Int)) := atE_hit HN.out HE.out c
        have c' : decide (e.runes = l) = true := decide_eq_true c
        clear HN HE c
        go_wp2
        go_ret
        rw [HA.out]
        exact ⟨rfl, below_drewN hba n2⟩
      · have HN2 : Hid (NoEnt es l (k + 1)) := HN.out.succ HE.out c
        have c' : decide (e.runes = l) = false := decide_eq_false c
        clear HN HE c
        go_wp2
        exact ⟨⟨k + 1, by omega, by go_num, HN2.out, below_drewN hba n2⟩, by simp [intOf]; omega⟩
    · have HA : Hid (atE es l = -1) := atE_none HN.out (by omega)
      clear HN hE hL hr
      go_wp2
      go_ret
      rw [HA.out]
      exact ⟨rfl, hb⟩

set_option maxRecDepth 100000 in
set_option maxHeartbeats 1000000 in
theorem at3_nil (w : World) (sh : Bool) (lv : Int) (vl : Value) : Calls Tryz.prog 42 #[.agg #[.slice none 0 0, .bool sh, .int .i64 lv], vl] w fun e w' => e = .returned (.int .i64 (-1)) ∧ Below w.heap.size w w' := by
  go_enter Tryz.func42, Tryz.ntmps42
  go_wp2
  go_loop [10] (fun i => i = .int .i64 0) (fun _ => 0)
  case atStart => rfl
  case round =>
    subst hrel
    go_wp2
    go_ret
    exact ⟨rfl, (Below.refl _ _).alloc (Nat.le_refl _) _⟩

theorem at3_any {w : World} {B B' : Nat} {v : Value} {es : List Ent} {sh : Bool} {lv : Int} {vl : Value} {l : List Int} (hE : Ents w B v es) (hL : Ints w B' vl l) (hn : es.length ≤ 1048576) (hl : l.length ≤ 1048576) (hr : ∀ e ∈ es, e.runes.length ≤ 1048576) :
    Calls Tryz.prog 42 #[.agg #[v, .bool sh, .int .i64 lv], vl] w fun e w' => e = .returned (.int .i64 (atE es l)) ∧ Below w.heap.size w w' := by
  rcases hE.form with ⟨rfl, rfl⟩ | ⟨g, cap, rfl, _, _, _, _⟩
  · exact at3_nil w sh lv vl
  · exact at3_row w B B' g cap es sh lv vl l hE hL hn hl hr
end Go.Proofs.YtinjldagfhbioaaGreatDoor
