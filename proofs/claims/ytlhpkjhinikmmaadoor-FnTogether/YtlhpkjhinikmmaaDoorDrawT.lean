/- Contracts of the cursor's wide, of DrawApartOf and DrawTogetherOf: some numbers, whatever the bytes. -/
import Derived.Test.YtlhpkjhinikmmaaDoorDraw0
import Derived.Test.YtlhpkjhinikmmaaDoorSTog
import Derived.Deep.RegionHeld
namespace Go.Proofs.YtlhpkjhinikmmaaDoor
open Go.RowKit

def WRel (w : World) (B b k : Nat) (n i : Value) (wr : World) : Prop := ∃ (j : Nat) (y : Int), j ≤ 8 ∧ n = .int .i64 y ∧ i = .int .i64 j ∧ Moved w wr B b k j

theorem wrel_step {w wr w2 : World} {B b k k' j : Nat} {y : Int} (hj : j < 8) (hk : k' ≤ k + j) (hg : w.grownBy wr (some b)) (hC : Cur w2 B b (k' + 1)) (hg2 : wr.grownBy w2 (some b)) : WRel w B b k (.int .i64 y) (.int .i64 ((j : Int) + 1)) w2 :=
  ⟨j + 1, y, hj, rfl, by go_num, ⟨k' + 1, by omega, hC⟩, grown_and hg hg2⟩

set_option maxRecDepth 100000 in
set_option maxHeartbeats 2000000 in
theorem wide_any (w : World) (B b k : Nat) (h : Cur w B b k) (hk : k ≤ 900000000) :
    Calls Tryd.prog 42 #[.pointer (some ⟨b, 0, none⟩)] w fun e w' => ∃ x : Int, e = .returned (.int .i64 x) ∧ Moved w w' B b k 8 := by
  go_enter Tryd.func42, Tryd.ntmps42
  go_wp2
  go_loopw [3, 4] (fun n i wr => WRel w B b k n i wr) (fun _ i _ => 8 - (intOf i).toNat)
  case atStart => exact ⟨0, 0, Nat.zero_le _, rfl, rfl, ⟨k, by omega, h⟩, World.grownBy.refl _ _⟩
  case round =>
    clear h
    obtain ⟨j, y, hj, rfl, rfl, ⟨⟨k', hk', hC⟩, hg⟩⟩ := hrel
    by_cases hlt : j < 8
    · have hj8 : (j : Int) < 8 := by omega
      have NX := next_any wr B b k' hC (by omega)
      go_wp2_with fail
      refine NX.mono ?_
      rintro e w2 ⟨x, rfl, x0, x1, hC2, hg2⟩
      clear NX
      go_wp2
      exact ⟨wrel_step hlt hk' hg hC2 hg2, by simp [intOf]; omega⟩
    · go_wp2
      go_ret
      exact ⟨y, rfl, ⟨k', by omega, hC⟩, hg⟩

set_option maxRecDepth 100000 in
set_option maxHeartbeats 2000000 in
theorem drawApart_any (w : World) (a : Option Addr) (n cap : Nat) (hn : n ≤ 1048576) (h : Came w a n) :
    Calls Tryd.prog 25 #[.slice a n cap] w fun e w' => ∃ x : Int, e = .returned (.int .i64 x) ∧ Below w.heap.size w w' := by
  have hC0 := cur_new w a n cap hn h
  have P := pick_any _ _ _ 0 hC0 (by omega) 4 (by omega) (by omega)
  clear h hC0
  go_enter Tryd.func25, Tryd.ntmps25
  go_wp2_with fail
  refine P.mono ?_
  rintro e w1 ⟨x, rfl, x0, x1, ⟨⟨k1, hk1, hC1⟩, hg1⟩⟩
  clear P
  have hx : x = 0 ∨ x = 1 ∨ x = 2 ∨ 3 ≤ x := by omega
  rcases hx with rfl | rfl | rfl | hx
  · go_wp2_with fail
    refine (pick_any w1 _ _ k1 hC1 (by omega) 64 (by omega) (by omega)).mono ?_
    rintro e w2 ⟨y, rfl, y0, y1, ⟨⟨k2, hk2, hC2⟩, hg2⟩⟩
    go_wp2
    go_ret
    exact ⟨_, rfl, cur_below (grown_and hg1 hg2)⟩
  · go_wp2_with fail
    refine (wide_any w1 _ _ k1 hC1 (by omega)).mono ?_
    rintro e w2 ⟨y, rfl, ⟨⟨k2, hk2, hC2⟩, hg2⟩⟩
    go_wp2
    go_ret
    exact ⟨_, rfl, cur_below (grown_and hg1 hg2)⟩
  · go_wp2_with fail
    refine (among_lit w1 _ _ k1 hC1 (by omega) [8491, 7844, 7845, 7779, 7785, 44031, 55204, -1, 55296] 9 rfl (by omega) (by omega) _ rfl).mono ?_
    rintro e w2 ⟨y, rfl, hy, ⟨⟨k2, hk2, hC2⟩, hg2⟩⟩
    go_wp2
    go_ret
    exact ⟨_, rfl, cur_below (grown_and hg1 hg2)⟩
  · go_wp2_with fail
    refine (rune_any w1 _ _ k1 hC1 (by omega)).mono ?_
    rintro e w2 ⟨y, rfl, hy, ⟨⟨k2, hk2, hC2⟩, hg2⟩⟩
    go_wp2
    go_ret
    exact ⟨_, rfl, cur_below (grown_and hg1 hg2)⟩

theorem cur_kept {w w' : World} {B b k : Nat} (h : Cur w B b k) (hb : Below w.heap.size w w') : Cur w' B b k := h.kept (below_grows hb none) (fun j hj => by cases hj)

theorem below_from {w w1 w2 : World} {b : Nat} (h : Below w.heap.size w w1) (hg : w1.grownBy w2 (some b)) (hb : w.heap.size ≤ b) : Below w.heap.size w w2 :=
  Below.grown h hg h.size (fun j hj => by cases hj; exact hb)

theorem apartG_len3 (r : Int) : (apartG r).length ≤ 3 := by
  unfold apartG
  split
  · exact (apart_len r).2
  · simp

theorem ints_some3 {w : World} {B : Nat} {v : Value} {zs : List Int} (h : Ints w B v zs) (hz : 1 ≤ zs.length) : ∃ g cap, v = .slice (some ⟨g, 0, none⟩) zs.length cap := by
  rcases h.form with ⟨_, rfl⟩ | ⟨g, cap, rfl, _, _⟩
  · simp at hz
  · exact ⟨g, cap, rfl⟩

/-- Three numbers stand in a row, and nothing older has turned. -/
def R3 (w0 : World) (g : Nat) (w' : World) : Prop := g < w'.heap.size ∧ Below w0.heap.size w0 w'

theorem keep3 {w0 w1 w2 : World} {g : Nat} {x y z : Value} (hb : Below w1.heap.size w1 w2) (h : w1.cell? ⟨g, 0, none⟩ = some x ∧ w1.cell? ⟨g, 1, none⟩ = some y ∧ w1.cell? ⟨g, 2, none⟩ = some z ∧ R3 w0 g w1) :
    w2.cell? ⟨g, 0, none⟩ = some x ∧ w2.cell? ⟨g, 1, none⟩ = some y ∧ w2.cell? ⟨g, 2, none⟩ = some z ∧ R3 w0 g w2 := by
  obtain ⟨h1, h2, h3, h4, h5⟩ := h
  exact ⟨by rw [hb.cell h4]; exact h1, by rw [hb.cell h4]; exact h2, by rw [hb.cell h4]; exact h3, Nat.lt_of_lt_of_le h4 hb.size, h5.trans (hb.mono h5.size)⟩

set_option maxRecDepth 100000 in
set_option maxHeartbeats 4000000 in
theorem drawTog_any (w : World) (a : Option Addr) (n cap : Nat) (hn : n ≤ 1048576) (h : Came w a n) :
    Calls Tryd.prog 13 #[.slice a n cap] w fun e w' => ∃ x y : Int, e = .returned (.tuple #[.int .i64 x, .int .i64 y]) ∧ Below w.heap.size w w' := by
  have hC0 := cur_new w a n cap hn h
  have hb0 : Below w.heap.size w (w.alloc (.cells #[.slice a n cap, .int .i64 0, .int .u64 0] 42)) := (Below.refl _ _).alloc (Nat.le_refl _) _
  have D := drawApart_any (w.alloc (.cells #[.slice a n cap, .int .i64 0, .int .u64 0] 42)) a n cap hn (h.below hb0)
  have HC : Hid _ := hC0
  clear h hC0
  go_enter Tryd.func13, Tryd.ntmps13
  go_wp2_with fail
  refine D.mono ?_
  rintro e w1 ⟨x, rfl, hb1⟩
  have hc1 := cur_kept HC.out hb1
  have hsz1 : w.heap.size + 1 ≤ w1.heap.size := by have := hb1.size; simpa using this
  have hbb1 := hb0.trans (hb1.mono hb0.size)
  clear D HC hb1 hb0
  go_wp2_with fail
  refine (specApart_any x w1).mono ?_
  rintro e w2 ⟨v, rfl, hI, hb2⟩
  have hc2 := cur_kept hc1 hb2
  have hbb2 := hbb1.trans (hb2.mono hbb1.size)
  have hl := apartG_len3 x
  clear hc1 hbb1 hb2
  generalize apartG x = ls at *
  match ls, hl, hI with
  | [], _, hI =>
    obtain ⟨aa, cc, rfl⟩ : ∃ aa cc, v = .slice aa 0 cc := by
      rcases hI.form with ⟨rfl, _⟩ | ⟨g, cap, rfl, _, _⟩
      · exact ⟨_, _, rfl⟩
      · exact ⟨_, _, rfl⟩
    clear hI
    go_wp2_with fail
    refine (rune_any w2 _ _ 0 hc2 (by omega)).mono ?_
    rintro e w3 ⟨y, rfl, hy, ⟨⟨k3, hk3, hC3⟩, hg3⟩⟩
    go_wp2_with fail
    refine (rune_any w3 _ _ k3 hC3 (by omega)).mono ?_
    rintro e w4 ⟨z, rfl, hz, ⟨⟨k4, hk4, hC4⟩, hg4⟩⟩
    go_wp2
    go_ret2
    exact ⟨_, _, rfl, below_from hbb2 (grown_and hg3 hg4) (Nat.le_refl _)⟩
  | [p], _, hI =>
    obtain ⟨g, cc, rfl⟩ := ints_some3 hI (by simp)
    clear hI
    simp only [List.length_cons, List.length_nil]
    go_wp2_with fail
    refine (rune_any w2 _ _ 0 hc2 (by omega)).mono ?_
    rintro e w3 ⟨y, rfl, hy, ⟨⟨k3, hk3, hC3⟩, hg3⟩⟩
    go_wp2_with fail
    refine (rune_any w3 _ _ k3 hC3 (by omega)).mono ?_
    rintro e w4 ⟨z, rfl, hz, ⟨⟨k4, hk4, hC4⟩, hg4⟩⟩
    go_wp2
    go_ret2
    exact ⟨_, _, rfl, below_from hbb2 (grown_and hg3 hg4) (Nat.le_refl _)⟩
  | [p, q], _, hI =>
    obtain ⟨g, cc, rfl⟩ := ints_some3 hI (by simp)
    have c0 : w2.cell? ⟨g, 0, none⟩ = some (.int .i64 p) := hI.cellAt 0 (by simp)
    have c1 : w2.cell? ⟨g, 1, none⟩ = some (.int .i64 q) := hI.cellAt 1 (by simp)
    clear hI
    simp only [List.length_cons, List.length_nil]
    go_wp2_with fail
    go_quiet (fail)
    go_wp2
    go_ret2
    exact ⟨_, _, rfl, below_drewN hbb2 _⟩
  | [p, q, s], _, hI =>
    obtain ⟨g, cc, rfl⟩ := ints_some3 hI (by simp)
    have hglt := (World.ownsRow.lt hI g rfl).2
    have hgge := (World.ownsRow.lt hI g rfl).1
    have c0 : w2.cell? ⟨g, 0, none⟩ = some (.int .i64 p) := hI.cellAt 0 (by simp)
    have c1 : w2.cell? ⟨g, 1, none⟩ = some (.int .i64 q) := hI.cellAt 1 (by simp)
    have c2 : w2.cell? ⟨g, 2, none⟩ = some (.int .i64 s) := hI.cellAt 2 (by simp)
    have hgb : g ≠ w.heap.size := by omega
    clear hI
    simp only [List.length_cons, List.length_nil]
    go_wp2_with fail
    refine (oneIn_any w2 _ _ 0 hc2 (by omega) 2 (by omega) (by omega)).mono ?_
    rintro e w3 ⟨ob, rfl, ⟨⟨k3, hk3, hC3⟩, hg3⟩⟩
    have far : ∀ j, w3.cell? ⟨g, j, none⟩ = w2.cell? ⟨g, j, none⟩ := fun j => World.cell?_of_block (w := w2) (hg3.block g hglt (fun e => hgb (Option.some.inj e)))
    have d0 := (far 0).trans c0
    have d1 := (far 1).trans c1
    have d2 := (far 2).trans c2
    have hbb3 := below_from hbb2 hg3 (Nat.le_refl _)
    have hg3lt : g < w3.heap.size := Nat.lt_of_lt_of_le hglt hg3.size
    clear far c0 c1 c2 hc2
    cases ob with
    | false =>
      go_wp2_with fail
      go_quiet (fail)
      go_wp2
      go_ret2
      exact ⟨_, _, rfl, below_drewN hbb3 _⟩
    | true =>
      have hS : w3.cell? ⟨g, 0, none⟩ = some (.int .i64 p) ∧ w3.cell? ⟨g, 1, none⟩ = some (.int .i64 q) ∧ w3.cell? ⟨g, 2, none⟩ = some (.int .i64 s) ∧ R3 w g w3 := ⟨d0, d1, d2, hg3lt, hbb3⟩
      have hS2 := keep3 ((Below.refl w3.heap.size w3).drew) hS
      have TG := fun u => specTogether_any p q u
      simp only [togRes] at TG
      generalize (tog p q).getD 0 = tx at *
      generalize (tog p q).isSome = ty at *
      go_wp2_with fail
      go_region_held (fun w' => w'.cell? ⟨g, 0, none⟩ = some (.int .i64 p) ∧ w'.cell? ⟨g, 1, none⟩ = some (.int .i64 q) ∧ w'.cell? ⟨g, 2, none⟩ = some (.int .i64 s) ∧ R3 w g w')
        (first | exact hS2 | exact keep3 (by assumption) (by assumption))
        (first | (go_at_call 15; refine (TG _).mono ?_; rintro e w' ⟨rfl, hbw⟩))
      all_goals
        have hE := (show w'.cell? ⟨g, 0, none⟩ = _ ∧ _ ∧ _ ∧ R3 w g w' by assumption)
        have e2 := hE.2.2.1
        have hR := hE.2.2.2
        clear hE hS hS2 TG
        go_wp2_with fail
        go_quiet (fail)
        go_wp2
        go_ret2
        exact ⟨_, _, rfl, below_drewN hR.2 _⟩
end Go.Proofs.YtlhpkjhinikmmaaDoor
