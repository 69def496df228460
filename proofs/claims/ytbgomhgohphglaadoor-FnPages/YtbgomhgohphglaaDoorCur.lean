/- The specification's cursor over drawn bytes: what its memory holds, and the contracts of next, pick, one, among: each hands back a number within its bounds and moves the cursor on by a few places. -/
import Derived.Test.YtbgomhgohphglaaDoorProg
import Derived.Test.YtbgomhgohphglaaDoorInts
import Derived.WalkKit
import Derived.WalkSpells
import Derived.WalkLawsBesides
import Derived.WalkSmall
import Derived.BigQuiet
import Derived.Deep.QuietTactic
namespace Go.Proofs.YtbgomhgohphglaaDoor
open Go.RowKit

/-- The bytes that the cursor reads: none, or a row below B that is not the cursor's own block. -/
def Code (w : World) (B b : Nat) (a : Option Addr) (n : Nat) : Prop :=
  n = 0 ∨ ∃ cb off, a = some ⟨cb, off, none⟩ ∧ cb ≠ b ∧ cb < B ∧ ∀ j, j < n → ∃ x : Int, 0 ≤ x ∧ x ≤ 255 ∧ w.cell? ⟨cb, off + j, none⟩ = some (.int .u8 x)

def Cur (w : World) (B b k : Nat) : Prop :=
  ∃ (a : Option Addr) (n cap : Nat) (seed : Int), w.heap[b]? = some (.cells #[.slice a n cap, .int .i64 (k : Int), .int .u64 seed] 68 (0, 0)) ∧ b < B ∧ B ≤ w.heap.size ∧ n ≤ 1048576 ∧ 0 ≤ seed ∧ seed < 18446744073709551616 ∧ Code w B b a n

theorem Code.kept {w w' : World} {B b : Nat} {a : Option Addr} {n : Nat} (h : Code w B b a n) (hs : B ≤ w.heap.size) {row : Option Nat} (hg : w.grownBy w' row) (hr : ∀ k, row = some k → k = b ∨ B ≤ k) : Code w' B b a n := by
  rcases h with h | ⟨cb, off, rfl, h1, h2, h3⟩
  · exact .inl h
  · refine .inr ⟨cb, off, rfl, h1, h2, fun j hj => ?_⟩
    obtain ⟨x, x0, x1, hx⟩ := h3 j hj
    refine ⟨x, x0, x1, ?_⟩
    rw [World.cell?_of_block (w := w) (hg.block cb (by omega) (fun e => by rcases hr cb e.symm with h | h <;> omega))]
    exact hx

theorem Cur.kept {w w' : World} {B b k : Nat} (h : Cur w B b k) {row : Option Nat} (hg : w.grownBy w' row) (hr : ∀ k, row = some k → B ≤ k) : Cur w' B b k := by
  obtain ⟨a, n, cap, seed, h1, h2, h3, h4, h5, h6, h7⟩ := h
  refine ⟨a, n, cap, seed, ?_, h2, Nat.le_trans h3 hg.size, h4, h5, h6, h7.kept h3 hg (fun k hk => .inr (hr k hk))⟩
  rw [hg.block b (by omega) (fun e => by have := hr b e.symm; omega)]
  exact h1

theorem Cur.drewN {w : World} {B b k : Nat} (h : Cur w B b k) (n : Nat) : Cur (w.drewN n) B b k := h
theorem Cur.lt {w : World} {B b k : Nat} (h : Cur w B b k) : b < B ∧ B ≤ w.heap.size := by obtain ⟨_, _, _, _, _, h1, h2, _⟩ := h; exact ⟨h1, h2⟩

theorem grown_and {a b c : World} {row : Option Nat} (h : a.grownBy b row) (k : b.grownBy c row) : a.grownBy c row := h.trans k
theorem grown_own {a b c : World} {row row' : Option Nat} (h : a.grownBy b row) (k : b.grownBy c row') (hr : ∀ j, row' = some j → a.heap.size ≤ j) : a.grownBy c row :=
  ⟨k.os.trans h.os, k.tape.trans h.tape, k.output.trans h.output, Nat.le_trans h.size k.size, fun i hi hn => by
    rw [k.block i (Nat.lt_of_lt_of_le hi h.size) (fun e => by have := hr i e.symm; omega)]; exact h.block i hi hn⟩

theorem and255 (x : Int) (h0 : 0 ≤ x) (h1 : x < 18446744073709551616) : 0 ≤ bits .and .u64 (x / 1099511627776) 255 ∧ bits .and .u64 (x / 1099511627776) 255 ≤ 255 := by
  have e40 : (2 : Int) ^ 40 = 1099511627776 := by decide
  have hw : ∀ n : Int, 0 ≤ n → n < 2 ^ 40 → IntKind.u64.wrap n = n := fun n a b => by
    have e : IntKind.u64.wrap n = n % 18446744073709551616 := by simp [IntKind.wrap, IntKind.bits, IntKind.signed]
    rw [e40] at b
    rw [e]; omega
  have h := bits_mask .u64 40 (by decide) hw 8 (by decide) (x / 1099511627776) (by omega) (by rw [e40]; omega)
  have e8 : (2 : Int) ^ 8 - 1 = 255 := by decide
  have e9 : (2 : Int) ^ 8 = 256 := by decide
  rw [e8, e9] at h
  rw [h]; omega

theorem ret_w64 {y : Int} (h0 : 0 ≤ y) (h1 : y ≤ 255) : Ending.returned (.int .i64 (wrap64 y)) = .returned (.int .i64 y) := by
  have e : wrap64 y = y := by
    unfold wrap64; omega
  rw [e]

theorem wrapU (n : Int) : 0 ≤ IntKind.u64.wrap n ∧ IntKind.u64.wrap n < 18446744073709551616 := by
  have e : IntKind.u64.wrap n = n % 18446744073709551616 := by simp [IntKind.wrap, IntKind.bits, IntKind.signed]
  rw [e]; omega

theorem cur_step {w : World} {B b k : Nat} {a : Option Addr} {n cap : Nat} {seed : Int} (h1 : w.heap[b]? = some (.cells #[.slice a n cap, .int .i64 (k : Int), .int .u64 seed] 68 (0, 0))) (h2 : b < B) (h3 : B ≤ w.heap.size) (h4 : n ≤ 1048576) (h7 : Code w B b a n) (s : Int) (h5 : 0 ≤ s) (h6 : s < 18446744073709551616) (q q' : Nat) :
    Cur ((((w.drewN q).setCell ⟨b, 1, none⟩ (.int .i64 ((k : Int) + 1))).setCell ⟨b, 2, none⟩ (.int .u64 s)).drewN q') B b (k + 1) ∧ w.grownBy ((((w.drewN q).setCell ⟨b, 1, none⟩ (.int .i64 ((k : Int) + 1))).setCell ⟨b, 2, none⟩ (.int .u64 s)).drewN q') (some b) := by
  have e1 := heap_setCell_same (w.drewN q) b 1 _ _ (.int .i64 ((k : Int) + 1)) h1
  have e2 := heap_setCell_same _ b 2 _ _ (.int .u64 s) e1
  have g : w.grownBy ((((w.drewN q).setCell ⟨b, 1, none⟩ (.int .i64 ((k : Int) + 1))).setCell ⟨b, 2, none⟩ (.int .u64 s)).drewN q') (some b) := by
    refine ⟨rfl, rfl, rfl, by simp [World.drewN], fun i hi hn => ?_⟩
    have hne : i ≠ b := fun e => hn (by rw [e])
    exact (heap_setCell_other _ ⟨b, 2, none⟩ i _ hne).trans (heap_setCell_other _ ⟨b, 1, none⟩ i _ hne)
  refine ⟨⟨a, n, cap, s, ?_, h2, Nat.le_trans h3 g.size, h4, h5, h6, h7.kept h3 g (fun j hj => by cases hj; exact .inl rfl)⟩, g⟩
  have e3 : (((#[.slice a n cap, .int .i64 (k : Int), .int .u64 seed] : Array Value).setIfInBounds 1 (.int .i64 ((k : Int) + 1))).setIfInBounds 2 (.int .u64 s)) = #[.slice a n cap, .int .i64 ((k + 1 : Nat) : Int), .int .u64 s] := by
    simp
  rw [← e3]
  exact e2

set_option maxRecDepth 100000 in
set_option maxHeartbeats 2000000 in
theorem next_any (w : World) (B b k : Nat) (h : Cur w B b k) (hk : k ≤ 1073741824) :
    Calls Tryd.prog 68 #[.pointer (some ⟨b, 0, none⟩)] w fun e w' => ∃ x : Int, e = .returned (.int .i64 x) ∧ 0 ≤ x ∧ x ≤ 255 ∧ Cur w' B b (k + 1) ∧ w.grownBy w' (some b) := by
  obtain ⟨a, n, cap, seed, h1, h2, h3, h4, h5, h6, h7⟩ := h
  have c0 := cell_of_row w b 0 _ _ _ h1
  have c1 := cell_of_row w b 1 _ _ _ h1
  have c2 := cell_of_row w b 2 _ _ _ h1
  simp at c0 c1 c2
  have f0 := fun j => frozen_of_row w b j _ _ h1
  have HS : Hid _ := And.intro h5 h6
  have H1 : Hid _ := h1
  have H7 : Hid _ := h7
  clear h5 h6 h1
  by_cases hlt : k < n
  · rcases h7 with h7 | ⟨cb, off, rfl, g1, g2, g3⟩
    · omega
    · obtain ⟨x, x0, x1, hx⟩ := g3 k hlt
      clear g3
      go_enter Tryd.func68, Tryd.ntmps68
      go_wp2
      go_quiet (fail)
      go_wp2
      go_quiet (fail)
      go_wp2
      go_quiet (fail)
      go_wp2
      go_ret
      have hs := wrapU (IntKind.u64.wrap (IntKind.u64.wrap (seed * 6364136223846793005) + x) + 1442695040888963407)
      have hc := cur_step H1.out h2 h3 h4 H7.out _ hs.1 hs.2
      exact ⟨x, rfl, x0, x1, (hc _ _).1, (hc _ _).2⟩
  · clear h7
    go_enter Tryd.func68, Tryd.ntmps68
    go_wp2
    go_quiet (fail)
    go_wp2
    go_quiet (fail)
    go_wp2
    go_ret
    have hs := wrapU (IntKind.u64.wrap (IntKind.u64.wrap (seed * 6364136223846793005)) + 1442695040888963407)
    have hc := cur_step H1.out h2 h3 h4 H7.out _ hs.1 hs.2
    have hx := and255 _ hs.1 hs.2
    exact ⟨_, ret_w64 hx.1 hx.2, hx.1, hx.2, (hc _ _).1, (hc _ _).2⟩

/-- Behind a draw: the cursor has moved on by at most m places, nothing else has turned. -/
def Moved (w w' : World) (B b k m : Nat) : Prop := (∃ k', k' ≤ k + m ∧ Cur w' B b k') ∧ w.grownBy w' (some b)

set_option maxRecDepth 100000 in
set_option maxHeartbeats 2000000 in
theorem pick_any (w : World) (B b k : Nat) (h : Cur w B b k) (hk : k ≤ 1000000000) (n : Int) (hn : n ≤ 1048576) (hn0 : -1048576 ≤ n) :
    Calls Tryd.prog 37 #[.pointer (some ⟨b, 0, none⟩), .int .i64 n] w fun e w' => ∃ x : Int, e = .returned (.int .i64 x) ∧ 0 ≤ x ∧ (x < n ∨ x = 0) ∧ Moved w w' B b k 2 := by
  by_cases c1 : n ≤ 1
  · go_enter Tryd.func37, Tryd.ntmps37
    go_wp2
    go_ret
    exact ⟨0, rfl, by omega, .inr rfl, ⟨k, by omega, h⟩, World.grownBy.refl _ _⟩
  by_cases c2 : n ≤ 200
  · have N := next_any w B b k h (by omega)
    clear h
    go_enter Tryd.func37, Tryd.ntmps37
    go_wp2_with (go_at_call 68; refine N.mono ?_; rintro e w' ⟨x, rfl, x0, x1, hC, hg⟩)
    go_ret
    exact ⟨_, rfl, Int.emod_nonneg _ (by omega), .inl (Int.emod_lt_of_pos _ (by omega)), ⟨k + 1, by omega, hC⟩, hg⟩
  · have N := next_any w B b k h (by omega)
    clear h
    go_enter Tryd.func37, Tryd.ntmps37
    go_wp2_with fail
    refine N.mono ?_
    rintro e w1 ⟨x, rfl, x0, x1, hC, hg⟩
    clear N
    go_wp2_with fail
    refine (next_any w1 B b (k + 1) hC (by omega)).mono ?_
    rintro e w2 ⟨y, rfl, y0, y1, hC2, hg2⟩
    go_wp2
    go_ret
    exact ⟨_, rfl, Int.emod_nonneg _ (by omega), .inl (Int.emod_lt_of_pos _ (by omega)), ⟨k + 1 + 1, by omega, hC2⟩, grown_and hg hg2⟩

set_option maxRecDepth 100000 in
set_option maxHeartbeats 1000000 in
theorem oneIn_any (w : World) (B b k : Nat) (h : Cur w B b k) (hk : k ≤ 1000000000) (n : Int) (hn : n ≤ 1048576) (hn0 : -1048576 ≤ n) :
    Calls Tryd.prog 40 #[.pointer (some ⟨b, 0, none⟩), .int .i64 n] w fun e w' => ∃ x : Bool, e = .returned (.bool x) ∧ Moved w w' B b k 2 := by
  have N := pick_any w B b k h hk n hn hn0
  clear h
  go_enter Tryd.func40, Tryd.ntmps40
  go_wp2_with (go_at_call 37; refine N.mono ?_; rintro e w' ⟨x, rfl, x0, x1, hM⟩)
  go_ret
  exact ⟨_, rfl, hM⟩

set_option maxRecDepth 100000 in
set_option maxHeartbeats 1000000 in
theorem among_any (w : World) (B b k : Nat) (h : Cur w B b k) (hk : k ≤ 1000000000) (g m cap : Nat) (zs : List Int) (hz : zs.length = m) (hm0 : 0 < m) (hm : m ≤ 1048576) (hg : g < w.heap.size) (hgb : g ≠ b)
    (hc : ∀ j, j < m → w.cell? ⟨g, j, none⟩ = some (.int .i64 (zs[j]?.getD 0))) :
    Calls Tryd.prog 80 #[.pointer (some ⟨b, 0, none⟩), .slice (some ⟨g, 0, none⟩) m cap] w fun e w' => ∃ x : Int, e = .returned (.int .i64 x) ∧ x ∈ zs ∧ Moved w w' B b k 2 := by
  have N := pick_any w B b k h hk (m : Int) (by omega) (by omega)
  clear h
  go_enter Tryd.func80, Tryd.ntmps80
  go_wp2_with fail
  refine N.mono ?_
  rintro e w' ⟨x, rfl, x0, x1, hM⟩
  obtain ⟨j, rfl⟩ := Int.eq_ofNat_of_zero_le x0
  have hj : j < m := by omega
  have hj2 : (j : Int) < (m : Int) := by omega
  obtain ⟨y, hy⟩ : ∃ y, zs[j]? = some y := ⟨_, List.getElem?_eq_getElem (by omega)⟩
  have c := hc j hj
  rw [hy] at c
  have c1 : w'.cell? ⟨g, j, none⟩ = some (.int .i64 y) := by
    rw [World.cell?_of_block (w := w) (hM.2.block g hg (fun e => hgb (Option.some.inj e)))]
    exact c
  have HY : Hid _ := hy
  clear N hc c hy
  go_wp2
  go_ret
  exact ⟨y, rfl, List.mem_of_getElem? HY.out, hM⟩
end Go.Proofs.YtbgomhgohphglaaDoor
