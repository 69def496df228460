/- Texts of mine laid together: Cur, Runes1, DrawOf, DrawRt, PutC, Put, EncS1, SRule3, SFree, SBehind, SBehind2, SBehind3. -/
import Derived.Test.YtinjldagfhbioaaGreatDoorProg
import Derived.Test.YtinjldagfhbioaaGreatDoorInts
import Derived.WalkKit
import Derived.WalkSpells
import Derived.WalkLawsBesides
import Derived.WalkSmall
import Derived.BigQuiet
import Derived.Deep.QuietTactic
import Derived.Test.YtinjldagfhbioaaGreatDoorGood
import Derived.BigCall
import Derived.Lib.RuneBytes
import Derived.Test.YtinjldagfhbioaaGreatDoorSEl3
import Derived.Test.YtinjldagfhbioaaGreatDoorMD3
namespace Go.Proofs.YtinjldagfhbioaaGreatDoor
open Go.RowKit

/-- The bytes that the cursor reads: none, or a row below B that is not the cursor's own block. -/
def Code (w : World) (B b : Nat) (a : Option Addr) (n : Nat) : Prop :=
  n = 0 ∨ ∃ cb off, a = some ⟨cb, off, none⟩ ∧ cb ≠ b ∧ cb < B ∧ ∀ j, j < n → ∃ x : Int, 0 ≤ x ∧ x ≤ 255 ∧ w.cell? ⟨cb, off + j, none⟩ = some (.int .u8 x)

def Cur (w : World) (B b k : Nat) : Prop :=
  ∃ (a : Option Addr) (n cap : Nat) (seed : Int), w.heap[b]? = some (.cells #[.slice a n cap, .int .i64 (k : Int), .int .u64 seed] 42 (0, 0)) ∧ b < B ∧ B ≤ w.heap.size ∧ n ≤ 1048576 ∧ 0 ≤ seed ∧ seed < 18446744073709551616 ∧ Code w B b a n

theorem Code.kept {w w' : World} {B b : Nat} {a : Option Addr} {n : Nat} (h : Code w B b a n) (hs : B ≤ w.heap.size) {row : Option Nat} (hg : w.grownBy w' row) (hr : ∀ k, row = some k → k = b ∨ B ≤ k) : Code w' B b a n := by
  rcases h with h | ⟨cb, off, rfl, h1, h2, h3⟩
  · exact .inl h
  · refine .inr ⟨cb, off, rfl, h1, h2, fun j hj => ?_⟩
    obtain ⟨x, x0, x1, hx⟩ := h3 j hj
    refine ⟨x, x0, x1, ?_⟩
    rw [World.cell?_of_block (w := w) (hg.block cb (by omega) (fun e => by rcases hr cb e.symm with h | h <;> omega))]
    exact hx

theorem Cur.kept {w w' : World} {B b k : Nat} (h : Cur w B b k) {row : Option Nat} (hg : w.grownBy w' row) (hr : ∀ k, row = some k → B ≤ k) : Cur w' B b k := by
  obtain ⟨a, n, cap, seed, h1, h2, h3, h4, h5, h6, h7⟩ := h
  refine ⟨a, n, cap, seed, ?_, h2, Nat.le_trans h3 hg.size, h4, h5, h6, h7.kept h3 hg (fun k hk => .inr (hr k hk))⟩
  rw [hg.block b (by omega) (fun e => by have := hr b e.symm; omega)]
  exact h1

theorem Cur.drewN {w : World} {B b k : Nat} (h : Cur w B b k) (n : Nat) : Cur (w.drewN n) B b k := h
theorem Cur.lt {w : World} {B b k : Nat} (h : Cur w B b k) : b < B ∧ B ≤ w.heap.size := by obtain ⟨_, _, _, _, _, h1, h2, _⟩ := h; exact ⟨h1, h2⟩

theorem grown_and {a b c : World} {row : Option Nat} (h : a.grownBy b row) (k : b.grownBy c row) : a.grownBy c row := h.trans k
theorem grown_own {a b c : World} {row row' : Option Nat} (h : a.grownBy b row) (k : b.grownBy c row') (hr : ∀ j, row' = some j → a.heap.size ≤ j) : a.grownBy c row :=
  ⟨k.os.trans h.os, k.tape.trans h.tape, k.output.trans h.output, Nat.le_trans h.size k.size, fun i hi hn => by
    rw [k.block i (Nat.lt_of_lt_of_le hi h.size) (fun e => by have := hr i e.symm; omega)]; exact h.block i hi hn⟩

theorem and255 (x : Int) (h0 : 0 ≤ x) (h1 : x < 18446744073709551616) : 0 ≤ bits .and .u64 (x / 1099511627776) 255 ∧ bits .and .u64 (x / 1099511627776) 255 ≤ 255 := by
  have e40 : (2 : Int) ^ 40 = 1099511627776 := by decide
  have hw : ∀ n : Int, 0 ≤ n → n < 2 ^ 40 → IntKind.u64.wrap n = n := fun n a b => by
    have e : IntKind.u64.wrap n = n % 18446744073709551616 := by simp [IntKind.wrap, IntKind.bits, IntKind.signed]
    rw [e40] at b
    rw [e]; omega
  have h := bits_mask .u64 40 (by decide) hw 8 (by decide) (x / 1099511627776) (by omega) (by rw [e40]; omega)
  have e8 : (2 : Int) ^ 8 - 1 = 255 := by decide
  have e9 : (2 : Int) ^ 8 = 256 := by decide
  rw [e8, e9] at h
  rw [h]; omega

theorem ret_w64 {y : Int} (h0 : 0 ≤ y) (h1 : y ≤ 255) : Ending.returned (.int .i64 (wrap64 y)) = .returned (.int .i64 y) := by
  have e : wrap64 y = y := by
    unfold wrap64; omega
  rw [e]

theorem wrapU (n : Int) : 0 ≤ IntKind.u64.wrap n ∧ IntKind.u64.wrap n < 18446744073709551616 := by
  have e : IntKind.u64.wrap n = n % 18446744073709551616 := by simp [IntKind.wrap, IntKind.bits, IntKind.signed]
  rw [e]; omega

theorem cur_step {w : World} {B b k : Nat} {a : Option Addr} {n cap : Nat} {seed : Int} (h1 : w.heap[b]? = some (.cells #[.slice a n cap, .int .i64 (k : Int), .int .u64 seed] 42 (0, 0))) (h2 : b < B) (h3 : B ≤ w.heap.size) (h4 : n ≤ 1048576) (h7 : Code w B b a n) (s : Int) (h5 : 0 ≤ s) (h6 : s < 18446744073709551616) (q q' : Nat) :
    Cur ((((w.drewN q).setCell ⟨b, 1, none⟩ (.int .i64 ((k : Int) + 1))).setCell ⟨b, 2, none⟩ (.int .u64 s)).drewN q') B b (k + 1) ∧ w.grownBy ((((w.drewN q).setCell ⟨b, 1, none⟩ (.int .i64 ((k : Int) + 1))).setCell ⟨b, 2, none⟩ (.int .u64 s)).drewN q') (some b) := by
  have e1 := heap_setCell_same (w.drewN q) b 1 _ _ (.int .i64 ((k : Int) + 1)) h1
  have e2 := heap_setCell_same _ b 2 _ _ (.int .u64 s) e1
  have g : w.grownBy ((((w.drewN q).setCell ⟨b, 1, none⟩ (.int .i64 ((k : Int) + 1))).setCell ⟨b, 2, none⟩ (.int .u64 s)).drewN q') (some b) := by
    refine ⟨rfl, rfl, rfl, by simp [World.drewN], fun i hi hn => ?_⟩
    have hne : i ≠ b := fun e => hn (by rw [e])
    exact (heap_setCell_other _ ⟨b, 2, none⟩ i _ hne).trans (heap_setCell_other _ ⟨b, 1, none⟩ i _ hne)
  refine ⟨⟨a, n, cap, s, ?_, h2, Nat.le_trans h3 g.size, h4, h5, h6, h7.kept h3 g (fun j hj => by cases hj; exact .inl rfl)⟩, g⟩
  have e3 : (((#[.slice a n cap, .int .i64 (k : Int), .int .u64 seed] : Array Value).setIfInBounds 1 (.int .i64 ((k : Int) + 1))).setIfInBounds 2 (.int .u64 s)) = #[.slice a n cap, .int .i64 ((k + 1 : Nat) : Int), .int .u64 s] := by
    simp
  rw [← e3]
  exact e2

set_option maxRecDepth 100000 in
set_option maxHeartbeats 2000000 in
theorem next_any (w : World) (B b k : Nat) (h : Cur w B b k) (hk : k ≤ 1073741824) :
    Calls Tryz.prog 33 #[.pointer (some ⟨b, 0, none⟩)] w fun e w' => ∃ x : Int, e = .returned (.int .i64 x) ∧ 0 ≤ x ∧ x ≤ 255 ∧ Cur w' B b (k + 1) ∧ w.grownBy w' (some b) := by
  obtain ⟨a, n, cap, seed, h1, h2, h3, h4, h5, h6, h7⟩ := h
  have c0 := cell_of_row w b 0 _ _ _ h1
  have c1 := cell_of_row w b 1 _ _ _ h1
  have c2 := cell_of_row w b 2 _ _ _ h1
  simp at c0 c1 c2
  have f0 := fun j => frozen_of_row w b j _ _ h1
  have HS : Hid _ := And.intro h5 h6
  have H1 : Hid _ := h1
  have H7 : Hid _ := h7
  clear h5 h6 h1
  by_cases hlt : k < n
  · rcases h7 with h7 | ⟨cb, off, rfl, g1, g2, g3⟩
    · omega
    · obtain ⟨x, x0, x1, hx⟩ := g3 k hlt
      clear g3
      go_enter Tryz.func33, Tryz.ntmps33
      go_wp2
      go_quiet (fail)
      go_wp2
      go_quiet (fail)
      go_wp2
      go_quiet (fail)
      go_wp2
      go_ret
      have hs := wrapU (IntKind.u64.wrap (IntKind.u64.wrap (seed * 6364136223846793005) + x) + 1442695040888963407)
      have hc := cur_step H1.out h2 h3 h4 H7.out _ hs.1 hs.2
      exact ⟨x, rfl, x0, x1, (hc _ _).1, (hc _ _).2⟩
  · clear h7
    go_enter Tryz.func33, Tryz.ntmps33
    go_wp2
    go_quiet (fail)
    go_wp2
    go_quiet (fail)
    go_wp2
    go_ret
    have hs := wrapU (IntKind.u64.wrap (IntKind.u64.wrap (seed * 6364136223846793005)) + 1442695040888963407)
    have hc := cur_step H1.out h2 h3 h4 H7.out _ hs.1 hs.2
    have hx := and255 _ hs.1 hs.2
    exact ⟨_, ret_w64 hx.1 hx.2, hx.1, hx.2, (hc _ _).1, (hc _ _).2⟩

/-- Behind a draw: the cursor has moved on by at most m places, nothing else has turned. -/
def Moved (w w' : World) (B b k m : Nat) : Prop := (∃ k', k' ≤ k + m ∧ Cur w' B b k') ∧ w.grownBy w' (some b)

set_option maxRecDepth 100000 in
set_option maxHeartbeats 2000000 in
theorem pick_any (w : World) (B b k : Nat) (h : Cur w B b k) (hk : k ≤ 1000000000) (n : Int) (hn : n ≤ 1048576) (hn0 : -1048576 ≤ n) :
    Calls Tryz.prog 12 #[.pointer (some ⟨b, 0, none⟩), .int .i64 n] w fun e w' => ∃ x : Int, e = .returned (.int .i64 x) ∧ 0 ≤ x ∧ (x < n ∨ x = 0) ∧ Moved w w' B b k 2 := by
  by_cases c1 : n ≤ 1
  · go_enter Tryz.func12, Tryz.ntmps12
    go_wp2
    go_ret
    exact ⟨0, rfl, by omega, .inr rfl, ⟨k, by omega, h⟩, World.grownBy.refl _ _⟩
  by_cases c2 : n ≤ 200
  · have N := next_any w B b k h (by omega)
    clear h
    go_enter Tryz.func12, Tryz.ntmps12
    go_wp2_with (go_at_call 33; refine N.mono ?_; rintro e w' ⟨x, rfl, x0, x1, hC, hg⟩)
    go_ret
    exact ⟨_, rfl, Int.emod_nonneg _ (by omega), .inl (Int.emod_lt_of_pos _ (by omega)), ⟨k + 1, by omega, hC⟩, hg⟩
  · have N := next_any w B b k h (by omega)
    clear h
    go_enter Tryz.func12, Tryz.ntmps12
    go_wp2_with fail
    refine N.mono ?_
    rintro e w1 ⟨x, rfl, x0, x1, hC, hg⟩
    clear N
    go_wp2_with fail
    refine (next_any w1 B b (k + 1) hC (by omega)).mono ?_
    rintro e w2 ⟨y, rfl, y0, y1, hC2, hg2⟩
    go_wp2
    go_ret
    exact ⟨_, rfl, Int.emod_nonneg _ (by omega), .inl (Int.emod_lt_of_pos _ (by omega)), ⟨k + 1 + 1, by omega, hC2⟩, grown_and hg hg2⟩

set_option maxRecDepth 100000 in
set_option maxHeartbeats 1000000 in
theorem oneIn_any (w : World) (B b k : Nat) (h : Cur w B b k) (hk : k ≤ 1000000000) (n : Int) (hn : n ≤ 1048576) (hn0 : -1048576 ≤ n) :
    Calls Tryz.prog 14 #[.pointer (some ⟨b, 0, none⟩), .int .i64 n] w fun e w' => ∃ x : Bool, e = .returned (.bool x) ∧ Moved w w' B b k 2 := by
  have N := pick_any w B b k h hk n hn hn0
  clear h
  go_enter Tryz.func14, Tryz.ntmps14
  go_wp2_with (go_at_call 12; refine N.mono ?_; rintro e w' ⟨x, rfl, x0, x1, hM⟩)
  go_ret
  exact ⟨_, rfl, hM⟩

set_option maxRecDepth 100000 in
set_option maxHeartbeats 1000000 in
theorem among_any (w : World) (B b k : Nat) (h : Cur w B b k) (hk : k ≤ 1000000000) (g m cap : Nat) (zs : List Int) (hz : zs.length = m) (hm0 : 0 < m) (hm : m ≤ 1048576) (hg : g < w.heap.size) (hgb : g ≠ b)
    (hc : ∀ j, j < m → w.cell? ⟨g, j, none⟩ = some (.int .i64 (zs[j]?.getD 0))) :
    Calls Tryz.prog 30 #[.pointer (some ⟨b, 0, none⟩), .slice (some ⟨g, 0, none⟩) m cap] w fun e w' => ∃ x : Int, e = .returned (.int .i64 x) ∧ x ∈ zs ∧ Moved w w' B b k 2 := by
  have N := pick_any w B b k h hk (m : Int) (by omega) (by omega)
  clear h
  go_enter Tryz.func30, Tryz.ntmps30
  go_wp2_with fail
  refine N.mono ?_
  rintro e w' ⟨x, rfl, x0, x1, hM⟩
  obtain ⟨j, rfl⟩ := Int.eq_ofNat_of_zero_le x0
  have hj : j < m := by omega
  have hj2 : (j : Int) < (m : Int) := by omega
  obtain ⟨y, hy⟩ : ∃ y, zs[j]? = some y := ⟨_, List.getElem?_eq_getElem (by omega)⟩
  have c := hc j hj
  rw [hy] at c
  have c1 : w'.cell? ⟨g, j, none⟩ = some (.int .i64 y) := by
    rw [World.cell?_of_block (w := w) (hM.2.block g hg (fun e => hgb (Option.some.inj e)))]
    exact c
  have HY : Hid _ := hy
  clear N hc c hy
  go_wp2
  go_ret
  exact ⟨y, rfl, List.mem_of_getElem? HY.out, hM⟩
end Go.Proofs.YtinjldagfhbioaaGreatDoor

namespace Go.Proofs.YtinjldagfhbioaaGreatDoor
open Go.RowKit

theorem Moved.up {w w' : World} {B b k m m' : Nat} (h : Moved w w' B b k m) (hm : m ≤ m') : Moved w w' B b k m' := by
  obtain ⟨⟨k', h1, h2⟩, h3⟩ := h
  exact ⟨⟨k', by omega, h2⟩, h3⟩

theorem Moved.then {w w1 w2 : World} {B b k m : Nat} (h : Moved w w1 B b k m) {m2 : Nat} (h2 : ∀ k', k' ≤ k + m → Cur w1 B b k' → Moved w1 w2 B b k' m2) : Moved w w2 B b k (m + m2) := by
  obtain ⟨⟨k', a1, a2⟩, a3⟩ := h
  obtain ⟨⟨k2, b1, b2⟩, b3⟩ := h2 k' a1 a2
  exact ⟨⟨k2, by omega, b2⟩, grown_and a3 b3⟩

theorem below_grows {w w' : World} (h : Below w.heap.size w w') (row : Option Nat) : w.grownBy w' row := ⟨h.os, h.tape, h.output, h.size, fun k hk _ => h.block k hk⟩

theorem ints_ne {w : World} {B b : Nat} {v : Value} {zs : List Int} (h : Ints w B v zs) (hb : b < B) : v.ownBlock = none ∨ v.ownBlock ≠ some b := by
  cases c : v.ownBlock with
  | none => exact .inl rfl
  | some g =>
    refine .inr fun e => ?_
    have := (World.ownsRow.lt h g c).1
    have := Option.some.inj e
    omega

theorem among_lit (w : World) (B b k : Nat) (h : Cur w B b k) (hk : k ≤ 1000000000) (zs : List Int) (m : Nat) (hz : zs.length = m) (hm0 : 0 < m) (hm : m ≤ 1048576) (cs : Array Value) (hcs : cs = (zs.map (Value.int .i64)).toArray) :
    Calls Tryz.prog 30 #[.pointer (some ⟨b, 0, none⟩), .slice (some ⟨w.heap.size, 0, none⟩) m m] (w.alloc (.cells cs 3)) fun e w' => ∃ x : Int, e = .returned (.int .i64 x) ∧ x ∈ zs ∧ Moved w w' B b k 2 := by
  have hl := h.lt
  have ga := World.grownBy_alloc w (.cells cs 3) none
  have hC := h.kept ga (fun k hk => by cases hk)
  refine (among_any (w.alloc (.cells cs 3)) B b k hC hk w.heap.size m m zs hz hm0 hm (by simp) (by omega) (fun j hj => ?_)).mono ?_
  · rw [World.cell?_alloc_new, hcs]
    simp [hz, hj]
  · rintro e w' ⟨x, rfl, hx, hM⟩
    exact ⟨x, rfl, hx, hM.1, grown_and (World.grownBy_alloc w _ _) hM.2⟩

set_option maxRecDepth 100000 in
set_option maxHeartbeats 2000000 in
theorem rune_any (w : World) (B b k : Nat) (h : Cur w B b k) (hk : k ≤ 900000000) :
    Calls Tryz.prog 32 #[.pointer (some ⟨b, 0, none⟩)] w fun e w' => ∃ x : Int, e = .returned (.int .i64 x) ∧ goodB x = true ∧ Moved w w' B b k 6 := by
  have N := pick_any w B b k h (by omega) 8 (by omega) (by omega)
  clear h
  go_enter Tryz.func32, Tryz.ntmps32
  go_wp2_with fail
  refine N.mono ?_
  rintro e w1 ⟨x, rfl, x0, x1, ⟨⟨k1, hk1, hC⟩, hg⟩⟩
  have hx : x = 0 ∨ x = 1 ∨ x = 2 ∨ x = 3 ∨ 4 ≤ x := by omega
  clear N
  rcases hx with rfl | rfl | rfl | rfl | hx
  · go_wp2_with fail
    refine (among_lit w1 B b k1 hC (by omega) [32, 45, 49, 57, 46, 95] 6 rfl (by omega) (by omega) _ rfl).mono ?_
    rintro e w2 ⟨y, rfl, hy, ⟨⟨k2, hk2, hC2⟩, hg2⟩⟩
    go_wp2
    go_ret
    exact ⟨y, rfl, (by decide : ∀ z ∈ [32, 45, 49, 57, 46, 95], goodB z = true) y hy, ⟨k2, by omega, hC2⟩, grown_and hg hg2⟩
  · go_wp2_with fail
    refine (among_lit w1 B b k1 hC (by omega) [233, 201, 229, 197, 231, 241, 252, 8491, 7845, 7785, 226] 11 rfl (by omega) (by omega) _ rfl).mono ?_
    rintro e w2 ⟨y, rfl, hy, ⟨⟨k2, hk2, hC2⟩, hg2⟩⟩
    go_wp2
    go_ret
    exact ⟨y, rfl, (by decide : ∀ z ∈ [233, 201, 229, 197, 231, 241, 252, 8491, 7845, 7785, 226], goodB z = true) y hy, ⟨k2, by omega, hC2⟩, grown_and hg hg2⟩
  · go_wp2_with fail
    refine (among_lit w1 B b k1 hC (by omega) [768, 769, 776, 778, 803, 807, 770, 775] 8 rfl (by omega) (by omega) _ rfl).mono ?_
    rintro e w2 ⟨y, rfl, hy, ⟨⟨k2, hk2, hC2⟩, hg2⟩⟩
    go_wp2
    go_ret
    exact ⟨y, rfl, (by decide : ∀ z ∈ [768, 769, 776, 778, 803, 807, 770, 775], goodB z = true) y hy, ⟨k2, by omega, hC2⟩, grown_and hg hg2⟩
  · go_wp2_with fail
    refine (oneIn_any w1 B b k1 hC (by omega) 3 (by omega) (by omega)).mono ?_
    rintro e w2 ⟨bo, rfl, ⟨⟨k2, hk2, hC2⟩, hg2⟩⟩
    cases bo
    · go_wp2_with fail
      refine (among_lit w2 B b k2 hC2 (by omega) [97, 98, 99, 104, 108, 122, 65, 67, 101, 111, 110, 97] 12 rfl (by omega) (by omega) _ rfl).mono ?_
      rintro e w3 ⟨y, rfl, hy, ⟨⟨k3, hk3, hC3⟩, hg3⟩⟩
      go_wp2
      go_ret
      exact ⟨y, rfl, (by decide : ∀ z ∈ [97, 98, 99, 104, 108, 122, 65, 67, 101, 111, 110, 97], goodB z = true) y hy, ⟨k3, by omega, hC3⟩, grown_and hg (grown_and hg2 hg3)⟩
    · go_wp2_with fail
      refine (among_lit w2 B b k2 hC2 (by omega) [44032, 44033, 55203, 4352, 4449, 4520, 19968, 1114111, 128512, 3, 127, 65533] 12 rfl (by omega) (by omega) _ rfl).mono ?_
      rintro e w3 ⟨y, rfl, hy, ⟨⟨k3, hk3, hC3⟩, hg3⟩⟩
      go_wp2
      go_ret
      exact ⟨y, rfl, (by decide : ∀ z ∈ [44032, 44033, 55203, 4352, 4449, 4520, 19968, 1114111, 128512, 3, 127, 65533], goodB z = true) y hy, ⟨k3, by omega, hC3⟩, grown_and hg (grown_and hg2 hg3)⟩
  · go_wp2_with fail
    refine (among_lit w1 B b k1 hC (by omega) [97, 98, 99, 104, 108, 122, 65, 67, 101, 111, 110, 97] 12 rfl (by omega) (by omega) _ rfl).mono ?_
    rintro e w3 ⟨y, rfl, hy, ⟨⟨k3, hk3, hC3⟩, hg3⟩⟩
    go_wp2
    go_ret
    exact ⟨y, rfl, (by decide : ∀ z ∈ [97, 98, 99, 104, 108, 122, 65, 67, 101, 111, 110, 97], goodB z = true) y hy, ⟨k3, by omega, hC3⟩, grown_and hg hg3⟩

def RunesRel (w : World) (B b K m : Nat) (v n : Value) (wr : World) : Prop :=
  ∃ (j k : Nat) (zs : List Int), n = .int .i64 j ∧ Ints wr w.heap.size v zs ∧ zs.length + j ≤ m ∧ (∀ x ∈ zs, goodB x = true) ∧ k + 6 * j ≤ K ∧ Cur wr B b k ∧ w.grownBy wr (some b)

set_option maxRecDepth 100000 in
set_option maxHeartbeats 2000000 in
theorem runes_any (w : World) (B b k m : Nat) (h : Cur w B b k) (hk : k ≤ 800000000) (hm : m ≤ 1000) :
    Calls Tryz.prog 11 #[.pointer (some ⟨b, 0, none⟩), .int .i64 (m : Int)] w fun e w' => ∃ v zs, e = .returned v ∧ Ints w' w.heap.size v zs ∧ zs.length ≤ m ∧ (∀ x ∈ zs, goodB x = true) ∧ Moved w w' B b k (2 + 6 * m) := by
  obtain ⟨i0, hi, hz0, hz1, hz2⟩ := info_parts info_int
  have hB := h.lt
  have N := pick_any w B b k h (by omega) ((m : Int) + 1) (by omega) (by omega)
  clear h
  go_enter Tryz.func11, Tryz.ntmps11
  go_wp2_with fail
  refine N.mono ?_
  rintro e w1 ⟨x, rfl, x0, x1, ⟨⟨k1, hk1, hC⟩, hg⟩⟩
  obtain ⟨j0, rfl⟩ := Int.eq_ofNat_of_zero_le x0
  have hj0 : j0 ≤ m := by omega
  clear N x0 x1
  go_wp2_with fail
  go_loopw [5, 6] (fun v n wr => RunesRel w B b (k + 2 + 6 * m) m v n wr) (fun _ n _ => (intOf n).toNat)
  case atStart => exact ⟨j0, k1, [], rfl, World.ownsRow_nil _ _ _ _, by simp; omega, by simp, by omega, hC, hg⟩
  case round =>
    clear hC hg hk1
    obtain ⟨j, k2, zs, rfl, hI, hl, hgd, hk2, hC2, hg2⟩ := hrel
    have HG : Hid _ := hgd
    clear hgd
    by_cases hj : 0 < j
    · have R := rune_any wr B b k2 hC2 (by omega)
      have hsz := hg2.size
      go_wp2_with fail
      refine R.mono ?_
      rintro e w3 ⟨y, rfl, hy, ⟨⟨k3, hk3, hC3⟩, hg3⟩⟩
      have hI3 := World.ownsRow.kept hI hg3 (ints_ne hI (by omega))
      have hg33 := grown_and hg2 hg3
      have HY : Hid _ := hy
      have hsz3 := hg33.size
      clear R hI hg3 hy hg2 hC2
      go_wp2_with (at_builtin; refine wpList_append_own _ rfl _ _ 35 rfl w.heap.size 3 i0 (.int .i64 0) 1 8 Tryz.underlying35 hi hz0 hz1 hz2 rfl (by decide) _ _ _ rfl (hI3.alloc _) ⟨_, 0, none⟩ 1 1 [.int .i64 y] rfl rfl (cell_one_new _ _ _) (fun x hx => by simp at hx; subst hx; rfl) (by unfold maxLen; omega) (by omega) (by simp; omega) ?_; intro v' w4 hown' hgrow4 _)
      have hb4 : ∀ j, _ = some j → B ≤ j := fun j hj => Nat.le_trans hB.2 (hI3.lt j hj).1
      have hC4 := (hC3.kept (World.grownBy_alloc _ _ none) (fun k hk => by cases hk)).kept hgrow4 hb4
      have hg4 := grown_own (grown_own hg33 (World.grownBy_alloc _ _ none) (fun k hk => by cases hk)) hgrow4 (fun j hj => (hI3.lt j hj).1)
      refine ⟨⟨j - 1, k3, zs ++ [y], by go_num, Ints.snoc hown', by simp; omega, ?_, by omega, hC4, hg4⟩, by simp [intOf]; omega⟩
      intro z hz
      rcases List.mem_append.1 hz with h | h
      · exact HG.out z h
      · rw [List.mem_singleton.1 h]; exact HY.out
    · have hj0 : j = 0 := by omega
      subst hj0
      go_wp2
      go_ret
      exact ⟨_, zs, rfl, hI, by omega, HG.out, ⟨k2, by omega, hC2⟩, hg2⟩
end Go.Proofs.YtinjldagfhbioaaGreatDoor

namespace Go.Proofs.YtinjldagfhbioaaGreatDoor
open Go.RowKit

set_option maxRecDepth 100000 in
set_option maxHeartbeats 1000000 in
theorem of_any (w : World) (B b k : Nat) (h : Cur w B b k) (hk : k ≤ 1000000000) (ss : List ByteArray) (m : Nat) (hz : ss.length = m) (hm0 : 0 < m) (hm : m ≤ 1048576) (cs : Array Value) (hcs : cs = (ss.map Value.string).toArray) :
    Calls Tryz.prog 13 #[.pointer (some ⟨b, 0, none⟩), .slice (some ⟨w.heap.size, 0, none⟩) m m] (w.alloc (.cells cs 9)) fun e w' => ∃ s : ByteArray, e = .returned (.string s) ∧ s ∈ ss ∧ Moved w w' B b k 2 := by
  have hl := h.lt
  have ga := World.grownBy_alloc w (.cells cs 9) none
  have hC := h.kept ga (fun k hk => by cases hk)
  have N := pick_any _ B b k hC hk (m : Int) (by omega) (by omega)
  have hcell : ∀ j, j < m → (w.alloc (.cells cs 9)).cell? ⟨w.heap.size, j, none⟩ = some (.string (ss[j]?.getD ByteArray.empty)) := fun j hj => by
    rw [World.cell?_alloc_new, hcs]; simp [hz, hj]
  clear hC ga h
  obtain ⟨W, hW⟩ : ∃ W, W = w.alloc (.cells cs 9) := ⟨_, rfl⟩
  have hgl : w.heap.size < W.heap.size := by rw [hW]; simp
  have hgw : w.grownBy W (some b) := by rw [hW]; exact World.grownBy_alloc w _ _
  rw [← hW] at N hcell ⊢
  clear hW hcs
  generalize w.heap.size = g at *
  go_enter Tryz.func13, Tryz.ntmps13
  go_wp2_with fail
  refine N.mono ?_
  rintro e w' ⟨x, rfl, x0, x1, hM⟩
  obtain ⟨j, rfl⟩ := Int.eq_ofNat_of_zero_le x0
  have hj : j < m := by omega
  have hj2 : (j : Int) < (m : Int) := by omega
  obtain ⟨y, hy⟩ : ∃ y, ss[j]? = some y := ⟨_, List.getElem?_eq_getElem (by omega)⟩
  have c := hcell j hj
  rw [hy] at c
  have c1 : w'.cell? ⟨g, j, none⟩ = some (.string y) := by
    rw [World.cell?_of_block (w := W) (hM.2.block g hgl (fun e => by have := Option.some.inj e; omega))]
    exact c
  have HY : Hid _ := hy
  clear N hcell c hy
  go_wp2
  go_ret
  exact ⟨y, rfl, List.mem_of_getElem? HY.out, hM.1, grown_and hgw hM.2⟩
end Go.Proofs.YtinjldagfhbioaaGreatDoor

namespace Go.Proofs.YtinjldagfhbioaaGreatDoor
open Go.RowKit

def l6s : List ByteArray := [⟨#[]⟩, ⟨#[]⟩, ⟨#[91, 115, 104, 105, 102, 116, 101, 100, 93, 32]⟩, ⟨#[91, 108, 101, 118, 101, 108, 115, 32, 50, 93, 32]⟩, ⟨#[91, 108, 101, 118, 101, 108, 115, 32, 52, 93, 32, 91, 115, 104, 105, 102, 116, 101, 100, 93, 32]⟩, ⟨#[91, 108, 101, 118, 101, 108, 115, 32, 49, 93, 32]⟩]
def l7s : List ByteArray := [⟨#[99]⟩, ⟨#[108]⟩, ⟨#[122]⟩, ⟨#[97]⟩, ⟨#[110]⟩, ⟨#[65]⟩, ⟨#[111]⟩]
def l4s : List ByteArray := [⟨#[60]⟩, ⟨#[60, 60]⟩, ⟨#[60, 60, 60]⟩, ⟨#[60]⟩]
def l11s : List ByteArray := [⟨#[99, 104]⟩, ⟨#[108, 108]⟩, ⟨#[195, 165]⟩, ⟨#[195, 169]⟩, ⟨#[67, 72]⟩, ⟨#[113]⟩, ⟨#[97, 101]⟩, ⟨#[195, 177]⟩, ⟨#[97, 98, 99, 100]⟩, ⟨#[122, 204, 129]⟩, ⟨#[66]⟩]
theorem l6_bd : ∀ s ∈ l6s, s.size ≤ 21 := by decide
theorem l7_bd : ∀ s ∈ l7s, s.size ≤ 1 := by decide
theorem l4_bd : ∀ s ∈ l4s, s.size ≤ 3 := by decide
theorem l11_bd : ∀ s ∈ l11s, s.size ≤ 4 := by decide

def RtRel (w : World) (B b K M : Nat) (sv n : Value) (wr : World) : Prop :=
  ∃ (j k : Nat) (s : ByteArray), n = .int .i64 j ∧ j ≤ 3 ∧ sv = .string s ∧ s.size + 31 * j ≤ M ∧ k + 20 * j ≤ K ∧ Cur wr B b k ∧ w.grownBy wr (some b)
def RiRel (w : World) (B b K M : Nat) (sv n : Value) (wr : World) : Prop :=
  ∃ (j k : Nat) (s : ByteArray), n = .int .i64 j ∧ j ≤ 3 ∧ sv = .string s ∧ s.size + 9 * j ≤ M ∧ k + 4 * j ≤ K ∧ Cur wr B b k ∧ w.grownBy wr (some b)

set_option maxRecDepth 100000 in
set_option maxHeartbeats 4000000 in
theorem ruleText_any (w : World) (B b k : Nat) (h : Cur w B b k) (hk : k ≤ 700000000) :
    Calls Tryz.prog 28 #[.pointer (some ⟨b, 0, none⟩)] w fun e w' => ∃ s : ByteArray, e = .returned (.string s) ∧ s.size ≤ 300 ∧ Moved w w' B b k 64 := by
  have O6 := of_any w B b k h (by omega) l6s 6 rfl (by omega) (by omega) _ rfl
  clear h
  go_enter Tryz.func28, Tryz.ntmps28
  go_wp2_with fail
  refine O6.mono ?_
  rintro e w1 ⟨s1, rfl, m1, ⟨⟨k1, hk1, hC1⟩, hg1⟩⟩
  have hs1 := l6_bd s1 m1
  have N := pick_any w1 B b k1 hC1 (by omega) 4 (by omega) (by omega)
  clear O6 m1
  go_wp2_with fail
  refine N.mono ?_
  rintro e w2 ⟨x, rfl, x0, x1, ⟨⟨k2, hk2, hC2⟩, hg2⟩⟩
  obtain ⟨j0, rfl⟩ := Int.eq_ofNat_of_zero_le x0
  have hj0 : j0 ≤ 3 := by omega
  have hg22 := grown_and hg1 hg2
  clear N x0 x1 hC1 hg1 hg2
  go_wp2_with fail
  go_loopw [3, 4] (fun sv n wr => RtRel w B b (k + 64) 114 sv n wr) (fun _ n _ => (intOf n).toNat)
  case atStart => exact ⟨j0, k2, s1, rfl, hj0, rfl, by omega, by omega, hC2, hg22⟩
  case round =>
    clear hC2 hg22 hs1 hk2
    obtain ⟨j, k3, s3, rfl, hj3, rfl, hl3, hk3, hC3, hg3⟩ := hrel
    by_cases hj : 0 < j
    · have O7 := of_any wr B b k3 hC3 (by omega) l7s 7 rfl (by omega) (by omega) _ rfl
      go_wp2_with fail
      refine O7.mono ?_
      rintro e w4 ⟨s4, rfl, m4, ⟨⟨k4, hk4, hC4⟩, hg4⟩⟩
      have hs4 := l7_bd s4 m4
      have hz4 : ((⟨#[38, 32]⟩ : ByteArray) ++ s4).size ≤ 3 := by rw [ByteArray.size_append]; show 2 + s4.size ≤ 3; omega
      have hz5 : ((⟨#[38, 32]⟩ : ByteArray) ++ s4 ++ ⟨#[32]⟩).size ≤ 4 := by rw [ByteArray.size_append]; show _ + 1 ≤ 4; omega
      have N4 := pick_any w4 B b k4 hC4 (by omega) 3 (by omega) (by omega)
      have hg44 := grown_and hg3 hg4
      clear O7 m4 hC3 hg3 hg4
      have hz6 : (s3 ++ ((⟨#[38, 32]⟩ : ByteArray) ++ s4 ++ ⟨#[32]⟩)).size ≤ s3.size + 4 := by rw [ByteArray.size_append]; omega
      clear hz4
      go_wp2_with fail
      refine N4.mono ?_
      rintro e w5 ⟨y, rfl, y0, y1, ⟨⟨k5, hk5, hC5⟩, hg5⟩⟩
      obtain ⟨i0, rfl⟩ := Int.eq_ofNat_of_zero_le y0
      have hi0 : i0 ≤ 2 := by omega
      have hg55 := grown_and hg44 hg5
      have HST : Hid (RiRel w B b (k + 64 - 20 * (j - 1)) (114 - 31 * (j - 1)) (.string (s3 ++ ((⟨#[38, 32]⟩ : ByteArray) ++ s4 ++ ⟨#[32]⟩))) (.int .i64 (1 + (i0 : Int))) w5) := ⟨i0 + 1, k5, _, by go_num, by omega, rfl, by omega, by omega, hC5, hg55⟩
      clear N4 y0 y1 hC4 hg44 hg5 hC5 hg55
      go_wp2_with fail
      go_loopw [3, 5] (fun sv n wr => RiRel w B b (k + 64 - 20 * (j - 1)) (114 - 31 * (j - 1)) sv n wr) (fun _ n _ => (intOf n).toNat)
      case atStart => exact HST.out
      case round =>
        clear HST hz5 hz6 hs4
        obtain ⟨i, k6, s6, rfl, hi3, rfl, hl6, hk6, hC6, hg6⟩ := hrel
        by_cases hi : 0 < i
        · have O4 := of_any wr B b k6 hC6 (by omega) l4s 4 rfl (by omega) (by omega) _ rfl
          go_wp2_with fail
          refine O4.mono ?_
          rintro e w7 ⟨s7, rfl, m7, ⟨⟨k7, hk7, hC7⟩, hg7⟩⟩
          have hs7 := l4_bd s7 m7
          have hg77 := grown_and hg6 hg7
          have O11 := of_any w7 B b k7 hC7 (by omega) l11s 11 rfl (by omega) (by omega) _ rfl
          have hz7 : (s7 ++ (⟨#[32]⟩ : ByteArray)).size ≤ 4 := by rw [ByteArray.size_append]; show s7.size + 1 ≤ 4; omega
          clear O4 m7 hC6 hg6 hg7 hC7
          go_wp2_with fail
          refine O11.mono ?_
          rintro e w8 ⟨s8, rfl, m8, ⟨⟨k8, hk8, hC8⟩, hg8⟩⟩
          have hs8 := l11_bd s8 m8
          have hg88 := grown_and hg77 hg8
          have hz8 : (s7 ++ (⟨#[32]⟩ : ByteArray) ++ s8).size ≤ 8 := by rw [ByteArray.size_append]; omega
          have hz9 : (s7 ++ (⟨#[32]⟩ : ByteArray) ++ s8 ++ ⟨#[32]⟩).size ≤ 9 := by rw [ByteArray.size_append]; show _ + 1 ≤ 9; omega
          have hz10 : (s6 ++ (s7 ++ (⟨#[32]⟩ : ByteArray) ++ s8 ++ ⟨#[32]⟩)).size ≤ s6.size + 9 := by rw [ByteArray.size_append]; omega
          clear O11 m8 hg77 hg8
          go_wp2
          exact ⟨⟨i - 1, k8, _, by go_num, by omega, rfl, by omega, by omega, hC8, hg88⟩, by simp [intOf]; omega⟩
        · have hi1 : i = 0 := by omega
          subst hi1
          go_wp2
          exact ⟨⟨j - 1, k6, s6, by go_num, by omega, rfl, by omega, by omega, hC6, hg6⟩, by simp [intOf]; omega⟩
    · have hj1 : j = 0 := by omega
      subst hj1
      go_wp2
      go_ret
      exact ⟨s3, rfl, by omega, ⟨k3, by omega, hC3⟩, hg3⟩
end Go.Proofs.YtinjldagfhbioaaGreatDoor

namespace Go.Proofs.YtinjldagfhbioaaGreatDoor
open Go.RowKit

theorem foldl_push : ∀ (xs : List Int) (r : ByteArray), xs.foldl (fun r n => r.push (UInt8.ofNat n.toNat)) r = ⟨r.data ++ (xs.map fun x => x.toNat.toUInt8).toArray⟩
  | [], r => by simp
  | x :: xs, r => by
    simp only [List.map_cons, List.foldl_cons]
    rw [foldl_push xs]
    simp [ByteArray.push]

theorem add_zero_addr (b j : Nat) : (⟨b, 0, none⟩ : Addr).add j = ⟨b, j, none⟩ := by
  unfold Addr.add
  split
  · rename_i h; subst h; rfl
  · simp

theorem conv_new (w : World) (xs : List Int) (n : Nat) (hn : xs.length = n) (cs : Array Value) (hcs : cs = (xs.map (Value.int .u8)).toArray) :
    (convert 22 9 (.slice (some ⟨w.heap.size, 0, none⟩) n n)).run Tryz.prog (w.alloc (.cells cs 5)) = .ok (.string ⟨(xs.map fun x => x.toNat.toUInt8).toArray⟩) (w.alloc (.cells cs 5)) := by
  subst hcs
  rw [run_convert_bytes_string _ _ _ _ _ _ _ Tryz.underlying22 Tryz.underlying5 Tryz.underlying9]
  have hl := run_loadCells_list (P := Tryz.prog) (w.alloc (.cells (xs.map (Value.int .u8)).toArray 5)) ⟨w.heap.size, 0, none⟩ (xs.map (Value.int .u8)) (fun j v hj => by
    rw [add_zero_addr, World.cell?_alloc_new]; simpa using hj)
  simp only [List.length_map, hn] at hl
  rw [run_bytesToString _ _ n n xs hl, foldl_push]
  have he0 : ByteArray.empty.data = #[] := rfl
  rw [he0]
  simp
end Go.Proofs.YtinjldagfhbioaaGreatDoor

namespace Go.Proofs.YtinjldagfhbioaaGreatDoor
open Go.RowKit

theorem ret_s {a b : ByteArray} (h : a = b) : Ending.returned (.string a) = .returned (.string b) := by rw [h]

theorem enc_one {r : Int} (h : [r] = Lib.encodeRuneZ r) : (⟨#[r.toNat.toUInt8]⟩ : ByteArray) = ⟨(Lib.encodeRune r).toArray⟩ := by
  unfold Lib.encodeRune; rw [← h]; rfl
theorem enc_two {r a b : Int} (h : [a, b] = Lib.encodeRuneZ r) : (⟨#[a.toNat.toUInt8, b.toNat.toUInt8]⟩ : ByteArray) = ⟨(Lib.encodeRune r).toArray⟩ := by
  unfold Lib.encodeRune; rw [← h]; rfl
theorem enc_three {r a b c : Int} (h : [a, b, c] = Lib.encodeRuneZ r) : (⟨#[a.toNat.toUInt8, b.toNat.toUInt8, c.toNat.toUInt8]⟩ : ByteArray) = ⟨(Lib.encodeRune r).toArray⟩ := by
  unfold Lib.encodeRune; rw [← h]; rfl
theorem enc_four {r a b c d : Int} (h : [a, b, c, d] = Lib.encodeRuneZ r) : (⟨#[a.toNat.toUInt8, b.toNat.toUInt8, c.toNat.toUInt8, d.toNat.toUInt8]⟩ : ByteArray) = ⟨(Lib.encodeRune r).toArray⟩ := by
  unfold Lib.encodeRune; rw [← h]; rfl

set_option maxRecDepth 100000 in
set_option maxHeartbeats 1000000 in
theorem put_any (r : Int) (h : goodB r = true) (w : World) :
    Calls Tryz.prog 31 #[.int .i64 r] w fun e w' => e = .returned (.string ⟨(Lib.encodeRune r).toArray⟩) ∧ Below w.heap.size w w' := by
  obtain ⟨h1, h2, h3⟩ := goodB_true h
  clear h
  by_cases c1 : r < 128
  · have V := fun a : Int => conv_new w [a] 1 rfl #[.int .u8 a] rfl
    go_enter Tryz.func31, Tryz.ntmps31
    go_wp2
    go_ret
    exact ⟨ret_s (enc_one (Lib.encodeRuneZ_one h1 (by omega)).symm), (Below.refl _ _).alloc (Nat.le_refl _) _⟩
  by_cases c2 : r < 2048
  · have V := fun a b : Int => conv_new w [a, b] 2 rfl #[.int .u8 a, .int .u8 b] rfl
    go_enter Tryz.func31, Tryz.ntmps31
    go_wp2
    go_ret
    exact ⟨ret_s (enc_two (Lib.encodeRuneZ_two (by omega) (by omega)).symm), (Below.refl _ _).alloc (Nat.le_refl _) _⟩
  by_cases c3 : r < 65536
  · have V := fun a b c : Int => conv_new w [a, b, c] 3 rfl #[.int .u8 a, .int .u8 b, .int .u8 c] rfl
    go_enter Tryz.func31, Tryz.ntmps31
    go_wp2
    go_ret
    exact ⟨ret_s (enc_three (Lib.encodeRuneZ_three (by omega)).symm), (Below.refl _ _).alloc (Nat.le_refl _) _⟩
  · have V := fun a b c d : Int => conv_new w [a, b, c, d] 4 rfl #[.int .u8 a, .int .u8 b, .int .u8 c, .int .u8 d] rfl
    go_enter Tryz.func31, Tryz.ntmps31
    go_wp2
    go_ret
    exact ⟨ret_s (enc_four (Lib.encodeRuneZ_four (by omega) (by omega)).symm), (Below.refl _ _).alloc (Nat.le_refl _) _⟩
end Go.Proofs.YtinjldagfhbioaaGreatDoor

namespace Go.Proofs.YtinjldagfhbioaaGreatDoor
open Go.RowKit


def encAll (zs : List Int) : List UInt8 := zs.flatMap Lib.encodeRune

theorem encAll_snoc (zs : List Int) (k : Nat) (x : Int) (h : zs[k]? = some x) : encAll (zs.take (k + 1)) = encAll (zs.take k) ++ Lib.encodeRune x := by
  have hk : k < zs.length := (List.getElem?_eq_some_iff.1 h).1
  rw [List.take_succ_eq_append_getElem hk]
  have e : zs[k] = x := by
    have := List.getElem?_eq_getElem hk
    rw [h] at this; exact (Option.some.inj this).symm
  rw [e]
  simp [encAll]

theorem encodeRune_le (r : Int) : (Lib.encodeRune r).length ≤ 4 := by
  unfold Lib.encodeRune; simpa using (Lib.encodeRuneZ_length r).2

theorem encAll_le (zs : List Int) (k : Nat) : (encAll (zs.take k)).length ≤ 4 * k := by
  induction k with
  | zero => simp [encAll]
  | succ k ih =>
    by_cases h : k < zs.length
    · rw [encAll_snoc zs k zs[k] (List.getElem?_eq_getElem h)]
      have := encodeRune_le zs[k]
      simp only [List.length_append]; omega
    · have e1 : zs.take (k + 1) = zs := List.take_of_length_le (by omega)
      have e2 : zs.take k = zs := List.take_of_length_le (by omega)
      rw [e1]; rw [e2] at ih; omega

def EncRel (w : World) (zs : List Int) (s i : Value) (wr : World) : Prop :=
  ∃ k : Nat, k ≤ zs.length ∧ i = .int .i64 k ∧ s = .string ⟨(encAll (zs.take k)).toArray⟩ ∧ Below w.heap.size w wr

theorem app_bytes (a b : List UInt8) : (⟨a.toArray⟩ ++ ⟨b.toArray⟩ : ByteArray) = ⟨(a ++ b).toArray⟩ := by
  apply ByteArray.ext
  simp

set_option maxRecDepth 100000 in
set_option maxHeartbeats 1000000 in
theorem l1Encode_row (w : World) (g cap : Nat) (zs : List Int) (hz : zs.length ≤ 1048576) (hg : g < w.heap.size)
    (hc : ∀ j, j < zs.length → w.cell? ⟨g, j, none⟩ = some (.int .i64 (zs[j]?.getD 0))) (hgd : ∀ x ∈ zs, goodB x = true) :
    Calls Tryz.prog 10 #[.slice (some ⟨g, 0, none⟩) zs.length cap] w fun e w' => e = .returned (.string ⟨(encAll zs).toArray⟩) ∧ Below w.heap.size w w' := by
  go_enter Tryz.func10, Tryz.ntmps10
  go_wp2
  go_loopw [3, 8] (fun s i wr => EncRel w zs s i wr) (fun _ i _ => zs.length - (intOf i).toNat)
  case atStart => exact ⟨0, Nat.zero_le _, rfl, rfl, Below.refl _ _⟩
  case round =>
    obtain ⟨k, hk, rfl, rfl, hbw⟩ := hrel
    have hle := encAll_le zs k
    by_cases hlt : k < zs.length
    · obtain ⟨x, hx⟩ : ∃ x, zs[k]? = some x := ⟨_, List.getElem?_eq_getElem hlt⟩
      have c0 := (hbw.cell (p := ⟨g, k, none⟩) hg).trans (hc k hlt)
      rw [hx] at c0
      have c1 : wr.cell? ⟨g, k, none⟩ = some (.int .i64 x) := c0
      have hgx := hgd x (List.mem_of_getElem? hx)
      have HE : Hid _ := encAll_snoc zs k x hx
      have P := fun w => put_any x hgx w
      have hxl := encodeRune_le x
      have HC : Hid _ := hc
      have HX : Hid _ := hx
      clear hc c0 hx hgd hgx
      go_wp2_with (go_at_call 31; refine (P _).mono ?_; rintro e w1 ⟨rfl, hb1⟩)
      exact ⟨⟨k + 1, by omega, by go_num, by rw [app_bytes, HE.out], hbw.trans (hb1.mono hbw.size)⟩, by simp [intOf]; omega⟩
    · have hkz : k = zs.length := by omega
      have e2 : zs.take k = zs := List.take_of_length_le (by omega)
      rw [e2]
      clear hc e2 hle
      go_wp2
      go_ret
      exact ⟨rfl, hbw⟩

set_option maxRecDepth 100000 in
set_option maxHeartbeats 1000000 in
theorem l1Encode_none (w : World) (a : Option Addr) (c : Nat) :
    Calls Tryz.prog 10 #[.slice a 0 c] w fun e w' => e = .returned (.string ⟨#[]⟩) ∧ w' = w := by
  go_enter Tryz.func10, Tryz.ntmps10
  go_wp2
  go_loop [3, 8] (fun s i => s = .string ⟨#[]⟩ ∧ i = .int .i64 0) (fun _ _ => 0)
  case atStart => exact ⟨rfl, rfl⟩
  case round =>
    obtain ⟨rfl, rfl⟩ := hrel
    go_wp2
    go_ret
    exact ⟨rfl, rfl⟩

theorem l1Encode_any {w : World} {B : Nat} {v : Value} {zs : List Int} (hz : zs.length ≤ 1048576) (hI : Ints w B v zs) (hgd : ∀ x ∈ zs, goodB x = true) :
    Calls Tryz.prog 10 #[v] w fun e w' => e = .returned (.string ⟨(encAll zs).toArray⟩) ∧ Below w.heap.size w w' := by
  have hl := World.ownsRow.lt hI
  rcases hI.form with ⟨rfl, rfl⟩ | ⟨g, cap, rfl, h1, h2⟩
  · refine (l1Encode_none w _ _).mono ?_
    rintro e w' ⟨rfl, rfl⟩
    exact ⟨rfl, Below.refl _ _⟩
  · exact l1Encode_row w g cap zs hz (hl g rfl).2 (fun j hj => hI.cell j hj) hgd
end Go.Proofs.YtinjldagfhbioaaGreatDoor

namespace Go.Proofs.YtinjldagfhbioaaGreatDoor
open Go.RowKit

set_option maxRecDepth 100000 in
set_option maxHeartbeats 4000000 in
theorem elem3_any {w : World} {B B' : Nat} {v : Value} {es : List Ent} {sh : Bool} {lv : Int} {vl : Value} {l : List Int} (hE : Ents w B v es) (hL : Ints w B' vl l) (hn : es.length ≤ 1048576) (hl : l.length ≤ 1048576) (hr : ∀ e ∈ es, e.runes.length ≤ 1048576) (hg : ∀ x ∈ l, 0 ≤ x ∧ x ≤ 1114111) :
    Calls Tryz.prog 52 #[.agg #[v, .bool sh, .int .i64 lv], vl] w fun e w' => e = .returned (elRes (elemE es l)) ∧ Below w.heap.size w w' := by
  have hba := ((Below.refl w.heap.size w).alloc (Nat.le_refl _) (.cells #[v, .bool sh, .int .i64 lv] 25)).alloc (by simp) (.cells #[.int .i64 0, .int .i64 0, .int .i64 0, .bool false] 72)
  have AT := at3_any (sh := sh) (lv := lv) (hE.below hba) (hL.below hba) hn hl hr
  have HX0 : Hid (Box4 _ _ _ _ _ _) := box4_new w v sh lv
  have HB : Hid (Below _ _ _) := hba
  have HE0 : Hid (Ents _ _ _ _) := hE.below hba
  have HL0 : Hid (Ints _ _ _ _) := hL.below hba
  clear hba
  rcases atE_cases es l with ha | ⟨i, e, he, ha⟩
  · rw [ha] at AT
    by_cases h1 : l.length = 1
    · obtain ⟨r, rfl⟩ : ∃ r, l = [r] := List.length_eq_one_iff.1 h1
      obtain ⟨g, cap, rfl⟩ := ints_some hL (by simp)
      have HF : Hid (elemE es [r] = one3 (base r)) := elemE_base ha
      have BS := fun w => specBase_any r (hg r (by simp)).1 (hg r (by simp)).2 w
      clear hE hL hr hg ha hl HE0
      simp only [List.length_singleton] at *
      generalize base r = bs at *
      go_enter Tryz.func52, Tryz.ntmps52
      go_wp2_with fail
      refine AT.mono ?_
      rintro e' w2 ⟨rfl, b2⟩
      have c0 : w2.cell? ⟨g, 0, none⟩ = some (.int .i64 r) := by
        have h3 := World.ownsRow.cellAt (n := 1) (HL0.out.below b2) 0 (by omega)
        rw [h3]; rfl
      have HX : Hid (Box4 _ _ _ _ _ _) := HX0.out.below b2
      have HC : Hid (Below _ _ _) := HB.out.trans (b2.mono HB.out.size)
      clear AT HL0 HX0 HB b2
      go_wp2_with fail
      refine (BS _).mono ?_
      rintro e' w3 ⟨v3, rfl, hI, b3⟩
      have hx := HX.out.below b3
      have b4 := HC.out.trans (b3.mono HC.out.size)
      clear BS c0 b3 HX HC
      obtain ⟨⟨n1, n2⟩, _, ⟨q0, q1, q2, q3⟩, f0⟩ := hx.facts
      clear hx
      match bs, HF, hI with
      | [], HF, hI =>
        have HO : Hid (elemE es [r] = none) := HF.out
        clear HF
        rcases hI.form with ⟨rfl, _⟩ | ⟨g3, cap3, rfl, _, _⟩
        · clear hI
          go_wp2
          refine bodyPost_ret (v := .tuple #[.agg #[.int .i64 0, .int .i64 0, .int .i64 0, .bool false], .bool false]) ?_ rfl ⟨ret_e0 HO.out, below_res4 b4 _ _ _ _⟩
          rw [results_cell_tmp rfl]
          go_simp
        · clear hI
          go_wp2
          refine bodyPost_ret (v := .tuple #[.agg #[.int .i64 0, .int .i64 0, .int .i64 0, .bool false], .bool false]) ?_ rfl ⟨ret_e0 HO.out, below_res4 b4 _ _ _ _⟩
          rw [results_cell_tmp rfl]
          go_simp
      | [x], HF, hI =>
        rcases hI.form with ⟨_, h⟩ | ⟨g3, cap3, rfl, _, _⟩
        · cases h
        · obtain ⟨a0, a1, a2, a3⟩ := hI.cells 0 x rfl
          simp only [Nat.zero_mul, Nat.zero_add] at a0 a1 a2 a3
          clear hI
          by_cases hf : x.first = 0
          · have HO : Hid (elemE es [r] = none) := HF.out.trans (if_pos hf)
            clear HF
            rw [hf] at a0
            go_wp2
            refine bodyPost_ret (v := .tuple #[.agg #[.int .i64 0, .int .i64 0, .int .i64 0, .bool false], .bool false]) ?_ rfl ⟨ret_e0 HO.out, below_res4 b4 _ _ _ _⟩
            rw [results_cell_tmp rfl]
            go_simp
          · have HO : Hid (elemE es [r] = some x) := HF.out.trans (if_neg hf)
            clear HF
            have hf2 : (x.first == 0) = false := by simpa using hf
            go_wp2
            refine bodyPost_ret (v := .tuple #[.agg #[.int .i64 x.first, .int .i64 x.second, .int .i64 x.third, .bool x.varies], .bool true]) ?_ rfl ⟨ret_e HO.out, below_res4 b4 _ _ _ _⟩
            rw [results_cell_tmp rfl]
            go_simp
      | x :: y :: zs, HF, hI =>
        have HO : Hid (elemE es [r] = none) := HF.out
        clear HF
        rcases hI.form with ⟨_, h⟩ | ⟨g3, cap3, rfl, _, _⟩
        · cases h
        · simp only [List.length_cons]
          clear hI
          have hz : ((zs.length + 1 + 1 : Nat) : Int) ≠ 1 := by omega
          go_wp2
          refine bodyPost_ret (v := .tuple #[.agg #[.int .i64 0, .int .i64 0, .int .i64 0, .bool false], .bool false]) ?_ rfl ⟨ret_e0 HO.out, below_res4 b4 _ _ _ _⟩
          rw [results_cell_tmp rfl]
          go_simp
    · have HF : Hid (elemE es l = none) := elemE_far ha h1
      obtain ⟨a, c, rfl⟩ : ∃ a c, vl = .slice a l.length c := by
        rcases hL.form with ⟨rfl, rfl⟩ | ⟨g, cap, rfl, _, _⟩
        · exact ⟨_, _, rfl⟩
        · exact ⟨_, _, rfl⟩
      have h2 : ((l.length : Int) != 1) = true := by simp; omega
      clear hE hL hr hg ha h1 HE0 HL0
      go_enter Tryz.func52, Tryz.ntmps52
      go_wp2_with fail
      refine AT.mono ?_
      rintro e' w2 ⟨rfl, b2⟩
      have hx := HX0.out.below b2
      have b4 := HB.out.trans (b2.mono HB.out.size)
      clear AT HX0 HB
      obtain ⟨⟨n1, n2⟩, _, ⟨q0, q1, q2, q3⟩, f0⟩ := hx.facts
      clear hx
      go_wp2
      refine bodyPost_ret (v := .tuple #[.agg #[.int .i64 0, .int .i64 0, .int .i64 0, .bool false], .bool false]) ?_ rfl ⟨ret_e0 HF.out, below_res4 b4 _ _ _ _⟩
      rw [results_cell_tmp rfl]
      go_simp
  · have HF : Hid (elemE es l = some e.el) := elemE_hit he ha
    rw [ha] at AT
    have hi := (List.getElem?_eq_some_iff.1 he).1
    rcases hE.form with ⟨_, rfl⟩ | ⟨g, cap, rfl, hc, hc2, _, _⟩
    · simp at hi
    · clear hE hL hr hg ha
      have hi2 : (i : Int) < (es.length : Int) := by omega
      go_enter Tryz.func52, Tryz.ntmps52
      go_wp2_with fail
      refine AT.mono ?_
      rintro e' w2 ⟨rfl, b2⟩
      have hx := HX0.out.below b2
      have b4 := HB.out.trans (b2.mono HB.out.size)
      obtain ⟨x, hI, a0, a1, a2, a3, a4⟩ := (HE0.out.below b2).cells i e he
      clear AT HX0 HB HE0 HL0 hI he
      obtain ⟨⟨n1, n2⟩, ⟨p0, p1, p2⟩, ⟨q0, q1, q2, q3⟩, f0⟩ := hx.facts
      clear hx
      go_wp2
      refine bodyPost_ret (v := .tuple #[.agg #[.int .i64 e.el.first, .int .i64 e.el.second, .int .i64 e.el.third, .bool e.el.varies], .bool true]) ?_ rfl ⟨ret_e HF.out, below_res4 b4 _ _ _ _⟩
      rw [results_cell_tmp rfl]
      go_simp

/-- What ElemOf answers. -/
def elemOk (es : List Ent) (lv : Int) (l : List Int) : Option El := if rulesOk es lv = true ∧ runesOk l = true then elemE es l else none

theorem runesOk_good {l : List Int} (h : runesOk l = true) : ∀ x ∈ l, 0 ≤ x ∧ x ≤ 1114111 := by
  unfold runesOk at h
  rw [Bool.and_eq_true, Bool.and_eq_true] at h
  intro x hx
  have := (okR_true h.2.1).2 x hx
  exact ⟨(goodB_true this).1, (goodB_true this).2.1⟩

end Go.Proofs.YtinjldagfhbioaaGreatDoor

namespace Go.Proofs.YtinjldagfhbioaaGreatDoor
open Go.RowKit

/-- Whether a first weight is a rune's. -/
def takenB (n : Int) : Bool := decide ((2000 ≤ n ∧ n ≤ 2900 ∧ n % 100 = 0) ∨ (4000 ≤ n ∧ n ≤ 9000 ∧ n % 200 = 0) ∨ (1 ≤ n ∧ n ≤ 9))

/-- Whether no elem has a first weight. -/
def freeE (es : List Ent) (n : Int) : Bool := !takenB n && es.all fun e => e.el.first != n

def NotF (es : List Ent) (n : Int) (k : Nat) : Prop := ∀ j e, j < k → es[j]? = some e → e.el.first ≠ n

theorem NotF.succ {es : List Ent} {n : Int} {e : Ent} {k : Nat} (h : NotF es n k) (hx : es[k]? = some e) (hn : e.el.first ≠ n) : NotF es n (k + 1) := by
  intro j y hj hy
  by_cases c : j = k
  · subst c; rw [hx] at hy; cases hy; exact hn
  · exact h j y (by omega) hy

theorem freeE_hit {es : List Ent} {n : Int} {e : Ent} (he : e ∈ es) (h : e.el.first = n) : freeE es n = false := by
  unfold freeE
  rw [Bool.and_eq_false_iff]
  refine .inr ?_
  rw [List.all_eq_false]
  exact ⟨e, he, by simp [h]⟩

theorem freeE_all {es : List Ent} {n : Int} {k : Nat} (ht : takenB n = false) (h : NotF es n k) (hk : es.length ≤ k) : freeE es n = true := by
  unfold freeE
  rw [ht, Bool.not_false, Bool.true_and, List.all_eq_true]
  intro x hx
  obtain ⟨j, hj⟩ := List.mem_iff_getElem?.1 hx
  have h1 := (List.getElem?_eq_some_iff.1 hj).1
  simpa using h j x (by omega) hj

def FrRel (w : World) (es : List Ent) (n : Int) (i : Value) (wr : World) : Prop := ∃ k : Nat, k ≤ es.length ∧ i = .int .i64 k ∧ NotF es n k ∧ Below w.heap.size w wr

set_option maxRecDepth 100000 in
set_option maxHeartbeats 4000000 in
theorem free_row_a (w : World) (B g cap : Nat) (es : List Ent) (sh : Bool) (lv n : Int) (hE : Ents w B (.slice (some ⟨g, 0, none⟩) es.length cap) es) (hT : takenB n = false) (hn : es.length ≤ 1048576) (hb0 : 0 ≤ n) (hb1 : n ≤ 1000000) (h0 : n < 2000) (h1 : ¬ (1 ≤ n ∧ n ≤ 9)) :
    Calls Tryz.prog 75 #[.agg #[.slice (some ⟨g, 0, none⟩) es.length cap, .bool sh, .int .i64 lv], .int .i64 n] w fun e w' => e = .returned (.bool (freeE es n)) ∧ Below w.heap.size w w' := by
  have HT : Hid (takenB n = false) := hT
  clear hT
  have h2 : n < 4000 := by omega
  have N := fun w => l1In_no n 1 9 h1 w
  clear h1
  go_enter Tryz.func75, Tryz.ntmps75
  go_wp2_with fail
  refine (N _).mono ?_
  rintro e' w1 ⟨rfl, rfl⟩
  clear N
  go_wp2_with fail
  go_loopw [38] (fun i wr => FrRel w es n i wr) (fun i _ => es.length - (intOf i).toNat)
  case atStart => exact ⟨0, Nat.zero_le _, rfl, fun j e hj => by omega, (Below.refl _ _).alloc (Nat.le_refl _) _⟩
  case round =>
    obtain ⟨k, hk, rfl, HN0, hb⟩ := hrel
    have HN : Hid (NotF es n k) := HN0
    clear HN0
    by_cases hlt : k < es.length
    · obtain ⟨e, he⟩ : ∃ e, es[k]? = some e := ⟨_, List.getElem?_eq_getElem hlt⟩
      obtain ⟨x, hI, a0, a1, a2, a3, a4⟩ := (hE.below hb).cells k e he
      obtain ⟨xa, xn, xc, rfl⟩ : ∃ xa xn xc, x = .slice xa xn xc := by
        rcases hI.form with ⟨rfl, _⟩ | ⟨_, _, rfl, _, _⟩
        · exact ⟨_, _, _, rfl⟩
        · exact ⟨_, _, _, rfl⟩
      have hk8 : (k : Int) < (es.length : Int) := by omega
      have HE : Hid _ := he
      clear he hE hI
      by_cases c : e.el.first = n
      · have HA : Hid (freeE es n = false) := freeE_hit (List.mem_of_getElem? HE.out) c
        have c' : (e.el.first == n) = true := by simpa using c
        clear HN HE c
        go_wp2
        go_ret
        rw [HA.out]
        exact ⟨rfl, hb.alloc hb.size _⟩
      · have HN2 : Hid (NotF es n (k + 1)) := HN.out.succ HE.out c
        have c' : (e.el.first == n) = false := by simpa using c
        clear HN HE c
        go_wp2
        exact ⟨⟨k + 1, by omega, by go_num, HN2.out, hb.alloc hb.size _⟩, by simp [intOf]; omega⟩
    · have HA : Hid (freeE es n = true) := freeE_all HT.out HN.out (by omega)
      clear HN hE HT
      go_wp2
      go_ret
      rw [HA.out]
      exact ⟨rfl, hb⟩

set_option maxRecDepth 100000 in
set_option maxHeartbeats 4000000 in
theorem free_nil_a (w : World)  (sh : Bool) (lv n : Int) (hb0 : 0 ≤ n) (hb1 : n ≤ 1000000) (h0 : n < 2000) (h1 : ¬ (1 ≤ n ∧ n ≤ 9)) :
    Calls Tryz.prog 75 #[.agg #[.slice none 0 0, .bool sh, .int .i64 lv], .int .i64 n] w fun e w' => e = .returned (.bool true) ∧ Below w.heap.size w w' := by
  have h2 : n < 4000 := by omega
  have N := fun w => l1In_no n 1 9 h1 w
  clear h1
  go_enter Tryz.func75, Tryz.ntmps75
  go_wp2_with fail
  refine (N _).mono ?_
  rintro e' w1 ⟨rfl, rfl⟩
  clear N
  go_wp2_with fail
  go_loop [38] (fun i => i = .int .i64 0) (fun _ => 0)
  case atStart => rfl
  case round =>
    subst hrel
    go_wp2
    go_ret
    exact ⟨rfl, (Below.refl _ _).alloc (Nat.le_refl _) _⟩

set_option maxRecDepth 100000 in
set_option maxHeartbeats 4000000 in
theorem free_row_b (w : World) (B g cap : Nat) (es : List Ent) (sh : Bool) (lv n : Int) (hE : Ents w B (.slice (some ⟨g, 0, none⟩) es.length cap) es) (hT : takenB n = false) (hn : es.length ≤ 1048576) (hb0 : 0 ≤ n) (hb1 : n ≤ 1000000) (h0 : 2000 ≤ n) (h1 : n ≤ 2900) (h3 : n % 100 ≠ 0) :
    Calls Tryz.prog 75 #[.agg #[.slice (some ⟨g, 0, none⟩) es.length cap, .bool sh, .int .i64 lv], .int .i64 n] w fun e w' => e = .returned (.bool (freeE es n)) ∧ Below w.heap.size w w' := by
  have HT : Hid (takenB n = false) := hT
  clear hT
  have h2 : n < 4000 := by omega
  have h4 : (n % 100 == 0) = false := by simpa using h3
  have N := fun w => l1In_no n 1 9 (by omega) w
  clear h3
  go_enter Tryz.func75, Tryz.ntmps75
  go_wp2_with fail
  refine (N _).mono ?_
  rintro e' w1 ⟨rfl, rfl⟩
  clear N
  go_wp2_with fail
  go_loopw [38] (fun i wr => FrRel w es n i wr) (fun i _ => es.length - (intOf i).toNat)
  case atStart => exact ⟨0, Nat.zero_le _, rfl, fun j e hj => by omega, (Below.refl _ _).alloc (Nat.le_refl _) _⟩
  case round =>
    obtain ⟨k, hk, rfl, HN0, hb⟩ := hrel
    have HN : Hid (NotF es n k) := HN0
    clear HN0
    by_cases hlt : k < es.length
    · obtain ⟨e, he⟩ : ∃ e, es[k]? = some e := ⟨_, List.getElem?_eq_getElem hlt⟩
      obtain ⟨x, hI, a0, a1, a2, a3, a4⟩ := (hE.below hb).cells k e he
      obtain ⟨xa, xn, xc, rfl⟩ : ∃ xa xn xc, x = .slice xa xn xc := by
        rcases hI.form with ⟨rfl, _⟩ | ⟨_, _, rfl, _, _⟩
        · exact ⟨_, _, _, rfl⟩
        · exact ⟨_, _, _, rfl⟩
      have hk8 : (k : Int) < (es.length : Int) := by omega
      have HE : Hid _ := he
      clear he hE hI
      by_cases c : e.el.first = n
      · have HA : Hid (freeE es n = false) := freeE_hit (List.mem_of_getElem? HE.out) c
        have c' : (e.el.first == n) = true := by simpa using c
        clear HN HE c
        go_wp2
        go_ret
        rw [HA.out]
        exact ⟨rfl, hb.alloc hb.size _⟩
      · have HN2 : Hid (NotF es n (k + 1)) := HN.out.succ HE.out c
        have c' : (e.el.first == n) = false := by simpa using c
        clear HN HE c
        go_wp2
        exact ⟨⟨k + 1, by omega, by go_num, HN2.out, hb.alloc hb.size _⟩, by simp [intOf]; omega⟩
    · have HA : Hid (freeE es n = true) := freeE_all HT.out HN.out (by omega)
      clear HN hE HT
      go_wp2
      go_ret
      rw [HA.out]
      exact ⟨rfl, hb⟩

set_option maxRecDepth 100000 in
set_option maxHeartbeats 4000000 in
theorem free_nil_b (w : World)  (sh : Bool) (lv n : Int) (hb0 : 0 ≤ n) (hb1 : n ≤ 1000000) (h0 : 2000 ≤ n) (h1 : n ≤ 2900) (h3 : n % 100 ≠ 0) :
    Calls Tryz.prog 75 #[.agg #[.slice none 0 0, .bool sh, .int .i64 lv], .int .i64 n] w fun e w' => e = .returned (.bool true) ∧ Below w.heap.size w w' := by
  have h2 : n < 4000 := by omega
  have h4 : (n % 100 == 0) = false := by simpa using h3
  have N := fun w => l1In_no n 1 9 (by omega) w
  clear h3
  go_enter Tryz.func75, Tryz.ntmps75
  go_wp2_with fail
  refine (N _).mono ?_
  rintro e' w1 ⟨rfl, rfl⟩
  clear N
  go_wp2_with fail
  go_loop [38] (fun i => i = .int .i64 0) (fun _ => 0)
  case atStart => rfl
  case round =>
    subst hrel
    go_wp2
    go_ret
    exact ⟨rfl, (Below.refl _ _).alloc (Nat.le_refl _) _⟩

set_option maxRecDepth 100000 in
set_option maxHeartbeats 4000000 in
theorem free_row_c (w : World) (B g cap : Nat) (es : List Ent) (sh : Bool) (lv n : Int) (hE : Ents w B (.slice (some ⟨g, 0, none⟩) es.length cap) es) (hT : takenB n = false) (hn : es.length ≤ 1048576) (hb0 : 0 ≤ n) (hb1 : n ≤ 1000000) (h0 : 2900 < n) (h1 : n < 4000) :
    Calls Tryz.prog 75 #[.agg #[.slice (some ⟨g, 0, none⟩) es.length cap, .bool sh, .int .i64 lv], .int .i64 n] w fun e w' => e = .returned (.bool (freeE es n)) ∧ Below w.heap.size w w' := by
  have HT : Hid (takenB n = false) := hT
  clear hT
  have h2 : 2000 ≤ n := by omega
  have N := fun w => l1In_no n 1 9 (by omega) w
  go_enter Tryz.func75, Tryz.ntmps75
  go_wp2_with fail
  refine (N _).mono ?_
  rintro e' w1 ⟨rfl, rfl⟩
  clear N
  go_wp2_with fail
  go_loopw [38] (fun i wr => FrRel w es n i wr) (fun i _ => es.length - (intOf i).toNat)
  case atStart => exact ⟨0, Nat.zero_le _, rfl, fun j e hj => by omega, (Below.refl _ _).alloc (Nat.le_refl _) _⟩
  case round =>
    obtain ⟨k, hk, rfl, HN0, hb⟩ := hrel
    have HN : Hid (NotF es n k) := HN0
    clear HN0
    by_cases hlt : k < es.length
    · obtain ⟨e, he⟩ : ∃ e, es[k]? = some e := ⟨_, List.getElem?_eq_getElem hlt⟩
      obtain ⟨x, hI, a0, a1, a2, a3, a4⟩ := (hE.below hb).cells k e he
      obtain ⟨xa, xn, xc, rfl⟩ : ∃ xa xn xc, x = .slice xa xn xc := by
        rcases hI.form with ⟨rfl, _⟩ | ⟨_, _, rfl, _, _⟩
        · exact ⟨_, _, _, rfl⟩
        · exact ⟨_, _, _, rfl⟩
      have hk8 : (k : Int) < (es.length : Int) := by omega
      have HE : Hid _ := he
      clear he hE hI
      by_cases c : e.el.first = n
      · have HA : Hid (freeE es n = false) := freeE_hit (List.mem_of_getElem? HE.out) c
        have c' : (e.el.first == n) = true := by simpa using c
        clear HN HE c
        go_wp2
        go_ret
        rw [HA.out]
        exact ⟨rfl, hb.alloc hb.size _⟩
      · have HN2 : Hid (NotF es n (k + 1)) := HN.out.succ HE.out c
        have c' : (e.el.first == n) = false := by simpa using c
        clear HN HE c
        go_wp2
        exact ⟨⟨k + 1, by omega, by go_num, HN2.out, hb.alloc hb.size _⟩, by simp [intOf]; omega⟩
    · have HA : Hid (freeE es n = true) := freeE_all HT.out HN.out (by omega)
      clear HN hE HT
      go_wp2
      go_ret
      rw [HA.out]
      exact ⟨rfl, hb⟩

set_option maxRecDepth 100000 in
set_option maxHeartbeats 4000000 in
theorem free_nil_c (w : World)  (sh : Bool) (lv n : Int) (hb0 : 0 ≤ n) (hb1 : n ≤ 1000000) (h0 : 2900 < n) (h1 : n < 4000) :
    Calls Tryz.prog 75 #[.agg #[.slice none 0 0, .bool sh, .int .i64 lv], .int .i64 n] w fun e w' => e = .returned (.bool true) ∧ Below w.heap.size w w' := by
  have h2 : 2000 ≤ n := by omega
  have N := fun w => l1In_no n 1 9 (by omega) w
  go_enter Tryz.func75, Tryz.ntmps75
  go_wp2_with fail
  refine (N _).mono ?_
  rintro e' w1 ⟨rfl, rfl⟩
  clear N
  go_wp2_with fail
  go_loop [38] (fun i => i = .int .i64 0) (fun _ => 0)
  case atStart => rfl
  case round =>
    subst hrel
    go_wp2
    go_ret
    exact ⟨rfl, (Below.refl _ _).alloc (Nat.le_refl _) _⟩

set_option maxRecDepth 100000 in
set_option maxHeartbeats 4000000 in
theorem free_row_d (w : World) (B g cap : Nat) (es : List Ent) (sh : Bool) (lv n : Int) (hE : Ents w B (.slice (some ⟨g, 0, none⟩) es.length cap) es) (hT : takenB n = false) (hn : es.length ≤ 1048576) (hb0 : 0 ≤ n) (hb1 : n ≤ 1000000) (h0 : 4000 ≤ n) (h1 : n ≤ 9000) (h3 : n % 200 ≠ 0) :
    Calls Tryz.prog 75 #[.agg #[.slice (some ⟨g, 0, none⟩) es.length cap, .bool sh, .int .i64 lv], .int .i64 n] w fun e w' => e = .returned (.bool (freeE es n)) ∧ Below w.heap.size w w' := by
  have HT : Hid (takenB n = false) := hT
  clear hT
  have h2 : 2000 ≤ n := by omega
  have h5 : 2900 < n := by omega
  have h4 : (n % 200 == 0) = false := by simpa using h3
  have N := fun w => l1In_no n 1 9 (by omega) w
  clear h3
  go_enter Tryz.func75, Tryz.ntmps75
  go_wp2_with fail
  refine (N _).mono ?_
  rintro e' w1 ⟨rfl, rfl⟩
  clear N
  go_wp2_with fail
  go_loopw [38] (fun i wr => FrRel w es n i wr) (fun i _ => es.length - (intOf i).toNat)
  case atStart => exact ⟨0, Nat.zero_le _, rfl, fun j e hj => by omega, (Below.refl _ _).alloc (Nat.le_refl _) _⟩
  case round =>
    obtain ⟨k, hk, rfl, HN0, hb⟩ := hrel
    have HN : Hid (NotF es n k) := HN0
    clear HN0
    by_cases hlt : k < es.length
    · obtain ⟨e, he⟩ : ∃ e, es[k]? = some e := ⟨_, List.getElem?_eq_getElem hlt⟩
      obtain ⟨x, hI, a0, a1, a2, a3, a4⟩ := (hE.below hb).cells k e he
      obtain ⟨xa, xn, xc, rfl⟩ : ∃ xa xn xc, x = .slice xa xn xc := by
        rcases hI.form with ⟨rfl, _⟩ | ⟨_, _, rfl, _, _⟩
        · exact ⟨_, _, _, rfl⟩
        · exact ⟨_, _, _, rfl⟩
      have hk8 : (k : Int) < (es.length : Int) := by omega
      have HE : Hid _ := he
      clear he hE hI
      by_cases c : e.el.first = n
      · have HA : Hid (freeE es n = false) := freeE_hit (List.mem_of_getElem? HE.out) c
        have c' : (e.el.first == n) = true := by simpa using c
        clear HN HE c
        go_wp2
        go_ret
        rw [HA.out]
        exact ⟨rfl, hb.alloc hb.size _⟩
      · have HN2 : Hid (NotF es n (k + 1)) := HN.out.succ HE.out c
        have c' : (e.el.first == n) = false := by simpa using c
        clear HN HE c
        go_wp2
        exact ⟨⟨k + 1, by omega, by go_num, HN2.out, hb.alloc hb.size _⟩, by simp [intOf]; omega⟩
    · have HA : Hid (freeE es n = true) := freeE_all HT.out HN.out (by omega)
      clear HN hE HT
      go_wp2
      go_ret
      rw [HA.out]
      exact ⟨rfl, hb⟩

set_option maxRecDepth 100000 in
set_option maxHeartbeats 4000000 in
theorem free_nil_d (w : World)  (sh : Bool) (lv n : Int) (hb0 : 0 ≤ n) (hb1 : n ≤ 1000000) (h0 : 4000 ≤ n) (h1 : n ≤ 9000) (h3 : n % 200 ≠ 0) :
    Calls Tryz.prog 75 #[.agg #[.slice none 0 0, .bool sh, .int .i64 lv], .int .i64 n] w fun e w' => e = .returned (.bool true) ∧ Below w.heap.size w w' := by
  have h2 : 2000 ≤ n := by omega
  have h5 : 2900 < n := by omega
  have h4 : (n % 200 == 0) = false := by simpa using h3
  have N := fun w => l1In_no n 1 9 (by omega) w
  clear h3
  go_enter Tryz.func75, Tryz.ntmps75
  go_wp2_with fail
  refine (N _).mono ?_
  rintro e' w1 ⟨rfl, rfl⟩
  clear N
  go_wp2_with fail
  go_loop [38] (fun i => i = .int .i64 0) (fun _ => 0)
  case atStart => rfl
  case round =>
    subst hrel
    go_wp2
    go_ret
    exact ⟨rfl, (Below.refl _ _).alloc (Nat.le_refl _) _⟩

set_option maxRecDepth 100000 in
set_option maxHeartbeats 4000000 in
theorem free_row_e (w : World) (B g cap : Nat) (es : List Ent) (sh : Bool) (lv n : Int) (hE : Ents w B (.slice (some ⟨g, 0, none⟩) es.length cap) es) (hT : takenB n = false) (hn : es.length ≤ 1048576) (hb0 : 0 ≤ n) (hb1 : n ≤ 1000000) (h0 : 9000 < n) :
    Calls Tryz.prog 75 #[.agg #[.slice (some ⟨g, 0, none⟩) es.length cap, .bool sh, .int .i64 lv], .int .i64 n] w fun e w' => e = .returned (.bool (freeE es n)) ∧ Below w.heap.size w w' := by
  have HT : Hid (takenB n = false) := hT
  clear hT
  have h2 : 2000 ≤ n := by omega
  have h5 : 2900 < n := by omega
  have h6 : 4000 ≤ n := by omega
  have N := fun w => l1In_no n 1 9 (by omega) w
  go_enter Tryz.func75, Tryz.ntmps75
  go_wp2_with fail
  refine (N _).mono ?_
  rintro e' w1 ⟨rfl, rfl⟩
  clear N
  go_wp2_with fail
  go_loopw [38] (fun i wr => FrRel w es n i wr) (fun i _ => es.length - (intOf i).toNat)
  case atStart => exact ⟨0, Nat.zero_le _, rfl, fun j e hj => by omega, (Below.refl _ _).alloc (Nat.le_refl _) _⟩
  case round =>
    obtain ⟨k, hk, rfl, HN0, hb⟩ := hrel
    have HN : Hid (NotF es n k) := HN0
    clear HN0
    by_cases hlt : k < es.length
    · obtain ⟨e, he⟩ : ∃ e, es[k]? = some e := ⟨_, List.getElem?_eq_getElem hlt⟩
      obtain ⟨x, hI, a0, a1, a2, a3, a4⟩ := (hE.below hb).cells k e he
      obtain ⟨xa, xn, xc, rfl⟩ : ∃ xa xn xc, x = .slice xa xn xc := by
        rcases hI.form with ⟨rfl, _⟩ | ⟨_, _, rfl, _, _⟩
        · exact ⟨_, _, _, rfl⟩
        · exact ⟨_, _, _, rfl⟩
      have hk8 : (k : Int) < (es.length : Int) := by omega
      have HE : Hid _ := he
      clear he hE hI
      by_cases c : e.el.first = n
      · have HA : Hid (freeE es n = false) := freeE_hit (List.mem_of_getElem? HE.out) c
        have c' : (e.el.first == n) = true := by simpa using c
        clear HN HE c
        go_wp2
        go_ret
        rw [HA.out]
        exact ⟨rfl, hb.alloc hb.size _⟩
      · have HN2 : Hid (NotF es n (k + 1)) := HN.out.succ HE.out c
        have c' : (e.el.first == n) = false := by simpa using c
        clear HN HE c
        go_wp2
        exact ⟨⟨k + 1, by omega, by go_num, HN2.out, hb.alloc hb.size _⟩, by simp [intOf]; omega⟩
    · have HA : Hid (freeE es n = true) := freeE_all HT.out HN.out (by omega)
      clear HN hE HT
      go_wp2
      go_ret
      rw [HA.out]
      exact ⟨rfl, hb⟩

set_option maxRecDepth 100000 in
set_option maxHeartbeats 4000000 in
theorem free_nil_e (w : World)  (sh : Bool) (lv n : Int) (hb0 : 0 ≤ n) (hb1 : n ≤ 1000000) (h0 : 9000 < n) :
    Calls Tryz.prog 75 #[.agg #[.slice none 0 0, .bool sh, .int .i64 lv], .int .i64 n] w fun e w' => e = .returned (.bool true) ∧ Below w.heap.size w w' := by
  have h2 : 2000 ≤ n := by omega
  have h5 : 2900 < n := by omega
  have h6 : 4000 ≤ n := by omega
  have N := fun w => l1In_no n 1 9 (by omega) w
  go_enter Tryz.func75, Tryz.ntmps75
  go_wp2_with fail
  refine (N _).mono ?_
  rintro e' w1 ⟨rfl, rfl⟩
  clear N
  go_wp2_with fail
  go_loop [38] (fun i => i = .int .i64 0) (fun _ => 0)
  case atStart => rfl
  case round =>
    subst hrel
    go_wp2
    go_ret
    exact ⟨rfl, (Below.refl _ _).alloc (Nat.le_refl _) _⟩

set_option maxRecDepth 100000 in
set_option maxHeartbeats 1000000 in
theorem free_taken (w : World) (v : Value) (sh : Bool) (lv n : Int) (hb0 : 0 ≤ n) (hb1 : n ≤ 1000000) (h : takenB n = true) :
    Calls Tryz.prog 75 #[.agg #[v, .bool sh, .int .i64 lv], .int .i64 n] w fun e w' => e = .returned (.bool false) ∧ Below w.heap.size w w' := by
  rcases of_decide_eq_true h with ⟨h1, h2, h3⟩ | ⟨h1, h2, h3⟩ | h1
  · have h4 : (n % 100 == 0) = true := by simpa using h3
    clear h h3
    go_enter Tryz.func75, Tryz.ntmps75
    go_wp2
    go_ret
    exact ⟨rfl, (Below.refl _ _).alloc (Nat.le_refl _) _⟩
  · have h4 : (n % 200 == 0) = true := by simpa using h3
    have h5 : 2000 ≤ n := by omega
    have h6 : 2900 < n := by omega
    clear h h3
    go_enter Tryz.func75, Tryz.ntmps75
    go_wp2
    go_ret
    exact ⟨rfl, (Below.refl _ _).alloc (Nat.le_refl _) _⟩
  · have Y := fun w => l1In_yes n 1 9 h1 w
    have h5 : n < 2000 := by omega
    have h6 : n < 4000 := by omega
    clear h
    go_enter Tryz.func75, Tryz.ntmps75
    go_wp2_with fail
    refine (Y _).mono ?_
    rintro e' w1 ⟨rfl, rfl⟩
    clear Y
    go_wp2
    go_ret
    exact ⟨rfl, (Below.refl _ _).alloc (Nat.le_refl _) _⟩

theorem free_any {w : World} {B : Nat} {v : Value} {es : List Ent} {sh : Bool} {lv n : Int} (hE : Ents w B v es) (hn : es.length ≤ 1048576) (hb0 : 0 ≤ n) (hb1 : n ≤ 1000000) :
    Calls Tryz.prog 75 #[.agg #[v, .bool sh, .int .i64 lv], .int .i64 n] w fun e w' => e = .returned (.bool (freeE es n)) ∧ Below w.heap.size w w' := by
  cases ht : takenB n
  · have hno := of_decide_eq_false ht
    rcases hE.form with ⟨rfl, rfl⟩ | ⟨g, cap, rfl, _, _, _, _⟩
    · have e0 : freeE [] n = true := by unfold freeE; rw [ht]; rfl
      rw [e0]
      by_cases c1 : n < 2000
      · exact free_nil_a w sh lv n hb0 hb1 c1 (fun h => hno (.inr (.inr h)))
      by_cases c2 : n ≤ 2900
      · exact free_nil_b w sh lv n hb0 hb1 (by omega) c2 (fun h => hno (.inl ⟨by omega, c2, h⟩))
      by_cases c3 : n < 4000
      · exact free_nil_c w sh lv n hb0 hb1 (by omega) c3
      by_cases c4 : n ≤ 9000
      · exact free_nil_d w sh lv n hb0 hb1 (by omega) c4 (fun h => hno (.inr (.inl ⟨by omega, c4, h⟩)))
      exact free_nil_e w sh lv n hb0 hb1 (by omega)
    · by_cases c1 : n < 2000
      · exact free_row_a w B g cap es sh lv n hE ht hn hb0 hb1 c1 (fun h => hno (.inr (.inr h)))
      by_cases c2 : n ≤ 2900
      · exact free_row_b w B g cap es sh lv n hE ht hn hb0 hb1 (by omega) c2 (fun h => hno (.inl ⟨by omega, c2, h⟩))
      by_cases c3 : n < 4000
      · exact free_row_c w B g cap es sh lv n hE ht hn hb0 hb1 (by omega) c3
      by_cases c4 : n ≤ 9000
      · exact free_row_d w B g cap es sh lv n hE ht hn hb0 hb1 (by omega) c4 (fun h => hno (.inr (.inl ⟨by omega, c4, h⟩)))
      exact free_row_e w B g cap es sh lv n hE ht hn hb0 hb1 (by omega)
  · have e0 : freeE es n = false := by unfold freeE; rw [ht]; rfl
    rw [e0]
    exact free_taken w v sh lv n hb0 hb1 ht
end Go.Proofs.YtinjldagfhbioaaGreatDoor

namespace Go.Proofs.YtinjldagfhbioaaGreatDoor
open Go.RowKit

/-- The least free first weight from one on (65536 is free). -/
def step1 (es : List Ent) : Nat → Int → Int
  | 0, n => n
  | f + 1, n => if freeE es n = true then n else step1 es f (n + 1)

theorem step1_free {es : List Ent} {f : Nat} {n : Int} (h : freeE es n = true) : step1 es f n = n := by
  cases f with
  | zero => rfl
  | succ f => exact if_pos h

theorem step1_next {es : List Ent} {n : Int} (h : freeE es n = false) (hn : n < 65536) : step1 es (65536 - n).toNat n = step1 es (65536 - (n + 1)).toNat (n + 1) := by
  rw [show (65536 - n).toNat = (65536 - (n + 1)).toNat + 1 by omega]
  exact if_neg (by simp [h])

theorem free_top {es : List Ent} (hF : ∀ e ∈ es, e.el.first ≤ 65535) : freeE es 65536 = true := by
  unfold freeE
  rw [show takenB 65536 = false by decide, Bool.not_false, Bool.true_and, List.all_eq_true]
  intro x hx
  have := hF x hx
  simp; omega

/-- The blocks of the rules, of the elem and of the result, still zero. -/
def Box5 (u : World) (s : Nat) (v : Value) (sh : Bool) (lv : Int) (e : El) : Prop := u.heap[s]? = some (.cells #[v, .bool sh, .int .i64 lv] 25) ∧ u.heap[s + 1]? = some (.cells #[.int .i64 e.first, .int .i64 e.second, .int .i64 e.third, .bool e.varies] 72) ∧ u.heap[s + 1 + 1]? = some (.cells #[.int .i64 0, .int .i64 0, .int .i64 0, .bool false] 72)

theorem Box5.sizes {u : World} {s : Nat} {v : Value} {sh : Bool} {lv : Int} {e : El} (h : Box5 u s v sh lv e) : s < u.heap.size ∧ s + 1 < u.heap.size ∧ s + 1 + 1 < u.heap.size :=
  ⟨(Array.getElem?_eq_some_iff.1 h.1).1, (Array.getElem?_eq_some_iff.1 h.2.1).1, (Array.getElem?_eq_some_iff.1 h.2.2).1⟩

theorem Box5.rules {u : World} {s : Nat} {v : Value} {sh : Bool} {lv : Int} {e : El} (h : Box5 u s v sh lv e) : u.cell? ⟨s, 0, none⟩ = some v ∧ u.cell? ⟨s, 1, none⟩ = some (.bool sh) ∧ u.cell? ⟨s, 2, none⟩ = some (.int .i64 lv) :=
  ⟨cell_of_row _ _ 0 _ _ _ h.1, cell_of_row _ _ 1 _ _ _ h.1, cell_of_row _ _ 2 _ _ _ h.1⟩

theorem Box5.elem {u : World} {s : Nat} {v : Value} {sh : Bool} {lv : Int} {e : El} (h : Box5 u s v sh lv e) : u.cell? ⟨s + 1, 0, none⟩ = some (.int .i64 e.first) ∧ u.cell? ⟨s + 1, 1, none⟩ = some (.int .i64 e.second) ∧ u.cell? ⟨s + 1, 2, none⟩ = some (.int .i64 e.third) ∧ u.cell? ⟨s + 1, 3, none⟩ = some (.bool e.varies) :=
  ⟨cell_of_row _ _ 0 _ _ _ h.2.1, cell_of_row _ _ 1 _ _ _ h.2.1, cell_of_row _ _ 2 _ _ _ h.2.1, cell_of_row _ _ 3 _ _ _ h.2.1⟩

theorem Box5.result {u : World} {s : Nat} {v : Value} {sh : Bool} {lv : Int} {e : El} (h : Box5 u s v sh lv e) : u.cell? ⟨s + 1 + 1, 0, none⟩ = some (.int .i64 0) ∧ u.cell? ⟨s + 1 + 1, 1, none⟩ = some (.int .i64 0) ∧ u.cell? ⟨s + 1 + 1, 2, none⟩ = some (.int .i64 0) ∧ u.cell? ⟨s + 1 + 1, 3, none⟩ = some (.bool false) ∧ ∀ j, u.frozen? ⟨s + 1 + 1, j, none⟩ = false :=
  ⟨cell_of_row _ _ 0 _ _ _ h.2.2, cell_of_row _ _ 1 _ _ _ h.2.2, cell_of_row _ _ 2 _ _ _ h.2.2, cell_of_row _ _ 3 _ _ _ h.2.2, fun j => by simp [World.frozen?, h.2.2]⟩

theorem Box5.below {u u' : World} {s : Nat} {v : Value} {sh : Bool} {lv : Int} {e : El} (h : Box5 u s v sh lv e) (hb : Below u.heap.size u u') : Box5 u' s v sh lv e := by
  have hf := h.sizes
  exact ⟨by rw [hb.block _ hf.1]; exact h.1, by rw [hb.block _ hf.2.1]; exact h.2.1, by rw [hb.block _ hf.2.2]; exact h.2.2⟩

theorem box5_new (w : World) (v : Value) (sh : Bool) (lv : Int) (e : El) : Box5 (((w.alloc (.cells #[v, .bool sh, .int .i64 lv] 25)).alloc (.cells #[.int .i64 e.first, .int .i64 e.second, .int .i64 e.third, .bool e.varies] 72)).alloc (.cells #[.int .i64 0, .int .i64 0, .int .i64 0, .bool false] 72)) w.heap.size v sh lv e := by
  refine ⟨?_, ?_, ?_⟩
  · rw [Below.heap_alloc _ _ _ (by simp; omega), Below.heap_alloc _ _ _ (by simp)]; exact heap_alloc_new w _
  · rw [Below.heap_alloc _ _ _ (by simp)]; exact heap_alloc2_new w _ _
  · have := heap_alloc_new ((w.alloc (.cells #[v, .bool sh, .int .i64 lv] 25)).alloc (.cells #[.int .i64 e.first, .int .i64 e.second, .int .i64 e.third, .bool e.varies] 72)) (.cells #[.int .i64 0, .int .i64 0, .int .i64 0, .bool false] 72)
    simpa using this

theorem below_new5 (w : World) (v : Value) (sh : Bool) (lv : Int) (e : El) : Below w.heap.size w (((w.alloc (.cells #[v, .bool sh, .int .i64 lv] 25)).alloc (.cells #[.int .i64 e.first, .int .i64 e.second, .int .i64 e.third, .bool e.varies] 72)).alloc (.cells #[.int .i64 0, .int .i64 0, .int .i64 0, .bool false] 72)) :=
  (((Below.refl w.heap.size w).alloc (Nat.le_refl _) _).alloc (by simp) _).alloc (by simp; omega) _

theorem below_res5 {w wr : World} (h : Below w.heap.size w wr) (x y z t : Value) : Below w.heap.size w ((((wr.setCell ⟨w.heap.size + 1 + 1, 0, none⟩ x).setCell ⟨w.heap.size + 1 + 1, 1, none⟩ y).setCell ⟨w.heap.size + 1 + 1, 2, none⟩ z).setCell ⟨w.heap.size + 1 + 1, 3, none⟩ t) :=
  (((h.setCell (show w.heap.size ≤ w.heap.size + 1 + 1 by omega) _).setCell (show w.heap.size ≤ w.heap.size + 1 + 1 by omega) _).setCell (show w.heap.size ≤ w.heap.size + 1 + 1 by omega) _).setCell (show w.heap.size ≤ w.heap.size + 1 + 1 by omega) _

def B1Rel (w : World) (v : Value) (sh : Bool) (lv : Int) (e : El) (es : List Ent) (N : Int) (i : Value) (wr : World) : Prop := ∃ m : Int, i = .int .i64 m ∧ 0 ≤ m ∧ m ≤ 65536 ∧ step1 es (65536 - m).toNat m = N ∧ Box5 wr w.heap.size v sh lv e ∧ Below w.heap.size w wr

set_option maxRecDepth 100000 in
set_option maxHeartbeats 4000000 in
theorem behind1_any {w : World} {B : Nat} {v : Value} {es : List Ent} {sh : Bool} {lv : Int} {e : El} (hE : Ents w B v es) (hn : es.length ≤ 1048576) (hF : ∀ e ∈ es, e.el.first ≤ 65535) (h0 : 0 ≤ e.first) (h1 : e.first ≤ 65535) :
    Calls Tryz.prog 53 #[.agg #[v, .bool sh, .int .i64 lv], .agg #[.int .i64 e.first, .int .i64 e.second, .int .i64 e.third, .bool e.varies], .int .i64 1] w fun x w' => x = .returned (elV ⟨step1 es (65535 - e.first).toNat (e.first + 1), 32, 2, false⟩) ∧ Below w.heap.size w w' := by
  have HB : Hid (Below _ _ _) := below_new5 w v sh lv e
  have HX : Hid (Box5 _ _ _ _ _ _) := box5_new w v sh lv e
  have HE : Hid (Ents _ _ _ _) := hE
  obtain ⟨N, HS⟩ : ∃ N, Hid (step1 es (65535 - e.first).toNat (e.first + 1) = N) := ⟨_, rfl⟩
  rw [HS.out]
  have HS2 : Hid (step1 es (65536 - (e.first + 1)).toNat (e.first + 1) = N) := by
    show _ = _
    rw [show 65536 - (e.first + 1) = 65535 - e.first by omega]; exact HS.out
  clear hE HS
  go_enter Tryz.func53, Tryz.ntmps53
  go_wp2_with fail
  go_loopw [7] (fun i wr => B1Rel w v sh lv e es N i wr) (fun i _ => (65536 - intOf i).toNat)
  case atStart => exact ⟨e.first + 1, rfl, by omega, by omega, HS2.out, HX.out, HB.out⟩
  case round =>
    clear HS2 HX HB
    obtain ⟨m, rfl, m0, m1, hs, hx, hb⟩ := hrel
    have HS : Hid (step1 es (65536 - m).toNat m = N) := hs
    have FR := free_any (sh := sh) (lv := lv) (n := m) (HE.out.below hb) hn m0 (by omega)
    obtain ⟨p0, p1, p2⟩ := hx.rules
    have HX : Hid (Box5 _ _ _ _ _ _) := hx
    have HB : Hid (Below _ _ _) := hb
    clear hs hx hb HE
    go_wp2_with fail
    refine FR.mono ?_
    rintro e' w2 ⟨rfl, b2⟩
    have hx2 := HX.out.below b2
    have c2 := HB.out.trans (b2.mono HB.out.size)
    clear FR p0 p1 p2 b2 HX HB
    cases hf : freeE es m
    · have hm : m < 65536 := by
        by_cases c : m = 65536
        · subst c; rw [free_top hF] at hf; cases hf
        · omega
      have HS3 : Hid (step1 es (65536 - (m + 1)).toNat (m + 1) = N) := (step1_next hf hm).symm.trans HS.out
      clear HS hf hF
      have HX2 : Hid (Box5 _ _ _ _ _ _) := hx2
      clear hx2
      go_wp2
      exact ⟨⟨m + 1, by go_num, by omega, by omega, HS3.out, HX2.out, c2⟩, by simp [intOf]; omega⟩
    · have hN : m = N := (step1_free hf).symm.trans HS.out
      subst hN
      obtain ⟨q0, q1, q2, q3, f0⟩ := hx2.result
      obtain ⟨n0, n1, n2⟩ := hx2.sizes
      clear HS hf hF hx2
      go_wp2
      refine bodyPost_ret (v := .agg #[.int .i64 m, .int .i64 32, .int .i64 2, .bool false]) ?_ rfl ⟨rfl, below_res5 c2 _ _ _ _⟩
      rw [results_cell1 rfl]
      go_simp
end Go.Proofs.YtinjldagfhbioaaGreatDoor

namespace Go.Proofs.YtinjldagfhbioaaGreatDoor
open Go.RowKit

/-- The first number from one on, by steps, at which p does not hold. -/
def stepN (p : Int → Bool) (nx : Int → Int) : Nat → Int → Int
  | 0, n => n
  | f + 1, n => if p n = true then stepN p nx f (nx n) else n

theorem stepN_end {p : Int → Bool} {nx : Int → Int} {f : Nat} {n : Int} (h : p n = false) : stepN p nx f n = n := by
  cases f with
  | zero => rfl
  | succ f => exact if_neg (by simp [h])

/-- What is left to walk, from n on to a last number M that is passed. -/
def Left (p : Int → Bool) (nx : Int → Int) (M n N : Int) : Prop := ∃ f : Nat, M - n < (f : Int) ∧ stepN p nx f n = N

theorem Left.next {p : Int → Bool} {nx : Int → Int} {M n N : Int} (h : Left p nx M n N) (hp : p n = true) (hn : n ≤ M) (hx : n < nx n) : Left p nx M (nx n) N := by
  obtain ⟨f, h1, h2⟩ := h
  cases f with
  | zero => exfalso; simp at h1; omega
  | succ f =>
    refine ⟨f, by omega, ?_⟩
    rw [← h2]; exact (if_pos hp).symm

theorem Left.last {p : Int → Bool} {nx : Int → Int} {M n N : Int} (h : Left p nx M n N) (hp : p n = false) : n = N := by
  obtain ⟨f, _, h2⟩ := h
  rw [← h2, stepN_end hp]

def NotQ (es : List Ent) (q : El → Bool) (k : Nat) : Prop := ∀ j e, j < k → es[j]? = some e → q e.el = false

theorem NotQ.succ {es : List Ent} {q : El → Bool} {e : Ent} {k : Nat} (h : NotQ es q k) (hx : es[k]? = some e) (hn : q e.el = false) : NotQ es q (k + 1) := by
  intro j y hj hy
  by_cases c : j = k
  · subst c; rw [hx] at hy; cases hy; exact hn
  · exact h j y (by omega) hy

def hasQ (es : List Ent) (q : El → Bool) : Bool := es.any fun e => q e.el

theorem hasQ_hit {es : List Ent} {q : El → Bool} {e : Ent} {k : Nat} (he : es[k]? = some e) (h : q e.el = true) : hasQ es q = true := List.any_eq_true.2 ⟨e, List.mem_of_getElem? he, h⟩

theorem hasQ_none {es : List Ent} {q : El → Bool} {k : Nat} (h : NotQ es q k) (hk : es.length ≤ k) : hasQ es q = false := by
  refine List.any_eq_false.2 fun x hx => ?_
  obtain ⟨j, hj⟩ := List.mem_iff_getElem?.1 hx
  have h1 := (List.getElem?_eq_some_iff.1 hj).1
  simp [h j x (by omega) hj]

def q2 (e : El) (n : Int) (x : El) : Bool := x.first == e.first && x.second == n
def q3 (e : El) (n : Int) (x : El) : Bool := (x.first == e.first && x.second == e.second) && x.third == n
def nx2 (n : Int) : Int := n + 1
def nx3 (n : Int) : Int := if n + 1 = 8 then n + 1 + 1 else n + 1

def behind2 (es : List Ent) (e : El) : El := ⟨e.first, stepN (fun n => hasQ es (q2 e n)) nx2 1001 (e.second + 1), 2, false⟩
def behind3 (es : List Ent) (e : El) : El := ⟨e.first, e.second, stepN (fun n => hasQ es (q3 e n)) nx3 1001 (nx3 e.third), false⟩

def B2Rel (w : World) (v : Value) (sh : Bool) (lv : Int) (e : El) (es : List Ent) (q : Int → El → Bool) (nx : Int → Int) (N : Int) (i j : Value) (wr : World) : Prop :=
  ∃ (m : Int) (k : Nat), i = .int .i64 m ∧ j = .int .i64 k ∧ (0 ≤ m ∧ m ≤ 1002 ∧ k ≤ es.length) ∧ NotQ es (q m) k ∧ Left (fun n => hasQ es (q n)) nx 1000 m N ∧ Box5 wr w.heap.size v sh lv e ∧ Below w.heap.size w wr

set_option maxRecDepth 100000 in
set_option maxHeartbeats 8000000 in
theorem behind2_any {w : World} {B : Nat} {v : Value} {es : List Ent} {sh : Bool} {lv : Int} {e : El} (hE : Ents w B v es) (hn : es.length ≤ 40) (hF : ∀ x ∈ es, x.el.second ≤ 999) (h0 : 0 ≤ e.second) (h1 : e.second ≤ 999) :
    Calls Tryz.prog 53 #[.agg #[v, .bool sh, .int .i64 lv], .agg #[.int .i64 e.first, .int .i64 e.second, .int .i64 e.third, .bool e.varies], .int .i64 2] w fun x w' => x = .returned (elV (behind2 es e)) ∧ Below w.heap.size w w' := by
  obtain ⟨a, c, rfl⟩ : ∃ a c, v = .slice a es.length c := by
    rcases hE.form with ⟨rfl, rfl⟩ | ⟨g, cap, rfl, _, _, _, _⟩
    · exact ⟨_, _, rfl⟩
    · exact ⟨_, _, rfl⟩
  have HB : Hid (Below _ _ _) := below_new5 w (.slice a es.length c) sh lv e
  have HX : Hid (Box5 _ _ _ _ _ _) := box5_new w (.slice a es.length c) sh lv e
  have HE : Hid (Ents _ _ _ _) := hE
  unfold behind2
  obtain ⟨N, HS⟩ : ∃ N, Hid (stepN (fun n => hasQ es (q2 e n)) nx2 1001 (e.second + 1) = N) := ⟨_, rfl⟩
  rw [HS.out]
  have HS2 : Hid (Left (fun n => hasQ es (q2 e n)) nx2 1000 (e.second + 1) N) := ⟨1001, by omega, HS.out⟩
  clear hE HS
  go_enter Tryz.func53, Tryz.ntmps53
  go_wp2_with fail
  go_loopw [8, 9] (fun i j wr => B2Rel w (.slice a es.length c) sh lv e es (q2 e) nx2 N i j wr) (fun i j _ => (1003 - intOf i).toNat * 100 + (50 - (intOf j).toNat))
  case atStart => exact ⟨e.second + 1, 0, rfl, rfl, ⟨by omega, by omega, by omega⟩, fun j x hj => by omega, HS2.out, HX.out, HB.out⟩
  case round =>
    clear HS2 HX HB
    obtain ⟨m, k, rfl, rfl, ⟨m0, m1, hk⟩, hq, hl, hx, hb⟩ := hrel
    have HQ : Hid (NotQ _ _ _) := hq
    have HL : Hid (Left _ _ _ _ _) := hl
    have HX : Hid (Box5 _ _ _ _ _ _) := hx
    obtain ⟨p0, p1, p2⟩ := hx.rules
    obtain ⟨s0, s1, s2, s3⟩ := hx.elem
    obtain ⟨z0, z1, z2, z3, f0⟩ := hx.result
    obtain ⟨n0, n1, n2⟩ := hx.sizes
    clear hq hl hx
    by_cases hlt : k < es.length
    · obtain ⟨x, he⟩ : ∃ x, es[k]? = some x := ⟨_, List.getElem?_eq_getElem hlt⟩
      have hF' := hF x (List.mem_of_getElem? he)
      rcases HE.out.form with ⟨_, h⟩ | ⟨g, cap, h, _, _, _, _⟩
      · rw [h] at hlt; simp at hlt
      · cases h
        obtain ⟨y, hI, a0, a1, a2, a3, a4⟩ := (HE.out.below hb).cells k x he
        have hk8 : (k : Int) < (es.length : Int) := by omega
        have HX2 : Hid (Box5 _ _ _ _ _ _) := HX.out.below ((Below.refl wr.heap.size wr).alloc (Nat.le_refl _) (.cells #[.int .i64 x.el.first, .int .i64 x.el.second, .int .i64 x.el.third, .bool x.el.varies] 72))
        have HB2 : Hid (Below _ _ _) := hb.alloc hb.size (.cells #[.int .i64 x.el.first, .int .i64 x.el.second, .int .i64 x.el.third, .bool x.el.varies] 72)
        have HK : Hid _ := he
        clear hI he HE hF HX hb
        by_cases c1 : x.el.first = e.first
        · have c1' : (x.el.first == e.first) = true := by simpa using c1
          by_cases c2 : x.el.second = m
          · have c2' : (x.el.second == m) = true := by simpa using c2
            have HL2 : Hid (Left (fun n => hasQ es (q2 e n)) nx2 1000 (m + 1) N) := HL.out.next (hasQ_hit HK.out (by show (_ && _) = true; rw [c1', c2']; rfl)) (by omega) (by show m < m + 1; omega)
            have m2 : m ≤ 999 := by omega
            clear HQ HL HK c1 c2 hF'
            go_wp2
            exact ⟨⟨m + 1, 0, by go_num, by go_num, ⟨by omega, by omega, by omega⟩, fun j x hj => by omega, HL2.out, HX2.out, HB2.out⟩, by simp [intOf]; omega⟩
          · have c2' : (x.el.second == m) = false := by simpa using c2
            have HQ2 : Hid (NotQ es (q2 e m) (k + 1)) := HQ.out.succ HK.out (by show (_ && _) = false; rw [c2', Bool.and_false])
            clear HQ HK c1 c2 hF'
            go_wp2
            exact ⟨⟨m, k + 1, by go_num, by go_num, ⟨by omega, by omega, by omega⟩, HQ2.out, HL.out, HX2.out, HB2.out⟩, by simp [intOf]; omega⟩
        · have c1' : (x.el.first == e.first) = false := by simpa using c1
          have HQ2 : Hid (NotQ es (q2 e m) (k + 1)) := HQ.out.succ HK.out (by show (_ && _) = false; rw [c1', Bool.false_and])
          clear HQ HK c1 hF'
          go_wp2
          exact ⟨⟨m, k + 1, by go_num, by go_num, ⟨by omega, by omega, by omega⟩, HQ2.out, HL.out, HX2.out, HB2.out⟩, by simp [intOf]; omega⟩
    · have hN : m = N := HL.out.last (hasQ_none HQ.out (by omega))
      subst hN
      have hk8 : ¬ (k : Int) < (es.length : Int) := by omega
      clear HQ HL HX HE hF
      go_wp2
      refine bodyPost_ret (v := .agg #[.int .i64 e.first, .int .i64 m, .int .i64 2, .bool false]) ?_ rfl ⟨rfl, below_res5 hb _ _ _ _⟩
      rw [results_cell1 rfl]
      go_simp
end Go.Proofs.YtinjldagfhbioaaGreatDoor

namespace Go.Proofs.YtinjldagfhbioaaGreatDoor
open Go.RowKit

theorem nx3_eq (n : Int) (h : n + 1 = 8) : nx3 n = n + 1 + 1 := if_pos h
theorem nx3_ne (n : Int) (h : n + 1 ≠ 8) : nx3 n = n + 1 := if_neg h
theorem nx3_lt (n : Int) : n < nx3 n := by unfold nx3; split <;> omega

set_option maxRecDepth 100000 in
set_option maxHeartbeats 8000000 in
theorem behind3_at8 {w : World} {B : Nat} {v : Value} {es : List Ent} {sh : Bool} {lv : Int} {e : El} (hE : Ents w B v es) (hn : es.length ≤ 40) (hF : ∀ x ∈ es, x.el.third ≤ 99) (h8 : e.third + 1 = 8) :
    Calls Tryz.prog 53 #[.agg #[v, .bool sh, .int .i64 lv], .agg #[.int .i64 e.first, .int .i64 e.second, .int .i64 e.third, .bool e.varies], .int .i64 3] w fun x w' => x = .returned (elV (behind3 es e)) ∧ Below w.heap.size w w' := by
  obtain ⟨a, c, rfl⟩ : ∃ a c, v = .slice a es.length c := by
    rcases hE.form with ⟨rfl, rfl⟩ | ⟨g, cap, rfl, _, _, _, _⟩
    · exact ⟨_, _, rfl⟩
    · exact ⟨_, _, rfl⟩
  have HB : Hid (Below _ _ _) := below_new5 w (.slice a es.length c) sh lv e
  have HX : Hid (Box5 _ _ _ _ _ _) := box5_new w (.slice a es.length c) sh lv e
  have HE : Hid (Ents _ _ _ _) := hE
  unfold behind3
  obtain ⟨N, HS⟩ : ∃ N, Hid (stepN (fun n => hasQ es (q3 e n)) nx3 1001 (nx3 e.third) = N) := ⟨_, rfl⟩
  rw [HS.out]
  have HS2 : Hid (Left (fun n => hasQ es (q3 e n)) nx3 1000 (e.third + 1 + 1) N) := ⟨1001, by omega, by rw [← nx3_eq _ h8]; exact HS.out⟩
  have h8' : (e.third + 1 == 8) = true := by simpa using h8
  clear hE HS
  go_enter Tryz.func53, Tryz.ntmps53
  go_wp2_with fail
  go_loopw [11, 12] (fun i j wr => B2Rel w (.slice a es.length c) sh lv e es (q3 e) nx3 N i j wr) (fun i j _ => (1003 - intOf i).toNat * 100 + (50 - (intOf j).toNat))
  case atStart => exact ⟨e.third + 1 + 1, 0, by rw [show e.third + 1 + 1 = 9 by omega], rfl, ⟨by omega, by omega, by omega⟩, fun j x hj => by omega, HS2.out, HX.out, HB.out⟩
  case round =>
    clear HS2 HX HB h8 h8'
    obtain ⟨m, k, rfl, rfl, ⟨m0, m1, hk⟩, hq, hl, hx, hb⟩ := hrel
    have HQ : Hid (NotQ _ _ _) := hq
    have HL : Hid (Left _ _ _ _ _) := hl
    have HX : Hid (Box5 _ _ _ _ _ _) := hx
    obtain ⟨p0, p1, p2⟩ := hx.rules
    obtain ⟨s0, s1, s2, s3⟩ := hx.elem
    obtain ⟨z0, z1, z2, z3, f0⟩ := hx.result
    obtain ⟨n0, n1, n2⟩ := hx.sizes
    clear hq hl hx
    by_cases hlt : k < es.length
    · obtain ⟨x, he⟩ : ∃ x, es[k]? = some x := ⟨_, List.getElem?_eq_getElem hlt⟩
      have hF' := hF x (List.mem_of_getElem? he)
      rcases HE.out.form with ⟨_, h⟩ | ⟨g, cap, h, _, _, _, _⟩
      · rw [h] at hlt; simp at hlt
      · cases h
        obtain ⟨y, hI, a0, a1, a2, a3, a4⟩ := (HE.out.below hb).cells k x he
        have hk8 : (k : Int) < (es.length : Int) := by omega
        have HX2 : Hid (Box5 _ _ _ _ _ _) := HX.out.below ((Below.refl wr.heap.size wr).alloc (Nat.le_refl _) (.cells #[.int .i64 x.el.first, .int .i64 x.el.second, .int .i64 x.el.third, .bool x.el.varies] 72))
        have HB2 : Hid (Below _ _ _) := hb.alloc hb.size (.cells #[.int .i64 x.el.first, .int .i64 x.el.second, .int .i64 x.el.third, .bool x.el.varies] 72)
        have HK : Hid _ := he
        clear hI he HE hF HX hb
        by_cases c1 : x.el.first = e.first
        · have c1' : (x.el.first == e.first) = true := by simpa using c1
          by_cases c2 : x.el.second = e.second
          · have c2' : (x.el.second == e.second) = true := by simpa using c2
            by_cases c3 : x.el.third = m
            · have c3' : (x.el.third == m) = true := by simpa using c3
              have HL2 : Hid (Left (fun n => hasQ es (q3 e n)) nx3 1000 (nx3 m) N) := HL.out.next (hasQ_hit HK.out (by show (_ && _) = true; rw [c1', c2', c3']; rfl)) (by omega) (nx3_lt m)
              have m2 : m ≤ 99 := by omega
              clear HQ HL HK c1 c2 c3 hF'
              by_cases c8 : m + 1 = 8
              · have c8' : (m + 1 == 8) = true := by simpa using c8
                have HL3 : Hid (Left (fun n => hasQ es (q3 e n)) nx3 1000 (m + 1 + 1) N) := by rw [nx3_eq m c8] at HL2; exact HL2
                clear HL2 c8
                go_wp2
                exact ⟨⟨m + 1 + 1, 0, by go_num, by go_num, ⟨by omega, by omega, by omega⟩, fun j x hj => by omega, HL3.out, HX2.out, HB2.out⟩, by simp [intOf]; omega⟩
              · have c8' : (m + 1 == 8) = false := by simpa using c8
                have HL3 : Hid (Left (fun n => hasQ es (q3 e n)) nx3 1000 (m + 1) N) := by rw [nx3_ne m c8] at HL2; exact HL2
                clear HL2 c8
                go_wp2
                exact ⟨⟨m + 1, 0, by go_num, by go_num, ⟨by omega, by omega, by omega⟩, fun j x hj => by omega, HL3.out, HX2.out, HB2.out⟩, by simp [intOf]; omega⟩
            · have c3' : (x.el.third == m) = false := by simpa using c3
              have HQ2 : Hid (NotQ es (q3 e m) (k + 1)) := HQ.out.succ HK.out (by show (_ && _) = false; rw [c3', Bool.and_false])
              clear HQ HK c1 c2 c3 hF'
              go_wp2
              exact ⟨⟨m, k + 1, by go_num, by go_num, ⟨by omega, by omega, by omega⟩, HQ2.out, HL.out, HX2.out, HB2.out⟩, by simp [intOf]; omega⟩
          · have c2' : (x.el.second == e.second) = false := by simpa using c2
            have HQ2 : Hid (NotQ es (q3 e m) (k + 1)) := HQ.out.succ HK.out (by show ((_ && _) && _) = false; rw [c2', Bool.and_false, Bool.false_and])
            clear HQ HK c1 c2 hF'
            go_wp2
            exact ⟨⟨m, k + 1, by go_num, by go_num, ⟨by omega, by omega, by omega⟩, HQ2.out, HL.out, HX2.out, HB2.out⟩, by simp [intOf]; omega⟩
        · have c1' : (x.el.first == e.first) = false := by simpa using c1
          have HQ2 : Hid (NotQ es (q3 e m) (k + 1)) := HQ.out.succ HK.out (by show ((_ && _) && _) = false; rw [c1', Bool.false_and, Bool.false_and])
          clear HQ HK c1 hF'
          go_wp2
          exact ⟨⟨m, k + 1, by go_num, by go_num, ⟨by omega, by omega, by omega⟩, HQ2.out, HL.out, HX2.out, HB2.out⟩, by simp [intOf]; omega⟩
    · have hN : m = N := HL.out.last (hasQ_none HQ.out (by omega))
      subst hN
      have hk8 : ¬ (k : Int) < (es.length : Int) := by omega
      clear HQ HL HX HE hF
      go_wp2
      refine bodyPost_ret (v := .agg #[.int .i64 e.first, .int .i64 e.second, .int .i64 m, .bool false]) ?_ rfl ⟨rfl, below_res5 hb _ _ _ _⟩
      rw [results_cell1 rfl]
      go_simp

set_option maxRecDepth 100000 in
set_option maxHeartbeats 8000000 in
theorem behind3_no8 {w : World} {B : Nat} {v : Value} {es : List Ent} {sh : Bool} {lv : Int} {e : El} (hE : Ents w B v es) (hn : es.length ≤ 40) (hF : ∀ x ∈ es, x.el.third ≤ 99) (h0 : 0 ≤ e.third) (h1 : e.third ≤ 99) (h8 : e.third + 1 ≠ 8) :
    Calls Tryz.prog 53 #[.agg #[v, .bool sh, .int .i64 lv], .agg #[.int .i64 e.first, .int .i64 e.second, .int .i64 e.third, .bool e.varies], .int .i64 3] w fun x w' => x = .returned (elV (behind3 es e)) ∧ Below w.heap.size w w' := by
  obtain ⟨a, c, rfl⟩ : ∃ a c, v = .slice a es.length c := by
    rcases hE.form with ⟨rfl, rfl⟩ | ⟨g, cap, rfl, _, _, _, _⟩
    · exact ⟨_, _, rfl⟩
    · exact ⟨_, _, rfl⟩
  have HB : Hid (Below _ _ _) := below_new5 w (.slice a es.length c) sh lv e
  have HX : Hid (Box5 _ _ _ _ _ _) := box5_new w (.slice a es.length c) sh lv e
  have HE : Hid (Ents _ _ _ _) := hE
  unfold behind3
  obtain ⟨N, HS⟩ : ∃ N, Hid (stepN (fun n => hasQ es (q3 e n)) nx3 1001 (nx3 e.third) = N) := ⟨_, rfl⟩
  rw [HS.out]
  have HS2 : Hid (Left (fun n => hasQ es (q3 e n)) nx3 1000 (e.third + 1) N) := ⟨1001, by omega, by rw [← nx3_ne _ h8]; exact HS.out⟩
  have h8' : (e.third + 1 == 8) = false := by simpa using h8
  clear hE HS
  go_enter Tryz.func53, Tryz.ntmps53
  go_wp2_with fail
  go_loopw [11, 12] (fun i j wr => B2Rel w (.slice a es.length c) sh lv e es (q3 e) nx3 N i j wr) (fun i j _ => (1003 - intOf i).toNat * 100 + (50 - (intOf j).toNat))
  case atStart => exact ⟨e.third + 1, 0, rfl, rfl, ⟨by omega, by omega, by omega⟩, fun j x hj => by omega, HS2.out, HX.out, HB.out⟩
  case round =>
    clear HS2 HX HB h8 h8'
    obtain ⟨m, k, rfl, rfl, ⟨m0, m1, hk⟩, hq, hl, hx, hb⟩ := hrel
    have HQ : Hid (NotQ _ _ _) := hq
    have HL : Hid (Left _ _ _ _ _) := hl
    have HX : Hid (Box5 _ _ _ _ _ _) := hx
    obtain ⟨p0, p1, p2⟩ := hx.rules
    obtain ⟨s0, s1, s2, s3⟩ := hx.elem
    obtain ⟨z0, z1, z2, z3, f0⟩ := hx.result
    obtain ⟨n0, n1, n2⟩ := hx.sizes
    clear hq hl hx
    by_cases hlt : k < es.length
    · obtain ⟨x, he⟩ : ∃ x, es[k]? = some x := ⟨_, List.getElem?_eq_getElem hlt⟩
      have hF' := hF x (List.mem_of_getElem? he)
      rcases HE.out.form with ⟨_, h⟩ | ⟨g, cap, h, _, _, _, _⟩
      · rw [h] at hlt; simp at hlt
      · cases h
        obtain ⟨y, hI, a0, a1, a2, a3, a4⟩ := (HE.out.below hb).cells k x he
        have hk8 : (k : Int) < (es.length : Int) := by omega
        have HX2 : Hid (Box5 _ _ _ _ _ _) := HX.out.below ((Below.refl wr.heap.size wr).alloc (Nat.le_refl _) (.cells #[.int .i64 x.el.first, .int .i64 x.el.second, .int .i64 x.el.third, .bool x.el.varies] 72))
        have HB2 : Hid (Below _ _ _) := hb.alloc hb.size (.cells #[.int .i64 x.el.first, .int .i64 x.el.second, .int .i64 x.el.third, .bool x.el.varies] 72)
        have HK : Hid _ := he
        clear hI he HE hF HX hb
        by_cases c1 : x.el.first = e.first
        · have c1' : (x.el.first == e.first) = true := by simpa using c1
          by_cases c2 : x.el.second = e.second
          · have c2' : (x.el.second == e.second) = true := by simpa using c2
            by_cases c3 : x.el.third = m
            · have c3' : (x.el.third == m) = true := by simpa using c3
              have HL2 : Hid (Left (fun n => hasQ es (q3 e n)) nx3 1000 (nx3 m) N) := HL.out.next (hasQ_hit HK.out (by show (_ && _) = true; rw [c1', c2', c3']; rfl)) (by omega) (nx3_lt m)
              have m2 : m ≤ 99 := by omega
              clear HQ HL HK c1 c2 c3 hF'
              by_cases c8 : m + 1 = 8
              · have c8' : (m + 1 == 8) = true := by simpa using c8
                have HL3 : Hid (Left (fun n => hasQ es (q3 e n)) nx3 1000 (m + 1 + 1) N) := by rw [nx3_eq m c8] at HL2; exact HL2
                clear HL2 c8
                go_wp2
                exact ⟨⟨m + 1 + 1, 0, by go_num, by go_num, ⟨by omega, by omega, by omega⟩, fun j x hj => by omega, HL3.out, HX2.out, HB2.out⟩, by simp [intOf]; omega⟩
              · have c8' : (m + 1 == 8) = false := by simpa using c8
                have HL3 : Hid (Left (fun n => hasQ es (q3 e n)) nx3 1000 (m + 1) N) := by rw [nx3_ne m c8] at HL2; exact HL2
                clear HL2 c8
                go_wp2
                exact ⟨⟨m + 1, 0, by go_num, by go_num, ⟨by omega, by omega, by omega⟩, fun j x hj => by omega, HL3.out, HX2.out, HB2.out⟩, by simp [intOf]; omega⟩
            · have c3' : (x.el.third == m) = false := by simpa using c3
              have HQ2 : Hid (NotQ es (q3 e m) (k + 1)) := HQ.out.succ HK.out (by show (_ && _) = false; rw [c3', Bool.and_false])
              clear HQ HK c1 c2 c3 hF'
              go_wp2
              exact ⟨⟨m, k + 1, by go_num, by go_num, ⟨by omega, by omega, by omega⟩, HQ2.out, HL.out, HX2.out, HB2.out⟩, by simp [intOf]; omega⟩
          · have c2' : (x.el.second == e.second) = false := by simpa using c2
            have HQ2 : Hid (NotQ es (q3 e m) (k + 1)) := HQ.out.succ HK.out (by show ((_ && _) && _) = false; rw [c2', Bool.and_false, Bool.false_and])
            clear HQ HK c1 c2 hF'
            go_wp2
            exact ⟨⟨m, k + 1, by go_num, by go_num, ⟨by omega, by omega, by omega⟩, HQ2.out, HL.out, HX2.out, HB2.out⟩, by simp [intOf]; omega⟩
        · have c1' : (x.el.first == e.first) = false := by simpa using c1
          have HQ2 : Hid (NotQ es (q3 e m) (k + 1)) := HQ.out.succ HK.out (by show ((_ && _) && _) = false; rw [c1', Bool.false_and, Bool.false_and])
          clear HQ HK c1 hF'
          go_wp2
          exact ⟨⟨m, k + 1, by go_num, by go_num, ⟨by omega, by omega, by omega⟩, HQ2.out, HL.out, HX2.out, HB2.out⟩, by simp [intOf]; omega⟩
    · have hN : m = N := HL.out.last (hasQ_none HQ.out (by omega))
      subst hN
      have hk8 : ¬ (k : Int) < (es.length : Int) := by omega
      clear HQ HL HX HE hF
      go_wp2
      refine bodyPost_ret (v := .agg #[.int .i64 e.first, .int .i64 e.second, .int .i64 m, .bool false]) ?_ rfl ⟨rfl, below_res5 hb _ _ _ _⟩
      rw [results_cell1 rfl]
      go_simp

theorem behind3_any {w : World} {B : Nat} {v : Value} {es : List Ent} {sh : Bool} {lv : Int} {e : El} (hE : Ents w B v es) (hn : es.length ≤ 40) (hF : ∀ x ∈ es, x.el.third ≤ 99) (h0 : 0 ≤ e.third) (h1 : e.third ≤ 99) :
    Calls Tryz.prog 53 #[.agg #[v, .bool sh, .int .i64 lv], .agg #[.int .i64 e.first, .int .i64 e.second, .int .i64 e.third, .bool e.varies], .int .i64 3] w fun x w' => x = .returned (elV (behind3 es e)) ∧ Below w.heap.size w w' := by
  by_cases h8 : e.third + 1 = 8
  · exact behind3_at8 hE hn hF h8
  · exact behind3_no8 hE hn hF h0 h1 h8
end Go.Proofs.YtinjldagfhbioaaGreatDoor
