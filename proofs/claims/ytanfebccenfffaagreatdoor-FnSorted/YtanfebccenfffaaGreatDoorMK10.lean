/- Texts of mine laid together: Cur, Runes1, DrawOf, DrawSp, DrawR, SRule3, SFree. -/
import Derived.Test.YtanfebccenfffaaGreatDoorProg
import Derived.Test.YtanfebccenfffaaGreatDoorInts
import Derived.WalkKit
import Derived.WalkSpells
import Derived.WalkLawsBesides
import Derived.WalkSmall
import Derived.BigQuiet
import Derived.Deep.QuietTactic
import Derived.Test.YtanfebccenfffaaGreatDoorGood
import Derived.BigCall
import Derived.Test.YtanfebccenfffaaGreatDoorEncS
import Derived.Test.YtanfebccenfffaaGreatDoorSEl3
namespace Go.Proofs.YtanfebccenfffaaGreatDoor
open Go.RowKit

/-- The bytes that the cursor reads: none, or a row below B that is not the cursor's own block. -/
def Code (w : World) (B b : Nat) (a : Option Addr) (n : Nat) : Prop :=
  n = 0 ∨ ∃ cb off, a = some ⟨cb, off, none⟩ ∧ cb ≠ b ∧ cb < B ∧ ∀ j, j < n → ∃ x : Int, 0 ≤ x ∧ x ≤ 255 ∧ w.cell? ⟨cb, off + j, none⟩ = some (.int .u8 x)

def Cur (w : World) (B b k : Nat) : Prop :=
  ∃ (a : Option Addr) (n cap : Nat) (seed : Int), w.heap[b]? = some (.cells #[.slice a n cap, .int .i64 (k : Int), .int .u64 seed] 48 (0, 0)) ∧ b < B ∧ B ≤ w.heap.size ∧ n ≤ 1048576 ∧ 0 ≤ seed ∧ seed < 18446744073709551616 ∧ Code w B b a n

theorem Code.kept {w w' : World} {B b : Nat} {a : Option Addr} {n : Nat} (h : Code w B b a n) (hs : B ≤ w.heap.size) {row : Option Nat} (hg : w.grownBy w' row) (hr : ∀ k, row = some k → k = b ∨ B ≤ k) : Code w' B b a n := by
  rcases h with h | ⟨cb, off, rfl, h1, h2, h3⟩
  · exact .inl h
  · refine .inr ⟨cb, off, rfl, h1, h2, fun j hj => ?_⟩
    obtain ⟨x, x0, x1, hx⟩ := h3 j hj
    refine ⟨x, x0, x1, ?_⟩
    rw [World.cell?_of_block (w := w) (hg.block cb (by omega) (fun e => by rcases hr cb e.symm with h | h <;> omega))]
    exact hx

theorem Cur.kept {w w' : World} {B b k : Nat} (h : Cur w B b k) {row : Option Nat} (hg : w.grownBy w' row) (hr : ∀ k, row = some k → B ≤ k) : Cur w' B b k := by
  obtain ⟨a, n, cap, seed, h1, h2, h3, h4, h5, h6, h7⟩ := h
  refine ⟨a, n, cap, seed, ?_, h2, Nat.le_trans h3 hg.size, h4, h5, h6, h7.kept h3 hg (fun k hk => .inr (hr k hk))⟩
  rw [hg.block b (by omega) (fun e => by have := hr b e.symm; omega)]
  exact h1

theorem Cur.drewN {w : World} {B b k : Nat} (h : Cur w B b k) (n : Nat) : Cur (w.drewN n) B b k := h
theorem Cur.lt {w : World} {B b k : Nat} (h : Cur w B b k) : b < B ∧ B ≤ w.heap.size := by obtain ⟨_, _, _, _, _, h1, h2, _⟩ := h; exact ⟨h1, h2⟩

theorem grown_and {a b c : World} {row : Option Nat} (h : a.grownBy b row) (k : b.grownBy c row) : a.grownBy c row := h.trans k
theorem grown_own {a b c : World} {row row' : Option Nat} (h : a.grownBy b row) (k : b.grownBy c row') (hr : ∀ j, row' = some j → a.heap.size ≤ j) : a.grownBy c row :=
  ⟨k.os.trans h.os, k.tape.trans h.tape, k.output.trans h.output, Nat.le_trans h.size k.size, fun i hi hn => by
    rw [k.block i (Nat.lt_of_lt_of_le hi h.size) (fun e => by have := hr i e.symm; omega)]; exact h.block i hi hn⟩

theorem and255 (x : Int) (h0 : 0 ≤ x) (h1 : x < 18446744073709551616) : 0 ≤ bits .and .u64 (x / 1099511627776) 255 ∧ bits .and .u64 (x / 1099511627776) 255 ≤ 255 := by
  have e40 : (2 : Int) ^ 40 = 1099511627776 := by decide
  have hw : ∀ n : Int, 0 ≤ n → n < 2 ^ 40 → IntKind.u64.wrap n = n := fun n a b => by
    have e : IntKind.u64.wrap n = n % 18446744073709551616 := by simp [IntKind.wrap, IntKind.bits, IntKind.signed]
    rw [e40] at b
    rw [e]; omega
  have h := bits_mask .u64 40 (by decide) hw 8 (by decide) (x / 1099511627776) (by omega) (by rw [e40]; omega)
  have e8 : (2 : Int) ^ 8 - 1 = 255 := by decide
  have e9 : (2 : Int) ^ 8 = 256 := by decide
  rw [e8, e9] at h
  rw [h]; omega

theorem ret_w64 {y : Int} (h0 : 0 ≤ y) (h1 : y ≤ 255) : Ending.returned (.int .i64 (wrap64 y)) = .returned (.int .i64 y) := by
  have e : wrap64 y = y := by
    unfold wrap64; omega
  rw [e]

theorem wrapU (n : Int) : 0 ≤ IntKind.u64.wrap n ∧ IntKind.u64.wrap n < 18446744073709551616 := by
  have e : IntKind.u64.wrap n = n % 18446744073709551616 := by simp [IntKind.wrap, IntKind.bits, IntKind.signed]
  rw [e]; omega

theorem cur_step {w : World} {B b k : Nat} {a : Option Addr} {n cap : Nat} {seed : Int} (h1 : w.heap[b]? = some (.cells #[.slice a n cap, .int .i64 (k : Int), .int .u64 seed] 48 (0, 0))) (h2 : b < B) (h3 : B ≤ w.heap.size) (h4 : n ≤ 1048576) (h7 : Code w B b a n) (s : Int) (h5 : 0 ≤ s) (h6 : s < 18446744073709551616) (q q' : Nat) :
    Cur ((((w.drewN q).setCell ⟨b, 1, none⟩ (.int .i64 ((k : Int) + 1))).setCell ⟨b, 2, none⟩ (.int .u64 s)).drewN q') B b (k + 1) ∧ w.grownBy ((((w.drewN q).setCell ⟨b, 1, none⟩ (.int .i64 ((k : Int) + 1))).setCell ⟨b, 2, none⟩ (.int .u64 s)).drewN q') (some b) := by
  have e1 := heap_setCell_same (w.drewN q) b 1 _ _ (.int .i64 ((k : Int) + 1)) h1
  have e2 := heap_setCell_same _ b 2 _ _ (.int .u64 s) e1
  have g : w.grownBy ((((w.drewN q).setCell ⟨b, 1, none⟩ (.int .i64 ((k : Int) + 1))).setCell ⟨b, 2, none⟩ (.int .u64 s)).drewN q') (some b) := by
    refine ⟨rfl, rfl, rfl, by simp [World.drewN], fun i hi hn => ?_⟩
    have hne : i ≠ b := fun e => hn (by rw [e])
    exact (heap_setCell_other _ ⟨b, 2, none⟩ i _ hne).trans (heap_setCell_other _ ⟨b, 1, none⟩ i _ hne)
  refine ⟨⟨a, n, cap, s, ?_, h2, Nat.le_trans h3 g.size, h4, h5, h6, h7.kept h3 g (fun j hj => by cases hj; exact .inl rfl)⟩, g⟩
  have e3 : (((#[.slice a n cap, .int .i64 (k : Int), .int .u64 seed] : Array Value).setIfInBounds 1 (.int .i64 ((k : Int) + 1))).setIfInBounds 2 (.int .u64 s)) = #[.slice a n cap, .int .i64 ((k + 1 : Nat) : Int), .int .u64 s] := by
    simp
  rw [← e3]
  exact e2

set_option maxRecDepth 100000 in
set_option maxHeartbeats 2000000 in
theorem next_any (w : World) (B b k : Nat) (h : Cur w B b k) (hk : k ≤ 1073741824) :
    Calls Tryz.prog 43 #[.pointer (some ⟨b, 0, none⟩)] w fun e w' => ∃ x : Int, e = .returned (.int .i64 x) ∧ 0 ≤ x ∧ x ≤ 255 ∧ Cur w' B b (k + 1) ∧ w.grownBy w' (some b) := by
  obtain ⟨a, n, cap, seed, h1, h2, h3, h4, h5, h6, h7⟩ := h
  have c0 := cell_of_row w b 0 _ _ _ h1
  have c1 := cell_of_row w b 1 _ _ _ h1
  have c2 := cell_of_row w b 2 _ _ _ h1
  simp at c0 c1 c2
  have f0 := fun j => frozen_of_row w b j _ _ h1
  have HS : Hid _ := And.intro h5 h6
  have H1 : Hid _ := h1
  have H7 : Hid _ := h7
  clear h5 h6 h1
  by_cases hlt : k < n
  · rcases h7 with h7 | ⟨cb, off, rfl, g1, g2, g3⟩
    · omega
    · obtain ⟨x, x0, x1, hx⟩ := g3 k hlt
      clear g3
      go_enter Tryz.func43, Tryz.ntmps43
      go_wp2
      go_quiet (fail)
      go_wp2
      go_quiet (fail)
      go_wp2
      go_quiet (fail)
      go_wp2
      go_ret
      have hs := wrapU (IntKind.u64.wrap (IntKind.u64.wrap (seed * 6364136223846793005) + x) + 1442695040888963407)
      have hc := cur_step H1.out h2 h3 h4 H7.out _ hs.1 hs.2
      exact ⟨x, rfl, x0, x1, (hc _ _).1, (hc _ _).2⟩
  · clear h7
    go_enter Tryz.func43, Tryz.ntmps43
    go_wp2
    go_quiet (fail)
    go_wp2
    go_quiet (fail)
    go_wp2
    go_ret
    have hs := wrapU (IntKind.u64.wrap (IntKind.u64.wrap (seed * 6364136223846793005)) + 1442695040888963407)
    have hc := cur_step H1.out h2 h3 h4 H7.out _ hs.1 hs.2
    have hx := and255 _ hs.1 hs.2
    exact ⟨_, ret_w64 hx.1 hx.2, hx.1, hx.2, (hc _ _).1, (hc _ _).2⟩

/-- Behind a draw: the cursor has moved on by at most m places, nothing else has turned. -/
def Moved (w w' : World) (B b k m : Nat) : Prop := (∃ k', k' ≤ k + m ∧ Cur w' B b k') ∧ w.grownBy w' (some b)

set_option maxRecDepth 100000 in
set_option maxHeartbeats 2000000 in
theorem pick_any (w : World) (B b k : Nat) (h : Cur w B b k) (hk : k ≤ 1000000000) (n : Int) (hn : n ≤ 1048576) (hn0 : -1048576 ≤ n) :
    Calls Tryz.prog 18 #[.pointer (some ⟨b, 0, none⟩), .int .i64 n] w fun e w' => ∃ x : Int, e = .returned (.int .i64 x) ∧ 0 ≤ x ∧ (x < n ∨ x = 0) ∧ Moved w w' B b k 2 := by
  by_cases c1 : n ≤ 1
  · go_enter Tryz.func18, Tryz.ntmps18
    go_wp2
    go_ret
    exact ⟨0, rfl, by omega, .inr rfl, ⟨k, by omega, h⟩, World.grownBy.refl _ _⟩
  by_cases c2 : n ≤ 200
  · have N := next_any w B b k h (by omega)
    clear h
    go_enter Tryz.func18, Tryz.ntmps18
    go_wp2_with (go_at_call 43; refine N.mono ?_; rintro e w' ⟨x, rfl, x0, x1, hC, hg⟩)
    go_ret
    exact ⟨_, rfl, Int.emod_nonneg _ (by omega), .inl (Int.emod_lt_of_pos _ (by omega)), ⟨k + 1, by omega, hC⟩, hg⟩
  · have N := next_any w B b k h (by omega)
    clear h
    go_enter Tryz.func18, Tryz.ntmps18
    go_wp2_with fail
    refine N.mono ?_
    rintro e w1 ⟨x, rfl, x0, x1, hC, hg⟩
    clear N
    go_wp2_with fail
    refine (next_any w1 B b (k + 1) hC (by omega)).mono ?_
    rintro e w2 ⟨y, rfl, y0, y1, hC2, hg2⟩
    go_wp2
    go_ret
    exact ⟨_, rfl, Int.emod_nonneg _ (by omega), .inl (Int.emod_lt_of_pos _ (by omega)), ⟨k + 1 + 1, by omega, hC2⟩, grown_and hg hg2⟩

set_option maxRecDepth 100000 in
set_option maxHeartbeats 1000000 in
theorem oneIn_any (w : World) (B b k : Nat) (h : Cur w B b k) (hk : k ≤ 1000000000) (n : Int) (hn : n ≤ 1048576) (hn0 : -1048576 ≤ n) :
    Calls Tryz.prog 31 #[.pointer (some ⟨b, 0, none⟩), .int .i64 n] w fun e w' => ∃ x : Bool, e = .returned (.bool x) ∧ Moved w w' B b k 2 := by
  have N := pick_any w B b k h hk n hn hn0
  clear h
  go_enter Tryz.func31, Tryz.ntmps31
  go_wp2_with (go_at_call 18; refine N.mono ?_; rintro e w' ⟨x, rfl, x0, x1, hM⟩)
  go_ret
  exact ⟨_, rfl, hM⟩

set_option maxRecDepth 100000 in
set_option maxHeartbeats 1000000 in
theorem among_any (w : World) (B b k : Nat) (h : Cur w B b k) (hk : k ≤ 1000000000) (g m cap : Nat) (zs : List Int) (hz : zs.length = m) (hm0 : 0 < m) (hm : m ≤ 1048576) (hg : g < w.heap.size) (hgb : g ≠ b)
    (hc : ∀ j, j < m → w.cell? ⟨g, j, none⟩ = some (.int .i64 (zs[j]?.getD 0))) :
    Calls Tryz.prog 41 #[.pointer (some ⟨b, 0, none⟩), .slice (some ⟨g, 0, none⟩) m cap] w fun e w' => ∃ x : Int, e = .returned (.int .i64 x) ∧ x ∈ zs ∧ Moved w w' B b k 2 := by
  have N := pick_any w B b k h hk (m : Int) (by omega) (by omega)
  clear h
  go_enter Tryz.func41, Tryz.ntmps41
  go_wp2_with fail
  refine N.mono ?_
  rintro e w' ⟨x, rfl, x0, x1, hM⟩
  obtain ⟨j, rfl⟩ := Int.eq_ofNat_of_zero_le x0
  have hj : j < m := by omega
  have hj2 : (j : Int) < (m : Int) := by omega
  obtain ⟨y, hy⟩ : ∃ y, zs[j]? = some y := ⟨_, List.getElem?_eq_getElem (by omega)⟩
  have c := hc j hj
  rw [hy] at c
  have c1 : w'.cell? ⟨g, j, none⟩ = some (.int .i64 y) := by
    rw [World.cell?_of_block (w := w) (hM.2.block g hg (fun e => hgb (Option.some.inj e)))]
    exact c
  have HY : Hid _ := hy
  clear N hc c hy
  go_wp2
  go_ret
  exact ⟨y, rfl, List.mem_of_getElem? HY.out, hM⟩
end Go.Proofs.YtanfebccenfffaaGreatDoor

namespace Go.Proofs.YtanfebccenfffaaGreatDoor
open Go.RowKit

theorem Moved.up {w w' : World} {B b k m m' : Nat} (h : Moved w w' B b k m) (hm : m ≤ m') : Moved w w' B b k m' := by
  obtain ⟨⟨k', h1, h2⟩, h3⟩ := h
  exact ⟨⟨k', by omega, h2⟩, h3⟩

theorem Moved.then {w w1 w2 : World} {B b k m : Nat} (h : Moved w w1 B b k m) {m2 : Nat} (h2 : ∀ k', k' ≤ k + m → Cur w1 B b k' → Moved w1 w2 B b k' m2) : Moved w w2 B b k (m + m2) := by
  obtain ⟨⟨k', a1, a2⟩, a3⟩ := h
  obtain ⟨⟨k2, b1, b2⟩, b3⟩ := h2 k' a1 a2
  exact ⟨⟨k2, by omega, b2⟩, grown_and a3 b3⟩

theorem below_grows {w w' : World} (h : Below w.heap.size w w') (row : Option Nat) : w.grownBy w' row := ⟨h.os, h.tape, h.output, h.size, fun k hk _ => h.block k hk⟩

theorem ints_ne {w : World} {B b : Nat} {v : Value} {zs : List Int} (h : Ints w B v zs) (hb : b < B) : v.ownBlock = none ∨ v.ownBlock ≠ some b := by
  cases c : v.ownBlock with
  | none => exact .inl rfl
  | some g =>
    refine .inr fun e => ?_
    have := (World.ownsRow.lt h g c).1
    have := Option.some.inj e
    omega

theorem among_lit (w : World) (B b k : Nat) (h : Cur w B b k) (hk : k ≤ 1000000000) (zs : List Int) (m : Nat) (hz : zs.length = m) (hm0 : 0 < m) (hm : m ≤ 1048576) (cs : Array Value) (hcs : cs = (zs.map (Value.int .i64)).toArray) :
    Calls Tryz.prog 41 #[.pointer (some ⟨b, 0, none⟩), .slice (some ⟨w.heap.size, 0, none⟩) m m] (w.alloc (.cells cs 3)) fun e w' => ∃ x : Int, e = .returned (.int .i64 x) ∧ x ∈ zs ∧ Moved w w' B b k 2 := by
  have hl := h.lt
  have ga := World.grownBy_alloc w (.cells cs 3) none
  have hC := h.kept ga (fun k hk => by cases hk)
  refine (among_any (w.alloc (.cells cs 3)) B b k hC hk w.heap.size m m zs hz hm0 hm (by simp) (by omega) (fun j hj => ?_)).mono ?_
  · rw [World.cell?_alloc_new, hcs]
    simp [hz, hj]
  · rintro e w' ⟨x, rfl, hx, hM⟩
    exact ⟨x, rfl, hx, hM.1, grown_and (World.grownBy_alloc w _ _) hM.2⟩

set_option maxRecDepth 100000 in
set_option maxHeartbeats 2000000 in
theorem rune_any (w : World) (B b k : Nat) (h : Cur w B b k) (hk : k ≤ 900000000) :
    Calls Tryz.prog 68 #[.pointer (some ⟨b, 0, none⟩)] w fun e w' => ∃ x : Int, e = .returned (.int .i64 x) ∧ goodB x = true ∧ Moved w w' B b k 6 := by
  have N := pick_any w B b k h (by omega) 8 (by omega) (by omega)
  clear h
  go_enter Tryz.func68, Tryz.ntmps68
  go_wp2_with fail
  refine N.mono ?_
  rintro e w1 ⟨x, rfl, x0, x1, ⟨⟨k1, hk1, hC⟩, hg⟩⟩
  have hx : x = 0 ∨ x = 1 ∨ x = 2 ∨ x = 3 ∨ 4 ≤ x := by omega
  clear N
  rcases hx with rfl | rfl | rfl | rfl | hx
  · go_wp2_with fail
    refine (among_lit w1 B b k1 hC (by omega) [32, 45, 49, 57, 46, 95] 6 rfl (by omega) (by omega) _ rfl).mono ?_
    rintro e w2 ⟨y, rfl, hy, ⟨⟨k2, hk2, hC2⟩, hg2⟩⟩
    go_wp2
    go_ret
    exact ⟨y, rfl, (by decide : ∀ z ∈ [32, 45, 49, 57, 46, 95], goodB z = true) y hy, ⟨k2, by omega, hC2⟩, grown_and hg hg2⟩
  · go_wp2_with fail
    refine (among_lit w1 B b k1 hC (by omega) [233, 201, 229, 197, 231, 241, 252, 8491, 7845, 7785, 226] 11 rfl (by omega) (by omega) _ rfl).mono ?_
    rintro e w2 ⟨y, rfl, hy, ⟨⟨k2, hk2, hC2⟩, hg2⟩⟩
    go_wp2
    go_ret
    exact ⟨y, rfl, (by decide : ∀ z ∈ [233, 201, 229, 197, 231, 241, 252, 8491, 7845, 7785, 226], goodB z = true) y hy, ⟨k2, by omega, hC2⟩, grown_and hg hg2⟩
  · go_wp2_with fail
    refine (among_lit w1 B b k1 hC (by omega) [768, 769, 776, 778, 803, 807, 770, 775] 8 rfl (by omega) (by omega) _ rfl).mono ?_
    rintro e w2 ⟨y, rfl, hy, ⟨⟨k2, hk2, hC2⟩, hg2⟩⟩
    go_wp2
    go_ret
    exact ⟨y, rfl, (by decide : ∀ z ∈ [768, 769, 776, 778, 803, 807, 770, 775], goodB z = true) y hy, ⟨k2, by omega, hC2⟩, grown_and hg hg2⟩
  · go_wp2_with fail
    refine (oneIn_any w1 B b k1 hC (by omega) 3 (by omega) (by omega)).mono ?_
    rintro e w2 ⟨bo, rfl, ⟨⟨k2, hk2, hC2⟩, hg2⟩⟩
    cases bo
    · go_wp2_with fail
      refine (among_lit w2 B b k2 hC2 (by omega) [97, 98, 99, 104, 108, 122, 65, 67, 101, 111, 110, 97] 12 rfl (by omega) (by omega) _ rfl).mono ?_
      rintro e w3 ⟨y, rfl, hy, ⟨⟨k3, hk3, hC3⟩, hg3⟩⟩
      go_wp2
      go_ret
      exact ⟨y, rfl, (by decide : ∀ z ∈ [97, 98, 99, 104, 108, 122, 65, 67, 101, 111, 110, 97], goodB z = true) y hy, ⟨k3, by omega, hC3⟩, grown_and hg (grown_and hg2 hg3)⟩
    · go_wp2_with fail
      refine (among_lit w2 B b k2 hC2 (by omega) [44032, 44033, 55203, 4352, 4449, 4520, 19968, 1114111, 128512, 3, 127, 65533] 12 rfl (by omega) (by omega) _ rfl).mono ?_
      rintro e w3 ⟨y, rfl, hy, ⟨⟨k3, hk3, hC3⟩, hg3⟩⟩
      go_wp2
      go_ret
      exact ⟨y, rfl, (by decide : ∀ z ∈ [44032, 44033, 55203, 4352, 4449, 4520, 19968, 1114111, 128512, 3, 127, 65533], goodB z = true) y hy, ⟨k3, by omega, hC3⟩, grown_and hg (grown_and hg2 hg3)⟩
  · go_wp2_with fail
    refine (among_lit w1 B b k1 hC (by omega) [97, 98, 99, 104, 108, 122, 65, 67, 101, 111, 110, 97] 12 rfl (by omega) (by omega) _ rfl).mono ?_
    rintro e w3 ⟨y, rfl, hy, ⟨⟨k3, hk3, hC3⟩, hg3⟩⟩
    go_wp2
    go_ret
    exact ⟨y, rfl, (by decide : ∀ z ∈ [97, 98, 99, 104, 108, 122, 65, 67, 101, 111, 110, 97], goodB z = true) y hy, ⟨k3, by omega, hC3⟩, grown_and hg hg3⟩

def RunesRel (w : World) (B b K m : Nat) (v n : Value) (wr : World) : Prop :=
  ∃ (j k : Nat) (zs : List Int), n = .int .i64 j ∧ Ints wr w.heap.size v zs ∧ zs.length + j ≤ m ∧ (∀ x ∈ zs, goodB x = true) ∧ k + 6 * j ≤ K ∧ Cur wr B b k ∧ w.grownBy wr (some b)

set_option maxRecDepth 100000 in
set_option maxHeartbeats 2000000 in
theorem runes_any (w : World) (B b k m : Nat) (h : Cur w B b k) (hk : k ≤ 800000000) (hm : m ≤ 1000) :
    Calls Tryz.prog 42 #[.pointer (some ⟨b, 0, none⟩), .int .i64 (m : Int)] w fun e w' => ∃ v zs, e = .returned v ∧ Ints w' w.heap.size v zs ∧ zs.length ≤ m ∧ (∀ x ∈ zs, goodB x = true) ∧ Moved w w' B b k (2 + 6 * m) := by
  obtain ⟨i0, hi, hz0, hz1, hz2⟩ := info_parts info_int
  have hB := h.lt
  have N := pick_any w B b k h (by omega) ((m : Int) + 1) (by omega) (by omega)
  clear h
  go_enter Tryz.func42, Tryz.ntmps42
  go_wp2_with fail
  refine N.mono ?_
  rintro e w1 ⟨x, rfl, x0, x1, ⟨⟨k1, hk1, hC⟩, hg⟩⟩
  obtain ⟨j0, rfl⟩ := Int.eq_ofNat_of_zero_le x0
  have hj0 : j0 ≤ m := by omega
  clear N x0 x1
  go_wp2_with fail
  go_loopw [5, 6] (fun v n wr => RunesRel w B b (k + 2 + 6 * m) m v n wr) (fun _ n _ => (intOf n).toNat)
  case atStart => exact ⟨j0, k1, [], rfl, World.ownsRow_nil _ _ _ _, by simp; omega, by simp, by omega, hC, hg⟩
  case round =>
    clear hC hg hk1
    obtain ⟨j, k2, zs, rfl, hI, hl, hgd, hk2, hC2, hg2⟩ := hrel
    have HG : Hid _ := hgd
    clear hgd
    by_cases hj : 0 < j
    · have R := rune_any wr B b k2 hC2 (by omega)
      have hsz := hg2.size
      go_wp2_with fail
      refine R.mono ?_
      rintro e w3 ⟨y, rfl, hy, ⟨⟨k3, hk3, hC3⟩, hg3⟩⟩
      have hI3 := World.ownsRow.kept hI hg3 (ints_ne hI (by omega))
      have hg33 := grown_and hg2 hg3
      have HY : Hid _ := hy
      have hsz3 := hg33.size
      clear R hI hg3 hy hg2 hC2
      go_wp2_with (at_builtin; refine wpList_append_own _ rfl _ _ 32 rfl w.heap.size 3 i0 (.int .i64 0) 1 8 Tryz.underlying32 hi hz0 hz1 hz2 rfl (by decide) _ _ _ rfl (hI3.alloc _) ⟨_, 0, none⟩ 1 1 [.int .i64 y] rfl rfl (cell_one_new _ _ _) (fun x hx => by simp at hx; subst hx; rfl) (by unfold maxLen; omega) (by omega) (by simp; omega) ?_; intro v' w4 hown' hgrow4 _)
      have hb4 : ∀ j, _ = some j → B ≤ j := fun j hj => Nat.le_trans hB.2 (hI3.lt j hj).1
      have hC4 := (hC3.kept (World.grownBy_alloc _ _ none) (fun k hk => by cases hk)).kept hgrow4 hb4
      have hg4 := grown_own (grown_own hg33 (World.grownBy_alloc _ _ none) (fun k hk => by cases hk)) hgrow4 (fun j hj => (hI3.lt j hj).1)
      refine ⟨⟨j - 1, k3, zs ++ [y], by go_num, Ints.snoc hown', by simp; omega, ?_, by omega, hC4, hg4⟩, by simp [intOf]; omega⟩
      intro z hz
      rcases List.mem_append.1 hz with h | h
      · exact HG.out z h
      · rw [List.mem_singleton.1 h]; exact HY.out
    · have hj0 : j = 0 := by omega
      subst hj0
      go_wp2
      go_ret
      exact ⟨_, zs, rfl, hI, by omega, HG.out, ⟨k2, by omega, hC2⟩, hg2⟩
end Go.Proofs.YtanfebccenfffaaGreatDoor

namespace Go.Proofs.YtanfebccenfffaaGreatDoor
open Go.RowKit

set_option maxRecDepth 100000 in
set_option maxHeartbeats 1000000 in
theorem of_any (w : World) (B b k : Nat) (h : Cur w B b k) (hk : k ≤ 1000000000) (ss : List ByteArray) (m : Nat) (hz : ss.length = m) (hm0 : 0 < m) (hm : m ≤ 1048576) (cs : Array Value) (hcs : cs = (ss.map Value.string).toArray) :
    Calls Tryz.prog 67 #[.pointer (some ⟨b, 0, none⟩), .slice (some ⟨w.heap.size, 0, none⟩) m m] (w.alloc (.cells cs 9)) fun e w' => ∃ s : ByteArray, e = .returned (.string s) ∧ s ∈ ss ∧ Moved w w' B b k 2 := by
  have hl := h.lt
  have ga := World.grownBy_alloc w (.cells cs 9) none
  have hC := h.kept ga (fun k hk => by cases hk)
  have N := pick_any _ B b k hC hk (m : Int) (by omega) (by omega)
  have hcell : ∀ j, j < m → (w.alloc (.cells cs 9)).cell? ⟨w.heap.size, j, none⟩ = some (.string (ss[j]?.getD ByteArray.empty)) := fun j hj => by
    rw [World.cell?_alloc_new, hcs]; simp [hz, hj]
  clear hC ga h
  obtain ⟨W, hW⟩ : ∃ W, W = w.alloc (.cells cs 9) := ⟨_, rfl⟩
  have hgl : w.heap.size < W.heap.size := by rw [hW]; simp
  have hgw : w.grownBy W (some b) := by rw [hW]; exact World.grownBy_alloc w _ _
  rw [← hW] at N hcell ⊢
  clear hW hcs
  generalize w.heap.size = g at *
  go_enter Tryz.func67, Tryz.ntmps67
  go_wp2_with fail
  refine N.mono ?_
  rintro e w' ⟨x, rfl, x0, x1, hM⟩
  obtain ⟨j, rfl⟩ := Int.eq_ofNat_of_zero_le x0
  have hj : j < m := by omega
  have hj2 : (j : Int) < (m : Int) := by omega
  obtain ⟨y, hy⟩ : ∃ y, ss[j]? = some y := ⟨_, List.getElem?_eq_getElem (by omega)⟩
  have c := hcell j hj
  rw [hy] at c
  have c1 : w'.cell? ⟨g, j, none⟩ = some (.string y) := by
    rw [World.cell?_of_block (w := W) (hM.2.block g hgl (fun e => by have := Option.some.inj e; omega))]
    exact c
  have HY : Hid _ := hy
  clear N hcell c hy
  go_wp2
  go_ret
  exact ⟨y, rfl, List.mem_of_getElem? HY.out, hM.1, grown_and hgw hM.2⟩
end Go.Proofs.YtanfebccenfffaaGreatDoor

namespace Go.Proofs.YtanfebccenfffaaGreatDoor
open Go.RowKit

theorem sz (u : ByteArray) (i : Nat) (x : UInt8) (h : i < u.size) : (u.extract 0 i ++ ⟨#[x]⟩ ++ u.extract i u.size).size = u.size + 1 ∧ (u.extract 0 i ++ ⟨#[x]⟩ ++ u.extract (i + 1) u.size).size = u.size ∧ (u.extract 0 i ++ u.extract (i + 1) u.size).size = u.size - 1 := by
  have e1 : (⟨#[x]⟩ : ByteArray).size = 1 := rfl
  simp only [ByteArray.size_append, ByteArray.size_extract, e1]
  omega

def SpRel (w : World) (B b K M : Nat) (tv n : Value) (wr : World) : Prop :=
  ∃ (j k : Nat) (t : ByteArray), n = .int .i64 j ∧ tv = .string t ∧ t.size + j ≤ M ∧ k + 6 * j ≤ K ∧ Cur wr B b k ∧ w.grownBy wr (some b)

set_option maxRecDepth 100000 in
set_option maxHeartbeats 4000000 in
theorem spoilt_any (w : World) (B b k : Nat) (h : Cur w B b k) (hk : k ≤ 800000000) (t ws : ByteArray) (ht : t.size ≤ 1000000) (hw0 : 0 < ws.size) (hw1 : ws.size ≤ 1000) :
    Calls Tryz.prog 57 #[.pointer (some ⟨b, 0, none⟩), .string t, .string ws] w fun e w' => ∃ t' : ByteArray, e = .returned (.string t') ∧ t'.size ≤ t.size + 2 ∧ Moved w w' B b k 14 := by
  have hB := h.lt
  have N := pick_any w B b k h (by omega) 3 (by omega) (by omega)
  clear h
  go_enter Tryz.func57, Tryz.ntmps57
  go_wp2_with fail
  refine N.mono ?_
  rintro e w1 ⟨x, rfl, x0, x1, ⟨⟨k1, hk1, hC⟩, hg⟩⟩
  obtain ⟨j0, rfl⟩ := Int.eq_ofNat_of_zero_le x0
  have hj0 : j0 ≤ 2 := by omega
  clear N x0 x1
  go_wp2_with fail
  go_loopw [1, 7] (fun tv n wr => SpRel w B b (k + 14) (t.size + 2) tv n wr) (fun _ n _ => (intOf n).toNat)
  case atStart => exact ⟨j0, k1, t, rfl, rfl, by omega, by omega, hC, hg⟩
  case round =>
    clear hC hg hk1
    obtain ⟨j, k2, u, rfl, rfl, hl, hk2, hC2, hg2⟩ := hrel
    by_cases hj : 0 < j
    · by_cases hu : 0 < u.size
      · have P := pick_any wr B b k2 hC2 (by omega) (u.size : Int) (by omega) (by omega)
        go_wp2_with fail
        refine P.mono ?_
        rintro e w3 ⟨i, rfl, i0, i1, ⟨⟨k3, hk3, hC3⟩, hg3⟩⟩
        obtain ⟨i, rfl⟩ := Int.eq_ofNat_of_zero_le i0
        have hi : i < u.size := by omega
        have P3 := pick_any w3 B b k3 hC3 (by omega) (ws.size : Int) (by omega) (by omega)
        clear P i0 i1 hC2
        go_wp2_with fail
        refine P3.mono ?_
        rintro e w4 ⟨c, rfl, c0, c1, ⟨⟨k4, hk4, hC4⟩, hg4⟩⟩
        obtain ⟨c, rfl⟩ := Int.eq_ofNat_of_zero_le c0
        have hc : c < ws.size := by omega
        have hbc : (ws[c]'hc).toNat < 256 := (ws[c]'hc).toNat_lt
        have V := fun a : Int => conv_new w4 [a] 1 rfl #[.int .u8 a] rfl
        have hC5 := hC4.kept (World.grownBy_alloc w4 (.cells #[.int .u8 ((ws[c]'hc).toNat : Int)] 5) none) (fun k hk => by cases hk)
        have P5 := pick_any _ B b k4 hC5 (by omega) 3 (by omega) (by omega)
        clear P3 c0 c1 hC3 hC4 hC5
        go_wp2_with fail
        refine P5.mono ?_
        rintro e w5 ⟨y, rfl, y0, y1, ⟨⟨k6, hk6, hC6⟩, hg6⟩⟩
        have hgA := grown_and hg2 (grown_and hg3 (grown_and hg4 (grown_and (World.grownBy_alloc w4 _ (some b)) hg6)))
        clear P5 V hg2 hg3 hg4 hg6
        have hy : y = 0 ∨ y = 1 ∨ 2 ≤ y := by omega
        rcases hy with rfl | rfl | hy
        · go_wp2_with fail
          go_quiet (fail)
          go_wp2
          exact ⟨⟨j - 1, k6, _, by go_num, rfl, by have := sz u i (ws[c]'hc) hi; omega, by omega, hC6.drewN _, grown_and hgA (drewN_grown _ _ _)⟩, by simp [intOf]; omega⟩
        · go_wp2_with fail
          go_quiet (fail)
          go_wp2
          exact ⟨⟨j - 1, k6, _, by go_num, rfl, by have := sz u i (ws[c]'hc) hi; omega, by omega, hC6.drewN _, grown_and hgA (drewN_grown _ _ _)⟩, by simp [intOf]; omega⟩
        · go_wp2_with fail
          go_quiet (fail)
          go_wp2
          exact ⟨⟨j - 1, k6, _, by go_num, rfl, by have := sz u i 0 hi; omega, by omega, hC6.drewN _, grown_and hgA (drewN_grown _ _ _)⟩, by simp [intOf]; omega⟩
      · go_wp2
        go_ret
        exact ⟨u, rfl, by omega, ⟨k2, by omega, hC2⟩, hg2⟩
    · go_wp2
      go_ret
      exact ⟨u, rfl, by omega, ⟨k2, by omega, hC2⟩, hg2⟩

set_option maxRecDepth 100000 in
set_option maxHeartbeats 2000000 in
theorem text_any (w : World) (B b k : Nat) (h : Cur w B b k) (hk : k ≤ 700000000) :
    Calls Tryz.prog 32 #[.pointer (some ⟨b, 0, none⟩)] w fun e w' => ∃ t : ByteArray, e = .returned (.string t) ∧ t.size ≤ 30 ∧ Moved w w' B b k 60 := by
  have R := runes_any w B b k 7 h (by omega) (by omega)
  clear h
  go_enter Tryz.func32, Tryz.ntmps32
  go_wp2_with fail
  refine R.mono ?_
  rintro e w1 ⟨v1, zs, rfl, hI, hl, hgd, ⟨⟨k1, hk1, hC1⟩, hg1⟩⟩
  have E := l1Encode_any (by omega) hI hgd
  clear R
  go_wp2_with fail
  refine E.mono ?_
  rintro e w2 ⟨rfl, hb2⟩
  have hC2 := hC1.kept (below_grows hb2 none) (fun k hk => by cases hk)
  have hg2 := grown_and hg1 (below_grows hb2 (some b))
  have hsz : (⟨(encAll zs).toArray⟩ : ByteArray).size ≤ 28 := by
    have := encAll_le zs 7
    rw [List.take_of_length_le (by omega)] at this
    show (encAll zs).toArray.size ≤ 28
    simpa using this
  generalize (⟨(encAll zs).toArray⟩ : ByteArray) = u at *
  have O := oneIn_any w2 B b k1 hC2 (by omega) 6 (by omega) (by omega)
  clear E hg1 hC1 hb2 hC2 hI hgd
  go_wp2_with fail
  refine O.mono ?_
  rintro e w3 ⟨bo, rfl, ⟨⟨k3, hk3, hC3⟩, hg3⟩⟩
  have hg33 := grown_and hg2 hg3
  clear O hg2 hg3
  cases bo
  · go_wp2
    go_ret
    exact ⟨u, rfl, by omega, ⟨k3, by omega, hC3⟩, hg33⟩
  · go_wp2_with fail
    refine (spoilt_any w3 B b k3 hC3 (by omega) u _ (by omega) (by decide) (by decide)).mono ?_
    rintro e w4 ⟨t, rfl, ht, ⟨⟨k4, hk4, hC4⟩, hg4⟩⟩
    go_wp2
    go_ret
    exact ⟨t, rfl, by omega, ⟨k4, by omega, hC4⟩, grown_and hg33 hg4⟩
end Go.Proofs.YtanfebccenfffaaGreatDoor

namespace Go.Proofs.YtanfebccenfffaaGreatDoor
open Go.RowKit

def l6s : List ByteArray := [⟨#[]⟩, ⟨#[]⟩, ⟨#[91, 115, 104, 105, 102, 116, 101, 100, 93, 32]⟩, ⟨#[91, 108, 101, 118, 101, 108, 115, 32, 50, 93, 32]⟩, ⟨#[91, 108, 101, 118, 101, 108, 115, 32, 52, 93, 32, 91, 115, 104, 105, 102, 116, 101, 100, 93, 32]⟩, ⟨#[91, 108, 101, 118, 101, 108, 115, 32, 49, 93, 32]⟩]
def l7s : List ByteArray := [⟨#[99]⟩, ⟨#[108]⟩, ⟨#[122]⟩, ⟨#[97]⟩, ⟨#[110]⟩, ⟨#[65]⟩, ⟨#[111]⟩]
def l4s : List ByteArray := [⟨#[60]⟩, ⟨#[60, 60]⟩, ⟨#[60, 60, 60]⟩, ⟨#[60]⟩]
def l11s : List ByteArray := [⟨#[99, 104]⟩, ⟨#[108, 108]⟩, ⟨#[195, 165]⟩, ⟨#[195, 169]⟩, ⟨#[67, 72]⟩, ⟨#[113]⟩, ⟨#[97, 101]⟩, ⟨#[195, 177]⟩, ⟨#[97, 98, 99, 100]⟩, ⟨#[122, 204, 129]⟩, ⟨#[66]⟩]
theorem l6_bd : ∀ s ∈ l6s, s.size ≤ 21 := by decide
theorem l7_bd : ∀ s ∈ l7s, s.size ≤ 1 := by decide
theorem l4_bd : ∀ s ∈ l4s, s.size ≤ 3 := by decide
theorem l11_bd : ∀ s ∈ l11s, s.size ≤ 4 := by decide

def RtRel (w : World) (B b K M : Nat) (sv n : Value) (wr : World) : Prop :=
  ∃ (j k : Nat) (s : ByteArray), n = .int .i64 j ∧ j ≤ 3 ∧ sv = .string s ∧ s.size + 31 * j ≤ M ∧ k + 20 * j ≤ K ∧ Cur wr B b k ∧ w.grownBy wr (some b)
def RiRel (w : World) (B b K M : Nat) (sv n : Value) (wr : World) : Prop :=
  ∃ (j k : Nat) (s : ByteArray), n = .int .i64 j ∧ j ≤ 3 ∧ sv = .string s ∧ s.size + 9 * j ≤ M ∧ k + 4 * j ≤ K ∧ Cur wr B b k ∧ w.grownBy wr (some b)

set_option maxRecDepth 100000 in
set_option maxHeartbeats 4000000 in
theorem ruleText_any (w : World) (B b k : Nat) (h : Cur w B b k) (hk : k ≤ 700000000) :
    Calls Tryz.prog 39 #[.pointer (some ⟨b, 0, none⟩)] w fun e w' => ∃ s : ByteArray, e = .returned (.string s) ∧ s.size ≤ 300 ∧ Moved w w' B b k 64 := by
  have O6 := of_any w B b k h (by omega) l6s 6 rfl (by omega) (by omega) _ rfl
  clear h
  go_enter Tryz.func39, Tryz.ntmps39
  go_wp2_with fail
  refine O6.mono ?_
  rintro e w1 ⟨s1, rfl, m1, ⟨⟨k1, hk1, hC1⟩, hg1⟩⟩
  have hs1 := l6_bd s1 m1
  have N := pick_any w1 B b k1 hC1 (by omega) 4 (by omega) (by omega)
  clear O6 m1
  go_wp2_with fail
  refine N.mono ?_
  rintro e w2 ⟨x, rfl, x0, x1, ⟨⟨k2, hk2, hC2⟩, hg2⟩⟩
  obtain ⟨j0, rfl⟩ := Int.eq_ofNat_of_zero_le x0
  have hj0 : j0 ≤ 3 := by omega
  have hg22 := grown_and hg1 hg2
  clear N x0 x1 hC1 hg1 hg2
  go_wp2_with fail
  go_loopw [3, 4] (fun sv n wr => RtRel w B b (k + 64) 114 sv n wr) (fun _ n _ => (intOf n).toNat)
  case atStart => exact ⟨j0, k2, s1, rfl, hj0, rfl, by omega, by omega, hC2, hg22⟩
  case round =>
    clear hC2 hg22 hs1 hk2
    obtain ⟨j, k3, s3, rfl, hj3, rfl, hl3, hk3, hC3, hg3⟩ := hrel
    by_cases hj : 0 < j
    · have O7 := of_any wr B b k3 hC3 (by omega) l7s 7 rfl (by omega) (by omega) _ rfl
      go_wp2_with fail
      refine O7.mono ?_
      rintro e w4 ⟨s4, rfl, m4, ⟨⟨k4, hk4, hC4⟩, hg4⟩⟩
      have hs4 := l7_bd s4 m4
      have hz4 : ((⟨#[38, 32]⟩ : ByteArray) ++ s4).size ≤ 3 := by rw [ByteArray.size_append]; show 2 + s4.size ≤ 3; omega
      have hz5 : ((⟨#[38, 32]⟩ : ByteArray) ++ s4 ++ ⟨#[32]⟩).size ≤ 4 := by rw [ByteArray.size_append]; show _ + 1 ≤ 4; omega
      have N4 := pick_any w4 B b k4 hC4 (by omega) 3 (by omega) (by omega)
      have hg44 := grown_and hg3 hg4
      clear O7 m4 hC3 hg3 hg4
      have hz6 : (s3 ++ ((⟨#[38, 32]⟩ : ByteArray) ++ s4 ++ ⟨#[32]⟩)).size ≤ s3.size + 4 := by rw [ByteArray.size_append]; omega
      clear hz4
      go_wp2_with fail
      refine N4.mono ?_
      rintro e w5 ⟨y, rfl, y0, y1, ⟨⟨k5, hk5, hC5⟩, hg5⟩⟩
      obtain ⟨i0, rfl⟩ := Int.eq_ofNat_of_zero_le y0
      have hi0 : i0 ≤ 2 := by omega
      have hg55 := grown_and hg44 hg5
      have HST : Hid (RiRel w B b (k + 64 - 20 * (j - 1)) (114 - 31 * (j - 1)) (.string (s3 ++ ((⟨#[38, 32]⟩ : ByteArray) ++ s4 ++ ⟨#[32]⟩))) (.int .i64 (1 + (i0 : Int))) w5) := ⟨i0 + 1, k5, _, by go_num, by omega, rfl, by omega, by omega, hC5, hg55⟩
      clear N4 y0 y1 hC4 hg44 hg5 hC5 hg55
      go_wp2_with fail
      go_loopw [3, 5] (fun sv n wr => RiRel w B b (k + 64 - 20 * (j - 1)) (114 - 31 * (j - 1)) sv n wr) (fun _ n _ => (intOf n).toNat)
      case atStart => exact HST.out
      case round =>
        clear HST hz5 hz6 hs4
        obtain ⟨i, k6, s6, rfl, hi3, rfl, hl6, hk6, hC6, hg6⟩ := hrel
        by_cases hi : 0 < i
        · have O4 := of_any wr B b k6 hC6 (by omega) l4s 4 rfl (by omega) (by omega) _ rfl
          go_wp2_with fail
          refine O4.mono ?_
          rintro e w7 ⟨s7, rfl, m7, ⟨⟨k7, hk7, hC7⟩, hg7⟩⟩
          have hs7 := l4_bd s7 m7
          have hg77 := grown_and hg6 hg7
          have O11 := of_any w7 B b k7 hC7 (by omega) l11s 11 rfl (by omega) (by omega) _ rfl
          have hz7 : (s7 ++ (⟨#[32]⟩ : ByteArray)).size ≤ 4 := by rw [ByteArray.size_append]; show s7.size + 1 ≤ 4; omega
          clear O4 m7 hC6 hg6 hg7 hC7
          go_wp2_with fail
          refine O11.mono ?_
          rintro e w8 ⟨s8, rfl, m8, ⟨⟨k8, hk8, hC8⟩, hg8⟩⟩
          have hs8 := l11_bd s8 m8
          have hg88 := grown_and hg77 hg8
          have hz8 : (s7 ++ (⟨#[32]⟩ : ByteArray) ++ s8).size ≤ 8 := by rw [ByteArray.size_append]; omega
          have hz9 : (s7 ++ (⟨#[32]⟩ : ByteArray) ++ s8 ++ ⟨#[32]⟩).size ≤ 9 := by rw [ByteArray.size_append]; show _ + 1 ≤ 9; omega
          have hz10 : (s6 ++ (s7 ++ (⟨#[32]⟩ : ByteArray) ++ s8 ++ ⟨#[32]⟩)).size ≤ s6.size + 9 := by rw [ByteArray.size_append]; omega
          clear O11 m8 hg77 hg8
          go_wp2
          exact ⟨⟨i - 1, k8, _, by go_num, by omega, rfl, by omega, by omega, hC8, hg88⟩, by simp [intOf]; omega⟩
        · have hi1 : i = 0 := by omega
          subst hi1
          go_wp2
          exact ⟨⟨j - 1, k6, s6, by go_num, by omega, rfl, by omega, by omega, hC6, hg6⟩, by simp [intOf]; omega⟩
    · have hj1 : j = 0 := by omega
      subst hj1
      go_wp2
      go_ret
      exact ⟨s3, rfl, by omega, ⟨k3, by omega, hC3⟩, hg3⟩

def WdRel (w : World) (B b k : Nat) (sv i : Value) (wr : World) : Prop :=
  ∃ (j k' : Nat) (s : ByteArray), i = .int .i64 j ∧ j ≤ 109 ∧ sv = .string s ∧ s.size = 2 * j ∧ k' ≤ k + 2 + 2 * j ∧ Cur wr B b k' ∧ w.grownBy wr (some b)

set_option maxRecDepth 100000 in
set_option maxHeartbeats 4000000 in
theorem word_any (w : World) (B b k : Nat) (h : Cur w B b k) (hk : k ≤ 600000000) :
    Calls Tryz.prog 17 #[.pointer (some ⟨b, 0, none⟩)] w fun e w' => ∃ s : ByteArray, e = .returned (.string s) ∧ s.size ≤ 300 ∧ Moved w w' B b k 300 := by
  have O := oneIn_any w B b k h (by omega) 30 (by omega) (by omega)
  clear h
  go_enter Tryz.func17, Tryz.ntmps17
  go_wp2_with fail
  refine O.mono ?_
  rintro e w1 ⟨bo, rfl, ⟨⟨k1, hk1, hC1⟩, hg1⟩⟩
  clear O
  cases bo
  · have TX := text_any w1 B b k1 hC1 (by omega)
    clear hC1
    go_wp2_with fail
    refine TX.mono ?_
    rintro e w2 ⟨t, rfl, ht, ⟨⟨k2, hk2, hC2⟩, hg2⟩⟩
    clear TX
    go_wp2
    go_ret
    exact ⟨t, rfl, by omega, ⟨k2, by omega, hC2⟩, grown_and hg1 hg2⟩
  · go_wp2_with fail
    go_loopw [3, 4] (fun sv i wr => WdRel w B b k sv i wr) (fun _ i _ => 200 - (intOf i).toNat)
    case atStart => exact ⟨0, k1, ⟨#[]⟩, rfl, by omega, rfl, rfl, by omega, hC1, hg1⟩
    case round =>
      clear hC1 hg1 hk1
      obtain ⟨j, k2, s, rfl, hj, rfl, hs, hk2, hC2, hg2⟩ := hrel
      have P := pick_any wr B b k2 hC2 (by omega) 20 (by omega) (by omega)
      have HS : Hid (s.size = 2 * j) := hs
      have hs2 : s.size ≤ 218 := by omega
      have hz : (s ++ (⟨#[195, 169]⟩ : ByteArray)).size = 2 * (j + 1) := by rw [ByteArray.size_append]; show s.size + 2 = _; omega
      have HZ : Hid ((s ++ (⟨#[195, 169]⟩ : ByteArray)).size = 2 * (j + 1)) := hz
      clear hs hz hC2
      go_wp2_with fail
      refine P.mono ?_
      rintro e w3 ⟨x, rfl, x0, x1, ⟨⟨k3, hk3, hC3⟩, hg3⟩⟩
      have hg33 := grown_and hg2 hg3
      have hx19 : x ≤ 19 := by omega
      clear P hg2 hg3 x1
      by_cases hlt : (j : Int) < 90 + x
      · go_wp2
        exact ⟨⟨j + 1, k3, _, by go_num, by omega, rfl, HZ.out, by omega, hC3, hg33⟩, by simp [intOf]; omega⟩
      · go_wp2
        go_ret
        exact ⟨s, rfl, by omega, ⟨k3, by omega, hC3⟩, hg33⟩
end Go.Proofs.YtanfebccenfffaaGreatDoor

namespace Go.Proofs.YtanfebccenfffaaGreatDoor
open Go.RowKit

set_option maxRecDepth 100000 in
set_option maxHeartbeats 4000000 in
theorem elem3_any {w : World} {B B' : Nat} {v : Value} {es : List Ent} {sh : Bool} {lv : Int} {vl : Value} {l : List Int} (hE : Ents w B v es) (hL : Ints w B' vl l) (hn : es.length ≤ 1048576) (hl : l.length ≤ 1048576) (hr : ∀ e ∈ es, e.runes.length ≤ 1048576) (hg : ∀ x ∈ l, 0 ≤ x ∧ x ≤ 1114111) :
    Calls Tryz.prog 65 #[.agg #[v, .bool sh, .int .i64 lv], vl] w fun e w' => e = .returned (elRes (elemE es l)) ∧ Below w.heap.size w w' := by
  have hba := ((Below.refl w.heap.size w).alloc (Nat.le_refl _) (.cells #[v, .bool sh, .int .i64 lv] 25)).alloc (by simp) (.cells #[.int .i64 0, .int .i64 0, .int .i64 0, .bool false] 79)
  have AT := at3_any (sh := sh) (lv := lv) (hE.below hba) (hL.below hba) hn hl hr
  have HX0 : Hid (Box4 _ _ _ _ _ _) := box4_new w v sh lv
  have HB : Hid (Below _ _ _) := hba
  have HE0 : Hid (Ents _ _ _ _) := hE.below hba
  have HL0 : Hid (Ints _ _ _ _) := hL.below hba
  clear hba
  rcases atE_cases es l with ha | ⟨i, e, he, ha⟩
  · rw [ha] at AT
    by_cases h1 : l.length = 1
    · obtain ⟨r, rfl⟩ : ∃ r, l = [r] := List.length_eq_one_iff.1 h1
      obtain ⟨g, cap, rfl⟩ := ints_some hL (by simp)
      have HF : Hid (elemE es [r] = one3 (base r)) := elemE_base ha
      have BS := fun w => specBase_any r (hg r (by simp)).1 (hg r (by simp)).2 w
      clear hE hL hr hg ha hl HE0
      simp only [List.length_singleton] at *
      generalize base r = bs at *
      go_enter Tryz.func65, Tryz.ntmps65
      go_wp2_with fail
      refine AT.mono ?_
      rintro e' w2 ⟨rfl, b2⟩
      have c0 : w2.cell? ⟨g, 0, none⟩ = some (.int .i64 r) := by
        have h3 := World.ownsRow.cellAt (n := 1) (HL0.out.below b2) 0 (by omega)
        rw [h3]; rfl
      have HX : Hid (Box4 _ _ _ _ _ _) := HX0.out.below b2
      have HC : Hid (Below _ _ _) := HB.out.trans (b2.mono HB.out.size)
      clear AT HL0 HX0 HB b2
      go_wp2_with fail
      refine (BS _).mono ?_
      rintro e' w3 ⟨v3, rfl, hI, b3⟩
      have hx := HX.out.below b3
      have b4 := HC.out.trans (b3.mono HC.out.size)
      clear BS c0 b3 HX HC
      obtain ⟨⟨n1, n2⟩, _, ⟨q0, q1, q2, q3⟩, f0⟩ := hx.facts
      clear hx
      match bs, HF, hI with
      | [], HF, hI =>
        have HO : Hid (elemE es [r] = none) := HF.out
        clear HF
        rcases hI.form with ⟨rfl, _⟩ | ⟨g3, cap3, rfl, _, _⟩
        · clear hI
          go_wp2
          refine bodyPost_ret (v := .tuple #[.agg #[.int .i64 0, .int .i64 0, .int .i64 0, .bool false], .bool false]) ?_ rfl ⟨ret_e0 HO.out, below_res4 b4 _ _ _ _⟩
          rw [results_cell_tmp rfl]
          go_simp
        · clear hI
          go_wp2
          refine bodyPost_ret (v := .tuple #[.agg #[.int .i64 0, .int .i64 0, .int .i64 0, .bool false], .bool false]) ?_ rfl ⟨ret_e0 HO.out, below_res4 b4 _ _ _ _⟩
          rw [results_cell_tmp rfl]
          go_simp
      | [x], HF, hI =>
        rcases hI.form with ⟨_, h⟩ | ⟨g3, cap3, rfl, _, _⟩
        · cases h
        · obtain ⟨a0, a1, a2, a3⟩ := hI.cells 0 x rfl
          simp only [Nat.zero_mul, Nat.zero_add] at a0 a1 a2 a3
          clear hI
          by_cases hf : x.first = 0
          · have HO : Hid (elemE es [r] = none) := HF.out.trans (if_pos hf)
            clear HF
            rw [hf] at a0
            go_wp2
            refine bodyPost_ret (v := .tuple #[.agg #[.int .i64 0, .int .i64 0, .int .i64 0, .bool false], .bool false]) ?_ rfl ⟨ret_e0 HO.out, below_res4 b4 _ _ _ _⟩
            rw [results_cell_tmp rfl]
            go_simp
          · have HO : Hid (elemE es [r] = some x) := HF.out.trans (if_neg hf)
            clear HF
            have hf2 : (x.first == 0) = false := by simpa using hf
            go_wp2
            refine bodyPost_ret (v := .tuple #[.agg #[.int .i64 x.first, .int .i64 x.second, .int .i64 x.third, .bool x.varies], .bool true]) ?_ rfl ⟨ret_e HO.out, below_res4 b4 _ _ _ _⟩
            rw [results_cell_tmp rfl]
            go_simp
      | x :: y :: zs, HF, hI =>
        have HO : Hid (elemE es [r] = none) := HF.out
        clear HF
        rcases hI.form with ⟨_, h⟩ | ⟨g3, cap3, rfl, _, _⟩
        · cases h
        · simp only [List.length_cons]
          clear hI
          have hz : ((zs.length + 1 + 1 : Nat) : Int) ≠ 1 := by omega
          go_wp2
          refine bodyPost_ret (v := .tuple #[.agg #[.int .i64 0, .int .i64 0, .int .i64 0, .bool false], .bool false]) ?_ rfl ⟨ret_e0 HO.out, below_res4 b4 _ _ _ _⟩
          rw [results_cell_tmp rfl]
          go_simp
    · have HF : Hid (elemE es l = none) := elemE_far ha h1
      obtain ⟨a, c, rfl⟩ : ∃ a c, vl = .slice a l.length c := by
        rcases hL.form with ⟨rfl, rfl⟩ | ⟨g, cap, rfl, _, _⟩
        · exact ⟨_, _, rfl⟩
        · exact ⟨_, _, rfl⟩
      have h2 : ((l.length : Int) != 1) = true := by simp; omega
      clear hE hL hr hg ha h1 HE0 HL0
      go_enter Tryz.func65, Tryz.ntmps65
      go_wp2_with fail
      refine AT.mono ?_
      rintro e' w2 ⟨rfl, b2⟩
      have hx := HX0.out.below b2
      have b4 := HB.out.trans (b2.mono HB.out.size)
      clear AT HX0 HB
      obtain ⟨⟨n1, n2⟩, _, ⟨q0, q1, q2, q3⟩, f0⟩ := hx.facts
      clear hx
      go_wp2
      refine bodyPost_ret (v := .tuple #[.agg #[.int .i64 0, .int .i64 0, .int .i64 0, .bool false], .bool false]) ?_ rfl ⟨ret_e0 HF.out, below_res4 b4 _ _ _ _⟩
      rw [results_cell_tmp rfl]
      go_simp
  · have HF : Hid (elemE es l = some e.el) := elemE_hit he ha
    rw [ha] at AT
    have hi := (List.getElem?_eq_some_iff.1 he).1
    rcases hE.form with ⟨_, rfl⟩ | ⟨g, cap, rfl, hc, hc2, _, _⟩
    · simp at hi
    · clear hE hL hr hg ha
      have hi2 : (i : Int) < (es.length : Int) := by omega
      go_enter Tryz.func65, Tryz.ntmps65
      go_wp2_with fail
      refine AT.mono ?_
      rintro e' w2 ⟨rfl, b2⟩
      have hx := HX0.out.below b2
      have b4 := HB.out.trans (b2.mono HB.out.size)
      obtain ⟨x, hI, a0, a1, a2, a3, a4⟩ := (HE0.out.below b2).cells i e he
      clear AT HX0 HB HE0 HL0 hI he
      obtain ⟨⟨n1, n2⟩, ⟨p0, p1, p2⟩, ⟨q0, q1, q2, q3⟩, f0⟩ := hx.facts
      clear hx
      go_wp2
      refine bodyPost_ret (v := .tuple #[.agg #[.int .i64 e.el.first, .int .i64 e.el.second, .int .i64 e.el.third, .bool e.el.varies], .bool true]) ?_ rfl ⟨ret_e HF.out, below_res4 b4 _ _ _ _⟩
      rw [results_cell_tmp rfl]
      go_simp

/-- What ElemOf answers. -/
def elemOk (es : List Ent) (lv : Int) (l : List Int) : Option El := if rulesOk es lv = true ∧ runesOk l = true then elemE es l else none

theorem runesOk_good {l : List Int} (h : runesOk l = true) : ∀ x ∈ l, 0 ≤ x ∧ x ≤ 1114111 := by
  unfold runesOk at h
  rw [Bool.and_eq_true, Bool.and_eq_true] at h
  intro x hx
  have := (okR_true h.2.1).2 x hx
  exact ⟨(goodB_true this).1, (goodB_true this).2.1⟩

end Go.Proofs.YtanfebccenfffaaGreatDoor

namespace Go.Proofs.YtanfebccenfffaaGreatDoor
open Go.RowKit

/-- Whether a first weight is a rune's. -/
def takenB (n : Int) : Bool := decide ((2000 ≤ n ∧ n ≤ 2900 ∧ n % 100 = 0) ∨ (4000 ≤ n ∧ n ≤ 9000 ∧ n % 200 = 0) ∨ (1 ≤ n ∧ n ≤ 9))

/-- Whether no elem has a first weight. -/
def freeE (es : List Ent) (n : Int) : Bool := !takenB n && es.all fun e => e.el.first != n

def NotF (es : List Ent) (n : Int) (k : Nat) : Prop := ∀ j e, j < k → es[j]? = some e → e.el.first ≠ n

theorem NotF.succ {es : List Ent} {n : Int} {e : Ent} {k : Nat} (h : NotF es n k) (hx : es[k]? = some e) (hn : e.el.first ≠ n) : NotF es n (k + 1) := by
  intro j y hj hy
  by_cases c : j = k
  · subst c; rw [hx] at hy; cases hy; exact hn
  · exact h j y (by omega) hy

theorem freeE_hit {es : List Ent} {n : Int} {e : Ent} (he : e ∈ es) (h : e.el.first = n) : freeE es n = false := by
  unfold freeE
  rw [Bool.and_eq_false_iff]
  refine .inr ?_
  rw [List.all_eq_false]
  exact ⟨e, he, by simp [h]⟩

theorem freeE_all {es : List Ent} {n : Int} {k : Nat} (ht : takenB n = false) (h : NotF es n k) (hk : es.length ≤ k) : freeE es n = true := by
  unfold freeE
  rw [ht, Bool.not_false, Bool.true_and, List.all_eq_true]
  intro x hx
  obtain ⟨j, hj⟩ := List.mem_iff_getElem?.1 hx
  have h1 := (List.getElem?_eq_some_iff.1 hj).1
  simpa using h j x (by omega) hj

def FrRel (w : World) (es : List Ent) (n : Int) (i : Value) (wr : World) : Prop := ∃ k : Nat, k ≤ es.length ∧ i = .int .i64 k ∧ NotF es n k ∧ Below w.heap.size w wr

set_option maxRecDepth 100000 in
set_option maxHeartbeats 4000000 in
theorem free_row_a (w : World) (B g cap : Nat) (es : List Ent) (sh : Bool) (lv n : Int) (hE : Ents w B (.slice (some ⟨g, 0, none⟩) es.length cap) es) (hT : takenB n = false) (hn : es.length ≤ 1048576) (hb0 : 0 ≤ n) (hb1 : n ≤ 1000000) (h0 : n < 2000) (h1 : ¬ (1 ≤ n ∧ n ≤ 9)) :
    Calls Tryz.prog 85 #[.agg #[.slice (some ⟨g, 0, none⟩) es.length cap, .bool sh, .int .i64 lv], .int .i64 n] w fun e w' => e = .returned (.bool (freeE es n)) ∧ Below w.heap.size w w' := by
  have HT : Hid (takenB n = false) := hT
  clear hT
  have h2 : n < 4000 := by omega
  have N := fun w => l1In_no n 1 9 h1 w
  clear h1
  go_enter Tryz.func85, Tryz.ntmps85
  go_wp2_with fail
  refine (N _).mono ?_
  rintro e' w1 ⟨rfl, rfl⟩
  clear N
  go_wp2_with fail
  go_loopw [38] (fun i wr => FrRel w es n i wr) (fun i _ => es.length - (intOf i).toNat)
  case atStart => exact ⟨0, Nat.zero_le _, rfl, fun j e hj => by omega, (Below.refl _ _).alloc (Nat.le_refl _) _⟩
  case round =>
    obtain ⟨k, hk, rfl, HN0, hb⟩ := hrel
    have HN : Hid (NotF es n k) := HN0
    clear HN0
    by_cases hlt : k < es.length
    · obtain ⟨e, he⟩ : ∃ e, es[k]? = some e := ⟨_, List.getElem?_eq_getElem hlt⟩
      obtain ⟨x, hI, a0, a1, a2, a3, a4⟩ := (hE.below hb).cells k e he
      obtain ⟨xa, xn, xc, rfl⟩ : ∃ xa xn xc, x = .slice xa xn xc := by
        rcases hI.form with ⟨rfl, _⟩ | ⟨_, _, rfl, _, _⟩
        · exact ⟨_, _, _, rfl⟩
        · exact ⟨_, _, _, rfl⟩
      have hk8 : (k : Int) < (es.length : Int) := by omega
      have HE : Hid _ := he
      clear he hE hI
      by_cases c : e.el.first = n
      · have HA : Hid (freeE es n = false) := freeE_hit (List.mem_of_getElem? HE.out) c
        have c' : (e.el.first == n) = true := by simpa using c
        clear HN HE c
        go_wp2
        go_ret
        rw [HA.out]
        exact ⟨rfl, hb.alloc hb.size _⟩
      · have HN2 : Hid (NotF es n (k + 1)) := HN.out.succ HE.out c
        have c' : (e.el.first == n) = false := by simpa using c
        clear HN HE c
        go_wp2
        exact ⟨⟨k + 1, by omega, by go_num, HN2.out, hb.alloc hb.size _⟩, by simp [intOf]; omega⟩
    · have HA : Hid (freeE es n = true) := freeE_all HT.out HN.out (by omega)
      clear HN hE HT
      go_wp2
      go_ret
      rw [HA.out]
      exact ⟨rfl, hb⟩

set_option maxRecDepth 100000 in
set_option maxHeartbeats 4000000 in
theorem free_nil_a (w : World)  (sh : Bool) (lv n : Int) (hb0 : 0 ≤ n) (hb1 : n ≤ 1000000) (h0 : n < 2000) (h1 : ¬ (1 ≤ n ∧ n ≤ 9)) :
    Calls Tryz.prog 85 #[.agg #[.slice none 0 0, .bool sh, .int .i64 lv], .int .i64 n] w fun e w' => e = .returned (.bool true) ∧ Below w.heap.size w w' := by
  have h2 : n < 4000 := by omega
  have N := fun w => l1In_no n 1 9 h1 w
  clear h1
  go_enter Tryz.func85, Tryz.ntmps85
  go_wp2_with fail
  refine (N _).mono ?_
  rintro e' w1 ⟨rfl, rfl⟩
  clear N
  go_wp2_with fail
  go_loop [38] (fun i => i = .int .i64 0) (fun _ => 0)
  case atStart => rfl
  case round =>
    subst hrel
    go_wp2
    go_ret
    exact ⟨rfl, (Below.refl _ _).alloc (Nat.le_refl _) _⟩

set_option maxRecDepth 100000 in
set_option maxHeartbeats 4000000 in
theorem free_row_b (w : World) (B g cap : Nat) (es : List Ent) (sh : Bool) (lv n : Int) (hE : Ents w B (.slice (some ⟨g, 0, none⟩) es.length cap) es) (hT : takenB n = false) (hn : es.length ≤ 1048576) (hb0 : 0 ≤ n) (hb1 : n ≤ 1000000) (h0 : 2000 ≤ n) (h1 : n ≤ 2900) (h3 : n % 100 ≠ 0) :
    Calls Tryz.prog 85 #[.agg #[.slice (some ⟨g, 0, none⟩) es.length cap, .bool sh, .int .i64 lv], .int .i64 n] w fun e w' => e = .returned (.bool (freeE es n)) ∧ Below w.heap.size w w' := by
  have HT : Hid (takenB n = false) := hT
  clear hT
  have h2 : n < 4000 := by omega
  have h4 : (n % 100 == 0) = false := by simpa using h3
  have N := fun w => l1In_no n 1 9 (by omega) w
  clear h3
  go_enter Tryz.func85, Tryz.ntmps85
  go_wp2_with fail
  refine (N _).mono ?_
  rintro e' w1 ⟨rfl, rfl⟩
  clear N
  go_wp2_with fail
  go_loopw [38] (fun i wr => FrRel w es n i wr) (fun i _ => es.length - (intOf i).toNat)
  case atStart => exact ⟨0, Nat.zero_le _, rfl, fun j e hj => by omega, (Below.refl _ _).alloc (Nat.le_refl _) _⟩
  case round =>
    obtain ⟨k, hk, rfl, HN0, hb⟩ := hrel
    have HN : Hid (NotF es n k) := HN0
    clear HN0
    by_cases hlt : k < es.length
    · obtain ⟨e, he⟩ : ∃ e, es[k]? = some e := ⟨_, List.getElem?_eq_getElem hlt⟩
      obtain ⟨x, hI, a0, a1, a2, a3, a4⟩ := (hE.below hb).cells k e he
      obtain ⟨xa, xn, xc, rfl⟩ : ∃ xa xn xc, x = .slice xa xn xc := by
        rcases hI.form with ⟨rfl, _⟩ | ⟨_, _, rfl, _, _⟩
        · exact ⟨_, _, _, rfl⟩
        · exact ⟨_, _, _, rfl⟩
      have hk8 : (k : Int) < (es.length : Int) := by omega
      have HE : Hid _ := he
      clear he hE hI
      by_cases c : e.el.first = n
      · have HA : Hid (freeE es n = false) := freeE_hit (List.mem_of_getElem? HE.out) c
        have c' : (e.el.first == n) = true := by simpa using c
        clear HN HE c
        go_wp2
        go_ret
        rw [HA.out]
        exact ⟨rfl, hb.alloc hb.size _⟩
      · have HN2 : Hid (NotF es n (k + 1)) := HN.out.succ HE.out c
        have c' : (e.el.first == n) = false := by simpa using c
        clear HN HE c
        go_wp2
        exact ⟨⟨k + 1, by omega, by go_num, HN2.out, hb.alloc hb.size _⟩, by simp [intOf]; omega⟩
    · have HA : Hid (freeE es n = true) := freeE_all HT.out HN.out (by omega)
      clear HN hE HT
      go_wp2
      go_ret
      rw [HA.out]
      exact ⟨rfl, hb⟩

set_option maxRecDepth 100000 in
set_option maxHeartbeats 4000000 in
theorem free_nil_b (w : World)  (sh : Bool) (lv n : Int) (hb0 : 0 ≤ n) (hb1 : n ≤ 1000000) (h0 : 2000 ≤ n) (h1 : n ≤ 2900) (h3 : n % 100 ≠ 0) :
    Calls Tryz.prog 85 #[.agg #[.slice none 0 0, .bool sh, .int .i64 lv], .int .i64 n] w fun e w' => e = .returned (.bool true) ∧ Below w.heap.size w w' := by
  have h2 : n < 4000 := by omega
  have h4 : (n % 100 == 0) = false := by simpa using h3
  have N := fun w => l1In_no n 1 9 (by omega) w
  clear h3
  go_enter Tryz.func85, Tryz.ntmps85
  go_wp2_with fail
  refine (N _).mono ?_
  rintro e' w1 ⟨rfl, rfl⟩
  clear N
  go_wp2_with fail
  go_loop [38] (fun i => i = .int .i64 0) (fun _ => 0)
  case atStart => rfl
  case round =>
    subst hrel
    go_wp2
    go_ret
    exact ⟨rfl, (Below.refl _ _).alloc (Nat.le_refl _) _⟩

set_option maxRecDepth 100000 in
set_option maxHeartbeats 4000000 in
theorem free_row_c (w : World) (B g cap : Nat) (es : List Ent) (sh : Bool) (lv n : Int) (hE : Ents w B (.slice (some ⟨g, 0, none⟩) es.length cap) es) (hT : takenB n = false) (hn : es.length ≤ 1048576) (hb0 : 0 ≤ n) (hb1 : n ≤ 1000000) (h0 : 2900 < n) (h1 : n < 4000) :
    Calls Tryz.prog 85 #[.agg #[.slice (some ⟨g, 0, none⟩) es.length cap, .bool sh, .int .i64 lv], .int .i64 n] w fun e w' => e = .returned (.bool (freeE es n)) ∧ Below w.heap.size w w' := by
  have HT : Hid (takenB n = false) := hT
  clear hT
  have h2 : 2000 ≤ n := by omega
  have N := fun w => l1In_no n 1 9 (by omega) w
  go_enter Tryz.func85, Tryz.ntmps85
  go_wp2_with fail
  refine (N _).mono ?_
  rintro e' w1 ⟨rfl, rfl⟩
  clear N
  go_wp2_with fail
  go_loopw [38] (fun i wr => FrRel w es n i wr) (fun i _ => es.length - (intOf i).toNat)
  case atStart => exact ⟨0, Nat.zero_le _, rfl, fun j e hj => by omega, (Below.refl _ _).alloc (Nat.le_refl _) _⟩
  case round =>
    obtain ⟨k, hk, rfl, HN0, hb⟩ := hrel
    have HN : Hid (NotF es n k) := HN0
    clear HN0
    by_cases hlt : k < es.length
    · obtain ⟨e, he⟩ : ∃ e, es[k]? = some e := ⟨_, List.getElem?_eq_getElem hlt⟩
      obtain ⟨x, hI, a0, a1, a2, a3, a4⟩ := (hE.below hb).cells k e he
      obtain ⟨xa, xn, xc, rfl⟩ : ∃ xa xn xc, x = .slice xa xn xc := by
        rcases hI.form with ⟨rfl, _⟩ | ⟨_, _, rfl, _, _⟩
        · exact ⟨_, _, _, rfl⟩
        · exact ⟨_, _, _, rfl⟩
      have hk8 : (k : Int) < (es.length : Int) := by omega
      have HE : Hid _ := he
      clear he hE hI
      by_cases c : e.el.first = n
      · have HA : Hid (freeE es n = false) := freeE_hit (List.mem_of_getElem? HE.out) c
        have c' : (e.el.first == n) = true := by simpa using c
        clear HN HE c
        go_wp2
        go_ret
        rw [HA.out]
        exact ⟨rfl, hb.alloc hb.size _⟩
      · have HN2 : Hid (NotF es n (k + 1)) := HN.out.succ HE.out c
        have c' : (e.el.first == n) = false := by simpa using c
        clear HN HE c
        go_wp2
        exact ⟨⟨k + 1, by omega, by go_num, HN2.out, hb.alloc hb.size _⟩, by simp [intOf]; omega⟩
    · have HA : Hid (freeE es n = true) := freeE_all HT.out HN.out (by omega)
      clear HN hE HT
      go_wp2
      go_ret
      rw [HA.out]
      exact ⟨rfl, hb⟩

set_option maxRecDepth 100000 in
set_option maxHeartbeats 4000000 in
theorem free_nil_c (w : World)  (sh : Bool) (lv n : Int) (hb0 : 0 ≤ n) (hb1 : n ≤ 1000000) (h0 : 2900 < n) (h1 : n < 4000) :
    Calls Tryz.prog 85 #[.agg #[.slice none 0 0, .bool sh, .int .i64 lv], .int .i64 n] w fun e w' => e = .returned (.bool true) ∧ Below w.heap.size w w' := by
  have h2 : 2000 ≤ n := by omega
  have N := fun w => l1In_no n 1 9 (by omega) w
  go_enter Tryz.func85, Tryz.ntmps85
  go_wp2_with fail
  refine (N _).mono ?_
  rintro e' w1 ⟨rfl, rfl⟩
  clear N
  go_wp2_with fail
  go_loop [38] (fun i => i = .int .i64 0) (fun _ => 0)
  case atStart => rfl
  case round =>
    subst hrel
    go_wp2
    go_ret
    exact ⟨rfl, (Below.refl _ _).alloc (Nat.le_refl _) _⟩

set_option maxRecDepth 100000 in
set_option maxHeartbeats 4000000 in
theorem free_row_d (w : World) (B g cap : Nat) (es : List Ent) (sh : Bool) (lv n : Int) (hE : Ents w B (.slice (some ⟨g, 0, none⟩) es.length cap) es) (hT : takenB n = false) (hn : es.length ≤ 1048576) (hb0 : 0 ≤ n) (hb1 : n ≤ 1000000) (h0 : 4000 ≤ n) (h1 : n ≤ 9000) (h3 : n % 200 ≠ 0) :
    Calls Tryz.prog 85 #[.agg #[.slice (some ⟨g, 0, none⟩) es.length cap, .bool sh, .int .i64 lv], .int .i64 n] w fun e w' => e = .returned (.bool (freeE es n)) ∧ Below w.heap.size w w' := by
  have HT : Hid (takenB n = false) := hT
  clear hT
  have h2 : 2000 ≤ n := by omega
  have h5 : 2900 < n := by omega
  have h4 : (n % 200 == 0) = false := by simpa using h3
  have N := fun w => l1In_no n 1 9 (by omega) w
  clear h3
  go_enter Tryz.func85, Tryz.ntmps85
  go_wp2_with fail
  refine (N _).mono ?_
  rintro e' w1 ⟨rfl, rfl⟩
  clear N
  go_wp2_with fail
  go_loopw [38] (fun i wr => FrRel w es n i wr) (fun i _ => es.length - (intOf i).toNat)
  case atStart => exact ⟨0, Nat.zero_le _, rfl, fun j e hj => by omega, (Below.refl _ _).alloc (Nat.le_refl _) _⟩
  case round =>
    obtain ⟨k, hk, rfl, HN0, hb⟩ := hrel
    have HN : Hid (NotF es n k) := HN0
    clear HN0
    by_cases hlt : k < es.length
    · obtain ⟨e, he⟩ : ∃ e, es[k]? = some e := ⟨_, List.getElem?_eq_getElem hlt⟩
      obtain ⟨x, hI, a0, a1, a2, a3, a4⟩ := (hE.below hb).cells k e he
      obtain ⟨xa, xn, xc, rfl⟩ : ∃ xa xn xc, x = .slice xa xn xc := by
        rcases hI.form with ⟨rfl, _⟩ | ⟨_, _, rfl, _, _⟩
        · exact ⟨_, _, _, rfl⟩
        · exact ⟨_, _, _, rfl⟩
      have hk8 : (k : Int) < (es.length : Int) := by omega
      have HE : Hid _ := he
      clear he hE hI
      by_cases c : e.el.first = n
      · have HA : Hid (freeE es n = false) := freeE_hit (List.mem_of_getElem? HE.out) c
        have c' : (e.el.first == n) = true := by simpa using c
        clear HN HE c
        go_wp2
        go_ret
        rw [HA.out]
        exact ⟨rfl, hb.alloc hb.size _⟩
      · have HN2 : Hid (NotF es n (k + 1)) := HN.out.succ HE.out c
        have c' : (e.el.first == n) = false := by simpa using c
        clear HN HE c
        go_wp2
        exact ⟨⟨k + 1, by omega, by go_num, HN2.out, hb.alloc hb.size _⟩, by simp [intOf]; omega⟩
    · have HA : Hid (freeE es n = true) := freeE_all HT.out HN.out (by omega)
      clear HN hE HT
      go_wp2
      go_ret
      rw [HA.out]
      exact ⟨rfl, hb⟩

set_option maxRecDepth 100000 in
set_option maxHeartbeats 4000000 in
theorem free_nil_d (w : World)  (sh : Bool) (lv n : Int) (hb0 : 0 ≤ n) (hb1 : n ≤ 1000000) (h0 : 4000 ≤ n) (h1 : n ≤ 9000) (h3 : n % 200 ≠ 0) :
    Calls Tryz.prog 85 #[.agg #[.slice none 0 0, .bool sh, .int .i64 lv], .int .i64 n] w fun e w' => e = .returned (.bool true) ∧ Below w.heap.size w w' := by
  have h2 : 2000 ≤ n := by omega
  have h5 : 2900 < n := by omega
  have h4 : (n % 200 == 0) = false := by simpa using h3
  have N := fun w => l1In_no n 1 9 (by omega) w
  clear h3
  go_enter Tryz.func85, Tryz.ntmps85
  go_wp2_with fail
  refine (N _).mono ?_
  rintro e' w1 ⟨rfl, rfl⟩
  clear N
  go_wp2_with fail
  go_loop [38] (fun i => i = .int .i64 0) (fun _ => 0)
  case atStart => rfl
  case round =>
    subst hrel
    go_wp2
    go_ret
    exact ⟨rfl, (Below.refl _ _).alloc (Nat.le_refl _) _⟩

set_option maxRecDepth 100000 in
set_option maxHeartbeats 4000000 in
theorem free_row_e (w : World) (B g cap : Nat) (es : List Ent) (sh : Bool) (lv n : Int) (hE : Ents w B (.slice (some ⟨g, 0, none⟩) es.length cap) es) (hT : takenB n = false) (hn : es.length ≤ 1048576) (hb0 : 0 ≤ n) (hb1 : n ≤ 1000000) (h0 : 9000 < n) :
    Calls Tryz.prog 85 #[.agg #[.slice (some ⟨g, 0, none⟩) es.length cap, .bool sh, .int .i64 lv], .int .i64 n] w fun e w' => e = .returned (.bool (freeE es n)) ∧ Below w.heap.size w w' := by
  have HT : Hid (takenB n = false) := hT
  clear hT
  have h2 : 2000 ≤ n := by omega
  have h5 : 2900 < n := by omega
  have h6 : 4000 ≤ n := by omega
  have N := fun w => l1In_no n 1 9 (by omega) w
  go_enter Tryz.func85, Tryz.ntmps85
  go_wp2_with fail
  refine (N _).mono ?_
  rintro e' w1 ⟨rfl, rfl⟩
  clear N
  go_wp2_with fail
  go_loopw [38] (fun i wr => FrRel w es n i wr) (fun i _ => es.length - (intOf i).toNat)
  case atStart => exact ⟨0, Nat.zero_le _, rfl, fun j e hj => by omega, (Below.refl _ _).alloc (Nat.le_refl _) _⟩
  case round =>
    obtain ⟨k, hk, rfl, HN0, hb⟩ := hrel
    have HN : Hid (NotF es n k) := HN0
    clear HN0
    by_cases hlt : k < es.length
    · obtain ⟨e, he⟩ : ∃ e, es[k]? = some e := ⟨_, List.getElem?_eq_getElem hlt⟩
      obtain ⟨x, hI, a0, a1, a2, a3, a4⟩ := (hE.below hb).cells k e he
      obtain ⟨xa, xn, xc, rfl⟩ : ∃ xa xn xc, x = .slice xa xn xc := by
        rcases hI.form with ⟨rfl, _⟩ | ⟨_, _, rfl, _, _⟩
        · exact ⟨_, _, _, rfl⟩
        · exact ⟨_, _, _, rfl⟩
      have hk8 : (k : Int) < (es.length : Int) := by omega
      have HE : Hid _ := he
      clear he hE hI
      by_cases c : e.el.first = n
      · have HA : Hid (freeE es n = false) := freeE_hit (List.mem_of_getElem? HE.out) c
        have c' : (e.el.first == n) = true := by simpa using c
        clear HN HE c
        go_wp2
        go_ret
        rw [HA.out]
        exact ⟨rfl, hb.alloc hb.size _⟩
      · have HN2 : Hid (NotF es n (k + 1)) := HN.out.succ HE.out c
        have c' : (e.el.first == n) = false := by simpa using c
        clear HN HE c
        go_wp2
        exact ⟨⟨k + 1, by omega, by go_num, HN2.out, hb.alloc hb.size _⟩, by simp [intOf]; omega⟩
    · have HA : Hid (freeE es n = true) := freeE_all HT.out HN.out (by omega)
      clear HN hE HT
      go_wp2
      go_ret
      rw [HA.out]
      exact ⟨rfl, hb⟩

set_option maxRecDepth 100000 in
set_option maxHeartbeats 4000000 in
theorem free_nil_e (w : World)  (sh : Bool) (lv n : Int) (hb0 : 0 ≤ n) (hb1 : n ≤ 1000000) (h0 : 9000 < n) :
    Calls Tryz.prog 85 #[.agg #[.slice none 0 0, .bool sh, .int .i64 lv], .int .i64 n] w fun e w' => e = .returned (.bool true) ∧ Below w.heap.size w w' := by
  have h2 : 2000 ≤ n := by omega
  have h5 : 2900 < n := by omega
  have h6 : 4000 ≤ n := by omega
  have N := fun w => l1In_no n 1 9 (by omega) w
  go_enter Tryz.func85, Tryz.ntmps85
  go_wp2_with fail
  refine (N _).mono ?_
  rintro e' w1 ⟨rfl, rfl⟩
  clear N
  go_wp2_with fail
  go_loop [38] (fun i => i = .int .i64 0) (fun _ => 0)
  case atStart => rfl
  case round =>
    subst hrel
    go_wp2
    go_ret
    exact ⟨rfl, (Below.refl _ _).alloc (Nat.le_refl _) _⟩

set_option maxRecDepth 100000 in
set_option maxHeartbeats 1000000 in
theorem free_taken (w : World) (v : Value) (sh : Bool) (lv n : Int) (hb0 : 0 ≤ n) (hb1 : n ≤ 1000000) (h : takenB n = true) :
    Calls Tryz.prog 85 #[.agg #[v, .bool sh, .int .i64 lv], .int .i64 n] w fun e w' => e = .returned (.bool false) ∧ Below w.heap.size w w' := by
  rcases of_decide_eq_true h with ⟨h1, h2, h3⟩ | ⟨h1, h2, h3⟩ | h1
  · have h4 : (n % 100 == 0) = true := by simpa using h3
    clear h h3
    go_enter Tryz.func85, Tryz.ntmps85
    go_wp2
    go_ret
    exact ⟨rfl, (Below.refl _ _).alloc (Nat.le_refl _) _⟩
  · have h4 : (n % 200 == 0) = true := by simpa using h3
    have h5 : 2000 ≤ n := by omega
    have h6 : 2900 < n := by omega
    clear h h3
    go_enter Tryz.func85, Tryz.ntmps85
    go_wp2
    go_ret
    exact ⟨rfl, (Below.refl _ _).alloc (Nat.le_refl _) _⟩
  · have Y := fun w => l1In_yes n 1 9 h1 w
    have h5 : n < 2000 := by omega
    have h6 : n < 4000 := by omega
    clear h
    go_enter Tryz.func85, Tryz.ntmps85
    go_wp2_with fail
    refine (Y _).mono ?_
    rintro e' w1 ⟨rfl, rfl⟩
    clear Y
    go_wp2
    go_ret
    exact ⟨rfl, (Below.refl _ _).alloc (Nat.le_refl _) _⟩

theorem free_any {w : World} {B : Nat} {v : Value} {es : List Ent} {sh : Bool} {lv n : Int} (hE : Ents w B v es) (hn : es.length ≤ 1048576) (hb0 : 0 ≤ n) (hb1 : n ≤ 1000000) :
    Calls Tryz.prog 85 #[.agg #[v, .bool sh, .int .i64 lv], .int .i64 n] w fun e w' => e = .returned (.bool (freeE es n)) ∧ Below w.heap.size w w' := by
  cases ht : takenB n
  · have hno := of_decide_eq_false ht
    rcases hE.form with ⟨rfl, rfl⟩ | ⟨g, cap, rfl, _, _, _, _⟩
    · have e0 : freeE [] n = true := by unfold freeE; rw [ht]; rfl
      rw [e0]
      by_cases c1 : n < 2000
      · exact free_nil_a w sh lv n hb0 hb1 c1 (fun h => hno (.inr (.inr h)))
      by_cases c2 : n ≤ 2900
      · exact free_nil_b w sh lv n hb0 hb1 (by omega) c2 (fun h => hno (.inl ⟨by omega, c2, h⟩))
      by_cases c3 : n < 4000
      · exact free_nil_c w sh lv n hb0 hb1 (by omega) c3
      by_cases c4 : n ≤ 9000
      · exact free_nil_d w sh lv n hb0 hb1 (by omega) c4 (fun h => hno (.inr (.inl ⟨by omega, c4, h⟩)))
      exact free_nil_e w sh lv n hb0 hb1 (by omega)
    · by_cases c1 : n < 2000
      · exact free_row_a w B g cap es sh lv n hE ht hn hb0 hb1 c1 (fun h => hno (.inr (.inr h)))
      by_cases c2 : n ≤ 2900
      · exact free_row_b w B g cap es sh lv n hE ht hn hb0 hb1 (by omega) c2 (fun h => hno (.inl ⟨by omega, c2, h⟩))
      by_cases c3 : n < 4000
      · exact free_row_c w B g cap es sh lv n hE ht hn hb0 hb1 (by omega) c3
      by_cases c4 : n ≤ 9000
      · exact free_row_d w B g cap es sh lv n hE ht hn hb0 hb1 (by omega) c4 (fun h => hno (.inr (.inl ⟨by omega, c4, h⟩)))
      exact free_row_e w B g cap es sh lv n hE ht hn hb0 hb1 (by omega)
  · have e0 : freeE es n = false := by unfold freeE; rw [ht]; rfl
    rw [e0]
    exact free_taken w v sh lv n hb0 hb1 ht
end Go.Proofs.YtanfebccenfffaaGreatDoor
