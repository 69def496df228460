/- Texts of mine laid together: Runes1, DrawOf, DrawRt, PutC, DrawSpo, Draw0, DrawRr, IsRow, CameOf. -/
import Derived.Test.YtanfebccenfffaaDoorMR8
import Derived.Test.YtanfebccenfffaaDoorGood
import Derived.BigCall
import Derived.Lib.RuneBytes
import Derived.WalkKit
import Derived.WalkSpells
import Derived.WalkLawsBesides
import Derived.OwnWalk
import Derived.Test.YtanfebccenfffaaDoorProg
import Derived.ProofKit
import Derived.OpenShut
namespace Go.Proofs.YtanfebccenfffaaDoor
open Go.RowKit

theorem Moved.up {w w' : World} {B b k m m' : Nat} (h : Moved w w' B b k m) (hm : m ≤ m') : Moved w w' B b k m' := by
  obtain ⟨⟨k', h1, h2⟩, h3⟩ := h
  exact ⟨⟨k', by omega, h2⟩, h3⟩

theorem Moved.then {w w1 w2 : World} {B b k m : Nat} (h : Moved w w1 B b k m) {m2 : Nat} (h2 : ∀ k', k' ≤ k + m → Cur w1 B b k' → Moved w1 w2 B b k' m2) : Moved w w2 B b k (m + m2) := by
  obtain ⟨⟨k', a1, a2⟩, a3⟩ := h
  obtain ⟨⟨k2, b1, b2⟩, b3⟩ := h2 k' a1 a2
  exact ⟨⟨k2, by omega, b2⟩, grown_and a3 b3⟩

theorem below_grows {w w' : World} (h : Below w.heap.size w w') (row : Option Nat) : w.grownBy w' row := ⟨h.os, h.tape, h.output, h.size, fun k hk _ => h.block k hk⟩

theorem ints_ne {w : World} {B b : Nat} {v : Value} {zs : List Int} (h : Ints w B v zs) (hb : b < B) : v.ownBlock = none ∨ v.ownBlock ≠ some b := by
  cases c : v.ownBlock with
  | none => exact .inl rfl
  | some g =>
    refine .inr fun e => ?_
    have := (World.ownsRow.lt h g c).1
    have := Option.some.inj e
    omega

theorem among_lit (w : World) (B b k : Nat) (h : Cur w B b k) (hk : k ≤ 1000000000) (zs : List Int) (m : Nat) (hz : zs.length = m) (hm0 : 0 < m) (hm : m ≤ 1048576) (cs : Array Value) (hcs : cs = (zs.map (Value.int .i64)).toArray) :
    Calls Tryd.prog 66 #[.pointer (some ⟨b, 0, none⟩), .slice (some ⟨w.heap.size, 0, none⟩) m m] (w.alloc (.cells cs 3)) fun e w' => ∃ x : Int, e = .returned (.int .i64 x) ∧ x ∈ zs ∧ Moved w w' B b k 2 := by
  have hl := h.lt
  have ga := World.grownBy_alloc w (.cells cs 3) none
  have hC := h.kept ga (fun k hk => by cases hk)
  refine (among_any (w.alloc (.cells cs 3)) B b k hC hk w.heap.size m m zs hz hm0 hm (by simp) (by omega) (fun j hj => ?_)).mono ?_
  · rw [World.cell?_alloc_new, hcs]
    simp [hz, hj]
  · rintro e w' ⟨x, rfl, hx, hM⟩
    exact ⟨x, rfl, hx, hM.1, grown_and (World.grownBy_alloc w _ _) hM.2⟩

set_option maxRecDepth 100000 in
set_option maxHeartbeats 2000000 in
theorem rune_any (w : World) (B b k : Nat) (h : Cur w B b k) (hk : k ≤ 900000000) :
    Calls Tryd.prog 33 #[.pointer (some ⟨b, 0, none⟩)] w fun e w' => ∃ x : Int, e = .returned (.int .i64 x) ∧ goodB x = true ∧ Moved w w' B b k 6 := by
  have N := pick_any w B b k h (by omega) 8 (by omega) (by omega)
  clear h
  go_enter Tryd.func33, Tryd.ntmps33
  go_wp2_with fail
  refine N.mono ?_
  rintro e w1 ⟨x, rfl, x0, x1, ⟨⟨k1, hk1, hC⟩, hg⟩⟩
  have hx : x = 0 ∨ x = 1 ∨ x = 2 ∨ x = 3 ∨ 4 ≤ x := by omega
  clear N
  rcases hx with rfl | rfl | rfl | rfl | hx
  · go_wp2_with fail
    refine (among_lit w1 B b k1 hC (by omega) [32, 45, 49, 57, 46, 95] 6 rfl (by omega) (by omega) _ rfl).mono ?_
    rintro e w2 ⟨y, rfl, hy, ⟨⟨k2, hk2, hC2⟩, hg2⟩⟩
    go_wp2
    go_ret
    exact ⟨y, rfl, (by decide : ∀ z ∈ [32, 45, 49, 57, 46, 95], goodB z = true) y hy, ⟨k2, by omega, hC2⟩, grown_and hg hg2⟩
  · go_wp2_with fail
    refine (among_lit w1 B b k1 hC (by omega) [233, 201, 229, 197, 231, 241, 252, 8491, 7845, 7785, 226] 11 rfl (by omega) (by omega) _ rfl).mono ?_
    rintro e w2 ⟨y, rfl, hy, ⟨⟨k2, hk2, hC2⟩, hg2⟩⟩
    go_wp2
    go_ret
    exact ⟨y, rfl, (by decide : ∀ z ∈ [233, 201, 229, 197, 231, 241, 252, 8491, 7845, 7785, 226], goodB z = true) y hy, ⟨k2, by omega, hC2⟩, grown_and hg hg2⟩
  · go_wp2_with fail
    refine (among_lit w1 B b k1 hC (by omega) [768, 769, 776, 778, 803, 807, 770, 775] 8 rfl (by omega) (by omega) _ rfl).mono ?_
    rintro e w2 ⟨y, rfl, hy, ⟨⟨k2, hk2, hC2⟩, hg2⟩⟩
    go_wp2
    go_ret
    exact ⟨y, rfl, (by decide : ∀ z ∈ [768, 769, 776, 778, 803, 807, 770, 775], goodB z = true) y hy, ⟨k2, by omega, hC2⟩, grown_and hg hg2⟩
  · go_wp2_with fail
    refine (oneIn_any w1 B b k1 hC (by omega) 3 (by omega) (by omega)).mono ?_
    rintro e w2 ⟨bo, rfl, ⟨⟨k2, hk2, hC2⟩, hg2⟩⟩
    cases bo
    · go_wp2_with fail
      refine (among_lit w2 B b k2 hC2 (by omega) [97, 98, 99, 104, 108, 122, 65, 67, 101, 111, 110, 97] 12 rfl (by omega) (by omega) _ rfl).mono ?_
      rintro e w3 ⟨y, rfl, hy, ⟨⟨k3, hk3, hC3⟩, hg3⟩⟩
      go_wp2
      go_ret
      exact ⟨y, rfl, (by decide : ∀ z ∈ [97, 98, 99, 104, 108, 122, 65, 67, 101, 111, 110, 97], goodB z = true) y hy, ⟨k3, by omega, hC3⟩, grown_and hg (grown_and hg2 hg3)⟩
    · go_wp2_with fail
      refine (among_lit w2 B b k2 hC2 (by omega) [44032, 44033, 55203, 4352, 4449, 4520, 19968, 1114111, 128512, 3, 127, 65533] 12 rfl (by omega) (by omega) _ rfl).mono ?_
      rintro e w3 ⟨y, rfl, hy, ⟨⟨k3, hk3, hC3⟩, hg3⟩⟩
      go_wp2
      go_ret
      exact ⟨y, rfl, (by decide : ∀ z ∈ [44032, 44033, 55203, 4352, 4449, 4520, 19968, 1114111, 128512, 3, 127, 65533], goodB z = true) y hy, ⟨k3, by omega, hC3⟩, grown_and hg (grown_and hg2 hg3)⟩
  · go_wp2_with fail
    refine (among_lit w1 B b k1 hC (by omega) [97, 98, 99, 104, 108, 122, 65, 67, 101, 111, 110, 97] 12 rfl (by omega) (by omega) _ rfl).mono ?_
    rintro e w3 ⟨y, rfl, hy, ⟨⟨k3, hk3, hC3⟩, hg3⟩⟩
    go_wp2
    go_ret
    exact ⟨y, rfl, (by decide : ∀ z ∈ [97, 98, 99, 104, 108, 122, 65, 67, 101, 111, 110, 97], goodB z = true) y hy, ⟨k3, by omega, hC3⟩, grown_and hg hg3⟩

def RunesRel (w : World) (B b K m : Nat) (v n : Value) (wr : World) : Prop :=
  ∃ (j k : Nat) (zs : List Int), n = .int .i64 j ∧ Ints wr w.heap.size v zs ∧ zs.length + j ≤ m ∧ (∀ x ∈ zs, goodB x = true) ∧ k + 6 * j ≤ K ∧ Cur wr B b k ∧ w.grownBy wr (some b)

set_option maxRecDepth 100000 in
set_option maxHeartbeats 2000000 in
theorem runes_any (w : World) (B b k m : Nat) (h : Cur w B b k) (hk : k ≤ 800000000) (hm : m ≤ 1000) :
    Calls Tryd.prog 81 #[.pointer (some ⟨b, 0, none⟩), .int .i64 (m : Int)] w fun e w' => ∃ v zs, e = .returned v ∧ Ints w' w.heap.size v zs ∧ zs.length ≤ m ∧ (∀ x ∈ zs, goodB x = true) ∧ Moved w w' B b k (2 + 6 * m) := by
  obtain ⟨i0, hi, hz0, hz1, hz2⟩ := info_parts info_int
  have hB := h.lt
  have N := pick_any w B b k h (by omega) ((m : Int) + 1) (by omega) (by omega)
  clear h
  go_enter Tryd.func81, Tryd.ntmps81
  go_wp2_with fail
  refine N.mono ?_
  rintro e w1 ⟨x, rfl, x0, x1, ⟨⟨k1, hk1, hC⟩, hg⟩⟩
  obtain ⟨j0, rfl⟩ := Int.eq_ofNat_of_zero_le x0
  have hj0 : j0 ≤ m := by omega
  clear N x0 x1
  go_wp2_with fail
  go_loopw [5, 6] (fun v n wr => RunesRel w B b (k + 2 + 6 * m) m v n wr) (fun _ n _ => (intOf n).toNat)
  case atStart => exact ⟨j0, k1, [], rfl, World.ownsRow_nil _ _ _ _, by simp; omega, by simp, by omega, hC, hg⟩
  case round =>
    clear hC hg hk1
    obtain ⟨j, k2, zs, rfl, hI, hl, hgd, hk2, hC2, hg2⟩ := hrel
    have HG : Hid _ := hgd
    clear hgd
    by_cases hj : 0 < j
    · have R := rune_any wr B b k2 hC2 (by omega)
      have hsz := hg2.size
      go_wp2_with fail
      refine R.mono ?_
      rintro e w3 ⟨y, rfl, hy, ⟨⟨k3, hk3, hC3⟩, hg3⟩⟩
      have hI3 := World.ownsRow.kept hI hg3 (ints_ne hI (by omega))
      have hg33 := grown_and hg2 hg3
      have HY : Hid _ := hy
      have hsz3 := hg33.size
      clear R hI hg3 hy hg2 hC2
      go_wp2_with (at_builtin; refine wpList_append_own _ rfl _ _ 23 rfl w.heap.size 3 i0 (.int .i64 0) 1 8 Tryd.underlying23 hi hz0 hz1 hz2 rfl (by decide) _ _ _ rfl (hI3.alloc _) ⟨_, 0, none⟩ 1 1 [.int .i64 y] rfl rfl (cell_one_new _ _ _) (fun x hx => by simp at hx; subst hx; rfl) (by unfold maxLen; omega) (by omega) (by simp; omega) ?_; intro v' w4 hown' hgrow4 _)
      have hb4 : ∀ j, _ = some j → B ≤ j := fun j hj => Nat.le_trans hB.2 (hI3.lt j hj).1
      have hC4 := (hC3.kept (World.grownBy_alloc _ _ none) (fun k hk => by cases hk)).kept hgrow4 hb4
      have hg4 := grown_own (grown_own hg33 (World.grownBy_alloc _ _ none) (fun k hk => by cases hk)) hgrow4 (fun j hj => (hI3.lt j hj).1)
      refine ⟨⟨j - 1, k3, zs ++ [y], by go_num, Ints.snoc hown', by simp; omega, ?_, by omega, hC4, hg4⟩, by simp [intOf]; omega⟩
      intro z hz
      rcases List.mem_append.1 hz with h | h
      · exact HG.out z h
      · rw [List.mem_singleton.1 h]; exact HY.out
    · have hj0 : j = 0 := by omega
      subst hj0
      go_wp2
      go_ret
      exact ⟨_, zs, rfl, hI, by omega, HG.out, ⟨k2, by omega, hC2⟩, hg2⟩
end Go.Proofs.YtanfebccenfffaaDoor

namespace Go.Proofs.YtanfebccenfffaaDoor
open Go.RowKit

set_option maxRecDepth 100000 in
set_option maxHeartbeats 1000000 in
theorem of_any (w : World) (B b k : Nat) (h : Cur w B b k) (hk : k ≤ 1000000000) (ss : List ByteArray) (m : Nat) (hz : ss.length = m) (hm0 : 0 < m) (hm : m ≤ 1048576) (cs : Array Value) (hcs : cs = (ss.map Value.string).toArray) :
    Calls Tryd.prog 41 #[.pointer (some ⟨b, 0, none⟩), .slice (some ⟨w.heap.size, 0, none⟩) m m] (w.alloc (.cells cs 9)) fun e w' => ∃ s : ByteArray, e = .returned (.string s) ∧ s ∈ ss ∧ Moved w w' B b k 2 := by
  have hl := h.lt
  have ga := World.grownBy_alloc w (.cells cs 9) none
  have hC := h.kept ga (fun k hk => by cases hk)
  have N := pick_any _ B b k hC hk (m : Int) (by omega) (by omega)
  have hcell : ∀ j, j < m → (w.alloc (.cells cs 9)).cell? ⟨w.heap.size, j, none⟩ = some (.string (ss[j]?.getD ByteArray.empty)) := fun j hj => by
    rw [World.cell?_alloc_new, hcs]; simp [hz, hj]
  clear hC ga h
  obtain ⟨W, hW⟩ : ∃ W, W = w.alloc (.cells cs 9) := ⟨_, rfl⟩
  have hgl : w.heap.size < W.heap.size := by rw [hW]; simp
  have hgw : w.grownBy W (some b) := by rw [hW]; exact World.grownBy_alloc w _ _
  rw [← hW] at N hcell ⊢
  clear hW hcs
  generalize w.heap.size = g at *
  go_enter Tryd.func41, Tryd.ntmps41
  go_wp2_with fail
  refine N.mono ?_
  rintro e w' ⟨x, rfl, x0, x1, hM⟩
  obtain ⟨j, rfl⟩ := Int.eq_ofNat_of_zero_le x0
  have hj : j < m := by omega
  have hj2 : (j : Int) < (m : Int) := by omega
  obtain ⟨y, hy⟩ : ∃ y, ss[j]? = some y := ⟨_, List.getElem?_eq_getElem (by omega)⟩
  have c := hcell j hj
  rw [hy] at c
  have c1 : w'.cell? ⟨g, j, none⟩ = some (.string y) := by
    rw [World.cell?_of_block (w := W) (hM.2.block g hgl (fun e => by have := Option.some.inj e; omega))]
    exact c
  have HY : Hid _ := hy
  clear N hcell c hy
  go_wp2
  go_ret
  exact ⟨y, rfl, List.mem_of_getElem? HY.out, hM.1, grown_and hgw hM.2⟩
end Go.Proofs.YtanfebccenfffaaDoor

namespace Go.Proofs.YtanfebccenfffaaDoor
open Go.RowKit

def l6s : List ByteArray := [⟨#[]⟩, ⟨#[]⟩, ⟨#[91, 115, 104, 105, 102, 116, 101, 100, 93, 32]⟩, ⟨#[91, 108, 101, 118, 101, 108, 115, 32, 50, 93, 32]⟩, ⟨#[91, 108, 101, 118, 101, 108, 115, 32, 52, 93, 32, 91, 115, 104, 105, 102, 116, 101, 100, 93, 32]⟩, ⟨#[91, 108, 101, 118, 101, 108, 115, 32, 49, 93, 32]⟩]
def l7s : List ByteArray := [⟨#[99]⟩, ⟨#[108]⟩, ⟨#[122]⟩, ⟨#[97]⟩, ⟨#[110]⟩, ⟨#[65]⟩, ⟨#[111]⟩]
def l4s : List ByteArray := [⟨#[60]⟩, ⟨#[60, 60]⟩, ⟨#[60, 60, 60]⟩, ⟨#[60]⟩]
def l11s : List ByteArray := [⟨#[99, 104]⟩, ⟨#[108, 108]⟩, ⟨#[195, 165]⟩, ⟨#[195, 169]⟩, ⟨#[67, 72]⟩, ⟨#[113]⟩, ⟨#[97, 101]⟩, ⟨#[195, 177]⟩, ⟨#[97, 98, 99, 100]⟩, ⟨#[122, 204, 129]⟩, ⟨#[66]⟩]
theorem l6_bd : ∀ s ∈ l6s, s.size ≤ 21 := by decide
theorem l7_bd : ∀ s ∈ l7s, s.size ≤ 1 := by decide
theorem l4_bd : ∀ s ∈ l4s, s.size ≤ 3 := by decide
theorem l11_bd : ∀ s ∈ l11s, s.size ≤ 4 := by decide

def RtRel (w : World) (B b K M : Nat) (sv n : Value) (wr : World) : Prop :=
  ∃ (j k : Nat) (s : ByteArray), n = .int .i64 j ∧ j ≤ 3 ∧ sv = .string s ∧ s.size + 31 * j ≤ M ∧ k + 20 * j ≤ K ∧ Cur wr B b k ∧ w.grownBy wr (some b)
def RiRel (w : World) (B b K M : Nat) (sv n : Value) (wr : World) : Prop :=
  ∃ (j k : Nat) (s : ByteArray), n = .int .i64 j ∧ j ≤ 3 ∧ sv = .string s ∧ s.size + 9 * j ≤ M ∧ k + 4 * j ≤ K ∧ Cur wr B b k ∧ w.grownBy wr (some b)

set_option maxRecDepth 100000 in
set_option maxHeartbeats 4000000 in
theorem ruleText_any (w : World) (B b k : Nat) (h : Cur w B b k) (hk : k ≤ 700000000) :
    Calls Tryd.prog 38 #[.pointer (some ⟨b, 0, none⟩)] w fun e w' => ∃ s : ByteArray, e = .returned (.string s) ∧ s.size ≤ 300 ∧ Moved w w' B b k 64 := by
  have O6 := of_any w B b k h (by omega) l6s 6 rfl (by omega) (by omega) _ rfl
  clear h
  go_enter Tryd.func38, Tryd.ntmps38
  go_wp2_with fail
  refine O6.mono ?_
  rintro e w1 ⟨s1, rfl, m1, ⟨⟨k1, hk1, hC1⟩, hg1⟩⟩
  have hs1 := l6_bd s1 m1
  have N := pick_any w1 B b k1 hC1 (by omega) 4 (by omega) (by omega)
  clear O6 m1
  go_wp2_with fail
  refine N.mono ?_
  rintro e w2 ⟨x, rfl, x0, x1, ⟨⟨k2, hk2, hC2⟩, hg2⟩⟩
  obtain ⟨j0, rfl⟩ := Int.eq_ofNat_of_zero_le x0
  have hj0 : j0 ≤ 3 := by omega
  have hg22 := grown_and hg1 hg2
  clear N x0 x1 hC1 hg1 hg2
  go_wp2_with fail
  go_loopw [3, 4] (fun sv n wr => RtRel w B b (k + 64) 114 sv n wr) (fun _ n _ => (intOf n).toNat)
  case atStart => exact ⟨j0, k2, s1, rfl, hj0, rfl, by omega, by omega, hC2, hg22⟩
  case round =>
    clear hC2 hg22 hs1 hk2
    obtain ⟨j, k3, s3, rfl, hj3, rfl, hl3, hk3, hC3, hg3⟩ := hrel
    by_cases hj : 0 < j
    · have O7 := of_any wr B b k3 hC3 (by omega) l7s 7 rfl (by omega) (by omega) _ rfl
      go_wp2_with fail
      refine O7.mono ?_
      rintro e w4 ⟨s4, rfl, m4, ⟨⟨k4, hk4, hC4⟩, hg4⟩⟩
      have hs4 := l7_bd s4 m4
      have hz4 : ((⟨#[38, 32]⟩ : ByteArray) ++ s4).size ≤ 3 := by rw [ByteArray.size_append]; show 2 + s4.size ≤ 3; omega
      have hz5 : ((⟨#[38, 32]⟩ : ByteArray) ++ s4 ++ ⟨#[32]⟩).size ≤ 4 := by rw [ByteArray.size_append]; show _ + 1 ≤ 4; omega
      have N4 := pick_any w4 B b k4 hC4 (by omega) 3 (by omega) (by omega)
      have hg44 := grown_and hg3 hg4
      clear O7 m4 hC3 hg3 hg4
      have hz6 : (s3 ++ ((⟨#[38, 32]⟩ : ByteArray) ++ s4 ++ ⟨#[32]⟩)).size ≤ s3.size + 4 := by rw [ByteArray.size_append]; omega
      clear hz4
      go_wp2_with fail
      refine N4.mono ?_
      rintro e w5 ⟨y, rfl, y0, y1, ⟨⟨k5, hk5, hC5⟩, hg5⟩⟩
      obtain ⟨i0, rfl⟩ := Int.eq_ofNat_of_zero_le y0
      have hi0 : i0 ≤ 2 := by omega
      have hg55 := grown_and hg44 hg5
      have HST : Hid (RiRel w B b (k + 64 - 20 * (j - 1)) (114 - 31 * (j - 1)) (.string (s3 ++ ((⟨#[38, 32]⟩ : ByteArray) ++ s4 ++ ⟨#[32]⟩))) (.int .i64 (1 + (i0 : Int))) w5) := ⟨i0 + 1, k5, _, by go_num, by omega, rfl, by omega, by omega, hC5, hg55⟩
      clear N4 y0 y1 hC4 hg44 hg5 hC5 hg55
      go_wp2_with fail
      go_loopw [3, 5] (fun sv n wr => RiRel w B b (k + 64 - 20 * (j - 1)) (114 - 31 * (j - 1)) sv n wr) (fun _ n _ => (intOf n).toNat)
      case atStart => exact HST.out
      case round =>
        clear HST hz5 hz6 hs4
        obtain ⟨i, k6, s6, rfl, hi3, rfl, hl6, hk6, hC6, hg6⟩ := hrel
        by_cases hi : 0 < i
        · have O4 := of_any wr B b k6 hC6 (by omega) l4s 4 rfl (by omega) (by omega) _ rfl
          go_wp2_with fail
          refine O4.mono ?_
          rintro e w7 ⟨s7, rfl, m7, ⟨⟨k7, hk7, hC7⟩, hg7⟩⟩
          have hs7 := l4_bd s7 m7
          have hg77 := grown_and hg6 hg7
          have O11 := of_any w7 B b k7 hC7 (by omega) l11s 11 rfl (by omega) (by omega) _ rfl
          have hz7 : (s7 ++ (⟨#[32]⟩ : ByteArray)).size ≤ 4 := by rw [ByteArray.size_append]; show s7.size + 1 ≤ 4; omega
          clear O4 m7 hC6 hg6 hg7 hC7
          go_wp2_with fail
          refine O11.mono ?_
          rintro e w8 ⟨s8, rfl, m8, ⟨⟨k8, hk8, hC8⟩, hg8⟩⟩
          have hs8 := l11_bd s8 m8
          have hg88 := grown_and hg77 hg8
          have hz8 : (s7 ++ (⟨#[32]⟩ : ByteArray) ++ s8).size ≤ 8 := by rw [ByteArray.size_append]; omega
          have hz9 : (s7 ++ (⟨#[32]⟩ : ByteArray) ++ s8 ++ ⟨#[32]⟩).size ≤ 9 := by rw [ByteArray.size_append]; show _ + 1 ≤ 9; omega
          have hz10 : (s6 ++ (s7 ++ (⟨#[32]⟩ : ByteArray) ++ s8 ++ ⟨#[32]⟩)).size ≤ s6.size + 9 := by rw [ByteArray.size_append]; omega
          clear O11 m8 hg77 hg8
          go_wp2
          exact ⟨⟨i - 1, k8, _, by go_num, by omega, rfl, by omega, by omega, hC8, hg88⟩, by simp [intOf]; omega⟩
        · have hi1 : i = 0 := by omega
          subst hi1
          go_wp2
          exact ⟨⟨j - 1, k6, s6, by go_num, by omega, rfl, by omega, by omega, hC6, hg6⟩, by simp [intOf]; omega⟩
    · have hj1 : j = 0 := by omega
      subst hj1
      go_wp2
      go_ret
      exact ⟨s3, rfl, by omega, ⟨k3, by omega, hC3⟩, hg3⟩
end Go.Proofs.YtanfebccenfffaaDoor

namespace Go.Proofs.YtanfebccenfffaaDoor
open Go.RowKit

theorem foldl_push : ∀ (xs : List Int) (r : ByteArray), xs.foldl (fun r n => r.push (UInt8.ofNat n.toNat)) r = ⟨r.data ++ (xs.map fun x => x.toNat.toUInt8).toArray⟩
  | [], r => by simp
  | x :: xs, r => by
    simp only [List.map_cons, List.foldl_cons]
    rw [foldl_push xs]
    simp [ByteArray.push]

theorem add_zero_addr (b j : Nat) : (⟨b, 0, none⟩ : Addr).add j = ⟨b, j, none⟩ := by
  unfold Addr.add
  split
  · rename_i h; subst h; rfl
  · simp

theorem conv_new (w : World) (xs : List Int) (n : Nat) (hn : xs.length = n) (cs : Array Value) (hcs : cs = (xs.map (Value.int .u8)).toArray) :
    (convert 22 9 (.slice (some ⟨w.heap.size, 0, none⟩) n n)).run Tryd.prog (w.alloc (.cells cs 5)) = .ok (.string ⟨(xs.map fun x => x.toNat.toUInt8).toArray⟩) (w.alloc (.cells cs 5)) := by
  subst hcs
  rw [run_convert_bytes_string _ _ _ _ _ _ _ Tryd.underlying22 Tryd.underlying5 Tryd.underlying9]
  have hl := run_loadCells_list (P := Tryd.prog) (w.alloc (.cells (xs.map (Value.int .u8)).toArray 5)) ⟨w.heap.size, 0, none⟩ (xs.map (Value.int .u8)) (fun j v hj => by
    rw [add_zero_addr, World.cell?_alloc_new]; simpa using hj)
  simp only [List.length_map, hn] at hl
  rw [run_bytesToString _ _ n n xs hl, foldl_push]
  have he0 : ByteArray.empty.data = #[] := rfl
  rw [he0]
  simp
end Go.Proofs.YtanfebccenfffaaDoor

namespace Go.Proofs.YtanfebccenfffaaDoor
open Go.RowKit

theorem sz (u : ByteArray) (i : Nat) (x : UInt8) (h : i < u.size) : (u.extract 0 i ++ ⟨#[x]⟩ ++ u.extract i u.size).size = u.size + 1 ∧ (u.extract 0 i ++ ⟨#[x]⟩ ++ u.extract (i + 1) u.size).size = u.size ∧ (u.extract 0 i ++ u.extract (i + 1) u.size).size = u.size - 1 := by
  have e1 : (⟨#[x]⟩ : ByteArray).size = 1 := rfl
  simp only [ByteArray.size_append, ByteArray.size_extract, e1]
  omega

def SpRel (w : World) (B b K M : Nat) (tv n : Value) (wr : World) : Prop :=
  ∃ (j k : Nat) (t : ByteArray), n = .int .i64 j ∧ tv = .string t ∧ t.size + j ≤ M ∧ k + 6 * j ≤ K ∧ Cur wr B b k ∧ w.grownBy wr (some b)

set_option maxRecDepth 100000 in
set_option maxHeartbeats 4000000 in
theorem spoilt_any (w : World) (B b k : Nat) (h : Cur w B b k) (hk : k ≤ 800000000) (t ws : ByteArray) (ht : t.size ≤ 1000000) (hw0 : 0 < ws.size) (hw1 : ws.size ≤ 1000) :
    Calls Tryd.prog 40 #[.pointer (some ⟨b, 0, none⟩), .string t, .string ws] w fun e w' => ∃ t' : ByteArray, e = .returned (.string t') ∧ t'.size ≤ t.size + 2 ∧ Moved w w' B b k 14 := by
  have hB := h.lt
  have N := pick_any w B b k h (by omega) 3 (by omega) (by omega)
  clear h
  go_enter Tryd.func40, Tryd.ntmps40
  go_wp2_with fail
  refine N.mono ?_
  rintro e w1 ⟨x, rfl, x0, x1, ⟨⟨k1, hk1, hC⟩, hg⟩⟩
  obtain ⟨j0, rfl⟩ := Int.eq_ofNat_of_zero_le x0
  have hj0 : j0 ≤ 2 := by omega
  clear N x0 x1
  go_wp2_with fail
  go_loopw [1, 7] (fun tv n wr => SpRel w B b (k + 14) (t.size + 2) tv n wr) (fun _ n _ => (intOf n).toNat)
  case atStart => exact ⟨j0, k1, t, rfl, rfl, by omega, by omega, hC, hg⟩
  case round =>
    clear hC hg hk1
    obtain ⟨j, k2, u, rfl, rfl, hl, hk2, hC2, hg2⟩ := hrel
    by_cases hj : 0 < j
    · by_cases hu : 0 < u.size
      · have P := pick_any wr B b k2 hC2 (by omega) (u.size : Int) (by omega) (by omega)
        go_wp2_with fail
        refine P.mono ?_
        rintro e w3 ⟨i, rfl, i0, i1, ⟨⟨k3, hk3, hC3⟩, hg3⟩⟩
        obtain ⟨i, rfl⟩ := Int.eq_ofNat_of_zero_le i0
        have hi : i < u.size := by omega
        have P3 := pick_any w3 B b k3 hC3 (by omega) (ws.size : Int) (by omega) (by omega)
        clear P i0 i1 hC2
        go_wp2_with fail
        refine P3.mono ?_
        rintro e w4 ⟨c, rfl, c0, c1, ⟨⟨k4, hk4, hC4⟩, hg4⟩⟩
        obtain ⟨c, rfl⟩ := Int.eq_ofNat_of_zero_le c0
        have hc : c < ws.size := by omega
        have hbc : (ws[c]'hc).toNat < 256 := (ws[c]'hc).toNat_lt
        have V := fun a : Int => conv_new w4 [a] 1 rfl #[.int .u8 a] rfl
        have hC5 := hC4.kept (World.grownBy_alloc w4 (.cells #[.int .u8 ((ws[c]'hc).toNat : Int)] 5) none) (fun k hk => by cases hk)
        have P5 := pick_any _ B b k4 hC5 (by omega) 3 (by omega) (by omega)
        clear P3 c0 c1 hC3 hC4 hC5
        go_wp2_with fail
        refine P5.mono ?_
        rintro e w5 ⟨y, rfl, y0, y1, ⟨⟨k6, hk6, hC6⟩, hg6⟩⟩
        have hgA := grown_and hg2 (grown_and hg3 (grown_and hg4 (grown_and (World.grownBy_alloc w4 _ (some b)) hg6)))
        clear P5 V hg2 hg3 hg4 hg6
        have hy : y = 0 ∨ y = 1 ∨ 2 ≤ y := by omega
        rcases hy with rfl | rfl | hy
        · go_wp2_with fail
          go_quiet (fail)
          go_wp2
          exact ⟨⟨j - 1, k6, _, by go_num, rfl, by have := sz u i (ws[c]'hc) hi; omega, by omega, hC6.drewN _, grown_and hgA (drewN_grown _ _ _)⟩, by simp [intOf]; omega⟩
        · go_wp2_with fail
          go_quiet (fail)
          go_wp2
          exact ⟨⟨j - 1, k6, _, by go_num, rfl, by have := sz u i (ws[c]'hc) hi; omega, by omega, hC6.drewN _, grown_and hgA (drewN_grown _ _ _)⟩, by simp [intOf]; omega⟩
        · go_wp2_with fail
          go_quiet (fail)
          go_wp2
          exact ⟨⟨j - 1, k6, _, by go_num, rfl, by have := sz u i 0 hi; omega, by omega, hC6.drewN _, grown_and hgA (drewN_grown _ _ _)⟩, by simp [intOf]; omega⟩
      · go_wp2
        go_ret
        exact ⟨u, rfl, by omega, ⟨k2, by omega, hC2⟩, hg2⟩
    · go_wp2
      go_ret
      exact ⟨u, rfl, by omega, ⟨k2, by omega, hC2⟩, hg2⟩
end Go.Proofs.YtanfebccenfffaaDoor

namespace Go.Proofs.YtanfebccenfffaaDoor
open Go.RowKit

/-- Bytes that came in. -/
def Came (w : World) (a : Option Addr) (n : Nat) : Prop :=
  n = 0 ∨ ∃ cb off, a = some ⟨cb, off, none⟩ ∧ cb < w.heap.size ∧ ∀ j, j < n → ∃ x : Int, 0 ≤ x ∧ x ≤ 255 ∧ w.cell? ⟨cb, off + j, none⟩ = some (.int .u8 x)

theorem Came.below {w w' : World} {a : Option Addr} {n : Nat} (h : Came w a n) (hb : Below w.heap.size w w') : Came w' a n := by
  rcases h with h | ⟨cb, off, rfl, h1, h2⟩
  · exact .inl h
  · refine .inr ⟨cb, off, rfl, Nat.lt_of_lt_of_le h1 hb.size, fun j hj => ?_⟩
    obtain ⟨x, x0, x1, hx⟩ := h2 j hj
    exact ⟨x, x0, x1, by rw [hb.cell (p := ⟨cb, off + j, none⟩) h1]; exact hx⟩

theorem cur_new (w : World) (a : Option Addr) (n cap : Nat) (hn : n ≤ 1048576) (h : Came w a n) :
    Cur (w.alloc (.cells #[.slice a n cap, .int .i64 0, .int .u64 0] 55)) (w.heap.size + 1) w.heap.size 0 := by
  refine ⟨a, n, cap, 0, heap_alloc_new w _, by omega, by simp, hn, by omega, by omega, ?_⟩
  rcases h with h | ⟨cb, off, rfl, h1, h2⟩
  · exact .inl h
  · refine .inr ⟨cb, off, rfl, by omega, by omega, fun j hj => ?_⟩
    obtain ⟨x, x0, x1, hx⟩ := h2 j hj
    exact ⟨x, x0, x1, (World.cell?_of_block (w := w) (a := ⟨cb, off + j, none⟩) (Below.heap_alloc _ _ _ h1)).trans hx⟩

theorem cur_below {w w' : World} {o : Obj} (hg : (w.alloc o).grownBy w' (some w.heap.size)) : Below w.heap.size w w' :=
  Below.grown ((Below.refl _ _).alloc (Nat.le_refl _) _) hg (by simp) (fun j hj => by cases hj; exact Nat.le_refl _)

theorem ints_low {w : World} {B B' : Nat} {v : Value} {zs : List Int} (h : Ints w B' v zs) (hB : B ≤ B') : Ints w B v zs := by
  obtain ⟨h1, h2⟩ := h
  refine ⟨h1, ?_⟩
  rcases h2 with h2 | ⟨g, cap, cur, a, b, c⟩
  · exact .inl h2
  · exact .inr ⟨g, cap, cur, a, by omega, c⟩

theorem made_zero (n : Nat) : (madeCells (Value.int .i64 0).cells (n * 1)).toList = (List.replicate n (0 : Int)).map (Value.int .i64) := by
  have h := toList_madeCells_one (Value.int .i64 0) n
  simpa [Value.cells] using h
end Go.Proofs.YtanfebccenfffaaDoor

namespace Go.Proofs.YtanfebccenfffaaDoor
open Go.RowKit

def lrs : List ByteArray := [⟨#[38, 32]⟩, ⟨#[60]⟩, ⟨#[38, 32, 45]⟩, ⟨#[38, 32, 204, 129, 32, 60, 32, 97]⟩, ⟨#[91, 108, 101, 118, 101, 108, 115, 32, 53, 93]⟩, ⟨#[91, 108, 101, 118, 101, 108, 115]⟩, ⟨#[38, 32, 97, 98, 99, 100, 101]⟩, ⟨#[60, 32, 97]⟩, ⟨#[38, 32, 97, 32, 60, 32, 97]⟩, ⟨#[38, 32, 97, 32, 60, 32, 97, 32, 60, 32, 97]⟩, ⟨#[38, 32, 255, 32, 60, 32, 98]⟩]
theorem lr_bd : ∀ s ∈ lrs, s.size ≤ 12 := by decide

set_option maxRecDepth 100000 in
set_option maxHeartbeats 4000000 in
theorem drawRead_any (w : World) (a : Option Addr) (n cap : Nat) (hn : n ≤ 1048576) (h : Came w a n) :
    Calls Tryd.prog 17 #[.slice a n cap] w fun e w' => ∃ s : ByteArray, e = .returned (.string s) ∧ s.size ≤ 400 ∧ Below w.heap.size w w' := by
  have hC0 := cur_new w a n cap hn h
  have R := ruleText_any _ _ _ 0 hC0 (by omega)
  clear h hC0
  go_enter Tryd.func17, Tryd.ntmps17
  go_wp2_with fail
  refine R.mono ?_
  rintro e w1 ⟨s, rfl, hs, ⟨⟨k1, hk1, hC1⟩, hg1⟩⟩
  have P := pick_any w1 _ _ k1 hC1 (by omega) 6 (by omega) (by omega)
  clear R hC1
  go_wp2_with fail
  refine P.mono ?_
  rintro e w2 ⟨x, rfl, x0, x1, ⟨⟨k2, hk2, hC2⟩, hg2⟩⟩
  have hg22 := grown_and hg1 hg2
  clear P hg1 hg2
  by_cases h0 : x = 0
  · subst h0
    have S := spoilt_any w2 _ _ k2 hC2 (by omega) s ⟨#[60, 38, 32, 97, 91]⟩ (by omega) (by decide) (by decide)
    go_wp2_with fail
    refine S.mono ?_
    rintro e w3 ⟨t, rfl, ht, ⟨_, hg3⟩⟩
    clear S
    go_wp2
    go_ret
    exact ⟨t, rfl, by omega, cur_below (grown_and hg22 hg3)⟩
  · by_cases h1 : x = 1
    · subst h1
      have O := of_any w2 _ _ k2 hC2 (by omega) lrs 11 rfl (by omega) (by omega) _ rfl
      go_wp2_with fail
      refine O.mono ?_
      rintro e w3 ⟨t, rfl, mt, ⟨_, hg3⟩⟩
      have hbt := lr_bd t mt
      have hz : (s ++ t).size ≤ 400 := by rw [ByteArray.size_append]; omega
      have HZ : Hid ((s ++ t).size ≤ 400) := hz
      clear O mt hz
      go_wp2
      go_ret
      exact ⟨s ++ t, rfl, HZ.out, cur_below (grown_and hg22 hg3)⟩
    · go_wp2
      go_ret
      exact ⟨s, rfl, by omega, cur_below hg22⟩
end Go.Proofs.YtanfebccenfffaaDoor

namespace Go.Proofs.YtanfebccenfffaaDoor
open Go.RowKit

def IsRow (k : IntKind) (w : World) (a : Option Addr) (len cap : Nat) (zs : List Int) : Prop :=
  (a = none ∧ len = 0 ∧ cap = 0 ∧ zs = []) ∨
  ∃ x, a = some x ∧ len ≤ cap ∧ cap ≤ maxLen ∧ zs.length = cap ∧ (∀ i, i < zs.length → w.cell? (x.add i) = some (.int k (zs.getD i 0))) ∧ ∀ n ∈ zs, (Lit.int k n).wf = true
end Go.Proofs.YtanfebccenfffaaDoor

namespace Go.Proofs.YtanfebccenfffaaDoor
open Go.ChangeShapes Go.WideShapes Go.ChangeAt Go.WideMaps Go.WideElems Go.RowKit

theorem came_of {w : World} {a : Option Addr} {len cap : Nat} {zs : List Int} (h : IsRow .u8 w a len cap zs) : Came w a len := by
  rcases h with ⟨rfl, rfl, rfl, rfl⟩ | ⟨x, rfl, hl, hc, hz, hcell, hwf⟩
  · exact .inl rfl
  · by_cases h0 : len = 0
    · exact .inl h0
    · obtain ⟨b, off, rfl, hc2⟩ := ints_at hcell (by omega)
      have hlt : b < w.heap.size := by
        have h1 := hc2 0 (by omega)
        apply Classical.byContradiction
        intro hn
        have : w.heap[b]? = none := by simp; omega
        simp [World.cell?, this] at h1
      refine .inr ⟨b, off, rfl, hlt, fun j hj => ?_⟩
      have hm : zs.getD j 0 ∈ zs := by
        rw [List.getD_eq_getElem?_getD, List.getElem?_eq_getElem (show j < zs.length by omega)]; exact List.getElem_mem _
      have hw := hwf _ hm
      have hx : 0 ≤ zs.getD j 0 ∧ zs.getD j 0 ≤ 255 := by simpa [Lit.wf, IntKind.min, IntKind.max, IntKind.signed, IntKind.bits] using hw
      exact ⟨_, hx.1, hx.2, hc2 j (by omega)⟩
end Go.Proofs.YtanfebccenfffaaDoor
