/- Contracts of the cursor's bytes, of, spoilt and text: texts of bounded length, whatever the bytes. -/
import Derived.Test.YtahnbomjnnkclaaDraw1
import Derived.Test.YtahnbomjnnkclaaEncode
namespace Go.Proofs.Ytahnbomjnnkclaa
open Go.RowKit

theorem info_byte : (Try.prog.info? 5).map (fun i => (i.zero, i.size, i.bytes)) = some (some (.int .u8 0), 1, 1) := by kernel_rfl

def Bys (w : World) (base : Nat) (v : Value) (xs : List Int) : Prop := w.ownsRow base 5 1 v xs.length (xs.map (Value.int .u8))

theorem Bys.snoc {w : World} {base : Nat} {v : Value} {zs : List Int} {x : Int} (h : w.ownsRow base 5 1 v (zs.length + 1) (zs.map (Value.int .u8) ++ [.int .u8 x])) : Bys w base v (zs ++ [x]) := by
  unfold Bys; simpa using h

theorem own_ne {w : World} {B b e n : Nat} {v : Value} {xs : List Value} (h : w.ownsRow B e 1 v n xs) (hb : b < B) : v.ownBlock = none ∨ v.ownBlock ≠ some b := by
  cases c : v.ownBlock with
  | none => exact .inl rfl
  | some g =>
    refine .inr fun e => ?_
    have := (h.lt g c).1
    have := Option.some.inj e
    omega

def BytesRel (w : World) (B b K m : Nat) (v n : Value) (wr : World) : Prop :=
  ∃ (j k : Nat) (zs : List Int), n = .int .i64 j ∧ Bys wr w.heap.size v zs ∧ zs.length + j ≤ m ∧ k + j ≤ K ∧ Cur wr B b k ∧ w.grownBy wr (some b)

set_option maxRecDepth 100000 in
set_option maxHeartbeats 2000000 in
theorem bytes_any (w : World) (B b k m : Nat) (h : Cur w B b k) (hk : k ≤ 800000000) (hm : m ≤ 1000) :
    Calls Try.prog 32 #[.pointer (some ⟨b, 0, none⟩), .int .i64 (m : Int)] w fun e w' => ∃ v zs, e = .returned v ∧ Bys w' w.heap.size v zs ∧ zs.length ≤ m ∧ Moved w w' B b k (2 + m) := by
  obtain ⟨i0, hi, hz0, hz1, hz2⟩ := info_parts info_byte
  have hB := h.lt
  have N := pick_any w B b k h (by omega) ((m : Int) + 1) (by omega) (by omega)
  clear h
  go_enter Try.func32, Try.ntmps32
  go_wp2_with fail
  refine N.mono ?_
  rintro e w1 ⟨x, rfl, x0, x1, ⟨⟨k1, hk1, hC⟩, hg⟩⟩
  obtain ⟨j0, rfl⟩ := Int.eq_ofNat_of_zero_le x0
  have hj0 : j0 ≤ m := by omega
  clear N x0 x1
  go_wp2_with fail
  go_loopw [5, 6] (fun v n wr => BytesRel w B b (k + 2 + m) m v n wr) (fun _ n _ => (intOf n).toNat)
  case atStart => exact ⟨j0, k1, [], rfl, World.ownsRow_nil _ _ _ _, by simp; omega, by omega, hC, hg⟩
  case round =>
    clear hC hg hk1
    obtain ⟨j, k2, zs, rfl, hI, hl, hk2, hC2, hg2⟩ := hrel
    by_cases hj : 0 < j
    · have R := next_any wr B b k2 hC2 (by omega)
      have hsz := hg2.size
      go_wp2_with fail
      refine R.mono ?_
      rintro e w3 ⟨y, rfl, y0, y1, hC3, hg3⟩
      have hI3 := World.ownsRow.kept hI hg3 (own_ne hI (by omega))
      have hg33 := grown_and hg2 hg3
      have hsz3 := hg33.size
      clear R hI hg3 hg2 hC2
      go_wp2_with (at_builtin; refine wpList_append_own _ rfl _ _ 22 rfl w.heap.size 5 i0 (.int .u8 0) 1 1 Try.underlying22 hi hz0 hz1 hz2 rfl (by decide) _ _ _ rfl (hI3.alloc _) ⟨_, 0, none⟩ 1 1 [.int .u8 y] rfl rfl (cell_one_new _ _ _) (fun x hx => by simp at hx; subst hx; rfl) (by unfold maxLen; omega) (by omega) (by simp; omega) ?_; intro v' w4 hown' hgrow4 _)
      have hb4 : ∀ j, _ = some j → B ≤ j := fun j hj => Nat.le_trans hB.2 (hI3.lt j hj).1
      have hC4 := (hC3.kept (World.grownBy_alloc _ _ none) (fun k hk => by cases hk)).kept hgrow4 hb4
      have hg4 := grown_own (grown_own hg33 (World.grownBy_alloc _ _ none) (fun k hk => by cases hk)) hgrow4 (fun j hj => (hI3.lt j hj).1)
      exact ⟨⟨j - 1, k2 + 1, zs ++ [y], by go_num, Bys.snoc hown', by simp; omega, by omega, hC4, hg4⟩, by simp [intOf]; omega⟩
    · have hj0 : j = 0 := by omega
      subst hj0
      go_wp2
      go_ret
      exact ⟨_, zs, rfl, hI, by omega, ⟨k2, by omega, hC2⟩, hg2⟩

set_option maxRecDepth 100000 in
set_option maxHeartbeats 1000000 in
theorem of_any (w : World) (B b k : Nat) (h : Cur w B b k) (hk : k ≤ 1000000000) (ss : List ByteArray) (m : Nat) (hz : ss.length = m) (hm0 : 0 < m) (hm : m ≤ 1048576) (cs : Array Value) (hcs : cs = (ss.map Value.string).toArray) :
    Calls Try.prog 33 #[.pointer (some ⟨b, 0, none⟩), .slice (some ⟨w.heap.size, 0, none⟩) m m] (w.alloc (.cells cs 9)) fun e w' => ∃ s : ByteArray, e = .returned (.string s) ∧ s ∈ ss ∧ Moved w w' B b k 2 := by
  have hl := h.lt
  have ga := World.grownBy_alloc w (.cells cs 9) none
  have hC := h.kept ga (fun k hk => by cases hk)
  have N := pick_any _ B b k hC hk (m : Int) (by omega) (by omega)
  have hcell : ∀ j, j < m → (w.alloc (.cells cs 9)).cell? ⟨w.heap.size, j, none⟩ = some (.string (ss[j]?.getD ByteArray.empty)) := fun j hj => by
    rw [World.cell?_alloc_new, hcs]; simp [hz, hj]
  clear hC ga h
  obtain ⟨W, hW⟩ : ∃ W, W = w.alloc (.cells cs 9) := ⟨_, rfl⟩
  have hgl : w.heap.size < W.heap.size := by rw [hW]; simp
  have hgw : w.grownBy W (some b) := by rw [hW]; exact World.grownBy_alloc w _ _
  rw [← hW] at N hcell ⊢
  clear hW hcs
  generalize w.heap.size = g at *
  go_enter Try.func33, Try.ntmps33
  go_wp2_with fail
  refine N.mono ?_
  rintro e w' ⟨x, rfl, x0, x1, hM⟩
  obtain ⟨j, rfl⟩ := Int.eq_ofNat_of_zero_le x0
  have hj : j < m := by omega
  have hj2 : (j : Int) < (m : Int) := by omega
  obtain ⟨y, hy⟩ : ∃ y, ss[j]? = some y := ⟨_, List.getElem?_eq_getElem (by omega)⟩
  have c := hcell j hj
  rw [hy] at c
  have c1 : w'.cell? ⟨g, j, none⟩ = some (.string y) := by
    rw [World.cell?_of_block (w := W) (hM.2.block g hgl (fun e => by have := Option.some.inj e; omega))]
    exact c
  have HY : Hid _ := hy
  clear N hcell c hy
  go_wp2
  go_ret
  exact ⟨y, rfl, List.mem_of_getElem? HY.out, hM.1, grown_and hgw hM.2⟩
end Go.Proofs.Ytahnbomjnnkclaa
