/- The cursor over drawn bytes, for chapter 6's draws: of, bytes, keyBytes, texts out of bytes. -/
import Derived.Test.YtbgomhgohphglaaDoorCur
import Derived.Test.YtbgomhgohphglaaDoorBy6
import Derived.Laws.BytesArg
import Derived.BigCall
import Derived.OwnWalk
namespace Go.Proofs.YtbgomhgohphglaaDoor
open Go.RowKit

theorem Moved.up {w w' : World} {B b k m m' : Nat} (h : Moved w w' B b k m) (hm : m ≤ m') : Moved w w' B b k m' := by
  obtain ⟨⟨k', h1, h2⟩, h3⟩ := h
  exact ⟨⟨k', by omega, h2⟩, h3⟩

theorem Moved.then {w w1 w2 : World} {B b k m : Nat} (h : Moved w w1 B b k m) {m2 : Nat} (h2 : ∀ k', k' ≤ k + m → Cur w1 B b k' → Moved w1 w2 B b k' m2) : Moved w w2 B b k (m + m2) := by
  obtain ⟨⟨k', a1, a2⟩, a3⟩ := h
  obtain ⟨⟨k2, b1, b2⟩, b3⟩ := h2 k' a1 a2
  exact ⟨⟨k2, by omega, b2⟩, grown_and a3 b3⟩

/-- Bytes that came in. -/
def Came (w : World) (a : Option Addr) (n : Nat) : Prop :=
  n = 0 ∨ ∃ cb off, a = some ⟨cb, off, none⟩ ∧ cb < w.heap.size ∧ ∀ j, j < n → ∃ x : Int, 0 ≤ x ∧ x ≤ 255 ∧ w.cell? ⟨cb, off + j, none⟩ = some (.int .u8 x)

theorem Came.below {w w' : World} {a : Option Addr} {n : Nat} (h : Came w a n) (hb : Below w.heap.size w w') : Came w' a n := by
  rcases h with h | ⟨cb, off, rfl, h1, h2⟩
  · exact .inl h
  · refine .inr ⟨cb, off, rfl, Nat.lt_of_lt_of_le h1 hb.size, fun j hj => ?_⟩
    obtain ⟨x, x0, x1, hx⟩ := h2 j hj
    exact ⟨x, x0, x1, by rw [hb.cell (p := ⟨cb, off + j, none⟩) h1]; exact hx⟩

theorem cur_new (w : World) (a : Option Addr) (n cap : Nat) (hn : n ≤ 1048576) (h : Came w a n) :
    Cur (w.alloc (.cells #[.slice a n cap, .int .i64 0, .int .u64 0] 68)) (w.heap.size + 1) w.heap.size 0 := by
  refine ⟨a, n, cap, 0, heap_alloc_new w _, by omega, by simp, hn, by omega, by omega, ?_⟩
  rcases h with h | ⟨cb, off, rfl, h1, h2⟩
  · exact .inl h
  · refine .inr ⟨cb, off, rfl, by omega, by omega, fun j hj => ?_⟩
    obtain ⟨x, x0, x1, hx⟩ := h2 j hj
    exact ⟨x, x0, x1, (World.cell?_of_block (w := w) (a := ⟨cb, off + j, none⟩) (Below.heap_alloc _ _ _ h1)).trans hx⟩

theorem cur_below {w w' : World} {o : Obj} (hg : (w.alloc o).grownBy w' (some w.heap.size)) : Below w.heap.size w w' :=
  Below.grown ((Below.refl _ _).alloc (Nat.le_refl _) _) hg (by simp) (fun j hj => by cases hj; exact Nat.le_refl _)

set_option maxRecDepth 100000 in
set_option maxHeartbeats 1000000 in
theorem of_any (w : World) (B b k : Nat) (h : Cur w B b k) (hk : k ≤ 1000000000) (ss : List ByteArray) (m : Nat) (hz : ss.length = m) (hm0 : 0 < m) (hm : m ≤ 1048576) (cs : Array Value) (hcs : cs = (ss.map Value.string).toArray) :
    Calls Tryd.prog 69 #[.pointer (some ⟨b, 0, none⟩), .slice (some ⟨w.heap.size, 0, none⟩) m m] (w.alloc (.cells cs 9)) fun e w' => ∃ s : ByteArray, e = .returned (.string s) ∧ s ∈ ss ∧ Moved w w' B b k 2 := by
  have hl := h.lt
  have ga := World.grownBy_alloc w (.cells cs 9) none
  have hC := h.kept ga (fun k hk => by cases hk)
  have N := pick_any _ B b k hC hk (m : Int) (by omega) (by omega)
  have hcell : ∀ j, j < m → (w.alloc (.cells cs 9)).cell? ⟨w.heap.size, j, none⟩ = some (.string (ss[j]?.getD ByteArray.empty)) := fun j hj => by
    rw [World.cell?_alloc_new, hcs]; simp [hz, hj]
  clear hC ga h
  obtain ⟨W, hW⟩ : ∃ W, W = w.alloc (.cells cs 9) := ⟨_, rfl⟩
  have hgl : w.heap.size < W.heap.size := by rw [hW]; simp
  have hgw : w.grownBy W (some b) := by rw [hW]; exact World.grownBy_alloc w _ _
  rw [← hW] at N hcell ⊢
  clear hW hcs
  generalize w.heap.size = g at *
  go_enter Tryd.func69, Tryd.ntmps69
  go_wp2_with fail
  refine N.mono ?_
  rintro e w' ⟨x, rfl, x0, x1, hM⟩
  obtain ⟨j, rfl⟩ := Int.eq_ofNat_of_zero_le x0
  have hj : j < m := by omega
  have hj2 : (j : Int) < (m : Int) := by omega
  obtain ⟨y, hy⟩ : ∃ y, ss[j]? = some y := ⟨_, List.getElem?_eq_getElem (by omega)⟩
  have c := hcell j hj
  rw [hy] at c
  have c1 : w'.cell? ⟨g, j, none⟩ = some (.string y) := by
    rw [World.cell?_of_block (w := W) (hM.2.block g hgl (fun e => by have := Option.some.inj e; omega))]
    exact c
  have HY : Hid _ := hy
  clear N hcell c hy
  go_wp2
  go_ret
  exact ⟨y, rfl, List.mem_of_getElem? HY.out, hM.1, grown_and hgw hM.2⟩

theorem info_byteC : (Tryd.prog.info? 5).map (fun i => (i.zero, i.size, i.bytes)) = some (some (.int .u8 0), 1, 1) := by kernel_rfl

def Byz (w : World) (base : Nat) (v : Value) (xs : List Int) : Prop := w.ownsRow base 5 1 v xs.length (xs.map (Value.int .u8))

theorem Byz.snoc {w : World} {base : Nat} {v : Value} {zs : List Int} {x : Int} (h : w.ownsRow base 5 1 v (zs.length + 1) (zs.map (Value.int .u8) ++ [.int .u8 x])) : Byz w base v (zs ++ [x]) := by
  unfold Byz; simpa using h

theorem own_ne {w : World} {B b e n : Nat} {v : Value} {xs : List Value} (h : w.ownsRow B e 1 v n xs) (hb : b < B) : v.ownBlock = none ∨ v.ownBlock ≠ some b := by
  cases c : v.ownBlock with
  | none => exact .inl rfl
  | some g =>
    refine .inr fun e => ?_
    have := (h.lt g c).1
    have := Option.some.inj e
    omega

def BytesRel (w : World) (B b K m : Nat) (v n : Value) (wr : World) : Prop :=
  ∃ (j k : Nat) (zs : List Int), n = .int .i64 j ∧ Byz wr w.heap.size v zs ∧ zs.length + j ≤ m ∧ k + j ≤ K ∧ Cur wr B b k ∧ w.grownBy wr (some b)

set_option maxRecDepth 100000 in
set_option maxHeartbeats 2000000 in
theorem cbytes_any (w : World) (B b k m : Nat) (h : Cur w B b k) (hk : k ≤ 800000000) (hm : m ≤ 1000) :
    Calls Tryd.prog 39 #[.pointer (some ⟨b, 0, none⟩), .int .i64 (m : Int)] w fun e w' => ∃ v zs, e = .returned v ∧ Byz w' w.heap.size v zs ∧ zs.length ≤ m ∧ Moved w w' B b k (2 + m) := by
  obtain ⟨i0, hi, hz0, hz1, hz2⟩ := info_parts info_byteC
  have hB := h.lt
  have N := pick_any w B b k h (by omega) ((m : Int) + 1) (by omega) (by omega)
  clear h
  go_enter Tryd.func39, Tryd.ntmps39
  go_wp2_with fail
  refine N.mono ?_
  rintro e w1 ⟨x, rfl, x0, x1, ⟨⟨k1, hk1, hC⟩, hg⟩⟩
  obtain ⟨j0, rfl⟩ := Int.eq_ofNat_of_zero_le x0
  have hj0 : j0 ≤ m := by omega
  clear N x0 x1
  go_wp2_with fail
  go_loopw [5, 6] (fun v n wr => BytesRel w B b (k + 2 + m) m v n wr) (fun _ n _ => (intOf n).toNat)
  case atStart => exact ⟨j0, k1, [], rfl, World.ownsRow_nil _ _ _ _, by simp; omega, by omega, hC, hg⟩
  case round =>
    clear hC hg hk1
    obtain ⟨j, k2, zs, rfl, hI, hl, hk2, hC2, hg2⟩ := hrel
    by_cases hj : 0 < j
    · have R := next_any wr B b k2 hC2 (by omega)
      have hsz := hg2.size
      go_wp2_with fail
      refine R.mono ?_
      rintro e w3 ⟨y, rfl, y0, y1, hC3, hg3⟩
      have hI3 := World.ownsRow.kept hI hg3 (own_ne hI (by omega))
      have hg33 := grown_and hg2 hg3
      have hsz3 := hg33.size
      clear R hI hg3 hg2 hC2
      go_wp2_with (at_builtin; refine wpList_append_own _ rfl _ _ 22 rfl w.heap.size 5 i0 (.int .u8 0) 1 1 Tryd.underlying22 hi hz0 hz1 hz2 rfl (by decide) _ _ _ rfl (hI3.alloc _) ⟨_, 0, none⟩ 1 1 [.int .u8 y] rfl rfl (cell_one_new _ _ _) (fun x hx => by simp at hx; subst hx; rfl) (by unfold maxLen; omega) (by omega) (by simp; omega) ?_; intro v' w4 hown' hgrow4 _)
      have hb4 : ∀ j, _ = some j → B ≤ j := fun j hj => Nat.le_trans hB.2 (hI3.lt j hj).1
      have hC4 := (hC3.kept (World.grownBy_alloc _ _ none) (fun k hk => by cases hk)).kept hgrow4 hb4
      have hg4 := grown_own (grown_own hg33 (World.grownBy_alloc _ _ none) (fun k hk => by cases hk)) hgrow4 (fun j hj => (hI3.lt j hj).1)
      exact ⟨⟨j - 1, k2 + 1, zs ++ [y], by go_num, Byz.snoc hown', by simp; omega, by omega, hC4, hg4⟩, by simp [intOf]; omega⟩
    · have hj0 : j = 0 := by omega
      subst hj0
      go_wp2
      go_ret
      exact ⟨_, zs, rfl, hI, by omega, ⟨k2, by omega, hC2⟩, hg2⟩

theorem conv_row {w : World} {B : Nat} {v : Value} {xs : List Int} (h : Byz w B v xs) :
    (convert 22 9 v).run Tryd.prog w = .ok (.string ⟨(xs.map fun x => x.toNat.toUInt8).toArray⟩) w := by
  rcases h.2 with ⟨rfl, hn⟩ | ⟨g, cap, cur, rfl, _, hg, _, _, _, htk⟩
  · have e : xs = [] := by simpa using hn
    subst e
    exact run_convert_bytes_nil w 22 5 Tryd.underlying22 Tryd.underlying5 0 0 9 Tryd.underlying9
  · rw [run_convert_bytes_string _ _ _ _ _ _ _ Tryd.underlying22 Tryd.underlying5 Tryd.underlying9]
    have hl := run_loadCells_list (P := Tryd.prog) w ⟨g, 0, none⟩ (xs.map (Value.int .u8)) (fun j v hj => h.cells (g := g) rfl j v hj)
    simp only [List.length_map] at hl
    rw [run_bytesToString _ _ _ _ xs hl, foldl_push6]
    have he0 : ByteArray.empty.data = #[] := rfl
    rw [he0]
    simp

theorem size_map (xs : List Int) : (⟨(xs.map fun x => x.toNat.toUInt8).toArray⟩ : ByteArray).size = xs.length := by
  show (xs.map fun x => x.toNat.toUInt8).toArray.size = xs.length
  simp

theorem made_bytes (n : Nat) : (madeCells (Value.int .u8 0).cells (n * 1)).toList = (List.replicate n (0 : Int)).map (Value.int .u8) := by
  have h := toList_madeCells_one (Value.int .u8 0) n
  simpa [Value.cells] using h

theorem conv_made {w : World} {B m g : Nat} (h : w.ownsRow B 5 1 (.slice (some ⟨g, 0, none⟩) m m) m (madeCells (Value.int .u8 0).cells (m * 1)).toList) :
    (convert 22 9 (.slice (some ⟨g, 0, none⟩) m m)).run Tryd.prog w = .ok (.string ⟨((List.replicate m (0 : Int)).map fun x => x.toNat.toUInt8).toArray⟩) w := by
  rw [made_bytes] at h
  exact conv_row (B := B) (by unfold Byz; simpa using h)


def keyA : List ByteArray := [⟨#[]⟩, ⟨#[97]⟩, ⟨#[97, 98]⟩, ⟨#[97, 98, 99]⟩, ⟨#[98]⟩, ⟨#[98, 97]⟩, ⟨#[99, 111, 109, 109, 111, 110, 45, 111, 110, 101]⟩, ⟨#[99, 111, 109, 109, 111, 110, 45, 116, 119, 111]⟩, ⟨#[99, 111, 109, 109, 111, 110, 45, 116, 104, 114, 101, 101]⟩, ⟨#[122]⟩]
def keyB : List ByteArray := [⟨#[]⟩, ⟨#[49]⟩, ⟨#[50]⟩]
theorem keyA_le : ∀ s ∈ keyA, s.size ≤ 12 := by decide
theorem keyB_le : ∀ s ∈ keyB, s.size ≤ 1 := by decide

set_option maxRecDepth 100000 in
set_option maxHeartbeats 2000000 in
theorem keyBytes_any (w : World) (B b k : Nat) (h : Cur w B b k) (hk : k ≤ 900000000) :
    Calls Tryd.prog 38 #[.pointer (some ⟨b, 0, none⟩)] w fun e w' => ∃ s : ByteArray, e = .returned (.string s) ∧ s.size ≤ 13 ∧ Moved w w' B b k 4 := by
  have O1 := of_any w B b k h (by omega) keyA 10 rfl (by omega) (by omega) _ rfl
  clear h
  go_enter Tryd.func38, Tryd.ntmps38
  go_wp2_with fail
  refine O1.mono ?_
  rintro e w1 ⟨s1, rfl, m1, M1⟩
  obtain ⟨⟨k1, hk1, C1⟩, g1⟩ := M1
  have O2 := of_any w1 B b k1 C1 (by omega) keyB 3 rfl (by omega) (by omega) _ rfl
  have h1 := keyA_le s1 m1
  have HG1 : Hid (w.grownBy w1 (some b)) := g1
  clear O1 C1 g1 m1
  go_wp2_with fail
  refine O2.mono ?_
  rintro e w2 ⟨s2, rfl, m2, M2⟩
  obtain ⟨⟨k2, hk2, C2⟩, g2⟩ := M2
  have h2 := keyB_le s2 m2
  have HC2 : Hid (Cur w2 B b k2) := C2
  have HG2 : Hid (w.grownBy w2 (some b)) := grown_and HG1.out g2
  clear O2 C2 g2 m2
  go_wp2
  go_ret
  exact ⟨_, rfl, by rw [ByteArray.size_append]; omega, ⟨k2, by omega, HC2.out⟩, HG2.out⟩
end Go.Proofs.YtbgomhgohphglaaDoor
