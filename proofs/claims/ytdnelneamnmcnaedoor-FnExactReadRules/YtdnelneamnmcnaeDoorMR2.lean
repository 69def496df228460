/- Texts of mine laid together: RdrB, PBase, IIdx, Blk, IWord, PRule. -/
import Derived.Test.YtdnelneamnmcnaeDoorRdBox
import Derived.Test.YtdnelneamnmcnaeDoorMarkR
import Derived.Test.YtdnelneamnmcnaeDoorMR1
import Derived.Test.YtdnelneamnmcnaeDoorSBase
import Derived.Lib.Bytealg
import Derived.WalkMore
import Derived.Lib.OthersKept
import Derived.WalkSmall
import Derived.Lib.IndexLaws
import Derived.Deep.QuietTactic
import Derived.BigQuiet
import Derived.Lib.Strings
import Derived.Lib.CutLaws
import Derived.Lib.TrimByte
import Derived.Test.YtdnelneamnmcnaeDoorRd
namespace Go.Proofs.YtdnelneamnmcnaeDoor
open Go.RowKit

theorem EntsD.up {w : World} {B T T' : Nat} {v : Value} {es : List Ent} (h : EntsD w B T v es) (hT : T ≤ T') : EntsD w B T' v es := by
  obtain ⟨xs, hl, h1, h2, h3, h4, h5⟩ := h
  exact ⟨xs, hl, h1, h2, h3, fun g hg => Nat.lt_of_lt_of_le (h4 g hg) hT, fun i x g hx hg => Nat.lt_of_lt_of_le (h5 i x g hx hg) hT⟩

theorem EntsD.grown {u u' : World} {B T b : Nat} {v : Value} {es : List Ent} (h : EntsD u B T v es) (hg : u.grownBy u' (some b)) (hb : b < B) : EntsD u' B T v es := by
  have ne : ∀ {v : Value}, (∀ g, v.ownBlock = some g → B ≤ g) → v.ownBlock = none ∨ v.ownBlock ≠ some b := fun {v} h => by
    cases e : v.ownBlock with
    | none => exact .inl rfl
    | some g =>
      refine .inr fun c => ?_
      have := h g e
      cases c
      omega
  obtain ⟨xs, hl, h1, h2, h3, h4, h5⟩ := h
  refine ⟨xs, hl, World.ownsRow.kept h1 hg (ne fun g hg => (World.ownsRow.lt h1 g hg).1), fun k e he => ?_, h3, h4, h5⟩
  obtain ⟨x, hx, hI⟩ := h2 k e he
  exact ⟨x, hx, World.ownsRow.kept hI hg (ne fun g hg => (World.ownsRow.lt hI g hg).1)⟩

/-- The cells of a reader. -/
def rdC (l : List UInt8) (vE : Value) (st : RS) : Array Value := #[.string ⟨l.toArray⟩, vE, .bool st.sh, .int .i64 st.lv, .int .i64 st.last.first, .int .i64 st.last.second, .int .i64 st.last.third, .bool st.last.varies, .bool st.reset]

/-- A reader in block b, made in the world w; its entries' blocks lie from b + 1 on and ahead of T. -/
structure RdM (w u : World) (b T : Nat) (l : List UInt8) (st : RS) (vE : Value) : Prop where
  blk : u.heap[b]? = some (.cells (rdC l vE st) 78)
  en : EntsD u (b + 1) T vE st.es
  tl : T ≤ u.heap.size
  be : Below b w u
  tab : Tabs3 u
  tb : 0 < b ∧ 2 < b ∧ 3 < b

theorem RdM.lt {w u : World} {b T : Nat} {l : List UInt8} {st : RS} {vE : Value} (h : RdM w u b T l st vE) : b < u.heap.size := (Array.getElem?_eq_some_iff.1 h.blk).1

theorem RdM.cells {w u : World} {b T : Nat} {l : List UInt8} {st : RS} {vE : Value} (h : RdM w u b T l st vE) :
    u.cell? ⟨b, 0, none⟩ = some (.string ⟨l.toArray⟩) ∧ u.cell? ⟨b, 1, none⟩ = some vE ∧ u.cell? ⟨b, 2, none⟩ = some (.bool st.sh) ∧ u.cell? ⟨b, 3, none⟩ = some (.int .i64 st.lv) ∧ u.cell? ⟨b, 4, none⟩ = some (.int .i64 st.last.first) ∧ u.cell? ⟨b, 5, none⟩ = some (.int .i64 st.last.second) ∧ u.cell? ⟨b, 6, none⟩ = some (.int .i64 st.last.third) ∧ u.cell? ⟨b, 7, none⟩ = some (.bool st.last.varies) ∧ u.cell? ⟨b, 8, none⟩ = some (.bool st.reset) ∧ ∀ j, u.frozen? ⟨b, j, none⟩ = false :=
  ⟨cell_of_row _ _ 0 _ _ _ h.blk, cell_of_row _ _ 1 _ _ _ h.blk, cell_of_row _ _ 2 _ _ _ h.blk, cell_of_row _ _ 3 _ _ _ h.blk, cell_of_row _ _ 4 _ _ _ h.blk, cell_of_row _ _ 5 _ _ _ h.blk, cell_of_row _ _ 6 _ _ _ h.blk, cell_of_row _ _ 7 _ _ _ h.blk, cell_of_row _ _ 8 _ _ _ h.blk, fun j => by simp [World.frozen?, h.blk]⟩

theorem RdM.step {w u u' : World} {b T : Nat} {l : List UInt8} {st : RS} {vE : Value} (h : RdM w u b T l st vE) (hb : Below u.heap.size u u') : RdM w u' b T l st vE :=
  ⟨(hb.block _ h.lt).trans h.blk, h.en.below hb, Nat.le_trans h.tl hb.size, h.be.trans (hb.mono (Nat.le_of_lt h.lt)), h.tab.below hb, h.tb⟩

theorem RdM.up {w u : World} {b T : Nat} {l : List UInt8} {st : RS} {vE : Value} (h : RdM w u b T l st vE) : RdM w u b u.heap.size l st vE :=
  ⟨h.blk, h.en.up h.tl, Nat.le_refl _, h.be, h.tab, h.tb⟩

theorem Held.set {u : World} {g b i : Nat} {zs : List Int} {x : Value} (h : Held u g zs) (hg : g < b) : Held (u.setCell ⟨b, i, none⟩ x) g zs := by
  obtain ⟨t, fr, hh⟩ := h
  exact ⟨t, fr, by rw [Below.heap_setCell _ _ _ _ (by show g ≠ b; omega)]; exact hh⟩

/-- One cell of the reader's told anew. -/
theorem RdM.set {w u : World} {b T i : Nat} {l l' : List UInt8} {st st' : RS} {vE vE' x : Value} (h : RdM w u b T l st vE) (hc : (rdC l vE st).setIfInBounds i x = rdC l' vE' st') (hv : vE' = vE) (he : st'.es = st.es) :
    RdM w (u.setCell ⟨b, i, none⟩ x) b T l' st' vE' := by
  subst hv
  refine ⟨?_, ?_, ?_, h.be.setCell (Nat.le_refl _) _, ⟨h.tab.1.set h.tb.1, h.tab.2.1.set h.tb.2.1, h.tab.2.2.set h.tb.2.2⟩, h.tb⟩
  · rw [heap_setCell_same u b i _ _ x h.blk, hc]
  · rw [he]
    exact h.en.grown (setCell_grown u b i x) (Nat.lt_succ_self _)
  · simpa using h.tl

/-- An elem told anew. -/
def setLs (u : World) (b : Nat) (e : El) : World := (((u.setCell ⟨b, 4, none⟩ (.int .i64 e.first)).setCell ⟨b, 5, none⟩ (.int .i64 e.second)).setCell ⟨b, 6, none⟩ (.int .i64 e.third)).setCell ⟨b, 7, none⟩ (.bool e.varies)

theorem RdM.setLast {w u : World} {b T : Nat} {l : List UInt8} {st : RS} {vE : Value} (h : RdM w u b T l st vE) (e : El) : RdM w (setLs u b e) b T l { st with last := e } vE := by
  have h1 : RdM w (u.setCell ⟨b, 4, none⟩ (.int .i64 e.first)) b T l { st with last := { st.last with first := e.first } } vE := h.set rfl rfl rfl
  have h2 : RdM w ((u.setCell ⟨b, 4, none⟩ (.int .i64 e.first)).setCell ⟨b, 5, none⟩ (.int .i64 e.second)) b T l { st with last := { st.last with first := e.first, second := e.second } } vE := h1.set rfl rfl rfl
  have h3 : RdM w (((u.setCell ⟨b, 4, none⟩ (.int .i64 e.first)).setCell ⟨b, 5, none⟩ (.int .i64 e.second)).setCell ⟨b, 6, none⟩ (.int .i64 e.third)) b T l { st with last := { st.last with first := e.first, second := e.second, third := e.third } } vE := h2.set rfl rfl rfl
  exact h3.set rfl rfl rfl

theorem setLs_grown (u : World) (b : Nat) (e : El) : u.grownBy (setLs u b e) (some b) :=
  (((setCell_grown u b 4 _).trans (setCell_grown _ b 5 _)).trans (setCell_grown _ b 6 _)).trans (setCell_grown _ b 7 _)

theorem Held.grown {u u' : World} {g : Nat} {zs : List Int} {row : Option Nat} (h : Held u g zs) (hg : u.grownBy u' row) (hr : ∀ j, row = some j → g ≠ j) : Held u' g zs := by
  obtain ⟨t, fr, hh⟩ := h
  exact ⟨t, fr, by rw [hg.block g (Array.getElem?_eq_some_iff.1 hh).1 (fun c => hr g c.symm rfl)]; exact hh⟩

/-- One entry put behind, the reader told of it. -/
theorem RdM.put {w u u' : World} {b T B' g cap : Nat} {l : List UInt8} {st : RS} {vE vl : Value} {r : List Int} {xs : List Value} (h : RdM w u b T l st vE) (hxl : xs.length = st.es.length)
    (h1 : u.ownsRow (b + 1) 63 5 vE st.es.length (entAll xs st.es))
    (h2 : ∀ (k : Nat) (e : Ent), st.es[k]? = some e → ∃ x, xs[k]? = some x ∧ Ints u (b + 1) x e.runes)
    (h3 : ∀ (i j : Nat) (x y : Value), i ≠ j → xs[i]? = some x → xs[j]? = some y → x.ownBlock = none ∨ x.ownBlock ≠ y.ownBlock)
    (h5 : ∀ (i : Nat) (x : Value) (g : Nat), xs[i]? = some x → x.ownBlock = some g → g < T)
    (hI : Ints u B' vl r) (hB : T ≤ B') (hB2 : b + 1 ≤ B') (hg : u.grownBy u' vE.ownBlock)
    (ho : u'.ownsRow (b + 1) 63 5 (.slice (some ⟨g, 0, none⟩) (st.es.length + 1) cap) (st.es.length + 1) (entAll xs st.es ++ entC vl st.last)) :
    RdM w (u'.setCell ⟨b, 1, none⟩ (.slice (some ⟨g, 0, none⟩) (st.es.length + 1) cap)) b u'.heap.size l { st with es := st.es ++ [⟨r, st.last⟩] } (.slice (some ⟨g, 0, none⟩) (st.es.length + 1) cap) := by
  have hrow : ∀ j, vE.ownBlock = some j → b + 1 ≤ j := fun j hj => (World.ownsRow.lt h1 j hj).1
  have hI1 : Ints u (b + 1) vl r := ints_low2 hI hB2
  have hE : Ents u' (b + 1) (.slice (some ⟨g, 0, none⟩) (st.es.length + 1) cap) (st.es ++ [⟨r, st.last⟩]) := Ents.snoc (e := ⟨r, st.last⟩) hxl h2 hI1 h1 hg ho
  have hD : EntsD u' (b + 1) u'.heap.size (.slice (some ⟨g, 0, none⟩) (st.es.length + 1) cap) (st.es ++ [⟨r, st.last⟩]) := by
    refine ⟨xs ++ [vl], by simp [hxl], ?_, ?_, ?_, ?_, ?_⟩
    · rw [entAll_snoc xs st.es vl ⟨r, st.last⟩ hxl, List.length_append]
      exact ho
    · intro k e he
      by_cases hk : k < st.es.length
      · rw [List.getElem?_append_left hk] at he
        obtain ⟨z, hz, hzi⟩ := h2 k e he
        have hz1 := (List.getElem?_eq_some_iff.1 hz).1
        exact ⟨z, by rw [List.getElem?_append_left hz1]; exact hz, World.ownsRow.kept hzi hg (own_type hzi h1 (by decide))⟩
      · have hk2 : k = st.es.length := by
          have := (List.getElem?_eq_some_iff.1 he).1
          simp at this; omega
        subst hk2
        simp at he
        subst he
        exact ⟨vl, by rw [← hxl]; simp, World.ownsRow.kept hI1 hg (own_type hI1 h1 (by decide))⟩
    · have old : ∀ (i : Nat) (x : Value), i < xs.length → (xs ++ [vl])[i]? = some x → xs[i]? = some x := fun i x hi hx => by rw [List.getElem?_append_left hi] at hx; exact hx
      have new : ∀ (i : Nat) (x : Value), ¬ i < xs.length → (xs ++ [vl])[i]? = some x → x = vl := fun i x hi hx => by
        have h8 := (List.getElem?_eq_some_iff.1 hx).1
        have h9 : i = xs.length := by simp at h8; omega
        subst h9
        simp at hx
        exact hx.symm
      intro i j x y hij hx hy
      by_cases ci : i < xs.length
      · by_cases cj : j < xs.length
        · exact h3 i j x y hij (old i x ci hx) (old j y cj hy)
        · have ey := new j y cj hy
          subst ey
          cases e : x.ownBlock with
          | none => exact .inl rfl
          | some gx =>
            refine .inr fun c => ?_
            have l1 := h5 i x gx (old i x ci hx) e
            have l2 := (World.ownsRow.lt hI gx c.symm).1
            omega
      · have ex := new i x ci hx
        subst ex
        by_cases cj : j < xs.length
        · cases e : y.ownBlock with
          | none =>
            cases e2 : x.ownBlock with
            | none => exact .inl rfl
            | some gx => exact .inr fun c => by cases c
          | some gy =>
            refine .inr fun c => ?_
            have l1 := h5 j y gy (old j y cj hy) e
            have l2 := (World.ownsRow.lt hI gy c).1
            omega
        · exfalso
          have h8 := (List.getElem?_eq_some_iff.1 hx).1
          have h9 := (List.getElem?_eq_some_iff.1 hy).1
          simp at h8 h9
          omega
    · intro g' hg'
      exact (World.ownsRow.lt ho g' hg').2
    · intro i x gx hx hgx
      by_cases ci : i < xs.length
      · rw [List.getElem?_append_left ci] at hx
        exact Nat.lt_of_lt_of_le (h5 i x gx hx hgx) (Nat.le_trans h.tl hg.size)
      · have h8 := (List.getElem?_eq_some_iff.1 hx).1
        have h9 : i = xs.length := by simp at h8; omega
        subst h9
        simp at hx
        subst hx
        exact Nat.lt_of_lt_of_le (World.ownsRow.lt hI gx hgx).2 hg.size
  have hblk : u'.heap[b]? = some (.cells (rdC l vE st) 78) := by
    rw [hg.block b h.lt (fun c => by have := hrow b c.symm; omega)]; exact h.blk
  have hbe : Below b w u' := Below.grown h.be hg (Nat.le_of_lt h.lt) (fun j hj => by have := hrow j hj; omega)
  have htab : Tabs3 u' := ⟨h.tab.1.grown hg (fun j hj => by have := hrow j hj; have := h.tb.1; omega), h.tab.2.1.grown hg (fun j hj => by have := hrow j hj; have := h.tb.2.1; omega), h.tab.2.2.grown hg (fun j hj => by have := hrow j hj; have := h.tb.2.2; omega)⟩
  refine ⟨?_, hD.grown (setCell_grown u' b 1 _) (Nat.lt_succ_self _), by simp, hbe.setCell (Nat.le_refl _) _, ⟨htab.1.set h.tb.1, htab.2.1.set h.tb.2.1, htab.2.2.set h.tb.2.2⟩, h.tb⟩
  rw [heap_setCell_same u' b 1 _ _ _ hblk]
  rfl
end Go.Proofs.YtdnelneamnmcnaeDoor

namespace Go.Proofs.YtdnelneamnmcnaeDoor

theorem place_out {l : List Int} {r : Int} (h : r ∉ l) : placeIn l r = none := by
  unfold placeIn
  rw [List.findIdx?_eq_none_iff]
  intro x hx
  simp only [beq_eq_false_iff_ne]
  intro e
  exact h (e ▸ hx)

theorem place_in {l : List Int} {r : Int} (h : r ∈ l) : ∃ i, placeIn l r = some i ∧ i < l.length := by
  cases e : placeIn l r with
  | some i => exact ⟨i, rfl, by unfold placeIn at e; exact (List.findIdx?_eq_some_iff_getElem.1 e).1⟩
  | none =>
    unfold placeIn at e
    have := List.findIdx?_eq_none_iff.1 e r h
    simp at this

/-- Where a rune stands among those that vary; less than 0: nowhere. -/
def idxV (r : Int) : Int := match placeIn vsl r with
  | some i => (i : Int)
  | none => -1

theorem base_vs {r : Int} {i : Nat} (h : placeIn vsl r = some i) : base r = [⟨1 + (i : Int), 32, 2, true⟩] := by unfold base; rw [h]
theorem base_mk {r : Int} {i : Nat} (h0 : placeIn vsl r = none) (h : placeIn mkl r = some i) : base r = [⟨0, 40 + (i : Int), 2, false⟩] := by unfold base; rw [h0]; simp only; rw [h]
theorem base_rest {r : Int} (h0 : placeIn vsl r = none) (h : placeIn mkl r = none) : base r = baseRest r := by unfold base; rw [h0]; simp only; rw [h]

theorem vsl_bd : ∀ x ∈ vsl, 32 ≤ x ∧ x ≤ 126 ∧ ¬ (48 ≤ x ∧ x ≤ 57) ∧ ¬ (97 ≤ x ∧ x ≤ 122) ∧ ¬ (65 ≤ x ∧ x ≤ 90) := by decide
theorem mkl_bd : ∀ x ∈ mkl, 128 ≤ x := by decide
theorem vs_far {r : Int} (h : ¬ (32 ≤ r ∧ r ≤ 126)) : placeIn vsl r = none := place_out fun c => h ⟨(vsl_bd r c).1, (vsl_bd r c).2.1⟩
theorem mk_far {r : Int} (h : r < 128) : placeIn mkl r = none := place_out fun c => by have := mkl_bd r c; omega

theorem base_ctl {r : Int} (_h0 : 0 ≤ r) (h : r ≤ 31 ∨ r = 127) : base r = [] := by
  rw [base_rest (vs_far (by omega)) (mk_far (by omega))]
  unfold baseRest
  rw [if_pos (by omega)]

theorem base_digit {r : Int} (h : 48 ≤ r ∧ r ≤ 57) : base r = [⟨2000 + 100 * (r - 48), 32, 2, false⟩] := by
  rw [base_rest (place_out fun c => (vsl_bd r c).2.2.1 h) (mk_far (by omega))]
  unfold baseRest
  rw [if_neg (by omega), if_pos h]

theorem base_small {r : Int} (h : 97 ≤ r ∧ r ≤ 122) : base r = [⟨4000 + 200 * (r - 97), 32, 2, false⟩] := by
  rw [base_rest (place_out fun c => (vsl_bd r c).2.2.2.1 h) (mk_far (by omega))]
  unfold baseRest
  rw [if_neg (by omega), if_neg (by omega), if_pos h]

theorem base_cap {r : Int} (h : 65 ≤ r ∧ r ≤ 90) : base r = [⟨4000 + 200 * (r - 65), 32, 8, false⟩] := by
  rw [base_rest (place_out fun c => (vsl_bd r c).2.2.2.2 h) (mk_far (by omega))]
  unfold baseRest
  rw [if_neg (by omega), if_neg (by omega), if_neg (by omega), if_pos h]

theorem base_two {r : Int} (h0 : placeIn vsl r = none) (h : placeIn mkl r = none) (h1 : ¬ (r ≤ 31 ∨ r = 127)) (h2 : ¬ (48 ≤ r ∧ r ≤ 57)) (h3 : ¬ (97 ≤ r ∧ r ≤ 122)) (h4 : ¬ (65 ≤ r ∧ r ≤ 90)) : base r = [⟨60000 + r / 32768, 32, 2, false⟩, ⟨32768 + r % 32768, 0, 0, false⟩] := by
  rw [base_rest h0 h]
  unfold baseRest
  rw [if_neg (by omega), if_neg h2, if_neg h3, if_neg h4]
end Go.Proofs.YtdnelneamnmcnaeDoor

namespace Go.Proofs.YtdnelneamnmcnaeDoor
open Go.RowKit

def vsB : ByteArray := ⟨#[32, 95, 45, 44, 59, 58, 33, 63, 46]⟩

set_option maxRecDepth 100000 in
set_option maxHeartbeats 1000000 in
theorem liteByte_any (s : ByteArray) (c : Int) (w : World) :
    Calls Tryd.prog 95 #[.string s, .int .u8 c] w fun e w' => e = .returned (.int .i64 (Lib.indexByte s.data.toList c.toNat.toUInt8)) ∧ w' = w := by
  go_enter Tryd.func95, Tryd.ntmps95
  go_wp2
  rw [run_callFunc_extern Tryd.func109 (by kernel_rfl) (by kernel_rfl) (by kernel_rfl) (e := Extern.BytealgIndexByte.indexByte) (by kernel_rfl), Lib.run_indexByteString]
  simp only [Result.andThen]
  rw [Oper.upon_value]
  go_wp2
  go_ret
  exact ⟨rfl, rfl⟩

set_option maxRecDepth 100000 in
set_option maxHeartbeats 1000000 in
theorem strByte_any (s : ByteArray) (c : Int) (w : World) :
    Calls Tryd.prog 80 #[.string s, .int .u8 c] w fun e w' => e = .returned (.int .i64 (Lib.indexByte s.data.toList c.toNat.toUInt8)) ∧ w' = w := by
  have A := fun w => liteByte_any s c w
  go_enter Tryd.func80, Tryd.ntmps80
  go_wp2_with fail
  refine (A _).mono ?_
  rintro e w1 ⟨rfl, rfl⟩
  clear A
  go_wp2
  go_ret
  exact ⟨rfl, rfl⟩

theorem idx_low : ((List.range 128).all fun k => Lib.indexByte vsB.data.toList ((k : Int).toNat.toUInt8) == idxV (k : Int)) = true := by kernel_rfl

theorem idx_lowAt {r : Int} (h0 : 0 ≤ r) (h1 : r < 128) : Lib.indexByte vsB.data.toList (r.toNat.toUInt8) = idxV r := by
  obtain ⟨k, rfl⟩ : ∃ k : Nat, r = (k : Int) := ⟨r.toNat, by omega⟩
  exact eq_of_beq (List.all_eq_true.1 idx_low k (List.mem_range.2 (by omega)))

theorem vs_dec (p : Nat) (hp : p < 9) : (Utf8.decode ⟨#[32, 95, 45, 44, 59, 58, 33, 63, 46]⟩ p).2 = 1 ∧ ((Utf8.decode ⟨#[32, 95, 45, 44, 59, 58, 33, 63, 46]⟩ p).1 : Int) ≠ 65533 :=
  (by decide : ∀ q : Fin 9, (Utf8.decode ⟨#[32, 95, 45, 44, 59, 58, 33, 63, 46]⟩ q.1).2 = 1 ∧ ((Utf8.decode ⟨#[32, 95, 45, 44, 59, 58, 33, 63, 46]⟩ q.1).1 : Int) ≠ 65533) ⟨p, hp⟩

theorem idx_none {r : Int} (h : 128 ≤ r) : idxV r = -1 := by
  unfold idxV
  rw [vs_far (by omega)]

set_option maxRecDepth 100000 in
set_option maxHeartbeats 4000000 in
theorem idxRune_low (r : Int) (h0 : 0 ≤ r) (h1 : r < 128) (w : World) :
    Calls Tryd.prog 62 #[.string ⟨#[32, 95, 45, 44, 59, 58, 33, 63, 46]⟩, .int .i32 r] w fun e w' => e = .returned (.int .i64 (idxV r)) ∧ w' = w := by
  have A := fun w => strByte_any vsB r w
  rw [idx_lowAt h0 h1] at A
  unfold vsB at A
  go_enter Tryd.func62, Tryd.ntmps62
  go_wp2_with fail
  refine (A _).mono ?_
  rintro e w1 ⟨rfl, rfl⟩
  clear A
  go_wp2
  go_ret
  exact ⟨rfl, rfl⟩

set_option maxRecDepth 100000 in
set_option maxHeartbeats 4000000 in
theorem idxRune_bad (w : World) :
    Calls Tryd.prog 62 #[.string ⟨#[32, 95, 45, 44, 59, 58, 33, 63, 46]⟩, .int .i32 65533] w fun e w' => e = .returned (.int .i64 (-1)) ∧ Below w.heap.size w w' := by
  go_enter Tryd.func62, Tryd.ntmps62
  go_wp2_with fail
  go_loopw [4] (fun v wr => v = .int .i64 0 ∧ ∃ p : Nat, p ≤ 9 ∧ wr.heap[w.heap.size]? = some (.stringIter ⟨#[32, 95, 45, 44, 59, 58, 33, 63, 46]⟩ p) ∧ Below w.heap.size w wr) (fun _ wr => 9 - wr.iterPos w.heap.size)
  case atStart => exact ⟨rfl, 0, Nat.zero_le _, World.iter_heap w _ 0, (Below.refl _ _).alloc (Nat.le_refl _) _⟩
  case round =>
    obtain ⟨rfl, p, hp, hit, hbw⟩ := hrel
    have hpos0 := iterPos_of hit
    by_cases hlt : p < 9
    · have hnx : ∀ ty, (Instr.next (.pointer (some ⟨w.heap.size, 0, none⟩)) true ty).run Tryd.prog wr = _ := fun ty => Lib.run_next_any_at wr w.heap.size ⟨#[32, 95, 45, 44, 59, 58, 33, 63, 46]⟩ p ty hit hlt
      obtain ⟨d1, d2⟩ := vs_dec p hlt
      have hit2 := Lib.iterAt_heap wr w.heap.size ⟨#[32, 95, 45, 44, 59, 58, 33, 63, 46]⟩ p (p + (Utf8.decode ⟨#[32, 95, 45, 44, 59, 58, 33, 63, 46]⟩ p).2) hit
      have hbw2 := Lib.below_iterAt hbw (k := w.heap.size) (Nat.le_refl _) ⟨#[32, 95, 45, 44, 59, 58, 33, 63, 46]⟩ (p + (Utf8.decode ⟨#[32, 95, 45, 44, 59, 58, 33, 63, 46]⟩ p).2)
      obtain ⟨W1, hW1⟩ : ∃ W1, W1 = wr.iterAt w.heap.size ⟨#[32, 95, 45, 44, 59, 58, 33, 63, 46]⟩ (p + (Utf8.decode ⟨#[32, 95, 45, 44, 59, 58, 33, 63, 46]⟩ p).2) := ⟨_, rfl⟩
      rw [← hW1] at hnx hit2 hbw2
      rw [d1] at hit2
      have d3 : (((Utf8.decode ⟨#[32, 95, 45, 44, 59, 58, 33, 63, 46]⟩ p).1 : Int) == 65533) = false := by simpa using d2
      generalize ((Utf8.decode ⟨#[32, 95, 45, 44, 59, 58, 33, 63, 46]⟩ p).1 : Int) = x at *
      clear hW1 hit hbw d1 d2
      go_wp2
      exact ⟨⟨rfl, p + 1, by omega, hit2, hbw2⟩, by rw [iterPos_of hit2, hpos0]; omega⟩
    · have hnx : ∀ ty, (Instr.next (.pointer (some ⟨w.heap.size, 0, none⟩)) true ty).run Tryd.prog wr = _ := fun ty => Lib.run_next_end_at wr w.heap.size ⟨#[32, 95, 45, 44, 59, 58, 33, 63, 46]⟩ p ty hit hlt
      go_wp2
      go_ret
      exact ⟨rfl, hbw⟩

set_option maxRecDepth 100000 in
set_option maxHeartbeats 4000000 in
theorem valid_any (r : Int) (h0 : 128 ≤ r) (h1 : r ≤ 1114111) (h2 : ¬ (55296 ≤ r ∧ r ≤ 57343)) (w : World) :
    Calls Tryd.prog 81 #[.int .i32 r] w fun e w' => e = .returned (.bool true) ∧ w' = w := by
  go_enter Tryd.func81, Tryd.ntmps81
  by_cases h3 : r < 55296
  · go_wp2
    go_ret
    exact ⟨rfl, rfl⟩
  · have h4 : 57343 < r := by omega
    clear h2
    go_wp2
    go_ret
    exact ⟨rfl, rfl⟩

theorem enc_cases (r : Int) (h0 : 128 ≤ r) (h1 : r ≤ 1114111) (h2 : ¬ (55296 ≤ r ∧ r ≤ 57343)) : (∃ a z : UInt8, Utf8.encode r = ⟨#[a, z]⟩ ∧ 128 ≤ z.toNat) ∨ (∃ a b z : UInt8, Utf8.encode r = ⟨#[a, b, z]⟩ ∧ 128 ≤ z.toNat) ∨ (∃ a b c z : UInt8, Utf8.encode r = ⟨#[a, b, c, z]⟩ ∧ 128 ≤ z.toNat) := by
  have hv : Utf8.valid r = true := by
    unfold Utf8.valid
    simp
    omega
  have hz : ∀ n : Nat, 128 ≤ (UInt8.ofNat (0x80 + n % 64)).toNat := by
    intro n
    rw [UInt8.toNat_ofNat']
    omega
  unfold Utf8.encode
  rw [hv]
  simp only [if_true]
  rw [if_neg (by omega)]
  split
  · exact .inl ⟨_, _, rfl, hz _⟩
  · split
    · exact .inr (.inl ⟨_, _, _, rfl, hz _⟩)
    · exact .inr (.inr ⟨_, _, _, _, rfl, hz _⟩)

theorem vs_miss {z : UInt8} (h : 128 ≤ z.toNat) (n : Nat) : Lib.indexByte ((⟨#[32, 95, 45, 44, 59, 58, 33, 63, 46]⟩ : ByteArray).extract n 9).data.toList ((z.toNat : Int).toNat.toUInt8) = -1 := by
  have hz2 : (z.toNat : Int).toNat.toUInt8 = z := by simp
  rw [hz2]
  have hge := Lib.indexByte_ge ((⟨#[32, 95, 45, 44, 59, 58, 33, 63, 46]⟩ : ByteArray).extract n 9).data.toList z
  by_cases c : Lib.indexByte ((⟨#[32, 95, 45, 44, 59, 58, 33, 63, 46]⟩ : ByteArray).extract n 9).data.toList z = -1
  · exact c
  · exfalso
    obtain ⟨m, hm⟩ : ∃ m : Nat, Lib.indexByte ((⟨#[32, 95, 45, 44, 59, 58, 33, 63, 46]⟩ : ByteArray).extract n 9).data.toList z = (m : Int) := ⟨(Lib.indexByte ((⟨#[32, 95, 45, 44, 59, 58, 33, 63, 46]⟩ : ByteArray).extract n 9).data.toList z).toNat, by omega⟩
    obtain ⟨h1, _⟩ := Lib.indexByte_some hm
    have h2 := List.mem_of_getElem? h1
    rw [ByteArray.data_extract, Array.toList_extract, List.extract_eq_take_drop] at h2
    have h3 := List.mem_of_mem_drop (List.mem_of_mem_take h2)
    have h4 : ∀ x ∈ (⟨#[32, 95, 45, 44, 59, 58, 33, 63, 46]⟩ : ByteArray).data.toList, x.toNat < 128 := by decide
    have := h4 z h3
    omega

set_option maxRecDepth 100000 in
set_option maxHeartbeats 4000000 in
theorem idxRune_two (r : Int) (a z : UInt8) (hE : Utf8.encode r = ⟨#[a, z]⟩) (hz : 128 ≤ z.toNat) (h0 : 128 ≤ r) (h1 : r ≤ 1114111) (h2 : ¬ (55296 ≤ r ∧ r ≤ 57343)) (h3 : r ≠ 65533) (w : World) :
    Calls Tryd.prog 62 #[.string ⟨#[32, 95, 45, 44, 59, 58, 33, 63, 46]⟩, .int .i32 r] w fun e w' => e = .returned (.int .i64 (-1)) ∧ Below w.heap.size w w' := by
  have V := fun w => valid_any r h0 h1 h2 w
  have h4 : (r == 65533) = false := by simpa using h3
  go_enter Tryd.func62, Tryd.ntmps62
  go_wp2_with fail
  refine (V _).mono ?_
  rintro e w1 ⟨rfl, rfl⟩
  clear V
  go_wp2_with fail
  go_step3
  go_wp2_with fail
  go_loopw [9] (fun v wr => wr = w1 ∧ v = .int .i64 1) (fun _ _ => 0)
  case atStart => exact ⟨rfl, rfl⟩
  case round =>
    obtain ⟨rfl, rfl⟩ := hrel
    have i1 : ∀ w, (Instr.index 9 (.string ⟨#[32, 95, 45, 44, 59, 58, 33, 63, 46]⟩) (.int .i64 1)).run Tryd.prog w = .ok (.int .u8 95) w := fun _ => by kernel_rfl
    have i2 : ∀ w, (Instr.index 9 (.string ⟨#[a, z]⟩) (.int .i64 1)).run Tryd.prog w = .ok (.int .u8 z.toNat) w := fun _ => by kernel_rfl
    have i3 : ((95 : Int) != (z.toNat : Int)) = true := by simp; omega
    have i4 : ∀ w, (Instr.slice 9 (.string ⟨#[32, 95, 45, 44, 59, 58, 33, 63, 46]⟩) (some (.int .i64 (IntKind.i64.wrap 2))) none none).run Tryd.prog w = .ok (.string ((⟨#[32, 95, 45, 44, 59, 58, 33, 63, 46]⟩ : ByteArray).extract 2 9)) w := fun _ => by kernel_rfl
    have A := fun w => strByte_any ((⟨#[32, 95, 45, 44, 59, 58, 33, 63, 46]⟩ : ByteArray).extract 2 9) z.toNat w
    rw [vs_miss hz 2] at A
    generalize ((⟨#[32, 95, 45, 44, 59, 58, 33, 63, 46]⟩ : ByteArray).extract 2 9) = sx at *
    go_wp2_with fail
    go_step3
    go_wp2_with fail
    go_quiet (fail)
    go_wp2_with fail
    go_quiet ((go_at_call 80; exact (A _).mono fun e w' h => ⟨h.1, _, h.2⟩))
    go_wp2
    change bodyPost _ _ (fun e w' => e = Ending.returned (.int .i64 (-1)) ∧ Below wr.heap.size wr w') Exit.ret _ _
    go_ret
    exact ⟨rfl, below_drewN (Below.refl _ _) _⟩

set_option maxRecDepth 100000 in
set_option maxHeartbeats 4000000 in
theorem idxRune_three (r : Int) (a b z : UInt8) (hE : Utf8.encode r = ⟨#[a, b, z]⟩) (hz : 128 ≤ z.toNat) (h0 : 128 ≤ r) (h1 : r ≤ 1114111) (h2 : ¬ (55296 ≤ r ∧ r ≤ 57343)) (h3 : r ≠ 65533) (w : World) :
    Calls Tryd.prog 62 #[.string ⟨#[32, 95, 45, 44, 59, 58, 33, 63, 46]⟩, .int .i32 r] w fun e w' => e = .returned (.int .i64 (-1)) ∧ Below w.heap.size w w' := by
  have V := fun w => valid_any r h0 h1 h2 w
  have h4 : (r == 65533) = false := by simpa using h3
  go_enter Tryd.func62, Tryd.ntmps62
  go_wp2_with fail
  refine (V _).mono ?_
  rintro e w1 ⟨rfl, rfl⟩
  clear V
  go_wp2_with fail
  go_step3
  go_wp2_with fail
  go_loopw [9] (fun v wr => wr = w1 ∧ v = .int .i64 2) (fun _ _ => 0)
  case atStart => exact ⟨rfl, rfl⟩
  case round =>
    obtain ⟨rfl, rfl⟩ := hrel
    have i1 : ∀ w, (Instr.index 9 (.string ⟨#[32, 95, 45, 44, 59, 58, 33, 63, 46]⟩) (.int .i64 2)).run Tryd.prog w = .ok (.int .u8 45) w := fun _ => by kernel_rfl
    have i2 : ∀ w, (Instr.index 9 (.string ⟨#[a, b, z]⟩) (.int .i64 2)).run Tryd.prog w = .ok (.int .u8 z.toNat) w := fun _ => by kernel_rfl
    have i3 : ((45 : Int) != (z.toNat : Int)) = true := by simp; omega
    have i4 : ∀ w, (Instr.slice 9 (.string ⟨#[32, 95, 45, 44, 59, 58, 33, 63, 46]⟩) (some (.int .i64 (IntKind.i64.wrap 3))) none none).run Tryd.prog w = .ok (.string ((⟨#[32, 95, 45, 44, 59, 58, 33, 63, 46]⟩ : ByteArray).extract 3 9)) w := fun _ => by kernel_rfl
    have A := fun w => strByte_any ((⟨#[32, 95, 45, 44, 59, 58, 33, 63, 46]⟩ : ByteArray).extract 3 9) z.toNat w
    rw [vs_miss hz 3] at A
    generalize ((⟨#[32, 95, 45, 44, 59, 58, 33, 63, 46]⟩ : ByteArray).extract 3 9) = sx at *
    go_wp2_with fail
    go_step3
    go_wp2_with fail
    go_quiet (fail)
    go_wp2_with fail
    go_quiet ((go_at_call 80; exact (A _).mono fun e w' h => ⟨h.1, _, h.2⟩))
    go_wp2
    change bodyPost _ _ (fun e w' => e = Ending.returned (.int .i64 (-1)) ∧ Below wr.heap.size wr w') Exit.ret _ _
    go_ret
    exact ⟨rfl, below_drewN (Below.refl _ _) _⟩

set_option maxRecDepth 100000 in
set_option maxHeartbeats 4000000 in
theorem idxRune_four (r : Int) (a b c z : UInt8) (hE : Utf8.encode r = ⟨#[a, b, c, z]⟩) (hz : 128 ≤ z.toNat) (h0 : 128 ≤ r) (h1 : r ≤ 1114111) (h2 : ¬ (55296 ≤ r ∧ r ≤ 57343)) (h3 : r ≠ 65533) (w : World) :
    Calls Tryd.prog 62 #[.string ⟨#[32, 95, 45, 44, 59, 58, 33, 63, 46]⟩, .int .i32 r] w fun e w' => e = .returned (.int .i64 (-1)) ∧ Below w.heap.size w w' := by
  have V := fun w => valid_any r h0 h1 h2 w
  have h4 : (r == 65533) = false := by simpa using h3
  go_enter Tryd.func62, Tryd.ntmps62
  go_wp2_with fail
  refine (V _).mono ?_
  rintro e w1 ⟨rfl, rfl⟩
  clear V
  go_wp2_with fail
  go_step3
  go_wp2_with fail
  go_loopw [9] (fun v wr => wr = w1 ∧ v = .int .i64 3) (fun _ _ => 0)
  case atStart => exact ⟨rfl, rfl⟩
  case round =>
    obtain ⟨rfl, rfl⟩ := hrel
    have i1 : ∀ w, (Instr.index 9 (.string ⟨#[32, 95, 45, 44, 59, 58, 33, 63, 46]⟩) (.int .i64 3)).run Tryd.prog w = .ok (.int .u8 44) w := fun _ => by kernel_rfl
    have i2 : ∀ w, (Instr.index 9 (.string ⟨#[a, b, c, z]⟩) (.int .i64 3)).run Tryd.prog w = .ok (.int .u8 z.toNat) w := fun _ => by kernel_rfl
    have i3 : ((44 : Int) != (z.toNat : Int)) = true := by simp; omega
    have i4 : ∀ w, (Instr.slice 9 (.string ⟨#[32, 95, 45, 44, 59, 58, 33, 63, 46]⟩) (some (.int .i64 (IntKind.i64.wrap 4))) none none).run Tryd.prog w = .ok (.string ((⟨#[32, 95, 45, 44, 59, 58, 33, 63, 46]⟩ : ByteArray).extract 4 9)) w := fun _ => by kernel_rfl
    have A := fun w => strByte_any ((⟨#[32, 95, 45, 44, 59, 58, 33, 63, 46]⟩ : ByteArray).extract 4 9) z.toNat w
    rw [vs_miss hz 4] at A
    generalize ((⟨#[32, 95, 45, 44, 59, 58, 33, 63, 46]⟩ : ByteArray).extract 4 9) = sx at *
    go_wp2_with fail
    go_step3
    go_wp2_with fail
    go_quiet (fail)
    go_wp2_with fail
    go_quiet ((go_at_call 80; exact (A _).mono fun e w' h => ⟨h.1, _, h.2⟩))
    go_wp2
    change bodyPost _ _ (fun e w' => e = Ending.returned (.int .i64 (-1)) ∧ Below wr.heap.size wr w') Exit.ret _ _
    go_ret
    exact ⟨rfl, below_drewN (Below.refl _ _) _⟩

theorem idxRune_any (r : Int) (h0 : 0 ≤ r) (h1 : r ≤ 1114111) (h2 : ¬ (55296 ≤ r ∧ r ≤ 57343)) (w : World) :
    Calls Tryd.prog 62 #[.string ⟨#[32, 95, 45, 44, 59, 58, 33, 63, 46]⟩, .int .i32 r] w fun e w' => e = .returned (.int .i64 (idxV r)) ∧ Below w.heap.size w w' := by
  by_cases c : r < 128
  · exact (idxRune_low r h0 c w).mono fun e w' h => ⟨h.1, by rw [h.2]; exact Below.refl _ _⟩
  · rw [idx_none (by omega)]
    by_cases d : r = 65533
    · subst d
      exact idxRune_bad w
    · rcases enc_cases r (by omega) h1 h2 with ⟨a, z, hE, hz⟩ | ⟨a, b, z, hE, hz⟩ | ⟨a, b, c, z, hE, hz⟩
      · exact idxRune_two r a z hE hz (by omega) h1 h2 d w
      · exact idxRune_three r a b z hE hz (by omega) h1 h2 d w
      · exact idxRune_four r a b c z hE hz (by omega) h1 h2 d w
end Go.Proofs.YtdnelneamnmcnaeDoor

namespace Go.Proofs.YtdnelneamnmcnaeDoor
open Go.RowKit

/-- A block and what it holds. -/
def Blk (w : World) (g : Nat) (cs : Array Value) (t : TypeId) : Prop := w.heap[g]? = some (.cells cs t)
theorem Blk.below {w w' : World} {g : Nat} {cs : Array Value} {t : TypeId} (h : Blk w g cs t) (hb : Below w.heap.size w w') : Blk w' g cs t := by
  unfold Blk
  rw [hb.block g (Array.getElem?_eq_some_iff.1 h).1]; exact h
theorem Blk.mid {w w' : World} {g B T : Nat} {cs : Array Value} {t : TypeId} (h : Blk w g cs t) (hm : Mid B T w w') (hg : g < B ∨ T ≤ g) : Blk w' g cs t := by
  unfold Blk
  rw [hm.block g (Array.getElem?_eq_some_iff.1 h).1 hg]; exact h
theorem Blk.three {w : World} {g : Nat} {x y z : Value} {t : TypeId} (h : Blk w g #[x, y, z] t) : w.cell? ⟨g, 0, none⟩ = some x ∧ w.cell? ⟨g, 1, none⟩ = some y ∧ w.cell? ⟨g, 2, none⟩ = some z :=
  ⟨cell_of_row _ _ 0 _ _ _ h, cell_of_row _ _ 1 _ _ _ h, cell_of_row _ _ 2 _ _ _ h⟩
theorem Blk.lt {w : World} {g : Nat} {cs : Array Value} {t : TypeId} (h : Blk w g cs t) : g < w.heap.size := (Array.getElem?_eq_some_iff.1 h).1

theorem Ents.slice {w : World} {B : Nat} {v : Value} {es : List Ent} (h : Ents w B v es) : ∃ a n c, v = .slice a n c := by
  rcases h.form with ⟨rfl, _⟩ | ⟨_, _, rfl, _, _, _, _⟩
  · exact ⟨_, _, _, rfl⟩
  · exact ⟨_, _, _, rfl⟩
end Go.Proofs.YtdnelneamnmcnaeDoor

namespace Go.Proofs.YtdnelneamnmcnaeDoor
open Go.RowKit

set_option maxRecDepth 100000 in
set_option maxHeartbeats 2000000 in
theorem trimByte_any (l : List UInt8) (w : World) :
    Calls Tryd.prog 97 #[.string ⟨l.toArray⟩, .int .u8 32] w fun e w' => e = .returned (.string ⟨(l.dropWhile (· == 32)).toArray⟩) ∧ w' = w := by
  obtain ⟨D, HD⟩ : ∃ D, Hid (l.dropWhile (· == 32) = D) := ⟨_, rfl⟩
  rw [HD.out]
  go_enter Tryd.func97, Tryd.ntmps97
  go_wp2
  go_loop [0] (fun v => ∃ l' : List UInt8, v = .string ⟨l'.toArray⟩ ∧ Hid (l'.dropWhile (· == 32) = D)) (fun v => Lib.strSize v)
  case atStart => exact ⟨l, rfl, HD⟩
  case round =>
    clear HD
    obtain ⟨l', rfl, HD⟩ := hrel
    match l', HD with
    | [], HD =>
      have h : D = [] := HD.out.symm.trans rfl
      subst h
      clear HD
      go_wp2
      go_ret
      exact ⟨rfl, rfl⟩
    | b :: l2, HD =>
      have hts : (⟨(b :: l2).toArray⟩ : ByteArray).size = l2.length + 1 := rfl
      have hb0 : ∀ h, (⟨(b :: l2).toArray⟩ : ByteArray)[0]'h = b := fun _ => rfl
      have hx1 : (⟨(b :: l2).toArray⟩ : ByteArray).extract 1 (l2.length + 1) = ⟨l2.toArray⟩ := by
        rw [Lib.extract_mk]; simp
      have hgt : Hid ((⟨(b :: l2).toArray⟩ : ByteArray) = ⟨(b :: l2).toArray⟩) := rfl
      have hms : Hid (Lib.strSize (.string ⟨l2.toArray⟩) < Lib.strSize (.string ⟨(b :: l2).toArray⟩)) := by
        show _ < _
        rw [Lib.strSize_string, Lib.strSize_string, Lib.size_mk, Lib.size_mk]; simp
      generalize ht : (⟨(b :: l2).toArray⟩ : ByteArray) = t at hts hb0 hx1 hms ⊢
      have HT : Hid ((⟨(b :: l2).toArray⟩ : ByteArray) = t) := ht
      clear ht hgt
      have h0 : 0 < t.size := by omega
      have hbk := hb0 h0
      clear hb0
      by_cases heq : b = 32
      · have heq' : ((t[0]'h0).toNat : Int) = 32 := by rw [hbk, heq]; rfl
        have HD2 : Hid (l2.dropWhile (· == 32) = D) := by
          show _ = _
          have := HD.out
          simp [heq] at this
          exact this
        clear HD hbk heq HT
        go_wp2
        exact ⟨⟨l2, rfl, HD2⟩, hms.out⟩
      · have hbeq : (((t[0]'h0).toNat : Int) == 32) = false := by
          rw [hbk]
          simp
          intro e
          exact heq (UInt8.toNat_inj.1 (by show b.toNat = 32; omega))
        have HD2 : Hid (D = b :: l2) := by
          show _ = _
          have := HD.out
          simp [heq] at this
          exact this.symm
        clear HD hbk heq hms
        go_wp2
        go_ret
        rw [HD2.out, HT.out]
        exact ⟨rfl, rfl⟩

set_option maxRecDepth 100000 in
set_option maxHeartbeats 2000000 in
theorem trim_any (l : List UInt8) (w : World) :
    Calls Tryd.prog 88 #[.string ⟨l.toArray⟩, .string ⟨#[32]⟩] w fun e w' => e = .returned (.string ⟨(l.dropWhile (· == 32)).toArray⟩) ∧ w' = w := by
  have A := fun w => trimByte_any l w
  have HL : Hid (∀ t, (⟨l.toArray⟩ : ByteArray) = t → t.toList = [] → l = []) := fun t h e => by
    subst h
    rw [Lib.toList_data] at e
    simpa using e
  obtain ⟨D, HD⟩ : ∃ D, Hid (l.dropWhile (· == 32) = D) := ⟨_, rfl⟩
  rw [HD.out] at A ⊢
  cases l with
  | nil =>
    have h : D = [] := HD.out.symm.trans rfl
    subst h
    clear HD A HL
    go_enter Tryd.func88, Tryd.ntmps88
    go_wp2
    go_ret
    exact ⟨rfl, rfl⟩
  | cons b l2 =>
    have hne : ((⟨(b :: l2).toArray⟩ : ByteArray).toList == []) = false := by
      rw [Lib.toList_data]; simp
    have hne2 : (⟨(b :: l2).toArray⟩ : ByteArray).toList.isEmpty = false := by
      rw [Lib.toList_data]; simp
    have i1 : ∀ w, (Instr.index 9 (.string ⟨#[32]⟩) (.int .i64 0)).run Tryd.prog w = .ok (.int .u8 32) w := fun _ => by kernel_rfl
    generalize (⟨(b :: l2).toArray⟩ : ByteArray) = t at *
    clear HD HL
    go_enter Tryd.func88, Tryd.ntmps88
    go_wp2_with fail
    refine (A _).mono ?_
    rintro e w1 ⟨rfl, rfl⟩
    clear A
    go_wp2
    go_ret
    exact ⟨rfl, rfl⟩

set_option maxRecDepth 100000 in
set_option maxHeartbeats 2000000 in
theorem liteIndex_any (t : ByteArray) (w : World) :
    Calls Tryd.prog 110 #[.string t, .string ⟨#[32]⟩] w fun e w' => e = .returned (.int .i64 (Lib.indexByte t.data.toList 32)) ∧ w' = w := by
  have A := fun w => liteByte_any t 32 w
  have i1 : ∀ w, (Instr.index 9 (.string ⟨#[32]⟩) (.int .i64 0)).run Tryd.prog w = .ok (.int .u8 32) w := fun _ => by kernel_rfl
  by_cases h : ([32] == t.toList) = true
  · have e : t.data.toList = [32] := by rw [← Lib.toList_data]; exact (beq_iff_eq.1 h).symm
    have HI : Hid (Lib.indexByte t.data.toList 32 = 0) := by show _ = _; rw [e]; rfl
    clear A e
    go_enter Tryd.func110, Tryd.ntmps110
    go_wp2
    go_ret
    rw [HI.out]
    exact ⟨rfl, rfl⟩
  · have h2 : ([32] == t.toList) = false := by simpa using h
    clear h
    go_enter Tryd.func110, Tryd.ntmps110
    go_wp2_with fail
    refine (A _).mono ?_
    rintro e w1 ⟨rfl, rfl⟩
    clear A
    go_wp2
    go_ret
    exact ⟨rfl, rfl⟩

/-- What Cut at a blank gives. -/
def cutL (t : List UInt8) : List UInt8 × List UInt8 := (t.takeWhile (· != 32), (t.dropWhile (· != 32)).drop 1)

theorem nextL_cut (l : List UInt8) : nextL l = cutL (l.dropWhile (· == 32)) := rfl

set_option maxRecDepth 100000 in
set_option maxHeartbeats 4000000 in
theorem liteCut_any (t : List UInt8) (ht : t.length ≤ 1048576) (w : World) :
    Calls Tryd.prog 96 #[.string ⟨t.toArray⟩, .string ⟨#[32]⟩] w fun e w' => ∃ b, e = .returned (.tuple #[.string ⟨(cutL t).1.toArray⟩, .string ⟨(cutL t).2.toArray⟩, .bool b]) ∧ ∃ n, w' = w.drewN n := by
  have A := fun w => liteIndex_any ⟨t.toArray⟩ w
  have hge := Lib.indexByte_ge t 32
  by_cases c : Lib.indexByte t 32 = -1
  · obtain ⟨c1, c2⟩ := cut_miss t c
    unfold cutL
    rw [c1, c2]
    have A2 := fun w => (c ▸ A w : Calls Tryd.prog 110 #[.string ⟨t.toArray⟩, .string ⟨#[32]⟩] w fun e w' => e = .returned (.int .i64 (-1)) ∧ w' = w)
    generalize (⟨t.toArray⟩ : ByteArray) = s at *
    clear A c hge c1 c2
    go_enter Tryd.func96, Tryd.ntmps96
    go_wp2_with fail
    refine (A2 _).mono ?_
    rintro e w1 ⟨rfl, rfl⟩
    clear A2
    go_wp2
    go_ret3
    exact ⟨_, rfl, 0, rfl⟩
  · obtain ⟨i, hi⟩ : ∃ i : Nat, Lib.indexByte t 32 = (i : Int) := ⟨(Lib.indexByte t 32).toNat, by omega⟩
    obtain ⟨c0, c1, c2⟩ := cut_hit t i hi
    unfold cutL
    rw [c1, c2]
    have A2 := fun w => (hi ▸ A w : Calls Tryd.prog 110 #[.string ⟨t.toArray⟩, .string ⟨#[32]⟩] w fun e w' => e = .returned (.int .i64 (i : Int)) ∧ w' = w)
    have s1 : (⟨t.toArray⟩ : ByteArray).extract 0 i = ⟨(t.take i).toArray⟩ := by rw [Lib.extract_mk]; simp
    have s2 : (⟨t.toArray⟩ : ByteArray).extract (i + 1) t.length = ⟨(t.drop (i + 1)).toArray⟩ := by
      rw [Lib.extract_mk, List.take_of_length_le (by simp)]
    have hsz : (⟨t.toArray⟩ : ByteArray).size = t.length := rfl
    rw [← s1, ← s2]
    generalize (⟨t.toArray⟩ : ByteArray) = s at *
    have k1 : (i : Int) < (t.length : Int) := by omega
    clear A c hge c1 c2 s1 s2 hi
    go_enter Tryd.func96, Tryd.ntmps96
    go_wp2_with fail
    refine (A2 _).mono ?_
    rintro e w1 ⟨rfl, rfl⟩
    clear A2
    go_wp2_with fail
    go_quiet (fail)
    go_wp2
    go_ret3
    exact ⟨_, rfl, _, rfl⟩
end Go.Proofs.YtdnelneamnmcnaeDoor

namespace Go.Proofs.YtdnelneamnmcnaeDoor

/-- The first weight of a rune that is one whole elem with a first weight. -/
def firstOf (r : Int) : Int := match one3 (base r) with
  | some e => e.first
  | none => 0

theorem firsts_taken : ((List.range 127).all fun k => match one3 (base (k : Int)) with | some e => takenB e.first | none => true) = true := by kernel_rfl

theorem taken_of {k : Nat} {e : El} (hk : k < 127) (h : one3 (base (k : Int)) = some e) : takenB e.first = true := by
  have := List.all_eq_true.1 firsts_taken k (List.mem_range.2 hk)
  rw [h] at this
  exact this

theorem one3_first {e : El} (h : e.first ≠ 0) : one3 [e] = some e := if_neg h

theorem taken_has {n : Int} (h : takenB n = true) : ∃ (k : Nat) (e : El), k < 127 ∧ one3 (base (k : Int)) = some e ∧ e.first = n := by
  rcases of_decide_eq_true h with ⟨h1, h2, h3⟩ | ⟨h1, h2, h3⟩ | h
  · obtain ⟨k, hk⟩ : ∃ k : Nat, (k : Int) = 48 + (n - 2000) / 100 := ⟨(48 + (n - 2000) / 100).toNat, by omega⟩
    refine ⟨k, ⟨2000 + 100 * ((k : Int) - 48), 32, 2, false⟩, by omega, ?_, by simp only; omega⟩
    rw [base_digit (by omega)]
    exact one3_first (by simp only; omega)
  · obtain ⟨k, hk⟩ : ∃ k : Nat, (k : Int) = 97 + (n - 4000) / 200 := ⟨(97 + (n - 4000) / 200).toNat, by omega⟩
    refine ⟨k, ⟨4000 + 200 * ((k : Int) - 97), 32, 2, false⟩, by omega, ?_, by simp only; omega⟩
    rw [base_small (by omega)]
    exact one3_first (by simp only; omega)
  · have h9 : n = 1 ∨ n = 2 ∨ n = 3 ∨ n = 4 ∨ n = 5 ∨ n = 6 ∨ n = 7 ∨ n = 8 ∨ n = 9 := by omega
    rcases h9 with rfl | rfl | rfl | rfl | rfl | rfl | rfl | rfl | rfl
    · exact ⟨32, ⟨1, 32, 2, true⟩, by omega, rfl, rfl⟩
    · exact ⟨95, ⟨2, 32, 2, true⟩, by omega, rfl, rfl⟩
    · exact ⟨45, ⟨3, 32, 2, true⟩, by omega, rfl, rfl⟩
    · exact ⟨44, ⟨4, 32, 2, true⟩, by omega, rfl, rfl⟩
    · exact ⟨59, ⟨5, 32, 2, true⟩, by omega, rfl, rfl⟩
    · exact ⟨58, ⟨6, 32, 2, true⟩, by omega, rfl, rfl⟩
    · exact ⟨33, ⟨7, 32, 2, true⟩, by omega, rfl, rfl⟩
    · exact ⟨63, ⟨8, 32, 2, true⟩, by omega, rfl, rfl⟩
    · exact ⟨46, ⟨9, 32, 2, true⟩, by omega, rfl, rfl⟩

def NoBase (n : Int) (k : Nat) : Prop := ∀ j e, j < k → one3 (base (j : Int)) = some e → e.first ≠ n

theorem NoBase.succ {n : Int} {k : Nat} (h : NoBase n k) (hn : ∀ e, one3 (base (k : Int)) = some e → e.first ≠ n) : NoBase n (k + 1) := by
  intro j e hj he
  by_cases c : j = k
  · subst c; exact hn e he
  · exact h j e (by omega) he

theorem NoBase.all {n : Int} {k : Nat} (h : NoBase n k) (hk : 127 ≤ k) : takenB n = false := by
  cases c : takenB n
  · rfl
  · obtain ⟨j, e, hj, he, hn⟩ := taken_has c
    exact absurd hn (h j e (by omega) he)

/-- The elem of the entry with these runes. -/
def entOf (es : List Ent) (l : List Int) : Option El := if 0 ≤ atE es l then (es[(atE es l).toNat]?).map (·.el) else none

theorem entOf_hit {es : List Ent} {l : List Int} {e : Ent} {k : Nat} (h : NoEnt es l k) (hx : es[k]? = some e) (hr : e.runes = l) : entOf es l = some e.el := by
  unfold entOf
  rw [atE_hit h hx hr, if_pos (by omega), Int.toNat_natCast, hx]; rfl

theorem entOf_none {es : List Ent} {l : List Int} {k : Nat} (h : NoEnt es l k) (hk : es.length ≤ k) : entOf es l = none := by
  unfold entOf
  rw [atE_none h hk, if_neg (by omega)]

theorem entOf_some {es : List Ent} {l : List Int} : (entOf es l).isSome = decide (0 ≤ atE es l) := by
  rcases atE_cases es l with h | ⟨i, e, he, h⟩
  · unfold entOf; rw [h]; rfl
  · unfold entOf; rw [h, if_pos (by omega), Int.toNat_natCast, he]; simp

theorem elemE_of {es : List Ent} {l : List Int} {e : El} (h : entOf es l = some e) : elemE es l = some e := by
  unfold entOf at h
  unfold elemE
  split at h
  · rename_i c; rw [if_pos c]; exact h
  · cases h

theorem atE_of_none {es : List Ent} {l : List Int} (h : entOf es l = none) : atE es l = -1 := by
  rcases atE_cases es l with c | ⟨i, e, he, c⟩
  · exact c
  · unfold entOf at h
    rw [c, if_pos (by omega), Int.toNat_natCast, he] at h
    cases h

/-- Ahead of its own place no entry has these runes: that is what makes a good one's place its own. -/
theorem noEnt_take {es : List Ent} {l : List Int} {k : Nat} : entOf (es.take k) l = none → NoEnt es l k := by
  intro h j e hj he hr
  have h1 := atE_of_none h
  unfold atE at h1
  have : (es.take k).findIdx? (fun e => decide (e.runes = l)) = none := by
    cases c : (es.take k).findIdx? (fun e => decide (e.runes = l)) with
    | none => rfl
    | some i => rw [c] at h1; simp only at h1; omega
  rw [List.findIdx?_eq_none_iff] at this
  have h2 := this e (List.mem_of_getElem? (i := j) (by rw [List.getElem?_take_of_lt hj]; exact he))
  simp [hr] at h2

theorem atE_here {es : List Ent} {e : Ent} {k : Nat} (he : es[k]? = some e) : (entOf (es.take k) e.runes = none) ↔ atE es e.runes = (k : Int) := by
  constructor
  · intro h
    exact atE_hit (noEnt_take h) he rfl
  · intro h
    cases c : entOf (es.take k) e.runes with
    | none => rfl
    | some x =>
      exfalso
      rcases atE_cases (es.take k) e.runes with d | ⟨i, y, hy, d⟩
      · unfold entOf at c; rw [d, if_neg (by omega)] at c; cases c
      · have hik : i < k := by
          have := (List.getElem?_eq_some_iff.1 hy).1
          rw [List.length_take] at this; omega
        rw [List.getElem?_take_of_lt hik] at hy
        unfold atE at d h
        cases f : (es.take k).findIdx? (fun x => decide (x.runes = e.runes)) with
        | none => rw [f] at d; simp only at d; omega
        | some m =>
          rw [f] at d
          have hm : m = i := by simp only at d; omega
          subst hm
          obtain ⟨h1, h2, h3⟩ := List.findIdx?_eq_some_iff_getElem.1 f
          have h4 : es.findIdx? (fun x => decide (x.runes = e.runes)) = some m := by
            have hm2 : m < es.length := by rw [List.length_take] at h1; omega
            rw [List.findIdx?_eq_some_iff_getElem]
            refine ⟨hm2, ?_, fun j hj => ?_⟩
            · simpa using h2
            · have := h3 j hj
              simpa using this
          rw [h4] at h
          simp only at h
          omega
end Go.Proofs.YtdnelneamnmcnaeDoor
