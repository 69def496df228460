/- Texts of mine laid together: IIs, IRule1, Wf, RdrB, PBase, IIdx. -/
import Derived.Test.YtakfnmhokijcoaaGreatDoorPIs
import Derived.Test.YtakfnmhokijcoaaGreatDoorMN1
import Derived.Test.YtakfnmhokijcoaaGreatDoorSEl3
import Derived.Test.YtakfnmhokijcoaaGreatDoorSWords
import Derived.Lib.IndexLaws
import Derived.Test.YtakfnmhokijcoaaGreatDoorRdBox
import Derived.Test.YtakfnmhokijcoaaGreatDoorEntsDM
import Derived.Test.YtakfnmhokijcoaaGreatDoorSBase
import Derived.Lib.Bytealg
import Derived.WalkMore
import Derived.Lib.OthersKept
import Derived.WalkSmall
import Derived.Deep.QuietTactic
import Derived.BigQuiet
namespace Go.Proofs.YtakfnmhokijcoaaGreatDoor
open Go.RowKit

set_option maxRecDepth 100000 in
set_option maxHeartbeats 1000000 in
theorem implIsN_any {w : World} {B : Nat} {v : Value} {zs : List Int} (hz : zs.length ≤ 1048576) (hI : Ints w B v zs) (hm : Held w 1 marksF) (hc : Held w 4 capF) (ho : Held w 5 othF) :
    Calls Tryz.prog 74 #[v] w fun e w' => e = .returned (.tuple #[.bool (isD zs), .bool (okR zs)]) ∧ Below w.heap.size w w' := by
  have D := fullD_any hI hm hc ho
  have hbd := fullA_len zs
  unfold isD
  clear hm hc ho
  cases hok : okR zs
  · rw [hok] at D
    clear hI hok hbd
    go_enter Tryz.func74, Tryz.ntmps74
    go_wp2_with fail
    refine D.mono ?_
    rintro e w1 ⟨v1, rfl, h1, h2⟩
    clear D
    go_wp2
    go_ret2
    exact ⟨rfl, h2⟩
  · unfold fullA at D hbd
    rw [hok, if_pos rfl] at D
    rw [hok, if_pos rfl] at hbd
    clear hok
    generalize nD zs = ds at *
    go_enter Tryz.func74, Tryz.ntmps74
    go_wp2_with fail
    refine D.mono ?_
    rintro e w1 ⟨v1, rfl, h1, h2⟩
    have E := equal_any (by omega) hz h1 (hI.below h2)
    clear D
    go_wp2_with fail
    refine E.mono ?_
    rintro e w2 ⟨rfl, n2, rfl⟩
    clear E
    go_wp2
    go_ret2
    exact ⟨rfl, below_drewN h2 n2⟩
end Go.Proofs.YtakfnmhokijcoaaGreatDoor

namespace Go.Proofs.YtakfnmhokijcoaaGreatDoor
open Go.RowKit

/-- Whether an elem may be an entry's. -/
def elOk (e : El) : Bool := decide (1 ≤ e.first ∧ e.first ≤ 65535) && (decide (32 ≤ e.second ∧ e.second ≤ 999) && (decide (2 ≤ e.third ∧ e.third ≤ 99) && !e.varies))

set_option maxRecDepth 100000 in
set_option maxHeartbeats 2000000 in
theorem goodElem_any (e : El) (w : World) : Calls Tryz.prog 67 #[.agg #[.int .i64 e.first, .int .i64 e.second, .int .i64 e.third, .bool e.varies]] w fun x w' => x = .returned (.bool (elOk e)) ∧ Below w.heap.size w w' := by
  obtain ⟨b, HB⟩ : ∃ b, Hid (elOk e = b) := ⟨_, rfl⟩
  rw [HB.out]
  obtain ⟨a, c, d, v⟩ := e
  simp only at *
  have hal := (Below.refl w.heap.size w).alloc (Nat.le_refl _) (.cells #[.int .i64 a, .int .i64 c, .int .i64 d, .bool v] 41)
  have fin : ∀ x, (x = true ↔ ((1 ≤ a ∧ a ≤ 65535) ∧ (32 ≤ c ∧ c ≤ 999) ∧ (2 ≤ d ∧ d ≤ 99) ∧ v = false)) → b = x := by
    intro x hx
    rw [← HB.out]
    unfold elOk
    rw [Bool.eq_iff_iff, hx]
    simp
  have HF : Hid _ := fin
  clear fin HB
  by_cases h1 : 1 ≤ a
  · by_cases h2 : a ≤ 65535
    · by_cases h3 : 32 ≤ c
      · by_cases h4 : c ≤ 999
        · by_cases h5 : 2 ≤ d
          · by_cases h6 : d ≤ 99
            · cases v
              · rw [HF.out true (by simp; omega)]
                clear HF
                go_enter Tryz.func67, Tryz.ntmps67
                go_wp2
                go_ret
                exact ⟨rfl, hal⟩
              · rw [HF.out false (by simp)]
                clear HF
                go_enter Tryz.func67, Tryz.ntmps67
                go_wp2
                go_ret
                exact ⟨rfl, hal⟩
            · rw [HF.out false (by simp; omega)]
              clear HF
              go_enter Tryz.func67, Tryz.ntmps67
              go_wp2
              go_ret
              exact ⟨rfl, hal⟩
          · rw [HF.out false (by simp; omega)]
            clear HF
            go_enter Tryz.func67, Tryz.ntmps67
            go_wp2
            go_ret
            exact ⟨rfl, hal⟩
        · rw [HF.out false (by simp; omega)]
          clear HF
          go_enter Tryz.func67, Tryz.ntmps67
          go_wp2
          go_ret
          exact ⟨rfl, hal⟩
      · rw [HF.out false (by simp; omega)]
        clear HF
        go_enter Tryz.func67, Tryz.ntmps67
        go_wp2
        go_ret
        exact ⟨rfl, hal⟩
    · rw [HF.out false (by simp; omega)]
      clear HF
      go_enter Tryz.func67, Tryz.ntmps67
      go_wp2
      go_ret
      exact ⟨rfl, hal⟩
  · rw [HF.out false (by simp; omega)]
    clear HF
    go_enter Tryz.func67, Tryz.ntmps67
    go_wp2
    go_ret
    exact ⟨rfl, hal⟩

/-- The program's tables. -/
def Tabs3 (w : World) : Prop := Held w 1 marksF ∧ Held w 4 capF ∧ Held w 5 othF
theorem Tabs3.below {w w' : World} (h : Tabs3 w) (hb : Below w.heap.size w w') : Tabs3 w' := ⟨h.1.below hb h.1.lt, h.2.1.below hb h.2.1.lt, h.2.2.below hb h.2.2.lt⟩

theorem runesOk_far {l : List Int} (h : ¬ (1 ≤ l.length ∧ l.length ≤ 4)) : runesOk l = false := by
  unfold runesOk
  rw [decide_eq_false h, Bool.false_and]

theorem runesOk_near {l : List Int} (h : 1 ≤ l.length ∧ l.length ≤ 4) : runesOk l = (isD l && okR l) := by
  unfold runesOk isD
  rw [decide_eq_true h, Bool.true_and]
  cases okR l <;> simp

set_option maxRecDepth 100000 in
set_option maxHeartbeats 2000000 in
theorem joined_any {w : World} {B : Nat} {v : Value} {l : List Int} (hz : l.length ≤ 1048576) (hI : Ints w B v l) (ht : Tabs3 w) :
    Calls Tryz.prog 59 #[v] w fun e w' => e = .returned (.bool (runesOk l)) ∧ Below w.heap.size w w' := by
  have D := implIsN_any hz hI ht.1 ht.2.1 ht.2.2
  obtain ⟨a, c, rfl⟩ : ∃ a c, v = .slice a l.length c := by
    rcases hI.form with ⟨rfl, rfl⟩ | ⟨g, cap, rfl, _, _⟩
    · exact ⟨_, _, rfl⟩
    · exact ⟨_, _, rfl⟩
  clear hI ht
  by_cases h1 : 1 ≤ l.length
  · by_cases h2 : l.length ≤ 4
    · rw [runesOk_near ⟨h1, h2⟩]
      have h3 : ¬ (l.length : Int) < 1 := by omega
      have h4 : ¬ (4 : Int) < (l.length : Int) := by omega
      generalize isD l = x at *
      generalize okR l = y at *
      generalize l.length = n at *
      cases x
      · go_enter Tryz.func59, Tryz.ntmps59
        go_wp2_with fail
        refine D.mono ?_
        rintro e w1 ⟨rfl, b1⟩
        clear D
        go_wp2
        go_ret
        exact ⟨rfl, b1⟩
      · go_enter Tryz.func59, Tryz.ntmps59
        go_wp2_with fail
        refine D.mono ?_
        rintro e w1 ⟨rfl, b1⟩
        clear D
        go_wp2
        go_ret
        exact ⟨rfl, b1⟩
    · rw [runesOk_far (fun h => h2 h.2)]
      have h3 : ¬ (l.length : Int) < 1 := by omega
      have h4 : (4 : Int) < (l.length : Int) := by omega
      clear D
      go_enter Tryz.func59, Tryz.ntmps59
      go_wp2
      go_ret
      exact ⟨rfl, Below.refl _ _⟩
  · rw [runesOk_far (fun h => h1 h.1)]
    have h3 : (l.length : Int) < 1 := by omega
    clear D
    go_enter Tryz.func59, Tryz.ntmps59
    go_wp2
    go_ret
    exact ⟨rfl, Below.refl _ _⟩
end Go.Proofs.YtakfnmhokijcoaaGreatDoor

namespace Go.Proofs.YtakfnmhokijcoaaGreatDoor

/-- The words of a list of bytes, the one under way beside. -/
def wf : List UInt8 → List UInt8 → List ByteArray
  | [], cur => if cur = [] then [] else [⟨cur.toArray⟩]
  | b :: l, cur => if b = 32 then (if cur = [] then wf l [] else ⟨cur.toArray⟩ :: wf l []) else wf l (cur ++ [b])

/-- The next word, and what is left behind it. -/
def nextL (l : List UInt8) : List UInt8 × List UInt8 :=
  ((l.dropWhile (· == 32)).takeWhile (· != 32), ((l.dropWhile (· == 32)).dropWhile (· != 32)).drop 1)

theorem wf_nil (cur : List UInt8) : wf [] cur = if cur = [] then [] else [⟨cur.toArray⟩] := rfl
theorem wf_cons (b : UInt8) (l cur : List UInt8) : wf (b :: l) cur = if b = 32 then (if cur = [] then wf l [] else ⟨cur.toArray⟩ :: wf l []) else wf l (cur ++ [b]) := rfl

theorem wf_cur (l cur : List UInt8) (h : cur ≠ []) : wf l cur = ⟨(cur ++ l.takeWhile (· != 32)).toArray⟩ :: wf ((l.dropWhile (· != 32)).drop 1) [] := by
  induction l generalizing cur with
  | nil => simp [wf, h]
  | cons b l ih =>
    rw [wf_cons]
    by_cases hb : b = 32
    · simp [hb, h]
    · rw [if_neg hb, ih (cur ++ [b]) (by simp)]
      simp [hb]

theorem wf_next (l : List UInt8) : wf l [] = if (nextL l).1 = [] then [] else ⟨(nextL l).1.toArray⟩ :: wf (nextL l).2 [] := by
  induction l with
  | nil => simp [wf, nextL]
  | cons b l ih =>
    rw [wf_cons]
    by_cases hb : b = 32
    · have e : nextL (b :: l) = nextL l := by simp [nextL, hb]
      rw [if_pos hb, if_pos rfl, e]
      exact ih
    · rw [if_neg hb, wf_cur l ([] ++ [b]) (by simp)]
      simp [nextL, hb]

theorem nextL_left {l : List UInt8} (h : (nextL l).1 = []) : (nextL l).2 = [] := by
  induction l with
  | nil => rfl
  | cons b l ih =>
    by_cases hb : b = 32
    · have e : nextL (b :: l) = nextL l := by simp [nextL, hb]
      rw [e] at h ⊢
      exact ih h
    · simp [nextL, hb] at h

theorem nextL_size (l : List UInt8) : (nextL l).1.length ≤ l.length ∧ (nextL l).2.length ≤ l.length := by
  unfold nextL
  have h1 := (List.dropWhile_sublist (l := l) (p := fun x => x == 32)).length_le
  have h2 := (List.takeWhile_sublist (l := l.dropWhile (fun x => x == 32)) (p := fun x => x != 32)).length_le
  have h3 := (List.dropWhile_sublist (l := l.dropWhile (fun x => x == 32)) (p := fun x => x != 32)).length_le
  simp only [List.length_drop]
  omega

theorem wst_step (s : ByteArray) (k : Nat) (hk : k < s.size) : (wst s k).1 ++ wf (s.data.toList.drop k) (wst s k).2.data.toList = (wst s (k + 1)).1 ++ wf (s.data.toList.drop (k + 1)) (wst s (k + 1)).2.data.toList := by
  have hd : s.data.toList.drop k = s.data.toList[k]'hk :: s.data.toList.drop (k + 1) := List.drop_eq_getElem_cons hk
  have hb : Dec.bt s k = (s.data.toList[k]'hk).toNat := by rw [← Dec.bt_get s k hk]; rfl
  rw [hd]
  generalize hx : s.data.toList[k]'hk = b at *
  conv => rhs; unfold wst
  by_cases c : b = 32
  · have c2 : ¬ (k < s.size ∧ Dec.bt s k ≠ 32) := by rw [hb, c]; simp
    rw [if_neg c2]
    simp only
    rw [wf_cons, if_pos c]
    by_cases z : (wst s k).2.data.toList = []
    · have z2 : (wst s k).2.size = 0 := by show (wst s k).2.data.size = 0; rw [← Array.length_toList, z]; rfl
      rw [if_pos z, if_pos z2]
    · have z2 : ¬ (wst s k).2.size = 0 := fun e => z (List.eq_nil_of_length_eq_zero (by rw [Array.length_toList]; exact e))
      rw [if_neg z, if_neg z2]
      simp
  · have c2 : k < s.size ∧ Dec.bt s k ≠ 32 := ⟨hk, by
      rw [hb]
      intro e
      exact c (UInt8.toNat_inj.1 e)⟩
    rw [if_pos c2]
    simp only
    rw [wf_cons, if_neg c]
    congr 2
    rw [ByteArray.data_append, Array.toList_append, ByteArray.data_extract, Array.toList_extract]
    congr 1
    rw [List.extract_eq_take_drop, hd]
    simp

theorem words_wf (s : ByteArray) : words s = wf s.data.toList [] := by
  have h : ∀ k, k ≤ s.size → wf s.data.toList [] = (wst s k).1 ++ wf (s.data.toList.drop k) (wst s k).2.data.toList := by
    intro k
    induction k with
    | zero => intro _; simp [wst]
    | succ k ih => intro hk; rw [ih (by omega), wst_step s k (by omega)]
  rw [h s.size (Nat.le_refl _)]
  have e : s.data.toList.drop s.size = [] := List.drop_eq_nil_of_le (by simp)
  rw [e]
  unfold words
  conv => lhs; unfold wst
  rw [if_neg (by omega)]
  rw [wf_nil]
  by_cases z : (wst s s.size).2.data.toList = []
  · have z2 : (wst s s.size).2.size = 0 := by show (wst s s.size).2.data.size = 0; rw [← Array.length_toList, z]; rfl
    rw [if_pos z, if_pos z2]; simp
  · have z2 : ¬ (wst s s.size).2.size = 0 := fun e => z (List.eq_nil_of_length_eq_zero (by rw [Array.length_toList]; exact e))
    rw [if_neg z, if_neg z2]

/-- What Index tells of a blank. -/
theorem cut_miss : ∀ (t : List UInt8), Lib.indexByte t 32 = -1 → t.takeWhile (· != 32) = t ∧ (t.dropWhile (· != 32)).drop 1 = []
  | [], _ => by simp
  | b :: t, h => by
    have n := Lib.indexByte_none h
    have hb : b ≠ 32 := fun e => n 0 (by simp [e])
    unfold Lib.indexByte at h
    have hb2 : (b == 32) = false := by simpa using hb
    rw [hb2] at h
    have h2 : Lib.indexByte t 32 = -1 := by
      have g := Lib.indexByte_ge t 32
      by_cases c : Lib.indexByte t 32 = -1
      · exact c
      · exfalso
        have c2 : (Lib.indexByte t 32 == -1) = false := by simpa using c
        rw [c2] at h
        simp at h
        omega
    obtain ⟨i1, i2⟩ := cut_miss t h2
    refine ⟨?_, ?_⟩
    · rw [List.takeWhile_cons]; simp [hb, i1]
    · rw [List.dropWhile_cons]; simp [hb]; simpa using i2

theorem cut_hit : ∀ (t : List UInt8) (i : Nat), Lib.indexByte t 32 = (i : Int) → i < t.length ∧ t.takeWhile (· != 32) = t.take i ∧ (t.dropWhile (· != 32)).drop 1 = t.drop (i + 1)
  | [], i, h => by simp [Lib.indexByte] at h
  | b :: t, i, h => by
    unfold Lib.indexByte at h
    by_cases hb : b = 32
    · have hb2 : (b == 32) = true := by simpa using hb
      rw [hb2] at h
      have : i = 0 := by simpa using h.symm
      subst this
      simp [hb]
    · have hb2 : (b == 32) = false := by simpa using hb
      rw [hb2] at h
      have g := Lib.indexByte_ge t 32
      by_cases c : Lib.indexByte t 32 = -1
      · rw [c] at h; simp at h
      · have c2 : (Lib.indexByte t 32 == -1) = false := by simpa using c
        rw [c2] at h
        simp at h
        obtain ⟨j, rfl⟩ : ∃ j, i = j + 1 := ⟨i - 1, by omega⟩
        obtain ⟨i0, i1, i2⟩ := cut_hit t j (by omega)
        refine ⟨by simp; omega, ?_, ?_⟩
        · rw [List.takeWhile_cons]; simp [hb, i1]
        · rw [List.dropWhile_cons]; simp [hb]; simpa using i2
end Go.Proofs.YtakfnmhokijcoaaGreatDoor

namespace Go.Proofs.YtakfnmhokijcoaaGreatDoor
open Go.RowKit

theorem EntsD.up {w : World} {B T T' : Nat} {v : Value} {es : List Ent} (h : EntsD w B T v es) (hT : T ≤ T') : EntsD w B T' v es := by
  obtain ⟨xs, hl, h1, h2, h3, h4, h5⟩ := h
  exact ⟨xs, hl, h1, h2, h3, fun g hg => Nat.lt_of_lt_of_le (h4 g hg) hT, fun i x g hx hg => Nat.lt_of_lt_of_le (h5 i x g hx hg) hT⟩

theorem EntsD.grown {u u' : World} {B T b : Nat} {v : Value} {es : List Ent} (h : EntsD u B T v es) (hg : u.grownBy u' (some b)) (hb : b < B) : EntsD u' B T v es := by
  have ne : ∀ {v : Value}, (∀ g, v.ownBlock = some g → B ≤ g) → v.ownBlock = none ∨ v.ownBlock ≠ some b := fun {v} h => by
    cases e : v.ownBlock with
    | none => exact .inl rfl
    | some g =>
      refine .inr fun c => ?_
      have := h g e
      cases c
      omega
  obtain ⟨xs, hl, h1, h2, h3, h4, h5⟩ := h
  refine ⟨xs, hl, World.ownsRow.kept h1 hg (ne fun g hg => (World.ownsRow.lt h1 g hg).1), fun k e he => ?_, h3, h4, h5⟩
  obtain ⟨x, hx, hI⟩ := h2 k e he
  exact ⟨x, hx, World.ownsRow.kept hI hg (ne fun g hg => (World.ownsRow.lt hI g hg).1)⟩

/-- The cells of a reader. -/
def rdC (l : List UInt8) (vE : Value) (st : RS) : Array Value := #[.string ⟨l.toArray⟩, vE, .bool st.sh, .int .i64 st.lv, .int .i64 st.last.first, .int .i64 st.last.second, .int .i64 st.last.third, .bool st.last.varies, .bool st.reset]

/-- A reader in block b, made in the world w; its entries' blocks lie from b + 1 on and ahead of T. -/
structure RdM (w u : World) (b T : Nat) (l : List UInt8) (st : RS) (vE : Value) : Prop where
  blk : u.heap[b]? = some (.cells (rdC l vE st) 55)
  en : EntsD u (b + 1) T vE st.es
  tl : T ≤ u.heap.size
  be : Below b w u
  tab : Tabs3 u
  tb : 1 < b ∧ 4 < b ∧ 5 < b

theorem RdM.lt {w u : World} {b T : Nat} {l : List UInt8} {st : RS} {vE : Value} (h : RdM w u b T l st vE) : b < u.heap.size := (Array.getElem?_eq_some_iff.1 h.blk).1

theorem RdM.cells {w u : World} {b T : Nat} {l : List UInt8} {st : RS} {vE : Value} (h : RdM w u b T l st vE) :
    u.cell? ⟨b, 0, none⟩ = some (.string ⟨l.toArray⟩) ∧ u.cell? ⟨b, 1, none⟩ = some vE ∧ u.cell? ⟨b, 2, none⟩ = some (.bool st.sh) ∧ u.cell? ⟨b, 3, none⟩ = some (.int .i64 st.lv) ∧ u.cell? ⟨b, 4, none⟩ = some (.int .i64 st.last.first) ∧ u.cell? ⟨b, 5, none⟩ = some (.int .i64 st.last.second) ∧ u.cell? ⟨b, 6, none⟩ = some (.int .i64 st.last.third) ∧ u.cell? ⟨b, 7, none⟩ = some (.bool st.last.varies) ∧ u.cell? ⟨b, 8, none⟩ = some (.bool st.reset) ∧ ∀ j, u.frozen? ⟨b, j, none⟩ = false :=
  ⟨cell_of_row _ _ 0 _ _ _ h.blk, cell_of_row _ _ 1 _ _ _ h.blk, cell_of_row _ _ 2 _ _ _ h.blk, cell_of_row _ _ 3 _ _ _ h.blk, cell_of_row _ _ 4 _ _ _ h.blk, cell_of_row _ _ 5 _ _ _ h.blk, cell_of_row _ _ 6 _ _ _ h.blk, cell_of_row _ _ 7 _ _ _ h.blk, cell_of_row _ _ 8 _ _ _ h.blk, fun j => by simp [World.frozen?, h.blk]⟩

theorem RdM.step {w u u' : World} {b T : Nat} {l : List UInt8} {st : RS} {vE : Value} (h : RdM w u b T l st vE) (hb : Below u.heap.size u u') : RdM w u' b T l st vE :=
  ⟨(hb.block _ h.lt).trans h.blk, h.en.below hb, Nat.le_trans h.tl hb.size, h.be.trans (hb.mono (Nat.le_of_lt h.lt)), h.tab.below hb, h.tb⟩

theorem RdM.up {w u : World} {b T : Nat} {l : List UInt8} {st : RS} {vE : Value} (h : RdM w u b T l st vE) : RdM w u b u.heap.size l st vE :=
  ⟨h.blk, h.en.up h.tl, Nat.le_refl _, h.be, h.tab, h.tb⟩

theorem Held.set {u : World} {g b i : Nat} {zs : List Int} {x : Value} (h : Held u g zs) (hg : g < b) : Held (u.setCell ⟨b, i, none⟩ x) g zs := by
  obtain ⟨t, fr, hh⟩ := h
  exact ⟨t, fr, by rw [Below.heap_setCell _ _ _ _ (by show g ≠ b; omega)]; exact hh⟩

/-- One cell of the reader's told anew. -/
theorem RdM.set {w u : World} {b T i : Nat} {l l' : List UInt8} {st st' : RS} {vE vE' x : Value} (h : RdM w u b T l st vE) (hc : (rdC l vE st).setIfInBounds i x = rdC l' vE' st') (hv : vE' = vE) (he : st'.es = st.es) :
    RdM w (u.setCell ⟨b, i, none⟩ x) b T l' st' vE' := by
  subst hv
  refine ⟨?_, ?_, ?_, h.be.setCell (Nat.le_refl _) _, ⟨h.tab.1.set h.tb.1, h.tab.2.1.set h.tb.2.1, h.tab.2.2.set h.tb.2.2⟩, h.tb⟩
  · rw [heap_setCell_same u b i _ _ x h.blk, hc]
  · rw [he]
    exact h.en.grown (setCell_grown u b i x) (Nat.lt_succ_self _)
  · simpa using h.tl

/-- An elem told anew. -/
def setLs (u : World) (b : Nat) (e : El) : World := (((u.setCell ⟨b, 4, none⟩ (.int .i64 e.first)).setCell ⟨b, 5, none⟩ (.int .i64 e.second)).setCell ⟨b, 6, none⟩ (.int .i64 e.third)).setCell ⟨b, 7, none⟩ (.bool e.varies)

theorem RdM.setLast {w u : World} {b T : Nat} {l : List UInt8} {st : RS} {vE : Value} (h : RdM w u b T l st vE) (e : El) : RdM w (setLs u b e) b T l { st with last := e } vE := by
  have h1 : RdM w (u.setCell ⟨b, 4, none⟩ (.int .i64 e.first)) b T l { st with last := { st.last with first := e.first } } vE := h.set rfl rfl rfl
  have h2 : RdM w ((u.setCell ⟨b, 4, none⟩ (.int .i64 e.first)).setCell ⟨b, 5, none⟩ (.int .i64 e.second)) b T l { st with last := { st.last with first := e.first, second := e.second } } vE := h1.set rfl rfl rfl
  have h3 : RdM w (((u.setCell ⟨b, 4, none⟩ (.int .i64 e.first)).setCell ⟨b, 5, none⟩ (.int .i64 e.second)).setCell ⟨b, 6, none⟩ (.int .i64 e.third)) b T l { st with last := { st.last with first := e.first, second := e.second, third := e.third } } vE := h2.set rfl rfl rfl
  exact h3.set rfl rfl rfl

theorem setLs_grown (u : World) (b : Nat) (e : El) : u.grownBy (setLs u b e) (some b) :=
  (((setCell_grown u b 4 _).trans (setCell_grown _ b 5 _)).trans (setCell_grown _ b 6 _)).trans (setCell_grown _ b 7 _)

theorem Held.grown {u u' : World} {g : Nat} {zs : List Int} {row : Option Nat} (h : Held u g zs) (hg : u.grownBy u' row) (hr : ∀ j, row = some j → g ≠ j) : Held u' g zs := by
  obtain ⟨t, fr, hh⟩ := h
  exact ⟨t, fr, by rw [hg.block g (Array.getElem?_eq_some_iff.1 hh).1 (fun c => hr g c.symm rfl)]; exact hh⟩

/-- One entry put behind, the reader told of it. -/
theorem RdM.put {w u u' : World} {b T B' g cap : Nat} {l : List UInt8} {st : RS} {vE vl : Value} {r : List Int} {xs : List Value} (h : RdM w u b T l st vE) (hxl : xs.length = st.es.length)
    (h1 : u.ownsRow (b + 1) 52 5 vE st.es.length (entAll xs st.es))
    (h2 : ∀ (k : Nat) (e : Ent), st.es[k]? = some e → ∃ x, xs[k]? = some x ∧ Ints u (b + 1) x e.runes)
    (h3 : ∀ (i j : Nat) (x y : Value), i ≠ j → xs[i]? = some x → xs[j]? = some y → x.ownBlock = none ∨ x.ownBlock ≠ y.ownBlock)
    (h5 : ∀ (i : Nat) (x : Value) (g : Nat), xs[i]? = some x → x.ownBlock = some g → g < T)
    (hI : Ints u B' vl r) (hB : T ≤ B') (hB2 : b + 1 ≤ B') (hg : u.grownBy u' vE.ownBlock)
    (ho : u'.ownsRow (b + 1) 52 5 (.slice (some ⟨g, 0, none⟩) (st.es.length + 1) cap) (st.es.length + 1) (entAll xs st.es ++ entC vl st.last)) :
    RdM w (u'.setCell ⟨b, 1, none⟩ (.slice (some ⟨g, 0, none⟩) (st.es.length + 1) cap)) b u'.heap.size l { st with es := st.es ++ [⟨r, st.last⟩] } (.slice (some ⟨g, 0, none⟩) (st.es.length + 1) cap) := by
  have hrow : ∀ j, vE.ownBlock = some j → b + 1 ≤ j := fun j hj => (World.ownsRow.lt h1 j hj).1
  have hI1 : Ints u (b + 1) vl r := ints_low2 hI hB2
  have hE : Ents u' (b + 1) (.slice (some ⟨g, 0, none⟩) (st.es.length + 1) cap) (st.es ++ [⟨r, st.last⟩]) := Ents.snoc (e := ⟨r, st.last⟩) hxl h2 hI1 h1 hg ho
  have hD : EntsD u' (b + 1) u'.heap.size (.slice (some ⟨g, 0, none⟩) (st.es.length + 1) cap) (st.es ++ [⟨r, st.last⟩]) := by
    refine ⟨xs ++ [vl], by simp [hxl], ?_, ?_, ?_, ?_, ?_⟩
    · rw [entAll_snoc xs st.es vl ⟨r, st.last⟩ hxl, List.length_append]
      exact ho
    · intro k e he
      by_cases hk : k < st.es.length
      · rw [List.getElem?_append_left hk] at he
        obtain ⟨z, hz, hzi⟩ := h2 k e he
        have hz1 := (List.getElem?_eq_some_iff.1 hz).1
        exact ⟨z, by rw [List.getElem?_append_left hz1]; exact hz, World.ownsRow.kept hzi hg (own_type hzi h1 (by decide))⟩
      · have hk2 : k = st.es.length := by
          have := (List.getElem?_eq_some_iff.1 he).1
          simp at this; omega
        subst hk2
        simp at he
        subst he
        exact ⟨vl, by rw [← hxl]; simp, World.ownsRow.kept hI1 hg (own_type hI1 h1 (by decide))⟩
    · have old : ∀ (i : Nat) (x : Value), i < xs.length → (xs ++ [vl])[i]? = some x → xs[i]? = some x := fun i x hi hx => by rw [List.getElem?_append_left hi] at hx; exact hx
      have new : ∀ (i : Nat) (x : Value), ¬ i < xs.length → (xs ++ [vl])[i]? = some x → x = vl := fun i x hi hx => by
        have h8 := (List.getElem?_eq_some_iff.1 hx).1
        have h9 : i = xs.length := by simp at h8; omega
        subst h9
        simp at hx
        exact hx.symm
      intro i j x y hij hx hy
      by_cases ci : i < xs.length
      · by_cases cj : j < xs.length
        · exact h3 i j x y hij (old i x ci hx) (old j y cj hy)
        · have ey := new j y cj hy
          subst ey
          cases e : x.ownBlock with
          | none => exact .inl rfl
          | some gx =>
            refine .inr fun c => ?_
            have l1 := h5 i x gx (old i x ci hx) e
            have l2 := (World.ownsRow.lt hI gx c.symm).1
            omega
      · have ex := new i x ci hx
        subst ex
        by_cases cj : j < xs.length
        · cases e : y.ownBlock with
          | none =>
            cases e2 : x.ownBlock with
            | none => exact .inl rfl
            | some gx => exact .inr fun c => by cases c
          | some gy =>
            refine .inr fun c => ?_
            have l1 := h5 j y gy (old j y cj hy) e
            have l2 := (World.ownsRow.lt hI gy c).1
            omega
        · exfalso
          have h8 := (List.getElem?_eq_some_iff.1 hx).1
          have h9 := (List.getElem?_eq_some_iff.1 hy).1
          simp at h8 h9
          omega
    · intro g' hg'
      exact (World.ownsRow.lt ho g' hg').2
    · intro i x gx hx hgx
      by_cases ci : i < xs.length
      · rw [List.getElem?_append_left ci] at hx
        exact Nat.lt_of_lt_of_le (h5 i x gx hx hgx) (Nat.le_trans h.tl hg.size)
      · have h8 := (List.getElem?_eq_some_iff.1 hx).1
        have h9 : i = xs.length := by simp at h8; omega
        subst h9
        simp at hx
        subst hx
        exact Nat.lt_of_lt_of_le (World.ownsRow.lt hI gx hgx).2 hg.size
  have hblk : u'.heap[b]? = some (.cells (rdC l vE st) 55) := by
    rw [hg.block b h.lt (fun c => by have := hrow b c.symm; omega)]; exact h.blk
  have hbe : Below b w u' := Below.grown h.be hg (Nat.le_of_lt h.lt) (fun j hj => by have := hrow j hj; omega)
  have htab : Tabs3 u' := ⟨h.tab.1.grown hg (fun j hj => by have := hrow j hj; have := h.tb.1; omega), h.tab.2.1.grown hg (fun j hj => by have := hrow j hj; have := h.tb.2.1; omega), h.tab.2.2.grown hg (fun j hj => by have := hrow j hj; have := h.tb.2.2; omega)⟩
  refine ⟨?_, hD.grown (setCell_grown u' b 1 _) (Nat.lt_succ_self _), by simp, hbe.setCell (Nat.le_refl _) _, ⟨htab.1.set h.tb.1, htab.2.1.set h.tb.2.1, htab.2.2.set h.tb.2.2⟩, h.tb⟩
  rw [heap_setCell_same u' b 1 _ _ _ hblk]
  rfl
end Go.Proofs.YtakfnmhokijcoaaGreatDoor

namespace Go.Proofs.YtakfnmhokijcoaaGreatDoor

theorem place_out {l : List Int} {r : Int} (h : r ∉ l) : placeIn l r = none := by
  unfold placeIn
  rw [List.findIdx?_eq_none_iff]
  intro x hx
  simp only [beq_eq_false_iff_ne]
  intro e
  exact h (e ▸ hx)

theorem place_in {l : List Int} {r : Int} (h : r ∈ l) : ∃ i, placeIn l r = some i ∧ i < l.length := by
  cases e : placeIn l r with
  | some i => exact ⟨i, rfl, by unfold placeIn at e; exact (List.findIdx?_eq_some_iff_getElem.1 e).1⟩
  | none =>
    unfold placeIn at e
    have := List.findIdx?_eq_none_iff.1 e r h
    simp at this

/-- Where a rune stands among those that vary; less than 0: nowhere. -/
def idxV (r : Int) : Int := match placeIn vsl r with
  | some i => (i : Int)
  | none => -1

theorem base_vs {r : Int} {i : Nat} (h : placeIn vsl r = some i) : base r = [⟨1 + (i : Int), 32, 2, true⟩] := by unfold base; rw [h]
theorem base_mk {r : Int} {i : Nat} (h0 : placeIn vsl r = none) (h : placeIn mkl r = some i) : base r = [⟨0, 40 + (i : Int), 2, false⟩] := by unfold base; rw [h0]; simp only; rw [h]
theorem base_rest {r : Int} (h0 : placeIn vsl r = none) (h : placeIn mkl r = none) : base r = baseRest r := by unfold base; rw [h0]; simp only; rw [h]

theorem vsl_bd : ∀ x ∈ vsl, 32 ≤ x ∧ x ≤ 126 ∧ ¬ (48 ≤ x ∧ x ≤ 57) ∧ ¬ (97 ≤ x ∧ x ≤ 122) ∧ ¬ (65 ≤ x ∧ x ≤ 90) := by decide
theorem mkl_bd : ∀ x ∈ mkl, 128 ≤ x := by decide
theorem vs_far {r : Int} (h : ¬ (32 ≤ r ∧ r ≤ 126)) : placeIn vsl r = none := place_out fun c => h ⟨(vsl_bd r c).1, (vsl_bd r c).2.1⟩
theorem mk_far {r : Int} (h : r < 128) : placeIn mkl r = none := place_out fun c => by have := mkl_bd r c; omega

theorem base_ctl {r : Int} (_h0 : 0 ≤ r) (h : r ≤ 31 ∨ r = 127) : base r = [] := by
  rw [base_rest (vs_far (by omega)) (mk_far (by omega))]
  unfold baseRest
  rw [if_pos (by omega)]

theorem base_digit {r : Int} (h : 48 ≤ r ∧ r ≤ 57) : base r = [⟨2000 + 100 * (r - 48), 32, 2, false⟩] := by
  rw [base_rest (place_out fun c => (vsl_bd r c).2.2.1 h) (mk_far (by omega))]
  unfold baseRest
  rw [if_neg (by omega), if_pos h]

theorem base_small {r : Int} (h : 97 ≤ r ∧ r ≤ 122) : base r = [⟨4000 + 200 * (r - 97), 32, 2, false⟩] := by
  rw [base_rest (place_out fun c => (vsl_bd r c).2.2.2.1 h) (mk_far (by omega))]
  unfold baseRest
  rw [if_neg (by omega), if_neg (by omega), if_pos h]

theorem base_cap {r : Int} (h : 65 ≤ r ∧ r ≤ 90) : base r = [⟨4000 + 200 * (r - 65), 32, 8, false⟩] := by
  rw [base_rest (place_out fun c => (vsl_bd r c).2.2.2.2 h) (mk_far (by omega))]
  unfold baseRest
  rw [if_neg (by omega), if_neg (by omega), if_neg (by omega), if_pos h]

theorem base_two {r : Int} (h0 : placeIn vsl r = none) (h : placeIn mkl r = none) (h1 : ¬ (r ≤ 31 ∨ r = 127)) (h2 : ¬ (48 ≤ r ∧ r ≤ 57)) (h3 : ¬ (97 ≤ r ∧ r ≤ 122)) (h4 : ¬ (65 ≤ r ∧ r ≤ 90)) : base r = [⟨60000 + r / 32768, 32, 2, false⟩, ⟨32768 + r % 32768, 0, 0, false⟩] := by
  rw [base_rest h0 h]
  unfold baseRest
  rw [if_neg (by omega), if_neg h2, if_neg h3, if_neg h4]
end Go.Proofs.YtakfnmhokijcoaaGreatDoor

namespace Go.Proofs.YtakfnmhokijcoaaGreatDoor
open Go.RowKit

def vsB : ByteArray := ⟨#[32, 95, 45, 44, 59, 58, 33, 63, 46]⟩

set_option maxRecDepth 100000 in
set_option maxHeartbeats 1000000 in
theorem liteByte_any (s : ByteArray) (c : Int) (w : World) :
    Calls Tryz.prog 76 #[.string s, .int .u8 c] w fun e w' => e = .returned (.int .i64 (Lib.indexByte s.data.toList c.toNat.toUInt8)) ∧ w' = w := by
  go_enter Tryz.func76, Tryz.ntmps76
  go_wp2
  rw [run_callFunc_extern Tryz.func84 (by kernel_rfl) (by kernel_rfl) (by kernel_rfl) (e := Extern.BytealgIndexByte.indexByte) (by kernel_rfl), Lib.run_indexByteString]
  simp only [Result.andThen]
  rw [Oper.upon_value]
  go_wp2
  go_ret
  exact ⟨rfl, rfl⟩

set_option maxRecDepth 100000 in
set_option maxHeartbeats 1000000 in
theorem strByte_any (s : ByteArray) (c : Int) (w : World) :
    Calls Tryz.prog 86 #[.string s, .int .u8 c] w fun e w' => e = .returned (.int .i64 (Lib.indexByte s.data.toList c.toNat.toUInt8)) ∧ w' = w := by
  have A := fun w => liteByte_any s c w
  go_enter Tryz.func86, Tryz.ntmps86
  go_wp2_with fail
  refine (A _).mono ?_
  rintro e w1 ⟨rfl, rfl⟩
  clear A
  go_wp2
  go_ret
  exact ⟨rfl, rfl⟩

theorem idx_low : ((List.range 128).all fun k => Lib.indexByte vsB.data.toList ((k : Int).toNat.toUInt8) == idxV (k : Int)) = true := by kernel_rfl

theorem idx_lowAt {r : Int} (h0 : 0 ≤ r) (h1 : r < 128) : Lib.indexByte vsB.data.toList (r.toNat.toUInt8) = idxV r := by
  obtain ⟨k, rfl⟩ : ∃ k : Nat, r = (k : Int) := ⟨r.toNat, by omega⟩
  exact eq_of_beq (List.all_eq_true.1 idx_low k (List.mem_range.2 (by omega)))

theorem vs_dec (p : Nat) (hp : p < 9) : (Utf8.decode ⟨#[32, 95, 45, 44, 59, 58, 33, 63, 46]⟩ p).2 = 1 ∧ ((Utf8.decode ⟨#[32, 95, 45, 44, 59, 58, 33, 63, 46]⟩ p).1 : Int) ≠ 65533 :=
  (by decide : ∀ q : Fin 9, (Utf8.decode ⟨#[32, 95, 45, 44, 59, 58, 33, 63, 46]⟩ q.1).2 = 1 ∧ ((Utf8.decode ⟨#[32, 95, 45, 44, 59, 58, 33, 63, 46]⟩ q.1).1 : Int) ≠ 65533) ⟨p, hp⟩

theorem idx_none {r : Int} (h : 128 ≤ r) : idxV r = -1 := by
  unfold idxV
  rw [vs_far (by omega)]

set_option maxRecDepth 100000 in
set_option maxHeartbeats 4000000 in
theorem idxRune_low (r : Int) (h0 : 0 ≤ r) (h1 : r < 128) (w : World) :
    Calls Tryz.prog 81 #[.string ⟨#[32, 95, 45, 44, 59, 58, 33, 63, 46]⟩, .int .i32 r] w fun e w' => e = .returned (.int .i64 (idxV r)) ∧ w' = w := by
  have A := fun w => strByte_any vsB r w
  rw [idx_lowAt h0 h1] at A
  unfold vsB at A
  go_enter Tryz.func81, Tryz.ntmps81
  go_wp2_with fail
  refine (A _).mono ?_
  rintro e w1 ⟨rfl, rfl⟩
  clear A
  go_wp2
  go_ret
  exact ⟨rfl, rfl⟩

set_option maxRecDepth 100000 in
set_option maxHeartbeats 4000000 in
theorem idxRune_bad (w : World) :
    Calls Tryz.prog 81 #[.string ⟨#[32, 95, 45, 44, 59, 58, 33, 63, 46]⟩, .int .i32 65533] w fun e w' => e = .returned (.int .i64 (-1)) ∧ Below w.heap.size w w' := by
  go_enter Tryz.func81, Tryz.ntmps81
  go_wp2_with fail
  go_loopw [4] (fun v wr => v = .int .i64 0 ∧ ∃ p : Nat, p ≤ 9 ∧ wr.heap[w.heap.size]? = some (.stringIter ⟨#[32, 95, 45, 44, 59, 58, 33, 63, 46]⟩ p) ∧ Below w.heap.size w wr) (fun _ wr => 9 - wr.iterPos w.heap.size)
  case atStart => exact ⟨rfl, 0, Nat.zero_le _, World.iter_heap w _ 0, (Below.refl _ _).alloc (Nat.le_refl _) _⟩
  case round =>
    obtain ⟨rfl, p, hp, hit, hbw⟩ := hrel
    have hpos0 := iterPos_of hit
    by_cases hlt : p < 9
    · have hnx : ∀ ty, (Instr.next (.pointer (some ⟨w.heap.size, 0, none⟩)) true ty).run Tryz.prog wr = _ := fun ty => Lib.run_next_any_at wr w.heap.size ⟨#[32, 95, 45, 44, 59, 58, 33, 63, 46]⟩ p ty hit hlt
      obtain ⟨d1, d2⟩ := vs_dec p hlt
      have hit2 := Lib.iterAt_heap wr w.heap.size ⟨#[32, 95, 45, 44, 59, 58, 33, 63, 46]⟩ p (p + (Utf8.decode ⟨#[32, 95, 45, 44, 59, 58, 33, 63, 46]⟩ p).2) hit
      have hbw2 := Lib.below_iterAt hbw (k := w.heap.size) (Nat.le_refl _) ⟨#[32, 95, 45, 44, 59, 58, 33, 63, 46]⟩ (p + (Utf8.decode ⟨#[32, 95, 45, 44, 59, 58, 33, 63, 46]⟩ p).2)
      obtain ⟨W1, hW1⟩ : ∃ W1, W1 = wr.iterAt w.heap.size ⟨#[32, 95, 45, 44, 59, 58, 33, 63, 46]⟩ (p + (Utf8.decode ⟨#[32, 95, 45, 44, 59, 58, 33, 63, 46]⟩ p).2) := ⟨_, rfl⟩
      rw [← hW1] at hnx hit2 hbw2
      rw [d1] at hit2
      have d3 : (((Utf8.decode ⟨#[32, 95, 45, 44, 59, 58, 33, 63, 46]⟩ p).1 : Int) == 65533) = false := by simpa using d2
      generalize ((Utf8.decode ⟨#[32, 95, 45, 44, 59, 58, 33, 63, 46]⟩ p).1 : Int) = x at *
      clear hW1 hit hbw d1 d2
      go_wp2
      exact ⟨⟨rfl, p + 1, by omega, hit2, hbw2⟩, by rw [iterPos_of hit2, hpos0]; omega⟩
    · have hnx : ∀ ty, (Instr.next (.pointer (some ⟨w.heap.size, 0, none⟩)) true ty).run Tryz.prog wr = _ := fun ty => Lib.run_next_end_at wr w.heap.size ⟨#[32, 95, 45, 44, 59, 58, 33, 63, 46]⟩ p ty hit hlt
      go_wp2
      go_ret
      exact ⟨rfl, hbw⟩

set_option maxRecDepth 100000 in
set_option maxHeartbeats 4000000 in
theorem valid_any (r : Int) (h0 : 128 ≤ r) (h1 : r ≤ 1114111) (h2 : ¬ (55296 ≤ r ∧ r ≤ 57343)) (w : World) :
    Calls Tryz.prog 87 #[.int .i32 r] w fun e w' => e = .returned (.bool true) ∧ w' = w := by
  go_enter Tryz.func87, Tryz.ntmps87
  by_cases h3 : r < 55296
  · go_wp2
    go_ret
    exact ⟨rfl, rfl⟩
  · have h4 : 57343 < r := by omega
    clear h2
    go_wp2
    go_ret
    exact ⟨rfl, rfl⟩

theorem enc_cases (r : Int) (h0 : 128 ≤ r) (h1 : r ≤ 1114111) (h2 : ¬ (55296 ≤ r ∧ r ≤ 57343)) : (∃ a z : UInt8, Utf8.encode r = ⟨#[a, z]⟩ ∧ 128 ≤ z.toNat) ∨ (∃ a b z : UInt8, Utf8.encode r = ⟨#[a, b, z]⟩ ∧ 128 ≤ z.toNat) ∨ (∃ a b c z : UInt8, Utf8.encode r = ⟨#[a, b, c, z]⟩ ∧ 128 ≤ z.toNat) := by
  have hv : Utf8.valid r = true := by
    unfold Utf8.valid
    simp
    omega
  have hz : ∀ n : Nat, 128 ≤ (UInt8.ofNat (0x80 + n % 64)).toNat := by
    intro n
    rw [UInt8.toNat_ofNat']
    omega
  unfold Utf8.encode
  rw [hv]
  simp only [if_true]
  rw [if_neg (by omega)]
  split
  · exact .inl ⟨_, _, rfl, hz _⟩
  · split
    · exact .inr (.inl ⟨_, _, _, rfl, hz _⟩)
    · exact .inr (.inr ⟨_, _, _, _, rfl, hz _⟩)

theorem vs_miss {z : UInt8} (h : 128 ≤ z.toNat) (n : Nat) : Lib.indexByte ((⟨#[32, 95, 45, 44, 59, 58, 33, 63, 46]⟩ : ByteArray).extract n 9).data.toList ((z.toNat : Int).toNat.toUInt8) = -1 := by
  have hz2 : (z.toNat : Int).toNat.toUInt8 = z := by simp
  rw [hz2]
  have hge := Lib.indexByte_ge ((⟨#[32, 95, 45, 44, 59, 58, 33, 63, 46]⟩ : ByteArray).extract n 9).data.toList z
  by_cases c : Lib.indexByte ((⟨#[32, 95, 45, 44, 59, 58, 33, 63, 46]⟩ : ByteArray).extract n 9).data.toList z = -1
  · exact c
  · exfalso
    obtain ⟨m, hm⟩ : ∃ m : Nat, Lib.indexByte ((⟨#[32, 95, 45, 44, 59, 58, 33, 63, 46]⟩ : ByteArray).extract n 9).data.toList z = (m : Int) := ⟨(Lib.indexByte ((⟨#[32, 95, 45, 44, 59, 58, 33, 63, 46]⟩ : ByteArray).extract n 9).data.toList z).toNat, by omega⟩
    obtain ⟨h1, _⟩ := Lib.indexByte_some hm
    have h2 := List.mem_of_getElem? h1
    rw [ByteArray.data_extract, Array.toList_extract, List.extract_eq_take_drop] at h2
    have h3 := List.mem_of_mem_drop (List.mem_of_mem_take h2)
    have h4 : ∀ x ∈ (⟨#[32, 95, 45, 44, 59, 58, 33, 63, 46]⟩ : ByteArray).data.toList, x.toNat < 128 := by decide
    have := h4 z h3
    omega

set_option maxRecDepth 100000 in
set_option maxHeartbeats 4000000 in
theorem idxRune_two (r : Int) (a z : UInt8) (hE : Utf8.encode r = ⟨#[a, z]⟩) (hz : 128 ≤ z.toNat) (h0 : 128 ≤ r) (h1 : r ≤ 1114111) (h2 : ¬ (55296 ≤ r ∧ r ≤ 57343)) (h3 : r ≠ 65533) (w : World) :
    Calls Tryz.prog 81 #[.string ⟨#[32, 95, 45, 44, 59, 58, 33, 63, 46]⟩, .int .i32 r] w fun e w' => e = .returned (.int .i64 (-1)) ∧ Below w.heap.size w w' := by
  have V := fun w => valid_any r h0 h1 h2 w
  have h4 : (r == 65533) = false := by simpa using h3
  go_enter Tryz.func81, Tryz.ntmps81
  go_wp2_with fail
  refine (V _).mono ?_
  rintro e w1 ⟨rfl, rfl⟩
  clear V
  go_wp2_with fail
  go_step3
  go_wp2_with fail
  go_loopw [9] (fun v wr => wr = w1 ∧ v = .int .i64 1) (fun _ _ => 0)
  case atStart => exact ⟨rfl, rfl⟩
  case round =>
    obtain ⟨rfl, rfl⟩ := hrel
    have i1 : ∀ w, (Instr.index 9 (.string ⟨#[32, 95, 45, 44, 59, 58, 33, 63, 46]⟩) (.int .i64 1)).run Tryz.prog w = .ok (.int .u8 95) w := fun _ => by kernel_rfl
    have i2 : ∀ w, (Instr.index 9 (.string ⟨#[a, z]⟩) (.int .i64 1)).run Tryz.prog w = .ok (.int .u8 z.toNat) w := fun _ => by kernel_rfl
    have i3 : ((95 : Int) != (z.toNat : Int)) = true := by simp; omega
    have i4 : ∀ w, (Instr.slice 9 (.string ⟨#[32, 95, 45, 44, 59, 58, 33, 63, 46]⟩) (some (.int .i64 (IntKind.i64.wrap 2))) none none).run Tryz.prog w = .ok (.string ((⟨#[32, 95, 45, 44, 59, 58, 33, 63, 46]⟩ : ByteArray).extract 2 9)) w := fun _ => by kernel_rfl
    have A := fun w => strByte_any ((⟨#[32, 95, 45, 44, 59, 58, 33, 63, 46]⟩ : ByteArray).extract 2 9) z.toNat w
    rw [vs_miss hz 2] at A
    generalize ((⟨#[32, 95, 45, 44, 59, 58, 33, 63, 46]⟩ : ByteArray).extract 2 9) = sx at *
    go_wp2_with fail
    go_step3
    go_wp2_with fail
    go_quiet (fail)
    go_wp2_with fail
    go_quiet ((go_at_call 86; exact (A _).mono fun e w' h => ⟨h.1, _, h.2⟩))
    go_wp2
    change bodyPost _ _ (fun e w' => e = Ending.returned (.int .i64 (-1)) ∧ Below wr.heap.size wr w') Exit.ret _ _
    go_ret
    exact ⟨rfl, below_drewN (Below.refl _ _) _⟩

set_option maxRecDepth 100000 in
set_option maxHeartbeats 4000000 in
theorem idxRune_three (r : Int) (a b z : UInt8) (hE : Utf8.encode r = ⟨#[a, b, z]⟩) (hz : 128 ≤ z.toNat) (h0 : 128 ≤ r) (h1 : r ≤ 1114111) (h2 : ¬ (55296 ≤ r ∧ r ≤ 57343)) (h3 : r ≠ 65533) (w : World) :
    Calls Tryz.prog 81 #[.string ⟨#[32, 95, 45, 44, 59, 58, 33, 63, 46]⟩, .int .i32 r] w fun e w' => e = .returned (.int .i64 (-1)) ∧ Below w.heap.size w w' := by
  have V := fun w => valid_any r h0 h1 h2 w
  have h4 : (r == 65533) = false := by simpa using h3
  go_enter Tryz.func81, Tryz.ntmps81
  go_wp2_with fail
  refine (V _).mono ?_
  rintro e w1 ⟨rfl, rfl⟩
  clear V
  go_wp2_with fail
  go_step3
  go_wp2_with fail
  go_loopw [9] (fun v wr => wr = w1 ∧ v = .int .i64 2) (fun _ _ => 0)
  case atStart => exact ⟨rfl, rfl⟩
  case round =>
    obtain ⟨rfl, rfl⟩ := hrel
    have i1 : ∀ w, (Instr.index 9 (.string ⟨#[32, 95, 45, 44, 59, 58, 33, 63, 46]⟩) (.int .i64 2)).run Tryz.prog w = .ok (.int .u8 45) w := fun _ => by kernel_rfl
    have i2 : ∀ w, (Instr.index 9 (.string ⟨#[a, b, z]⟩) (.int .i64 2)).run Tryz.prog w = .ok (.int .u8 z.toNat) w := fun _ => by kernel_rfl
    have i3 : ((45 : Int) != (z.toNat : Int)) = true := by simp; omega
    have i4 : ∀ w, (Instr.slice 9 (.string ⟨#[32, 95, 45, 44, 59, 58, 33, 63, 46]⟩) (some (.int .i64 (IntKind.i64.wrap 3))) none none).run Tryz.prog w = .ok (.string ((⟨#[32, 95, 45, 44, 59, 58, 33, 63, 46]⟩ : ByteArray).extract 3 9)) w := fun _ => by kernel_rfl
    have A := fun w => strByte_any ((⟨#[32, 95, 45, 44, 59, 58, 33, 63, 46]⟩ : ByteArray).extract 3 9) z.toNat w
    rw [vs_miss hz 3] at A
    generalize ((⟨#[32, 95, 45, 44, 59, 58, 33, 63, 46]⟩ : ByteArray).extract 3 9) = sx at *
    go_wp2_with fail
    go_step3
    go_wp2_with fail
    go_quiet (fail)
    go_wp2_with fail
    go_quiet ((go_at_call 86; exact (A _).mono fun e w' h => ⟨h.1, _, h.2⟩))
    go_wp2
    change bodyPost _ _ (fun e w' => e = Ending.returned (.int .i64 (-1)) ∧ Below wr.heap.size wr w') Exit.ret _ _
    go_ret
    exact ⟨rfl, below_drewN (Below.refl _ _) _⟩

set_option maxRecDepth 100000 in
set_option maxHeartbeats 4000000 in
theorem idxRune_four (r : Int) (a b c z : UInt8) (hE : Utf8.encode r = ⟨#[a, b, c, z]⟩) (hz : 128 ≤ z.toNat) (h0 : 128 ≤ r) (h1 : r ≤ 1114111) (h2 : ¬ (55296 ≤ r ∧ r ≤ 57343)) (h3 : r ≠ 65533) (w : World) :
    Calls Tryz.prog 81 #[.string ⟨#[32, 95, 45, 44, 59, 58, 33, 63, 46]⟩, .int .i32 r] w fun e w' => e = .returned (.int .i64 (-1)) ∧ Below w.heap.size w w' := by
  have V := fun w => valid_any r h0 h1 h2 w
  have h4 : (r == 65533) = false := by simpa using h3
  go_enter Tryz.func81, Tryz.ntmps81
  go_wp2_with fail
  refine (V _).mono ?_
  rintro e w1 ⟨rfl, rfl⟩
  clear V
  go_wp2_with fail
  go_step3
  go_wp2_with fail
  go_loopw [9] (fun v wr => wr = w1 ∧ v = .int .i64 3) (fun _ _ => 0)
  case atStart => exact ⟨rfl, rfl⟩
  case round =>
    obtain ⟨rfl, rfl⟩ := hrel
    have i1 : ∀ w, (Instr.index 9 (.string ⟨#[32, 95, 45, 44, 59, 58, 33, 63, 46]⟩) (.int .i64 3)).run Tryz.prog w = .ok (.int .u8 44) w := fun _ => by kernel_rfl
    have i2 : ∀ w, (Instr.index 9 (.string ⟨#[a, b, c, z]⟩) (.int .i64 3)).run Tryz.prog w = .ok (.int .u8 z.toNat) w := fun _ => by kernel_rfl
    have i3 : ((44 : Int) != (z.toNat : Int)) = true := by simp; omega
    have i4 : ∀ w, (Instr.slice 9 (.string ⟨#[32, 95, 45, 44, 59, 58, 33, 63, 46]⟩) (some (.int .i64 (IntKind.i64.wrap 4))) none none).run Tryz.prog w = .ok (.string ((⟨#[32, 95, 45, 44, 59, 58, 33, 63, 46]⟩ : ByteArray).extract 4 9)) w := fun _ => by kernel_rfl
    have A := fun w => strByte_any ((⟨#[32, 95, 45, 44, 59, 58, 33, 63, 46]⟩ : ByteArray).extract 4 9) z.toNat w
    rw [vs_miss hz 4] at A
    generalize ((⟨#[32, 95, 45, 44, 59, 58, 33, 63, 46]⟩ : ByteArray).extract 4 9) = sx at *
    go_wp2_with fail
    go_step3
    go_wp2_with fail
    go_quiet (fail)
    go_wp2_with fail
    go_quiet ((go_at_call 86; exact (A _).mono fun e w' h => ⟨h.1, _, h.2⟩))
    go_wp2
    change bodyPost _ _ (fun e w' => e = Ending.returned (.int .i64 (-1)) ∧ Below wr.heap.size wr w') Exit.ret _ _
    go_ret
    exact ⟨rfl, below_drewN (Below.refl _ _) _⟩

theorem idxRune_any (r : Int) (h0 : 0 ≤ r) (h1 : r ≤ 1114111) (h2 : ¬ (55296 ≤ r ∧ r ≤ 57343)) (w : World) :
    Calls Tryz.prog 81 #[.string ⟨#[32, 95, 45, 44, 59, 58, 33, 63, 46]⟩, .int .i32 r] w fun e w' => e = .returned (.int .i64 (idxV r)) ∧ Below w.heap.size w w' := by
  by_cases c : r < 128
  · exact (idxRune_low r h0 c w).mono fun e w' h => ⟨h.1, by rw [h.2]; exact Below.refl _ _⟩
  · rw [idx_none (by omega)]
    by_cases d : r = 65533
    · subst d
      exact idxRune_bad w
    · rcases enc_cases r (by omega) h1 h2 with ⟨a, z, hE, hz⟩ | ⟨a, b, z, hE, hz⟩ | ⟨a, b, c, z, hE, hz⟩
      · exact idxRune_two r a z hE hz (by omega) h1 h2 d w
      · exact idxRune_three r a b z hE hz (by omega) h1 h2 d w
      · exact idxRune_four r a b c z hE hz (by omega) h1 h2 d w
end Go.Proofs.YtakfnmhokijcoaaGreatDoor
