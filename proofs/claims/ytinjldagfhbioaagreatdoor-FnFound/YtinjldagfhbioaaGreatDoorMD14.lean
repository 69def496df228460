/- Texts of mine laid together: Strs, SWords, Rd, EntK, RdBox, SRead, RdBd, DrawRb, DrawRl, Draw0, DrewD, DcS. -/
import Derived.Test.YtinjldagfhbioaaGreatDoorInts
import Derived.Laws.DeepStrings4
import Derived.Laws.Concat
import Derived.Test.YtinjldagfhbioaaGreatDoorDec
import Derived.Test.YtinjldagfhbioaaGreatDoorMD13
import Derived.Test.YtinjldagfhbioaaGreatDoorEnts
import Derived.Test.YtinjldagfhbioaaGreatDoorApart2
import Derived.Test.YtinjldagfhbioaaGreatDoorMD3
import Derived.Test.YtinjldagfhbioaaGreatDoorDecode
import Derived.Test.YtinjldagfhbioaaGreatDoorMD11
import Derived.Deep.RegionHeld3
import Derived.OwnWalk
namespace Go.Proofs.YtinjldagfhbioaaGreatDoor
open Go.RowKit

theorem info_str : (Tryz.prog.info? 9).map (fun i => (i.zero, i.size, i.bytes)) = some (some (.string ⟨#[]⟩), 1, 16) := by kernel_rfl

/-- A row of strings of the call's own. -/
def Strs (w : World) (B : Nat) (v : Value) (ss : List ByteArray) : Prop := w.ownsRow B 9 1 v ss.length (ss.map Value.string)

theorem Strs.snoc {w : World} {base : Nat} {v : Value} {ss : List ByteArray} {x : ByteArray} (h : w.ownsRow base 9 1 v (ss.length + 1) (ss.map Value.string ++ [.string x])) : Strs w base v (ss ++ [x]) := by
  unfold Strs; simpa using h

theorem Strs.form {w : World} {B : Nat} {v : Value} {ss : List ByteArray} (h : Strs w B v ss) : (v = .slice none 0 0 ∧ ss = []) ∨ ∃ g cap, v = .slice (some ⟨g, 0, none⟩) ss.length cap ∧ ss.length ≤ cap ∧ cap ≤ maxLen := by
  rcases h.2 with ⟨a, b⟩ | ⟨g, cap, cur, a, b, c, d, e, _⟩
  · exact .inl ⟨a, by simpa using b⟩
  · exact .inr ⟨g, cap, a, d, e⟩

theorem Strs.cell {w : World} {B : Nat} {g cap : Nat} {ss : List ByteArray} (h : Strs w B (.slice (some ⟨g, 0, none⟩) ss.length cap) ss) (j : Nat) (x : ByteArray) (hx : ss[j]? = some x) :
    w.cell? ⟨g, j, none⟩ = some (.string x) := by
  have hj := (List.getElem?_eq_some_iff.1 hx).1
  rw [World.ownsRow.cellAt h j (by omega)]
  simp [hx]

theorem Strs.below {w w' : World} {B : Nat} {v : Value} {ss : List ByteArray} (h : Strs w B v ss) (hb : Below w.heap.size w w') : Strs w' B v ss :=
  World.ownsRow.kept h (row := none) ⟨hb.os, hb.tape, hb.output, hb.size, fun k hk _ => hb.block k hk⟩ (by cases h : v.ownBlock <;> simp)
end Go.Proofs.YtinjldagfhbioaaGreatDoor

namespace Go.Proofs.YtinjldagfhbioaaGreatDoor
open Go.RowKit

/-- The words ahead of place k, and the one that is under way; behind the end stands a blank. -/
def wst (s : ByteArray) : Nat → List ByteArray × ByteArray
  | 0 => ([], ⟨#[]⟩)
  | k + 1 =>
    if k < s.size ∧ Dec.bt s k ≠ 32 then ((wst s k).1, (wst s k).2 ++ s.extract k (k + 1))
    else ((if (wst s k).2.size = 0 then (wst s k).1 else (wst s k).1 ++ [(wst s k).2]), ⟨#[]⟩)

def words (s : ByteArray) : List ByteArray := (wst s (s.size + 1)).1

theorem wst_bound (s : ByteArray) (k : Nat) : (wst s k).1.length ≤ k ∧ (wst s k).2.size ≤ k := by
  induction k with
  | zero => exact ⟨Nat.zero_le _, Nat.le_refl _⟩
  | succ k ih =>
    unfold wst
    split
    · rename_i h
      refine ⟨by show (wst s k).1.length ≤ _; omega, ?_⟩
      show ((wst s k).2 ++ s.extract k (k + 1)).size ≤ _
      rw [ByteArray.size_append, ByteArray.size_extract]
      omega
    · refine ⟨?_, Nat.zero_le _⟩
      show (if _ then _ else _ : List ByteArray).length ≤ _
      split
      · omega
      · rw [List.length_append]; simp; omega

def WRel (w : World) (s : ByteArray) (out word i : Value) (wr : World) : Prop :=
  ∃ (k : Nat) (os : List ByteArray) (cur : ByteArray), k ≤ s.size + 1 ∧ i = .int .i64 k ∧ wst s k = (os, cur) ∧ word = .string cur ∧ Strs wr w.heap.size out os ∧ Below w.heap.size w wr

theorem isEmpty_size (c : ByteArray) : c.toList.isEmpty = decide (c.size = 0) := by
  rw [ByteArray.toList_eq]
  rcases c with ⟨⟨l⟩⟩
  cases l <;> simp [ByteArray.size]

set_option maxRecDepth 100000 in
set_option maxHeartbeats 2000000 in
theorem words_any (s : ByteArray) (w : World) (hs : s.size ≤ 1073741824) :
    Calls Tryz.prog 51 #[.string s] w fun e w' => ∃ v, e = .returned v ∧ Strs w' w.heap.size v (words s) ∧ Below w.heap.size w w' := by
  obtain ⟨i0, hi, hz0, hz1, hz2⟩ := info_parts info_str
  go_enter Tryz.func51, Tryz.ntmps51
  go_wp2
  go_loopw [3, 4, 5] (fun out word i wr => WRel w s out word i wr) (fun _ _ i _ => s.size + 1 - (intOf i).toNat)
  case atStart => exact ⟨0, [], ⟨#[]⟩, Nat.zero_le _, rfl, rfl, rfl, World.ownsRow_nil _ _ _ _, Below.refl _ _⟩
  case round =>
    obtain ⟨k, os, cur, hk, rfl, hw, rfl, ho, hb⟩ := hrel
    have hbd := wst_bound s k
    rw [hw] at hbd
    have hb1 : os.length ≤ k := hbd.1
    have hb2 : cur.size ≤ k := hbd.2
    have HW : Hid (wst s k = (os, cur)) := hw
    clear hw hbd
    unfold Strs at ho
    by_cases hle : k ≤ s.size
    · by_cases hlt : k < s.size ∧ Dec.bt s k ≠ 32
      · obtain ⟨hlt, hc⟩ := hlt
        have EK : Hid (Dec.bt s k = (s[k]'hlt).toNat) := (Dec.bt_get s k hlt).symm
        have c' : (((s[k]'hlt).toNat : Int) != 32) = true := by rw [EK.out] at hc; simp; omega
        have HN : Hid (wst s (k + 1) = (os, cur ++ s.extract k (k + 1))) := by
          show _ = _
          rw [wst, if_pos ⟨hlt, hc⟩, HW.out]
        clear hc EK HW
        go_wp2
        exact ⟨⟨k + 1, _, _, by omega, by go_num, HN.out, rfl, ho, hb⟩, by simp [intOf]; omega⟩
      · have HN0 : Hid (wst s (k + 1) = ((if cur.size = 0 then os else os ++ [cur]), ⟨#[]⟩)) := by
          show _ = _
          rw [wst, if_neg hlt, HW.out]
        clear HW
        have hd : k < s.size → Dec.bt s k = 32 := fun h => Decidable.byContradiction fun c => hlt ⟨h, c⟩
        clear hlt
        have hem := isEmpty_size cur
        by_cases hc : cur.size = 0
        · rw [decide_eq_true hc] at hem
          have HN : Hid (wst s (k + 1) = (os, ⟨#[]⟩)) := by show _ = _; rw [HN0.out, if_pos hc]
          clear HN0 hc
          by_cases hlt : k < s.size
          · have EK := Dec.bt_get s k hlt
            rw [hd hlt] at EK
            have c' : (((s[k]'hlt).toNat : Int) != 32) = false := by simp; omega
            clear hd EK
            go_wp2
            exact ⟨⟨k + 1, _, _, by omega, by go_num, HN.out, rfl, ho, hb⟩, by simp [intOf]; omega⟩
          · have c1 : ¬ (k : Int) < (s.size : Int) := by omega
            clear hd
            go_wp2
            exact ⟨⟨k + 1, _, _, by omega, by go_num, HN.out, rfl, ho, hb⟩, by simp [intOf]; omega⟩
        · rw [decide_eq_false hc] at hem
          have HN : Hid (wst s (k + 1) = (os ++ [cur], ⟨#[]⟩)) := by show _ = _; rw [HN0.out, if_neg hc]
          have hsz := hb.size
          clear HN0 hc
          by_cases hlt : k < s.size
          · have EK := Dec.bt_get s k hlt
            rw [hd hlt] at EK
            have c' : (((s[k]'hlt).toNat : Int) != 32) = false := by simp; omega
            clear hd EK
            go_wp2_with (at_builtin; refine wpList_append_own _ rfl _ _ 48 rfl w.heap.size 9 i0 (.string ⟨#[]⟩) 1 16 Tryz.underlying48 hi hz0 hz1 hz2 rfl (by decide) _ _ _ rfl (ho.alloc _) ⟨_, 0, none⟩ 1 1 [.string cur] rfl rfl (cell_one_new _ _ _) (fun x hx => by simp at hx; subst hx; rfl) (by unfold maxLen; omega) (by omega) (by simp; omega) ?_; intro v' w3 hown' hgrow3 _)
            have hb3 := Below.grown (hb.alloc (by omega) _) hgrow3 (by simp; omega) (fun j hj => (ho.lt _ hj).1)
            exact ⟨⟨k + 1, _, _, by omega, by go_num, HN.out, rfl, Strs.snoc hown', hb3⟩, by simp [intOf]; omega⟩
          · have c1 : ¬ (k : Int) < (s.size : Int) := by omega
            clear hd
            go_wp2_with (at_builtin; refine wpList_append_own _ rfl _ _ 48 rfl w.heap.size 9 i0 (.string ⟨#[]⟩) 1 16 Tryz.underlying48 hi hz0 hz1 hz2 rfl (by decide) _ _ _ rfl (ho.alloc _) ⟨_, 0, none⟩ 1 1 [.string cur] rfl rfl (cell_one_new _ _ _) (fun x hx => by simp at hx; subst hx; rfl) (by unfold maxLen; omega) (by omega) (by simp; omega) ?_; intro v' w3 hown' hgrow3 _)
            have hb3 := Below.grown (hb.alloc (by omega) _) hgrow3 (by simp; omega) (fun j hj => (ho.lt _ hj).1)
            exact ⟨⟨k + 1, _, _, by omega, by go_num, HN.out, rfl, Strs.snoc hown', hb3⟩, by simp [intOf]; omega⟩
    · have hk3 : k = s.size + 1 := by omega
      subst hk3
      have HF : Hid (os = words s) := by show _ = _; unfold words; rw [HW.out]
      clear HW
      go_wp2
      go_ret
      exact ⟨_, rfl, by rw [← HF.out]; exact ho, hb⟩
end Go.Proofs.YtinjldagfhbioaaGreatDoor

namespace Go.Proofs.YtinjldagfhbioaaGreatDoor

structure RS where
  es : List Ent
  sh : Bool
  lv : Int
  last : El
  reset : Bool

def wShift : List UInt8 := [91, 115, 104, 105, 102, 116, 101, 100, 93]
def wLevels : List UInt8 := [91, 108, 101, 118, 101, 108, 115]

/-- What a word asks for: 0 a reset, 1 to 3 a putting by that weight. -/
def levOf (x : ByteArray) : Option Nat :=
  if x.toList == [38] then some 0 else if x.toList == [60] then some 1 else if x.toList == [60, 60] then some 2 else if x.toList == [60, 60, 60] then some 3 else none

/-- The number of levels that a second word tells. -/
def levN (y : ByteArray) : Option Int :=
  if y.size = 2 ∧ 49 ≤ Dec.bt y 0 ∧ Dec.bt y 0 ≤ 52 ∧ Dec.bt y 1 = 93 then some ((Dec.bt y 0 : Int) - 48) else none

def behindE (es : List Ent) (e : El) : Nat → El
  | 1 => ⟨step1 es (65535 - e.first).toNat (e.first + 1), 32, 2, false⟩
  | 2 => behind2 es e
  | _ => behind3 es e

def putIn (st : RS) (lev : Nat) (l : List Int) : Except Int RS :=
  if runesOk l = false then .error 2
  else if lev = 0 then
    match elemE st.es l with
    | none => .error 3
    | some e => if e.varies = true then .error 3 else .ok { st with last := e, reset := true }
  else if st.reset = false then .error 3
  else if 0 ≤ atE st.es l then .error 4
  else if rulesOk (st.es ++ [⟨l, behindE st.es st.last lev⟩]) st.lv = true then .ok { st with es := st.es ++ [⟨l, behindE st.es st.last lev⟩], last := behindE st.es st.last lev }
  else .error 5

def readW : List ByteArray → RS → Except Int RS
  | [], st => .ok st
  | x :: ws, st =>
    if x.toList == wShift then readW ws { st with sh := true }
    else if x.toList == wLevels then
      match ws with
      | [] => .error 2
      | y :: ws' => match levN y with
        | none => .error 2
        | some n => readW ws' { st with lv := n }
    else match levOf x with
      | none => .error 2
      | some lev => match ws with
        | [] => .error 2
        | y :: ws' => if 200 < y.size then .error 2 else match putIn st lev (nD (Dec.decT y.size y).1) with
          | .error c => .error c
          | .ok st' => readW ws' st'

def rs0 : RS := ⟨[], false, 3, ⟨0, 0, 0, false⟩, false⟩

/-- What ReadRules answers. -/
structure RA where
  es : List Ent
  sh : Bool
  lv : Int
  code : Int

def raOf : Except Int RS → RA
  | .ok st => ⟨st.es, st.sh, st.lv, 0⟩
  | .error c => ⟨[], false, 0, c⟩

def readA (s : ByteArray) : RA := if 300 < s.size then ⟨[], false, 0, 1⟩ else raOf (readW (words s) rs0)

/-- What holds of the state at every word. -/
structure RInv (st : RS) : Prop where
  good : rulesOk st.es st.lv = true
  f0 : 0 ≤ st.last.first
  f1 : st.last.first ≤ 65535
  s0 : 0 ≤ st.last.second
  s1 : st.last.second ≤ 999
  t0 : 0 ≤ st.last.third
  t1 : st.last.third ≤ 99

theorem rulesOk_whole {es : List Ent} {lv : Int} (h : rulesOk es lv = true) : es.length ≤ 40 ∧ (1 ≤ lv ∧ lv ≤ 4) ∧ ∀ e ∈ es, runesOk e.runes = true ∧ (1 ≤ e.el.first ∧ e.el.first ≤ 65535) ∧ (32 ≤ e.el.second ∧ e.el.second ≤ 999) ∧ (2 ≤ e.el.third ∧ e.el.third ≤ 99) ∧ e.el.varies = false := by
  have c := of_decide_eq_true h
  refine ⟨c.1, c.2.1, fun e he => ?_⟩
  obtain ⟨i, hi⟩ := List.mem_iff_getElem?.1 he
  have := (entsOk_iff es).1 c.2.2 i e hi
  unfold entOk at this
  simp only [Bool.and_eq_true, decide_eq_true_eq, Bool.not_eq_true'] at this
  exact ⟨this.1, this.2.2.1, this.2.2.2.1, this.2.2.2.2.1, this.2.2.2.2.2⟩

theorem rulesOk_lv {es : List Ent} {lv lv' : Int} (h : rulesOk es lv = true) (h' : 1 ≤ lv' ∧ lv' ≤ 4) : rulesOk es lv' = true := by
  have c := of_decide_eq_true h
  exact decide_eq_true ⟨c.1, h', c.2.2⟩

theorem runesOk_len {l : List Int} (h : runesOk l = true) : l.length ≤ 4 := by
  unfold runesOk at h
  rw [Bool.and_eq_true] at h
  exact (of_decide_eq_true h.1).2

theorem rinv0 : RInv rs0 := ⟨by decide, by decide, by decide, by decide, by decide, by decide, by decide⟩

theorem placeR_lt {l : List Int} {r : Int} {i : Nat} (h : placeIn l r = some i) : i < l.length := by
  unfold placeIn at h
  exact (List.findIdx?_eq_some_iff_getElem.1 h).1

theorem base_one {r : Int} {e : El} (h : base r = [e]) : 0 ≤ e.first ∧ e.first ≤ 65535 ∧ 0 ≤ e.second ∧ e.second ≤ 999 ∧ 0 ≤ e.third ∧ e.third ≤ 99 := by
  unfold base at h
  split at h
  · rename_i i hp
    have hl := placeR_lt hp
    have h9 : vsl.length = 9 := rfl
    cases h
    simp only
    omega
  · split at h
    · rename_i i hp
      have hl := placeR_lt hp
      have h15 : mkl.length = 15 := rfl
      cases h
      simp only
      omega
    · unfold baseRest at h
      split at h
      · cases h
      · split at h
        · cases h; simp only; omega
        · split at h
          · cases h; simp only; omega
          · split at h
            · cases h; simp only; omega
            · cases h

theorem elemE_bound {st : RS} {l : List Int} {e : El} (hi : RInv st) (h : elemE st.es l = some e) : 0 ≤ e.first ∧ e.first ≤ 65535 ∧ 0 ≤ e.second ∧ e.second ≤ 999 ∧ 0 ≤ e.third ∧ e.third ≤ 99 := by
  unfold elemE at h
  split at h
  · obtain ⟨x, hx, rfl⟩ := Option.map_eq_some_iff.1 h
    have := (rulesOk_whole hi.good).2.2 x (List.mem_of_getElem? hx)
    omega
  · split at h
    · rename_i r _
      unfold one3 at h
      split at h
      · rename_i x hb
        split at h
        · cases h
        · cases h; exact base_one hb
      · cases h
    · cases h

theorem putIn_inv {st st' : RS} {lev : Nat} {l : List Int} (hi : RInv st) (h : putIn st lev l = .ok st') : RInv st' := by
  unfold putIn at h
  split at h
  · cases h
  · split at h
    · split at h
      · cases h
      · rename_i e he
        split at h
        · cases h
        · cases h
          have := elemE_bound hi he
          exact ⟨hi.good, this.1, this.2.1, this.2.2.1, this.2.2.2.1, this.2.2.2.2.1, this.2.2.2.2.2⟩
    · split at h
      · cases h
      · split at h
        · cases h
        · split at h
          · rename_i hr
            cases h
            have := (rulesOk_whole hr).2.2 ⟨l, behindE st.es st.last lev⟩ (by simp)
            exact ⟨hr, by simp only at this ⊢; omega, by simp only at this ⊢; omega, by simp only at this ⊢; omega, by simp only at this ⊢; omega, by simp only at this ⊢; omega, by simp only at this ⊢; omega⟩
          · cases h
end Go.Proofs.YtinjldagfhbioaaGreatDoor

namespace Go.Proofs.YtinjldagfhbioaaGreatDoor
open Go.RowKit

theorem addr_ne {b b' o o' : Nat} (h : b ≠ b' ∨ o ≠ o') : (⟨b, o, none⟩ : Addr) ≠ ⟨b', o', none⟩ := by
  intro e
  injection e
  omega

theorem cs_ne {u : World} {b b' o o' : Nat} {x : Value} (h : b ≠ b' ∨ o ≠ o') : (u.setCell ⟨b, o, none⟩ x).cell? ⟨b', o', none⟩ = u.cell? ⟨b', o', none⟩ := by
  apply World.cell?_setCell_other
  exact addr_ne h

theorem cs_eq {u : World} {a : Addr} {x y : Value} (h : u.cell? a = some y) : (u.setCell a x).cell? a = some x := by
  apply World.cell?_setCell_same
  exact h

/-- An elem laid into a block. -/
def setEl (u : World) (b : Nat) (e : El) : World := (((u.setCell ⟨b, 0, none⟩ (.int .i64 e.first)).setCell ⟨b, 1, none⟩ (.int .i64 e.second)).setCell ⟨b, 2, none⟩ (.int .i64 e.third)).setCell ⟨b, 3, none⟩ (.bool e.varies)

theorem setEl_far {u : World} {b b' o : Nat} {e : El} (h : b ≠ b') : (setEl u b e).cell? ⟨b', o, none⟩ = u.cell? ⟨b', o, none⟩ := by
  unfold setEl
  rw [cs_ne (.inl h), cs_ne (.inl h), cs_ne (.inl h), cs_ne (.inl h)]

theorem setEl_grown (u : World) (b : Nat) (e : El) : u.grownBy (setEl u b e) (some b) :=
  (((setCell_grown u b 0 _).trans (setCell_grown _ b 1 _)).trans (setCell_grown _ b 2 _)).trans (setCell_grown _ b 3 _)

theorem Ents.grown {u u' : World} {B b : Nat} {v : Value} {es : List Ent} (h : Ents u B v es) (hg : u.grownBy u' (some b)) (hb : b < B) : Ents u' B v es := by
  have ne : ∀ {v : Value}, (∀ g, v.ownBlock = some g → B ≤ g) → v.ownBlock = none ∨ v.ownBlock ≠ some b := fun {v} h => by
    cases e : v.ownBlock with
    | none => exact .inl rfl
    | some g =>
      refine .inr fun c => ?_
      have := h g e
      cases c
      omega
  obtain ⟨xs, hl, h1, h2⟩ := h
  refine ⟨xs, hl, World.ownsRow.kept h1 hg (ne fun g hg => (World.ownsRow.lt h1 g hg).1), fun k e he => ?_⟩
  obtain ⟨x, hx, hI⟩ := h2 k e he
  exact ⟨x, hx, World.ownsRow.kept hI hg (ne fun g hg => (World.ownsRow.lt hI g hg).1)⟩

theorem below_setEl {w u : World} {b : Nat} (h : Below w.heap.size w u) (hb : w.heap.size ≤ b) (e : El) : Below w.heap.size w (setEl u b e) :=
  (((h.setCell hb _).setCell hb _).setCell hb _).setCell hb _

theorem Ents.low {u : World} {B B' : Nat} {v : Value} {es : List Ent} (h : Ents u B' v es) (hB : B ≤ B') : Ents u B v es := by
  obtain ⟨xs, hl, h1, h2⟩ := h
  refine ⟨xs, hl, ?_, fun k e he => ?_⟩
  · obtain ⟨h3, h4⟩ := h1
    refine ⟨h3, ?_⟩
    rcases h4 with h4 | ⟨g, cap, cur, a, b, c⟩
    · exact .inl h4
    · exact .inr ⟨g, cap, cur, a, by omega, c⟩
  · obtain ⟨x, hx, hI⟩ := h2 k e he
    exact ⟨x, hx, ints_low2 hI hB⟩

theorem cells5_new (w : World) (x : Value) (e : El) (t : TypeId) : ∀ j u, (entC x e)[j]? = some u → (w.alloc (.cells #[x, .int .i64 e.first, .int .i64 e.second, .int .i64 e.third, .bool e.varies] t)).cell? ((⟨w.heap.size, 0, none⟩ : Addr).add j) = some u := by
  intro j u hj
  match j, hj with
  | 0, hj => simp [entC] at hj; subst hj; simp [Addr.add]
  | 1, hj => simp [entC] at hj; subst hj; simp [Addr.add]
  | 2, hj => simp [entC] at hj; subst hj; simp [Addr.add]
  | 3, hj => simp [entC] at hj; subst hj; simp [Addr.add]
  | 4, hj => simp [entC] at hj; subst hj; simp [Addr.add]
  | j + 5, hj => simp [entC] at hj

theorem cells5_at (w : World) (n : Nat) (x : Value) (e : El) (t : TypeId) (hn : n = w.heap.size) : ∀ j u, (entC x e)[j]? = some u → (w.alloc (.cells #[x, .int .i64 e.first, .int .i64 e.second, .int .i64 e.third, .bool e.varies] t)).cell? ((⟨n, 0, none⟩ : Addr).add j) = some u := by
  subst hn
  exact cells5_new w x e t

theorem info_ent : (Tryz.prog.info? 74).map (fun i => (i.zero, i.size, i.bytes)) = some (some (.agg #[.slice none 0 0, .int .i64 0, .int .i64 0, .int .i64 0, .bool false]), 5, 56) := by kernel_rfl

theorem entAll_snoc (xs : List Value) (es : List Ent) (x : Value) (e : Ent) (h : xs.length = es.length) : entAll (xs ++ [x]) (es ++ [e]) = entAll xs es ++ entC x e.el := by
  induction es generalizing xs with
  | nil => cases xs with
    | nil => rfl
    | cons y ys => simp at h
  | cons e' es ih => cases xs with
    | nil => simp at h
    | cons y ys =>
      show entC y e'.el ++ entAll (ys ++ [x]) (es ++ [e]) = (entC y e'.el ++ entAll ys es) ++ _
      rw [ih ys (by simpa using h), List.append_assoc]

/-- One entry put behind. -/
theorem Ents.snoc {u u' : World} {B : Nat} {v v' : Value} {es : List Ent} {xs : List Value} {x : Value} {e : Ent} (hl : xs.length = es.length)
    (h2 : ∀ (k : Nat) (e : Ent), es[k]? = some e → ∃ x, xs[k]? = some x ∧ Ints u B x e.runes) (hI : Ints u B x e.runes)
    (h1 : u.ownsRow B 74 5 v es.length (entAll xs es))
    (hg : u.grownBy u' v.ownBlock) (h : u'.ownsRow B 74 5 v' (es.length + 1) (entAll xs es ++ entC x e.el)) : Ents u' B v' (es ++ [e]) := by
  refine ⟨xs ++ [x], by simp [hl], ?_, fun k y hy => ?_⟩
  · rw [entAll_snoc xs es x e hl, List.length_append]
    exact h
  · by_cases hk : k < es.length
    · rw [List.getElem?_append_left hk] at hy
      obtain ⟨z, hz, hzi⟩ := h2 k y hy
      have hz1 := (List.getElem?_eq_some_iff.1 hz).1
      refine ⟨z, by rw [List.getElem?_append_left hz1]; exact hz, World.ownsRow.kept hzi hg (own_type hzi h1 (by decide))⟩
    · have hk2 : k = es.length := by
        have := (List.getElem?_eq_some_iff.1 hy).1
        simp at this; omega
      subst hk2
      simp at hy
      subst hy
      exact ⟨x, by rw [← hl]; simp, World.ownsRow.kept hI hg (own_type hI h1 (by decide))⟩
end Go.Proofs.YtinjldagfhbioaaGreatDoor

namespace Go.Proofs.YtinjldagfhbioaaGreatDoor
open Go.RowKit

structure RB (u : World) (b2 br bl : Nat) (vE : Value) (sh : Bool) (lv : Int) (e : El) : Prop where
  lt : b2 < br ∧ br < bl ∧ bl < u.heap.size
  res : u.cell? ⟨b2, 0, none⟩ = some (.slice none 0 0) ∧ u.cell? ⟨b2, 1, none⟩ = some (.bool false) ∧ u.cell? ⟨b2, 2, none⟩ = some (.int .i64 0)
  rules : u.cell? ⟨br, 0, none⟩ = some vE ∧ u.cell? ⟨br, 1, none⟩ = some (.bool sh) ∧ u.cell? ⟨br, 2, none⟩ = some (.int .i64 lv)
  last : u.cell? ⟨bl, 0, none⟩ = some (.int .i64 e.first) ∧ u.cell? ⟨bl, 1, none⟩ = some (.int .i64 e.second) ∧ u.cell? ⟨bl, 2, none⟩ = some (.int .i64 e.third) ∧ u.cell? ⟨bl, 3, none⟩ = some (.bool e.varies)
  free : (∀ j, u.frozen? ⟨b2, j, none⟩ = false) ∧ (∀ j, u.frozen? ⟨br, j, none⟩ = false) ∧ ∀ j, u.frozen? ⟨bl, j, none⟩ = false

theorem RB.upTo {u u' : World} {b2 br bl B : Nat} {vE : Value} {sh : Bool} {lv : Int} {e : El} (h : RB u b2 br bl vE sh lv e) (hb : Below B u u') (hB : bl < B) : RB u' b2 br bl vE sh lv e := by
  obtain ⟨⟨l1, l2, l3⟩, ⟨a0, a1, a2⟩, ⟨r0, r1, r2⟩, ⟨e0, e1, e2, e3⟩, f0, f1, f2⟩ := h
  have k2 : b2 < B := by omega
  have kr : br < B := by omega
  exact ⟨⟨l1, l2, Nat.lt_of_lt_of_le l3 hb.size⟩, ⟨by rw [hb.cell k2]; exact a0, by rw [hb.cell k2]; exact a1, by rw [hb.cell k2]; exact a2⟩, ⟨by rw [hb.cell kr]; exact r0, by rw [hb.cell kr]; exact r1, by rw [hb.cell kr]; exact r2⟩,
    ⟨by rw [hb.cell hB]; exact e0, by rw [hb.cell hB]; exact e1, by rw [hb.cell hB]; exact e2, by rw [hb.cell hB]; exact e3⟩, fun j => by rw [hb.frozen (p := ⟨b2, j, none⟩) k2]; exact f0 j, fun j => by rw [hb.frozen (p := ⟨br, j, none⟩) kr]; exact f1 j, fun j => by rw [hb.frozen (p := ⟨bl, j, none⟩) hB]; exact f2 j⟩

theorem RB.below {u u' : World} {b2 br bl : Nat} {vE : Value} {sh : Bool} {lv : Int} {e : El} (h : RB u b2 br bl vE sh lv e) (hb : Below u.heap.size u u') : RB u' b2 br bl vE sh lv e := h.upTo hb h.lt.2.2

theorem RB.setE {u : World} {b2 br bl : Nat} {vE : Value} {sh : Bool} {lv : Int} {e : El} (h : RB u b2 br bl vE sh lv e) (v : Value) : RB (u.setCell ⟨br, 0, none⟩ v) b2 br bl v sh lv e := by
  obtain ⟨⟨l1, l2, l3⟩, ⟨a0, a1, a2⟩, ⟨r0, r1, r2⟩, ⟨e0, e1, e2, e3⟩, f0, f1, f2⟩ := h
  exact ⟨⟨l1, l2, by simpa using l3⟩, ⟨by rw [cs_ne (by omega)]; exact a0, by rw [cs_ne (by omega)]; exact a1, by rw [cs_ne (by omega)]; exact a2⟩,
    ⟨cs_eq r0, by rw [cs_ne (by omega)]; exact r1, by rw [cs_ne (by omega)]; exact r2⟩,
    ⟨by rw [cs_ne (by omega)]; exact e0, by rw [cs_ne (by omega)]; exact e1, by rw [cs_ne (by omega)]; exact e2, by rw [cs_ne (by omega)]; exact e3⟩,
    fun j => by rw [World.frozen?_setCell]; exact f0 j, fun j => by rw [World.frozen?_setCell]; exact f1 j, fun j => by rw [World.frozen?_setCell]; exact f2 j⟩

theorem RB.setSh {u : World} {b2 br bl : Nat} {vE : Value} {sh : Bool} {lv : Int} {e : El} (h : RB u b2 br bl vE sh lv e) (b : Bool) : RB (u.setCell ⟨br, 1, none⟩ (.bool b)) b2 br bl vE b lv e := by
  obtain ⟨⟨l1, l2, l3⟩, ⟨a0, a1, a2⟩, ⟨r0, r1, r2⟩, ⟨e0, e1, e2, e3⟩, f0, f1, f2⟩ := h
  exact ⟨⟨l1, l2, by simpa using l3⟩, ⟨by rw [cs_ne (by omega)]; exact a0, by rw [cs_ne (by omega)]; exact a1, by rw [cs_ne (by omega)]; exact a2⟩,
    ⟨by rw [cs_ne (by omega)]; exact r0, cs_eq r1, by rw [cs_ne (by omega)]; exact r2⟩,
    ⟨by rw [cs_ne (by omega)]; exact e0, by rw [cs_ne (by omega)]; exact e1, by rw [cs_ne (by omega)]; exact e2, by rw [cs_ne (by omega)]; exact e3⟩,
    fun j => by rw [World.frozen?_setCell]; exact f0 j, fun j => by rw [World.frozen?_setCell]; exact f1 j, fun j => by rw [World.frozen?_setCell]; exact f2 j⟩

theorem RB.setLv {u : World} {b2 br bl : Nat} {vE : Value} {sh : Bool} {lv : Int} {e : El} (h : RB u b2 br bl vE sh lv e) (n : Int) : RB (u.setCell ⟨br, 2, none⟩ (.int .i64 n)) b2 br bl vE sh n e := by
  obtain ⟨⟨l1, l2, l3⟩, ⟨a0, a1, a2⟩, ⟨r0, r1, r2⟩, ⟨e0, e1, e2, e3⟩, f0, f1, f2⟩ := h
  exact ⟨⟨l1, l2, by simpa using l3⟩, ⟨by rw [cs_ne (by omega)]; exact a0, by rw [cs_ne (by omega)]; exact a1, by rw [cs_ne (by omega)]; exact a2⟩,
    ⟨by rw [cs_ne (by omega)]; exact r0, by rw [cs_ne (by omega)]; exact r1, cs_eq r2⟩,
    ⟨by rw [cs_ne (by omega)]; exact e0, by rw [cs_ne (by omega)]; exact e1, by rw [cs_ne (by omega)]; exact e2, by rw [cs_ne (by omega)]; exact e3⟩,
    fun j => by rw [World.frozen?_setCell]; exact f0 j, fun j => by rw [World.frozen?_setCell]; exact f1 j, fun j => by rw [World.frozen?_setCell]; exact f2 j⟩

theorem RB.setLast {u : World} {b2 br bl : Nat} {vE : Value} {sh : Bool} {lv : Int} {e : El} (h : RB u b2 br bl vE sh lv e) (x : El) : RB (setEl u bl x) b2 br bl vE sh lv x := by
  obtain ⟨⟨l1, l2, l3⟩, ⟨a0, a1, a2⟩, ⟨r0, r1, r2⟩, ⟨e0, e1, e2, e3⟩, f0, f1, f2⟩ := h
  refine ⟨⟨l1, l2, by unfold setEl; simpa using l3⟩, ⟨by rw [setEl_far (by omega)]; exact a0, by rw [setEl_far (by omega)]; exact a1, by rw [setEl_far (by omega)]; exact a2⟩,
    ⟨by rw [setEl_far (by omega)]; exact r0, by rw [setEl_far (by omega)]; exact r1, by rw [setEl_far (by omega)]; exact r2⟩, ?_,
    fun j => by unfold setEl; simpa using f0 j, fun j => by unfold setEl; simpa using f1 j, fun j => by unfold setEl; simpa using f2 j⟩
  unfold setEl
  have k1 : (u.setCell ⟨bl, 0, none⟩ (.int .i64 x.first)).cell? ⟨bl, 1, none⟩ = some (.int .i64 e.second) := by rw [cs_ne (by omega)]; exact e1
  have k2 : ((u.setCell ⟨bl, 0, none⟩ (.int .i64 x.first)).setCell ⟨bl, 1, none⟩ (.int .i64 x.second)).cell? ⟨bl, 2, none⟩ = some (.int .i64 e.third) := by rw [cs_ne (by omega), cs_ne (by omega)]; exact e2
  have k3 : (((u.setCell ⟨bl, 0, none⟩ (.int .i64 x.first)).setCell ⟨bl, 1, none⟩ (.int .i64 x.second)).setCell ⟨bl, 2, none⟩ (.int .i64 x.third)).cell? ⟨bl, 3, none⟩ = some (.bool e.varies) := by rw [cs_ne (by omega), cs_ne (by omega), cs_ne (by omega)]; exact e3
  refine ⟨?_, ?_, ?_, ?_⟩
  · rw [cs_ne (by omega), cs_ne (by omega), cs_ne (by omega)]
    exact cs_eq e0
  · rw [cs_ne (by omega), cs_ne (by omega)]
    exact cs_eq k1
  · rw [cs_ne (by omega)]
    exact cs_eq k2
  · exact cs_eq k3

theorem Strs.grown {u u' : World} {B : Nat} {row : Option Nat} {v : Value} {ss : List ByteArray} (h : Strs u B v ss) (hg : u.grownBy u' row) (hb : ∀ g b, v.ownBlock = some g → row = some b → g ≠ b) : Strs u' B v ss :=
  World.ownsRow.kept h hg (by
    cases e : v.ownBlock with
    | none => exact .inl rfl
    | some g => exact .inr fun c => hb g g e c.symm rfl)

/-- The state in memory. -/
structure StM (w u : World) (ws : List ByteArray) (vw : Value) (br bl : Nat) (st : RS) (vE : Value) : Prop where
  rb : RB u w.heap.size br bl vE st.sh st.lv st.last
  en : Ents u (bl + 1) vE st.es
  sr : Strs u (w.heap.size + 1) vw ws
  vl : ∀ g, vw.ownBlock = some g → g < br
  be : Below w.heap.size w u

theorem StM.step {w u u' : World} {ws : List ByteArray} {vw : Value} {br bl : Nat} {st : RS} {vE : Value} (h : StM w u ws vw br bl st vE) (hb : Below u.heap.size u u') : StM w u' ws vw br bl st vE :=
  ⟨h.rb.below hb, h.en.below hb, h.sr.below hb, h.vl, h.be.trans (hb.mono h.be.size)⟩

theorem StM.setSh {w u : World} {ws : List ByteArray} {vw : Value} {br bl : Nat} {st : RS} {vE : Value} (h : StM w u ws vw br bl st vE) (b : Bool) : StM w (u.setCell ⟨br, 1, none⟩ (.bool b)) ws vw br bl { st with sh := b } vE := by
  have hl := h.rb.lt
  exact ⟨h.rb.setSh b, h.en.grown (setCell_grown u br 1 _) (by omega), h.sr.grown (setCell_grown u br 1 _) (fun g b' h1 h2 => by cases h2; have := h.vl g h1; omega), h.vl, h.be.setCell (Nat.le_of_lt hl.1) _⟩

theorem StM.setLv {w u : World} {ws : List ByteArray} {vw : Value} {br bl : Nat} {st : RS} {vE : Value} (h : StM w u ws vw br bl st vE) (n : Int) : StM w (u.setCell ⟨br, 2, none⟩ (.int .i64 n)) ws vw br bl { st with lv := n } vE := by
  have hl := h.rb.lt
  exact ⟨h.rb.setLv n, h.en.grown (setCell_grown u br 2 _) (by omega), h.sr.grown (setCell_grown u br 2 _) (fun g b' h1 h2 => by cases h2; have := h.vl g h1; omega), h.vl, h.be.setCell (Nat.le_of_lt hl.1) _⟩

theorem StM.setLast {w u : World} {ws : List ByteArray} {vw : Value} {br bl : Nat} {st : RS} {vE : Value} (h : StM w u ws vw br bl st vE) (x : El) (r : Bool) : StM w (setEl u bl x) ws vw br bl { st with last := x, reset := r } vE := by
  have hl := h.rb.lt
  exact ⟨h.rb.setLast x, h.en.grown (setEl_grown u bl x) (by omega), h.sr.grown (setEl_grown u bl x) (fun g b' h1 h2 => by cases h2; have := h.vl g h1; omega), h.vl, below_setEl h.be (by omega) x⟩

theorem behind_any {w : World} {B : Nat} {v : Value} {st : RS} {sh : Bool} {lv : Int} {n : Nat} (hE : Ents w B v st.es) (hi : RInv st) (h : n = 1 ∨ n = 2 ∨ n = 3) :
    Calls Tryz.prog 53 #[.agg #[v, .bool sh, .int .i64 lv], .agg #[.int .i64 st.last.first, .int .i64 st.last.second, .int .i64 st.last.third, .bool st.last.varies], .int .i64 (n : Int)] w fun x w' => x = .returned (elV (behindE st.es st.last n)) ∧ Below w.heap.size w w' := by
  obtain ⟨h1, h2, h3⟩ := rulesOk_whole hi.good
  rcases h with rfl | rfl | rfl
  · exact behind1_any hE (by omega) (fun e he => (h3 e he).2.1.2) hi.f0 hi.f1
  · exact behind2_any hE h1 (fun e he => (h3 e he).2.2.1.2) hi.s0 hi.s1
  · exact behind3_any hE h1 (fun e he => (h3 e he).2.2.2.1.2) hi.t0 hi.t1

/-- An entry put behind, the rules' block told of it. -/
theorem StM.put {w u u' : World} {ws : List ByteArray} {vw : Value} {br bl g cap : Nat} {st : RS} {vE vl : Value} {l : List Int} {xs : List Value} (h : StM w u ws vw br bl st vE) (hl : xs.length = st.es.length)
    (h2 : ∀ (k : Nat) (e : Ent), st.es[k]? = some e → ∃ x, xs[k]? = some x ∧ Ints u (bl + 1) x e.runes) (hI : Ints u (bl + 1) vl l)
    (h1 : u.ownsRow (bl + 1) 74 5 vE st.es.length (entAll xs st.es)) (hg : u.grownBy u' vE.ownBlock)
    (ho : u'.ownsRow (bl + 1) 74 5 (.slice (some ⟨g, 0, none⟩) (st.es.length + 1) cap) (st.es.length + 1) (entAll xs st.es ++ entC vl st.last)) :
    StM w (u'.setCell ⟨br, 0, none⟩ (.slice (some ⟨g, 0, none⟩) (st.es.length + 1) cap)) ws vw br bl { st with es := st.es ++ [⟨l, st.last⟩] } (.slice (some ⟨g, 0, none⟩) (st.es.length + 1) cap) := by
  have hlt := h.rb.lt
  have hrow : ∀ j, vE.ownBlock = some j → bl + 1 ≤ j := fun j hj => (World.ownsRow.lt h1 j hj).1
  have hb1 : Below (bl + 1) u u' := Below.grown (Below.refl (bl + 1) u) hg (by omega) hrow
  have hE : Ents u' (bl + 1) (.slice (some ⟨g, 0, none⟩) (st.es.length + 1) cap) (st.es ++ [⟨l, st.last⟩]) := Ents.snoc (e := ⟨l, st.last⟩) hl h2 hI h1 hg ho
  refine ⟨(h.rb.upTo hb1 (Nat.lt_succ_self _)).setE _, hE.grown (setCell_grown u' br 0 _) (by omega), (h.sr.grown hg (fun g b h3 h4 => by have := h.vl g h3; have := hrow b h4; omega)).grown (setCell_grown u' br 0 _) (fun g b' h1 h2 => by cases h2; have := h.vl g h1; omega), h.vl, ?_⟩
  exact (Below.grown h.be hg h.be.size (fun j hj => by have := hrow j hj; omega)).setCell (Nat.le_of_lt hlt.1) _
end Go.Proofs.YtinjldagfhbioaaGreatDoor

namespace Go.Proofs.YtinjldagfhbioaaGreatDoor
open Go.RowKit

def RdRel (w : World) (ws : List ByteArray) (vw : Value) (br bl : Nat) (ans : Except Int RS) (rv iv : Value) (wr : World) : Prop :=
  ∃ (k : Nat) (st : RS) (vE : Value), k ≤ ws.length ∧ iv = .int .i64 k ∧ rv = .bool st.reset ∧ readW (ws.drop k) st = ans ∧ RInv st ∧ StM w wr ws vw br bl st vE

theorem bsize (w : World) (o : Obj) : (w.alloc o).heap.size = w.heap.size + 1 := by simp

def zeroRules (c : Int) : Value := .tuple #[.agg #[.slice none 0 0, .bool false, .int .i64 0], .int .i64 c]

theorem below_res3 {w wr : World} (h : Below w.heap.size w wr) (x y z : Value) : Below w.heap.size w (((wr.setCell ⟨w.heap.size, 0, none⟩ x).setCell ⟨w.heap.size, 1, none⟩ y).setCell ⟨w.heap.size, 2, none⟩ z) :=
  ((h.setCell (Nat.le_refl _) _).setCell (Nat.le_refl _) _).setCell (Nat.le_refl _) _

/-- What the contract says of an ending. -/
def RdPost (w : World) (a : RA) (e : Ending) (w' : World) : Prop :=
  ∃ vE, e = .returned (.tuple #[.agg #[vE, .bool a.sh, .int .i64 a.lv], .int .i64 a.code]) ∧ Ents w' w.heap.size vE a.es ∧ Below w.heap.size w w'

theorem rdPost_err {w wr : World} {ans : Except Int RS} {c : Int} (h : ans = .error c) (hb : Below w.heap.size w wr) : RdPost w (raOf ans) (.returned (zeroRules c)) wr := by
  subst h
  exact ⟨_, rfl, Ents.nil _ _, hb⟩

set_option maxRecDepth 100000 in
set_option maxHeartbeats 1000000 in
theorem read_long (s : ByteArray) (w : World) (h : 300 < s.size) (hs : s.size ≤ 1073741824) : Calls Tryz.prog 27 #[.string s] w fun e w' => RdPost w (readA s) e w' := by
  have h2 : (300 : Int) < (s.size : Int) := by omega
  have hA : readA s = ⟨[], false, 0, 1⟩ := if_pos h
  rw [hA]
  go_enter Tryz.func27, Tryz.ntmps27
  go_wp2
  refine bodyPost_ret (v := zeroRules 1) ?_ rfl ⟨_, rfl, Ents.nil _ _, (Below.refl _ _).alloc (Nat.le_refl _) _⟩
  rw [results_cell_tmp rfl]
  unfold zeroRules
  go_simp

set_option maxRecDepth 100000 in
set_option maxHeartbeats 1000000 in
theorem plain_any (w : World) : Calls Tryz.prog 29 #[] w fun e w' => e = .returned (.agg #[.slice none 0 0, .bool false, .int .i64 3]) ∧ Below w.heap.size w w' := by
  go_enter Tryz.func29, Tryz.ntmps29
  go_wp2
  refine bodyPost_ret (v := .agg #[.slice none 0 0, .bool false, .int .i64 3]) ?_ rfl ⟨rfl, (Below.refl _ _).alloc (Nat.le_refl _) _⟩
  rw [results_cell1 rfl]
  go_simp

theorem rb_of {u : World} {b2 br bl : Nat} {vE : Value} {sh : Bool} {lv : Int} {e : El} (hl : b2 < br ∧ br < bl) (h2 : u.heap[b2]? = some (.cells #[.slice none 0 0, .bool false, .int .i64 0] 25))
    (hr : u.heap[br]? = some (.cells #[vE, .bool sh, .int .i64 lv] 25)) (hll : u.heap[bl]? = some (.cells #[.int .i64 e.first, .int .i64 e.second, .int .i64 e.third, .bool e.varies] 72)) : RB u b2 br bl vE sh lv e :=
  ⟨⟨hl.1, hl.2, (Array.getElem?_eq_some_iff.1 hll).1⟩, ⟨cell_of_row _ _ 0 _ _ _ h2, cell_of_row _ _ 1 _ _ _ h2, cell_of_row _ _ 2 _ _ _ h2⟩, ⟨cell_of_row _ _ 0 _ _ _ hr, cell_of_row _ _ 1 _ _ _ hr, cell_of_row _ _ 2 _ _ _ hr⟩,
    ⟨cell_of_row _ _ 0 _ _ _ hll, cell_of_row _ _ 1 _ _ _ hll, cell_of_row _ _ 2 _ _ _ hll, cell_of_row _ _ 3 _ _ _ hll⟩, fun j => by simp [World.frozen?, h2], fun j => by simp [World.frozen?, hr], fun j => by simp [World.frozen?, hll]⟩

theorem rb_new {w2 : World} {b2 : Nat} (h : w2.heap[b2]? = some (.cells #[.slice none 0 0, .bool false, .int .i64 0] 25)) :
    RB ((w2.alloc (.cells #[.slice none 0 0, .bool false, .int .i64 3] 25)).alloc (.cells #[.int .i64 0, .int .i64 0, .int .i64 0, .bool false] 72)) b2 w2.heap.size (w2.heap.size + 1) (.slice none 0 0) false 3 ⟨0, 0, 0, false⟩ := by
  have hb := ((Below.refl w2.heap.size w2).alloc (Nat.le_refl _) (.cells #[.slice none 0 0, .bool false, .int .i64 3] 25)).alloc (by simp) (.cells #[.int .i64 0, .int .i64 0, .int .i64 0, .bool false] 72)
  have hlt := (Array.getElem?_eq_some_iff.1 h).1
  refine rb_of ⟨hlt, Nat.lt_succ_self _⟩ ?_ ?_ (heap_alloc2_new w2 _ _)
  · rw [hb.block _ hlt]; exact h
  · rw [Below.heap_alloc _ _ _ (by simp)]; exact heap_alloc_new w2 _

theorem readW_nil (st : RS) : readW [] st = .ok st := by unfold readW; rfl

theorem drop_at {ws : List ByteArray} {k : Nat} {x : ByteArray} (h : ws[k]? = some x) : ws.drop k = x :: ws.drop (k + 1) := by
  obtain ⟨hk, rfl⟩ := List.getElem?_eq_some_iff.1 h
  exact List.drop_eq_getElem_cons hk

theorem readW_shift {x : ByteArray} {ws : List ByteArray} {st : RS} (h : (x.toList == wShift) = true) : readW (x :: ws) st = readW ws { st with sh := true } := by
  rw [readW.eq_def]
  simp only
  rw [if_pos h]

theorem readW_lev0 {x : ByteArray} {st : RS} (h1 : (x.toList == wShift) = false) (h2 : (x.toList == wLevels) = true) : readW [x] st = .error 2 := by
  rw [readW.eq_def]
  simp only
  rw [if_neg (by simp [h1]), if_pos h2]

theorem readW_levn {x y : ByteArray} {ws : List ByteArray} {st : RS} (h1 : (x.toList == wShift) = false) (h2 : (x.toList == wLevels) = true) (h3 : levN y = none) : readW (x :: y :: ws) st = .error 2 := by
  rw [readW.eq_def]
  simp only
  rw [if_neg (by simp [h1]), if_pos h2, h3]

theorem readW_levs {x y : ByteArray} {ws : List ByteArray} {st : RS} {n : Int} (h1 : (x.toList == wShift) = false) (h2 : (x.toList == wLevels) = true) (h3 : levN y = some n) : readW (x :: y :: ws) st = readW ws { st with lv := n } := by
  rw [readW.eq_def]
  simp only
  rw [if_neg (by simp [h1]), if_pos h2, h3]

theorem readW_none {x : ByteArray} {ws : List ByteArray} {st : RS} (h1 : (x.toList == wShift) = false) (h2 : (x.toList == wLevels) = false) (h3 : levOf x = none) : readW (x :: ws) st = .error 2 := by
  rw [readW.eq_def]
  simp only
  rw [if_neg (by simp [h1]), if_neg (by simp [h2]), h3]

theorem readW_one0 {x : ByteArray} {st : RS} {lev : Nat} (h1 : (x.toList == wShift) = false) (h2 : (x.toList == wLevels) = false) (h3 : levOf x = some lev) : readW [x] st = .error 2 := by
  rw [readW.eq_def]
  simp only
  rw [if_neg (by simp [h1]), if_neg (by simp [h2]), h3]

theorem readW_onel {x y : ByteArray} {ws : List ByteArray} {st : RS} {lev : Nat} (h1 : (x.toList == wShift) = false) (h2 : (x.toList == wLevels) = false) (h3 : levOf x = some lev) (h4 : 200 < y.size) : readW (x :: y :: ws) st = .error 2 := by
  rw [readW.eq_def]
  simp only
  rw [if_neg (by simp [h1]), if_neg (by simp [h2]), h3]
  simp only
  rw [if_pos h4]

theorem readW_onee {x y : ByteArray} {ws : List ByteArray} {st : RS} {lev : Nat} {c : Int} (h1 : (x.toList == wShift) = false) (h2 : (x.toList == wLevels) = false) (h3 : levOf x = some lev) (h4 : ¬ 200 < y.size) (h5 : putIn st lev (nD (Dec.decT y.size y).1) = .error c) : readW (x :: y :: ws) st = .error c := by
  rw [readW.eq_def]
  simp only
  rw [if_neg (by simp [h1]), if_neg (by simp [h2]), h3]
  simp only
  rw [if_neg h4, h5]

theorem readW_onek {x y : ByteArray} {ws : List ByteArray} {st st' : RS} {lev : Nat} (h1 : (x.toList == wShift) = false) (h2 : (x.toList == wLevels) = false) (h3 : levOf x = some lev) (h4 : ¬ 200 < y.size) (h5 : putIn st lev (nD (Dec.decT y.size y).1) = .ok st') : readW (x :: y :: ws) st = readW ws st' := by
  rw [readW.eq_def]
  simp only
  rw [if_neg (by simp [h1]), if_neg (by simp [h2]), h3]
  simp only
  rw [if_neg h4, h5]

theorem levOf_cases {x : ByteArray} {lev : Nat} (h : levOf x = some lev) : (lev = 0 ∧ (x.toList == [38]) = true) ∨ (lev = 1 ∧ (x.toList == [38]) = false ∧ (x.toList == [60]) = true) ∨ (lev = 2 ∧ (x.toList == [38]) = false ∧ (x.toList == [60]) = false ∧ (x.toList == [60, 60]) = true) ∨
    (lev = 3 ∧ (x.toList == [38]) = false ∧ (x.toList == [60]) = false ∧ (x.toList == [60, 60]) = false ∧ (x.toList == [60, 60, 60]) = true) := by
  unfold levOf at h
  cases d0 : (x.toList == [38]) <;> rw [d0] at h
  · cases d1 : (x.toList == [60]) <;> rw [d1] at h
    · cases d2 : (x.toList == [60, 60]) <;> rw [d2] at h
      · cases d3 : (x.toList == [60, 60, 60]) <;> rw [d3] at h
        · simp at h
        · simp at h; subst h; simp
      · simp at h; subst h; simp
    · simp at h; subst h; simp
  · simp at h; subst h; simp

theorem own_above {u : World} {B b : Nat} {v : Value} {l : List Int} (h : Ints u B v l) (hb : b + 1 ≤ B) : v.ownBlock = none ∨ v.ownBlock ≠ some b := by
  cases e : v.ownBlock with
  | none => exact .inl rfl
  | some g =>
    refine .inr fun c => ?_
    have := (World.ownsRow.lt h g e).1
    cases c
    omega

theorem drop_end {ws : List ByteArray} {k : Nat} (h : ws.length ≤ k) : ws.drop k = [] := List.drop_eq_nil_of_le h

theorem levN_yes {y : ByteArray} (h : y.size = 2 ∧ 49 ≤ Dec.bt y 0 ∧ Dec.bt y 0 ≤ 52 ∧ Dec.bt y 1 = 93) : levN y = some ((Dec.bt y 0 : Int) - 48) := if_pos h
theorem levN_no {y : ByteArray} (h : ¬ (y.size = 2 ∧ 49 ≤ Dec.bt y 0 ∧ Dec.bt y 0 ≤ 52 ∧ Dec.bt y 1 = 93)) : levN y = none := if_neg h

theorem putIn_bad {st : RS} {lev : Nat} {l : List Int} (h : runesOk l = false) : putIn st lev l = .error 2 := if_pos h
theorem putIn_reset0 {st : RS} {l : List Int} (h : runesOk l = true) (h2 : elemE st.es l = none) : putIn st 0 l = .error 3 := by
  unfold putIn
  rw [if_neg (by simp [h]), if_pos rfl, h2]
theorem putIn_resetv {st : RS} {l : List Int} {e : El} (h : runesOk l = true) (h2 : elemE st.es l = some e) (h3 : e.varies = true) : putIn st 0 l = .error 3 := by
  unfold putIn
  rw [if_neg (by simp [h]), if_pos rfl, h2]
  simp only
  rw [if_pos h3]
theorem putIn_resetk {st : RS} {l : List Int} {e : El} (h : runesOk l = true) (h2 : elemE st.es l = some e) (h3 : e.varies = false) : putIn st 0 l = .ok { st with last := e, reset := true } := by
  unfold putIn
  rw [if_neg (by simp [h]), if_pos rfl, h2]
  simp only
  rw [if_neg (by simp [h3])]
theorem putIn_first {st : RS} {lev : Nat} {l : List Int} (h : runesOk l = true) (hl : lev ≠ 0) (hr : st.reset = false) : putIn st lev l = .error 3 := by
  unfold putIn
  rw [if_neg (by simp [h]), if_neg hl, if_pos hr]
theorem putIn_twice {st : RS} {lev : Nat} {l : List Int} (h : runesOk l = true) (hl : lev ≠ 0) (hr : st.reset = true) (ha : 0 ≤ atE st.es l) : putIn st lev l = .error 4 := by
  unfold putIn
  rw [if_neg (by simp [h]), if_neg hl, if_neg (by simp [hr]), if_pos ha]
theorem putIn_put {st : RS} {lev : Nat} {l : List Int} (h : runesOk l = true) (hl : lev ≠ 0) (hr : st.reset = true) (ha : ¬ 0 ≤ atE st.es l) : putIn st lev l = if rulesOk (st.es ++ [⟨l, behindE st.es st.last lev⟩]) st.lv = true then .ok { st with es := st.es ++ [⟨l, behindE st.es st.last lev⟩], last := behindE st.es st.last lev } else .error 5 := by
  unfold putIn
  rw [if_neg (by simp [h]), if_neg hl, if_neg (by simp [hr]), if_neg ha]

set_option maxRecDepth 100000 in
set_option maxHeartbeats 20000000 in
theorem read_short (s : ByteArray) (w : World) (hs : s.size ≤ 300) : Calls Tryz.prog 27 #[.string s] w fun e w' => RdPost w (readA s) e w' := by
  have h2 : ¬ (300 : Int) < (s.size : Int) := by omega
  have hA : readA s = raOf (readW (words s) rs0) := if_neg (by omega)
  rw [hA]
  clear hA
  have W := fun w => words_any s w (by omega)
  have hwl : (words s).length ≤ 301 := Nat.le_trans (wst_bound s (s.size + 1)).1 (by omega)
  generalize words s = ws at *
  obtain ⟨ans, HANS⟩ : ∃ ans, Hid (readW ws rs0 = ans) := ⟨_, rfl⟩
  rw [HANS.out]
  go_enter Tryz.func27, Tryz.ntmps27
  go_wp2_with fail
  refine (W _).mono ?_
  rintro e w1 ⟨vw, rfl, hS1, b1⟩
  have bb1 := ((Below.refl w.heap.size w).alloc (Nat.le_refl _) (.cells #[.slice none 0 0, .bool false, .int .i64 0] 25)).trans (b1.mono (by simp))
  have P := fun w => plain_any w
  have hbb : Hid (Below _ _ _) := bb1
  have HS1 : Hid (Strs _ _ _ _) := hS1
  have h20 : Hid (w1.heap[w.heap.size]? = some (.cells #[.slice none 0 0, .bool false, .int .i64 0] 25)) := by
    show _ = _
    rw [b1.block _ (by simp)]; exact heap_alloc_new w _
  clear bb1 b1 hS1 W
  go_wp2_with fail
  refine (P _).mono ?_
  rintro e w2 ⟨rfl, b2⟩
  clear P
  have hlt2 := (Array.getElem?_eq_some_iff.1 h20.out).1
  have hM0 : StM w ((w2.alloc (.cells #[.slice none 0 0, .bool false, .int .i64 3] 25)).alloc (.cells #[.int .i64 0, .int .i64 0, .int .i64 0, .bool false] 72)) ws vw w2.heap.size (w2.heap.size + 1) rs0 (.slice none 0 0) := by
    have hb2 := hbb.out.trans (b2.mono hbb.out.size)
    have hSb := HS1.out.below b2
    rw [bsize] at hSb
    exact ⟨rb_new (by rw [b2.block _ hlt2]; exact h20.out), Ents.nil _ _, hSb.below (((Below.refl w2.heap.size w2).alloc (Nat.le_refl _) _).alloc (by simp) _), fun g e => (World.ownsRow.lt hSb g e).2, (hb2.alloc hb2.size _).alloc (hb2.alloc hb2.size _).size _⟩
  have HM0 : Hid (StM _ _ _ _ _ _ _ _) := hM0
  clear hbb b2 h20 hlt2 HS1 hM0
  obtain ⟨aw, cw, rfl⟩ : ∃ aw cw, vw = .slice aw ws.length cw := by
    rcases HM0.out.sr.form with ⟨rfl, rfl⟩ | ⟨g, cap, rfl, _, _⟩
    · exact ⟨_, _, rfl⟩
    · exact ⟨_, _, rfl⟩
  go_wp2_with fail
  go_loopw [7, 8] (fun rv iv wr => RdRel w ws (.slice aw ws.length cw) w2.heap.size (w2.heap.size + 1) ans rv iv wr) (fun _ iv _ => ws.length - (intOf iv).toNat)
  case atStart => exact ⟨0, rs0, _, Nat.zero_le _, rfl, rfl, by rw [List.drop_zero]; exact HANS.out, rinv0, HM0.out⟩
  case round =>
    clear HM0 HANS
    obtain ⟨k, st, vE, hk, rfl, rfl, hR, hI, hM⟩ := hrel
    have HR : Hid (readW (ws.drop k) st = ans) := hR
    have HI : Hid (RInv st) := hI
    have HM : Hid (StM w wr ws _ _ _ st vE) := hM
    clear hR hI hM
    obtain ⟨ae, ce, rfl⟩ : ∃ a c, vE = .slice a st.es.length c := by
      rcases HM.out.en.form with ⟨h, h'⟩ | ⟨g, cap, rfl, _, _, _, _⟩
      · exact ⟨none, 0, by rw [h, h']; rfl⟩
      · exact ⟨_, _, rfl⟩
    have hbe := HM.out.be
    obtain ⟨⟨l1, l2, l3⟩, ⟨q0, q1, q2⟩, ⟨r0, r1, r2⟩, _, f2, fr, _⟩ := HM.out.rb
    by_cases hlt : k < ws.length
    · obtain ⟨x, hx⟩ : ∃ x, ws[k]? = some x := ⟨_, List.getElem?_eq_getElem hlt⟩
      obtain ⟨gw, rfl⟩ : ∃ g, aw = some ⟨g, 0, none⟩ := by
        rcases HM.out.sr.form with ⟨_, rfl⟩ | ⟨g, cap, h, _, _⟩
        · simp at hlt
        · injection h with h _ _; exact ⟨g, h⟩
      have hcx := HM.out.sr.cell k x hx
      have hk8 : (k : Int) < (ws.length : Int) := by omega
      have hdr := drop_at hx
      have HDR : Hid (readW (x :: ws.drop (k + 1)) st = ans) := by show _ = _; rw [← hdr]; exact HR.out
      clear HR hdr hx
      cases c1 : (x.toList == wShift)
      · cases c2 : (x.toList == wLevels)
        · cases c3 : levOf x with
          | none =>
            have HERR : Hid (ans = .error 2) := by show _ = _; rw [← HDR.out, readW_none c1 c2 c3]
            unfold levOf at c3
            cases d0 : (x.toList == [38])
            · rw [d0] at c3
              cases d1 : (x.toList == [60])
              · rw [d1] at c3
                cases d2 : (x.toList == [60, 60])
                · rw [d2] at c3
                  cases d3 : (x.toList == [60, 60, 60])
                  · clear c3 HDR
                    unfold wShift at c1
                    unfold wLevels at c2
                    go_wp2
                    refine bodyPost_ret (v := zeroRules 2) ?_ rfl (rdPost_err HERR.out (below_res3 hbe _ _ _))
                    rw [results_cell_tmp rfl]
                    unfold zeroRules
                    go_simp
                  · rw [d3] at c3; simp at c3
                · rw [d2] at c3; simp at c3
              · rw [d1] at c3; simp at c3
            · rw [d0] at c3; simp at c3
          | some lev =>
            have C1 : Hid _ := c1
            have C2 : Hid _ := c2
            have C3 : Hid _ := c3
            have hcs := levOf_cases c3
            unfold wShift at c1
            unfold wLevels at c2
            clear c3
            by_cases hl2 : k + 1 < ws.length
            · obtain ⟨y, hy⟩ : ∃ y, ws[k + 1]? = some y := ⟨_, List.getElem?_eq_getElem hl2⟩
              have hcy := HM.out.sr.cell (k + 1) y hy
              have HDR2 : Hid (readW (x :: y :: ws.drop (k + 1 + 1)) st = ans) := by show _ = _; rw [← drop_at hy]; exact HDR.out
              have he : ((k : Int) + 1 == (ws.length : Int)) = false := by simp; omega
              have hk9 : (k : Int) + 1 < (ws.length : Int) := by omega
              clear hy HDR
              by_cases hyl : 200 < y.size
              · have HERR : Hid (ans = .error 2) := by show _ = _; rw [← HDR2.out, readW_onel C1.out C2.out C3.out hyl]
                have hyl2 : (200 : Int) < (y.size : Int) := by omega
                clear HDR2 HM C1 C2 C3
                rcases hcs with ⟨_, d0⟩ | ⟨_, d0, d1⟩ | ⟨_, d0, d1, d2⟩ | ⟨_, d0, d1, d2, d3⟩
                · go_wp2
                  refine bodyPost_ret (v := zeroRules 2) ?_ rfl (rdPost_err HERR.out (below_res3 hbe _ _ _))
                  rw [results_cell_tmp rfl]
                  unfold zeroRules
                  go_simp
                · go_wp2
                  refine bodyPost_ret (v := zeroRules 2) ?_ rfl (rdPost_err HERR.out (below_res3 hbe _ _ _))
                  rw [results_cell_tmp rfl]
                  unfold zeroRules
                  go_simp
                · go_wp2
                  refine bodyPost_ret (v := zeroRules 2) ?_ rfl (rdPost_err HERR.out (below_res3 hbe _ _ _))
                  rw [results_cell_tmp rfl]
                  unfold zeroRules
                  go_simp
                · go_wp2
                  refine bodyPost_ret (v := zeroRules 2) ?_ rfl (rdPost_err HERR.out (below_res3 hbe _ _ _))
                  rw [results_cell_tmp rfl]
                  unfold zeroRules
                  go_simp
              · have DEC := fun w => l1Decode_any y w (by omega)
                have hdl := (Dec.decT_len y.size y (Nat.le_refl _)).1
                have hyl2 : ¬ (200 : Int) < (y.size : Int) := by omega
                have hnl : (nD (Dec.decT y.size y).1).length ≤ 1800 := by rw [nD_len]; have := apD_len (Dec.decT y.size y).1; omega
                rcases hcs with ⟨rfl, d0⟩ | ⟨rfl, d0, d1⟩ | ⟨rfl, d0, d1, d2⟩ | ⟨rfl, d0, d1, d2, d3⟩
                · go_wp2_with fail
                  refine (DEC _).mono ?_
                  rintro e w3 ⟨v3, rfl, i3, b3⟩
                  have D := d_any (zs := (Dec.decT y.size y).1) (by omega) i3
                  have HM3 : Hid (StM _ _ _ _ _ _ _ _) := HM.out.step b3
                  have hw3 : Hid (w2.heap.size + 1 + 1 ≤ w3.heap.size) := by show _ ≤ _; have := b3.size; omega
                  clear DEC HM q0 q1 q2 r0 r1 r2 f2 fr hcx hcy hbe l1 l2 l3 b3 i3
                  go_wp2_with fail
                  refine D.mono ?_
                  rintro e w4 ⟨v4, rfl, i4, b4⟩
                  have HM4 : Hid (StM _ _ _ _ _ _ _ _) := HM3.out.step b4
                  have i4b := ints_low2 i4 hw3.out
                  clear D HM3 b4 hw3 i4
                  generalize hl4 : nD (Dec.decT y.size y).1 = l at *
                  have HL4 : Hid _ := hl4
                  clear hl4
                  obtain ⟨a4, c4, rfl⟩ : ∃ a c, v4 = .slice a l.length c := by
                    rcases i4b.form with ⟨rfl, rfl⟩ | ⟨g, cap, rfl, _, _⟩
                    · exact ⟨_, _, rfl⟩
                    · exact ⟨_, _, rfl⟩
                  have RN := runes3_any (by omega) i4b
                  go_wp2_with fail
                  refine RN.mono ?_
                  rintro e w5 ⟨rfl, b5⟩
                  have HM5 : Hid (StM _ _ _ _ _ _ _ _) := HM4.out.step b5
                  have I5 : Hid (Ints _ _ _ _) := i4b.below b5
                  clear RN HM4 b5 i4b
                  cases hro : runesOk l
                  · have HERR : Hid (ans = .error 2) := by show _ = _; rw [← HDR2.out, readW_onee C1.out C2.out C3.out hyl (by rw [HL4.out]; exact putIn_bad hro)]
                    have hbe := HM5.out.be
                    obtain ⟨⟨l1, l2, l3⟩, ⟨q0, q1, q2⟩, ⟨r0, r1, r2⟩, ⟨e0, e1, e2, e3⟩, f2, fr, fl⟩ := HM5.out.rb
                    have lb2 : w.heap.size < w5.heap.size := by omega
                    have lbr : w2.heap.size < w5.heap.size := by omega
                    clear HDR2 HM5 C1 C2 C3 I5 HL4
                    go_wp2
                    refine bodyPost_ret (v := zeroRules 2) ?_ rfl (rdPost_err HERR.out (below_res3 hbe _ _ _))
                    rw [results_cell_tmp rfl]
                    unfold zeroRules
                    go_simp
                  · have hll := runesOk_len hro
                    have hrl : ∀ e ∈ st.es, e.runes.length ≤ 1048576 := fun e he => Nat.le_trans (runesOk_len ((rulesOk_whole HI.out.good).2.2 e he).1) (by omega)
                    have hel : st.es.length ≤ 40 := (rulesOk_whole HI.out.good).1
                    have hgr := runesOk_good hro
                    have EL := elem3_any (sh := st.sh) (lv := st.lv) HM5.out.en I5.out (by omega) (by omega) hrl hgr
                    clear hgr hrl
                    have hbe := HM5.out.be
                    obtain ⟨⟨l1, l2, l3⟩, ⟨q0, q1, q2⟩, ⟨r0, r1, r2⟩, ⟨e0, e1, e2, e3⟩, f2, fr, fl⟩ := HM5.out.rb
                    have lb2 : w.heap.size < w5.heap.size := by omega
                    have lbr : w2.heap.size < w5.heap.size := by omega
                    cases hee : elemE st.es l with
                    | none =>
                      have HERR : Hid (ans = .error 3) := by show _ = _; rw [← HDR2.out, readW_onee C1.out C2.out C3.out hyl (by rw [HL4.out]; exact putIn_reset0 hro hee)]
                      rw [hee] at EL
                      unfold elRes elV elOf at EL
                      simp only [Option.getD_none, Option.isSome_none] at EL
                      clear HDR2 C1 C2 C3 I5 HL4 hee
                      go_wp2_with fail
                      refine EL.mono ?_
                      rintro e w6 ⟨rfl, b6⟩
                      have HM6 : Hid (StM _ _ _ _ _ _ _ _) := HM5.out.step b6
                      clear q0 q1 q2 r0 r1 r2 e0 e1 e2 e3 f2 fr fl hbe l1 l2 l3 lb2 lbr
                      have hbe := HM6.out.be
                      obtain ⟨⟨l1, l2, l3⟩, ⟨q0, q1, q2⟩, ⟨r0, r1, r2⟩, ⟨e0, e1, e2, e3⟩, f2, fr, fl⟩ := HM6.out.rb
                      have lb2 : w.heap.size < w6.heap.size := by omega
                      have lbr : w2.heap.size < w6.heap.size := by omega
                      clear EL HM5 HM6 b6
                      go_wp2
                      refine bodyPost_ret (v := zeroRules 3) ?_ rfl (rdPost_err HERR.out ((below_res3 hbe _ _ _).alloc (by simpa using hbe.size) _))
                      rw [results_cell_tmp rfl]
                      unfold zeroRules
                      go_simp
                    | some x0 =>
                      rw [hee] at EL
                      unfold elRes elV elOf at EL
                      cases hv : x0.varies
                      · have HOK : Hid (readW (ws.drop (k + 1 + 1)) { st with last := x0, reset := true } = ans) := by show _ = _; rw [← HDR2.out, readW_onek C1.out C2.out C3.out hyl (by rw [HL4.out]; exact putIn_resetk hro hee hv)]
                        have HI2 : Hid (RInv { st with last := x0, reset := true }) := putIn_inv HI.out (putIn_resetk hro hee hv)
                        have HV : Hid (x0.varies = false) := hv
                        simp only [Option.getD_some, Option.isSome_some, hv] at EL
                        clear HDR2 C1 C2 C3 I5 HL4 hee hv
                        go_wp2_with fail
                        refine EL.mono ?_
                        rintro e w6 ⟨rfl, b6⟩
                        have HM6 : Hid (StM _ _ _ _ _ _ _ _) := HM5.out.step b6
                        clear q0 q1 q2 r0 r1 r2 e0 e1 e2 e3 f2 fr fl hbe l1 l2 l3 lb2 lbr
                        have HM7 : Hid (StM _ _ _ _ _ _ _ _) := (HM6.out.setLast x0 true).step ((Below.refl _ _).alloc (Nat.le_refl _) (.cells #[.int .i64 x0.first, .int .i64 x0.second, .int .i64 x0.third, .bool x0.varies] 72))
                        rw [HV.out] at HM7
                        unfold setEl at HM7
                        rw [HV.out] at HM7
                        have hbe := HM6.out.be
                        obtain ⟨⟨l1, l2, l3⟩, ⟨q0, q1, q2⟩, ⟨r0, r1, r2⟩, ⟨e0, e1, e2, e3⟩, f2, fr, fl⟩ := HM6.out.rb
                        have lb2 : w.heap.size < w6.heap.size := by omega
                        have lbr : w2.heap.size < w6.heap.size := by omega
                        clear EL HM5 HM6 b6 hbe
                        go_wp2
                        exact ⟨⟨k + 1 + 1, { st with last := x0, reset := true }, _, hl2, by go_num, rfl, HOK.out, HI2.out, HM7.out⟩, by simp [intOf]; omega⟩
                      · have HERR : Hid (ans = .error 3) := by show _ = _; rw [← HDR2.out, readW_onee C1.out C2.out C3.out hyl (by rw [HL4.out]; exact putIn_resetv hro hee hv)]
                        simp only [Option.getD_some, Option.isSome_some, hv] at EL
                        clear HDR2 C1 C2 C3 I5 HL4 hee hv
                        go_wp2_with fail
                        refine EL.mono ?_
                        rintro e w6 ⟨rfl, b6⟩
                        have HM6 : Hid (StM _ _ _ _ _ _ _ _) := HM5.out.step b6
                        clear q0 q1 q2 r0 r1 r2 e0 e1 e2 e3 f2 fr fl hbe l1 l2 l3 lb2 lbr
                        have hbe := HM6.out.be
                        obtain ⟨⟨l1, l2, l3⟩, ⟨q0, q1, q2⟩, ⟨r0, r1, r2⟩, ⟨e0, e1, e2, e3⟩, f2, fr, fl⟩ := HM6.out.rb
                        have lb2 : w.heap.size < w6.heap.size := by omega
                        have lbr : w2.heap.size < w6.heap.size := by omega
                        clear EL HM5 HM6 b6
                        go_wp2
                        refine bodyPost_ret (v := zeroRules 3) ?_ rfl (rdPost_err HERR.out ((below_res3 hbe _ _ _).alloc (by simpa using hbe.size) _))
                        rw [results_cell_tmp rfl]
                        unfold zeroRules
                        go_simp
                · go_wp2_with fail
                  refine (DEC _).mono ?_
                  rintro e w3 ⟨v3, rfl, i3, b3⟩
                  have D := d_any (zs := (Dec.decT y.size y).1) (by omega) i3
                  have HM3 : Hid (StM _ _ _ _ _ _ _ _) := HM.out.step b3
                  have hw3 : Hid (w2.heap.size + 1 + 1 ≤ w3.heap.size) := by show _ ≤ _; have := b3.size; omega
                  clear DEC HM q0 q1 q2 r0 r1 r2 f2 fr hcx hcy hbe l1 l2 l3 b3 i3
                  go_wp2_with fail
                  refine D.mono ?_
                  rintro e w4 ⟨v4, rfl, i4, b4⟩
                  have HM4 : Hid (StM _ _ _ _ _ _ _ _) := HM3.out.step b4
                  have i4b := ints_low2 i4 hw3.out
                  clear D HM3 b4 hw3 i4
                  generalize hl4 : nD (Dec.decT y.size y).1 = l at *
                  have HL4 : Hid _ := hl4
                  clear hl4
                  obtain ⟨a4, c4, rfl⟩ : ∃ a c, v4 = .slice a l.length c := by
                    rcases i4b.form with ⟨rfl, rfl⟩ | ⟨g, cap, rfl, _, _⟩
                    · exact ⟨_, _, rfl⟩
                    · exact ⟨_, _, rfl⟩
                  have RN := runes3_any (by omega) i4b
                  go_wp2_with fail
                  refine RN.mono ?_
                  rintro e w5 ⟨rfl, b5⟩
                  have HM5 : Hid (StM _ _ _ _ _ _ _ _) := HM4.out.step b5
                  have I5 : Hid (Ints _ _ _ _) := i4b.below b5
                  clear RN HM4 b5 i4b
                  cases hro : runesOk l
                  · have HERR : Hid (ans = .error 2) := by show _ = _; rw [← HDR2.out, readW_onee C1.out C2.out C3.out hyl (by rw [HL4.out]; exact putIn_bad hro)]
                    have hbe := HM5.out.be
                    obtain ⟨⟨l1, l2, l3⟩, ⟨q0, q1, q2⟩, ⟨r0, r1, r2⟩, ⟨e0, e1, e2, e3⟩, f2, fr, fl⟩ := HM5.out.rb
                    have lb2 : w.heap.size < w5.heap.size := by omega
                    have lbr : w2.heap.size < w5.heap.size := by omega
                    clear HDR2 HM5 C1 C2 C3 I5 HL4
                    go_wp2
                    refine bodyPost_ret (v := zeroRules 2) ?_ rfl (rdPost_err HERR.out (below_res3 hbe _ _ _))
                    rw [results_cell_tmp rfl]
                    unfold zeroRules
                    go_simp
                  · have hll := runesOk_len hro
                    have hrl : ∀ e ∈ st.es, e.runes.length ≤ 1048576 := fun e he => Nat.le_trans (runesOk_len ((rulesOk_whole HI.out.good).2.2 e he).1) (by omega)
                    have hel : st.es.length ≤ 40 := (rulesOk_whole HI.out.good).1
                    cases hrs : st.reset
                    · have HERR : Hid (ans = .error 3) := by show _ = _; rw [← HDR2.out, readW_onee C1.out C2.out C3.out hyl (by rw [HL4.out]; exact putIn_first hro (by omega) hrs)]
                      have hbe := HM5.out.be
                      obtain ⟨⟨l1, l2, l3⟩, ⟨q0, q1, q2⟩, ⟨r0, r1, r2⟩, ⟨e0, e1, e2, e3⟩, f2, fr, fl⟩ := HM5.out.rb
                      have lb2 : w.heap.size < w5.heap.size := by omega
                      have lbr : w2.heap.size < w5.heap.size := by omega
                      clear HDR2 HM5 C1 C2 C3 I5 HL4 hrl
                      go_wp2
                      refine bodyPost_ret (v := zeroRules 3) ?_ rfl (rdPost_err HERR.out (below_res3 hbe _ _ _))
                      rw [results_cell_tmp rfl]
                      unfold zeroRules
                      go_simp
                    · have AT := at3_any (sh := st.sh) (lv := st.lv) HM5.out.en I5.out (by omega) (by omega) hrl
                      clear hrl
                      have hbe := HM5.out.be
                      obtain ⟨⟨l1, l2, l3⟩, ⟨q0, q1, q2⟩, ⟨r0, r1, r2⟩, ⟨e0, e1, e2, e3⟩, f2, fr, fl⟩ := HM5.out.rb
                      have lb2 : w.heap.size < w5.heap.size := by omega
                      have lbr : w2.heap.size < w5.heap.size := by omega
                      go_wp2_with fail
                      refine AT.mono ?_
                      rintro e w6 ⟨rfl, b6⟩
                      have HM6 : Hid (StM _ _ _ _ _ _ _ _) := HM5.out.step b6
                      have I6 : Hid (Ints _ _ _ _) := I5.out.below b6
                      clear q0 q1 q2 r0 r1 r2 e0 e1 e2 e3 f2 fr fl hbe l1 l2 l3 lb2 lbr
                      clear AT HM5 I5 b6
                      have hbe := HM6.out.be
                      obtain ⟨⟨l1, l2, l3⟩, ⟨q0, q1, q2⟩, ⟨r0, r1, r2⟩, ⟨e0, e1, e2, e3⟩, f2, fr, fl⟩ := HM6.out.rb
                      have lb2 : w.heap.size < w6.heap.size := by omega
                      have lbr : w2.heap.size < w6.heap.size := by omega
                      by_cases hat : 0 ≤ atE st.es l
                      · have HERR : Hid (ans = .error 4) := by show _ = _; rw [← HDR2.out, readW_onee C1.out C2.out C3.out hyl (by rw [HL4.out]; exact putIn_twice hro (by omega) hrs hat)]
                        clear HDR2 HM6 C1 C2 C3 I6 HL4
                        go_wp2
                        refine bodyPost_ret (v := zeroRules 4) ?_ rfl (rdPost_err HERR.out (below_res3 hbe _ _ _))
                        rw [results_cell_tmp rfl]
                        unfold zeroRules
                        go_simp
                      · have BH := behind_any (sh := st.sh) (lv := st.lv) (n := 1) HM6.out.en HI.out (by omega)
                        have HPUT := putIn_put (lev := 1) hro (by omega) hrs hat
                        obtain ⟨nb, HNB⟩ : ∃ nb, Hid (behindE st.es st.last 1 = nb) := ⟨_, rfl⟩
                        rw [HNB.out] at BH HPUT
                        unfold elV at BH
                        go_wp2_with fail
                        refine BH.mono ?_
                        rintro e w7 ⟨rfl, b7⟩
                        have HM7 : Hid (StM _ _ _ _ _ _ _ _) := HM6.out.step b7
                        have I7 : Hid (Ints _ _ _ _) := I6.out.below b7
                        clear q0 q1 q2 r0 r1 r2 e0 e1 e2 e3 f2 fr fl hbe l1 l2 l3 lb2 lbr
                        clear BH HM6 I6 b7
                        have hM8 := HM7.out.setLast nb st.reset
                        have i8 : Ints (setEl w7 (w2.heap.size + 1) nb) _ _ _ := World.ownsRow.kept I7.out (setEl_grown w7 (w2.heap.size + 1) nb) (own_above I7.out (Nat.le_refl _))
                        have hbe := HM7.out.be
                        obtain ⟨⟨l1, l2, l3⟩, ⟨q0, q1, q2⟩, ⟨r0, r1, r2⟩, ⟨e0, e1, e2, e3⟩, f2, fr, fl⟩ := HM7.out.rb
                        have lb2 : w.heap.size < w7.heap.size := by omega
                        have lbr : w2.heap.size < w7.heap.size := by omega
                        obtain ⟨xs, hxl, h1, h2⟩ := hM8.en
                        have HM8 : Hid (StM _ _ _ _ _ _ _ _) := hM8
                        have H2 : Hid _ := h2
                        have I8 : Hid (Ints _ _ _ _) := i8
                        obtain ⟨it, hit, hzz, hz1, hz2⟩ := info_parts info_ent
                        clear HM7 I7 hM8 h2 i8 hbe
                        go_wp2_with (at_builtin; refine wpList_append_lies _ rfl _ _ 23 rfl (w2.heap.size + 1 + 1) 74 it _ 5 56 Tryz.underlying23 hit hzz hz1 hz2 rfl (by decide) _ _ _ rfl (h1.alloc _) ⟨w7.heap.size, 0, none⟩ 1 1 (entC (.slice a4 l.length c4) nb) rfl rfl (cells5_at _ _ _ _ _ (by simp)) ?hone (by omega) (by unfold maxLen; omega) (by omega) (by simp; omega) (w7.heap.size + 1) (by simp) ?_)
                        case hone =>
                          intro z hz
                          simp [entC] at hz
                          rcases hz with rfl | rfl | rfl | rfl | rfl <;> rfl
                        intro g9 cap9 w9 ho9 hg9 _ _
                        have hMp := StM.put (l := l) (HM8.out.step ((Below.refl _ _).alloc (Nat.le_refl _) (.cells #[.slice a4 l.length c4, .int .i64 nb.first, .int .i64 nb.second, .int .i64 nb.third, .bool nb.varies] 74))) hxl
                          (fun kk ee he => by obtain ⟨z, hz, hzi⟩ := H2.out kk ee he; exact ⟨z, hz, hzi.below ((Below.refl _ _).alloc (Nat.le_refl _) _)⟩) (I8.out.below ((Below.refl _ _).alloc (Nat.le_refl _) _)) (h1.alloc _) hg9 ho9
                        have HM9 : Hid (StM _ _ _ _ _ _ _ _) := hMp
                        have hr9 : ∀ e ∈ st.es ++ [⟨l, nb⟩], e.runes.length ≤ 1048576 := fun e he => by
                          rcases List.mem_append.1 he with h | h
                          · exact Nat.le_trans (runesOk_len ((rulesOk_whole HI.out.good).2.2 e h).1) (by omega)
                          · simp at h; subst h; exact Nat.le_trans hll (by omega)
                        have GR := good3_any (sh := st.sh) (lv := st.lv) hMp.en hr9
                        have rbp := (HM8.out.step ((Below.refl _ _).alloc (Nat.le_refl _) (.cells #[.slice a4 l.length c4, .int .i64 nb.first, .int .i64 nb.second, .int .i64 nb.third, .bool nb.varies] 74))).rb.upTo (Below.grown (Below.refl (w2.heap.size + 1 + 1) _) hg9 (by unfold setEl; simp; omega) (fun j hj => (World.ownsRow.lt h1 j hj).1)) (Nat.lt_succ_self _)
                        clear q0 q1 q2 r0 r1 r2 e0 e1 e2 e3 f2 fr fl hMp HM8 H2 I8 h1 hg9 ho9 hr9
                        obtain ⟨⟨l1', l2', l3'⟩, ⟨q0, q1, q2⟩, ⟨r0, r1, r2⟩, ⟨e0, e1, e2, e3⟩, f2, fr, fl⟩ := rbp
                        go_wp2_with fail
                        refine GR.mono ?_
                        rintro e w10 ⟨rfl, b10⟩
                        have HM10 : Hid (StM _ _ _ _ _ _ _ _) := HM9.out.step b10
                        clear q0 q1 q2 r0 r1 r2 e0 e1 e2 e3 f2 fr fl GR HM9 l1 l2 l3 lb2 lbr l1' l2' l3' b10
                        cases hgd : rulesOk (st.es ++ [⟨l, nb⟩]) st.lv
                        · have HERR : Hid (ans = .error 5) := by show _ = _; rw [← HDR2.out, readW_onee C1.out C2.out C3.out hyl (by rw [HL4.out, HPUT, if_neg (by simp [hgd])])]
                          have hbe := HM10.out.be
                          obtain ⟨⟨l1, l2, l3⟩, ⟨q0, q1, q2⟩, ⟨r0, r1, r2⟩, ⟨e0, e1, e2, e3⟩, f2, fr, fl⟩ := HM10.out.rb
                          clear HDR2 C1 C2 C3 HL4 HPUT HM10
                          go_wp2
                          refine bodyPost_ret (v := zeroRules 5) ?_ rfl (rdPost_err HERR.out (below_res3 hbe _ _ _))
                          rw [results_cell_tmp rfl]
                          unfold zeroRules
                          go_simp
                        · have HP : putIn st 1 l = .ok { st with es := st.es ++ [⟨l, nb⟩], last := nb } := by rw [HPUT, if_pos hgd]
                          have HOK : Hid (readW (ws.drop (k + 1 + 1)) { st with es := st.es ++ [⟨l, nb⟩], last := nb } = ans) := by show _ = _; rw [← HDR2.out, readW_onek C1.out C2.out C3.out hyl (by rw [HL4.out]; exact HP)]
                          have HI2 : Hid (RInv { st with es := st.es ++ [⟨l, nb⟩], last := nb }) := putIn_inv HI.out HP
                          clear HDR2 C1 C2 C3 HL4 HPUT HP
                          go_wp2
                          exact ⟨⟨k + 1 + 1, { st with es := st.es ++ [⟨l, nb⟩], last := nb }, _, hl2, by go_num, by show Value.bool true = Value.bool st.reset; rw [hrs], HOK.out, HI2.out, HM10.out⟩, by simp [intOf]; omega⟩
                · go_wp2_with fail
                  refine (DEC _).mono ?_
                  rintro e w3 ⟨v3, rfl, i3, b3⟩
                  have D := d_any (zs := (Dec.decT y.size y).1) (by omega) i3
                  have HM3 : Hid (StM _ _ _ _ _ _ _ _) := HM.out.step b3
                  have hw3 : Hid (w2.heap.size + 1 + 1 ≤ w3.heap.size) := by show _ ≤ _; have := b3.size; omega
                  clear DEC HM q0 q1 q2 r0 r1 r2 f2 fr hcx hcy hbe l1 l2 l3 b3 i3
                  go_wp2_with fail
                  refine D.mono ?_
                  rintro e w4 ⟨v4, rfl, i4, b4⟩
                  have HM4 : Hid (StM _ _ _ _ _ _ _ _) := HM3.out.step b4
                  have i4b := ints_low2 i4 hw3.out
                  clear D HM3 b4 hw3 i4
                  generalize hl4 : nD (Dec.decT y.size y).1 = l at *
                  have HL4 : Hid _ := hl4
                  clear hl4
                  obtain ⟨a4, c4, rfl⟩ : ∃ a c, v4 = .slice a l.length c := by
                    rcases i4b.form with ⟨rfl, rfl⟩ | ⟨g, cap, rfl, _, _⟩
                    · exact ⟨_, _, rfl⟩
                    · exact ⟨_, _, rfl⟩
                  have RN := runes3_any (by omega) i4b
                  go_wp2_with fail
                  refine RN.mono ?_
                  rintro e w5 ⟨rfl, b5⟩
                  have HM5 : Hid (StM _ _ _ _ _ _ _ _) := HM4.out.step b5
                  have I5 : Hid (Ints _ _ _ _) := i4b.below b5
                  clear RN HM4 b5 i4b
                  cases hro : runesOk l
                  · have HERR : Hid (ans = .error 2) := by show _ = _; rw [← HDR2.out, readW_onee C1.out C2.out C3.out hyl (by rw [HL4.out]; exact putIn_bad hro)]
                    have hbe := HM5.out.be
                    obtain ⟨⟨l1, l2, l3⟩, ⟨q0, q1, q2⟩, ⟨r0, r1, r2⟩, ⟨e0, e1, e2, e3⟩, f2, fr, fl⟩ := HM5.out.rb
                    have lb2 : w.heap.size < w5.heap.size := by omega
                    have lbr : w2.heap.size < w5.heap.size := by omega
                    clear HDR2 HM5 C1 C2 C3 I5 HL4
                    go_wp2
                    refine bodyPost_ret (v := zeroRules 2) ?_ rfl (rdPost_err HERR.out (below_res3 hbe _ _ _))
                    rw [results_cell_tmp rfl]
                    unfold zeroRules
                    go_simp
                  · have hll := runesOk_len hro
                    have hrl : ∀ e ∈ st.es, e.runes.length ≤ 1048576 := fun e he => Nat.le_trans (runesOk_len ((rulesOk_whole HI.out.good).2.2 e he).1) (by omega)
                    have hel : st.es.length ≤ 40 := (rulesOk_whole HI.out.good).1
                    cases hrs : st.reset
                    · have HERR : Hid (ans = .error 3) := by show _ = _; rw [← HDR2.out, readW_onee C1.out C2.out C3.out hyl (by rw [HL4.out]; exact putIn_first hro (by omega) hrs)]
                      have hbe := HM5.out.be
                      obtain ⟨⟨l1, l2, l3⟩, ⟨q0, q1, q2⟩, ⟨r0, r1, r2⟩, ⟨e0, e1, e2, e3⟩, f2, fr, fl⟩ := HM5.out.rb
                      have lb2 : w.heap.size < w5.heap.size := by omega
                      have lbr : w2.heap.size < w5.heap.size := by omega
                      clear HDR2 HM5 C1 C2 C3 I5 HL4 hrl
                      go_wp2
                      refine bodyPost_ret (v := zeroRules 3) ?_ rfl (rdPost_err HERR.out (below_res3 hbe _ _ _))
                      rw [results_cell_tmp rfl]
                      unfold zeroRules
                      go_simp
                    · have AT := at3_any (sh := st.sh) (lv := st.lv) HM5.out.en I5.out (by omega) (by omega) hrl
                      clear hrl
                      have hbe := HM5.out.be
                      obtain ⟨⟨l1, l2, l3⟩, ⟨q0, q1, q2⟩, ⟨r0, r1, r2⟩, ⟨e0, e1, e2, e3⟩, f2, fr, fl⟩ := HM5.out.rb
                      have lb2 : w.heap.size < w5.heap.size := by omega
                      have lbr : w2.heap.size < w5.heap.size := by omega
                      go_wp2_with fail
                      refine AT.mono ?_
                      rintro e w6 ⟨rfl, b6⟩
                      have HM6 : Hid (StM _ _ _ _ _ _ _ _) := HM5.out.step b6
                      have I6 : Hid (Ints _ _ _ _) := I5.out.below b6
                      clear q0 q1 q2 r0 r1 r2 e0 e1 e2 e3 f2 fr fl hbe l1 l2 l3 lb2 lbr
                      clear AT HM5 I5 b6
                      have hbe := HM6.out.be
                      obtain ⟨⟨l1, l2, l3⟩, ⟨q0, q1, q2⟩, ⟨r0, r1, r2⟩, ⟨e0, e1, e2, e3⟩, f2, fr, fl⟩ := HM6.out.rb
                      have lb2 : w.heap.size < w6.heap.size := by omega
                      have lbr : w2.heap.size < w6.heap.size := by omega
                      by_cases hat : 0 ≤ atE st.es l
                      · have HERR : Hid (ans = .error 4) := by show _ = _; rw [← HDR2.out, readW_onee C1.out C2.out C3.out hyl (by rw [HL4.out]; exact putIn_twice hro (by omega) hrs hat)]
                        clear HDR2 HM6 C1 C2 C3 I6 HL4
                        go_wp2
                        refine bodyPost_ret (v := zeroRules 4) ?_ rfl (rdPost_err HERR.out (below_res3 hbe _ _ _))
                        rw [results_cell_tmp rfl]
                        unfold zeroRules
                        go_simp
                      · have BH := behind_any (sh := st.sh) (lv := st.lv) (n := 2) HM6.out.en HI.out (by omega)
                        have HPUT := putIn_put (lev := 2) hro (by omega) hrs hat
                        obtain ⟨nb, HNB⟩ : ∃ nb, Hid (behindE st.es st.last 2 = nb) := ⟨_, rfl⟩
                        rw [HNB.out] at BH HPUT
                        unfold elV at BH
                        go_wp2_with fail
                        refine BH.mono ?_
                        rintro e w7 ⟨rfl, b7⟩
                        have HM7 : Hid (StM _ _ _ _ _ _ _ _) := HM6.out.step b7
                        have I7 : Hid (Ints _ _ _ _) := I6.out.below b7
                        clear q0 q1 q2 r0 r1 r2 e0 e1 e2 e3 f2 fr fl hbe l1 l2 l3 lb2 lbr
                        clear BH HM6 I6 b7
                        have hM8 := HM7.out.setLast nb st.reset
                        have i8 : Ints (setEl w7 (w2.heap.size + 1) nb) _ _ _ := World.ownsRow.kept I7.out (setEl_grown w7 (w2.heap.size + 1) nb) (own_above I7.out (Nat.le_refl _))
                        have hbe := HM7.out.be
                        obtain ⟨⟨l1, l2, l3⟩, ⟨q0, q1, q2⟩, ⟨r0, r1, r2⟩, ⟨e0, e1, e2, e3⟩, f2, fr, fl⟩ := HM7.out.rb
                        have lb2 : w.heap.size < w7.heap.size := by omega
                        have lbr : w2.heap.size < w7.heap.size := by omega
                        obtain ⟨xs, hxl, h1, h2⟩ := hM8.en
                        have HM8 : Hid (StM _ _ _ _ _ _ _ _) := hM8
                        have H2 : Hid _ := h2
                        have I8 : Hid (Ints _ _ _ _) := i8
                        obtain ⟨it, hit, hzz, hz1, hz2⟩ := info_parts info_ent
                        clear HM7 I7 hM8 h2 i8 hbe
                        go_wp2_with (at_builtin; refine wpList_append_lies _ rfl _ _ 23 rfl (w2.heap.size + 1 + 1) 74 it _ 5 56 Tryz.underlying23 hit hzz hz1 hz2 rfl (by decide) _ _ _ rfl (h1.alloc _) ⟨w7.heap.size, 0, none⟩ 1 1 (entC (.slice a4 l.length c4) nb) rfl rfl (cells5_at _ _ _ _ _ (by simp)) ?hone (by omega) (by unfold maxLen; omega) (by omega) (by simp; omega) (w7.heap.size + 1) (by simp) ?_)
                        case hone =>
                          intro z hz
                          simp [entC] at hz
                          rcases hz with rfl | rfl | rfl | rfl | rfl <;> rfl
                        intro g9 cap9 w9 ho9 hg9 _ _
                        have hMp := StM.put (l := l) (HM8.out.step ((Below.refl _ _).alloc (Nat.le_refl _) (.cells #[.slice a4 l.length c4, .int .i64 nb.first, .int .i64 nb.second, .int .i64 nb.third, .bool nb.varies] 74))) hxl
                          (fun kk ee he => by obtain ⟨z, hz, hzi⟩ := H2.out kk ee he; exact ⟨z, hz, hzi.below ((Below.refl _ _).alloc (Nat.le_refl _) _)⟩) (I8.out.below ((Below.refl _ _).alloc (Nat.le_refl _) _)) (h1.alloc _) hg9 ho9
                        have HM9 : Hid (StM _ _ _ _ _ _ _ _) := hMp
                        have hr9 : ∀ e ∈ st.es ++ [⟨l, nb⟩], e.runes.length ≤ 1048576 := fun e he => by
                          rcases List.mem_append.1 he with h | h
                          · exact Nat.le_trans (runesOk_len ((rulesOk_whole HI.out.good).2.2 e h).1) (by omega)
                          · simp at h; subst h; exact Nat.le_trans hll (by omega)
                        have GR := good3_any (sh := st.sh) (lv := st.lv) hMp.en hr9
                        have rbp := (HM8.out.step ((Below.refl _ _).alloc (Nat.le_refl _) (.cells #[.slice a4 l.length c4, .int .i64 nb.first, .int .i64 nb.second, .int .i64 nb.third, .bool nb.varies] 74))).rb.upTo (Below.grown (Below.refl (w2.heap.size + 1 + 1) _) hg9 (by unfold setEl; simp; omega) (fun j hj => (World.ownsRow.lt h1 j hj).1)) (Nat.lt_succ_self _)
                        clear q0 q1 q2 r0 r1 r2 e0 e1 e2 e3 f2 fr fl hMp HM8 H2 I8 h1 hg9 ho9 hr9
                        obtain ⟨⟨l1', l2', l3'⟩, ⟨q0, q1, q2⟩, ⟨r0, r1, r2⟩, ⟨e0, e1, e2, e3⟩, f2, fr, fl⟩ := rbp
                        go_wp2_with fail
                        refine GR.mono ?_
                        rintro e w10 ⟨rfl, b10⟩
                        have HM10 : Hid (StM _ _ _ _ _ _ _ _) := HM9.out.step b10
                        clear q0 q1 q2 r0 r1 r2 e0 e1 e2 e3 f2 fr fl GR HM9 l1 l2 l3 lb2 lbr l1' l2' l3' b10
                        cases hgd : rulesOk (st.es ++ [⟨l, nb⟩]) st.lv
                        · have HERR : Hid (ans = .error 5) := by show _ = _; rw [← HDR2.out, readW_onee C1.out C2.out C3.out hyl (by rw [HL4.out, HPUT, if_neg (by simp [hgd])])]
                          have hbe := HM10.out.be
                          obtain ⟨⟨l1, l2, l3⟩, ⟨q0, q1, q2⟩, ⟨r0, r1, r2⟩, ⟨e0, e1, e2, e3⟩, f2, fr, fl⟩ := HM10.out.rb
                          clear HDR2 C1 C2 C3 HL4 HPUT HM10
                          go_wp2
                          refine bodyPost_ret (v := zeroRules 5) ?_ rfl (rdPost_err HERR.out (below_res3 hbe _ _ _))
                          rw [results_cell_tmp rfl]
                          unfold zeroRules
                          go_simp
                        · have HP : putIn st 2 l = .ok { st with es := st.es ++ [⟨l, nb⟩], last := nb } := by rw [HPUT, if_pos hgd]
                          have HOK : Hid (readW (ws.drop (k + 1 + 1)) { st with es := st.es ++ [⟨l, nb⟩], last := nb } = ans) := by show _ = _; rw [← HDR2.out, readW_onek C1.out C2.out C3.out hyl (by rw [HL4.out]; exact HP)]
                          have HI2 : Hid (RInv { st with es := st.es ++ [⟨l, nb⟩], last := nb }) := putIn_inv HI.out HP
                          clear HDR2 C1 C2 C3 HL4 HPUT HP
                          go_wp2
                          exact ⟨⟨k + 1 + 1, { st with es := st.es ++ [⟨l, nb⟩], last := nb }, _, hl2, by go_num, by show Value.bool true = Value.bool st.reset; rw [hrs], HOK.out, HI2.out, HM10.out⟩, by simp [intOf]; omega⟩
                · go_wp2_with fail
                  refine (DEC _).mono ?_
                  rintro e w3 ⟨v3, rfl, i3, b3⟩
                  have D := d_any (zs := (Dec.decT y.size y).1) (by omega) i3
                  have HM3 : Hid (StM _ _ _ _ _ _ _ _) := HM.out.step b3
                  have hw3 : Hid (w2.heap.size + 1 + 1 ≤ w3.heap.size) := by show _ ≤ _; have := b3.size; omega
                  clear DEC HM q0 q1 q2 r0 r1 r2 f2 fr hcx hcy hbe l1 l2 l3 b3 i3
                  go_wp2_with fail
                  refine D.mono ?_
                  rintro e w4 ⟨v4, rfl, i4, b4⟩
                  have HM4 : Hid (StM _ _ _ _ _ _ _ _) := HM3.out.step b4
                  have i4b := ints_low2 i4 hw3.out
                  clear D HM3 b4 hw3 i4
                  generalize hl4 : nD (Dec.decT y.size y).1 = l at *
                  have HL4 : Hid _ := hl4
                  clear hl4
                  obtain ⟨a4, c4, rfl⟩ : ∃ a c, v4 = .slice a l.length c := by
                    rcases i4b.form with ⟨rfl, rfl⟩ | ⟨g, cap, rfl, _, _⟩
                    · exact ⟨_, _, rfl⟩
                    · exact ⟨_, _, rfl⟩
                  have RN := runes3_any (by omega) i4b
                  go_wp2_with fail
                  refine RN.mono ?_
                  rintro e w5 ⟨rfl, b5⟩
                  have HM5 : Hid (StM _ _ _ _ _ _ _ _) := HM4.out.step b5
                  have I5 : Hid (Ints _ _ _ _) := i4b.below b5
                  clear RN HM4 b5 i4b
                  cases hro : runesOk l
                  · have HERR : Hid (ans = .error 2) := by show _ = _; rw [← HDR2.out, readW_onee C1.out C2.out C3.out hyl (by rw [HL4.out]; exact putIn_bad hro)]
                    have hbe := HM5.out.be
                    obtain ⟨⟨l1, l2, l3⟩, ⟨q0, q1, q2⟩, ⟨r0, r1, r2⟩, ⟨e0, e1, e2, e3⟩, f2, fr, fl⟩ := HM5.out.rb
                    have lb2 : w.heap.size < w5.heap.size := by omega
                    have lbr : w2.heap.size < w5.heap.size := by omega
                    clear HDR2 HM5 C1 C2 C3 I5 HL4
                    go_wp2
                    refine bodyPost_ret (v := zeroRules 2) ?_ rfl (rdPost_err HERR.out (below_res3 hbe _ _ _))
                    rw [results_cell_tmp rfl]
                    unfold zeroRules
                    go_simp
                  · have hll := runesOk_len hro
                    have hrl : ∀ e ∈ st.es, e.runes.length ≤ 1048576 := fun e he => Nat.le_trans (runesOk_len ((rulesOk_whole HI.out.good).2.2 e he).1) (by omega)
                    have hel : st.es.length ≤ 40 := (rulesOk_whole HI.out.good).1
                    cases hrs : st.reset
                    · have HERR : Hid (ans = .error 3) := by show _ = _; rw [← HDR2.out, readW_onee C1.out C2.out C3.out hyl (by rw [HL4.out]; exact putIn_first hro (by omega) hrs)]
                      have hbe := HM5.out.be
                      obtain ⟨⟨l1, l2, l3⟩, ⟨q0, q1, q2⟩, ⟨r0, r1, r2⟩, ⟨e0, e1, e2, e3⟩, f2, fr, fl⟩ := HM5.out.rb
                      have lb2 : w.heap.size < w5.heap.size := by omega
                      have lbr : w2.heap.size < w5.heap.size := by omega
                      clear HDR2 HM5 C1 C2 C3 I5 HL4 hrl
                      go_wp2
                      refine bodyPost_ret (v := zeroRules 3) ?_ rfl (rdPost_err HERR.out (below_res3 hbe _ _ _))
                      rw [results_cell_tmp rfl]
                      unfold zeroRules
                      go_simp
                    · have AT := at3_any (sh := st.sh) (lv := st.lv) HM5.out.en I5.out (by omega) (by omega) hrl
                      clear hrl
                      have hbe := HM5.out.be
                      obtain ⟨⟨l1, l2, l3⟩, ⟨q0, q1, q2⟩, ⟨r0, r1, r2⟩, ⟨e0, e1, e2, e3⟩, f2, fr, fl⟩ := HM5.out.rb
                      have lb2 : w.heap.size < w5.heap.size := by omega
                      have lbr : w2.heap.size < w5.heap.size := by omega
                      go_wp2_with fail
                      refine AT.mono ?_
                      rintro e w6 ⟨rfl, b6⟩
                      have HM6 : Hid (StM _ _ _ _ _ _ _ _) := HM5.out.step b6
                      have I6 : Hid (Ints _ _ _ _) := I5.out.below b6
                      clear q0 q1 q2 r0 r1 r2 e0 e1 e2 e3 f2 fr fl hbe l1 l2 l3 lb2 lbr
                      clear AT HM5 I5 b6
                      have hbe := HM6.out.be
                      obtain ⟨⟨l1, l2, l3⟩, ⟨q0, q1, q2⟩, ⟨r0, r1, r2⟩, ⟨e0, e1, e2, e3⟩, f2, fr, fl⟩ := HM6.out.rb
                      have lb2 : w.heap.size < w6.heap.size := by omega
                      have lbr : w2.heap.size < w6.heap.size := by omega
                      by_cases hat : 0 ≤ atE st.es l
                      · have HERR : Hid (ans = .error 4) := by show _ = _; rw [← HDR2.out, readW_onee C1.out C2.out C3.out hyl (by rw [HL4.out]; exact putIn_twice hro (by omega) hrs hat)]
                        clear HDR2 HM6 C1 C2 C3 I6 HL4
                        go_wp2
                        refine bodyPost_ret (v := zeroRules 4) ?_ rfl (rdPost_err HERR.out (below_res3 hbe _ _ _))
                        rw [results_cell_tmp rfl]
                        unfold zeroRules
                        go_simp
                      · have BH := behind_any (sh := st.sh) (lv := st.lv) (n := 3) HM6.out.en HI.out (by omega)
                        have HPUT := putIn_put (lev := 3) hro (by omega) hrs hat
                        obtain ⟨nb, HNB⟩ : ∃ nb, Hid (behindE st.es st.last 3 = nb) := ⟨_, rfl⟩
                        rw [HNB.out] at BH HPUT
                        unfold elV at BH
                        go_wp2_with fail
                        refine BH.mono ?_
                        rintro e w7 ⟨rfl, b7⟩
                        have HM7 : Hid (StM _ _ _ _ _ _ _ _) := HM6.out.step b7
                        have I7 : Hid (Ints _ _ _ _) := I6.out.below b7
                        clear q0 q1 q2 r0 r1 r2 e0 e1 e2 e3 f2 fr fl hbe l1 l2 l3 lb2 lbr
                        clear BH HM6 I6 b7
                        have hM8 := HM7.out.setLast nb st.reset
                        have i8 : Ints (setEl w7 (w2.heap.size + 1) nb) _ _ _ := World.ownsRow.kept I7.out (setEl_grown w7 (w2.heap.size + 1) nb) (own_above I7.out (Nat.le_refl _))
                        have hbe := HM7.out.be
                        obtain ⟨⟨l1, l2, l3⟩, ⟨q0, q1, q2⟩, ⟨r0, r1, r2⟩, ⟨e0, e1, e2, e3⟩, f2, fr, fl⟩ := HM7.out.rb
                        have lb2 : w.heap.size < w7.heap.size := by omega
                        have lbr : w2.heap.size < w7.heap.size := by omega
                        obtain ⟨xs, hxl, h1, h2⟩ := hM8.en
                        have HM8 : Hid (StM _ _ _ _ _ _ _ _) := hM8
                        have H2 : Hid _ := h2
                        have I8 : Hid (Ints _ _ _ _) := i8
                        obtain ⟨it, hit, hzz, hz1, hz2⟩ := info_parts info_ent
                        clear HM7 I7 hM8 h2 i8 hbe
                        go_wp2_with (at_builtin; refine wpList_append_lies _ rfl _ _ 23 rfl (w2.heap.size + 1 + 1) 74 it _ 5 56 Tryz.underlying23 hit hzz hz1 hz2 rfl (by decide) _ _ _ rfl (h1.alloc _) ⟨w7.heap.size, 0, none⟩ 1 1 (entC (.slice a4 l.length c4) nb) rfl rfl (cells5_at _ _ _ _ _ (by simp)) ?hone (by omega) (by unfold maxLen; omega) (by omega) (by simp; omega) (w7.heap.size + 1) (by simp) ?_)
                        case hone =>
                          intro z hz
                          simp [entC] at hz
                          rcases hz with rfl | rfl | rfl | rfl | rfl <;> rfl
                        intro g9 cap9 w9 ho9 hg9 _ _
                        have hMp := StM.put (l := l) (HM8.out.step ((Below.refl _ _).alloc (Nat.le_refl _) (.cells #[.slice a4 l.length c4, .int .i64 nb.first, .int .i64 nb.second, .int .i64 nb.third, .bool nb.varies] 74))) hxl
                          (fun kk ee he => by obtain ⟨z, hz, hzi⟩ := H2.out kk ee he; exact ⟨z, hz, hzi.below ((Below.refl _ _).alloc (Nat.le_refl _) _)⟩) (I8.out.below ((Below.refl _ _).alloc (Nat.le_refl _) _)) (h1.alloc _) hg9 ho9
                        have HM9 : Hid (StM _ _ _ _ _ _ _ _) := hMp
                        have hr9 : ∀ e ∈ st.es ++ [⟨l, nb⟩], e.runes.length ≤ 1048576 := fun e he => by
                          rcases List.mem_append.1 he with h | h
                          · exact Nat.le_trans (runesOk_len ((rulesOk_whole HI.out.good).2.2 e h).1) (by omega)
                          · simp at h; subst h; exact Nat.le_trans hll (by omega)
                        have GR := good3_any (sh := st.sh) (lv := st.lv) hMp.en hr9
                        have rbp := (HM8.out.step ((Below.refl _ _).alloc (Nat.le_refl _) (.cells #[.slice a4 l.length c4, .int .i64 nb.first, .int .i64 nb.second, .int .i64 nb.third, .bool nb.varies] 74))).rb.upTo (Below.grown (Below.refl (w2.heap.size + 1 + 1) _) hg9 (by unfold setEl; simp; omega) (fun j hj => (World.ownsRow.lt h1 j hj).1)) (Nat.lt_succ_self _)
                        clear q0 q1 q2 r0 r1 r2 e0 e1 e2 e3 f2 fr fl hMp HM8 H2 I8 h1 hg9 ho9 hr9
                        obtain ⟨⟨l1', l2', l3'⟩, ⟨q0, q1, q2⟩, ⟨r0, r1, r2⟩, ⟨e0, e1, e2, e3⟩, f2, fr, fl⟩ := rbp
                        go_wp2_with fail
                        refine GR.mono ?_
                        rintro e w10 ⟨rfl, b10⟩
                        have HM10 : Hid (StM _ _ _ _ _ _ _ _) := HM9.out.step b10
                        clear q0 q1 q2 r0 r1 r2 e0 e1 e2 e3 f2 fr fl GR HM9 l1 l2 l3 lb2 lbr l1' l2' l3' b10
                        cases hgd : rulesOk (st.es ++ [⟨l, nb⟩]) st.lv
                        · have HERR : Hid (ans = .error 5) := by show _ = _; rw [← HDR2.out, readW_onee C1.out C2.out C3.out hyl (by rw [HL4.out, HPUT, if_neg (by simp [hgd])])]
                          have hbe := HM10.out.be
                          obtain ⟨⟨l1, l2, l3⟩, ⟨q0, q1, q2⟩, ⟨r0, r1, r2⟩, ⟨e0, e1, e2, e3⟩, f2, fr, fl⟩ := HM10.out.rb
                          clear HDR2 C1 C2 C3 HL4 HPUT HM10
                          go_wp2
                          refine bodyPost_ret (v := zeroRules 5) ?_ rfl (rdPost_err HERR.out (below_res3 hbe _ _ _))
                          rw [results_cell_tmp rfl]
                          unfold zeroRules
                          go_simp
                        · have HP : putIn st 3 l = .ok { st with es := st.es ++ [⟨l, nb⟩], last := nb } := by rw [HPUT, if_pos hgd]
                          have HOK : Hid (readW (ws.drop (k + 1 + 1)) { st with es := st.es ++ [⟨l, nb⟩], last := nb } = ans) := by show _ = _; rw [← HDR2.out, readW_onek C1.out C2.out C3.out hyl (by rw [HL4.out]; exact HP)]
                          have HI2 : Hid (RInv { st with es := st.es ++ [⟨l, nb⟩], last := nb }) := putIn_inv HI.out HP
                          clear HDR2 C1 C2 C3 HL4 HPUT HP
                          go_wp2
                          exact ⟨⟨k + 1 + 1, { st with es := st.es ++ [⟨l, nb⟩], last := nb }, _, hl2, by go_num, by show Value.bool true = Value.bool st.reset; rw [hrs], HOK.out, HI2.out, HM10.out⟩, by simp [intOf]; omega⟩
            · have HERR : Hid (ans = .error 2) := by show _ = _; rw [← HDR.out, drop_end (by omega), readW_one0 C1.out C2.out C3.out]
              have he : ((k : Int) + 1 == (ws.length : Int)) = true := by simp; omega
              clear HDR HM C1 C2 C3
              rcases hcs with ⟨_, d0⟩ | ⟨_, d0, d1⟩ | ⟨_, d0, d1, d2⟩ | ⟨_, d0, d1, d2, d3⟩
              · go_wp2
                refine bodyPost_ret (v := zeroRules 2) ?_ rfl (rdPost_err HERR.out (below_res3 hbe _ _ _))
                rw [results_cell_tmp rfl]
                unfold zeroRules
                go_simp
              · go_wp2
                refine bodyPost_ret (v := zeroRules 2) ?_ rfl (rdPost_err HERR.out (below_res3 hbe _ _ _))
                rw [results_cell_tmp rfl]
                unfold zeroRules
                go_simp
              · go_wp2
                refine bodyPost_ret (v := zeroRules 2) ?_ rfl (rdPost_err HERR.out (below_res3 hbe _ _ _))
                rw [results_cell_tmp rfl]
                unfold zeroRules
                go_simp
              · go_wp2
                refine bodyPost_ret (v := zeroRules 2) ?_ rfl (rdPost_err HERR.out (below_res3 hbe _ _ _))
                rw [results_cell_tmp rfl]
                unfold zeroRules
                go_simp
        · have C1 : Hid _ := c1
          have C2 : Hid _ := c2
          unfold wShift at c1
          unfold wLevels at c2
          by_cases hl2 : k + 1 < ws.length
          · obtain ⟨y, hy⟩ : ∃ y, ws[k + 1]? = some y := ⟨_, List.getElem?_eq_getElem hl2⟩
            have hcy := HM.out.sr.cell (k + 1) y hy
            have HDR2 : Hid (readW (x :: y :: ws.drop (k + 1 + 1)) st = ans) := by show _ = _; rw [← drop_at hy]; exact HDR.out
            have he : ((k : Int) + 1 == (ws.length : Int)) = false := by simp; omega
            have hk9 : (k : Int) + 1 < (ws.length : Int) := by omega
            clear hy HDR
            by_cases z0 : y.size = 2
            · have z0' : ((y.size : Int) != 2) = false := by simp; omega
              have y0 : 0 < y.size := by omega
              have y1 : 1 < y.size := by omega
              have E0 := Dec.bt_get y 0 y0
              have E1 := Dec.bt_get y 1 y1
              have i3 : (y[0]'y0).toNat < 256 := (y[0]'y0).toNat_lt
              have i4 : (y[1]'y1).toNat < 256 := (y[1]'y1).toNat_lt
              by_cases z1 : 49 ≤ Dec.bt y 0
              · have i0 : ¬ ((y[0]'y0).toNat : Int) < 49 := by omega
                by_cases z2 : Dec.bt y 0 ≤ 52
                · have i1 : ¬ (52 : Int) < ((y[0]'y0).toNat : Int) := by omega
                  by_cases z3 : Dec.bt y 1 = 93
                  · have hlv := levN_yes ⟨z0, z1, z2, z3⟩
                    rw [← E0] at hlv
                    have HOK : Hid (readW (ws.drop (k + 1 + 1)) { st with lv := ((y[0]'y0).toNat : Int) - 48 } = ans) := by show _ = _; rw [← HDR2.out, readW_levs C1.out C2.out hlv]
                    have i2 : (((y[1]'y1).toNat : Int) != 93) = false := by simp; omega
                    have HM2 : Hid (StM _ _ _ _ _ _ _ _) := HM.out.setLv (((y[0]'y0).toNat : Int) - 48)
                    have hn4 : Hid (1 ≤ ((y[0]'y0).toNat : Int) - 48 ∧ ((y[0]'y0).toNat : Int) - 48 ≤ 4) := by show _ ∧ _; omega
                    clear HDR2 z1 z2 z3 E0 E1 hlv HM hbe C1 C2
                    go_wp2
                    exact ⟨⟨k + 1 + 1, { st with lv := ((y[0]'y0).toNat : Int) - 48 }, _, hl2, by go_num, rfl, HOK.out, ⟨rulesOk_lv HI.out.good hn4.out, HI.out.f0, HI.out.f1, HI.out.s0, HI.out.s1, HI.out.t0, HI.out.t1⟩, HM2.out⟩, by simp [intOf]; omega⟩
                  · have HERR : Hid (ans = .error 2) := by show _ = _; rw [← HDR2.out, readW_levn C1.out C2.out (levN_no fun h => z3 h.2.2.2)]
                    have i2 : (((y[1]'y1).toNat : Int) != 93) = true := by simp; omega
                    clear HDR2 z1 z2 z3 E0 E1 HM C1 C2
                    go_wp2
                    refine bodyPost_ret (v := zeroRules 2) ?_ rfl (rdPost_err HERR.out (below_res3 hbe _ _ _))
                    rw [results_cell_tmp rfl]
                    unfold zeroRules
                    go_simp
                · have HERR : Hid (ans = .error 2) := by show _ = _; rw [← HDR2.out, readW_levn C1.out C2.out (levN_no fun h => z2 h.2.2.1)]
                  have i1 : (52 : Int) < ((y[0]'y0).toNat : Int) := by omega
                  clear HDR2 z1 z2 E0 E1 HM C1 C2
                  go_wp2
                  refine bodyPost_ret (v := zeroRules 2) ?_ rfl (rdPost_err HERR.out (below_res3 hbe _ _ _))
                  rw [results_cell_tmp rfl]
                  unfold zeroRules
                  go_simp
              · have HERR : Hid (ans = .error 2) := by show _ = _; rw [← HDR2.out, readW_levn C1.out C2.out (levN_no fun h => z1 h.2.1)]
                have i0 : ((y[0]'y0).toNat : Int) < 49 := by omega
                clear HDR2 z1 E0 E1 HM C1 C2
                go_wp2
                refine bodyPost_ret (v := zeroRules 2) ?_ rfl (rdPost_err HERR.out (below_res3 hbe _ _ _))
                rw [results_cell_tmp rfl]
                unfold zeroRules
                go_simp
            · have HERR : Hid (ans = .error 2) := by show _ = _; rw [← HDR2.out, readW_levn C1.out C2.out (levN_no fun h => z0 h.1)]
              have z0' : ((y.size : Int) != 2) = true := by simp; omega
              clear HDR2 z0 HM C1 C2
              go_wp2
              refine bodyPost_ret (v := zeroRules 2) ?_ rfl (rdPost_err HERR.out (below_res3 hbe _ _ _))
              rw [results_cell_tmp rfl]
              unfold zeroRules
              go_simp
          · have HERR : Hid (ans = .error 2) := by show _ = _; rw [← HDR.out, drop_end (by omega), readW_lev0 C1.out C2.out]
            have he : ((k : Int) + 1 == (ws.length : Int)) = true := by simp; omega
            clear HDR HM C1 C2
            go_wp2
            refine bodyPost_ret (v := zeroRules 2) ?_ rfl (rdPost_err HERR.out (below_res3 hbe _ _ _))
            rw [results_cell_tmp rfl]
            unfold zeroRules
            go_simp
      · have HR2 : Hid (readW (ws.drop (k + 1)) { st with sh := true } = ans) := by
          show _ = _
          rw [← HDR.out, readW_shift c1]
        unfold wShift at c1
        have HM2 : Hid (StM _ _ _ _ _ _ _ _) := HM.out.setSh true
        clear HDR HM hbe
        go_wp2
        exact ⟨⟨k + 1, { st with sh := true }, _, hlt, by go_num, rfl, HR2.out, ⟨HI.out.good, HI.out.f0, HI.out.f1, HI.out.s0, HI.out.s1, HI.out.t0, HI.out.t1⟩, HM2.out⟩, by simp [intOf]; omega⟩
    · have hk3 : k = ws.length := by omega
      subst hk3
      have HA : Hid (ans = .ok st) := by show _ = _; rw [← HR.out, List.drop_length, readW_nil]
      have hE2 := ((((HM.out.en.grown (setCell_grown wr w.heap.size 0 (.slice ae st.es.length ce)) (by omega)).grown (setCell_grown _ w.heap.size 1 (.bool st.sh)) (by omega)).grown (setCell_grown _ w.heap.size 2 (.int .i64 st.lv)) (by omega))).low (B := w.heap.size) (by omega)
      have HE2 : Hid (Ents _ _ _ _) := hE2
      clear HR hE2 HM
      go_wp2
      refine bodyPost_ret (v := .tuple #[.agg #[.slice ae st.es.length ce, .bool st.sh, .int .i64 st.lv], .int .i64 0]) ?_ rfl ⟨_, by rw [HA.out]; rfl, by rw [HA.out]; exact HE2.out, below_res3 hbe _ _ _⟩
      rw [results_cell_tmp rfl]
      go_simp

theorem read_any (s : ByteArray) (w : World) (hs : s.size ≤ 1073741824) : Calls Tryz.prog 27 #[.string s] w fun e w' => RdPost w (readA s) e w' := by
  by_cases h : 300 < s.size
  · exact read_long s w h hs
  · exact read_short s w (by omega)
end Go.Proofs.YtinjldagfhbioaaGreatDoor

namespace Go.Proofs.YtinjldagfhbioaaGreatDoor
open Go.RowKit

theorem readW_inv : ∀ (n : Nat) (ws : List ByteArray), ws.length ≤ n → ∀ st st', RInv st → readW ws st = .ok st' → RInv st' := by
  intro n
  induction n with
  | zero =>
    intro ws hn st st' hi h
    have : ws = [] := List.eq_nil_of_length_eq_zero (by omega)
    subst this
    rw [readW_nil] at h
    cases h
    exact hi
  | succ n ih =>
    intro ws hn st st' hi h
    cases ws with
    | nil => rw [readW_nil] at h; cases h; exact hi
    | cons x ws =>
      have hn' : ws.length ≤ n := by simpa using hn
      cases c1 : (x.toList == wShift)
      · cases c2 : (x.toList == wLevels)
        · cases c3 : levOf x with
          | none => rw [readW_none c1 c2 c3] at h; cases h
          | some lev => cases ws with
            | nil => rw [readW_one0 c1 c2 c3] at h; cases h
            | cons y ws =>
              by_cases h4 : 200 < y.size
              · rw [readW_onel c1 c2 c3 h4] at h; cases h
              · cases h5 : putIn st lev (nD (Dec.decT y.size y).1) with
                | error c => rw [readW_onee c1 c2 c3 h4 h5] at h; cases h
                | ok st2 =>
                  rw [readW_onek c1 c2 c3 h4 h5] at h
                  exact ih ws (by simp at hn'; omega) st2 st' (putIn_inv hi h5) h
        · cases ws with
          | nil => rw [readW_lev0 c1 c2] at h; cases h
          | cons y ws =>
            cases c3 : levN y with
            | none => rw [readW_levn c1 c2 c3] at h; cases h
            | some n4 =>
              rw [readW_levs c1 c2 c3] at h
              have hb : 1 ≤ n4 ∧ n4 ≤ 4 := by
                unfold levN at c3
                split at c3
                · cases c3; omega
                · cases c3
              exact ih ws (by simp at hn'; omega) { st with lv := n4 } st' ⟨rulesOk_lv hi.good hb, hi.f0, hi.f1, hi.s0, hi.s1, hi.t0, hi.t1⟩ h
      · rw [readW_shift c1] at h
        exact ih ws hn' { st with sh := true } st' ⟨hi.good, hi.f0, hi.f1, hi.s0, hi.s1, hi.t0, hi.t1⟩ h

theorem readA_bd (s : ByteArray) : (readA s).es.length ≤ 40 ∧ ∀ e ∈ (readA s).es, e.runes.length ≤ 4 := by
  unfold readA
  split
  · exact ⟨by simp, by simp⟩
  · cases h : readW (words s) rs0 with
    | error c => exact ⟨by simp [raOf], by simp [raOf]⟩
    | ok st =>
      have hi := readW_inv _ _ (Nat.le_refl _) rs0 st rinv0 h
      have hp := rulesOk_whole hi.good
      exact ⟨hp.1, fun e he => runesOk_len (hp.2.2 e he).1⟩
end Go.Proofs.YtinjldagfhbioaaGreatDoor

namespace Go.Proofs.YtinjldagfhbioaaGreatDoor
open Go.RowKit

/-- What a draw of rules gives. -/
def DrewR (w : World) (B b k : Nat) (e : Ending) (w' : World) : Prop :=
  ∃ v es sh lv, e = .returned (.agg #[v, .bool sh, .int .i64 lv]) ∧ Ents w' w.heap.size v es ∧ (∀ e ∈ es, e.runes.length ≤ 5) ∧ Moved w w' B b k 200

/-- The rules' box in memory, the box of the result before it, the cursor, and what has grown since the box was made. -/
structure RlS (w4 u : World) (B b k g2 g3 : Nat) (v : Value) (sh : Bool) (lv : Int) : Prop where
  lt : b < g2 ∧ B ≤ g2 ∧ g2 < g3 ∧ w4.heap.size ≤ g3 ∧ g3 < u.heap.size
  c2 : u.cell? ⟨g2, 0, none⟩ = some (.slice none 0 0) ∧ u.cell? ⟨g2, 1, none⟩ = some (.bool false) ∧ u.cell? ⟨g2, 2, none⟩ = some (.int .i64 0)
  c3 : u.cell? ⟨g3, 0, none⟩ = some v ∧ u.cell? ⟨g3, 1, none⟩ = some (.bool sh) ∧ u.cell? ⟨g3, 2, none⟩ = some (.int .i64 lv)
  f2 : ∀ j, u.frozen? ⟨g2, j, none⟩ = false
  f3 : ∀ j, u.frozen? ⟨g3, j, none⟩ = false
  t3 : ∃ cs, u.heap[g3]? = some (.cells cs 25 (0, 0))
  cur : Cur u B b k
  gr : w4.grownBy u (some b)

theorem frozen_block {u u' : World} {g : Nat} (h : u'.heap[g]? = u.heap[g]?) (j : Nat) : u'.frozen? ⟨g, j, none⟩ = u.frozen? ⟨g, j, none⟩ := by
  simp only [World.frozen?, h]

theorem RlS.moved {w4 u u' : World} {B b k g2 g3 : Nat} {v : Value} {sh : Bool} {lv : Int} (h : RlS w4 u B b k g2 g3 v sh lv) {m : Nat} (hm : Moved u u' B b k m) : ∃ k', k' ≤ k + m ∧ RlS w4 u' B b k' g2 g3 v sh lv := by
  obtain ⟨⟨k', hk', hC⟩, hg⟩ := hm
  obtain ⟨l0, l1, l2, l3, l4⟩ := h.lt
  have e2 := hg.block g2 (by omega) (fun e => by have := Option.some.inj e; omega)
  have e3 := hg.block g3 l4 (fun e => by have := Option.some.inj e; omega)
  have k2 : ∀ j, u'.cell? ⟨g2, j, none⟩ = u.cell? ⟨g2, j, none⟩ := fun j => World.cell?_of_block (w := u) e2
  have k3 : ∀ j, u'.cell? ⟨g3, j, none⟩ = u.cell? ⟨g3, j, none⟩ := fun j => World.cell?_of_block (w := u) e3
  refine ⟨k', hk', ⟨l0, l1, l2, l3, Nat.lt_of_lt_of_le l4 hg.size⟩, ?_, ?_, fun j => by rw [frozen_block e2]; exact h.f2 j, fun j => by rw [frozen_block e3]; exact h.f3 j, by rw [e3]; exact h.t3, hC, grown_and h.gr hg⟩
  · rw [k2, k2, k2]; exact h.c2
  · rw [k3, k3, k3]; exact h.c3

theorem RlS.below {w4 u u' : World} {B b k g2 g3 : Nat} {v : Value} {sh : Bool} {lv : Int} (h : RlS w4 u B b k g2 g3 v sh lv) (hb : Below u.heap.size u u') : RlS w4 u' B b k g2 g3 v sh lv := by
  obtain ⟨l0, l1, l2, l3, l4⟩ := h.lt
  have e2 := hb.block g2 (by omega)
  have e3 := hb.block g3 l4
  have k2 : ∀ j, u'.cell? ⟨g2, j, none⟩ = u.cell? ⟨g2, j, none⟩ := fun j => World.cell?_of_block (w := u) e2
  have k3 : ∀ j, u'.cell? ⟨g3, j, none⟩ = u.cell? ⟨g3, j, none⟩ := fun j => World.cell?_of_block (w := u) e3
  refine ⟨⟨l0, l1, l2, l3, Nat.lt_of_lt_of_le l4 hb.size⟩, ?_, ?_, fun j => by rw [frozen_block e2]; exact h.f2 j, fun j => by rw [frozen_block e3]; exact h.f3 j, by rw [e3]; exact h.t3, h.cur.kept (below_grows hb none) (fun k hk => by cases hk), grown_and h.gr (below_grows hb (some b))⟩
  · rw [k2, k2, k2]; exact h.c2
  · rw [k3, k3, k3]; exact h.c3

theorem RlS.set {w4 u : World} {B b k g2 g3 : Nat} {v v' : Value} {sh sh' : Bool} {lv lv' : Int} (h : RlS w4 u B b k g2 g3 v sh lv) (i : Nat) (x : Value)
    (hc : (u.setCell ⟨g3, i, none⟩ x).cell? ⟨g3, 0, none⟩ = some v' ∧ (u.setCell ⟨g3, i, none⟩ x).cell? ⟨g3, 1, none⟩ = some (.bool sh') ∧ (u.setCell ⟨g3, i, none⟩ x).cell? ⟨g3, 2, none⟩ = some (.int .i64 lv')) : RlS w4 (u.setCell ⟨g3, i, none⟩ x) B b k g2 g3 v' sh' lv' := by
  obtain ⟨l0, l1, l2, l3, l4⟩ := h.lt
  obtain ⟨a0, a1, a2⟩ := h.c2
  have hn : g3 ≠ g2 := by omega
  refine ⟨⟨l0, l1, l2, l3, by simpa [World.setCell] using l4⟩, ⟨by rw [cs_ne (.inl hn)]; exact a0, by rw [cs_ne (.inl hn)]; exact a1, by rw [cs_ne (.inl hn)]; exact a2⟩, hc, fun j => by rw [World.frozen?_setCell]; exact h.f2 j, fun j => by rw [World.frozen?_setCell]; exact h.f3 j, (by obtain ⟨cs, hcs⟩ := h.t3; exact ⟨_, heap_setCell_same u g3 i cs _ x hcs⟩), h.cur.kept (setCell_grown u g3 i x) (fun k hk => by cases hk; omega), grown_own h.gr (setCell_grown u g3 i x) (fun k hk => by cases hk; omega)⟩

theorem RlS.set0 {w4 u : World} {B b k g2 g3 : Nat} {v : Value} {sh : Bool} {lv : Int} (h : RlS w4 u B b k g2 g3 v sh lv) (v' : Value) : RlS w4 (u.setCell ⟨g3, 0, none⟩ v') B b k g2 g3 v' sh lv :=
  h.set 0 v' ⟨cs_eq h.c3.1, (cs_ne (.inr (by decide))).trans h.c3.2.1, (cs_ne (.inr (by decide))).trans h.c3.2.2⟩
theorem RlS.set1 {w4 u : World} {B b k g2 g3 : Nat} {v : Value} {sh : Bool} {lv : Int} (h : RlS w4 u B b k g2 g3 v sh lv) (sh' : Bool) : RlS w4 (u.setCell ⟨g3, 1, none⟩ (.bool sh')) B b k g2 g3 v sh' lv :=
  h.set 1 (.bool sh') ⟨(cs_ne (.inr (by decide))).trans h.c3.1, cs_eq h.c3.2.1, (cs_ne (.inr (by decide))).trans h.c3.2.2⟩
theorem RlS.set2 {w4 u : World} {B b k g2 g3 : Nat} {v : Value} {sh : Bool} {lv : Int} (h : RlS w4 u B b k g2 g3 v sh lv) (lv' : Int) : RlS w4 (u.setCell ⟨g3, 2, none⟩ (.int .i64 lv')) B b k g2 g3 v sh lv' :=
  h.set 2 (.int .i64 lv') ⟨(cs_ne (.inr (by decide))).trans h.c3.1, (cs_ne (.inr (by decide))).trans h.c3.2.1, cs_eq h.c3.2.2⟩

theorem RlS.c3_0 {w4 u : World} {B b g2 g3 : Nat} {v : Value} (h : ∃ k sh lv, RlS w4 u B b k g2 g3 v sh lv) : u.cell? ⟨g3, 0, none⟩ = some v := by obtain ⟨_, _, _, h⟩ := h; exact h.c3.1

theorem RlS.drew {w4 u : World} {B b k g2 g3 : Nat} {v : Value} {sh : Bool} {lv : Int} (h : RlS w4 u B b k g2 g3 v sh lv) : RlS w4 u.drew B b k g2 g3 v sh lv := h.below ((Below.refl _ _).drew)
theorem RlS.alloc {w4 u : World} {B b k g2 g3 : Nat} {v : Value} {sh : Bool} {lv : Int} (h : RlS w4 u B b k g2 g3 v sh lv) (o : Obj) : RlS w4 (u.alloc o) B b k g2 g3 v sh lv := h.below ((Below.refl _ _).alloc (Nat.le_refl _) o)

/-- What the draw of a list of runes gives, with the rules' boxes held. -/
theorem rl_runes {w4 u : World} {B b k g2 g3 : Nat} {v : Value} {sh : Bool} {lv : Int} (h : RlS w4 u B b k g2 g3 v sh lv) (hk : k ≤ 800000000) :
    Calls Tryz.prog 11 #[.pointer (some ⟨b, 0, none⟩), .int .i64 5] u fun e u' => ∃ (a : Option Addr) (n c : Nat) (zs : List Int) (k' : Nat), e = .returned (.slice a n c) ∧ Ints u' u.heap.size (.slice a n c) zs ∧ zs.length ≤ 5 ∧ k' ≤ k + 32 ∧ RlS w4 u' B b k' g2 g3 v sh lv ∧ u.grownBy u' (some b) := by
  refine (runes_any u B b k 5 h.cur hk (by omega)).mono ?_
  rintro e u' ⟨v', zs, rfl, hI, hz, _, hM⟩
  obtain ⟨k', hk', hS⟩ := h.moved hM
  rcases hI.form with ⟨rfl, rfl⟩ | ⟨g, cap, rfl, _, _⟩
  · exact ⟨_, _, _, _, k', rfl, hI, hz, hk', hS, hM.2⟩
  · exact ⟨_, _, _, _, k', rfl, hI, hz, hk', hS, hM.2⟩

/-- A list of four numbers in memory. -/
def Lit4 (u : World) (g : Nat) : Prop := ∀ j, j < 4 → u.cell? ⟨g, j, none⟩ = some (.int .i64 (([0, 1, 65535, 65536] : List Int)[j]?.getD 0))

theorem rl_among {w4 u : World} {B b k g2 g3 g : Nat} {v : Value} {sh : Bool} {lv : Int} (h : RlS w4 u B b k g2 g3 v sh lv) (hk : k ≤ 800000000) (hg : g < u.heap.size) (hgb : g ≠ b) (hL : Lit4 u g) :
    Calls Tryz.prog 30 #[.pointer (some ⟨b, 0, none⟩), .slice (some ⟨g, 0, none⟩) 4 4] u fun e u' => ∃ (y : Int) (k' : Nat), e = .returned (.int .i64 y) ∧ k' ≤ k + 2 ∧ RlS w4 u' B b k' g2 g3 v sh lv ∧ u.grownBy u' (some b) := by
  refine (among_any u B b k h.cur (by omega) g 4 4 [0, 1, 65535, 65536] rfl (by omega) (by omega) hg hgb hL).mono ?_
  rintro e u' ⟨x, rfl, _, hM⟩
  obtain ⟨k', hk', hS⟩ := h.moved hM
  exact ⟨x, k', rfl, hk', hS, hM.2⟩

/-- The rules laid into the result's box. -/
theorem rl_done {w w4 u : World} {B b k k' g3 B2 : Nat} {v : Value} {es : List Ent} {sh : Bool} {lv : Int} (hS : RlS w4 u B b k' w.heap.size g3 v sh lv) (hE : Ents u B2 v es) (hB2 : w.heap.size < B2) (hg : w.grownBy w4 (some b)) (hbd : ∀ e ∈ es, e.runes.length ≤ 5) (hk' : k' ≤ k + 200) :
    DrewR w B b k (.returned (.agg #[v, .bool sh, .int .i64 lv])) (((u.setCell ⟨w.heap.size, 0, none⟩ v).setCell ⟨w.heap.size, 1, none⟩ (.bool sh)).setCell ⟨w.heap.size, 2, none⟩ (.int .i64 lv)) := by
  have g := ((setCell_grown u w.heap.size 0 v).trans (setCell_grown _ w.heap.size 1 (.bool sh))).trans (setCell_grown _ w.heap.size 2 (.int .i64 lv))
  obtain ⟨l0, l1, l2, l3, l4⟩ := hS.lt
  exact ⟨v, es, sh, lv, rfl, (hE.grown g hB2).low (by omega), hbd, ⟨k', hk', hS.cur.kept g (fun k hk => by cases hk; omega)⟩, grown_own (grown_and hg hS.gr) g (fun k hk => by cases hk; omega)⟩
/-- Counted from an elder world. -/
theorem RlS.weak {w w4 u : World} {B b k g2 g3 : Nat} {v : Value} {sh : Bool} {lv : Int} (h : RlS w4 u B b k g2 g3 v sh lv) (hg : w.grownBy w4 (some b)) : RlS w u B b k g2 g3 v sh lv := by
  obtain ⟨l0, l1, l2, l3, l4⟩ := h.lt
  exact ⟨⟨l0, l1, l2, Nat.le_trans hg.size l3, l4⟩, h.c2, h.c3, h.f2, h.f3, h.t3, h.cur, grown_and hg h.gr⟩

/-- A row of its own has changed. -/
theorem RlS.row {w u u' : World} {B b k g2 g3 : Nat} {v : Value} {sh : Bool} {lv : Int} (h : RlS w u B b k g2 g3 v sh lv) {r : Option Nat} (hg : u.grownBy u' r) (hr : ∀ j, r = some j → w.heap.size ≤ j ∧ g2 < j ∧ j ≠ g3) : RlS w u' B b k g2 g3 v sh lv := by
  obtain ⟨l0, l1, l2, l3, l4⟩ := h.lt
  have e2 := hg.block g2 (by omega) (fun e => by have := hr g2 e.symm; omega)
  have e3 := hg.block g3 l4 (fun e => by have := hr g3 e.symm; omega)
  have k2 : ∀ j, u'.cell? ⟨g2, j, none⟩ = u.cell? ⟨g2, j, none⟩ := fun j => World.cell?_of_block (w := u) e2
  have k3 : ∀ j, u'.cell? ⟨g3, j, none⟩ = u.cell? ⟨g3, j, none⟩ := fun j => World.cell?_of_block (w := u) e3
  refine ⟨⟨l0, l1, l2, l3, Nat.lt_of_lt_of_le l4 hg.size⟩, ?_, ?_, fun j => by rw [frozen_block e2]; exact h.f2 j, fun j => by rw [frozen_block e3]; exact h.f3 j, by rw [e3]; exact h.t3, h.cur.kept hg (fun j hj => by have := hr j hj; omega), grown_own h.gr hg (fun j hj => (hr j hj).1)⟩
  · rw [k2, k2, k2]; exact h.c2
  · rw [k3, k3, k3]; exact h.c3

/-- A row is none of the boxes of another type. -/
theorem own_box {u : World} {B e size n b t : Nat} {v : Value} {xs : List Value} {cs : Array Value} (h : u.ownsRow B e size v n xs) (hb : u.heap[b]? = some (.cells cs t (0, 0))) (he : e ≠ t) : v.ownBlock = none ∨ v.ownBlock ≠ some b := by
  rcases h.2 with ⟨rfl, _⟩ | ⟨g, cap, cur, rfl, _, hg, _⟩
  · exact .inl rfl
  · refine .inr fun c => ?_
    have : g = b := Option.some.inj c
    subst this
    rw [hg] at hb
    injection hb with e1
    injection e1 with _ e2 _
    exact he e2

theorem Ents.box {u u' : World} {B b : Nat} {v : Value} {es : List Ent} {cs : Array Value} (h : Ents u B v es) (hb : u.heap[b]? = some (.cells cs 25 (0, 0))) (hg : u.grownBy u' (some b)) : Ents u' B v es := by
  obtain ⟨xs, hl, h1, h2⟩ := h
  refine ⟨xs, hl, World.ownsRow.kept h1 hg (own_box h1 hb (by decide)), fun k e he => ?_⟩
  obtain ⟨x, hx, hI⟩ := h2 k e he
  exact ⟨x, hx, World.ownsRow.kept hI hg (own_box hI hb (by decide))⟩

theorem lit_new {u W : World} (h : W.heap = (u.alloc (.cells #[.int .i64 0, .int .i64 1, .int .i64 65535, .int .i64 65536] 3)).heap) : Lit4 W u.heap.size := by
  intro j hj
  have e : W.cell? ⟨u.heap.size, j, none⟩ = (u.alloc (.cells #[.int .i64 0, .int .i64 1, .int .i64 65535, .int .i64 65536] 3)).cell? ⟨u.heap.size, j, none⟩ := World.cell?_of_block (by rw [h])
  rw [e, World.cell?_alloc_new]
  match j, hj with
  | 0, _ => rfl
  | 1, _ => rfl
  | 2, _ => rfl
  | 3, _ => rfl

theorem lit_old {u U W' W : World} {b : Nat} (hU : U.heap = (u.alloc (.cells #[.int .i64 0, .int .i64 1, .int .i64 65535, .int .i64 65536] 3)).heap) (hg : U.grownBy W' (some b)) (hb : u.heap.size ≠ b) (hW : W.heap = W'.heap) : Lit4 W u.heap.size := by
  intro j hj
  have l : u.heap.size < U.heap.size := by rw [hU]; simp
  have e : W.cell? ⟨u.heap.size, j, none⟩ = U.cell? ⟨u.heap.size, j, none⟩ := World.cell?_of_block (by rw [hW]; exact hg.block _ l (fun e => hb (Option.some.inj e)))
  rw [e]
  exact lit_new hU j hj
theorem own_heap {u W : World} {B e n size : Nat} {v : Value} {xs : List Value} (h : u.ownsRow B e size v n xs) (o : Obj) (he : W.heap = (u.alloc o).heap) : W.ownsRow B e size v n xs := by
  have := World.ownsRow.alloc h o
  unfold World.ownsRow at this ⊢
  rw [he]; exact this

theorem ints_go {w6 W w7 : World} {X B2 b : Nat} {v : Value} {zs : List Int} (i6 : Ints w6 X v zs) (hX : B2 ≤ X) (hb : b < B2) (hW : Below w6.heap.size w6 W) (g7 : W.grownBy w7 (some b)) : Ints w7 B2 v zs :=
  have i := (ints_low2 i6 hX).below hW
  World.ownsRow.kept i g7 (ints_ne i hb)

/-- An entry put behind the others, the rules' box told of it, and the whole laid into the result's box. -/
theorem rl_put {w w4 w7 W w9 : World} {B b k k7 B2 g9 cap9 : Nat} {v x : Value} {es : List Ent} {xs : List Value} {zs : List Int} {y : El} {sh : Bool} {lv : Int}
    (S7 : RlS w4 w7 B b k7 w.heap.size w4.heap.size v sh lv) (hg : w.grownBy w4 (some b)) (hB2 : w.heap.size < B2) (hbd : ∀ e ∈ es, e.runes.length ≤ 5) (hz : zs.length ≤ 5) (hk : k7 ≤ k + 200)
    (hl : xs.length = es.length) (ho : w7.ownsRow B2 74 5 v es.length (entAll xs es)) (hx : ∀ (k : Nat) (e : Ent), es[k]? = some e → ∃ x, xs[k]? = some x ∧ Ints w7 B2 x e.runes) (hI : Ints w7 B2 x zs)
    (hW : Below w7.heap.size w7 W) (h9 : W.grownBy w9 v.ownBlock) (ho9 : w9.ownsRow B2 74 5 (.slice (some ⟨g9, 0, none⟩) (es.length + 1) cap9) (es.length + 1) (entAll xs es ++ entC x y)) :
    RlS w w9 B b k7 w.heap.size w4.heap.size v sh lv ∧ DrewR w B b k (.returned (.agg #[.slice (some ⟨g9, 0, none⟩) (es.length + 1) cap9, .bool sh, .int .i64 lv])) ((((w9.setCell ⟨w4.heap.size, 0, none⟩ (.slice (some ⟨g9, 0, none⟩) (es.length + 1) cap9)).setCell ⟨w.heap.size, 0, none⟩ (.slice (some ⟨g9, 0, none⟩) (es.length + 1) cap9)).setCell ⟨w.heap.size, 1, none⟩ (.bool sh)).setCell ⟨w.heap.size, 2, none⟩ (.int .i64 lv)) := by
  obtain ⟨cs, hcs⟩ := S7.t3
  have S9 : RlS w w9 B b k7 w.heap.size w4.heap.size v sh lv := ((S7.weak hg).below hW).row h9 (fun j hj => by
    have h1 := (World.ownsRow.lt ho j hj).1
    refine ⟨by omega, by omega, fun c => ?_⟩
    subst c
    rcases own_box ho hcs (by decide) with h | h
    · rw [h] at hj; cases hj
    · exact h hj)
  refine ⟨S9, ?_⟩
  have hoW : W.ownsRow B2 74 5 v es.length (entAll xs es) := World.ownsRow.kept ho (below_grows hW none) (Classical.em _)
  have hE9 : Ents w9 B2 (.slice (some ⟨g9, 0, none⟩) (es.length + 1) cap9) (es ++ [⟨zs, y⟩]) := Ents.snoc (e := ⟨zs, y⟩) hl (fun k e he => by obtain ⟨z, hz, hzi⟩ := hx k e he; exact ⟨z, hz, hzi.below hW⟩) (hI.below hW) hoW h9 ho9
  obtain ⟨cs9, hcs9⟩ := S9.t3
  have S10 := S9.set0 (.slice (some ⟨g9, 0, none⟩) (es.length + 1) cap9)
  refine rl_done S10 (hE9.box hcs9 (setCell_grown _ _ _ _)) hB2 (below_grows (Below.refl _ _) (some b)) (fun e he => ?_) hk
  rcases List.mem_append.1 he with h | h
  · exact hbd e h
  · simp at h; subst h; exact hz
end Go.Proofs.YtinjldagfhbioaaGreatDoor

namespace Go.Proofs.YtinjldagfhbioaaGreatDoor
open Go.RowKit

theorem lit_old2 {u U W' W : World} {b : Nat} (hg : U.grownBy W' (some b)) (hU : U.heap = (u.alloc (.cells #[.int .i64 0, .int .i64 1, .int .i64 65535, .int .i64 65536] 3)).heap) (hb : u.heap.size ≠ b) (hW : W.heap = W'.heap) : Lit4 W u.heap.size := lit_old hU hg hb hW

set_option maxRecDepth 100000 in
set_option maxHeartbeats 4000000 in
theorem rules_any (w : World) (B b k : Nat) (h : Cur w B b k) (hk : k ≤ 600000000) :
    Calls Tryz.prog 9 #[.pointer (some ⟨b, 0, none⟩)] w fun e w' => DrewR w B b k e w' := by
  have hl := h.lt
  have ga := World.grownBy_alloc w (.cells #[.slice none 0 0, .bool false, .int .i64 0] 25) (some b)
  have hz : (w.alloc (.cells #[.slice none 0 0, .bool false, .int .i64 0] 25)).heap[w.heap.size]? = some (.cells #[.slice none 0 0, .bool false, .int .i64 0] 25) := heap_alloc_new w _
  have hC := h.kept (World.grownBy_alloc w (.cells #[.slice none 0 0, .bool false, .int .i64 0] 25) none) (fun k hk => by cases hk)
  have RT := ruleText_any _ B b k hC (by omega)
  have HZ : Hid _ := hz
  have HG : Hid _ := ga
  clear h hC hz ga
  go_enter Tryz.func9, Tryz.ntmps9
  go_wp2_with fail
  refine RT.mono ?_
  rintro e w2 ⟨s, rfl, hs, ⟨⟨k2, hk2, hC2⟩, hg2⟩⟩
  have RR := read_any s w2 (by omega)
  clear RT
  go_wp2_with fail
  refine RR.mono ?_
  rintro e w4 ⟨vE, rfl, e4, b4⟩
  clear RR
  obtain ⟨va, vc, rfl⟩ := ents_slice e4
  have hbd := (readA_bd s).2
  have HB4 : Hid (∀ e ∈ (readA s).es, e.runes.length ≤ 5) := fun e he => Nat.le_trans (hbd e he) (by decide)
  have HEL : Hid ((readA s).es.length ≤ 40) := (readA_bd s).1
  have l2 : w.heap.size < w2.heap.size := by have := hg2.size; simp at this; omega
  have hg4 := below_grows b4 (some b)
  have HE : Hid (Ents w4 w2.heap.size _ _) := e4
  have HG4 : Hid (w.grownBy w4 (some b)) := grown_and HG.out (grown_and hg2 hg4)
  have l4 : w2.heap.size ≤ w4.heap.size := b4.size
  have HS : Hid (RlS w4 (w4.alloc (.cells #[.slice va (readA s).es.length vc, .bool (readA s).sh, .int .i64 (readA s).lv] 25)) B b k2 w.heap.size w4.heap.size (.slice va (readA s).es.length vc) (readA s).sh (readA s).lv) := by
    have hC4 := (hC2.kept (below_grows b4 none) (fun k hk => by cases hk)).kept (World.grownBy_alloc w4 (.cells #[.slice va (readA s).es.length vc, .bool (readA s).sh, .int .i64 (readA s).lv] 25) none) (fun k hk => by cases hk)
    have hn : (some w.heap.size : Option Nat) ≠ some b := fun e => by have := Option.some.inj e; omega
    have h2 : (w4.alloc (.cells #[.slice va (readA s).es.length vc, .bool (readA s).sh, .int .i64 (readA s).lv] 25)).heap[w.heap.size]? = some (.cells #[.slice none 0 0, .bool false, .int .i64 0] 25) := by
      rw [Below.heap_alloc _ _ _ (by omega), b4.block _ l2, hg2.block _ (by simp) (fun e => hn e)]
      exact HZ.out
    have h3 := heap_alloc_new w4 (.cells #[.slice va (readA s).es.length vc, .bool (readA s).sh, .int .i64 (readA s).lv] 25)
    exact ⟨⟨by omega, by omega, by omega, Nat.le_refl _, by simp⟩, ⟨cell_of_row _ _ 0 _ _ _ h2, cell_of_row _ _ 1 _ _ _ h2, cell_of_row _ _ 2 _ _ _ h2⟩, ⟨cell_of_row _ _ 0 _ _ _ h3, cell_of_row _ _ 1 _ _ _ h3, cell_of_row _ _ 2 _ _ _ h3⟩, fun j => by simp [World.frozen?, h2], fun j => by simp only [World.frozen?]; rw [h3]; simp, ⟨_, h3⟩, hC4, World.grownBy_alloc w4 _ _⟩
  clear e4 b4 hg2 hg4 hC2 hbd HG HZ hs
  generalize readA s = R at *
  obtain ⟨es, sh, lv, code⟩ := R
  go_upto_if 12 with fail
  go_cut [4] from 11 to 16 (fun _ wx => ∃ va vc es sh lv k', RlS w4 wx B b k' w.heap.size w4.heap.size (.slice va (List.length es) vc) sh lv ∧ (∀ u : World, w4.grownBy u (some b) → Ents u w2.heap.size (.slice va es.length vc) es) ∧ (∀ e ∈ es, e.runes.length ≤ 5) ∧ es.length ≤ 40 ∧ k' ≤ k + 68)
  case first =>
    obtain ⟨p0, p1, p2⟩ := HS.out.c3
    obtain ⟨q0, q1, q2⟩ := HS.out.c2
    have f2 := HS.out.f2
    have f3 := HS.out.f3
    by_cases hc : code = 0
    · subst hc
      go_wp2
      go_meet
      case rel => exact ⟨va, vc, es, sh, lv, k2, HS.out, fun u hu => HE.out.grown hu (by omega), HB4.out, HEL.out, by omega⟩
    · have PL := plain_any (w4.alloc (.cells #[.slice va es.length vc, .bool sh, .int .i64 lv] 25))
      go_wp2_with fail
      refine PL.mono ?_
      rintro e w7 ⟨rfl, b7⟩
      have S7 := HS.out.below b7
      have S8 := ((S7.set0 (.slice none 0 0)).set1 false).set2 3
      have ON := oneIn_any _ B b _ S8.cur (by omega) 2 (by omega) (by omega)
      clear PL b7 HS p0 p1 p2 q0 q1 q2 f2 f3
      have HS8 : Hid (RlS _ _ _ _ _ _ _ _ _ _) := S8
      obtain ⟨p0, p1, p2⟩ := S7.c3
      obtain ⟨q0, q1, q2⟩ := S7.c2
      have f2 := S7.f2
      have f3 := S7.f3
      clear S7 S8
      go_wp2_with fail
      refine ON.mono ?_
      rintro e w8 ⟨bo, rfl, hM⟩
      obtain ⟨k8, hk8, S9⟩ := HS8.out.moved hM
      have HS : Hid (RlS _ _ _ _ _ _ _ _ _ _) := S9.set1 bo
      clear p0 p1 p2 q0 q1 q2 f2 f3 hM ON HS8
      obtain ⟨p0, p1, p2⟩ := S9.c3
      obtain ⟨q0, q1, q2⟩ := S9.c2
      have f2 := S9.f2
      have f3 := S9.f3
      clear S9
      go_wp2
      go_meet
      case rel => exact ⟨none, 0, [], bo, 3, k8, HS.out, fun u hu => Ents.nil _ _, fun e he => (by cases he), (by simp), (by omega)⟩
  case rest =>
    clear HS HE HB4 HEL
    obtain ⟨va, vc, es, sh, lv, k2', hS, hEV, hBD, hEL, hk3⟩ := hcut
    have HS : Hid (RlS _ _ _ _ _ _ _ _ _ _) := hS
    have EV : Hid (∀ u : World, w4.grownBy u (some b) → Ents u w2.heap.size (.slice va es.length vc) es) := hEV
    have EW := hEV
    have HBD : Hid (∀ e ∈ es, e.runes.length ≤ 5) := hBD
    have HEL : Hid (es.length ≤ 40) := hEL
    obtain ⟨p0, p1, p2⟩ := hS.c3
    obtain ⟨q0, q1, q2⟩ := hS.c2
    have f2 := hS.f2
    have f3 := hS.f3
    clear hS hEV hBD hEL
    have P1 := pick_any _ B b _ HS.out.cur (by omega) 40 (by omega) (by omega)
    go_wp2_with fail
    refine P1.mono ?_
    rintro e w5 ⟨x, rfl, x0, x1, hM⟩
    obtain ⟨k5, hk5, S5⟩ := HS.out.moved hM
    clear P1 hM p0 p1 p2 q0 q1 q2 HS f2 f3
    have HS5 : Hid (RlS _ _ _ _ _ _ _ _ _ _) := S5
    have HE5 : Hid (Ents w5 _ _ _) := EW w5 S5.gr
    have HX : Hid (k5 ≤ k + 110) := by show _ ≤ _; omega
    clear EW
    obtain ⟨p0, p1, p2⟩ := S5.c3
    obtain ⟨q0, q1, q2⟩ := S5.c2
    have f2 := S5.f2
    have f3 := S5.f3
    by_cases h0 : x = 0
    · subst h0
      have A1 := among_lit w5 B b k5 S5.cur (by omega) [0, 5] 2 rfl (by omega) (by omega) _ rfl
      clear S5 x0 x1
      go_wp2_with fail
      refine A1.mono ?_
      rintro e w6 ⟨y, rfl, my, hM⟩
      obtain ⟨k6, hk6, S6⟩ := HS5.out.moved hM
      have S7 := S6.set2 y
      have HE7 : Hid (Ents _ _ _ _) := EV.out _ S7.gr
      have HD : Hid _ := rl_done (k := k) S7 HE7.out l2 HG4.out HBD.out (by have := HX.out; omega)
      obtain ⟨p0, p1, p2⟩ := S6.c3
      obtain ⟨q0, q1, q2⟩ := S6.c2
      have f2 := S6.f2
      have f3 := S6.f3
      clear A1 hM S6 S7 my
      go_wp2
      refine bodyPost_ret (v := .agg #[.slice va es.length vc, .bool sh, .int .i64 y]) ?_ rfl HD.out
      rw [results_cell1 rfl]
      go_simp
    · by_cases h1 : x = 1
      · subst h1
        clear S5
        have H25 : w2.heap.size ≤ w5.heap.size := Nat.le_trans l4 HS5.out.gr.size
        obtain ⟨it, hit, hzz, hz1, hz2⟩ := info_parts info_ent
        have hel := HEL.out
        have l5c := HS5.out.lt.2.2.2.2
        clear x0 x1 q0 q1 q2 p1 p2
        go_wp2_with fail
        go_region_law
          (first
            | (refine step_append_lies _ rfl (.tmp 28) (.tmp 36) 23 rfl w2.heap.size 74 it _ 5 56 Tryz.underlying23 hit hzz hz1 hz2 rfl (by decide) (.slice va es.length vc) es.length (entAll xs es) (by simp [Act.eval]) (own_heap ho7 _ rfl) ⟨w7.heap.size, 0, none⟩ 1 1 (entC (.slice a6 n6 c6) ⟨y, 32, 2, false⟩) (by simp [Act.eval]) rfl (cells5_new w7 (.slice a6 n6 c6) ⟨y, 32, 2, false⟩ _) (fun z hz => by simp [entC] at hz; rcases hz with rfl | rfl | rfl | rfl | rfl <;> rfl) (by omega) (by unfold maxLen; omega) (by omega) (by have := S7.gr.size; simp; omega) (w7.heap.size + 1) (by simp) ?_; intro g9 cap9 w9 ho9 hg9 hgg9 hlt9; obtain ⟨S9, D9⟩ := rl_put (k := k) S7 HG4.out l2 HBD.out hz6 (by have := HX.out; omega) hxl ho7 hx7 i7 (by repeat (first | with_reducible exact Below.refl _ _ | with_reducible refine Below.drew ?_ | with_reducible refine Below.alloc ?_ (by first | omega | (simp; done) | (simp; omega)) _)) hg9 ho9; have kc := S9.c3.1; have kf := S9.f3)
            | (go_simp; go_at_call 11; refine (rl_runes (w4 := w4) (B := B) (b := b) (k := k5) (g2 := w.heap.size) (g3 := w4.heap.size) (v := .slice va es.length vc) (sh := sh) (lv := lv) (by repeat (first | with_reducible exact HS5.out | with_reducible refine RlS.drew ?_ | with_reducible refine RlS.alloc ?_ _)) (by omega)).mono ?_; rintro e w6 ⟨a6, n6, c6, zs, k6, rfl, i6, hz6, hk6, S6, g6⟩; have k6c := S6.c3.1; have l6c := S6.lt.2.2.2.2)
            | (go_simp; go_at_call 30; refine Calls.mono (rl_among (w4 := w4) (B := B) (b := b) (k := k6) (g2 := w.heap.size) (g3 := w4.heap.size) (v := .slice va es.length vc) (sh := sh) (lv := lv) ?_ ?_ ?_ ?_ ?_) ?_
               · repeat (first | with_reducible exact S6 | with_reducible refine RlS.drew ?_ | with_reducible refine RlS.alloc ?_ _)
               · omega
               · have := g6.size; first | (simp; done) | (simp at *; omega) | omega
               · have := S6.lt; have := HS5.out.lt; omega
               · first
                   | with_reducible exact lit_new rfl
                   | (refine lit_old2 g6 ?_ ?_ ?_
                      · rfl
                      · have := HS5.out.lt; omega
                      · rfl)
                   | exact lit_new rfl
               rintro e w7 ⟨y, k7, rfl, hk7, S7, g7⟩
               have i7 : Ints w7 w2.heap.size (.slice a6 n6 c6) zs := ints_go i6 (Nat.le_trans H25 (Below.size (B := w5.heap.size) (by repeat (first | with_reducible exact Below.refl _ _ | with_reducible refine Below.drew ?_ | with_reducible refine Below.alloc ?_ (by first | omega | (simp; done) | (simp; omega)) _)))) (by omega) (by repeat (first | with_reducible exact Below.refl _ _ | with_reducible refine Below.drew ?_ | with_reducible refine Below.alloc ?_ (by first | omega | (simp; done) | (simp; omega)) _)) g7
               obtain ⟨xs, hxl, ho7, hx7⟩ := EV.out w7 S7.gr
               have k7c := S7.c3.1
               have l7c := S7.lt.2.2.2.2))
        all_goals
          have HD : Hid _ := D9
          obtain ⟨r0, r1, r2⟩ := S9.c3
          obtain ⟨s0, s1, s2⟩ := S9.c2
          have f29 := S9.f2
          clear D9 S9 S7 S6 k6c k7c ho9 hg9 hgg9 ho7 hx7 hxl i7 i6 g6 g7 p0 f2 f3
          go_wp2
          refine bodyPost_ret (v := .agg #[.slice (some ⟨g9, 0, none⟩) (es.length + 1) cap9, .bool sh, .int .i64 lv]) ?_ rfl ?_
          · rw [results_cell1 rfl]
            go_simp
          · exact HD.out
      · have HD : Hid _ := rl_done (k := k) S5 HE5.out l2 HG4.out HBD.out (by have := HX.out; omega)
        clear S5
        go_wp2
        refine bodyPost_ret (v := .agg #[.slice va es.length vc, .bool sh, .int .i64 lv]) ?_ rfl HD.out
        rw [results_cell1 rfl]
        go_simp
end Go.Proofs.YtinjldagfhbioaaGreatDoor

namespace Go.Proofs.YtinjldagfhbioaaGreatDoor
open Go.RowKit

/-- Bytes that came in. -/
def Came (w : World) (a : Option Addr) (n : Nat) : Prop :=
  n = 0 ∨ ∃ cb off, a = some ⟨cb, off, none⟩ ∧ cb < w.heap.size ∧ ∀ j, j < n → ∃ x : Int, 0 ≤ x ∧ x ≤ 255 ∧ w.cell? ⟨cb, off + j, none⟩ = some (.int .u8 x)

theorem Came.below {w w' : World} {a : Option Addr} {n : Nat} (h : Came w a n) (hb : Below w.heap.size w w') : Came w' a n := by
  rcases h with h | ⟨cb, off, rfl, h1, h2⟩
  · exact .inl h
  · refine .inr ⟨cb, off, rfl, Nat.lt_of_lt_of_le h1 hb.size, fun j hj => ?_⟩
    obtain ⟨x, x0, x1, hx⟩ := h2 j hj
    exact ⟨x, x0, x1, by rw [hb.cell (p := ⟨cb, off + j, none⟩) h1]; exact hx⟩

theorem cur_new (w : World) (a : Option Addr) (n cap : Nat) (hn : n ≤ 1048576) (h : Came w a n) :
    Cur (w.alloc (.cells #[.slice a n cap, .int .i64 0, .int .u64 0] 42)) (w.heap.size + 1) w.heap.size 0 := by
  refine ⟨a, n, cap, 0, heap_alloc_new w _, by omega, by simp, hn, by omega, by omega, ?_⟩
  rcases h with h | ⟨cb, off, rfl, h1, h2⟩
  · exact .inl h
  · refine .inr ⟨cb, off, rfl, by omega, by omega, fun j hj => ?_⟩
    obtain ⟨x, x0, x1, hx⟩ := h2 j hj
    exact ⟨x, x0, x1, (World.cell?_of_block (w := w) (a := ⟨cb, off + j, none⟩) (Below.heap_alloc _ _ _ h1)).trans hx⟩

theorem cur_below {w w' : World} {o : Obj} (hg : (w.alloc o).grownBy w' (some w.heap.size)) : Below w.heap.size w w' :=
  Below.grown ((Below.refl _ _).alloc (Nat.le_refl _) _) hg (by simp) (fun j hj => by cases hj; exact Nat.le_refl _)

theorem ints_low {w : World} {B B' : Nat} {v : Value} {zs : List Int} (h : Ints w B' v zs) (hB : B ≤ B') : Ints w B v zs := by
  obtain ⟨h1, h2⟩ := h
  refine ⟨h1, ?_⟩
  rcases h2 with h2 | ⟨g, cap, cur, a, b, c⟩
  · exact .inl h2
  · exact .inr ⟨g, cap, cur, a, by omega, c⟩

theorem made_zero (n : Nat) : (madeCells (Value.int .i64 0).cells (n * 1)).toList = (List.replicate n (0 : Int)).map (Value.int .i64) := by
  have h := toList_madeCells_one (Value.int .i64 0) n
  simpa [Value.cells] using h
end Go.Proofs.YtinjldagfhbioaaGreatDoor

namespace Go.Proofs.YtinjldagfhbioaaGreatDoor
open Go.RowKit

/-- What a draw of rules and two texts gives. -/
def Drew3 (w : World) (e : Ending) (w' : World) : Prop :=
  ∃ v es sh lv x y, e = .returned (.tuple #[.agg #[v, .bool sh, .int .i64 lv], .string x, .string y]) ∧ Ents w' w.heap.size v es ∧ (∀ e ∈ es, e.runes.length ≤ 1048576) ∧ x.size ≤ 1048576 ∧ y.size ≤ 1048576 ∧ Below w.heap.size w w'
end Go.Proofs.YtinjldagfhbioaaGreatDoor

namespace Go.Proofs.YtinjldagfhbioaaGreatDoor
open Go.RowKit

theorem results_cell_tmp2 {fn : Func} {p u u2 : Tmp} {ty : TypeId} (h : fn.results = #[.cell p ty, .tmp u, .tmp u2]) (tmps : Array Value) (P : Program) (w : World) :
    (results fn tmps).run P w = ((asAddr (tmps.getD p undef)).run P w).andThen fun a w₁ => ((loadVar ty a).run P w₁).andThen fun v w₂ => .ok (.tuple #[v, tmps.getD u undef, tmps.getD u2 undef]) w₂ := by
  simp only [results, h]
  simp [Sem.run_bind, Result.andThen]

/-- The result's box, the cursor and the rules' box while a draw goes on. -/
structure DcS (w u : World) (b k g2 g3 B2 : Nat) (v : Value) (es : List Ent) (sh : Bool) (lv : Int) : Prop where
  lt : w.heap.size ≤ g2 ∧ g2 < b ∧ b < B2 ∧ b < g3 ∧ g3 < u.heap.size
  c2 : u.cell? ⟨g2, 0, none⟩ = some (.slice none 0 0) ∧ u.cell? ⟨g2, 1, none⟩ = some (.bool false) ∧ u.cell? ⟨g2, 2, none⟩ = some (.int .i64 0)
  c3 : u.cell? ⟨g3, 0, none⟩ = some v ∧ u.cell? ⟨g3, 1, none⟩ = some (.bool sh) ∧ u.cell? ⟨g3, 2, none⟩ = some (.int .i64 lv)
  f2 : ∀ j, u.frozen? ⟨g2, j, none⟩ = false
  cur : Cur u (b + 1) b k
  en : Ents u B2 v es
  be : Below w.heap.size w u

theorem DcS.moved {w u u' : World} {b k g2 g3 B2 : Nat} {v : Value} {es : List Ent} {sh : Bool} {lv : Int} (h : DcS w u b k g2 g3 B2 v es sh lv) {m : Nat} (hm : Moved u u' (b + 1) b k m) : ∃ k', k' ≤ k + m ∧ DcS w u' b k' g2 g3 B2 v es sh lv := by
  obtain ⟨⟨k', hk', hC⟩, hg⟩ := hm
  obtain ⟨l0, l1, l2, l3, l4⟩ := h.lt
  have e2 := hg.block g2 (by omega) (fun e => by have := Option.some.inj e; omega)
  have e3 := hg.block g3 l4 (fun e => by have := Option.some.inj e; omega)
  have k2 : ∀ j, u'.cell? ⟨g2, j, none⟩ = u.cell? ⟨g2, j, none⟩ := fun j => World.cell?_of_block (w := u) e2
  have k3 : ∀ j, u'.cell? ⟨g3, j, none⟩ = u.cell? ⟨g3, j, none⟩ := fun j => World.cell?_of_block (w := u) e3
  refine ⟨k', hk', ⟨l0, l1, l2, l3, Nat.lt_of_lt_of_le l4 hg.size⟩, ?_, ?_, fun j => by rw [frozen_block e2]; exact h.f2 j, hC, h.en.grown hg l2, Below.grown h.be hg h.be.size (fun j hj => by have := Option.some.inj hj; omega)⟩
  · rw [k2, k2, k2]; exact h.c2
  · rw [k3, k3, k3]; exact h.c3

theorem DcS.below {w u u' : World} {b k g2 g3 B2 : Nat} {v : Value} {es : List Ent} {sh : Bool} {lv : Int} (h : DcS w u b k g2 g3 B2 v es sh lv) (hb : Below u.heap.size u u') : DcS w u' b k g2 g3 B2 v es sh lv := by
  obtain ⟨l0, l1, l2, l3, l4⟩ := h.lt
  have e2 := hb.block g2 (by omega)
  have e3 := hb.block g3 l4
  have k2 : ∀ j, u'.cell? ⟨g2, j, none⟩ = u.cell? ⟨g2, j, none⟩ := fun j => World.cell?_of_block (w := u) e2
  have k3 : ∀ j, u'.cell? ⟨g3, j, none⟩ = u.cell? ⟨g3, j, none⟩ := fun j => World.cell?_of_block (w := u) e3
  refine ⟨⟨l0, l1, l2, l3, Nat.lt_of_lt_of_le l4 hb.size⟩, ?_, ?_, fun j => by rw [frozen_block e2]; exact h.f2 j, h.cur.kept (below_grows hb none) (fun k hk => by cases hk), h.en.below hb, h.be.trans (hb.mono h.be.size)⟩
  · rw [k2, k2, k2]; exact h.c2
  · rw [k3, k3, k3]; exact h.c3

/-- The rules laid into the result's box. -/
theorem DcS.done {w u : World} {b k g2 g3 B2 : Nat} {v : Value} {es : List Ent} {sh : Bool} {lv : Int} (h : DcS w u b k g2 g3 B2 v es sh lv) :
    Ents (((u.setCell ⟨g2, 0, none⟩ v).setCell ⟨g2, 1, none⟩ (.bool sh)).setCell ⟨g2, 2, none⟩ (.int .i64 lv)) w.heap.size v es ∧ Below w.heap.size w (((u.setCell ⟨g2, 0, none⟩ v).setCell ⟨g2, 1, none⟩ (.bool sh)).setCell ⟨g2, 2, none⟩ (.int .i64 lv)) := by
  have g := ((setCell_grown u g2 0 v).trans (setCell_grown _ g2 1 (.bool sh))).trans (setCell_grown _ g2 2 (.int .i64 lv))
  obtain ⟨l0, l1, l2, l3, l4⟩ := h.lt
  exact ⟨(h.en.grown g (by omega)).low (by omega), Below.grown h.be g h.be.size (fun j hj => by have := Option.some.inj hj; omega)⟩

/-- A new cursor behind a box for the result, and the rules drawn. -/
theorem dc_start {w w2 : World} {b k2 n cap : Nat} {a : Option Addr} {va : Option Addr} {vc : Nat} {es : List Ent} {sh : Bool} {lv : Int}
    (hb : b = (w.alloc (.cells #[.slice none 0 0, .bool false, .int .i64 0] 25)).heap.size)
    (hC : Cur w2 (b + 1) b k2) (hg : ((w.alloc (.cells #[.slice none 0 0, .bool false, .int .i64 0] 25)).alloc (.cells #[.slice a n cap, .int .i64 0, .int .u64 0] 42)).grownBy w2 (some b))
    (hE : Ents w2 ((w.alloc (.cells #[.slice none 0 0, .bool false, .int .i64 0] 25)).alloc (.cells #[.slice a n cap, .int .i64 0, .int .u64 0] 42)).heap.size (.slice va es.length vc) es) :
    DcS w (w2.alloc (.cells #[.slice va es.length vc, .bool sh, .int .i64 lv] 25)) b k2 w.heap.size w2.heap.size (b + 1) (.slice va es.length vc) es sh lv := by
  have s0 : (w.alloc (.cells #[.slice none 0 0, .bool false, .int .i64 0] 25)).heap.size = w.heap.size + 1 := by simp
  have s1 : ((w.alloc (.cells #[.slice none 0 0, .bool false, .int .i64 0] 25)).alloc (.cells #[.slice a n cap, .int .i64 0, .int .u64 0] 42)).heap.size = w.heap.size + 2 := by simp
  have s2 := hg.size
  have b0 : Below w.heap.size w ((w.alloc (.cells #[.slice none 0 0, .bool false, .int .i64 0] 25)).alloc (.cells #[.slice a n cap, .int .i64 0, .int .u64 0] 42)) := ((Below.refl _ _).alloc (Nat.le_refl _) _).alloc (by omega) _
  have b2 : Below w.heap.size w w2 := Below.grown b0 hg b0.size (fun j hj => by have := Option.some.inj hj; omega)
  have bA := (Below.refl w2.heap.size w2).alloc (Nat.le_refl _) (.cells #[.slice va es.length vc, .bool sh, .int .i64 lv] 25)
  have h2 : (w2.alloc (.cells #[.slice va es.length vc, .bool sh, .int .i64 lv] 25)).heap[w.heap.size]? = some (.cells #[.slice none 0 0, .bool false, .int .i64 0] 25) := by
    rw [Below.heap_alloc _ _ _ (by omega), hg.block _ (by omega) (fun e => by have := Option.some.inj e; omega), Below.heap_alloc _ _ _ (by omega)]
    exact heap_alloc_new w _
  have h3 := heap_alloc_new w2 (.cells #[.slice va es.length vc, .bool sh, .int .i64 lv] 25)
  exact ⟨⟨Nat.le_refl _, by omega, by omega, by omega, by simp⟩, ⟨cell_of_row _ _ 0 _ _ _ h2, cell_of_row _ _ 1 _ _ _ h2, cell_of_row _ _ 2 _ _ _ h2⟩, ⟨cell_of_row _ _ 0 _ _ _ h3, cell_of_row _ _ 1 _ _ _ h3, cell_of_row _ _ 2 _ _ _ h3⟩, fun j => by simp [World.frozen?, h2], hC.kept (below_grows bA none) (fun k hk => by cases hk), (hE.below bA).low (by omega), b2.trans (bA.mono b2.size)⟩

theorem enc_sz (zs : List Int) : (encAll zs).length ≤ 4 * zs.length := by
  have := encAll_le zs zs.length
  rwa [List.take_length] at this
end Go.Proofs.YtinjldagfhbioaaGreatDoor
