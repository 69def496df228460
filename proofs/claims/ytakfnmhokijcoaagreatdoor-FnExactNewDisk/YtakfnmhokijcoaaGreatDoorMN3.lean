/- Texts of mine laid together: BlkC, Blk, IWord, PEnt, PRule, PRead, IWeight, IBase0, IEntry. -/
import Derived.Test.YtakfnmhokijcoaaGreatDoorEnts
import Derived.Test.YtakfnmhokijcoaaGreatDoorEntsDM
import Derived.Test.YtakfnmhokijcoaaGreatDoorMN2
import Derived.Lib.Strings
import Derived.Lib.CutLaws
import Derived.Lib.TrimByte
import Derived.Test.YtakfnmhokijcoaaGreatDoorSEl3
import Derived.Test.YtakfnmhokijcoaaGreatDoorRd
import Derived.Test.YtakfnmhokijcoaaGreatDoorIClass
import Derived.Test.YtakfnmhokijcoaaGreatDoorResC
namespace Go.Proofs.YtakfnmhokijcoaaGreatDoor
open Go.RowKit

/-- A block and what it holds. -/
def Blk (w : World) (g : Nat) (cs : Array Value) (t : TypeId) : Prop := w.heap[g]? = some (.cells cs t)
theorem Blk.below {w w' : World} {g : Nat} {cs : Array Value} {t : TypeId} (h : Blk w g cs t) (hb : Below w.heap.size w w') : Blk w' g cs t := by
  unfold Blk
  rw [hb.block g (Array.getElem?_eq_some_iff.1 h).1]; exact h
theorem Blk.three {w : World} {g : Nat} {x y z : Value} {t : TypeId} (h : Blk w g #[x, y, z] t) : w.cell? ⟨g, 0, none⟩ = some x ∧ w.cell? ⟨g, 1, none⟩ = some y ∧ w.cell? ⟨g, 2, none⟩ = some z :=
  ⟨cell_of_row _ _ 0 _ _ _ h, cell_of_row _ _ 1 _ _ _ h, cell_of_row _ _ 2 _ _ _ h⟩
theorem Blk.lt {w : World} {g : Nat} {cs : Array Value} {t : TypeId} (h : Blk w g cs t) : g < w.heap.size := (Array.getElem?_eq_some_iff.1 h).1

theorem Ents.slice {w : World} {B : Nat} {v : Value} {es : List Ent} (h : Ents w B v es) : ∃ a n c, v = .slice a n c := by
  rcases h.form with ⟨rfl, _⟩ | ⟨_, _, rfl, _, _, _, _⟩
  · exact ⟨_, _, _, rfl⟩
  · exact ⟨_, _, _, rfl⟩

/-- What stands in the last region: the two boxes. -/
theorem keep6 {w0 w1 w2 : World} {g g' : Nat} {x y z x' y' z' : Value} (hg : g < w0.heap.size) (hg' : g' < w0.heap.size) (hb : Below w1.heap.size w1 w2)
    (h : w1.cell? ⟨g, 0, none⟩ = some x ∧ w1.cell? ⟨g, 1, none⟩ = some y ∧ w1.cell? ⟨g, 2, none⟩ = some z ∧ w1.cell? ⟨g', 0, none⟩ = some x' ∧ w1.cell? ⟨g', 1, none⟩ = some y' ∧ w1.cell? ⟨g', 2, none⟩ = some z' ∧ Below w0.heap.size w0 w1) :
    w2.cell? ⟨g, 0, none⟩ = some x ∧ w2.cell? ⟨g, 1, none⟩ = some y ∧ w2.cell? ⟨g, 2, none⟩ = some z ∧ w2.cell? ⟨g', 0, none⟩ = some x' ∧ w2.cell? ⟨g', 1, none⟩ = some y' ∧ w2.cell? ⟨g', 2, none⟩ = some z' ∧ Below w0.heap.size w0 w2 := by
  obtain ⟨a0, a1, a2, b0, b1, b2, h3⟩ := h
  have q1 : g < w1.heap.size := Nat.lt_of_lt_of_le hg h3.size
  have q2 : g' < w1.heap.size := Nat.lt_of_lt_of_le hg' h3.size
  exact ⟨by rw [hb.cell q1]; exact a0, by rw [hb.cell q1]; exact a1, by rw [hb.cell q1]; exact a2, by rw [hb.cell q2]; exact b0, by rw [hb.cell q2]; exact b1, by rw [hb.cell q2]; exact b2, h3.trans (hb.mono h3.size)⟩
end Go.Proofs.YtakfnmhokijcoaaGreatDoor

namespace Go.Proofs.YtakfnmhokijcoaaGreatDoor
open Go.RowKit

theorem Blk.mid {w w' : World} {g B T : Nat} {cs : Array Value} {t : TypeId} (h : Blk w g cs t) (hm : Mid B T w w') (hg : g < B ∨ T ≤ g) : Blk w' g cs t := by
  unfold Blk
  rw [hm.block g (Array.getElem?_eq_some_iff.1 h).1 hg]; exact h
end Go.Proofs.YtakfnmhokijcoaaGreatDoor

namespace Go.Proofs.YtakfnmhokijcoaaGreatDoor
open Go.RowKit

set_option maxRecDepth 100000 in
set_option maxHeartbeats 2000000 in
theorem trimByte_any (l : List UInt8) (w : World) :
    Calls Tryz.prog 54 #[.string ⟨l.toArray⟩, .int .u8 32] w fun e w' => e = .returned (.string ⟨(l.dropWhile (· == 32)).toArray⟩) ∧ w' = w := by
  obtain ⟨D, HD⟩ : ∃ D, Hid (l.dropWhile (· == 32) = D) := ⟨_, rfl⟩
  rw [HD.out]
  go_enter Tryz.func54, Tryz.ntmps54
  go_wp2
  go_loop [0] (fun v => ∃ l' : List UInt8, v = .string ⟨l'.toArray⟩ ∧ Hid (l'.dropWhile (· == 32) = D)) (fun v => Lib.strSize v)
  case atStart => exact ⟨l, rfl, HD⟩
  case round =>
    clear HD
    obtain ⟨l', rfl, HD⟩ := hrel
    match l', HD with
    | [], HD =>
      have h : D = [] := HD.out.symm.trans rfl
      subst h
      clear HD
      go_wp2
      go_ret
      exact ⟨rfl, rfl⟩
    | b :: l2, HD =>
      have hts : (⟨(b :: l2).toArray⟩ : ByteArray).size = l2.length + 1 := rfl
      have hb0 : ∀ h, (⟨(b :: l2).toArray⟩ : ByteArray)[0]'h = b := fun _ => rfl
      have hx1 : (⟨(b :: l2).toArray⟩ : ByteArray).extract 1 (l2.length + 1) = ⟨l2.toArray⟩ := by
        rw [Lib.extract_mk]; simp
      have hgt : Hid ((⟨(b :: l2).toArray⟩ : ByteArray) = ⟨(b :: l2).toArray⟩) := rfl
      have hms : Hid (Lib.strSize (.string ⟨l2.toArray⟩) < Lib.strSize (.string ⟨(b :: l2).toArray⟩)) := by
        show _ < _
        rw [Lib.strSize_string, Lib.strSize_string, Lib.size_mk, Lib.size_mk]; simp
      generalize ht : (⟨(b :: l2).toArray⟩ : ByteArray) = t at hts hb0 hx1 hms ⊢
      have HT : Hid ((⟨(b :: l2).toArray⟩ : ByteArray) = t) := ht
      clear ht hgt
      have h0 : 0 < t.size := by omega
      have hbk := hb0 h0
      clear hb0
      by_cases heq : b = 32
      · have heq' : ((t[0]'h0).toNat : Int) = 32 := by rw [hbk, heq]; rfl
        have HD2 : Hid (l2.dropWhile (· == 32) = D) := by
          show _ = _
          have := HD.out
          simp [heq] at this
          exact this
        clear HD hbk heq HT
        go_wp2
        exact ⟨⟨l2, rfl, HD2⟩, hms.out⟩
      · have hbeq : (((t[0]'h0).toNat : Int) == 32) = false := by
          rw [hbk]
          simp
          intro e
          exact heq (UInt8.toNat_inj.1 (by show b.toNat = 32; omega))
        have HD2 : Hid (D = b :: l2) := by
          show _ = _
          have := HD.out
          simp [heq] at this
          exact this.symm
        clear HD hbk heq hms
        go_wp2
        go_ret
        rw [HD2.out, HT.out]
        exact ⟨rfl, rfl⟩

set_option maxRecDepth 100000 in
set_option maxHeartbeats 2000000 in
theorem trim_any (l : List UInt8) (w : World) :
    Calls Tryz.prog 46 #[.string ⟨l.toArray⟩, .string ⟨#[32]⟩] w fun e w' => e = .returned (.string ⟨(l.dropWhile (· == 32)).toArray⟩) ∧ w' = w := by
  have A := fun w => trimByte_any l w
  have HL : Hid (∀ t, (⟨l.toArray⟩ : ByteArray) = t → t.toList = [] → l = []) := fun t h e => by
    subst h
    rw [Lib.toList_data] at e
    simpa using e
  obtain ⟨D, HD⟩ : ∃ D, Hid (l.dropWhile (· == 32) = D) := ⟨_, rfl⟩
  rw [HD.out] at A ⊢
  cases l with
  | nil =>
    have h : D = [] := HD.out.symm.trans rfl
    subst h
    clear HD A HL
    go_enter Tryz.func46, Tryz.ntmps46
    go_wp2
    go_ret
    exact ⟨rfl, rfl⟩
  | cons b l2 =>
    have hne : ((⟨(b :: l2).toArray⟩ : ByteArray).toList == []) = false := by
      rw [Lib.toList_data]; simp
    have hne2 : (⟨(b :: l2).toArray⟩ : ByteArray).toList.isEmpty = false := by
      rw [Lib.toList_data]; simp
    have i1 : ∀ w, (Instr.index 9 (.string ⟨#[32]⟩) (.int .i64 0)).run Tryz.prog w = .ok (.int .u8 32) w := fun _ => by kernel_rfl
    generalize (⟨(b :: l2).toArray⟩ : ByteArray) = t at *
    clear HD HL
    go_enter Tryz.func46, Tryz.ntmps46
    go_wp2_with fail
    refine (A _).mono ?_
    rintro e w1 ⟨rfl, rfl⟩
    clear A
    go_wp2
    go_ret
    exact ⟨rfl, rfl⟩

set_option maxRecDepth 100000 in
set_option maxHeartbeats 2000000 in
theorem liteIndex_any (t : ByteArray) (w : World) :
    Calls Tryz.prog 68 #[.string t, .string ⟨#[32]⟩] w fun e w' => e = .returned (.int .i64 (Lib.indexByte t.data.toList 32)) ∧ w' = w := by
  have A := fun w => liteByte_any t 32 w
  have i1 : ∀ w, (Instr.index 9 (.string ⟨#[32]⟩) (.int .i64 0)).run Tryz.prog w = .ok (.int .u8 32) w := fun _ => by kernel_rfl
  by_cases h : ([32] == t.toList) = true
  · have e : t.data.toList = [32] := by rw [← Lib.toList_data]; exact (beq_iff_eq.1 h).symm
    have HI : Hid (Lib.indexByte t.data.toList 32 = 0) := by show _ = _; rw [e]; rfl
    clear A e
    go_enter Tryz.func68, Tryz.ntmps68
    go_wp2
    go_ret
    rw [HI.out]
    exact ⟨rfl, rfl⟩
  · have h2 : ([32] == t.toList) = false := by simpa using h
    clear h
    go_enter Tryz.func68, Tryz.ntmps68
    go_wp2_with fail
    refine (A _).mono ?_
    rintro e w1 ⟨rfl, rfl⟩
    clear A
    go_wp2
    go_ret
    exact ⟨rfl, rfl⟩

/-- What Cut at a blank gives. -/
def cutL (t : List UInt8) : List UInt8 × List UInt8 := (t.takeWhile (· != 32), (t.dropWhile (· != 32)).drop 1)

theorem nextL_cut (l : List UInt8) : nextL l = cutL (l.dropWhile (· == 32)) := rfl

set_option maxRecDepth 100000 in
set_option maxHeartbeats 4000000 in
theorem liteCut_any (t : List UInt8) (ht : t.length ≤ 1048576) (w : World) :
    Calls Tryz.prog 53 #[.string ⟨t.toArray⟩, .string ⟨#[32]⟩] w fun e w' => ∃ b, e = .returned (.tuple #[.string ⟨(cutL t).1.toArray⟩, .string ⟨(cutL t).2.toArray⟩, .bool b]) ∧ ∃ n, w' = w.drewN n := by
  have A := fun w => liteIndex_any ⟨t.toArray⟩ w
  have hge := Lib.indexByte_ge t 32
  by_cases c : Lib.indexByte t 32 = -1
  · obtain ⟨c1, c2⟩ := cut_miss t c
    unfold cutL
    rw [c1, c2]
    have A2 := fun w => (c ▸ A w : Calls Tryz.prog 68 #[.string ⟨t.toArray⟩, .string ⟨#[32]⟩] w fun e w' => e = .returned (.int .i64 (-1)) ∧ w' = w)
    generalize (⟨t.toArray⟩ : ByteArray) = s at *
    clear A c hge c1 c2
    go_enter Tryz.func53, Tryz.ntmps53
    go_wp2_with fail
    refine (A2 _).mono ?_
    rintro e w1 ⟨rfl, rfl⟩
    clear A2
    go_wp2
    go_ret3
    exact ⟨_, rfl, 0, rfl⟩
  · obtain ⟨i, hi⟩ : ∃ i : Nat, Lib.indexByte t 32 = (i : Int) := ⟨(Lib.indexByte t 32).toNat, by omega⟩
    obtain ⟨c0, c1, c2⟩ := cut_hit t i hi
    unfold cutL
    rw [c1, c2]
    have A2 := fun w => (hi ▸ A w : Calls Tryz.prog 68 #[.string ⟨t.toArray⟩, .string ⟨#[32]⟩] w fun e w' => e = .returned (.int .i64 (i : Int)) ∧ w' = w)
    have s1 : (⟨t.toArray⟩ : ByteArray).extract 0 i = ⟨(t.take i).toArray⟩ := by rw [Lib.extract_mk]; simp
    have s2 : (⟨t.toArray⟩ : ByteArray).extract (i + 1) t.length = ⟨(t.drop (i + 1)).toArray⟩ := by
      rw [Lib.extract_mk, List.take_of_length_le (by simp)]
    have hsz : (⟨t.toArray⟩ : ByteArray).size = t.length := rfl
    rw [← s1, ← s2]
    generalize (⟨t.toArray⟩ : ByteArray) = s at *
    have k1 : (i : Int) < (t.length : Int) := by omega
    clear A c hge c1 c2 s1 s2 hi
    go_enter Tryz.func53, Tryz.ntmps53
    go_wp2_with fail
    refine (A2 _).mono ?_
    rintro e w1 ⟨rfl, rfl⟩
    clear A2
    go_wp2_with fail
    go_quiet (fail)
    go_wp2
    go_ret3
    exact ⟨_, rfl, _, rfl⟩
end Go.Proofs.YtakfnmhokijcoaaGreatDoor

namespace Go.Proofs.YtakfnmhokijcoaaGreatDoor

/-- The elem of the entry with these runes. -/
def entOf (es : List Ent) (l : List Int) : Option El := if 0 ≤ atE es l then (es[(atE es l).toNat]?).map (·.el) else none

theorem entOf_hit {es : List Ent} {l : List Int} {e : Ent} {k : Nat} (h : NoEnt es l k) (hx : es[k]? = some e) (hr : e.runes = l) : entOf es l = some e.el := by
  unfold entOf
  rw [atE_hit h hx hr, if_pos (by omega), Int.toNat_natCast, hx]; rfl

theorem entOf_none {es : List Ent} {l : List Int} {k : Nat} (h : NoEnt es l k) (hk : es.length ≤ k) : entOf es l = none := by
  unfold entOf
  rw [atE_none h hk, if_neg (by omega)]

theorem entOf_some {es : List Ent} {l : List Int} : (entOf es l).isSome = decide (0 ≤ atE es l) := by
  rcases atE_cases es l with h | ⟨i, e, he, h⟩
  · unfold entOf; rw [h]; rfl
  · unfold entOf; rw [h, if_pos (by omega), Int.toNat_natCast, he]; simp

theorem elemE_of {es : List Ent} {l : List Int} {e : El} (h : entOf es l = some e) : elemE es l = some e := by
  unfold entOf at h
  unfold elemE
  split at h
  · rename_i c; rw [if_pos c]; exact h
  · cases h

theorem atE_of_none {es : List Ent} {l : List Int} (h : entOf es l = none) : atE es l = -1 := by
  rcases atE_cases es l with c | ⟨i, e, he, c⟩
  · exact c
  · unfold entOf at h
    rw [c, if_pos (by omega), Int.toNat_natCast, he] at h
    cases h

/-- Ahead of its own place no entry has these runes: that is what makes a good one's place its own. -/
theorem noEnt_take {es : List Ent} {l : List Int} {k : Nat} : entOf (es.take k) l = none → NoEnt es l k := by
  intro h j e hj he hr
  have h1 := atE_of_none h
  unfold atE at h1
  have : (es.take k).findIdx? (fun e => decide (e.runes = l)) = none := by
    cases c : (es.take k).findIdx? (fun e => decide (e.runes = l)) with
    | none => rfl
    | some i => rw [c] at h1; simp only at h1; omega
  rw [List.findIdx?_eq_none_iff] at this
  have h2 := this e (List.mem_of_getElem? (i := j) (by rw [List.getElem?_take_of_lt hj]; exact he))
  simp [hr] at h2

theorem atE_here {es : List Ent} {e : Ent} {k : Nat} (he : es[k]? = some e) : (entOf (es.take k) e.runes = none) ↔ atE es e.runes = (k : Int) := by
  constructor
  · intro h
    exact atE_hit (noEnt_take h) he rfl
  · intro h
    cases c : entOf (es.take k) e.runes with
    | none => rfl
    | some x =>
      exfalso
      rcases atE_cases (es.take k) e.runes with d | ⟨i, y, hy, d⟩
      · unfold entOf at c; rw [d, if_neg (by omega)] at c; cases c
      · have hik : i < k := by
          have := (List.getElem?_eq_some_iff.1 hy).1
          rw [List.length_take] at this; omega
        rw [List.getElem?_take_of_lt hik] at hy
        unfold atE at d h
        cases f : (es.take k).findIdx? (fun x => decide (x.runes = e.runes)) with
        | none => rw [f] at d; simp only at d; omega
        | some m =>
          rw [f] at d
          have hm : m = i := by simp only at d; omega
          subst hm
          obtain ⟨h1, h2, h3⟩ := List.findIdx?_eq_some_iff_getElem.1 f
          have h4 : es.findIdx? (fun x => decide (x.runes = e.runes)) = some m := by
            have hm2 : m < es.length := by rw [List.length_take] at h1; omega
            rw [List.findIdx?_eq_some_iff_getElem]
            refine ⟨hm2, ?_, fun j hj => ?_⟩
            · simpa using h2
            · have := h3 j hj
              simpa using this
          rw [h4] at h
          simp only at h
          omega
end Go.Proofs.YtakfnmhokijcoaaGreatDoor

namespace Go.Proofs.YtakfnmhokijcoaaGreatDoor

/-- The first weight of a rune that is one whole elem with a first weight. -/
def firstOf (r : Int) : Int := match one3 (base r) with
  | some e => e.first
  | none => 0

theorem firsts_taken : ((List.range 127).all fun k => match one3 (base (k : Int)) with | some e => takenB e.first | none => true) = true := by kernel_rfl

theorem taken_of {k : Nat} {e : El} (hk : k < 127) (h : one3 (base (k : Int)) = some e) : takenB e.first = true := by
  have := List.all_eq_true.1 firsts_taken k (List.mem_range.2 hk)
  rw [h] at this
  exact this

theorem one3_first {e : El} (h : e.first ≠ 0) : one3 [e] = some e := if_neg h

theorem taken_has {n : Int} (h : takenB n = true) : ∃ (k : Nat) (e : El), k < 127 ∧ one3 (base (k : Int)) = some e ∧ e.first = n := by
  rcases of_decide_eq_true h with ⟨h1, h2, h3⟩ | ⟨h1, h2, h3⟩ | h
  · obtain ⟨k, hk⟩ : ∃ k : Nat, (k : Int) = 48 + (n - 2000) / 100 := ⟨(48 + (n - 2000) / 100).toNat, by omega⟩
    refine ⟨k, ⟨2000 + 100 * ((k : Int) - 48), 32, 2, false⟩, by omega, ?_, by simp only; omega⟩
    rw [base_digit (by omega)]
    exact one3_first (by simp only; omega)
  · obtain ⟨k, hk⟩ : ∃ k : Nat, (k : Int) = 97 + (n - 4000) / 200 := ⟨(97 + (n - 4000) / 200).toNat, by omega⟩
    refine ⟨k, ⟨4000 + 200 * ((k : Int) - 97), 32, 2, false⟩, by omega, ?_, by simp only; omega⟩
    rw [base_small (by omega)]
    exact one3_first (by simp only; omega)
  · have h9 : n = 1 ∨ n = 2 ∨ n = 3 ∨ n = 4 ∨ n = 5 ∨ n = 6 ∨ n = 7 ∨ n = 8 ∨ n = 9 := by omega
    rcases h9 with rfl | rfl | rfl | rfl | rfl | rfl | rfl | rfl | rfl
    · exact ⟨32, ⟨1, 32, 2, true⟩, by omega, rfl, rfl⟩
    · exact ⟨95, ⟨2, 32, 2, true⟩, by omega, rfl, rfl⟩
    · exact ⟨45, ⟨3, 32, 2, true⟩, by omega, rfl, rfl⟩
    · exact ⟨44, ⟨4, 32, 2, true⟩, by omega, rfl, rfl⟩
    · exact ⟨59, ⟨5, 32, 2, true⟩, by omega, rfl, rfl⟩
    · exact ⟨58, ⟨6, 32, 2, true⟩, by omega, rfl, rfl⟩
    · exact ⟨33, ⟨7, 32, 2, true⟩, by omega, rfl, rfl⟩
    · exact ⟨63, ⟨8, 32, 2, true⟩, by omega, rfl, rfl⟩
    · exact ⟨46, ⟨9, 32, 2, true⟩, by omega, rfl, rfl⟩

def NoBase (n : Int) (k : Nat) : Prop := ∀ j e, j < k → one3 (base (j : Int)) = some e → e.first ≠ n

theorem NoBase.succ {n : Int} {k : Nat} (h : NoBase n k) (hn : ∀ e, one3 (base (k : Int)) = some e → e.first ≠ n) : NoBase n (k + 1) := by
  intro j e hj he
  by_cases c : j = k
  · subst c; exact hn e he
  · exact h j e (by omega) he

theorem NoBase.all {n : Int} {k : Nat} (h : NoBase n k) (hk : 127 ≤ k) : takenB n = false := by
  cases c : takenB n
  · rfl
  · obtain ⟨j, e, hj, he, hn⟩ := taken_has c
    exact absurd hn (h j e (by omega) he)
end Go.Proofs.YtakfnmhokijcoaaGreatDoor

namespace Go.Proofs.YtakfnmhokijcoaaGreatDoor

/-- The word at the front of what is left. -/
def wdB (l : List UInt8) : ByteArray := ⟨(nextL l).1.toArray⟩
def wdR (l : List UInt8) : List UInt8 := (nextL l).2

theorem wf_none {l : List UInt8} (h : (nextL l).1 = []) : wf l [] = [] := by rw [wf_next, if_pos h]
theorem wf_some {l : List UInt8} (h : (nextL l).1 ≠ []) : wf l [] = wdB l :: wf (wdR l) [] := by rw [wf_next, if_neg h]; rfl

/-- Whether a word stands for runes that an entry may have. -/
def jOk (x : ByteArray) : Bool := decide (x.size ≤ 200) && runesOk (nD (Dec.decT x.size x).1)

def putW (st : RS) (lev : Nat) (x : ByteArray) : Except Int RS := if 200 < x.size then .error 2 else putIn st lev (nD (Dec.decT x.size x).1)
def levR (st : RS) (x : ByteArray) : Except Int RS := match levN x with
  | none => .error 2
  | some n => .ok { st with lv := n }

theorem putI_bad {st : RS} {lev : Nat} {l : List Int} (h : runesOk l = false) : putIn st lev l = .error 2 := if_pos h

theorem putW_no {st : RS} {lev : Nat} {x : ByteArray} (h : jOk x = false) : putW st lev x = .error 2 := by
  unfold putW
  split
  · rfl
  · rename_i c
    unfold jOk at h
    rw [decide_eq_true (show x.size ≤ 200 by omega), Bool.true_and] at h
    exact putI_bad h

theorem putW_yes {st : RS} {lev : Nat} {x : ByteArray} (h : jOk x = true) : putW st lev x = putIn st lev (nD (Dec.decT x.size x).1) := by
  unfold putW
  unfold jOk at h
  rw [Bool.and_eq_true] at h
  rw [if_neg (by have := of_decide_eq_true h.1; omega)]

theorem nD_nil : nD [] = [] := rfl

theorem putW_nil {st : RS} {lev : Nat} {l : List UInt8} (h : (nextL l).1 = []) : putW st lev (wdB l) = .error 2 := by
  apply putW_no
  unfold jOk wdB
  rw [h]
  rfl

theorem levR_nil {st : RS} {l : List UInt8} (h : (nextL l).1 = []) : levR st (wdB l) = .error 2 := by
  have e : levN (wdB l) = none := by
    unfold wdB levN
    rw [h]
    rfl
  unfold levR
  rw [e]

theorem readI_nil {l : List UInt8} {st : RS} (h : (nextL l).1 = []) : readW (wf l []) st = .ok st := by
  rw [wf_none h]; rfl

theorem readI_shift {l : List UInt8} {st : RS} (h : (nextL l).1 ≠ []) (hx : ((wdB l).toList == wShift) = true) : readW (wf l []) st = readW (wf (wdR l) []) { st with sh := true } := by
  rw [wf_some h]
  conv => lhs; unfold readW
  rw [if_pos hx]

theorem readW_levels {l : List UInt8} {st : RS} (h : (nextL l).1 ≠ []) (h1 : ((wdB l).toList == wShift) = false) (hx : ((wdB l).toList == wLevels) = true) :
    readW (wf l []) st = match levR st (wdB (wdR l)) with
      | .error c => .error c
      | .ok st' => readW (wf (wdR (wdR l)) []) st' := by
  rw [wf_some h]
  by_cases h2 : (nextL (wdR l)).1 = []
  · rw [wf_none h2, levR_nil h2]
    conv => lhs; unfold readW
    rw [if_neg (by simp [h1]), if_pos hx]
  · rw [wf_some h2]
    conv => lhs; unfold readW
    rw [if_neg (by simp [h1]), if_pos hx]
    simp only
    unfold levR
    cases levN (wdB (wdR l)) <;> rfl

theorem readW_op {l : List UInt8} {st : RS} {lev : Nat} (h : (nextL l).1 ≠ []) (h1 : ((wdB l).toList == wShift) = false) (h2 : ((wdB l).toList == wLevels) = false) (hx : levOf (wdB l) = some lev) :
    readW (wf l []) st = match putW st lev (wdB (wdR l)) with
      | .error c => .error c
      | .ok st' => readW (wf (wdR (wdR l)) []) st' := by
  rw [wf_some h]
  by_cases h3 : (nextL (wdR l)).1 = []
  · rw [wf_none h3, putW_nil h3]
    conv => lhs; unfold readW
    rw [if_neg (by simp [h1]), if_neg (by simp [h2]), hx]
  · rw [wf_some h3]
    conv => lhs; unfold readW
    rw [if_neg (by simp [h1]), if_neg (by simp [h2]), hx]
    simp only
    unfold putW
    split
    · rfl
    · cases putIn st lev (nD (Dec.decT (wdB (wdR l)).size (wdB (wdR l))).1) <;> rfl

theorem readW_bad {l : List UInt8} {st : RS} (h : (nextL l).1 ≠ []) (h1 : ((wdB l).toList == wShift) = false) (h2 : ((wdB l).toList == wLevels) = false) (hx : levOf (wdB l) = none) : readW (wf l []) st = .error 2 := by
  rw [wf_some h]
  conv => lhs; unfold readW
  rw [if_neg (by simp [h1]), if_neg (by simp [h2]), hx]

theorem putIn_code {st : RS} {lev : Nat} {l : List Int} {c : Int} (h : putIn st lev l = .error c) : c ≠ 0 := by
  unfold putIn at h
  split at h
  · cases h; decide
  · split at h
    · split at h
      · cases h; decide
      · split at h
        · cases h; decide
        · cases h
    · split at h
      · cases h; decide
      · split at h
        · cases h; decide
        · split at h
          · cases h
          · cases h; decide

theorem putW_code {st : RS} {lev : Nat} {x : ByteArray} {c : Int} (h : putW st lev x = .error c) : c ≠ 0 := by
  unfold putW at h
  split at h
  · cases h; decide
  · exact putIn_code h

theorem putW_inv {st st' : RS} {lev : Nat} {x : ByteArray} (hi : RInv st) (h : putW st lev x = .ok st') : RInv st' := by
  unfold putW at h
  split at h
  · cases h
  · exact putIn_inv hi h

theorem levN_some {x : ByteArray} {n : Int} (h : levN x = some n) : 1 ≤ n ∧ n ≤ 4 := by
  unfold levN at h
  split at h
  · cases h; omega
  · cases h

theorem levR_inv {st st' : RS} {x : ByteArray} (hi : RInv st) (h : levR st x = .ok st') : RInv st' := by
  unfold levR at h
  split at h
  · cases h
  · rename_i n hn
    cases h
    exact ⟨rulesOk_lv hi.good (levN_some hn), hi.f0, hi.f1, hi.s0, hi.s1, hi.t0, hi.t1⟩

theorem levR_code {st : RS} {x : ByteArray} {c : Int} (h : levR st x = .error c) : c ≠ 0 := by
  unfold levR at h
  split at h
  · cases h; decide
  · cases h

theorem shift_inv {st : RS} (hi : RInv st) : RInv { st with sh := true } := ⟨hi.good, hi.f0, hi.f1, hi.s0, hi.s1, hi.t0, hi.t1⟩

/-- The number that a second word tells, by its bytes. -/
theorem levN_lit (x : ByteArray) : levN x = if x.toList == [49, 93] then some 1 else if x.toList == [50, 93] then some 2 else if x.toList == [51, 93] then some 3 else if x.toList == [52, 93] then some 4 else none := by
  obtain ⟨⟨l⟩⟩ := x
  have e : (⟨⟨l⟩⟩ : ByteArray).toList = l := by rw [ByteArray.toList_eq]
  rw [e]
  unfold levN
  match l with
  | [] => rfl
  | [_] =>
    rw [if_neg (fun h => by have := h.1; simp [ByteArray.size] at this)]
    simp
  | [a, c] =>
    have s2 : (⟨⟨[a, c]⟩⟩ : ByteArray).size = 2 := rfl
    have b0 : Dec.bt ⟨⟨[a, c]⟩⟩ 0 = a.toNat := rfl
    have b1 : Dec.bt ⟨⟨[a, c]⟩⟩ 1 = c.toNat := rfl
    rw [s2, b0, b1]
    have inj : ∀ (p : UInt8) (n : Nat), n < 256 → (p = UInt8.ofNat n ↔ p.toNat = n) := fun p n hn => by
      constructor
      · intro h; rw [h]; simp; omega
      · intro h; rw [← h]; simp
    have c93 : (c = 93) ↔ c.toNat = 93 := inj c 93 (by omega)
    have a49 : (a = 49) ↔ a.toNat = 49 := inj a 49 (by omega)
    have a50 : (a = 50) ↔ a.toNat = 50 := inj a 50 (by omega)
    have a51 : (a = 51) ↔ a.toNat = 51 := inj a 51 (by omega)
    have a52 : (a = 52) ↔ a.toNat = 52 := inj a 52 (by omega)
    have eqs : ∀ k : UInt8, ([a, c] == [k, 93]) = decide (a = k ∧ c = 93) := fun k => by
      rw [Bool.eq_iff_iff]; simp
    rw [eqs, eqs, eqs, eqs]
    by_cases hc : c.toNat = 93
    · have hc' := c93.2 hc
      by_cases q1 : a.toNat = 49
      · simp [hc', a49.2 q1]
      · by_cases q2 : a.toNat = 50
        · simp [hc', a50.2 q2]
        · by_cases q3 : a.toNat = 51
          · simp [hc', a51.2 q3]
          · by_cases q4 : a.toNat = 52
            · simp [hc', a52.2 q4]
            · have n1 : ¬ a = 49 := fun h => q1 (a49.1 h)
              have n2 : ¬ a = 50 := fun h => q2 (a50.1 h)
              have n3 : ¬ a = 51 := fun h => q3 (a51.1 h)
              have n4 : ¬ a = 52 := fun h => q4 (a52.1 h)
              rw [if_neg (by omega)]
              simp [n1, n2, n3, n4]
    · have hc' : ¬ c = 93 := fun h => hc (c93.1 h)
      rw [if_neg (fun h => hc h.2.2.2)]
      simp [hc']
  | _ :: _ :: _ :: t =>
    rw [if_neg (fun h => by have := h.1; simp [ByteArray.size] at this)]
    simp
end Go.Proofs.YtakfnmhokijcoaaGreatDoor

namespace Go.Proofs.YtakfnmhokijcoaaGreatDoor
open Go.RowKit

set_option maxRecDepth 100000 in
set_option maxHeartbeats 1000000 in
theorem plainElem_any (n : Int) (w : World) : Calls Tryz.prog 64 #[.int .i64 n] w fun e w' => e = .returned (.agg #[.int .i64 n, .int .i64 32, .int .i64 2, .bool false]) ∧ Below w.heap.size w w' := by
  go_enter Tryz.func64, Tryz.ntmps64
  go_wp2
  refine bodyPost_ret (v := .agg #[.int .i64 n, .int .i64 32, .int .i64 2, .bool false]) ?_ rfl ⟨rfl, (Below.refl _ _).alloc (Nat.le_refl _) _⟩
  rw [results_cell1 rfl]
  go_simp

/-- The interface value of what a rune weighs. -/
def wtV : List El → Value
  | [] => .iface 115 (.agg #[])
  | [e] => .iface 107 (.agg #[.int .i64 e.first, .int .i64 e.second, .int .i64 e.third, .bool e.varies])
  | e :: f :: _ => .iface 120 (.agg #[.int .i64 e.first, .int .i64 e.second, .int .i64 e.third, .bool e.varies, .int .i64 f.first, .int .i64 f.second, .int .i64 f.third, .bool f.varies])

theorem ret_w {x y : Value} (h : x = y) : Ending.returned x = .returned y := by rw [h]

set_option maxRecDepth 100000 in
set_option maxHeartbeats 2000000 in
theorem weight_ctl (r : Int) (h0 : 0 ≤ r) (h : r ≤ 31 ∨ r = 127) (w : World) :
    Calls Tryz.prog 75 #[.int .i64 r] w fun e w' => e = .returned (wtV (base r)) ∧ Below w.heap.size w w' := by
  rw [base_ctl h0 h]
  unfold wtV
  by_cases h1 : r ≤ 31
  · clear h
    go_enter Tryz.func75, Tryz.ntmps75
    go_wp2
    go_ret
    exact ⟨rfl, Below.refl _ _⟩
  · have h2 : r = 127 := by omega
    subst h2
    clear h h0 h1
    go_enter Tryz.func75, Tryz.ntmps75
    go_wp2
    go_ret
    exact ⟨rfl, Below.refl _ _⟩

set_option maxRecDepth 100000 in
set_option maxHeartbeats 2000000 in
theorem weight_vs (r : Int) (i : Nat) (h : placeIn vsl r = some i) (hr : r ∈ vsl) (w : World) :
    Calls Tryz.prog 75 #[.int .i64 r] w fun e w' => e = .returned (wtV (base r)) ∧ Below w.heap.size w w' := by
  obtain ⟨b0, b1, _, _, _⟩ := vsl_bd r hr
  have hi : i < 9 := by unfold placeIn at h; exact (List.findIdx?_eq_some_iff_getElem.1 h).1
  have I := fun w => idxRune_any r (by omega) (by omega) (by omega) w
  have e : idxV r = (i : Int) := by unfold idxV; rw [h]
  rw [e] at I
  rw [base_vs h]
  unfold wtV
  have h1 : ¬ r ≤ 31 := by omega
  have h2 : (r == 127) = false := by simp; omega
  have HC : Hid ((i : Int) + 1 = 1 + (i : Int)) := by show _ = _; omega
  clear h hr e
  go_enter Tryz.func75, Tryz.ntmps75
  go_wp2_with fail
  refine (I _).mono ?_
  rintro e w1 ⟨rfl, b1⟩
  clear I
  go_wp2
  go_ret
  exact ⟨ret_w (by rw [HC.out]; rfl), b1⟩

set_option maxRecDepth 100000 in
set_option maxHeartbeats 2000000 in
theorem weight_digit (r : Int) (h : 48 ≤ r ∧ r ≤ 57) (w : World) :
    Calls Tryz.prog 75 #[.int .i64 r] w fun e w' => e = .returned (wtV (base r)) ∧ Below w.heap.size w w' := by
  have I := fun w => idxRune_any r (by omega) (by omega) (by omega) w
  have P := fun n w => plainElem_any n w
  have e : idxV r = -1 := by unfold idxV; rw [place_out fun c => (vsl_bd r c).2.2.1 h]
  rw [e] at I
  rw [base_digit h]
  unfold wtV
  obtain ⟨h1, h2⟩ := h
  have h3 : ¬ r ≤ 31 := by omega
  have h4 : (r == 127) = false := by simp; omega
  have HC : Hid (2000 + (r - 48) * 100 = 2000 + 100 * (r - 48)) := by show _ = _; omega
  clear e
  go_enter Tryz.func75, Tryz.ntmps75
  go_wp2_with fail
  refine (I _).mono ?_
  rintro e w1 ⟨rfl, b1⟩
  clear I
  go_wp2_with fail
  refine (P _ _).mono ?_
  rintro e w2 ⟨rfl, b2⟩
  clear P
  go_wp2
  go_ret
  exact ⟨ret_w (by rw [HC.out]; rfl), b1.trans (b2.mono b1.size)⟩

set_option maxRecDepth 100000 in
set_option maxHeartbeats 2000000 in
theorem weight_small (r : Int) (h : 97 ≤ r ∧ r ≤ 122) (w : World) :
    Calls Tryz.prog 75 #[.int .i64 r] w fun e w' => e = .returned (wtV (base r)) ∧ Below w.heap.size w w' := by
  have I := fun w => idxRune_any r (by omega) (by omega) (by omega) w
  have P := fun n w => plainElem_any n w
  have e : idxV r = -1 := by unfold idxV; rw [place_out fun c => (vsl_bd r c).2.2.2.1 h]
  rw [e] at I
  rw [base_small h]
  unfold wtV
  obtain ⟨h1, h2⟩ := h
  have h3 : ¬ r ≤ 31 := by omega
  have h4 : (r == 127) = false := by simp; omega
  have h5 : ¬ r ≤ 57 := by omega
  have HC : Hid (4000 + (r - 97) * 200 = 4000 + 200 * (r - 97)) := by show _ = _; omega
  clear e
  go_enter Tryz.func75, Tryz.ntmps75
  go_wp2_with fail
  refine (I _).mono ?_
  rintro e w1 ⟨rfl, b1⟩
  clear I
  go_wp2_with fail
  refine (P _ _).mono ?_
  rintro e w2 ⟨rfl, b2⟩
  clear P
  go_wp2
  go_ret
  exact ⟨ret_w (by rw [HC.out]; rfl), b1.trans (b2.mono b1.size)⟩

set_option maxRecDepth 100000 in
set_option maxHeartbeats 2000000 in
theorem weight_cap (r : Int) (h : 65 ≤ r ∧ r ≤ 90) (w : World) :
    Calls Tryz.prog 75 #[.int .i64 r] w fun e w' => e = .returned (wtV (base r)) ∧ Below w.heap.size w w' := by
  have I := fun w => idxRune_any r (by omega) (by omega) (by omega) w
  have P := fun n w => plainElem_any n w
  have e : idxV r = -1 := by unfold idxV; rw [place_out fun c => (vsl_bd r c).2.2.2.2 h]
  rw [e] at I
  rw [base_cap h]
  unfold wtV
  obtain ⟨h1, h2⟩ := h
  have h3 : ¬ r ≤ 31 := by omega
  have h4 : (r == 127) = false := by simp; omega
  have h5 : ¬ r ≤ 57 := by omega
  have h6 : ¬ 97 ≤ r := by omega
  have HC : Hid (4000 + (r - 65) * 200 = 4000 + 200 * (r - 65)) := by show _ = _; omega
  clear e
  go_enter Tryz.func75, Tryz.ntmps75
  go_wp2_with fail
  refine (I _).mono ?_
  rintro e w1 ⟨rfl, b1⟩
  clear I
  go_wp2_with fail
  refine (P _ _).mono ?_
  rintro e w2 ⟨rfl, b2⟩
  clear P
  have b3 := b1.trans (b2.mono b1.size)
  go_wp2
  go_ret
  exact ⟨ret_w (by rw [HC.out]; rfl), b3.alloc b3.size _⟩

theorem mkl_at (k : Nat) (hk : k < 15) : mkl[k]? = some (at0 (marksT.getD k []) 0) := by
  iterate 15 (rcases k with _ | k; · rfl)
  omega

set_option maxRecDepth 100000 in
set_option maxHeartbeats 4000000 in
theorem weight_far (r : Int) (h0 : 0 ≤ r) (hr1 : r ≤ 1114111) (hs : ¬ (55296 ≤ r ∧ r ≤ 57343)) (hv : placeIn vsl r = none) (h1 : ¬ (r ≤ 31 ∨ r = 127)) (h2 : ¬ (48 ≤ r ∧ r ≤ 57)) (h3 : ¬ (97 ≤ r ∧ r ≤ 122)) (h4 : ¬ (65 ≤ r ∧ r ≤ 90)) (w : World) (hm : Held w 1 marksF) :
    Calls Tryz.prog 75 #[.int .i64 r] w fun e w' => e = .returned (wtV (base r)) ∧ Below w.heap.size w w' := by
  have I := fun w => idxRune_any r h0 hr1 hs w
  have P := fun n w => plainElem_any n w
  have e : idxV r = -1 := by unfold idxV; rw [hv]
  rw [e] at I
  have B2 : Hid (placeIn mkl r = none → base r = [⟨60000 + r / 32768, 32, 2, false⟩, ⟨32768 + r % 32768, 0, 0, false⟩]) := fun h => base_two hv h h1 h2 h3 h4
  have BM : Hid (∀ i, placeIn mkl r = some i → base r = [⟨0, 40 + (i : Int), 2, false⟩]) := fun i h => base_mk hv h
  have c1 : ¬ r ≤ 31 := fun c => h1 (.inl c)
  have c2 : (r == 127) = false := by simp; omega
  have cs : r < 48 ∨ (57 < r ∧ r < 65) ∨ (90 < r ∧ r < 97) ∨ 122 < r := by omega
  have hq : Int.tdiv r 32768 = r / 32768 := Int.tdiv_eq_ediv_of_nonneg h0
  have hp : Int.tmod r 32768 = r % 32768 := Int.tmod_eq_emod_of_nonneg h0
  clear e h1 hv hs h2 h3 h4
  rcases cs with d | ⟨d, d'⟩ | ⟨d, d'⟩ | d
  all_goals
    go_enter Tryz.func75, Tryz.ntmps75
    go_wp2_with fail
    refine (I _).mono ?_
    rintro e w1 ⟨rfl, b1⟩
    clear I
    obtain ⟨t, fr, hh0⟩ := hm.below b1 hm.lt
    have hh : w1.heap[1]? = some (.cells marksA t fr) := hh0
    clear hh0 hm
    go_wp2_with (refine wpList_load_row rfl 118 (.global 1) rfl 1 rfl t marksA fr _ hh Tryz.underlying118 rfl (by kernel_rfl) ?_)
    clear hh
    go_loopw [67] (fun i wr => ∃ k : Nat, k ≤ 15 ∧ i = .int .i64 k ∧ Hid (NotYet mkl r k) ∧ Below w.heap.size w wr) (fun i _ => 15 - (intOf i).toNat)
    case atStart => exact ⟨0, Nat.zero_le _, rfl, fun j x hj => by omega, b1⟩
    case round =>
      obtain ⟨k, hk, rfl, HN, hb⟩ := hrel
      by_cases hlt : k < 15
      · have hi := fun w => marks_index k hlt w
        have HX : Hid (mkl[k]? = some (at0 (marksT.getD k []) 0)) := mkl_at k hlt
        generalize at0 (marksT.getD k []) 0 = a at *
        generalize at0 (marksT.getD k []) 1 = b at *
        have hk8 : (k : Int) < 15 := by omega
        by_cases e : a = r
        · subst e
          have HR : Hid (base a = [⟨0, 40 + (k : Int), 2, false⟩]) := BM.out k (place_hit HN.out HX.out)
          clear HN HX B2 BM P
          go_wp2
          go_ret
          rw [HR.out]
          exact ⟨rfl, hb.alloc hb.size _⟩
        · have e2 : (a == r) = false := by simpa using e
          have HN2 : Hid (NotYet mkl r (k + 1)) := HN.out.succ HX.out e
          clear e HN HX B2 BM P
          go_wp2
          exact ⟨⟨k + 1, by omega, by go_num, HN2, hb.alloc hb.size _⟩, by simp [intOf]; omega⟩
      · have HR : Hid (base r = [⟨60000 + r / 32768, 32, 2, false⟩, ⟨32768 + r % 32768, 0, 0, false⟩]) := B2.out (place_none HN.out (by show 15 ≤ k; omega))
        clear HN B2 BM
        go_wp2_with fail
        refine (P _ _).mono ?_
        rintro e w2 ⟨rfl, b2⟩
        clear P
        go_wp2
        go_ret
        rw [HR.out]
        exact ⟨rfl, hb.trans (b2.mono hb.size)⟩

theorem weight_any (r : Int) (h0 : 0 ≤ r) (h1 : r ≤ 1114111) (hs : ¬ (55296 ≤ r ∧ r ≤ 57343)) (w : World) (hm : Held w 1 marksF) :
    Calls Tryz.prog 75 #[.int .i64 r] w fun e w' => e = .returned (wtV (base r)) ∧ Below w.heap.size w w' := by
  by_cases c : r ≤ 31 ∨ r = 127
  · exact weight_ctl r h0 c w
  · by_cases v : r ∈ vsl
    · obtain ⟨i, hi, _⟩ := place_in v
      exact weight_vs r i hi v w
    · by_cases d : 48 ≤ r ∧ r ≤ 57
      · exact weight_digit r d w
      · by_cases s : 97 ≤ r ∧ r ≤ 122
        · exact weight_small r s w
        · by_cases u : 65 ≤ r ∧ r ≤ 90
          · exact weight_cap r u w
          · exact weight_far r h0 h1 hs (place_out v) c d s u w hm
end Go.Proofs.YtakfnmhokijcoaaGreatDoor

namespace Go.Proofs.YtakfnmhokijcoaaGreatDoor
open Go.RowKit

theorem base_cases (r : Int) : base r = [] ∨ (∃ e, base r = [e]) ∨ ∃ e f, base r = [e, f] := by
  have := base_len r
  match h : base r with
  | [] => exact .inl rfl
  | [e] => exact .inr (.inl ⟨e, rfl⟩)
  | [e, f] => exact .inr (.inr ⟨e, f, rfl⟩)
  | _ :: _ :: _ :: _ => rw [h] at this; simp at this

theorem base_first {r : Int} {e : El} (h : base r = [e]) : 0 ≤ e.first := by
  unfold base at h
  split at h
  · cases h; simp only; omega
  · split at h
    · cases h; simp
    · unfold baseRest at h
      split at h
      · cases h
      · split at h
        · cases h; simp only; omega
        · split at h
          · cases h; simp only; omega
          · split at h
            · cases h; simp only; omega
            · cases h

theorem one3_pos {e : El} (h : 0 < e.first) : one3 [e] = some e := if_neg (by omega)
theorem one3_zero {e : El} (h : 0 ≤ e.first) (h2 : ¬ 0 < e.first) : one3 [e] = none := if_pos (by omega)

/-- The result's block, still zero. -/
def Zel (u : World) (b : Nat) : Prop := u.heap[b]? = some (.cells #[.int .i64 0, .int .i64 0, .int .i64 0, .bool false] 41)
theorem Zel.facts {u : World} {b : Nat} (h : Zel u b) : b < u.heap.size ∧ (u.cell? ⟨b, 0, none⟩ = some (.int .i64 0) ∧ u.cell? ⟨b, 1, none⟩ = some (.int .i64 0) ∧ u.cell? ⟨b, 2, none⟩ = some (.int .i64 0) ∧ u.cell? ⟨b, 3, none⟩ = some (.bool false)) ∧ ∀ j, u.frozen? ⟨b, j, none⟩ = false :=
  ⟨(Array.getElem?_eq_some_iff.1 h).1, ⟨cell_of_row _ _ 0 _ _ _ h, cell_of_row _ _ 1 _ _ _ h, cell_of_row _ _ 2 _ _ _ h, cell_of_row _ _ 3 _ _ _ h⟩, fun j => by simp [World.frozen?, show u.heap[b]? = _ from h]⟩
theorem Zel.below {u u' : World} {b : Nat} (h : Zel u b) (hb : Below u.heap.size u u') : Zel u' b := (hb.block _ h.facts.1).trans h

theorem below_res1 {w wr : World} {b : Nat} (h : Below w.heap.size w wr) (hb : w.heap.size ≤ b) (x y z t : Value) : Below w.heap.size w ((((wr.setCell ⟨b, 0, none⟩ x).setCell ⟨b, 1, none⟩ y).setCell ⟨b, 2, none⟩ z).setCell ⟨b, 3, none⟩ t) :=
  (((h.setCell hb _).setCell hb _).setCell hb _).setCell hb _

theorem below_res1a {w wr : World} (h : Below w.heap.size w wr) (x y z t : Value) (o : Obj) : Below w.heap.size w (((((wr.setCell ⟨w.heap.size, 0, none⟩ x).setCell ⟨w.heap.size, 1, none⟩ y).setCell ⟨w.heap.size, 2, none⟩ z).setCell ⟨w.heap.size, 3, none⟩ t).alloc o) :=
  (below_res1 h (Nat.le_refl _) x y z t).alloc (below_res1 h (Nat.le_refl _) x y z t).size _
end Go.Proofs.YtakfnmhokijcoaaGreatDoor

namespace Go.Proofs.YtakfnmhokijcoaaGreatDoor
open Go.RowKit

theorem entAll_take (xs : List Value) (es : List Ent) (k : Nat) : entAll (xs.take k) (es.take k) = (entAll xs es).take (k * 5) := by
  induction k generalizing xs es with
  | zero => simp [entAll]
  | succ k ih =>
    match xs, es with
    | [], _ => simp [entAll]
    | x :: xs, [] => simp [entAll]
    | x :: xs, e :: es =>
      show entC x e.el ++ entAll (xs.take k) (es.take k) = (entC x e.el ++ entAll xs es).take ((k + 1) * 5)
      have e1 : ((entC x e.el).take ((k + 1) * 5)) = entC x e.el := List.take_of_length_le (by show 5 ≤ _; omega)
      have e2 : (k + 1) * 5 - (entC x e.el).length = k * 5 := by show (k + 1) * 5 - 5 = _; omega
      rw [ih xs es, List.take_append, e1, e2]

theorem below_alloc_any (w : World) (o : Obj) : Below w.heap.size w (w.alloc o) := (Below.refl _ _).alloc (Nat.le_refl _) _

def ERel (w : World) (es : List Ent) (l : List Int) (i : Value) (wr : World) : Prop := ∃ k : Nat, k ≤ es.length ∧ i = .int .i64 k ∧ NoEnt es l k ∧ Zel wr w.heap.size ∧ Below w.heap.size w wr

set_option maxRecDepth 100000 in
set_option maxHeartbeats 4000000 in
theorem entry_row (w : World) (B B' g cap : Nat) (es : List Ent) (vl : Value) (l : List Int) (hE : Ents w B (.slice (some ⟨g, 0, none⟩) es.length cap) es) (hL : Ints w B' vl l) (hn : es.length ≤ 1048576) (hl : l.length ≤ 1048576) (hr : ∀ e ∈ es, e.runes.length ≤ 1048576) :
    Calls Tryz.prog 49 #[.slice (some ⟨g, 0, none⟩) es.length cap, vl] w fun e w' => e = .returned (elRes (entOf es l)) ∧ Below w.heap.size w w' := by
  go_enter Tryz.func49, Tryz.ntmps49
  go_wp2
  go_loopw [10] (fun i wr => ERel w es l i wr) (fun i _ => es.length - (intOf i).toNat)
  case atStart => exact ⟨0, Nat.zero_le _, rfl, fun j e hj => by omega, heap_alloc_new _ _, (Below.refl _ _).alloc (Nat.le_refl _) _⟩
  case round =>
    obtain ⟨k, hk, rfl, HN0, hz, hb⟩ := hrel
    have HN : Hid (NoEnt es l k) := HN0
    clear HN0
    by_cases hlt : k < es.length
    · obtain ⟨e, he⟩ : ∃ e, es[k]? = some e := ⟨_, List.getElem?_eq_getElem hlt⟩
      obtain ⟨x, hI, a0, a1, a2, a3, a4⟩ := (hE.below hb).cells k e he
      obtain ⟨xa, xn, xc, rfl⟩ : ∃ xa xn xc, x = .slice xa xn xc := by
        rcases hI.form with ⟨rfl, _⟩ | ⟨_, _, rfl, _, _⟩
        · exact ⟨_, _, _, rfl⟩
        · exact ⟨_, _, _, rfl⟩
      have hk8 : (k : Int) < (es.length : Int) := by omega
      have hrl := hr e (List.mem_of_getElem? he)
      have hbr := (Below.refl wr.heap.size wr).alloc (Nat.le_refl _) (.cells #[.slice xa xn xc, .int .i64 e.el.first, .int .i64 e.el.second, .int .i64 e.el.third, .bool e.el.varies] 52)
      have hba := hb.trans (hbr.mono hb.size)
      have SM := equal_any hrl hl (hI.below hbr) ((hL.below hb).below hbr)
      have HZ : Hid (Zel _ _) := hz.below hbr
      have hlt3 := hz.facts.1
      have HE : Hid _ := he
      clear he hI hE hL hr hz hbr
      go_wp2_with fail
      refine SM.mono ?_
      rintro e' w2 ⟨rfl, n2, rfl⟩
      clear SM a0 a1 a2 a3 a4
      by_cases c : e.runes = l
      · have HA : Hid (entOf es l = some e.el) := entOf_hit HN.out HE.out c
        have c' : decide (e.runes = l) = true := decide_eq_true c
        obtain ⟨hlt2, ⟨q0, q1, q2, q3⟩, f0⟩ := HZ.out.facts
        have hsz := hb.size
        clear HN HE c HZ
        go_wp2
        refine bodyPost_ret (v := .tuple #[.agg #[.int .i64 e.el.first, .int .i64 e.el.second, .int .i64 e.el.third, .bool e.el.varies], .bool true]) ?_ rfl ⟨ret_e HA.out, below_res1 (below_drewN hba n2) (Nat.le_refl _) _ _ _ _⟩
        rw [results_cell_tmp rfl]
        go_simp
      · have HN2 : Hid (NoEnt es l (k + 1)) := HN.out.succ HE.out c
        have c' : decide (e.runes = l) = false := decide_eq_false c
        clear HN HE c
        go_wp2
        exact ⟨⟨k + 1, by omega, by go_num, HN2.out, HZ.out, below_drewN hba n2⟩, by simp [intOf]; omega⟩
    · have HA : Hid (entOf es l = none) := entOf_none HN.out (by omega)
      obtain ⟨hlt2, ⟨q0, q1, q2, q3⟩, f0⟩ := hz.facts
      clear HN hE hr hz
      go_wp2
      refine bodyPost_ret (v := .tuple #[.agg #[.int .i64 0, .int .i64 0, .int .i64 0, .bool false], .bool false]) ?_ rfl ⟨ret_e0 HA.out, below_res1 hb (Nat.le_refl _) _ _ _ _⟩
      rw [results_cell_tmp rfl]
      go_simp

set_option maxRecDepth 100000 in
set_option maxHeartbeats 4000000 in
theorem entry_nil (w : World) (vl : Value) (l : List Int) :
    Calls Tryz.prog 49 #[.slice none 0 0, vl] w fun e w' => e = .returned (elRes (entOf [] l)) ∧ Below w.heap.size w w' := by
  have HA : Hid (entOf [] l = none) := rfl
  have hz : Zel (w.alloc (.cells #[.int .i64 0, .int .i64 0, .int .i64 0, .bool false] 41)) w.heap.size := heap_alloc_new _ _
  obtain ⟨hlt2, ⟨q0, q1, q2, q3⟩, f0⟩ := hz.facts
  clear hz
  go_enter Tryz.func49, Tryz.ntmps49
  go_wp2
  go_loop [10] (fun i => i = .int .i64 0) (fun _ => 0)
  case atStart => rfl
  case round =>
    subst hrel
    go_wp2
    refine bodyPost_ret (v := .tuple #[.agg #[.int .i64 0, .int .i64 0, .int .i64 0, .bool false], .bool false]) ?_ rfl ⟨ret_e0 HA.out, ?_⟩
    · rw [results_cell_tmp rfl]
      go_simp
    · exact below_alloc_any w _

theorem entry_any {w : World} {B B' : Nat} {v vl : Value} {es : List Ent} {l : List Int} (hE : Ents w B v es) (hL : Ints w B' vl l) (hn : es.length ≤ 1048576) (hl : l.length ≤ 1048576) (hr : ∀ e ∈ es, e.runes.length ≤ 1048576) :
    Calls Tryz.prog 49 #[v, vl] w fun e w' => e = .returned (elRes (entOf es l)) ∧ Below w.heap.size w w' := by
  rcases hE.form with ⟨rfl, rfl⟩ | ⟨g, cap, rfl, _, _, _, _⟩
  · exact entry_nil w vl l
  · exact entry_row w B B' g cap es vl l hE hL hn hl hr

/-- The first entries of a row are a row. -/
theorem Ents.take {w : World} {B g cap : Nat} {es : List Ent} (h : Ents w B (.slice (some ⟨g, 0, none⟩) es.length cap) es) (k : Nat) (hk : k ≤ es.length) : Ents w B (.slice (some ⟨g, 0, none⟩) k cap) (es.take k) := by
  obtain ⟨xs, hl, ⟨h1, h2⟩, h3⟩ := h
  have hlk : (es.take k).length = k := by rw [List.length_take]; omega
  refine ⟨xs.take k, by rw [List.length_take, List.length_take, hl], ?_, fun i e he => ?_⟩
  · have hcut : entAll (xs.take k) (es.take k) = (entAll xs es).take (k * 5) := entAll_take xs es k
    rcases h2 with ⟨a, b⟩ | ⟨g', cap', cur, a, b, c, d, e, f, f2⟩
    · cases a
    · refine ⟨by rw [entAll_len _ _ (by rw [List.length_take, List.length_take, hl])], ?_⟩
      rw [hlk]
      injection a with a1 a2 a3
      injection a1 with a4
      injection a4 with a5
      subst a5
      subst a3
      refine .inr ⟨g, cap, cur, rfl, b, c, by omega, e, f, ?_⟩
      rw [hcut, ← f2, List.take_take, Nat.min_eq_left (Nat.mul_le_mul_right 5 hk)]
  · have hik : i < k := by
      have := (List.getElem?_eq_some_iff.1 he).1
      omega
    rw [List.getElem?_take_of_lt hik] at he
    obtain ⟨x, hx, hI⟩ := h3 i e he
    exact ⟨x, by rw [List.getElem?_take_of_lt hik]; exact hx, hI⟩
end Go.Proofs.YtakfnmhokijcoaaGreatDoor
