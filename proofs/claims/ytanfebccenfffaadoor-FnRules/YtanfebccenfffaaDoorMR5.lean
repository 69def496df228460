/- Texts of mine laid together: BlkC, Blk, IWord, IWeight, IBase0, IEntry, IGood3. -/
import Derived.Test.YtanfebccenfffaaDoorEnts
import Derived.Test.YtanfebccenfffaaDoorMR2
import Derived.Test.YtanfebccenfffaaDoorWf
import Derived.Test.YtanfebccenfffaaDoorMR4
import Derived.Lib.Strings
import Derived.Lib.CutLaws
import Derived.Lib.TrimByte
import Derived.Test.YtanfebccenfffaaDoorMR3
import Derived.Test.YtanfebccenfffaaDoorResC
import Derived.Test.YtanfebccenfffaaDoorSEl3
import Derived.Test.YtanfebccenfffaaDoorPEnt
import Derived.Deep.RegionHeld3
namespace Go.Proofs.YtanfebccenfffaaDoor
open Go.RowKit

/-- A block and what it holds. -/
def Blk (w : World) (g : Nat) (cs : Array Value) (t : TypeId) : Prop := w.heap[g]? = some (.cells cs t)
theorem Blk.below {w w' : World} {g : Nat} {cs : Array Value} {t : TypeId} (h : Blk w g cs t) (hb : Below w.heap.size w w') : Blk w' g cs t := by
  unfold Blk
  rw [hb.block g (Array.getElem?_eq_some_iff.1 h).1]; exact h
theorem Blk.three {w : World} {g : Nat} {x y z : Value} {t : TypeId} (h : Blk w g #[x, y, z] t) : w.cell? ⟨g, 0, none⟩ = some x ∧ w.cell? ⟨g, 1, none⟩ = some y ∧ w.cell? ⟨g, 2, none⟩ = some z :=
  ⟨cell_of_row _ _ 0 _ _ _ h, cell_of_row _ _ 1 _ _ _ h, cell_of_row _ _ 2 _ _ _ h⟩
theorem Blk.lt {w : World} {g : Nat} {cs : Array Value} {t : TypeId} (h : Blk w g cs t) : g < w.heap.size := (Array.getElem?_eq_some_iff.1 h).1

theorem Ents.slice {w : World} {B : Nat} {v : Value} {es : List Ent} (h : Ents w B v es) : ∃ a n c, v = .slice a n c := by
  rcases h.form with ⟨rfl, _⟩ | ⟨_, _, rfl, _, _, _, _⟩
  · exact ⟨_, _, _, rfl⟩
  · exact ⟨_, _, _, rfl⟩

/-- What stands in the last region: the two boxes. -/
theorem keep6 {w0 w1 w2 : World} {g g' : Nat} {x y z x' y' z' : Value} (hg : g < w0.heap.size) (hg' : g' < w0.heap.size) (hb : Below w1.heap.size w1 w2)
    (h : w1.cell? ⟨g, 0, none⟩ = some x ∧ w1.cell? ⟨g, 1, none⟩ = some y ∧ w1.cell? ⟨g, 2, none⟩ = some z ∧ w1.cell? ⟨g', 0, none⟩ = some x' ∧ w1.cell? ⟨g', 1, none⟩ = some y' ∧ w1.cell? ⟨g', 2, none⟩ = some z' ∧ Below w0.heap.size w0 w1) :
    w2.cell? ⟨g, 0, none⟩ = some x ∧ w2.cell? ⟨g, 1, none⟩ = some y ∧ w2.cell? ⟨g, 2, none⟩ = some z ∧ w2.cell? ⟨g', 0, none⟩ = some x' ∧ w2.cell? ⟨g', 1, none⟩ = some y' ∧ w2.cell? ⟨g', 2, none⟩ = some z' ∧ Below w0.heap.size w0 w2 := by
  obtain ⟨a0, a1, a2, b0, b1, b2, h3⟩ := h
  have q1 : g < w1.heap.size := Nat.lt_of_lt_of_le hg h3.size
  have q2 : g' < w1.heap.size := Nat.lt_of_lt_of_le hg' h3.size
  exact ⟨by rw [hb.cell q1]; exact a0, by rw [hb.cell q1]; exact a1, by rw [hb.cell q1]; exact a2, by rw [hb.cell q2]; exact b0, by rw [hb.cell q2]; exact b1, by rw [hb.cell q2]; exact b2, h3.trans (hb.mono h3.size)⟩
end Go.Proofs.YtanfebccenfffaaDoor

namespace Go.Proofs.YtanfebccenfffaaDoor
open Go.RowKit

theorem Blk.mid {w w' : World} {g B T : Nat} {cs : Array Value} {t : TypeId} (h : Blk w g cs t) (hm : Mid B T w w') (hg : g < B ∨ T ≤ g) : Blk w' g cs t := by
  unfold Blk
  rw [hm.block g (Array.getElem?_eq_some_iff.1 h).1 hg]; exact h
end Go.Proofs.YtanfebccenfffaaDoor

namespace Go.Proofs.YtanfebccenfffaaDoor
open Go.RowKit

set_option maxRecDepth 100000 in
set_option maxHeartbeats 2000000 in
theorem trimByte_any (l : List UInt8) (w : World) :
    Calls Tryd.prog 95 #[.string ⟨l.toArray⟩, .int .u8 32] w fun e w' => e = .returned (.string ⟨(l.dropWhile (· == 32)).toArray⟩) ∧ w' = w := by
  obtain ⟨D, HD⟩ : ∃ D, Hid (l.dropWhile (· == 32) = D) := ⟨_, rfl⟩
  rw [HD.out]
  go_enter Tryd.func95, Tryd.ntmps95
  go_wp2
  go_loop [0] (fun v => ∃ l' : List UInt8, v = .string ⟨l'.toArray⟩ ∧ Hid (l'.dropWhile (· == 32) = D)) (fun v => Lib.strSize v)
  case atStart => exact ⟨l, rfl, HD⟩
  case round =>
    clear HD
    obtain ⟨l', rfl, HD⟩ := hrel
    match l', HD with
    | [], HD =>
      have h : D = [] := HD.out.symm.trans rfl
      subst h
      clear HD
      go_wp2
      go_ret
      exact ⟨rfl, rfl⟩
    | b :: l2, HD =>
      have hts : (⟨(b :: l2).toArray⟩ : ByteArray).size = l2.length + 1 := rfl
      have hb0 : ∀ h, (⟨(b :: l2).toArray⟩ : ByteArray)[0]'h = b := fun _ => rfl
      have hx1 : (⟨(b :: l2).toArray⟩ : ByteArray).extract 1 (l2.length + 1) = ⟨l2.toArray⟩ := by
        rw [Lib.extract_mk]; simp
      have hgt : Hid ((⟨(b :: l2).toArray⟩ : ByteArray) = ⟨(b :: l2).toArray⟩) := rfl
      have hms : Hid (Lib.strSize (.string ⟨l2.toArray⟩) < Lib.strSize (.string ⟨(b :: l2).toArray⟩)) := by
        show _ < _
        rw [Lib.strSize_string, Lib.strSize_string, Lib.size_mk, Lib.size_mk]; simp
      generalize ht : (⟨(b :: l2).toArray⟩ : ByteArray) = t at hts hb0 hx1 hms ⊢
      have HT : Hid ((⟨(b :: l2).toArray⟩ : ByteArray) = t) := ht
      clear ht hgt
      have h0 : 0 < t.size := by omega
      have hbk := hb0 h0
      clear hb0
      by_cases heq : b = 32
      · have heq' : ((t[0]'h0).toNat : Int) = 32 := by rw [hbk, heq]; rfl
        have HD2 : Hid (l2.dropWhile (· == 32) = D) := by
          show _ = _
          have := HD.out
          simp [heq] at this
          exact this
        clear HD hbk heq HT
        go_wp2
        exact ⟨⟨l2, rfl, HD2⟩, hms.out⟩
      · have hbeq : (((t[0]'h0).toNat : Int) == 32) = false := by
          rw [hbk]
          simp
          intro e
          exact heq (UInt8.toNat_inj.1 (by show b.toNat = 32; omega))
        have HD2 : Hid (D = b :: l2) := by
          show _ = _
          have := HD.out
          simp [heq] at this
          exact this.symm
        clear HD hbk heq hms
        go_wp2
        go_ret
        rw [HD2.out, HT.out]
        exact ⟨rfl, rfl⟩

set_option maxRecDepth 100000 in
set_option maxHeartbeats 2000000 in
theorem trim_any (l : List UInt8) (w : World) :
    Calls Tryd.prog 85 #[.string ⟨l.toArray⟩, .string ⟨#[32]⟩] w fun e w' => e = .returned (.string ⟨(l.dropWhile (· == 32)).toArray⟩) ∧ w' = w := by
  have A := fun w => trimByte_any l w
  have HL : Hid (∀ t, (⟨l.toArray⟩ : ByteArray) = t → t.toList = [] → l = []) := fun t h e => by
    subst h
    rw [Lib.toList_data] at e
    simpa using e
  obtain ⟨D, HD⟩ : ∃ D, Hid (l.dropWhile (· == 32) = D) := ⟨_, rfl⟩
  rw [HD.out] at A ⊢
  cases l with
  | nil =>
    have h : D = [] := HD.out.symm.trans rfl
    subst h
    clear HD A HL
    go_enter Tryd.func85, Tryd.ntmps85
    go_wp2
    go_ret
    exact ⟨rfl, rfl⟩
  | cons b l2 =>
    have hne : ((⟨(b :: l2).toArray⟩ : ByteArray).toList == []) = false := by
      rw [Lib.toList_data]; simp
    have hne2 : (⟨(b :: l2).toArray⟩ : ByteArray).toList.isEmpty = false := by
      rw [Lib.toList_data]; simp
    have i1 : ∀ w, (Instr.index 9 (.string ⟨#[32]⟩) (.int .i64 0)).run Tryd.prog w = .ok (.int .u8 32) w := fun _ => by kernel_rfl
    generalize (⟨(b :: l2).toArray⟩ : ByteArray) = t at *
    clear HD HL
    go_enter Tryd.func85, Tryd.ntmps85
    go_wp2_with fail
    refine (A _).mono ?_
    rintro e w1 ⟨rfl, rfl⟩
    clear A
    go_wp2
    go_ret
    exact ⟨rfl, rfl⟩

set_option maxRecDepth 100000 in
set_option maxHeartbeats 2000000 in
theorem liteIndex_any (t : ByteArray) (w : World) :
    Calls Tryd.prog 108 #[.string t, .string ⟨#[32]⟩] w fun e w' => e = .returned (.int .i64 (Lib.indexByte t.data.toList 32)) ∧ w' = w := by
  have A := fun w => liteByte_any t 32 w
  have i1 : ∀ w, (Instr.index 9 (.string ⟨#[32]⟩) (.int .i64 0)).run Tryd.prog w = .ok (.int .u8 32) w := fun _ => by kernel_rfl
  by_cases h : ([32] == t.toList) = true
  · have e : t.data.toList = [32] := by rw [← Lib.toList_data]; exact (beq_iff_eq.1 h).symm
    have HI : Hid (Lib.indexByte t.data.toList 32 = 0) := by show _ = _; rw [e]; rfl
    clear A e
    go_enter Tryd.func108, Tryd.ntmps108
    go_wp2
    go_ret
    rw [HI.out]
    exact ⟨rfl, rfl⟩
  · have h2 : ([32] == t.toList) = false := by simpa using h
    clear h
    go_enter Tryd.func108, Tryd.ntmps108
    go_wp2_with fail
    refine (A _).mono ?_
    rintro e w1 ⟨rfl, rfl⟩
    clear A
    go_wp2
    go_ret
    exact ⟨rfl, rfl⟩

/-- What Cut at a blank gives. -/
def cutL (t : List UInt8) : List UInt8 × List UInt8 := (t.takeWhile (· != 32), (t.dropWhile (· != 32)).drop 1)

theorem nextL_cut (l : List UInt8) : nextL l = cutL (l.dropWhile (· == 32)) := rfl

set_option maxRecDepth 100000 in
set_option maxHeartbeats 4000000 in
theorem liteCut_any (t : List UInt8) (ht : t.length ≤ 1048576) (w : World) :
    Calls Tryd.prog 94 #[.string ⟨t.toArray⟩, .string ⟨#[32]⟩] w fun e w' => ∃ b, e = .returned (.tuple #[.string ⟨(cutL t).1.toArray⟩, .string ⟨(cutL t).2.toArray⟩, .bool b]) ∧ ∃ n, w' = w.drewN n := by
  have A := fun w => liteIndex_any ⟨t.toArray⟩ w
  have hge := Lib.indexByte_ge t 32
  by_cases c : Lib.indexByte t 32 = -1
  · obtain ⟨c1, c2⟩ := cut_miss t c
    unfold cutL
    rw [c1, c2]
    have A2 := fun w => (c ▸ A w : Calls Tryd.prog 108 #[.string ⟨t.toArray⟩, .string ⟨#[32]⟩] w fun e w' => e = .returned (.int .i64 (-1)) ∧ w' = w)
    generalize (⟨t.toArray⟩ : ByteArray) = s at *
    clear A c hge c1 c2
    go_enter Tryd.func94, Tryd.ntmps94
    go_wp2_with fail
    refine (A2 _).mono ?_
    rintro e w1 ⟨rfl, rfl⟩
    clear A2
    go_wp2
    go_ret3
    exact ⟨_, rfl, 0, rfl⟩
  · obtain ⟨i, hi⟩ : ∃ i : Nat, Lib.indexByte t 32 = (i : Int) := ⟨(Lib.indexByte t 32).toNat, by omega⟩
    obtain ⟨c0, c1, c2⟩ := cut_hit t i hi
    unfold cutL
    rw [c1, c2]
    have A2 := fun w => (hi ▸ A w : Calls Tryd.prog 108 #[.string ⟨t.toArray⟩, .string ⟨#[32]⟩] w fun e w' => e = .returned (.int .i64 (i : Int)) ∧ w' = w)
    have s1 : (⟨t.toArray⟩ : ByteArray).extract 0 i = ⟨(t.take i).toArray⟩ := by rw [Lib.extract_mk]; simp
    have s2 : (⟨t.toArray⟩ : ByteArray).extract (i + 1) t.length = ⟨(t.drop (i + 1)).toArray⟩ := by
      rw [Lib.extract_mk, List.take_of_length_le (by simp)]
    have hsz : (⟨t.toArray⟩ : ByteArray).size = t.length := rfl
    rw [← s1, ← s2]
    generalize (⟨t.toArray⟩ : ByteArray) = s at *
    have k1 : (i : Int) < (t.length : Int) := by omega
    clear A c hge c1 c2 s1 s2 hi
    go_enter Tryd.func94, Tryd.ntmps94
    go_wp2_with fail
    refine (A2 _).mono ?_
    rintro e w1 ⟨rfl, rfl⟩
    clear A2
    go_wp2_with fail
    go_quiet (fail)
    go_wp2
    go_ret3
    exact ⟨_, rfl, _, rfl⟩
end Go.Proofs.YtanfebccenfffaaDoor

namespace Go.Proofs.YtanfebccenfffaaDoor
open Go.RowKit

set_option maxRecDepth 100000 in
set_option maxHeartbeats 1000000 in
theorem plainElem_any (n : Int) (w : World) : Calls Tryd.prog 91 #[.int .i64 n] w fun e w' => e = .returned (.agg #[.int .i64 n, .int .i64 32, .int .i64 2, .bool false]) ∧ Below w.heap.size w w' := by
  go_enter Tryd.func91, Tryd.ntmps91
  go_wp2
  refine bodyPost_ret (v := .agg #[.int .i64 n, .int .i64 32, .int .i64 2, .bool false]) ?_ rfl ⟨rfl, (Below.refl _ _).alloc (Nat.le_refl _) _⟩
  rw [results_cell1 rfl]
  go_simp

/-- The interface value of what a rune weighs. -/
def wtV : List El → Value
  | [] => .iface 112 (.agg #[])
  | [e] => .iface 96 (.agg #[.int .i64 e.first, .int .i64 e.second, .int .i64 e.third, .bool e.varies])
  | e :: f :: _ => .iface 116 (.agg #[.int .i64 e.first, .int .i64 e.second, .int .i64 e.third, .bool e.varies, .int .i64 f.first, .int .i64 f.second, .int .i64 f.third, .bool f.varies])

theorem ret_w {x y : Value} (h : x = y) : Ending.returned x = .returned y := by rw [h]

set_option maxRecDepth 100000 in
set_option maxHeartbeats 2000000 in
theorem weight_ctl (r : Int) (h0 : 0 ≤ r) (h : r ≤ 31 ∨ r = 127) (w : World) :
    Calls Tryd.prog 80 #[.int .i64 r] w fun e w' => e = .returned (wtV (base r)) ∧ Below w.heap.size w w' := by
  rw [base_ctl h0 h]
  unfold wtV
  by_cases h1 : r ≤ 31
  · clear h
    go_enter Tryd.func80, Tryd.ntmps80
    go_wp2
    go_ret
    exact ⟨rfl, Below.refl _ _⟩
  · have h2 : r = 127 := by omega
    subst h2
    clear h h0 h1
    go_enter Tryd.func80, Tryd.ntmps80
    go_wp2
    go_ret
    exact ⟨rfl, Below.refl _ _⟩

set_option maxRecDepth 100000 in
set_option maxHeartbeats 2000000 in
theorem weight_vs (r : Int) (i : Nat) (h : placeIn vsl r = some i) (hr : r ∈ vsl) (w : World) :
    Calls Tryd.prog 80 #[.int .i64 r] w fun e w' => e = .returned (wtV (base r)) ∧ Below w.heap.size w w' := by
  obtain ⟨b0, b1, _, _, _⟩ := vsl_bd r hr
  have hi : i < 9 := by unfold placeIn at h; exact (List.findIdx?_eq_some_iff_getElem.1 h).1
  have I := fun w => idxRune_any r (by omega) (by omega) (by omega) w
  have e : idxV r = (i : Int) := by unfold idxV; rw [h]
  rw [e] at I
  rw [base_vs h]
  unfold wtV
  have h1 : ¬ r ≤ 31 := by omega
  have h2 : (r == 127) = false := by simp; omega
  have HC : Hid ((i : Int) + 1 = 1 + (i : Int)) := by show _ = _; omega
  clear h hr e
  go_enter Tryd.func80, Tryd.ntmps80
  go_wp2_with fail
  refine (I _).mono ?_
  rintro e w1 ⟨rfl, b1⟩
  clear I
  go_wp2
  go_ret
  exact ⟨ret_w (by rw [HC.out]; rfl), b1⟩

set_option maxRecDepth 100000 in
set_option maxHeartbeats 2000000 in
theorem weight_digit (r : Int) (h : 48 ≤ r ∧ r ≤ 57) (w : World) :
    Calls Tryd.prog 80 #[.int .i64 r] w fun e w' => e = .returned (wtV (base r)) ∧ Below w.heap.size w w' := by
  have I := fun w => idxRune_any r (by omega) (by omega) (by omega) w
  have P := fun n w => plainElem_any n w
  have e : idxV r = -1 := by unfold idxV; rw [place_out fun c => (vsl_bd r c).2.2.1 h]
  rw [e] at I
  rw [base_digit h]
  unfold wtV
  obtain ⟨h1, h2⟩ := h
  have h3 : ¬ r ≤ 31 := by omega
  have h4 : (r == 127) = false := by simp; omega
  have HC : Hid (2000 + (r - 48) * 100 = 2000 + 100 * (r - 48)) := by show _ = _; omega
  clear e
  go_enter Tryd.func80, Tryd.ntmps80
  go_wp2_with fail
  refine (I _).mono ?_
  rintro e w1 ⟨rfl, b1⟩
  clear I
  go_wp2_with fail
  refine (P _ _).mono ?_
  rintro e w2 ⟨rfl, b2⟩
  clear P
  go_wp2
  go_ret
  exact ⟨ret_w (by rw [HC.out]; rfl), b1.trans (b2.mono b1.size)⟩

set_option maxRecDepth 100000 in
set_option maxHeartbeats 2000000 in
theorem weight_small (r : Int) (h : 97 ≤ r ∧ r ≤ 122) (w : World) :
    Calls Tryd.prog 80 #[.int .i64 r] w fun e w' => e = .returned (wtV (base r)) ∧ Below w.heap.size w w' := by
  have I := fun w => idxRune_any r (by omega) (by omega) (by omega) w
  have P := fun n w => plainElem_any n w
  have e : idxV r = -1 := by unfold idxV; rw [place_out fun c => (vsl_bd r c).2.2.2.1 h]
  rw [e] at I
  rw [base_small h]
  unfold wtV
  obtain ⟨h1, h2⟩ := h
  have h3 : ¬ r ≤ 31 := by omega
  have h4 : (r == 127) = false := by simp; omega
  have h5 : ¬ r ≤ 57 := by omega
  have HC : Hid (4000 + (r - 97) * 200 = 4000 + 200 * (r - 97)) := by show _ = _; omega
  clear e
  go_enter Tryd.func80, Tryd.ntmps80
  go_wp2_with fail
  refine (I _).mono ?_
  rintro e w1 ⟨rfl, b1⟩
  clear I
  go_wp2_with fail
  refine (P _ _).mono ?_
  rintro e w2 ⟨rfl, b2⟩
  clear P
  go_wp2
  go_ret
  exact ⟨ret_w (by rw [HC.out]; rfl), b1.trans (b2.mono b1.size)⟩

set_option maxRecDepth 100000 in
set_option maxHeartbeats 2000000 in
theorem weight_cap (r : Int) (h : 65 ≤ r ∧ r ≤ 90) (w : World) :
    Calls Tryd.prog 80 #[.int .i64 r] w fun e w' => e = .returned (wtV (base r)) ∧ Below w.heap.size w w' := by
  have I := fun w => idxRune_any r (by omega) (by omega) (by omega) w
  have P := fun n w => plainElem_any n w
  have e : idxV r = -1 := by unfold idxV; rw [place_out fun c => (vsl_bd r c).2.2.2.2 h]
  rw [e] at I
  rw [base_cap h]
  unfold wtV
  obtain ⟨h1, h2⟩ := h
  have h3 : ¬ r ≤ 31 := by omega
  have h4 : (r == 127) = false := by simp; omega
  have h5 : ¬ r ≤ 57 := by omega
  have h6 : ¬ 97 ≤ r := by omega
  have HC : Hid (4000 + (r - 65) * 200 = 4000 + 200 * (r - 65)) := by show _ = _; omega
  clear e
  go_enter Tryd.func80, Tryd.ntmps80
  go_wp2_with fail
  refine (I _).mono ?_
  rintro e w1 ⟨rfl, b1⟩
  clear I
  go_wp2_with fail
  refine (P _ _).mono ?_
  rintro e w2 ⟨rfl, b2⟩
  clear P
  have b3 := b1.trans (b2.mono b1.size)
  go_wp2
  go_ret
  exact ⟨ret_w (by rw [HC.out]; rfl), b3.alloc b3.size _⟩

theorem mkl_at (k : Nat) (hk : k < 15) : mkl[k]? = some (at0 (marksT.getD k []) 0) := by
  iterate 15 (rcases k with _ | k; · rfl)
  omega

set_option maxRecDepth 100000 in
set_option maxHeartbeats 4000000 in
theorem weight_far (r : Int) (h0 : 0 ≤ r) (hr1 : r ≤ 1114111) (hs : ¬ (55296 ≤ r ∧ r ≤ 57343)) (hv : placeIn vsl r = none) (h1 : ¬ (r ≤ 31 ∨ r = 127)) (h2 : ¬ (48 ≤ r ∧ r ≤ 57)) (h3 : ¬ (97 ≤ r ∧ r ≤ 122)) (h4 : ¬ (65 ≤ r ∧ r ≤ 90)) (w : World) (hm : Held w 2 marksF) :
    Calls Tryd.prog 80 #[.int .i64 r] w fun e w' => e = .returned (wtV (base r)) ∧ Below w.heap.size w w' := by
  have I := fun w => idxRune_any r h0 hr1 hs w
  have P := fun n w => plainElem_any n w
  have e : idxV r = -1 := by unfold idxV; rw [hv]
  rw [e] at I
  have B2 : Hid (placeIn mkl r = none → base r = [⟨60000 + r / 32768, 32, 2, false⟩, ⟨32768 + r % 32768, 0, 0, false⟩]) := fun h => base_two hv h h1 h2 h3 h4
  have BM : Hid (∀ i, placeIn mkl r = some i → base r = [⟨0, 40 + (i : Int), 2, false⟩]) := fun i h => base_mk hv h
  have c1 : ¬ r ≤ 31 := fun c => h1 (.inl c)
  have c2 : (r == 127) = false := by simp; omega
  have cs : r < 48 ∨ (57 < r ∧ r < 65) ∨ (90 < r ∧ r < 97) ∨ 122 < r := by omega
  have hq : Int.tdiv r 32768 = r / 32768 := Int.tdiv_eq_ediv_of_nonneg h0
  have hp : Int.tmod r 32768 = r % 32768 := Int.tmod_eq_emod_of_nonneg h0
  clear e h1 hv hs h2 h3 h4
  rcases cs with d | ⟨d, d'⟩ | ⟨d, d'⟩ | d
  all_goals
    go_enter Tryd.func80, Tryd.ntmps80
    go_wp2_with fail
    refine (I _).mono ?_
    rintro e w1 ⟨rfl, b1⟩
    clear I
    obtain ⟨t, fr, hh0⟩ := hm.below b1 hm.lt
    have hh : w1.heap[2]? = some (.cells marksA t fr) := hh0
    clear hh0 hm
    go_wp2_with (refine wpList_load_row rfl 103 (.global 2) rfl 2 rfl t marksA fr _ hh Tryd.underlying103 rfl (by kernel_rfl) ?_)
    clear hh
    go_loopw [67] (fun i wr => ∃ k : Nat, k ≤ 15 ∧ i = .int .i64 k ∧ Hid (NotYet mkl r k) ∧ Below w.heap.size w wr) (fun i _ => 15 - (intOf i).toNat)
    case atStart => exact ⟨0, Nat.zero_le _, rfl, fun j x hj => by omega, b1⟩
    case round =>
      obtain ⟨k, hk, rfl, HN, hb⟩ := hrel
      by_cases hlt : k < 15
      · have hi := fun w => marks_index k hlt w
        have HX : Hid (mkl[k]? = some (at0 (marksT.getD k []) 0)) := mkl_at k hlt
        generalize at0 (marksT.getD k []) 0 = a at *
        generalize at0 (marksT.getD k []) 1 = b at *
        have hk8 : (k : Int) < 15 := by omega
        by_cases e : a = r
        · subst e
          have HR : Hid (base a = [⟨0, 40 + (k : Int), 2, false⟩]) := BM.out k (place_hit HN.out HX.out)
          clear HN HX B2 BM P
          go_wp2
          go_ret
          rw [HR.out]
          exact ⟨rfl, hb.alloc hb.size _⟩
        · have e2 : (a == r) = false := by simpa using e
          have HN2 : Hid (NotYet mkl r (k + 1)) := HN.out.succ HX.out e
          clear e HN HX B2 BM P
          go_wp2
          exact ⟨⟨k + 1, by omega, by go_num, HN2, hb.alloc hb.size _⟩, by simp [intOf]; omega⟩
      · have HR : Hid (base r = [⟨60000 + r / 32768, 32, 2, false⟩, ⟨32768 + r % 32768, 0, 0, false⟩]) := B2.out (place_none HN.out (by show 15 ≤ k; omega))
        clear HN B2 BM
        go_wp2_with fail
        refine (P _ _).mono ?_
        rintro e w2 ⟨rfl, b2⟩
        clear P
        go_wp2
        go_ret
        rw [HR.out]
        exact ⟨rfl, hb.trans (b2.mono hb.size)⟩

theorem weight_any (r : Int) (h0 : 0 ≤ r) (h1 : r ≤ 1114111) (hs : ¬ (55296 ≤ r ∧ r ≤ 57343)) (w : World) (hm : Held w 2 marksF) :
    Calls Tryd.prog 80 #[.int .i64 r] w fun e w' => e = .returned (wtV (base r)) ∧ Below w.heap.size w w' := by
  by_cases c : r ≤ 31 ∨ r = 127
  · exact weight_ctl r h0 c w
  · by_cases v : r ∈ vsl
    · obtain ⟨i, hi, _⟩ := place_in v
      exact weight_vs r i hi v w
    · by_cases d : 48 ≤ r ∧ r ≤ 57
      · exact weight_digit r d w
      · by_cases s : 97 ≤ r ∧ r ≤ 122
        · exact weight_small r s w
        · by_cases u : 65 ≤ r ∧ r ≤ 90
          · exact weight_cap r u w
          · exact weight_far r h0 h1 hs (place_out v) c d s u w hm
end Go.Proofs.YtanfebccenfffaaDoor

namespace Go.Proofs.YtanfebccenfffaaDoor
open Go.RowKit

theorem base_cases (r : Int) : base r = [] ∨ (∃ e, base r = [e]) ∨ ∃ e f, base r = [e, f] := by
  have := base_len r
  match h : base r with
  | [] => exact .inl rfl
  | [e] => exact .inr (.inl ⟨e, rfl⟩)
  | [e, f] => exact .inr (.inr ⟨e, f, rfl⟩)
  | _ :: _ :: _ :: _ => rw [h] at this; simp at this

theorem base_first {r : Int} {e : El} (h : base r = [e]) : 0 ≤ e.first := by
  unfold base at h
  split at h
  · cases h; simp only; omega
  · split at h
    · cases h; simp
    · unfold baseRest at h
      split at h
      · cases h
      · split at h
        · cases h; simp only; omega
        · split at h
          · cases h; simp only; omega
          · split at h
            · cases h; simp only; omega
            · cases h

theorem one3_pos {e : El} (h : 0 < e.first) : one3 [e] = some e := if_neg (by omega)
theorem one3_zero {e : El} (h : 0 ≤ e.first) (h2 : ¬ 0 < e.first) : one3 [e] = none := if_pos (by omega)

/-- The result's block, still zero. -/
def Zel (u : World) (b : Nat) : Prop := u.heap[b]? = some (.cells #[.int .i64 0, .int .i64 0, .int .i64 0, .bool false] 44)
theorem Zel.facts {u : World} {b : Nat} (h : Zel u b) : b < u.heap.size ∧ (u.cell? ⟨b, 0, none⟩ = some (.int .i64 0) ∧ u.cell? ⟨b, 1, none⟩ = some (.int .i64 0) ∧ u.cell? ⟨b, 2, none⟩ = some (.int .i64 0) ∧ u.cell? ⟨b, 3, none⟩ = some (.bool false)) ∧ ∀ j, u.frozen? ⟨b, j, none⟩ = false :=
  ⟨(Array.getElem?_eq_some_iff.1 h).1, ⟨cell_of_row _ _ 0 _ _ _ h, cell_of_row _ _ 1 _ _ _ h, cell_of_row _ _ 2 _ _ _ h, cell_of_row _ _ 3 _ _ _ h⟩, fun j => by simp [World.frozen?, show u.heap[b]? = _ from h]⟩
theorem Zel.below {u u' : World} {b : Nat} (h : Zel u b) (hb : Below u.heap.size u u') : Zel u' b := (hb.block _ h.facts.1).trans h

theorem below_res1 {w wr : World} {b : Nat} (h : Below w.heap.size w wr) (hb : w.heap.size ≤ b) (x y z t : Value) : Below w.heap.size w ((((wr.setCell ⟨b, 0, none⟩ x).setCell ⟨b, 1, none⟩ y).setCell ⟨b, 2, none⟩ z).setCell ⟨b, 3, none⟩ t) :=
  (((h.setCell hb _).setCell hb _).setCell hb _).setCell hb _

theorem below_res1a {w wr : World} (h : Below w.heap.size w wr) (x y z t : Value) (o : Obj) : Below w.heap.size w (((((wr.setCell ⟨w.heap.size, 0, none⟩ x).setCell ⟨w.heap.size, 1, none⟩ y).setCell ⟨w.heap.size, 2, none⟩ z).setCell ⟨w.heap.size, 3, none⟩ t).alloc o) :=
  (below_res1 h (Nat.le_refl _) x y z t).alloc (below_res1 h (Nat.le_refl _) x y z t).size _
end Go.Proofs.YtanfebccenfffaaDoor

namespace Go.Proofs.YtanfebccenfffaaDoor
open Go.RowKit

theorem entAll_take (xs : List Value) (es : List Ent) (k : Nat) : entAll (xs.take k) (es.take k) = (entAll xs es).take (k * 5) := by
  induction k generalizing xs es with
  | zero => simp [entAll]
  | succ k ih =>
    match xs, es with
    | [], _ => simp [entAll]
    | x :: xs, [] => simp [entAll]
    | x :: xs, e :: es =>
      show entC x e.el ++ entAll (xs.take k) (es.take k) = (entC x e.el ++ entAll xs es).take ((k + 1) * 5)
      have e1 : ((entC x e.el).take ((k + 1) * 5)) = entC x e.el := List.take_of_length_le (by show 5 ≤ _; omega)
      have e2 : (k + 1) * 5 - (entC x e.el).length = k * 5 := by show (k + 1) * 5 - 5 = _; omega
      rw [ih xs es, List.take_append, e1, e2]

theorem below_alloc_any (w : World) (o : Obj) : Below w.heap.size w (w.alloc o) := (Below.refl _ _).alloc (Nat.le_refl _) _

def ERel (w : World) (es : List Ent) (l : List Int) (i : Value) (wr : World) : Prop := ∃ k : Nat, k ≤ es.length ∧ i = .int .i64 k ∧ NoEnt es l k ∧ Zel wr w.heap.size ∧ Below w.heap.size w wr

set_option maxRecDepth 100000 in
set_option maxHeartbeats 4000000 in
theorem entry_row (w : World) (B B' g cap : Nat) (es : List Ent) (vl : Value) (l : List Int) (hE : Ents w B (.slice (some ⟨g, 0, none⟩) es.length cap) es) (hL : Ints w B' vl l) (hn : es.length ≤ 1048576) (hl : l.length ≤ 1048576) (hr : ∀ e ∈ es, e.runes.length ≤ 1048576) :
    Calls Tryd.prog 54 #[.slice (some ⟨g, 0, none⟩) es.length cap, vl] w fun e w' => e = .returned (elRes (entOf es l)) ∧ Below w.heap.size w w' := by
  go_enter Tryd.func54, Tryd.ntmps54
  go_wp2
  go_loopw [10] (fun i wr => ERel w es l i wr) (fun i _ => es.length - (intOf i).toNat)
  case atStart => exact ⟨0, Nat.zero_le _, rfl, fun j e hj => by omega, heap_alloc_new _ _, (Below.refl _ _).alloc (Nat.le_refl _) _⟩
  case round =>
    obtain ⟨k, hk, rfl, HN0, hz, hb⟩ := hrel
    have HN : Hid (NoEnt es l k) := HN0
    clear HN0
    by_cases hlt : k < es.length
    · obtain ⟨e, he⟩ : ∃ e, es[k]? = some e := ⟨_, List.getElem?_eq_getElem hlt⟩
      obtain ⟨x, hI, a0, a1, a2, a3, a4⟩ := (hE.below hb).cells k e he
      obtain ⟨xa, xn, xc, rfl⟩ : ∃ xa xn xc, x = .slice xa xn xc := by
        rcases hI.form with ⟨rfl, _⟩ | ⟨_, _, rfl, _, _⟩
        · exact ⟨_, _, _, rfl⟩
        · exact ⟨_, _, _, rfl⟩
      have hk8 : (k : Int) < (es.length : Int) := by omega
      have hrl := hr e (List.mem_of_getElem? he)
      have hbr := (Below.refl wr.heap.size wr).alloc (Nat.le_refl _) (.cells #[.slice xa xn xc, .int .i64 e.el.first, .int .i64 e.el.second, .int .i64 e.el.third, .bool e.el.varies] 46)
      have hba := hb.trans (hbr.mono hb.size)
      have SM := equal_any hrl hl (hI.below hbr) ((hL.below hb).below hbr)
      have HZ : Hid (Zel _ _) := hz.below hbr
      have hlt3 := hz.facts.1
      have HE : Hid _ := he
      clear he hI hE hL hr hz hbr
      go_wp2_with fail
      refine SM.mono ?_
      rintro e' w2 ⟨rfl, n2, rfl⟩
      clear SM a0 a1 a2 a3 a4
      by_cases c : e.runes = l
      · have HA : Hid (entOf es l = some e.el) := entOf_hit HN.out HE.out c
        have c' : decide (e.runes = l) = true := decide_eq_true c
        obtain ⟨hlt2, ⟨q0, q1, q2, q3⟩, f0⟩ := HZ.out.facts
        have hsz := hb.size
        clear HN HE c HZ
        go_wp2
        refine bodyPost_ret (v := .tuple #[.agg #[.int .i64 e.el.first, .int .i64 e.el.second, .int .i64 e.el.third, .bool e.el.varies], .bool true]) ?_ rfl ⟨ret_e HA.out, below_res1 (below_drewN hba n2) (Nat.le_refl _) _ _ _ _⟩
        rw [results_cell_tmp rfl]
        go_simp
      · have HN2 : Hid (NoEnt es l (k + 1)) := HN.out.succ HE.out c
        have c' : decide (e.runes = l) = false := decide_eq_false c
        clear HN HE c
        go_wp2
        exact ⟨⟨k + 1, by omega, by go_num, HN2.out, HZ.out, below_drewN hba n2⟩, by simp [intOf]; omega⟩
    · have HA : Hid (entOf es l = none) := entOf_none HN.out (by omega)
      obtain ⟨hlt2, ⟨q0, q1, q2, q3⟩, f0⟩ := hz.facts
      clear HN hE hr hz
      go_wp2
      refine bodyPost_ret (v := .tuple #[.agg #[.int .i64 0, .int .i64 0, .int .i64 0, .bool false], .bool false]) ?_ rfl ⟨ret_e0 HA.out, below_res1 hb (Nat.le_refl _) _ _ _ _⟩
      rw [results_cell_tmp rfl]
      go_simp

set_option maxRecDepth 100000 in
set_option maxHeartbeats 4000000 in
theorem entry_nil (w : World) (vl : Value) (l : List Int) :
    Calls Tryd.prog 54 #[.slice none 0 0, vl] w fun e w' => e = .returned (elRes (entOf [] l)) ∧ Below w.heap.size w w' := by
  have HA : Hid (entOf [] l = none) := rfl
  have hz : Zel (w.alloc (.cells #[.int .i64 0, .int .i64 0, .int .i64 0, .bool false] 44)) w.heap.size := heap_alloc_new _ _
  obtain ⟨hlt2, ⟨q0, q1, q2, q3⟩, f0⟩ := hz.facts
  clear hz
  go_enter Tryd.func54, Tryd.ntmps54
  go_wp2
  go_loop [10] (fun i => i = .int .i64 0) (fun _ => 0)
  case atStart => rfl
  case round =>
    subst hrel
    go_wp2
    refine bodyPost_ret (v := .tuple #[.agg #[.int .i64 0, .int .i64 0, .int .i64 0, .bool false], .bool false]) ?_ rfl ⟨ret_e0 HA.out, ?_⟩
    · rw [results_cell_tmp rfl]
      go_simp
    · exact below_alloc_any w _

theorem entry_any {w : World} {B B' : Nat} {v vl : Value} {es : List Ent} {l : List Int} (hE : Ents w B v es) (hL : Ints w B' vl l) (hn : es.length ≤ 1048576) (hl : l.length ≤ 1048576) (hr : ∀ e ∈ es, e.runes.length ≤ 1048576) :
    Calls Tryd.prog 54 #[v, vl] w fun e w' => e = .returned (elRes (entOf es l)) ∧ Below w.heap.size w w' := by
  rcases hE.form with ⟨rfl, rfl⟩ | ⟨g, cap, rfl, _, _, _, _⟩
  · exact entry_nil w vl l
  · exact entry_row w B B' g cap es vl l hE hL hn hl hr

/-- The first entries of a row are a row. -/
theorem Ents.take {w : World} {B g cap : Nat} {es : List Ent} (h : Ents w B (.slice (some ⟨g, 0, none⟩) es.length cap) es) (k : Nat) (hk : k ≤ es.length) : Ents w B (.slice (some ⟨g, 0, none⟩) k cap) (es.take k) := by
  obtain ⟨xs, hl, ⟨h1, h2⟩, h3⟩ := h
  have hlk : (es.take k).length = k := by rw [List.length_take]; omega
  refine ⟨xs.take k, by rw [List.length_take, List.length_take, hl], ?_, fun i e he => ?_⟩
  · have hcut : entAll (xs.take k) (es.take k) = (entAll xs es).take (k * 5) := entAll_take xs es k
    rcases h2 with ⟨a, b⟩ | ⟨g', cap', cur, a, b, c, d, e, f, f2⟩
    · cases a
    · refine ⟨by rw [entAll_len _ _ (by rw [List.length_take, List.length_take, hl])], ?_⟩
      rw [hlk]
      injection a with a1 a2 a3
      injection a1 with a4
      injection a4 with a5
      subst a5
      subst a3
      refine .inr ⟨g, cap, cur, rfl, b, c, by omega, e, f, ?_⟩
      rw [hcut, ← f2, List.take_take, Nat.min_eq_left (Nat.mul_le_mul_right 5 hk)]
  · have hik : i < k := by
      have := (List.getElem?_eq_some_iff.1 he).1
      omega
    rw [List.getElem?_take_of_lt hik] at he
    obtain ⟨x, hx, hI⟩ := h3 i e he
    exact ⟨x, by rw [List.getElem?_take_of_lt hik]; exact hx, hI⟩
end Go.Proofs.YtanfebccenfffaaDoor

namespace Go.Proofs.YtanfebccenfffaaDoor
open Go.RowKit

/-- What stands in the region that looks for an entry with the same runes ahead. -/
def Gin (w0 : World) (b1 b4 : Nat) (v x : Value) (u : World) : Prop := u.cell? ⟨b1, 0, none⟩ = some v ∧ u.cell? ⟨b4, 0, none⟩ = some x ∧ Below w0.heap.size w0 u
theorem Gin.keep {w0 w1 w2 : World} {b1 b4 : Nat} {v x : Value} (h1 : b1 < w0.heap.size) (h4 : b4 < w0.heap.size) (hb : Below w1.heap.size w1 w2) (h : Gin w0 b1 b4 v x w1) : Gin w0 b1 b4 v x w2 := by
  obtain ⟨a, b, c⟩ := h
  exact ⟨by rw [hb.cell (Nat.lt_of_lt_of_le h1 c.size)]; exact a, by rw [hb.cell (Nat.lt_of_lt_of_le h4 c.size)]; exact b, c.trans (hb.mono c.size)⟩

theorem Gin.set4 {w0 u : World} {b1 b4 : Nat} {v x : Value} (h1 : b1 < w0.heap.size) (h4 : b4 < w0.heap.size) (a b c d : Value) (h : Gin w0 b1 b4 v x u) : Gin w0 b1 b4 v x ((((u.setCell ⟨w0.heap.size, 0, none⟩ a).setCell ⟨w0.heap.size, 1, none⟩ b).setCell ⟨w0.heap.size, 2, none⟩ c).setCell ⟨w0.heap.size, 3, none⟩ d) := by
  obtain ⟨p, q, r⟩ := h
  have n1 : ∀ (m : World) (o : Nat) (y : Value), (m.setCell ⟨w0.heap.size, o, none⟩ y).cell? ⟨b1, 0, none⟩ = m.cell? ⟨b1, 0, none⟩ := fun m o y => World.cell?_setCell_other _ _ _ _ (fun e => by injection e; omega)
  have n4 : ∀ (m : World) (o : Nat) (y : Value), (m.setCell ⟨w0.heap.size, o, none⟩ y).cell? ⟨b4, 0, none⟩ = m.cell? ⟨b4, 0, none⟩ := fun m o y => World.cell?_setCell_other _ _ _ _ (fun e => by injection e; omega)
  exact ⟨by rw [n1, n1, n1, n1]; exact p, by rw [n4, n4, n4, n4]; exact q, (((r.setCell (Nat.le_refl _) _).setCell (Nat.le_refl _) _).setCell (Nat.le_refl _) _).setCell (Nat.le_refl _) _⟩

theorem entry_keep {u : World} {B B' n : Nat} {v vl : Value} {es : List Ent} {l : List Int} (hE : Ents u B v es) (hL : Ints u B' vl l) (hn : es.length ≤ 1048576) (hl : l.length ≤ 1048576) (hr : ∀ e ∈ es, e.runes.length ≤ 1048576) :
    Calls Tryd.prog 54 #[v, vl] u fun e w' => e = .returned (elRes (entOf es l)) ∧ Below u.heap.size u w' ∧ (∀ j, n < u.heap.size → w'.cell? ⟨n, j, none⟩ = u.cell? ⟨n, j, none⟩) ∧ ∀ j, n < u.heap.size → w'.frozen? ⟨n, j, none⟩ = u.frozen? ⟨n, j, none⟩ :=
  (entry_any hE hL hn hl hr).mono fun _ _ h => ⟨h.1, h.2, fun _ hj => h.2.cell hj, fun j hj => h.2.frozen (p := ⟨n, j, none⟩) hj⟩

theorem entOk_split (es : List Ent) (i : Nat) (e : Ent) : entOk es i e = (runesOk e.runes && (decide (atE es e.runes = (i : Int)) && elOk e.el)) := rfl

set_option maxRecDepth 100000 in
set_option maxHeartbeats 2000000 in
theorem good3i_long (w : World) (a : Option Addr) (n c : Nat) (sh : Bool) (lv : Int) (h : 40 < n) : Calls Tryd.prog 20 #[.agg #[.slice a n c, .bool sh, .int .i64 lv]] w fun e w' => e = .returned (.bool false) ∧ Below w.heap.size w w' := by
  have h2 : (40 : Int) < (n : Int) := by omega
  go_enter Tryd.func20, Tryd.ntmps20
  go_wp2
  go_ret
  exact ⟨rfl, (Below.refl _ _).alloc (Nat.le_refl _) _⟩

set_option maxRecDepth 100000 in
set_option maxHeartbeats 2000000 in
theorem good3i_lev (w : World) (a : Option Addr) (n c : Nat) (sh : Bool) (lv : Int) (h : n ≤ 40) (hl : ¬ (1 ≤ lv ∧ lv ≤ 4)) : Calls Tryd.prog 20 #[.agg #[.slice a n c, .bool sh, .int .i64 lv]] w fun e w' => e = .returned (.bool false) ∧ Below w.heap.size w w' := by
  have h2 : ¬ (40 : Int) < (n : Int) := by omega
  by_cases h3 : lv < 1
  · clear hl
    go_enter Tryd.func20, Tryd.ntmps20
    go_wp2
    go_ret
    exact ⟨rfl, (Below.refl _ _).alloc (Nat.le_refl _) _⟩
  · have h4 : 4 < lv := by omega
    clear hl
    go_enter Tryd.func20, Tryd.ntmps20
    go_wp2
    go_ret
    exact ⟨rfl, (Below.refl _ _).alloc (Nat.le_refl _) _⟩

set_option maxRecDepth 100000 in
set_option maxHeartbeats 2000000 in
theorem good3i_nil (w : World) (sh : Bool) (lv : Int) (hl : 1 ≤ lv ∧ lv ≤ 4) : Calls Tryd.prog 20 #[.agg #[.slice none 0 0, .bool sh, .int .i64 lv]] w fun e w' => e = .returned (.bool true) ∧ Below w.heap.size w w' := by
  obtain ⟨h3, h4⟩ := hl
  go_enter Tryd.func20, Tryd.ntmps20
  go_wp2
  go_loop [24] (fun i => i = .int .i64 0) (fun _ => 0)
  case atStart => rfl
  case round =>
    subst hrel
    go_wp2
    go_ret
    exact ⟨rfl, (Below.refl _ _).alloc (Nat.le_refl _) _⟩

/-- The block of an entry that is looked at. -/
def Eb (u : World) (b : Nat) (x : Value) (e : El) : Prop := u.heap[b]? = some (.cells #[x, .int .i64 e.first, .int .i64 e.second, .int .i64 e.third, .bool e.varies] 46)
theorem Eb.facts {u : World} {b : Nat} {x : Value} {e : El} (h : Eb u b x e) : b < u.heap.size ∧ u.cell? ⟨b, 0, none⟩ = some x ∧ u.cell? ⟨b, 1, none⟩ = some (.int .i64 e.first) ∧ u.cell? ⟨b, 2, none⟩ = some (.int .i64 e.second) ∧ u.cell? ⟨b, 3, none⟩ = some (.int .i64 e.third) ∧ u.cell? ⟨b, 4, none⟩ = some (.bool e.varies) :=
  ⟨(Array.getElem?_eq_some_iff.1 h).1, cell_of_row _ _ 0 _ _ _ h, cell_of_row _ _ 1 _ _ _ h, cell_of_row _ _ 2 _ _ _ h, cell_of_row _ _ 3 _ _ _ h, cell_of_row _ _ 4 _ _ _ h⟩
theorem Eb.below {u u' : World} {b : Nat} {x : Value} {e : El} (h : Eb u b x e) (hb : Below u.heap.size u u') : Eb u' b x e := (hb.block _ h.facts.1).trans h

set_option maxRecDepth 100000 in
set_option maxHeartbeats 8000000 in
theorem good3i_row (w : World) (B g cap : Nat) (es : List Ent) (sh : Bool) (lv : Int) (hE : Ents w B (.slice (some ⟨g, 0, none⟩) es.length cap) es) (hn : es.length ≤ 40) (hl : 1 ≤ lv ∧ lv ≤ 4) (hr : ∀ e ∈ es, e.runes.length ≤ 1048576) (ht : Tabs3 w) :
    Calls Tryd.prog 20 #[.agg #[.slice (some ⟨g, 0, none⟩) es.length cap, .bool sh, .int .i64 lv]] w fun e w' => e = .returned (.bool (rulesOk es lv)) ∧ Below w.heap.size w w' := by
  obtain ⟨hl1, hl2⟩ := hl
  have hn2 : ¬ (40 : Int) < (es.length : Int) := by omega
  have HT : Hid (Tabs3 w) := ht
  have hcap : es.length ≤ cap ∧ cap ≤ maxLen := by
    rcases hE.form with ⟨h, _⟩ | ⟨_, _, h, h2, h3, _, _⟩
    · cases h
    · cases h; exact ⟨h2, h3⟩
  unfold maxLen at hcap
  clear ht
  go_enter Tryd.func20, Tryd.ntmps20
  go_wp2
  go_loopw [24] (fun i wr => GRel w (.slice (some ⟨g, 0, none⟩) es.length cap) sh lv es i wr) (fun i _ => es.length - (intOf i).toNat)
  case atStart => exact ⟨0, Nat.zero_le _, rfl, fun i e hi => by omega, ⟨by simp, by simp [World.cell?_alloc_new], by simp [World.cell?_alloc_new], by simp [World.cell?_alloc_new]⟩, (Below.refl _ _).alloc (Nat.le_refl _) _⟩
  case round =>
    obtain ⟨k, hk, rfl, HN0, hbx, hb⟩ := hrel
    have HN : Hid (EntsTo es k) := HN0
    clear HN0
    by_cases hlt : k < es.length
    · obtain ⟨e, he⟩ : ∃ e, es[k]? = some e := ⟨_, List.getElem?_eq_getElem hlt⟩
      obtain ⟨x, hI, a0, a1, a2, a3, a4⟩ := (hE.below hb).cells k e he
      obtain ⟨xa, xn, xc, rfl⟩ : ∃ xa xn xc, x = .slice xa xn xc := by
        rcases hI.form with ⟨rfl, _⟩ | ⟨_, _, rfl, _, _⟩
        · exact ⟨_, _, _, rfl⟩
        · exact ⟨_, _, _, rfl⟩
      have hk8 : (k : Int) < (es.length : Int) := by omega
      have hrl := hr e (List.mem_of_getElem? he)
      have hbr := (Below.refl wr.heap.size wr).alloc (Nat.le_refl _) (.cells #[.slice xa xn xc, .int .i64 e.el.first, .int .i64 e.el.second, .int .i64 e.el.third, .bool e.el.varies] 46)
      have hba := hb.trans (hbr.mono hb.size)
      have hE2 := (hE.below hb).below hbr
      have JN := joined_any hrl (hI.below hbr) ((HT.out.below hb).below hbr)
      have HE : Hid _ := he
      have HI2 : Hid (Ints _ _ _ _) := hI.below hbr
      have HE2 : Hid (Ents _ _ _ _) := hE2
      have HB : Hid (Below _ _ _) := hba
      have HX : Hid (Box3 _ _ _ _ _) := hbx.below hbr
      have HG : Hid (Eb _ _ _ _) := show Eb (wr.alloc _) wr.heap.size (.slice xa xn xc) e.el from heap_alloc_new _ _
      clear he hI hE2 hba hbr hbx hb HT
      go_wp2_with fail
      refine JN.mono ?_
      rintro e' w2 ⟨rfl, b2⟩
      have c2 : Hid (Below _ _ _) := HB.out.trans (b2.mono HB.out.size)
      have g2 : Hid (Eb _ _ _ _) := HG.out.below b2
      have x2 : Hid (Box3 _ _ _ _ _) := HX.out.below b2
      have i2 : Hid (Ints _ _ _ _) := HI2.out.below b2
      have ee2 : Hid (Ents _ _ _ _) := HE2.out.below b2
      clear JN a0 a1 a2 a3 a4 HB HX HG HI2 HE2 b2
      cases r1 : runesOk e.runes
      · have HF : Hid (rulesOk es lv = false) := rulesOk_ent HE.out (by rw [entOk_split, r1, Bool.false_and])
        clear HN HE hE hr
        go_wp2
        go_ret
        rw [HF.out]
        exact ⟨rfl, c2.out⟩
      · obtain ⟨_, d0, d1, d2, d3, d4⟩ := g2.out.facts
        have GE := fun w => goodElem_any e.el w
        go_wp2_with fail
        refine (GE _).mono ?_
        rintro e' w3 ⟨rfl, b3⟩
        have c3 : Hid (Below _ _ _) := c2.out.trans (b3.mono c2.out.size)
        have g3 : Hid (Eb _ _ _ _) := g2.out.below b3
        have x3 : Hid (Box3 _ _ _ _ _) := x2.out.below b3
        have i3 : Hid (Ints _ _ _ _) := i2.out.below b3
        have ee3 : Hid (Ents _ _ _ _) := ee2.out.below b3
        clear GE d0 d1 d2 d3 d4 c2 g2 x2 i2 ee2 b3
        cases r2 : elOk e.el
        · have HF : Hid (rulesOk es lv = false) := rulesOk_ent HE.out (by rw [entOk_split, r2]; simp)
          clear HN HE hE hr
          go_wp2
          go_ret
          rw [HF.out]
          exact ⟨rfl, c3.out⟩
        · have hk9 : (k : Int) ≤ (cap : Int) := by omega
          have hg4 := g3.out.facts.1
          have hg1 := x3.out.1
          have hS : w3.cell? ⟨w.heap.size, 0, none⟩ = some (.slice (some ⟨g, 0, none⟩) es.length cap) ∧ w3.cell? ⟨wr.heap.size, 0, none⟩ = some (.slice xa xn xc) ∧ Below w3.heap.size w3 w3 := ⟨x3.out.2.1, g3.out.facts.2.1, Below.refl _ _⟩
          have hS2 := Gin.keep hg1 hg4 ((Below.refl w3.heap.size w3).drew) hS
          have K := fun (u1 u2 : World) (hb : Below u1.heap.size u1 u2) (hu : u1.cell? ⟨w.heap.size, 0, none⟩ = some (.slice (some ⟨g, 0, none⟩) es.length cap) ∧ u1.cell? ⟨wr.heap.size, 0, none⟩ = some (.slice xa xn xc) ∧ Below w3.heap.size w3 u1) => Gin.keep hg1 hg4 hb hu
          have hS3 := Gin.keep hg1 hg4 (((Below.refl w3.heap.size w3).alloc (Nat.le_refl _) (.cells #[.int .i64 0, .int .i64 0, .int .i64 0, .bool false] 44)).drew) hS
          have K4 := fun (u : World) (a b c d : Value) (hu : u.cell? ⟨w.heap.size, 0, none⟩ = some (.slice (some ⟨g, 0, none⟩) es.length cap) ∧ u.cell? ⟨wr.heap.size, 0, none⟩ = some (.slice xa xn xc) ∧ Below w3.heap.size w3 u) => Gin.set4 hg1 hg4 a b c d hu
          unfold Gin at hS2 hS3 K K4
          have EN := fun (u : World) (hu : u.cell? ⟨w.heap.size, 0, none⟩ = some (.slice (some ⟨g, 0, none⟩) es.length cap) ∧ u.cell? ⟨wr.heap.size, 0, none⟩ = some (.slice xa xn xc) ∧ Below w3.heap.size w3 u) => entry_keep (n := w3.heap.size) ((ee3.out.below hu.2.2).take k hk) (i3.out.below hu.2.2) (by rw [List.length_take]; omega) hrl (fun x hx => hr x (List.mem_of_mem_take hx))
          have HW : Hid (entOf (es.take k) e.runes = none ↔ atE es e.runes = (k : Int)) := atE_here HE.out
          obtain ⟨o, ho⟩ : ∃ o, entOf (es.take k) e.runes = o := ⟨_, rfl⟩
          rw [ho] at EN
          unfold elRes elV at EN
          have HO : Hid (entOf (es.take k) e.runes = o) := ho
          clear ho
          have HXE : Hid (o.isSome = false → EntsTo es (k + 1)) := fun c => HN.out.succ HE.out (by rw [entOk_split, r1, r2, decide_eq_true (HW.out.1 (by rw [HO.out]; simpa using c))]; rfl)
          have HXF : Hid (o.isSome = true → rulesOk es lv = false) := fun c => rulesOk_ent HE.out (by
            have : ¬ atE es e.runes = (k : Int) := fun d => by rw [HW.out.2 d] at HO; have := HO.out; rw [← this] at c; simp at c
            rw [entOk_split, decide_eq_false this]; simp)
          clear HW HO HE HN r1 r2 ee3 i3
          generalize elOf o = x0 at *
          generalize o.isSome = ob at *
          go_wp2_with fail
          go_region_held3 (fun u => u.cell? ⟨w.heap.size, 0, none⟩ = some (.slice (some ⟨g, 0, none⟩) es.length cap) ∧ u.cell? ⟨wr.heap.size, 0, none⟩ = some (.slice xa xn xc) ∧ Below w3.heap.size w3 u)
            (first
              | with_reducible exact hS2
              | with_reducible exact hS3
              | with_reducible exact K _ _ (by assumption) (by assumption)
              | (with_reducible refine K4 _ _ _ _ _ ?_; first | assumption | exact K _ _ (by assumption) (by assumption))
              | (with_reducible refine K _ _ ((Below.refl _ _).alloc (Nat.le_refl _) _) ?_; first | assumption | exact hS2 | exact K _ _ (by assumption) (by assumption)))
            ((go_at_call 54; refine (EN _ (by assumption)).mono ?_; rintro e' w' ⟨rfl, hbw, hcw, hfw⟩))
          all_goals
            clear hS hS2 hS3 K K4 EN
            obtain ⟨_, _, hE9⟩ := (show _ ∧ _ ∧ Below w3.heap.size w3 _ by assumption)
            have x4 : Hid (Box3 _ _ _ _ _) := x3.out.below hE9
            have c4 : Hid (Below _ _ _) := c3.out.trans (hE9.mono c3.out.size)
            cases ob
            · have HN2 : Hid (EntsTo es (k + 1)) := HXE.out rfl
              clear HXE HXF hE9 hr hE
              go_wp2
              exact ⟨⟨k + 1, by omega, by go_num, HN2.out, x4.out, c4.out⟩, by simp [intOf]; omega⟩
            · have HF : Hid (rulesOk es lv = false) := HXF.out rfl
              clear HXE HXF hE9 hr hE
              go_wp2
              go_ret
              rw [HF.out]
              exact ⟨rfl, c4.out⟩
    · have HA : Hid (rulesOk es lv = true) := rulesOk_all HN.out (by omega) hn ⟨hl1, hl2⟩
      clear HN hE hr
      go_wp2
      go_ret
      rw [HA.out]
      exact ⟨rfl, hb⟩

theorem implGood3_any {w : World} {B : Nat} {v : Value} {es : List Ent} {sh : Bool} {lv : Int} (hE : Ents w B v es) (hr : ∀ e ∈ es, e.runes.length ≤ 1048576) (ht : Tabs3 w) :
    Calls Tryd.prog 20 #[.agg #[v, .bool sh, .int .i64 lv]] w fun e w' => e = .returned (.bool (rulesOk es lv)) ∧ Below w.heap.size w w' := by
  obtain ⟨a, c, rfl⟩ : ∃ a c, v = .slice a es.length c := by
    rcases hE.form with ⟨rfl, rfl⟩ | ⟨g, cap, rfl, _, _, _, _⟩
    · exact ⟨_, _, rfl⟩
    · exact ⟨_, _, rfl⟩
  by_cases h1 : es.length ≤ 40
  · by_cases h2 : 1 ≤ lv ∧ lv ≤ 4
    · rcases hE.form with ⟨h, rfl⟩ | ⟨g, cap, h, _, _, _, _⟩
      · rw [h]
        have e0 : rulesOk [] lv = true := decide_eq_true ⟨by simp, h2, rfl⟩
        rw [e0]
        exact good3i_nil w sh lv h2
      · rw [h] at hE ⊢
        exact good3i_row w B g cap es sh lv hE h1 h2 hr ht
    · rw [rulesOk_head (fun h => h2 h.2)]
      exact good3i_lev w a es.length c sh lv h1 h2
  · rw [rulesOk_head (fun h => h1 h.1)]
    exact good3i_long w a es.length c sh lv (by omega)
end Go.Proofs.YtanfebccenfffaaDoor
