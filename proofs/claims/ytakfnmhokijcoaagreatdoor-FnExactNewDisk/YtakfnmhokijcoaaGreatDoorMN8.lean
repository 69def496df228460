/- Texts of mine laid together: IClone, MarkT, HeldT, NewDisk. -/
import Derived.Test.YtakfnmhokijcoaaGreatDoorStrs
import Derived.Shelf.Pu.Clone
import Derived.Laws.IdiomStrings
import Derived.BigQuiet
import Derived.Deep.QuietTactic
import Derived.Deep.RegionHeld
import Derived.Test.YtakfnmhokijcoaaGreatDoorMN7
namespace Go.Proofs.YtakfnmhokijcoaaGreatDoor
open Go.RowKit

def pu25_ren : Go.Shelf.Ren := ⟨fun | 25 => 26 | n => n, fun | 0 => 0 | 3 => 3 | 4 => 4 | 5 => 5 | 9 => 9 | 37 => 69 | 47 => 70 | n => n, fun | n => n⟩
theorem pu25 : Go.Proofs.LaysPu.n25 Tryz.prog pu25_ren := {
  mixed := by kernel_rfl
  f25 := Tryz.func26.trans (congrArg some (by kernel_rfl))
  t0 := Tryz.underlying0
  a0 := Tryz.isAgg0
  z0 := Tryz.sizeOf0
  v0 := Tryz.zeroValue0
  i0 := by kernel_rfl
  t3 := Tryz.underlying3
  a3 := Tryz.isAgg3
  z3 := Tryz.sizeOf3
  v3 := Tryz.zeroValue3
  i3 := by kernel_rfl
  t4 := Tryz.underlying4
  a4 := Tryz.isAgg4
  z4 := Tryz.sizeOf4
  v4 := Tryz.zeroValue4
  i4 := by kernel_rfl
  t5 := Tryz.underlying5
  a5 := Tryz.isAgg5
  z5 := Tryz.sizeOf5
  v5 := Tryz.zeroValue5
  i5 := by kernel_rfl
  t9 := Tryz.underlying9
  a9 := Tryz.isAgg9
  z9 := Tryz.sizeOf9
  v9 := Tryz.zeroValue9
  i9 := by kernel_rfl
  t37 := Tryz.underlying69
  a37 := Tryz.isAgg69
  z37 := Tryz.sizeOf69
  v37 := Tryz.zeroValue69
  i37 := by kernel_rfl
  t47 := Tryz.underlying70
  a47 := Tryz.isAgg70
  z47 := Tryz.sizeOf70
  v47 := Tryz.zeroValue70
  i47 := by kernel_rfl }

set_option maxRecDepth 100000 in
set_option maxHeartbeats 1000000 in
theorem clone_str (s : ByteArray) (w : World) (hs : s.size ≤ 1048576) : Calls Tryz.prog 11 #[.string s] w fun e w' => e = .returned (.string s) ∧ Below w.heap.size w w' := by
  have C : Calls Tryz.prog 26 #[.string s] w fun e w' => e = .returned (.string s) ∧ Below w.heap.size w w' := Go.Proofs.AnyPu.stringslite_Clone pu25 s w (by omega)
  go_enter Tryz.func11, Tryz.ntmps11
  go_wp2_with fail
  refine C.mono ?_
  rintro e w1 ⟨rfl, b1⟩
  clear C
  go_wp2
  go_ret
  exact ⟨rfl, b1⟩
end Go.Proofs.YtakfnmhokijcoaaGreatDoor

namespace Go.Proofs.YtakfnmhokijcoaaGreatDoor
open Go.RowKit

/-- The last digit of a number, as a text. -/
def dgB (j : Nat) : ByteArray := ⟨#[UInt8.ofNat (48 + j % 10)]⟩

/-- The decimal digits of k ahead of a text. -/
def digs : Nat → Nat → ByteArray → ByteArray
  | 0, _, out => out
  | f + 1, k, out => if k = 0 then out else digs f (k / 10) (dgB k ++ out)

/-- The text of a mark. -/
def mtx (k : Nat) : ByteArray := if k = 0 then ⟨#[109, 48]⟩ else ⟨#[109]⟩ ++ digs k k ⟨#[]⟩

theorem run_conv1 (w : World) (j : Nat) : (convert 69 9 (.slice (some ⟨w.heap.size, 0, none⟩) 1 1)).run Tryz.prog (w.alloc (.cells #[.int .u8 (48 + (j : Int) % 10)] 5)) = .ok (.string (dgB j)) (w.alloc (.cells #[.int .u8 (48 + (j : Int) % 10)] 5)) := by
  have h1 : (UInt8.ofNat (48 + j % 10)).toNat = 48 + j % 10 := by rw [UInt8.toNat_ofNat']; omega
  refine run_convert_bytes_back _ 69 9 5 ⟨w.heap.size, 0, none⟩ 1 [UInt8.ofNat (48 + j % 10)] Tryz.underlying69 Tryz.underlying5 Tryz.underlying9 (fun i hi => ?_)
  have hi0 : i = 0 := by simp at hi; exact hi
  subst hi0
  have e : (([UInt8.ofNat (48 + j % 10)][0]).toNat : Int) = 48 + (j : Int) % 10 := by show ((UInt8.ofNat (48 + j % 10)).toNat : Int) = _; rw [h1]; omega
  rw [e]
  simp [Addr.add]

set_option maxRecDepth 100000 in
set_option maxHeartbeats 1000000 in
theorem markText_pos (k : Nat) (w : World) (hk : 0 < k) (hk2 : k ≤ 1099511627776) : Calls Tryz.prog 27 #[.int .i64 (k : Int)] w fun e w' => e = .returned (.string (mtx k)) ∧ Below w.heap.size w w' := by
  have h1 : ¬ (k : Int) ≤ 0 := by omega
  go_enter Tryz.func27, Tryz.ntmps27
  go_wp2
  go_loopw [0, 3] (fun kv ov wr => ∃ (j f : Nat) (out : ByteArray), kv = .int .i64 j ∧ ov = .string out ∧ j ≤ k ∧ j ≤ f ∧ out.size + f ≤ k ∧ digs f j out = digs k k ⟨#[]⟩ ∧ Below w.heap.size w wr) (fun kv _ _ => (intOf kv).toNat)
  case atStart => exact ⟨k, k, ⟨#[]⟩, rfl, rfl, Nat.le_refl _, Nat.le_refl _, by simp [ByteArray.size], rfl, Below.refl _ _⟩
  case round =>
    obtain ⟨j, f, out, rfl, rfl, hj, hf, hs, hd, hb⟩ := hrel
    have HD : Hid _ := hd
    clear hd
    by_cases h0 : 0 < j
    · have h0' : (0 : Int) < (j : Int) := by omega
      obtain ⟨f', rfl⟩ : ∃ f', f = f' + 1 := ⟨f - 1, by omega⟩
      have HN : Hid (digs f' (j / 10) (dgB j ++ out) = digs k k ⟨#[]⟩) := by
        show _ = _
        rw [← HD.out, digs, if_neg (by omega)]
      have CV := run_conv1 wr j
      have hdz : (dgB j).size = 1 := rfl
      have hos : out.size ≤ 1099511627776 := by omega
      have hsz : (dgB j ++ out).size = 1 + out.size := by rw [ByteArray.size_append]; rfl
      have HSZ : Hid _ := hsz
      clear HD hsz
      go_wp2
      exact ⟨⟨j / 10, f', _, by go_num, rfl, by omega, by omega, by rw [HSZ.out]; omega, HN.out, hb.alloc hb.size _⟩, by simp [intOf]; omega⟩
    · have hj0 : j = 0 := by omega
      subst hj0
      have HF : Hid (digs k k ⟨#[]⟩ = out) := by
        show _ = _
        rw [← HD.out]
        cases f with
        | zero => rfl
        | succ f => rw [digs, if_pos rfl]
      have HM : Hid (mtx k = ⟨#[109]⟩ ++ out) := by show _ = _; unfold mtx; rw [if_neg (by omega), HF.out]
      clear HD HF
      go_wp2
      go_ret
      rw [HM.out]
      exact ⟨rfl, hb⟩

theorem Strs.slice {w : World} {B : Nat} {v : Value} {ss : List ByteArray} (h : Strs w B v ss) : ∃ a c, v = .slice a ss.length c := by
  rcases h.form with ⟨rfl, rfl⟩ | ⟨g, cap, rfl, _, _⟩
  · exact ⟨_, _, rfl⟩
  · exact ⟨_, _, rfl⟩

set_option maxRecDepth 100000 in
set_option maxHeartbeats 1000000 in
theorem eqStr_none (w : World) (a b : Option Addr) (c d : Nat) : Calls Tryz.prog 12 #[.slice a 0 c, .slice b 0 d] w fun e w' => e = .returned (.bool true) ∧ ∃ n, w' = w.drewN n := by
  go_enter Tryz.func12, Tryz.ntmps12
  go_wp2
  go_loopw [5] (fun i wr => i = .int .i64 0 ∧ wr = w) (fun _ _ => 0)
  case atStart => exact ⟨rfl, rfl⟩
  case round =>
    obtain ⟨rfl, rfl⟩ := hrel
    go_wp2
    go_ret
    exact ⟨rfl, 0, rfl⟩

set_option maxRecDepth 100000 in
set_option maxHeartbeats 1000000 in
theorem eqStr_row (w : World) (B B' g g' cap cap' : Nat) (ss : List ByteArray) (hz : ss.length ≤ 1048576) (h1 : Strs w B (.slice (some ⟨g, 0, none⟩) ss.length cap) ss) (h2 : Strs w B' (.slice (some ⟨g', 0, none⟩) ss.length cap') ss) :
    Calls Tryz.prog 12 #[.slice (some ⟨g, 0, none⟩) ss.length cap, .slice (some ⟨g', 0, none⟩) ss.length cap'] w fun e w' => e = .returned (.bool true) ∧ ∃ n, w' = w.drewN n := by
  go_enter Tryz.func12, Tryz.ntmps12
  go_wp2
  go_loopw [5] (fun i wr => ∃ k nq : Nat, k ≤ ss.length ∧ i = .int .i64 k ∧ wr = w.drewN nq) (fun i _ => ss.length - (intOf i).toNat)
  case atStart => exact ⟨0, 0, Nat.zero_le _, rfl, rfl⟩
  case round =>
    obtain ⟨k, nq, hk, rfl, rfl⟩ := hrel
    by_cases hlt : k < ss.length
    · obtain ⟨x, hx⟩ : ∃ x, ss[k]? = some x := ⟨_, List.getElem?_eq_getElem hlt⟩
      have a1 := h1.cell k x hx
      have a2 := h2.cell k x hx
      have hk8 : (k : Int) < (ss.length : Int) := by omega
      clear h1 h2 hx
      go_wp2
      go_quiet (fail)
      go_wp2
      exact ⟨⟨k + 1, _, by omega, by go_num, rfl⟩, by simp [intOf]; omega⟩
    · clear h1 h2
      go_wp2
      go_ret
      exact ⟨rfl, _, rfl⟩

theorem eqStr_any {w : World} {B B' : Nat} {a b : Value} {ss : List ByteArray} (hz : ss.length ≤ 1048576) (ha : Strs w B a ss) (hb : Strs w B' b ss) :
    Calls Tryz.prog 12 #[a, b] w fun e w' => e = .returned (.bool true) ∧ ∃ n, w' = w.drewN n := by
  rcases ha.form with ⟨rfl, rfl⟩ | ⟨g, cap, rfl, _, _⟩
  · rcases hb.form with ⟨rfl, _⟩ | ⟨g', cap', rfl, _, _⟩
    · exact eqStr_none w _ _ _ _
    · exact eqStr_none w _ _ _ _
  · rcases hb.form with ⟨rfl, rfl⟩ | ⟨g', cap', rfl, _, _⟩
    · exact eqStr_none w _ _ _ _
    · exact eqStr_row w B B' g g' cap cap' ss hz ha hb

/-- The texts of the marks from m on. -/
def seqT (m n : Nat) : List ByteArray := (List.range n).map fun j => mtx (m + j)

theorem seqT_len (m n : Nat) : (seqT m n).length = n := by simp [seqT]
theorem seqT_at (m n j : Nat) (h : j < n) : (seqT m n)[j]? = some (mtx (m + j)) := by simp [seqT, h]

/-- The row behind k marks. -/
def mkT (ss : List ByteArray) (m : Nat) : Nat → List ByteArray
  | 0 => ss
  | k + 1 => (mkT ss m k).set k (mtx (m + k))

theorem mkT_len (ss : List ByteArray) (m k : Nat) : (mkT ss m k).length = ss.length := by
  induction k with
  | zero => rfl
  | succ k ih => simp [mkT, ih]

theorem mkT_at (ss : List ByteArray) (m k j : Nat) (hj : j < k) (hl : j < ss.length) : (mkT ss m k)[j]? = some (mtx (m + j)) := by
  induction k with
  | zero => omega
  | succ k ih =>
    simp only [mkT, List.getElem?_set, mkT_len]
    by_cases e : k = j
    · subst e; simp [hl]
    · rw [if_neg e]; exact ih (by omega)

theorem mkT_all (ss : List ByteArray) (m : Nat) : mkT ss m ss.length = seqT m ss.length := by
  apply List.ext_getElem?
  intro j
  by_cases h : j < ss.length
  · rw [mkT_at ss m _ j h h, seqT_at m _ j h]
  · rw [List.getElem?_eq_none (by rw [mkT_len]; omega), List.getElem?_eq_none (by rw [seqT_len]; omega)]

theorem mkT_map (ss : List ByteArray) (m k : Nat) : ((mkT ss m k).map Value.string).set k (.string (mtx (m + k))) = (mkT ss m (k + 1)).map Value.string := by
  simp [mkT, List.map_set]

set_option maxRecDepth 100000 in
set_option maxHeartbeats 1000000 in
theorem markT_none (w : World) (a : Option Addr) (c : Nat) (m : Int) : Calls Tryz.prog 13 #[.slice a 0 c, .int .i64 m] w fun e w' => e = .returned (.int .i64 m) ∧ w' = w := by
  go_enter Tryz.func13, Tryz.ntmps13
  go_wp2
  go_loop [1, 5] (fun k i => k = .int .i64 m ∧ i = .int .i64 0) (fun _ _ => 0)
  case atStart => exact ⟨rfl, rfl⟩
  case round =>
    obtain ⟨rfl, rfl⟩ := hrel
    go_wp2
    go_ret
    exact ⟨rfl, rfl⟩

def MTRel (w : World) (B g cap : Nat) (ss : List ByteArray) (m : Nat) (mv i : Value) (wr : World) : Prop :=
  ∃ k : Nat, k ≤ ss.length ∧ i = .int .i64 k ∧ mv = .int .i64 ((m + k : Nat) : Int) ∧ wr.ownsRow B 9 1 (.slice (some ⟨g, 0, none⟩) ss.length cap) ss.length ((mkT ss m k).map Value.string) ∧ w.grownBy wr (some g)

set_option maxRecDepth 100000 in
set_option maxHeartbeats 1000000 in
theorem markT_row (w : World) (B g cap : Nat) (ss : List ByteArray) (m : Nat) (hm0 : 0 < m) (hm1 : m ≤ 1073741824) (hz : ss.length ≤ 1048576) (hI : w.ownsRow B 9 1 (.slice (some ⟨g, 0, none⟩) ss.length cap) ss.length (ss.map Value.string)) :
    Calls Tryz.prog 13 #[.slice (some ⟨g, 0, none⟩) ss.length cap, .int .i64 (m : Int)] w fun e w' => e = .returned (.int .i64 ((m + ss.length : Nat) : Int)) ∧ w'.ownsRow B 9 1 (.slice (some ⟨g, 0, none⟩) ss.length cap) ss.length ((mkT ss m ss.length).map Value.string) ∧ w.grownBy w' (some g) := by
  go_enter Tryz.func13, Tryz.ntmps13
  go_wp2
  go_loopw [1, 5] (fun mv i wr => MTRel w B g cap ss m mv i wr) (fun _ i _ => ss.length - (intOf i).toNat)
  case atStart => exact ⟨0, Nat.zero_le _, rfl, by simp, hI, World.grownBy.refl _ _⟩
  case round =>
    clear hI
    obtain ⟨k, hk, rfl, rfl, hown, hg⟩ := hrel
    by_cases hlt : k < ss.length
    · have hk8 : (k : Int) < (ss.length : Int) := by omega
      have MT := fun w => markText_pos (m + k) w (by omega) (by omega)
      obtain ⟨M, hM⟩ : ∃ M, M = m + k := ⟨_, rfl⟩
      have HW : Hid _ := hown
      rw [← hM] at MT
      rw [← hM]
      have HM : Hid _ := hM
      clear hM hown
      go_wp2_with fail
      refine (MT _).mono ?_
      rintro e w2 ⟨rfl, b2⟩
      have h2 := World.ownsRow.kept HW.out (row := none) ⟨b2.os, b2.tape, b2.output, b2.size, fun k hk _ => b2.block k hk⟩ (by simp [Value.ownBlock])
      have c1 := h2.cellAt k (by omega)
      have hm : ((mkT ss m k).map Value.string)[k]? = some (.string ((mkT ss m k)[k]?.getD ⟨#[]⟩)) := by
        have := mkT_len ss m k
        simp [this, hlt]
      rw [hm] at c1
      have c2 := h2.frozenAt k
      have hst := h2.stored k (.string (mtx (m + k)))
      rw [mkT_map] at hst
      rw [← HM.out] at hst
      have HST : Hid _ := hst
      have HG : Hid (w.grownBy w2 (some g)) := hg.trans ⟨b2.os, b2.tape, b2.output, b2.size, fun k hk _ => b2.block k hk⟩
      have hMb : M ≤ 2000000000 := by have := HM.out; omega
      clear hst hm h2 MT HW b2
      go_wp2
      exact ⟨⟨k + 1, by omega, by go_num, by rw [show m + (k + 1) = M + 1 by have := HM.out; omega]; go_num, HST.out.1, HG.out.trans HST.out.2⟩, by simp [intOf]; omega⟩
    · have hkz : k = ss.length := by omega
      subst hkz
      go_wp2
      go_ret
      exact ⟨rfl, hown, hg⟩

theorem markT_any {w : World} {B : Nat} {v : Value} {ss : List ByteArray} {m : Nat} (hm0 : 0 < m) (hm1 : m ≤ 1073741824) (hz : ss.length ≤ 1048576) (hI : Strs w B v ss) :
    Calls Tryz.prog 13 #[v, .int .i64 (m : Int)] w fun e w' => e = .returned (.int .i64 ((m + ss.length : Nat) : Int)) ∧ Strs w' B v (seqT m ss.length) ∧ w.grownBy w' v.ownBlock := by
  rcases hI.form with ⟨rfl, rfl⟩ | ⟨g, cap, rfl, _, _⟩
  · refine (markT_none w _ _ m).mono ?_
    rintro e w' ⟨rfl, rfl⟩
    exact ⟨by simp, hI, World.grownBy.refl _ _⟩
  · refine (markT_row w B g cap ss m hm0 hm1 hz hI).mono ?_
    rintro e w' ⟨rfl, h3, h4⟩
    refine ⟨rfl, ?_, h4⟩
    unfold Strs
    rw [seqT_len, ← mkT_all]
    exact h3
end Go.Proofs.YtakfnmhokijcoaaGreatDoor

namespace Go.Proofs.YtakfnmhokijcoaaGreatDoor
open Go.RowKit

set_option maxRecDepth 100000 in
set_option maxHeartbeats 1000000 in
theorem heldT_none (w : World) (a : Option Addr) (c : Nat) (m : Int) : Calls Tryz.prog 14 #[.slice a 0 c, .int .i64 m] w fun e w' => e = .returned (.int .i64 m) ∧ Below w.heap.size w w' := by
  go_enter Tryz.func14, Tryz.ntmps14
  go_wp2
  go_loop [1, 5] (fun k i => k = .int .i64 m ∧ i = .int .i64 0) (fun _ _ => 0)
  case atStart => exact ⟨rfl, rfl⟩
  case round =>
    obtain ⟨rfl, rfl⟩ := hrel
    go_wp2
    go_ret
    exact ⟨rfl, Below.refl _ _⟩

theorem keep1 {w0 w1 w2 : World} {g k : Nat} {x : Value} (hg : g < w0.heap.size) (hb : Below w1.heap.size w1 w2) (h : w1.cell? ⟨g, k, none⟩ = some x ∧ Below w0.heap.size w0 w1) : w2.cell? ⟨g, k, none⟩ = some x ∧ Below w0.heap.size w0 w2 :=
  ⟨by rw [hb.cell (Nat.lt_of_lt_of_le hg h.2.size)]; exact h.1, h.2.trans (hb.mono h.2.size)⟩

set_option maxRecDepth 100000 in
set_option maxHeartbeats 2000000 in
theorem heldT_row (w : World) (B g cap n m : Nat) (hm0 : 0 < m) (hm1 : m ≤ 1073741824) (hz : n ≤ 1048576) (hI : Strs w B (.slice (some ⟨g, 0, none⟩) (seqT m n).length cap) (seqT m n)) :
    Calls Tryz.prog 14 #[.slice (some ⟨g, 0, none⟩) n cap, .int .i64 (m : Int)] w fun e w' => e = .returned (.int .i64 ((m + n : Nat) : Int)) ∧ Below w.heap.size w w' := by
  have hg := (World.ownsRow.lt hI g rfl).2
  go_enter Tryz.func14, Tryz.ntmps14
  go_wp2
  go_loopw [1, 5] (fun mv i wr => ∃ k : Nat, k ≤ n ∧ i = .int .i64 k ∧ mv = .int .i64 ((m + k : Nat) : Int) ∧ Below w.heap.size w wr) (fun _ i _ => n - (intOf i).toNat)
  case atStart => exact ⟨0, Nat.zero_le _, rfl, by simp, Below.refl _ _⟩
  case round =>
    obtain ⟨k, hk, rfl, rfl, hb⟩ := hrel
    by_cases hlt : k < n
    · have hk8 : (k : Int) < (n : Int) := by omega
      have c0 := hI.cell k _ (seqT_at m n k hlt)
      obtain ⟨M, hM⟩ : ∃ M, M = m + k := ⟨_, rfl⟩
      rw [← hM] at c0
      rw [← hM]
      have MT := fun w => markText_pos M w (by omega) (by omega)
      have hS0 : w.cell? ⟨g, k, none⟩ = some (.string (mtx M)) ∧ Below w.heap.size w w := ⟨c0, Below.refl _ _⟩
      have hS := keep1 hg hb hS0
      have hS2 := keep1 hg ((Below.refl wr.heap.size wr).drew) hS
      have K := fun (u1 u2 : World) (hb : Below u1.heap.size u1 u2) (hu : u1.cell? ⟨g, k, none⟩ = some (.string (mtx M)) ∧ Below w.heap.size w u1) => keep1 hg hb hu
      have HM : Hid _ := hM
      have hMb : M ≤ 2000000000 := by omega
      clear hM hI c0 hS0
      go_wp2_with fail
      go_region_held (fun u => u.cell? ⟨g, k, none⟩ = some (.string (mtx M)) ∧ Below w.heap.size w u)
        (first | exact hS2 | exact K _ _ (by assumption) (by assumption))
        (first | (go_at_call 27; refine (MT _).mono ?_; rintro e w' ⟨rfl, hbw⟩))
      all_goals
        have hE := (show w'.cell? ⟨g, k, none⟩ = _ ∧ Below w.heap.size w w' by assumption).2
        clear hS hS2 K MT
        go_wp2
        exact ⟨⟨k + 1, by omega, by go_num, by rw [show m + (k + 1) = M + 1 by have := HM.out; omega]; go_num, hE⟩, by simp [intOf]; omega⟩
    · have hkz : k = n := by omega
      subst hkz
      go_wp2
      go_ret
      exact ⟨rfl, hb⟩

theorem heldT_any {w : World} {B : Nat} {v : Value} {n m : Nat} (hm0 : 0 < m) (hm1 : m ≤ 1073741824) (hz : n ≤ 1048576) (hI : Strs w B v (seqT m n)) :
    Calls Tryz.prog 14 #[v, .int .i64 (m : Int)] w fun e w' => e = .returned (.int .i64 ((m + n : Nat) : Int)) ∧ Below w.heap.size w w' := by
  have hl := seqT_len m n
  rcases hI.form with ⟨rfl, h⟩ | ⟨g, cap, rfl, _, _⟩
  · rw [h] at hl
    have : n = 0 := by simpa using hl.symm
    subst this
    exact heldT_none w none 0 m
  · have := heldT_row w B g cap n m hm0 hm1 hz hI
    rw [hl]
    exact this
end Go.Proofs.YtakfnmhokijcoaaGreatDoor

namespace Go.Proofs.YtakfnmhokijcoaaGreatDoor
open Go.RowKit

/-- The block of a Disk that is the answer, still zero. -/
def BoxD (u : World) (b : Nat) (r : ByteArray) : Prop := u.heap[b]? = some (.cells #[.string r, .slice none 0 0, .string ⟨#[]⟩, .int .i64 0] 24)

theorem BoxD.facts {u : World} {b : Nat} {r : ByteArray} (h : BoxD u b r) : b < u.heap.size ∧ (u.cell? ⟨b, 0, none⟩ = some (.string r) ∧ u.cell? ⟨b, 1, none⟩ = some (.slice none 0 0) ∧ u.cell? ⟨b, 2, none⟩ = some (.string ⟨#[]⟩) ∧ u.cell? ⟨b, 3, none⟩ = some (.int .i64 0)) ∧ ∀ j, u.frozen? ⟨b, j, none⟩ = false :=
  ⟨(Array.getElem?_eq_some_iff.1 h).1, ⟨cell_of_row _ _ 0 _ _ _ h, cell_of_row _ _ 1 _ _ _ h, cell_of_row _ _ 2 _ _ _ h, cell_of_row _ _ 3 _ _ _ h⟩, fun j => by
    have h' : u.heap[b]? = _ := h
    simp [World.frozen?, h']⟩

theorem BoxD.below {u u' : World} {b : Nat} {r : ByteArray} (h : BoxD u b r) (hb : Below u.heap.size u u') : BoxD u' b r := by
  have hf := h.facts.1
  show u'.heap[b]? = _
  rw [hb.block _ hf]
  exact h

theorem boxD_new (w : World) (r : ByteArray) : BoxD (w.alloc (.cells #[.string r, .slice none 0 0, .string ⟨#[]⟩, .int .i64 0] 24)) w.heap.size r := heap_alloc_new w _

theorem below_resD {w wr : World} (h : Below w.heap.size w wr) (x y z t : Value) : Below w.heap.size w ((((wr.setCell ⟨w.heap.size, 0, none⟩ x).setCell ⟨w.heap.size, 1, none⟩ y).setCell ⟨w.heap.size, 2, none⟩ z).setCell ⟨w.heap.size, 3, none⟩ t) :=
  (((h.setCell (Nat.le_refl _) _).setCell (Nat.le_refl _) _).setCell (Nat.le_refl _) _).setCell (Nat.le_refl _) _

theorem below_resDa {w wr : World} (h : Below w.heap.size w wr) (x y z t : Value) (o : Obj) : Below w.heap.size w (((((wr.setCell ⟨w.heap.size, 0, none⟩ x).setCell ⟨w.heap.size, 1, none⟩ y).setCell ⟨w.heap.size, 2, none⟩ z).setCell ⟨w.heap.size, 3, none⟩ t).alloc o) :=
  (below_resD h x y z t).alloc (below_resD h x y z t).size _

/-- What NewDisk answers. -/
def ndOk (s : ByteArray) : Bool := decide ((readA s).code = 0)
def ndR (s : ByteArray) : ByteArray := if ndOk s then s else ⟨#[]⟩
def ndV (r : ByteArray) (ok : Bool) : Value := .tuple #[.agg #[.string r, .slice none 0 0, .string ⟨#[]⟩, .int .i64 0], .bool ok]

set_option maxRecDepth 100000 in
set_option maxHeartbeats 2000000 in
theorem implND_any (s : ByteArray) (w : World) (ht : Tabs3 w) (hs : s.size ≤ 1048576) :
    Calls Tryz.prog 5 #[.string s] w fun e w' => e = .returned (ndV (ndR s) (ndOk s)) ∧ Below w.heap.size w w' := by
  have hba := (Below.refl w.heap.size w).alloc (Nat.le_refl _) (.cells #[.string ⟨#[]⟩, .slice none 0 0, .string ⟨#[]⟩, .int .i64 0] 24)
  have HX : Hid (BoxD _ _ _) := boxD_new w ⟨#[]⟩
  have HB : Hid (Below _ _ _) := hba
  have RD := implRead_any s _ (ht.below hba) hs
  have CL := fun u => clone_str s u hs
  by_cases hc : (readA s).code = 0
  · have HR : Hid (ndR s = s ∧ ndOk s = true) := by
      have h1 : ndOk s = true := by unfold ndOk; rw [decide_eq_true hc]
      exact ⟨by unfold ndR; rw [if_pos h1], h1⟩
    rw [HR.out.1, HR.out.2]
    rw [hc] at RD
    generalize (readA s).sh = sh at *
    generalize (readA s).lv = lv at *
    generalize (readA s).es = es at *
    clear hba hc HR ht
    go_enter Tryz.func5, Tryz.ntmps5
    go_wp2_with fail
    refine RD.mono ?_
    rintro e w2 ⟨v2, rfl, d2, b2⟩
    obtain ⟨xa, xn, xc, rfl⟩ := d2.ents.slice
    have HX2 : Hid (∀ o, BoxD (w2.alloc o) w.heap.size ⟨#[]⟩) := fun o => (HX.out.below b2).below ((Below.refl _ _).alloc (Nat.le_refl _) o)
    have HB2 : Hid (∀ o, Below w.heap.size w (w2.alloc o)) := fun o => (HB.out.trans (b2.mono HB.out.size)).alloc (HB.out.trans (b2.mono HB.out.size)).size o
    clear RD d2 b2 HX HB
    go_wp2_with fail
    refine (CL _).mono ?_
    rintro e w3 ⟨rfl, b3⟩
    obtain ⟨hx1, ⟨x0, x1, x2, x3⟩, xf⟩ := ((HX2.out _).below b3).facts
    have HB3 : Hid (Below w.heap.size w w3) := (HB2.out _).trans (b3.mono (HB2.out _).size)
    clear CL b3 HX2 HB2
    go_wp2
    refine bodyPost_ret (v := .tuple #[.agg #[.string s, .slice none 0 0, .string ⟨#[]⟩, .int .i64 0], .bool true]) ?_ rfl ⟨rfl, below_resD HB3.out _ _ _ _⟩
    rw [results_cell_tmp rfl]
    go_simp
  · have HR : Hid (ndR s = ⟨#[]⟩ ∧ ndOk s = false) := by
      have h1 : ndOk s = false := by unfold ndOk; rw [decide_eq_false hc]
      exact ⟨by unfold ndR; rw [h1]; rfl, h1⟩
    rw [HR.out.1, HR.out.2]
    generalize (readA s).sh = sh at *
    generalize (readA s).lv = lv at *
    generalize (readA s).es = es at *
    generalize (readA s).code = cd at *
    clear hba HR ht CL
    go_enter Tryz.func5, Tryz.ntmps5
    go_wp2_with fail
    refine RD.mono ?_
    rintro e w2 ⟨v2, rfl, d2, b2⟩
    obtain ⟨xa, xn, xc, rfl⟩ := d2.ents.slice
    obtain ⟨hx1, ⟨x0, x1, x2, x3⟩, xf⟩ := (HX.out.below b2).facts
    have HB2 : Hid (Below w.heap.size w w2) := HB.out.trans (b2.mono HB.out.size)
    clear RD d2 b2 HX HB
    go_wp2
    refine bodyPost_ret (v := .tuple #[.agg #[.string ⟨#[]⟩, .slice none 0 0, .string ⟨#[]⟩, .int .i64 0], .bool false]) ?_ rfl ⟨rfl, below_resDa HB2.out _ _ _ _ _⟩
    rw [results_cell_tmp rfl]
    go_simp

set_option maxRecDepth 100000 in
set_option maxHeartbeats 2000000 in
theorem specND_any (s : ByteArray) (w : World) (hs : s.size ≤ 1048576) :
    Calls Tryz.prog 4 #[.string s] w fun e w' => e = .returned (ndV (ndR s) (ndOk s)) ∧ Below w.heap.size w w' := by
  have hba := (Below.refl w.heap.size w).alloc (Nat.le_refl _) (.cells #[.string ⟨#[]⟩, .slice none 0 0, .string ⟨#[]⟩, .int .i64 0] 24)
  have HX : Hid (BoxD _ _ _) := boxD_new w ⟨#[]⟩
  have HB : Hid (Below _ _ _) := hba
  have RD := read_any s (w.alloc (.cells #[.string ⟨#[]⟩, .slice none 0 0, .string ⟨#[]⟩, .int .i64 0] 24)) (by omega)
  unfold RdPost at RD
  by_cases hc : (readA s).code = 0
  · have HR : Hid (ndR s = s ∧ ndOk s = true) := by
      have h1 : ndOk s = true := by unfold ndOk; rw [decide_eq_true hc]
      exact ⟨by unfold ndR; rw [if_pos h1], h1⟩
    rw [HR.out.1, HR.out.2]
    rw [hc] at RD
    generalize (readA s).sh = sh at *
    generalize (readA s).lv = lv at *
    generalize (readA s).es = es at *
    clear hba hc HR
    go_enter Tryz.func4, Tryz.ntmps4
    go_wp2_with fail
    refine RD.mono ?_
    rintro e w2 ⟨v2, rfl, d2, b2⟩
    obtain ⟨xa, xn, xc, rfl⟩ := d2.slice
    obtain ⟨hx1, ⟨x0, x1, x2, x3⟩, xf⟩ := (HX.out.below b2).facts
    have HB2 : Hid (Below w.heap.size w w2) := HB.out.trans (b2.mono HB.out.size)
    clear RD d2 b2 HX HB
    go_wp2
    refine bodyPost_ret (v := .tuple #[.agg #[.string s, .slice none 0 0, .string ⟨#[]⟩, .int .i64 0], .bool true]) ?_ rfl ⟨rfl, below_resDa HB2.out _ _ _ _ _⟩
    rw [results_cell_tmp rfl]
    go_simp
  · have HR : Hid (ndR s = ⟨#[]⟩ ∧ ndOk s = false) := by
      have h1 : ndOk s = false := by unfold ndOk; rw [decide_eq_false hc]
      exact ⟨by unfold ndR; rw [h1]; rfl, h1⟩
    rw [HR.out.1, HR.out.2]
    generalize (readA s).sh = sh at *
    generalize (readA s).lv = lv at *
    generalize (readA s).es = es at *
    generalize (readA s).code = cd at *
    clear hba HR
    go_enter Tryz.func4, Tryz.ntmps4
    go_wp2_with fail
    refine RD.mono ?_
    rintro e w2 ⟨v2, rfl, d2, b2⟩
    obtain ⟨xa, xn, xc, rfl⟩ := d2.slice
    obtain ⟨hx1, ⟨x0, x1, x2, x3⟩, xf⟩ := (HX.out.below b2).facts
    have HB2 : Hid (Below w.heap.size w w2) := HB.out.trans (b2.mono HB.out.size)
    clear RD d2 b2 HX HB
    go_wp2
    refine bodyPost_ret (v := .tuple #[.agg #[.string ⟨#[]⟩, .slice none 0 0, .string ⟨#[]⟩, .int .i64 0], .bool false]) ?_ rfl ⟨rfl, below_resDa HB2.out _ _ _ _ _⟩
    rw [results_cell_tmp rfl]
    go_simp
end Go.Proofs.YtakfnmhokijcoaaGreatDoor
