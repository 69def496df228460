/- Contracts of the laws' markText, and of what the laws do with lists of strings. -/
import Derived.Test.YtecgkekafbimaaaStrs
import Derived.Laws.IdiomStrings
import Derived.BigQuiet
import Derived.Deep.QuietTactic
namespace Go.Proofs.Ytecgkekafbimaaa
open Go.RowKit

/-- The last digit of a number, as a text. -/
def dgB (j : Nat) : ByteArray := ⟨#[UInt8.ofNat (48 + j % 10)]⟩

/-- The decimal digits of k ahead of a text. -/
def digs : Nat → Nat → ByteArray → ByteArray
  | 0, _, out => out
  | f + 1, k, out => if k = 0 then out else digs f (k / 10) (dgB k ++ out)

/-- The text of a mark. -/
def mtx (k : Nat) : ByteArray := if k = 0 then ⟨#[109, 48]⟩ else ⟨#[109]⟩ ++ digs k k ⟨#[]⟩

theorem run_conv1 (w : World) (j : Nat) : (convert 53 9 (.slice (some ⟨w.heap.size, 0, none⟩) 1 1)).run Try.prog (w.alloc (.cells #[.int .u8 (48 + (j : Int) % 10)] 5)) = .ok (.string (dgB j)) (w.alloc (.cells #[.int .u8 (48 + (j : Int) % 10)] 5)) := by
  have h1 : (UInt8.ofNat (48 + j % 10)).toNat = 48 + j % 10 := by rw [UInt8.toNat_ofNat']; omega
  refine run_convert_bytes_back _ 53 9 5 ⟨w.heap.size, 0, none⟩ 1 [UInt8.ofNat (48 + j % 10)] Try.underlying53 Try.underlying5 Try.underlying9 (fun i hi => ?_)
  have hi0 : i = 0 := by simp at hi; exact hi
  subst hi0
  have e : (([UInt8.ofNat (48 + j % 10)][0]).toNat : Int) = 48 + (j : Int) % 10 := by show ((UInt8.ofNat (48 + j % 10)).toNat : Int) = _; rw [h1]; omega
  rw [e]
  simp [Addr.add]

set_option maxRecDepth 100000 in
set_option maxHeartbeats 1000000 in
theorem markText_pos (k : Nat) (w : World) (hk : 0 < k) (hk2 : k ≤ 1099511627776) : Calls Try.prog 27 #[.int .i64 (k : Int)] w fun e w' => e = .returned (.string (mtx k)) ∧ Below w.heap.size w w' := by
  have h1 : ¬ (k : Int) ≤ 0 := by omega
  go_enter Try.func27, Try.ntmps27
  go_wp2
  go_loopw [0, 3] (fun kv ov wr => ∃ (j f : Nat) (out : ByteArray), kv = .int .i64 j ∧ ov = .string out ∧ j ≤ k ∧ j ≤ f ∧ out.size + f ≤ k ∧ digs f j out = digs k k ⟨#[]⟩ ∧ Below w.heap.size w wr) (fun kv _ _ => (intOf kv).toNat)
  case atStart => exact ⟨k, k, ⟨#[]⟩, rfl, rfl, Nat.le_refl _, Nat.le_refl _, by simp [ByteArray.size], rfl, Below.refl _ _⟩
  case round =>
    obtain ⟨j, f, out, rfl, rfl, hj, hf, hs, hd, hb⟩ := hrel
    have HD : Hid _ := hd
    clear hd
    by_cases h0 : 0 < j
    · have h0' : (0 : Int) < (j : Int) := by omega
      obtain ⟨f', rfl⟩ : ∃ f', f = f' + 1 := ⟨f - 1, by omega⟩
      have HN : Hid (digs f' (j / 10) (dgB j ++ out) = digs k k ⟨#[]⟩) := by
        show _ = _
        rw [← HD.out, digs, if_neg (by omega)]
      have CV := run_conv1 wr j
      have hdz : (dgB j).size = 1 := rfl
      have hos : out.size ≤ 1099511627776 := by omega
      have hsz : (dgB j ++ out).size = 1 + out.size := by rw [ByteArray.size_append]; rfl
      have HSZ : Hid _ := hsz
      clear HD hsz
      go_wp2
      exact ⟨⟨j / 10, f', _, by go_num, rfl, by omega, by omega, by rw [HSZ.out]; omega, HN.out, hb.alloc hb.size _⟩, by simp [intOf]; omega⟩
    · have hj0 : j = 0 := by omega
      subst hj0
      have HF : Hid (digs k k ⟨#[]⟩ = out) := by
        show _ = _
        rw [← HD.out]
        cases f with
        | zero => rfl
        | succ f => rw [digs, if_pos rfl]
      have HM : Hid (mtx k = ⟨#[109]⟩ ++ out) := by show _ = _; unfold mtx; rw [if_neg (by omega), HF.out]
      clear HD HF
      go_wp2
      go_ret
      rw [HM.out]
      exact ⟨rfl, hb⟩

theorem Strs.slice {w : World} {B : Nat} {v : Value} {ss : List ByteArray} (h : Strs w B v ss) : ∃ a c, v = .slice a ss.length c := by
  rcases h.form with ⟨rfl, rfl⟩ | ⟨g, cap, rfl, _, _⟩
  · exact ⟨_, _, rfl⟩
  · exact ⟨_, _, rfl⟩

set_option maxRecDepth 100000 in
set_option maxHeartbeats 1000000 in
theorem eqStr_none (w : World) (a b : Option Addr) (c d : Nat) : Calls Try.prog 16 #[.slice a 0 c, .slice b 0 d] w fun e w' => e = .returned (.bool true) ∧ ∃ n, w' = w.drewN n := by
  go_enter Try.func16, Try.ntmps16
  go_wp2
  go_loopw [5] (fun i wr => i = .int .i64 0 ∧ wr = w) (fun _ _ => 0)
  case atStart => exact ⟨rfl, rfl⟩
  case round =>
    obtain ⟨rfl, rfl⟩ := hrel
    go_wp2
    go_ret
    exact ⟨rfl, 0, rfl⟩

set_option maxRecDepth 100000 in
set_option maxHeartbeats 1000000 in
theorem eqStr_row (w : World) (B B' g g' cap cap' : Nat) (ss : List ByteArray) (hz : ss.length ≤ 1048576) (h1 : Strs w B (.slice (some ⟨g, 0, none⟩) ss.length cap) ss) (h2 : Strs w B' (.slice (some ⟨g', 0, none⟩) ss.length cap') ss) :
    Calls Try.prog 16 #[.slice (some ⟨g, 0, none⟩) ss.length cap, .slice (some ⟨g', 0, none⟩) ss.length cap'] w fun e w' => e = .returned (.bool true) ∧ ∃ n, w' = w.drewN n := by
  go_enter Try.func16, Try.ntmps16
  go_wp2
  go_loopw [5] (fun i wr => ∃ k nq : Nat, k ≤ ss.length ∧ i = .int .i64 k ∧ wr = w.drewN nq) (fun i _ => ss.length - (intOf i).toNat)
  case atStart => exact ⟨0, 0, Nat.zero_le _, rfl, rfl⟩
  case round =>
    obtain ⟨k, nq, hk, rfl, rfl⟩ := hrel
    by_cases hlt : k < ss.length
    · obtain ⟨x, hx⟩ : ∃ x, ss[k]? = some x := ⟨_, List.getElem?_eq_getElem hlt⟩
      have a1 := h1.cell k x hx
      have a2 := h2.cell k x hx
      have hk8 : (k : Int) < (ss.length : Int) := by omega
      clear h1 h2 hx
      go_wp2
      go_quiet (fail)
      go_wp2
      exact ⟨⟨k + 1, _, by omega, by go_num, rfl⟩, by simp [intOf]; omega⟩
    · clear h1 h2
      go_wp2
      go_ret
      exact ⟨rfl, _, rfl⟩

theorem eqStr_any {w : World} {B B' : Nat} {a b : Value} {ss : List ByteArray} (hz : ss.length ≤ 1048576) (ha : Strs w B a ss) (hb : Strs w B' b ss) :
    Calls Try.prog 16 #[a, b] w fun e w' => e = .returned (.bool true) ∧ ∃ n, w' = w.drewN n := by
  rcases ha.form with ⟨rfl, rfl⟩ | ⟨g, cap, rfl, _, _⟩
  · rcases hb.form with ⟨rfl, _⟩ | ⟨g', cap', rfl, _, _⟩
    · exact eqStr_none w _ _ _ _
    · exact eqStr_none w _ _ _ _
  · rcases hb.form with ⟨rfl, rfl⟩ | ⟨g', cap', rfl, _, _⟩
    · exact eqStr_none w _ _ _ _
    · exact eqStr_row w B B' g g' cap cap' ss hz ha hb

/-- The texts of the marks from m on. -/
def seqT (m n : Nat) : List ByteArray := (List.range n).map fun j => mtx (m + j)

theorem seqT_len (m n : Nat) : (seqT m n).length = n := by simp [seqT]
theorem seqT_at (m n j : Nat) (h : j < n) : (seqT m n)[j]? = some (mtx (m + j)) := by simp [seqT, h]

/-- The row behind k marks. -/
def mkT (ss : List ByteArray) (m : Nat) : Nat → List ByteArray
  | 0 => ss
  | k + 1 => (mkT ss m k).set k (mtx (m + k))

theorem mkT_len (ss : List ByteArray) (m k : Nat) : (mkT ss m k).length = ss.length := by
  induction k with
  | zero => rfl
  | succ k ih => simp [mkT, ih]

theorem mkT_at (ss : List ByteArray) (m k j : Nat) (hj : j < k) (hl : j < ss.length) : (mkT ss m k)[j]? = some (mtx (m + j)) := by
  induction k with
  | zero => omega
  | succ k ih =>
    simp only [mkT, List.getElem?_set, mkT_len]
    by_cases e : k = j
    · subst e; simp [hl]
    · rw [if_neg e]; exact ih (by omega)

theorem mkT_all (ss : List ByteArray) (m : Nat) : mkT ss m ss.length = seqT m ss.length := by
  apply List.ext_getElem?
  intro j
  by_cases h : j < ss.length
  · rw [mkT_at ss m _ j h h, seqT_at m _ j h]
  · rw [List.getElem?_eq_none (by rw [mkT_len]; omega), List.getElem?_eq_none (by rw [seqT_len]; omega)]

theorem mkT_map (ss : List ByteArray) (m k : Nat) : ((mkT ss m k).map Value.string).set k (.string (mtx (m + k))) = (mkT ss m (k + 1)).map Value.string := by
  simp [mkT, List.map_set]

set_option maxRecDepth 100000 in
set_option maxHeartbeats 1000000 in
theorem markT_none (w : World) (a : Option Addr) (c : Nat) (m : Int) : Calls Try.prog 17 #[.slice a 0 c, .int .i64 m] w fun e w' => e = .returned (.int .i64 m) ∧ w' = w := by
  go_enter Try.func17, Try.ntmps17
  go_wp2
  go_loop [1, 5] (fun k i => k = .int .i64 m ∧ i = .int .i64 0) (fun _ _ => 0)
  case atStart => exact ⟨rfl, rfl⟩
  case round =>
    obtain ⟨rfl, rfl⟩ := hrel
    go_wp2
    go_ret
    exact ⟨rfl, rfl⟩

def MTRel (w : World) (B g cap : Nat) (ss : List ByteArray) (m : Nat) (mv i : Value) (wr : World) : Prop :=
  ∃ k : Nat, k ≤ ss.length ∧ i = .int .i64 k ∧ mv = .int .i64 ((m + k : Nat) : Int) ∧ wr.ownsRow B 9 1 (.slice (some ⟨g, 0, none⟩) ss.length cap) ss.length ((mkT ss m k).map Value.string) ∧ w.grownBy wr (some g)

set_option maxRecDepth 100000 in
set_option maxHeartbeats 1000000 in
theorem markT_row (w : World) (B g cap : Nat) (ss : List ByteArray) (m : Nat) (hm0 : 0 < m) (hm1 : m ≤ 1073741824) (hz : ss.length ≤ 1048576) (hI : w.ownsRow B 9 1 (.slice (some ⟨g, 0, none⟩) ss.length cap) ss.length (ss.map Value.string)) :
    Calls Try.prog 17 #[.slice (some ⟨g, 0, none⟩) ss.length cap, .int .i64 (m : Int)] w fun e w' => e = .returned (.int .i64 ((m + ss.length : Nat) : Int)) ∧ w'.ownsRow B 9 1 (.slice (some ⟨g, 0, none⟩) ss.length cap) ss.length ((mkT ss m ss.length).map Value.string) ∧ w.grownBy w' (some g) := by
  go_enter Try.func17, Try.ntmps17
  go_wp2
  go_loopw [1, 5] (fun mv i wr => MTRel w B g cap ss m mv i wr) (fun _ i _ => ss.length - (intOf i).toNat)
  case atStart => exact ⟨0, Nat.zero_le _, rfl, by simp, hI, World.grownBy.refl _ _⟩
  case round =>
    clear hI
    obtain ⟨k, hk, rfl, rfl, hown, hg⟩ := hrel
    by_cases hlt : k < ss.length
    · have hk8 : (k : Int) < (ss.length : Int) := by omega
      have MT := fun w => markText_pos (m + k) w (by omega) (by omega)
      obtain ⟨M, hM⟩ : ∃ M, M = m + k := ⟨_, rfl⟩
      have HW : Hid _ := hown
      rw [← hM] at MT
      rw [← hM]
      have HM : Hid _ := hM
      clear hM hown
      go_wp2_with fail
      refine (MT _).mono ?_
      rintro e w2 ⟨rfl, b2⟩
      have h2 := World.ownsRow.kept HW.out (row := none) ⟨b2.os, b2.tape, b2.output, b2.size, fun k hk _ => b2.block k hk⟩ (by simp [Value.ownBlock])
      have c1 := h2.cellAt k (by omega)
      have hm : ((mkT ss m k).map Value.string)[k]? = some (.string ((mkT ss m k)[k]?.getD ⟨#[]⟩)) := by
        have := mkT_len ss m k
        simp [this, hlt]
      rw [hm] at c1
      have c2 := h2.frozenAt k
      have hst := h2.stored k (.string (mtx (m + k)))
      rw [mkT_map] at hst
      rw [← HM.out] at hst
      have HST : Hid _ := hst
      have HG : Hid (w.grownBy w2 (some g)) := hg.trans ⟨b2.os, b2.tape, b2.output, b2.size, fun k hk _ => b2.block k hk⟩
      have hMb : M ≤ 2000000000 := by have := HM.out; omega
      clear hst hm h2 MT HW b2
      go_wp2
      exact ⟨⟨k + 1, by omega, by go_num, by rw [show m + (k + 1) = M + 1 by have := HM.out; omega]; go_num, HST.out.1, HG.out.trans HST.out.2⟩, by simp [intOf]; omega⟩
    · have hkz : k = ss.length := by omega
      subst hkz
      go_wp2
      go_ret
      exact ⟨rfl, hown, hg⟩

theorem markT_any {w : World} {B : Nat} {v : Value} {ss : List ByteArray} {m : Nat} (hm0 : 0 < m) (hm1 : m ≤ 1073741824) (hz : ss.length ≤ 1048576) (hI : Strs w B v ss) :
    Calls Try.prog 17 #[v, .int .i64 (m : Int)] w fun e w' => e = .returned (.int .i64 ((m + ss.length : Nat) : Int)) ∧ Strs w' B v (seqT m ss.length) ∧ w.grownBy w' v.ownBlock := by
  rcases hI.form with ⟨rfl, rfl⟩ | ⟨g, cap, rfl, _, _⟩
  · refine (markT_none w _ _ m).mono ?_
    rintro e w' ⟨rfl, rfl⟩
    exact ⟨by simp, hI, World.grownBy.refl _ _⟩
  · refine (markT_row w B g cap ss m hm0 hm1 hz hI).mono ?_
    rintro e w' ⟨rfl, h3, h4⟩
    refine ⟨rfl, ?_, h4⟩
    unfold Strs
    rw [seqT_len, ← mkT_all]
    exact h3
end Go.Proofs.Ytecgkekafbimaaa
