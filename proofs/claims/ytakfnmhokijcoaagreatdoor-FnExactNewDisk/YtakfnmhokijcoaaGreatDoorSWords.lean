/- The contract of the specification's l3Words. -/
import Derived.Test.YtakfnmhokijcoaaGreatDoorDec
import Derived.Test.YtakfnmhokijcoaaGreatDoorStrs
namespace Go.Proofs.YtakfnmhokijcoaaGreatDoor
open Go.RowKit

/-- The words ahead of place k, and the one that is under way; behind the end stands a blank. -/
def wst (s : ByteArray) : Nat → List ByteArray × ByteArray
  | 0 => ([], ⟨#[]⟩)
  | k + 1 =>
    if k < s.size ∧ Dec.bt s k ≠ 32 then ((wst s k).1, (wst s k).2 ++ s.extract k (k + 1))
    else ((if (wst s k).2.size = 0 then (wst s k).1 else (wst s k).1 ++ [(wst s k).2]), ⟨#[]⟩)

def words (s : ByteArray) : List ByteArray := (wst s (s.size + 1)).1

theorem wst_bound (s : ByteArray) (k : Nat) : (wst s k).1.length ≤ k ∧ (wst s k).2.size ≤ k := by
  induction k with
  | zero => exact ⟨Nat.zero_le _, Nat.le_refl _⟩
  | succ k ih =>
    unfold wst
    split
    · rename_i h
      refine ⟨by show (wst s k).1.length ≤ _; omega, ?_⟩
      show ((wst s k).2 ++ s.extract k (k + 1)).size ≤ _
      rw [ByteArray.size_append, ByteArray.size_extract]
      omega
    · refine ⟨?_, Nat.zero_le _⟩
      show (if _ then _ else _ : List ByteArray).length ≤ _
      split
      · omega
      · rw [List.length_append]; simp; omega

def WRel (w : World) (s : ByteArray) (out word i : Value) (wr : World) : Prop :=
  ∃ (k : Nat) (os : List ByteArray) (cur : ByteArray), k ≤ s.size + 1 ∧ i = .int .i64 k ∧ wst s k = (os, cur) ∧ word = .string cur ∧ Strs wr w.heap.size out os ∧ Below w.heap.size w wr

theorem isEmpty_size (c : ByteArray) : c.toList.isEmpty = decide (c.size = 0) := by
  rw [ByteArray.toList_eq]
  rcases c with ⟨⟨l⟩⟩
  cases l <;> simp [ByteArray.size]

set_option maxRecDepth 100000 in
set_option maxHeartbeats 2000000 in
theorem words_any (s : ByteArray) (w : World) (hs : s.size ≤ 1073741824) :
    Calls Tryz.prog 15 #[.string s] w fun e w' => ∃ v, e = .returned v ∧ Strs w' w.heap.size v (words s) ∧ Below w.heap.size w w' := by
  obtain ⟨i0, hi, hz0, hz1, hz2⟩ := info_parts info_str
  go_enter Tryz.func15, Tryz.ntmps15
  go_wp2
  go_loopw [3, 4, 5] (fun out word i wr => WRel w s out word i wr) (fun _ _ i _ => s.size + 1 - (intOf i).toNat)
  case atStart => exact ⟨0, [], ⟨#[]⟩, Nat.zero_le _, rfl, rfl, rfl, World.ownsRow_nil _ _ _ _, Below.refl _ _⟩
  case round =>
    obtain ⟨k, os, cur, hk, rfl, hw, rfl, ho, hb⟩ := hrel
    have hbd := wst_bound s k
    rw [hw] at hbd
    have hb1 : os.length ≤ k := hbd.1
    have hb2 : cur.size ≤ k := hbd.2
    have HW : Hid (wst s k = (os, cur)) := hw
    clear hw hbd
    unfold Strs at ho
    by_cases hle : k ≤ s.size
    · by_cases hlt : k < s.size ∧ Dec.bt s k ≠ 32
      · obtain ⟨hlt, hc⟩ := hlt
        have EK : Hid (Dec.bt s k = (s[k]'hlt).toNat) := (Dec.bt_get s k hlt).symm
        have c' : (((s[k]'hlt).toNat : Int) != 32) = true := by rw [EK.out] at hc; simp; omega
        have HN : Hid (wst s (k + 1) = (os, cur ++ s.extract k (k + 1))) := by
          show _ = _
          rw [wst, if_pos ⟨hlt, hc⟩, HW.out]
        clear hc EK HW
        go_wp2
        exact ⟨⟨k + 1, _, _, by omega, by go_num, HN.out, rfl, ho, hb⟩, by simp [intOf]; omega⟩
      · have HN0 : Hid (wst s (k + 1) = ((if cur.size = 0 then os else os ++ [cur]), ⟨#[]⟩)) := by
          show _ = _
          rw [wst, if_neg hlt, HW.out]
        clear HW
        have hd : k < s.size → Dec.bt s k = 32 := fun h => Decidable.byContradiction fun c => hlt ⟨h, c⟩
        clear hlt
        have hem := isEmpty_size cur
        by_cases hc : cur.size = 0
        · rw [decide_eq_true hc] at hem
          have HN : Hid (wst s (k + 1) = (os, ⟨#[]⟩)) := by show _ = _; rw [HN0.out, if_pos hc]
          clear HN0 hc
          by_cases hlt : k < s.size
          · have EK := Dec.bt_get s k hlt
            rw [hd hlt] at EK
            have c' : (((s[k]'hlt).toNat : Int) != 32) = false := by simp; omega
            clear hd EK
            go_wp2
            exact ⟨⟨k + 1, _, _, by omega, by go_num, HN.out, rfl, ho, hb⟩, by simp [intOf]; omega⟩
          · have c1 : ¬ (k : Int) < (s.size : Int) := by omega
            clear hd
            go_wp2
            exact ⟨⟨k + 1, _, _, by omega, by go_num, HN.out, rfl, ho, hb⟩, by simp [intOf]; omega⟩
        · rw [decide_eq_false hc] at hem
          have HN : Hid (wst s (k + 1) = (os ++ [cur], ⟨#[]⟩)) := by show _ = _; rw [HN0.out, if_neg hc]
          have hsz := hb.size
          clear HN0 hc
          by_cases hlt : k < s.size
          · have EK := Dec.bt_get s k hlt
            rw [hd hlt] at EK
            have c' : (((s[k]'hlt).toNat : Int) != 32) = false := by simp; omega
            clear hd EK
            go_wp2_with (at_builtin; refine wpList_append_own _ rfl _ _ 22 rfl w.heap.size 9 i0 (.string ⟨#[]⟩) 1 16 Tryz.underlying22 hi hz0 hz1 hz2 rfl (by decide) _ _ _ rfl (ho.alloc _) ⟨_, 0, none⟩ 1 1 [.string cur] rfl rfl (cell_one_new _ _ _) (fun x hx => by simp at hx; subst hx; rfl) (by unfold maxLen; omega) (by omega) (by simp; omega) ?_; intro v' w3 hown' hgrow3 _)
            have hb3 := Below.grown (hb.alloc (by omega) _) hgrow3 (by simp; omega) (fun j hj => (ho.lt _ hj).1)
            exact ⟨⟨k + 1, _, _, by omega, by go_num, HN.out, rfl, Strs.snoc hown', hb3⟩, by simp [intOf]; omega⟩
          · have c1 : ¬ (k : Int) < (s.size : Int) := by omega
            clear hd
            go_wp2_with (at_builtin; refine wpList_append_own _ rfl _ _ 22 rfl w.heap.size 9 i0 (.string ⟨#[]⟩) 1 16 Tryz.underlying22 hi hz0 hz1 hz2 rfl (by decide) _ _ _ rfl (ho.alloc _) ⟨_, 0, none⟩ 1 1 [.string cur] rfl rfl (cell_one_new _ _ _) (fun x hx => by simp at hx; subst hx; rfl) (by unfold maxLen; omega) (by omega) (by simp; omega) ?_; intro v' w3 hown' hgrow3 _)
            have hb3 := Below.grown (hb.alloc (by omega) _) hgrow3 (by simp; omega) (fun j hj => (ho.lt _ hj).1)
            exact ⟨⟨k + 1, _, _, by omega, by go_num, HN.out, rfl, Strs.snoc hown', hb3⟩, by simp [intOf]; omega⟩
    · have hk3 : k = s.size + 1 := by omega
      subst hk3
      have HF : Hid (os = words s) := by show _ = _; unfold words; rw [HW.out]
      clear HW
      go_wp2
      go_ret
      exact ⟨_, rfl, by rw [← HF.out]; exact ho, hb⟩
end Go.Proofs.YtakfnmhokijcoaaGreatDoor
