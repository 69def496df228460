/- Contracts of the specification's l1Decode and of the program's readText: for a text of at most 2^30 bytes both hand back the runes and the count of the plain function 'decT', in memory of their own. -/
import Derived.Test.YtinjldagfhbioaaGreatDoorOneAt
import Derived.Test.YtinjldagfhbioaaGreatDoorInts
import Derived.Lib.OthersKept
namespace Go.Proofs.YtinjldagfhbioaaGreatDoor
open Go.RowKit

def strLen : Value → Nat
  | .string t => t.size
  | _ => 0

def DecRel (s : ByteArray) (w : World) (sv v b : Value) (wr : World) : Prop :=
  ∃ (t : ByteArray) (f bad : Nat) (acc : List Int), sv = .string t ∧ b = .int .i64 bad ∧ Ints wr w.heap.size v acc ∧ Below w.heap.size w wr ∧
    acc ++ (Dec.decT f t).1 = (Dec.decT s.size s).1 ∧ bad + (Dec.decT f t).2 = (Dec.decT s.size s).2 ∧ t.size ≤ f ∧ acc.length + t.size ≤ s.size ∧ bad + t.size ≤ s.size

theorem decT_step {t : ByteArray} {r : Int} {n : Nat} {ok : Bool} (h0 : 0 < t.size) (ho : Dec.one t = (r, n, ok)) (f : Nat) :
    Dec.decT (f + 1) t = (r :: (Dec.decT f (t.extract n t.size)).1, (Dec.decT f (t.extract n t.size)).2 + (if ok then 0 else 1)) := by
  simp only [Dec.decT, if_pos h0, ho]

theorem ret_v {v : Value} {a a' : Int} (h : a = a') : Ending.returned (.tuple #[v, .int .i64 a]) = .returned (.tuple #[v, .int .i64 a']) := by rw [h]

set_option maxRecDepth 100000 in
set_option maxHeartbeats 2000000 in
theorem l1Decode_any (s : ByteArray) (w : World) (hs : s.size ≤ 1073741824) :
    Calls Tryz.prog 38 #[.string s] w fun e w' => ∃ v, e = .returned (.tuple #[v, .int .i64 ((Dec.decT s.size s).2 : Int)]) ∧ Ints w' w.heap.size v (Dec.decT s.size s).1 ∧ Below w.heap.size w w' := by
  obtain ⟨i0, hi, hz0, hz1, hz2⟩ := info_parts info_int
  go_enter Tryz.func38, Tryz.ntmps38
  go_wp2
  go_loopw [0, 4, 5] (fun sv v b wr => DecRel s w sv v b wr) (fun sv _ _ _ => strLen sv)
  case atStart => exact ⟨s, s.size, 0, [], rfl, rfl, World.ownsRow_nil _ _ _ _, Below.refl _ _, by simp, by simp, Nat.le_refl _, by simp, by simp⟩
  case round =>
    obtain ⟨t, f, bad, acc, rfl, rfl, hown, hbw, hA, hB, hf, hal, hbl⟩ := hrel
    have HA : Hid _ := hA
    have HB : Hid _ := hB
    clear hA hB
    unfold Ints at hown
    by_cases hp : 0 < t.size
    · obtain ⟨r, n, ok, HO⟩ : ∃ r n ok, Hid (Dec.one t = (r, n, ok)) := ⟨_, _, _, rfl⟩
      have hn := Dec.one_le t hp
      rw [HO.out] at hn
      have hn1 : 1 ≤ n := hn.1
      have hn2 : n ≤ t.size := hn.2
      clear hn
      have O := fun w => one_any t hp (by unfold maxLen; omega) w
      rw [HO.out] at O
      obtain ⟨f', rfl⟩ : ∃ f', f = f' + 1 := ⟨f - 1, by omega⟩
      have hds := decT_step hp HO.out f'
      have HA' : Hid _ := HA.out
      have HB' : Hid _ := HB.out
      unfold Hid at HA' HB'
      rw [hds] at HA' HB'
      have HA2 : Hid _ := HA'
      have HB2 : Hid _ := HB'
      clear HA' HB' hds HA HB
      have hsz := hbw.size
      have hex := Dec.size_extract t n
      cases ok
      all_goals
        go_wp2_with (first
          | (go_at_call 43; refine (O _).mono ?_; rintro e w' ⟨rfl, rfl⟩)
          | (at_builtin; refine wpList_append_own _ rfl _ _ 35 rfl w.heap.size 3 i0 (.int .i64 0) 1 8 Tryz.underlying35 hi hz0 hz1 hz2 rfl (by decide) _ _ _ rfl (hown.alloc _) ⟨_, 0, none⟩ 1 1 [.int .i64 r] rfl rfl (cell_one_new _ _ _) (fun x hx => by simp at hx; subst hx; rfl) (by unfold maxLen; omega) (by omega) (by simp; omega) ?_; intro v' w3 hown' hgrow3 _))
      · have hb3 := Below.grown (hbw.alloc (by omega) _) hgrow3 (by simp; omega) (fun j hj => (hown.lt _ hj).1)
        have HA3 := HA2.out
        have HB3 : bad + ((Dec.decT f' (t.extract n t.size)).2 + 1) = _ := HB2.out
        exact ⟨⟨t.extract n t.size, f', bad + 1, acc ++ [r], rfl, by go_num, Ints.snoc hown', hb3, by simpa using HA3, by omega, by omega, by simp; omega, by omega⟩, by simp only [strLen]; omega⟩
      · have hb3 := Below.grown (hbw.alloc (by omega) _) hgrow3 (by simp; omega) (fun j hj => (hown.lt _ hj).1)
        have HA3 := HA2.out
        have HB3 : bad + ((Dec.decT f' (t.extract n t.size)).2 + 0) = _ := HB2.out
        exact ⟨⟨t.extract n t.size, f', bad, acc ++ [r], rfl, by go_num, Ints.snoc hown', hb3, by simpa using HA3, by omega, by omega, by simp; omega, by omega⟩, by simp only [strLen]; omega⟩
    · have ht0 : t.size = 0 := by omega
      have HA2 := HA.out
      have HB2 := HB.out
      rw [Dec.decT_end _ _ ht0] at HA2 HB2
      have HA3 : Hid _ := HA2
      have HB3 : Hid _ := HB2
      clear HA2 HB2 HA HB
      go_wp2
      go_ret2
      have HA4 := HA3.out
      have HB4 := HB3.out
      simp only [List.append_nil, Nat.add_zero] at HA4 HB4
      refine ⟨_, ret_v (by rw [HB4]), ?_, hbw⟩
      rw [← HA4]
      exact hown
end Go.Proofs.YtinjldagfhbioaaGreatDoor
