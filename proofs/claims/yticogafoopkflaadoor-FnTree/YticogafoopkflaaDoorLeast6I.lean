/- Contracts of LeastFill, the program's and the specification's. -/
import Derived.Test.YticogafoopkflaaDoorIBook6
import Derived.Test.YticogafoopkflaaDoorSBook6
namespace Go.Proofs.YticogafoopkflaaDoor
open Go.RowKit

def LfRel (w : World) (ss : List ByteArray) (m i : Value) (wr : World) : Prop :=
  ∃ k : Nat, k ≤ ss.length ∧ m = .int .i64 (leastF ss k : Int) ∧ i = .int .i64 (k : Int) ∧ Below w.heap.size w wr

set_option maxRecDepth 100000 in
set_option maxHeartbeats 4000000 in
theorem implLF_any {w : World} {B : Nat} {vp : Value} {ss : List ByteArray} (hS : Strs w B vp ss) (hz : ∀ s ∈ ss, s.size ≤ 1048576) (hl : ss.length ≤ 1048576) {ty : TypeId} {pv : Value} (hg : ErrG w ty pv) :
    Calls Tryd.prog 18 #[vp] w fun e w' => e = .returned (.tuple #[.int .i64 (leastA ss), .bool (bookF ss).isSome]) ∧ Below w.heap.size w w' := by
  have BK := openBook_any hS hz hl hg
  obtain ⟨a, c, rfl, hq⟩ := strs6_all hS
  have HQ : Hid _ := hq
  have HZ : Hid (∀ s ∈ ss, s.size ≤ 1048576) := hz
  have HL : Hid (∀ k, leastF ss k ≤ 1048576) := fun k => leastF_le ss 1048576 hz k
  clear hS hq hz hg
  cases hbk : (bookF ss).isSome
  · have HA : Hid (leastA ss = 0) := by show _ = _; unfold leastA; rw [hbk]; rfl
    rw [hbk] at BK
    rw [HA.out]
    go_enter Tryd.func18, Tryd.ntmps18
    go_wp2_with fail
    refine BK.mono ?_
    rintro e w2 ⟨v2, rfl, _, b2⟩
    clear BK
    go_wp2
    go_ret2
    exact ⟨rfl, b2⟩
  · have HA : Hid (leastA ss = (leastF ss ss.length : Int)) := by show _ = _; unfold leastA; rw [hbk]; rfl
    rw [hbk] at BK
    rw [HA.out]
    go_enter Tryd.func18, Tryd.ntmps18
    go_wp2_with fail
    refine BK.mono ?_
    rintro e w2 ⟨v2, rfl, _, b2⟩
    have HB2 : Hid (Below w.heap.size w w2) := b2
    clear BK b2
    go_wp2_with fail
    go_loopw [6, 18] (fun m i wr => LfRel w ss m i wr) (fun _ i _ => ss.length - (intOf i).toNat)
    case atStart => exact ⟨0, Nat.zero_le _, rfl, rfl, HB2.out⟩
    case round =>
      obtain ⟨k, hk, rfl, rfl, hb⟩ := hrel
      by_cases hlt : k < ss.length
      · obtain ⟨s, hs⟩ : ∃ s, ss[k]? = some s := ⟨_, List.getElem?_eq_getElem hlt⟩
        obtain ⟨g, rfl, qc⟩ := HQ.out k s hs
        have c0 := qc wr hb k s hs
        have hc0 := rw_cell_lt c0
        have hlt8 : (k : Int) < (ss.length : Int) := by omega
        have hsz := HZ.out s (List.mem_of_getElem? hs)
        have HB : Hid (Below w.heap.size w wr) := hb
        clear qc hb HB2
        by_cases hk0 : k = 0
        · subst hk0
          have HM : Hid (leastF ss (0 + 1) = s.size) := leastF_zero hs
          clear hs
          go_wp2
          exact ⟨⟨0 + 1, by omega, by rw [HM.out], by go_num, HB.out⟩, by simp [intOf]; omega⟩
        · have hkn : ¬ (k : Int) = 0 := by omega
          have hLk := HL.out k
          by_cases hm : s.size < leastF ss k
          · have HM : Hid (leastF ss (k + 1) = s.size) := leastF_yes hs hm
            have hm8 : (s.size : Int) < (leastF ss k : Int) := by omega
            clear hs
            generalize leastF ss k = lk at *
            go_wp2
            exact ⟨⟨k + 1, by omega, by rw [HM.out], by go_num, HB.out⟩, by simp [intOf]; omega⟩
          · have HM : Hid (leastF ss (k + 1) = leastF ss k) := leastF_no hs hk0 hm
            have hm8 : ¬ (s.size : Int) < (leastF ss k : Int) := by omega
            clear hs
            generalize leastF ss k = lk at *
            go_wp2
            exact ⟨⟨k + 1, by omega, by rw [HM.out], by go_num, HB.out⟩, by simp [intOf]; omega⟩
      · have hkz : k = ss.length := by omega
        subst hkz
        clear HB2
        go_wp2
        go_ret2
        exact ⟨rfl, hb⟩
end Go.Proofs.YticogafoopkflaaDoor
