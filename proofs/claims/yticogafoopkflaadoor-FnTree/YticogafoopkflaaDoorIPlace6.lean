/- Contract of the program's placeOf. -/
import Derived.Test.YticogafoopkflaaDoorPPlace6
import Derived.Test.YticogafoopkflaaDoorIBook6
namespace Go.Proofs.YticogafoopkflaaDoor
open Go.RowKit

def BsRel (w : World) (l : List Rw) (key : ByteArray) (vi vj : Value) (wr : World) : Prop :=
  ∃ i j : Nat, i ≤ j ∧ j ≤ l.length ∧ vi = .int .i64 (i : Int) ∧ vj = .int .i64 (j : Int) ∧ bsF l key i j = placeF l key ∧ Below w.heap.size w wr

set_option maxRecDepth 100000 in
set_option maxHeartbeats 4000000 in
theorem bsFunc_any {w : World} {a : Option Addr} {c : Nat} {l : List Rw} (key : ByteArray) (hS : SlRw w a l) (hl : l.length ≤ 1048576) :
    Calls Tryd.prog 65 #[.slice a l.length c, .string key, .func (Fn.func 66) #[] #[]] w fun e w' => e = .returned (.tuple #[.int .i64 (placeF l key : Int), .bool (thereF l key)]) ∧ Below w.heap.size w w' := by
  have HS : Hid (SlRw w a l) := hS
  obtain ⟨R, HR⟩ : ∃ R, Hid (placeF l key = R) := ⟨_, rfl⟩
  obtain ⟨T, HT⟩ : ∃ T, Hid (thereF l key = T) := ⟨_, rfl⟩
  rw [HR.out, HT.out]
  clear hS
  go_enter Tryd.func65, Tryd.ntmps65
  go_wp2_with fail
  go_loopw [9, 10] (fun vi vj wr => BsRel w l key vi vj wr) (fun vi vj _ => (intOf vj).toNat - (intOf vi).toNat)
  case atStart => exact ⟨0, l.length, by omega, by omega, rfl, rfl, rfl, Below.refl _ _⟩
  case round =>
    obtain ⟨i, j, q1, q2, rfl, rfl, hE, hb⟩ := hrel
    have HE : Hid _ := hE
    have HB : Hid (Below w.heap.size w wr) := hb
    by_cases hlt : i < j
    · have hlt8 : (i : Int) < (j : Int) := by omega
      obtain ⟨m, HM⟩ : ∃ m, Hid ((i + j) / 2 = m) := ⟨_, rfl⟩
      have hm := HM.out
      have hm1 : i ≤ m := by omega
      have hm2 : m < j := by omega
      have hm8 : (m : Int) < (l.length : Int) := by omega
      obtain ⟨x, hx⟩ : ∃ x, l[m]? = some x := ⟨_, List.getElem?_eq_getElem (by omega)⟩
      have hxa : rwAt l ((i + j) / 2) = x := by rw [hm]; unfold rwAt; rw [hx]; rfl
      rcases HS.out.below hb (Nat.le_refl _) with h0 | ⟨b, o, rfl, hC⟩
      · rw [h0] at hx; simp at hx
      obtain ⟨a0, a1, a2⟩ := hC m x hx
      have hbl := rw_cell_lt a0
      have PC := placeCmp_any x key wr
      have hw1 : IntKind.wrap .u64 ((i : Int) + (j : Int)) = (i : Int) + (j : Int) := by
        show _ = _
        unfold IntKind.wrap
        simp [IntKind.signed, IntKind.bits]
        omega
      clear hC hx hE hb
      by_cases hk : cmpK x.key key < 0
      · have HE2 : Hid (bsF l key (m + 1) j = placeF l key) := by show _ = _; rw [← HE.out, bsF_up hlt (by rw [hxa]; exact hk), HM.out]
        clear hxa HE HM
        generalize cmpK x.key key = cv at *
        go_wp2_with fail
        refine PC.mono ?_
        rintro e w2 ⟨rfl, b2⟩
        have HB2 : Hid (Below w.heap.size w w2) := HB.out.trans (b2.mono HB.out.size)
        clear PC b2 HB
        go_wp2
        exact ⟨⟨m + 1, j, by omega, by omega, congrArg (Value.int IntKind.i64) (by omega), rfl, HE2.out, HB2.out⟩, by simp [intOf]; omega⟩
      · have HE2 : Hid (bsF l key i m = placeF l key) := by show _ = _; rw [← HE.out, bsF_down hlt (by rw [hxa]; exact hk), HM.out]
        clear hxa HE HM
        generalize cmpK x.key key = cv at *
        go_wp2_with fail
        refine PC.mono ?_
        rintro e w2 ⟨rfl, b2⟩
        have HB2 : Hid (Below w.heap.size w w2) := HB.out.trans (b2.mono HB.out.size)
        clear PC b2 HB
        go_wp2
        exact ⟨⟨i, m, by omega, by omega, rfl, congrArg (Value.int IntKind.i64) (by omega), HE2.out, HB2.out⟩, by simp [intOf]; omega⟩
    · have hlt8 : ¬ (i : Int) < (j : Int) := by omega
      have HRi : Hid (R = i) := by show _ = _; rw [← HR.out, ← HE.out, bsF_end hlt]
      by_cases hil : i < l.length
      · have hil8 : (i : Int) < (l.length : Int) := by omega
        obtain ⟨x, hx⟩ : ∃ x, l[i]? = some x := ⟨_, List.getElem?_eq_getElem hil⟩
        have hxa : rwAt l i = x := by unfold rwAt; rw [hx]; rfl
        have HTi : Hid (T = decide (cmpK x.key key = 0)) := by show _ = _; rw [← HT.out]; unfold thereF; rw [HR.out, HRi.out, hxa, decide_eq_true hil, Bool.true_and]
        rcases HS.out.below hb (Nat.le_refl _) with h0 | ⟨b, o, rfl, hC⟩
        · rw [h0] at hx; simp at hx
        obtain ⟨a0, a1, a2⟩ := hC i x hx
        have hbl := rw_cell_lt a0
        have PC := placeCmp_any x key wr
        clear hC hx hE hb HE hxa
        by_cases hk : cmpK x.key key = 0
        · have HT2 : Hid (T = true) := by show _ = _; rw [HTi.out, decide_eq_true hk]
          clear HTi
          generalize cmpK x.key key = cv at *
          go_wp2_with fail
          refine PC.mono ?_
          rintro e w2 ⟨rfl, b2⟩
          have HB2 : Hid (Below w.heap.size w w2) := HB.out.trans (b2.mono HB.out.size)
          clear PC b2 HB
          go_wp2
          go_ret2
          rw [HRi.out, HT2.out]
          exact ⟨rfl, HB2.out⟩
        · have HT2 : Hid (T = false) := by show _ = _; rw [HTi.out, decide_eq_false hk]
          clear HTi
          generalize cmpK x.key key = cv at *
          go_wp2_with fail
          refine PC.mono ?_
          rintro e w2 ⟨rfl, b2⟩
          have HB2 : Hid (Below w.heap.size w w2) := HB.out.trans (b2.mono HB.out.size)
          clear PC b2 HB
          go_wp2
          go_ret2
          rw [HRi.out, HT2.out]
          exact ⟨by simp [hk], HB2.out⟩
      · have hil8 : ¬ (i : Int) < (l.length : Int) := by omega
        have HT2 : Hid (T = false) := by show _ = _; rw [← HT.out]; unfold thereF; rw [HR.out, HRi.out, decide_eq_false hil]; rfl
        clear hE HE
        go_wp2
        go_ret2
        rw [HRi.out, HT2.out]
        exact ⟨rfl, hb⟩

set_option maxRecDepth 100000 in
set_option maxHeartbeats 1000000 in
theorem placeOf_any {w : World} {a : Option Addr} {c : Nat} {l : List Rw} (key : ByteArray) (hS : SlRw w a l) (hl : l.length ≤ 1048576) :
    Calls Tryd.prog 36 #[.slice a l.length c, .string key] w fun e w' => e = .returned (.tuple #[.int .i64 (placeF l key : Int), .bool (thereF l key)]) ∧ Below w.heap.size w w' := by
  have BS := bsFunc_any (c := c) key hS hl
  generalize placeF l key = R at *
  generalize thereF l key = T at *
  clear hS
  go_enter Tryd.func36, Tryd.ntmps36
  go_wp2_with fail
  refine BS.mono ?_
  rintro e w2 ⟨rfl, b2⟩
  clear BS
  go_wp2
  go_ret2
  exact ⟨rfl, b2⟩
end Go.Proofs.YticogafoopkflaaDoor
