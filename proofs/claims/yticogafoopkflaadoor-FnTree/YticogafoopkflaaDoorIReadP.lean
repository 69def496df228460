/- Contracts of the program's ReadPage and of the specification's. -/
import Derived.Test.YticogafoopkflaaDoorIRows6
namespace Go.Proofs.YticogafoopkflaaDoor
open Go.RowKit

theorem mark_is {s : ByteArray} (h : 3 ≤ s.size) : ((s.extract 0 2).toList == [80, 71]) = markOk s := by
  have hz : (s.extract 0 2).size = 2 := ext_size s (by omega)
  have e0 : bAt (s.extract 0 2) 0 = bAt s 0 := bAt_ext s (by omega) (by omega)
  have e1 : bAt (s.extract 0 2) 1 = bAt s 1 := bAt_ext s (by omega) (by omega)
  have hl : (s.extract 0 2).toList = [bAt s 0, bAt s 1] := by
    rw [ByteArray.toList_eq]
    have hl2 : (s.extract 0 2).data.toList.length = 2 := by rw [Array.length_toList]; exact hz
    have d0 := bAt_drop (s := s.extract 0 2) (n := 0) (by omega)
    have d1 := bAt_drop (s := s.extract 0 2) (n := 1) (by omega)
    rw [List.drop_zero] at d0
    rw [d0, d1, e0, e1]
    congr 2
    apply List.drop_eq_nil_of_le
    omega

  rw [hl]
  unfold markOk hd
  have q0 : ((bAt s 0).toNat = 80) = (bAt s 0 = 80) := propext ⟨fun e => UInt8.toNat_inj.1 e, fun e => by rw [e]; rfl⟩
  have q1 : ((bAt s 1).toNat = 71) = (bAt s 1 = 71) := propext ⟨fun e => UInt8.toNat_inj.1 e, fun e => by rw [e]; rfl⟩
  simp only [q0, q1]
  by_cases h1 : bAt s 0 = 80
  · by_cases h2 : bAt s 1 = 71
    · simp [h1, h2]
    · simp [h1, h2]
  · simp [h1]

set_option maxRecDepth 100000 in
set_option maxHeartbeats 1000000 in
theorem prefix_any (s : ByteArray) (w : World) (h : 3 ≤ s.size) (h3 : s.size ≤ 300) : Calls Tryd.prog 32 #[.string s, .string ⟨#[80, 71]⟩] w fun e w' => e = .returned (.bool (markOk s)) ∧ w' = w := by
  have P : Calls Tryd.prog 59 #[.string s, .string ⟨#[80, 71]⟩] w fun e w' => e = .returned (.bool (markOk s)) ∧ w' = w := by
    have hm := mark_is h
    have hz : (⟨#[80, 71]⟩ : ByteArray).size = 2 := rfl
    have h2 : (2 : Int) ≤ (s.size : Int) := by omega
    have HM : Hid _ := hm
    go_enter Tryd.func59, Tryd.ntmps59
    go_wp2
    go_ret
    have e := HM.out
    exact ⟨by rw [← e]; rfl, rfl⟩
  go_enter Tryd.func32, Tryd.ntmps32
  go_wp2_with fail
  refine P.mono ?_
  rintro e w1 ⟨rfl, rfl⟩
  clear P
  go_wp2
  go_ret
  exact ⟨rfl, rfl⟩

set_option maxRecDepth 100000 in
set_option maxHeartbeats 2000000 in
theorem implRP_any (s : ByteArray) (w : World) (hs : s.size ≤ 1048576) {ty : TypeId} {pv : Value} (hg : ErrG w ty pv) :
    Calls Tryd.prog 10 #[.string s] w fun e w' => ∃ v, e = .returned (.tuple #[v, .int .i64 (codeP s)]) ∧ Rws w' w.heap.size v (readP s) ∧ Below w.heap.size w w' := by
  have hnil : Hid (Rws w w.heap.size (.slice none 0 0) []) := World.ownsRow_nil _ _ _ _
  by_cases h300 : s.size ≤ 300
  · have n300 : (s.size : Int) ≤ 300 := by omega
    by_cases h3 : 3 ≤ s.size
    · have n3 : (3 : Int) ≤ (s.size : Int) := by omega
      have hlo : lenOk s = true := by unfold lenOk; rw [decide_eq_true h3, decide_eq_true h300]; rfl
      have PX := prefix_any s w h3 h300
      cases hmk : markOk s
      · have hc : codeP s = 2 := by unfold codeP; rw [hlo, hmk]; rfl
        have hr : readP s = [] := by unfold readP; rw [hlo, hmk]; rfl
        rw [hc, hr]
        rw [hmk] at PX
        clear hlo hc hr hmk
        go_enter Tryd.func10, Tryd.ntmps10
        go_wp2_with fail
        refine PX.mono ?_
        rintro e w1 ⟨rfl, rfl⟩
        clear PX
        go_wp2
        go_ret2
        exact ⟨_, rfl, hnil.out, Below.refl _ _⟩
      · have RO := rowsOf_any s w h3 h300 hg
        have hc : codeP s = if (readL s).isSome then 0 else 3 := by unfold codeP; rw [hlo, hmk]; rfl
        have hr : readP s = (readL s).getD [] := by unfold readP; rw [hlo, hmk]; rfl
        rw [hmk] at PX
        rw [hc, hr]
        clear hlo hc hr hmk
        cases hrl : readL s with
        | none =>
          rw [hrl] at RO
          clear hrl
          go_enter Tryd.func10, Tryd.ntmps10
          go_wp2_with fail
          refine PX.mono ?_
          rintro e w1 ⟨rfl, rfl⟩
          clear PX
          go_wp2_with fail
          refine RO.mono ?_
          rintro e w2 ⟨v2, rfl, _, b2⟩
          clear RO
          go_wp2
          go_ret2
          exact ⟨_, rfl, World.ownsRow_nil _ _ _ _, b2⟩
        | some l =>
          rw [hrl] at RO
          clear hrl
          go_enter Tryd.func10, Tryd.ntmps10
          go_wp2_with fail
          refine PX.mono ?_
          rintro e w1 ⟨rfl, rfl⟩
          clear PX
          go_wp2_with fail
          refine RO.mono ?_
          rintro e w2 ⟨v2, rfl, r2, b2⟩
          clear RO
          go_wp2
          go_ret2
          exact ⟨_, rfl, r2, b2⟩
    · have n3 : ¬ (3 : Int) ≤ (s.size : Int) := by omega
      have hlo : lenOk s = false := by unfold lenOk; rw [decide_eq_false h3]; rfl
      have hc : codeP s = 1 := by unfold codeP; rw [hlo]; rfl
      have hr : readP s = [] := by unfold readP; rw [hlo]; rfl
      rw [hc, hr]
      clear hlo hc hr
      go_enter Tryd.func10, Tryd.ntmps10
      go_wp2
      go_ret2
      exact ⟨_, rfl, hnil.out, Below.refl _ _⟩
  · have n300 : ¬ (s.size : Int) ≤ 300 := by omega
    have hlo : lenOk s = false := by unfold lenOk; rw [decide_eq_false h300, Bool.and_false]
    have hc : codeP s = 1 := by unfold codeP; rw [hlo]; rfl
    have hr : readP s = [] := by unfold readP; rw [hlo]; rfl
    rw [hc, hr]
    clear hlo hc hr
    go_enter Tryd.func10, Tryd.ntmps10
    go_wp2
    go_ret2
    exact ⟨_, rfl, hnil.out, Below.refl _ _⟩
end Go.Proofs.YticogafoopkflaaDoor
