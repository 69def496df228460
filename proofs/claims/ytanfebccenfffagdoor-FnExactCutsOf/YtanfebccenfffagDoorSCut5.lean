/- Contract of the specification's l5Cuts. -/
import Derived.Test.YtanfebccenfffagDoorPCut
import Derived.Test.YtanfebccenfffagDoorSD
import Derived.Test.YtanfebccenfffagDoorApart2
import Derived.Test.YtanfebccenfffagDoorDecode
namespace Go.Proofs.YtanfebccenfffagDoor
open Go.RowKit

theorem l1In_any (r lo hi : Int) (w : World) : Calls Tryd.prog 41 #[.int .i64 r, .int .i64 lo, .int .i64 hi] w fun e w' => e = .returned (.bool (decide (lo ≤ r ∧ r ≤ hi))) ∧ w' = w := by
  by_cases h : lo ≤ r ∧ r ≤ hi
  · rw [decide_eq_true h]; exact l1In_yes r lo hi h w
  · rw [decide_eq_false h]; exact l1In_no r lo hi h w

theorem ints_head {w : World} {B : Nat} {v : Value} {l : List Int} (h : Ints w B v l) (h1 : 1 ≤ l.length) : ∃ g c, v = .slice (some ⟨g, 0, none⟩) l.length c ∧ w.cell? ⟨g, 0, none⟩ = some (.int .i64 (at0 l 0)) := by
  rcases h.form with ⟨rfl, rfl⟩ | ⟨g, cap, rfl, _, _⟩
  · simp at h1
  · refine ⟨g, cap, rfl, ?_⟩
    have := h.cell 0 (by omega)
    unfold at0
    exact this

def CutRel (s : ByteArray) (w : World) (v i : Value) (wr : World) : Prop :=
  ∃ (a f : Nat) (acc : List Int), i = .int .i64 a ∧ Ints wr w.heap.size v acc ∧ acc ++ cutsFrom s f a = cutsFrom s s.size 0 ∧ s.size ≤ a + f ∧ a ≤ s.size ∧ acc.length ≤ a ∧ Below w.heap.size w wr

set_option maxRecDepth 100000 in
set_option maxHeartbeats 2000000 in
theorem cuts5_any (s : ByteArray) (w : World) (hs : s.size ≤ 1048576) :
    Calls Tryd.prog 26 #[.string s] w fun e w' => ∃ v, e = .returned v ∧ Ints w' w.heap.size v (cutsL s) ∧ Below w.heap.size w w' := by
  obtain ⟨i0, hi, hz0, hz1, hz2⟩ := info_parts info_int
  have HG : Hid (cutsL s = cutsFrom s s.size 0 ++ [(s.size : Int)]) := rfl
  rw [HG.out]
  clear HG
  go_enter Tryd.func26, Tryd.ntmps26
  go_wp2
  go_loopw [3, 4] (fun v i wr => CutRel s w v i wr) (fun _ i _ => s.size - (intOf i).toNat)
  case atStart => exact ⟨0, s.size, [], rfl, World.ownsRow_nil _ _ _ _, by simp, by omega, by omega, by simp, Below.refl _ _⟩
  case round =>
    obtain ⟨a, f, acc, rfl, hown, hA, hf, ha, hal, hbw⟩ := hrel
    have hsz := hbw.size
    by_cases hp : a < s.size
    · have hd := dec_alone s hp
      have hex := Dec.size_extract s a
      have O := fun w => one_any (s.extract a s.size) (by omega) (by unfold maxLen; omega) w
      obtain ⟨f', rfl⟩ : ∃ f', f = f' + 1 := ⟨f - 1, by omega⟩
      have hst : cutsFrom s (f' + 1) a = (if a = 0 ∨ cutB (Dec.one (s.extract a s.size)).1 = true then [(a : Int)] else []) ++ cutsFrom s f' (a + (Dec.one (s.extract a s.size)).2.1) := by simp only [cutsFrom]; rw [if_pos hp]
      rw [hst] at hA
      obtain ⟨d1, d2, _⟩ := hd
      obtain ⟨r, n, ok, HO⟩ : ∃ r n ok, Hid (Dec.one (s.extract a s.size) = (r, n, ok)) := ⟨_, _, _, rfl⟩
      rw [HO.out] at O hA d1 d2
      have hn1 : 1 ≤ n := d2
      have hn2 : a + n ≤ s.size := d1
      have hA2 : acc ++ ((if a = 0 ∨ cutB r = true then [(a : Int)] else []) ++ cutsFrom s f' (a + n)) = cutsFrom s s.size 0 := hA
      have HA : Hid _ := hA2
      clear hA hA2 hst d1 d2 HO
      have D := d_any (zs := [r]) (by simp) (lit_ints wr [r] 1 rfl (by unfold maxLen; omega) #[.int .i64 r] rfl)
      have hone := nD_one r
      have HCB : Hid (cutB r = (decide (cls (at0 (nD [r]) 0) = 0) && !decide (4449 ≤ at0 (nD [r]) 0 ∧ at0 (nD [r]) 0 ≤ 4546))) := rfl
      generalize nD [r] = dl at *
      have HOW : Hid (Ints wr w.heap.size _ acc) := hown
      have HBW : Hid (Below _ _ _) := hbw
      clear hown hbw
      go_wp2_with fail
      refine (O _).mono ?_
      rintro e w1 ⟨rfl, rfl⟩
      clear O
      go_wp2_with fail
      refine D.mono ?_
      rintro e w2 ⟨v2, rfl, i2, b2⟩
      obtain ⟨g2, c2, rfl, hc0⟩ := ints_head i2 hone.1
      have hl2 : (0 : Int) < (dl.length : Int) := by omega
      have CL := fun (x : Int) (u : World) => specClass_any x u
      have IN := fun (x : Int) (u : World) => l1In_any x 4449 4546 u
      have b12 : Below w1.heap.size w1 w2 := ((Below.refl _ _).alloc (Nat.le_refl _) _).trans (b2.mono (by simp))
      have HOW2 : Hid (Ints w2 w.heap.size _ acc) := HOW.out.below b12
      have HBW2 : Hid (Below w.heap.size w w2) := HBW.out.trans (b12.mono HBW.out.size)
      have hsz2 := HBW2.out.size
      clear D i2 b2 b12 HOW HBW hone
      generalize at0 dl 0 = x at *
      by_cases h0 : a = 0
      · have hown := HOW2.out
        have HA3 : Hid ((acc ++ [(a : Int)]) ++ cutsFrom s f' (a + n) = cutsFrom s s.size 0) := by
          show _ = _
          have := HA.out
          rw [if_pos (.inl h0)] at this
          simpa using this
        have h08 : (a : Int) = 0 := by omega
        unfold Ints at hown
        clear HA HCB CL IN
        subst h0
        go_wp2_with (at_builtin; refine wpList_append_own _ rfl _ _ 34 rfl w.heap.size 3 i0 (.int .i64 0) 1 8 Tryd.underlying34 hi hz0 hz1 hz2 rfl (by decide) _ _ _ rfl (hown.alloc _) ⟨_, 0, none⟩ 1 1 [.int .i64 ((0 : Nat) : Int)] rfl rfl (cell_one_new _ _ _) (fun x hx => by simp at hx; subst hx; rfl) (by unfold maxLen; omega) (by omega) (by simp; omega) ?_; intro v' w3 hown' hgrow3 _)
        have hb3 := Below.grown (HBW2.out.alloc (by omega) _) hgrow3 (by simp; omega) (fun j hj => (hown.lt _ hj).1)
        exact ⟨⟨0 + n, f', acc ++ [((0 : Nat) : Int)], by go_num, Ints.snoc hown', HA3.out, by omega, by omega, by simp; omega, hb3⟩, by simp [intOf]; omega⟩
      · have h08 : ((a : Int) == 0) = false := by simp; omega
        have CX := CL x
        have IX := IN x
        clear CL IN
        by_cases hc : cls x = 0
        · rw [hc] at CX
          by_cases hin : 4449 ≤ x ∧ x ≤ 4546
          · rw [decide_eq_true hin] at IX
            have HA3 : Hid (acc ++ cutsFrom s f' (a + n) = cutsFrom s s.size 0) := by
              show _ = _
              have := HA.out
              rw [if_neg (by rw [HCB.out]; simp [h0, hin])] at this
              simpa using this
            clear HA HCB
            go_wp2_with fail
            refine (CX _).mono ?_
            rintro e w3 ⟨rfl, rfl⟩
            go_wp2_with fail
            refine (IX _).mono ?_
            rintro e w4 ⟨rfl, rfl⟩
            clear CX IX
            go_wp2
            exact ⟨⟨a + n, f', acc, by go_num, HOW2.out, HA3.out, by omega, by omega, by omega, HBW2.out⟩, by simp [intOf]; omega⟩
          · rw [decide_eq_false hin] at IX
            have HA3 : Hid ((acc ++ [(a : Int)]) ++ cutsFrom s f' (a + n) = cutsFrom s s.size 0) := by
              show _ = _
              have := HA.out
              rw [if_pos (.inr (by rw [HCB.out, decide_eq_true hc, decide_eq_false hin]; rfl))] at this
              simpa using this
            have hown := HOW2.out
            unfold Ints at hown
            clear HA HCB
            go_wp2_with fail
            refine (CX _).mono ?_
            rintro e w3 ⟨rfl, rfl⟩
            go_wp2_with fail
            refine (IX _).mono ?_
            rintro e w4 ⟨rfl, rfl⟩
            clear CX IX
            go_wp2_with (at_builtin; refine wpList_append_own _ rfl _ _ 34 rfl w.heap.size 3 i0 (.int .i64 0) 1 8 Tryd.underlying34 hi hz0 hz1 hz2 rfl (by decide) _ _ _ rfl (hown.alloc _) ⟨_, 0, none⟩ 1 1 [.int .i64 (a : Int)] rfl rfl (cell_one_new _ _ _) (fun x hx => by simp at hx; subst hx; rfl) (by unfold maxLen; omega) (by omega) (by simp; omega) ?_; intro v' w5 hown' hgrow5 _)
            have hb5 := Below.grown (HBW2.out.alloc (by omega) _) hgrow5 (by simp; omega) (fun j hj => (hown.lt _ hj).1)
            exact ⟨⟨a + n, f', acc ++ [(a : Int)], by go_num, Ints.snoc hown', HA3.out, by omega, by omega, by simp; omega, hb5⟩, by simp [intOf]; omega⟩
        · have hc8 : (cls x == 0) = false := by simp; exact hc
          have HA3 : Hid (acc ++ cutsFrom s f' (a + n) = cutsFrom s s.size 0) := by
            show _ = _
            have := HA.out
            rw [if_neg (by rw [HCB.out]; simp [h0, hc])] at this
            simpa using this
          clear HA HCB IX
          go_wp2_with fail
          refine (CX _).mono ?_
          rintro e w3 ⟨rfl, rfl⟩
          clear CX
          go_wp2
          exact ⟨⟨a + n, f', acc, by go_num, HOW2.out, HA3.out, by omega, by omega, by omega, HBW2.out⟩, by simp [intOf]; omega⟩
    · have hn8 : ¬ (a : Int) < (s.size : Int) := by omega
      have HE : Hid (acc = cutsFrom s s.size 0) := by
        show _ = _
        rw [cutsFrom_end s f a hp, List.append_nil] at hA
        exact hA
      clear hA
      have hi2 := hown
      unfold Ints at hown
      go_wp2_with (at_builtin; refine wpList_append_own _ rfl _ _ 34 rfl w.heap.size 3 i0 (.int .i64 0) 1 8 Tryd.underlying34 hi hz0 hz1 hz2 rfl (by decide) _ _ _ rfl (hown.alloc _) ⟨_, 0, none⟩ 1 1 [.int .i64 (s.size : Int)] rfl rfl (cell_one_new _ _ _) (fun x hx => by simp at hx; subst hx; rfl) (by unfold maxLen; omega) (by omega) (by simp; omega) ?_; intro v' w3 hown' hgrow3 _)
      go_ret
      have hb3 := Below.grown (hbw.alloc (by omega) _) hgrow3 (by simp; omega) (fun j hj => (hown.lt _ hj).1)
      refine ⟨_, rfl, ?_, hb3⟩
      rw [← HE.out]
      exact Ints.snoc hown'
end Go.Proofs.YtanfebccenfffagDoor
