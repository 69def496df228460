/- Contract of the specification's l6Read. -/
import Derived.Test.YticogafoopkflaaDoorSPage6
import Derived.Test.YticogafoopkflaaDoorRwK
import Derived.Test.YticogafoopkflaaDoorSGood6
import Derived.Test.YticogafoopkflaaDoorPRead6
import Derived.Test.YticogafoopkflaaDoorGrown1
import Derived.Deep.AppendLies
import Derived.Deep.RegionHeldLaw
import Derived.Deep.RegionLaw
import Derived.Deep.Cut
import Derived.Deep.CutRange
namespace Go.Proofs.YticogafoopkflaaDoor
open Go.RowKit

set_option maxRecDepth 100000 in
set_option maxHeartbeats 400000 in
theorem in_any (x a b : Int) (w : World) : Calls Tryd.prog 85 #[.int .i64 x, .int .i64 a, .int .i64 b] w fun e w' => e = .returned (.bool (decide (a ≤ x) && decide (x ≤ b))) ∧ w' = w := by
  by_cases h : a ≤ x
  · go_enter Tryd.func85, Tryd.ntmps85
    go_wp2
    go_ret
    rw [decide_eq_true h]
    exact ⟨rfl, rfl⟩
  · go_enter Tryd.func85, Tryd.ntmps85
    go_wp2
    go_ret
    rw [decide_eq_false (show ¬ a ≤ x by omega)]
    exact ⟨rfl, rfl⟩

theorem hd_ext {s : ByteArray} {a i : Nat} (h : a + i < s.size) : hd (s.extract a s.size) i = hd s (a + i) := by
  unfold hd
  rw [bAt_ext s (Nat.le_refl _) h]

theorem ext_sz (s : ByteArray) (a : Nat) : (s.extract a s.size).size = s.size - a := ext_size s (Nat.le_refl _)

/-- A row at a place of a text. -/
theorem row_at {s p : ByteArray} {a : Nat} (h : a + 4 + hd s (a + 1) + hd s (a + 2) + hd s (a + 3) ≤ s.size) :
    rowOf p (s.extract a s.size) = ⟨p.extract 0 (hd s a) ++ s.extract (a + 4) (a + 4 + hd s (a + 1)), s.extract (a + 4 + hd s (a + 1)) (a + 4 + hd s (a + 1) + hd s (a + 2)), s.extract (a + 4 + hd s (a + 1) + hd s (a + 2)) (a + 4 + hd s (a + 1) + hd s (a + 2) + hd s (a + 3))⟩ ∧
      restOf (s.extract a s.size) = s.extract (a + 4 + hd s (a + 1) + hd s (a + 2) + hd s (a + 3)) s.size := by
  have e0 : hd (s.extract a s.size) 0 = hd s a := hd_ext (by omega)
  have e1 : hd (s.extract a s.size) 1 = hd s (a + 1) := hd_ext (by omega)
  have e2 : hd (s.extract a s.size) 2 = hd s (a + 2) := hd_ext (by omega)
  have e3 : hd (s.extract a s.size) 3 = hd s (a + 3) := hd_ext (by omega)
  unfold rowOf restOf
  rw [e0, e1, e2, e3, ext_sz]
  generalize hd s (a + 1) = k1 at *
  generalize hd s (a + 2) = k2 at *
  generalize hd s (a + 3) = k3 at *
  rw [ext_ext s (Nat.le_refl _) (by omega), ext_ext s (Nat.le_refl _) (by omega), ext_ext s (Nat.le_refl _) (by omega), ext_ext s (Nat.le_refl _) (by omega)]
  have q1 : a + (4 + k1) = a + 4 + k1 := by omega
  have q2 : a + (4 + k1 + k2) = a + 4 + k1 + k2 := by omega
  have q3 : a + (4 + k1 + k2 + k3) = a + 4 + k1 + k2 + k3 := by omega
  have q4 : a + (s.size - a) = s.size := by omega
  rw [q1, q2, q3, q4]
  exact ⟨rfl, rfl⟩

theorem ok_at {s p : ByteArray} {a : Nat} (ha : a ≤ s.size) : okRow p (s.extract a s.size) = (decide (a + 4 ≤ s.size) && decide (hd s a ≤ p.size) && decide (a + 4 + hd s (a + 1) + hd s (a + 2) + hd s (a + 3) ≤ s.size)) := by
  unfold okRow
  rw [ext_sz]
  by_cases h : a + 4 ≤ s.size
  · have e0 : hd (s.extract a s.size) 0 = hd s a := hd_ext (by omega)
    have e1 : hd (s.extract a s.size) 1 = hd s (a + 1) := hd_ext (by omega)
    have e2 : hd (s.extract a s.size) 2 = hd s (a + 2) := hd_ext (by omega)
    have e3 : hd (s.extract a s.size) 3 = hd s (a + 3) := hd_ext (by omega)
    rw [e0, e1, e2, e3]
    congr 1
    · congr 1
      rw [decide_eq_decide]; omega
    · rw [decide_eq_decide]; omega
  · rw [decide_eq_false h, decide_eq_false (show ¬ 4 ≤ s.size - a by omega)]
    rfl

/-- What has been read ahead of row k. -/
def SrRel (W : World) (s : ByteArray) (v4 v5 v6 v7 : Value) (wr : World) : Prop :=
  ∃ (k a : Nat) (p : ByteArray) (l : List Rw), k ≤ hd s 2 ∧ v7 = .int .i64 (k : Int) ∧ v5 = .int .i64 (a : Int) ∧ a ≤ s.size ∧ v6 = .string p ∧ p.size ≤ 510 ∧ l.length = k ∧ Rws wr W.heap.size v4 l ∧
    (rdF (hd s 2 - k) p (s.extract a s.size)).map (l ++ ·) = rdF (hd s 2) ⟨#[]⟩ (s.extract 3 s.size) ∧ Below W.heap.size W wr

theorem index_hd (s : ByteArray) {a : Nat} (i : Nat) (h : a + i < s.size) (u : World) : (Instr.index 9 (.string s) (.int .i64 ((a : Int) + (i : Int)))).run Tryd.prog u = .ok (.int .u8 (hd s (a + i) : Int)) u := by
  have := index_str s (a + i) h u
  rw [Int.natCast_add] at this
  exact this

theorem slice_at (s : ByteArray) (i j : Int) (A B : Nat) (h0 : i = (A : Int)) (h1 : j = (B : Int)) (h2 : A ≤ B) (h3 : B ≤ s.size) (u : World) : (Instr.slice 9 (.string s) (some (.int .i64 i)) (some (.int .i64 j)) none).run Tryd.prog u = .ok (.string (s.extract A B)) u := by
  subst h0
  subst h1
  rw [run_slice_string (h := Tryd.underlying9) (h0 := by omega) (h1 := by omega) (h2 := by omega)]
  rfl

theorem info_rwS : (Tryd.prog.info? 32).map (fun i => (i.zero, i.size, i.bytes)) = some (some (.agg #[.string ⟨#[]⟩, .string ⟨#[]⟩, .string ⟨#[]⟩]), 3, 48) := by kernel_rfl

set_option maxRecDepth 100000 in
set_option maxHeartbeats 4000000 in
theorem specRead_any (s : ByteArray) (w : World) (hs : s.size ≤ 1048576) :
    Calls Tryd.prog 77 #[.string s] w fun e w' => ∃ v, e = .returned (.tuple #[v, .int .i64 (codeP s)]) ∧ Rws w' w.heap.size v (readP s) ∧ Below w.heap.size w w' := by
  have IN := in_any (s.size : Int) 3 300 w
  have hnil : Hid (Rws w w.heap.size (.slice none 0 0) []) := World.ownsRow_nil _ _ _ _
  cases hlo : lenOk s
  · have hc : codeP s = 1 := by unfold codeP; rw [hlo]; rfl
    have hr : readP s = [] := by unfold readP; rw [hlo]; rfl
    have hd0 : (decide ((3 : Int) ≤ (s.size : Int)) && decide ((s.size : Int) ≤ 300)) = false := by
      unfold lenOk at hlo
      rw [← hlo]
      congr 1
      · rw [decide_eq_decide]; omega
      · rw [decide_eq_decide]; omega
    rw [hd0] at IN
    rw [hc, hr]
    clear hlo hc hr hd0
    go_enter Tryd.func77, Tryd.ntmps77
    go_wp2_with fail
    refine IN.mono ?_
    rintro e w1 ⟨rfl, rfl⟩
    clear IN
    go_wp2
    go_ret2
    exact ⟨_, rfl, hnil.out, Below.refl _ _⟩
  · have hlen : 3 ≤ s.size ∧ s.size ≤ 300 := by simp [lenOk] at hlo; exact hlo
    obtain ⟨h3, h300⟩ := hlen
    have hd1 : (decide ((3 : Int) ≤ (s.size : Int)) && decide ((s.size : Int) ≤ 300)) = true := by rw [decide_eq_true (by omega), decide_eq_true (by omega)]; rfl
    rw [hd1] at IN
    have x0 : ∀ u : World, (Instr.index 9 (.string s) (.int .i64 0)).run Tryd.prog u = .ok (.int .u8 (hd s 0 : Int)) u := index_str s 0 (by omega)
    have x1 : ∀ u : World, (Instr.index 9 (.string s) (.int .i64 1)).run Tryd.prog u = .ok (.int .u8 (hd s 1 : Int)) u := index_str s 1 (by omega)
    cases hmk : markOk s
    · have hc : codeP s = 2 := by unfold codeP; rw [hlo, hmk]; rfl
      have hr : readP s = [] := by unfold readP; rw [hlo, hmk]; rfl
      rw [hc, hr]
      by_cases h80 : hd s 0 = 80
      · have h71 : ¬ hd s 1 = 71 := fun e => by simp [markOk, h80, e] at hmk
        have n71 : ¬ (hd s 1 : Int) = 71 := by omega
        rw [h80] at x0
        clear hlo hc hr hd1 hmk
        go_enter Tryd.func77, Tryd.ntmps77
        go_wp2_with fail
        refine IN.mono ?_
        rintro e w1 ⟨rfl, rfl⟩
        clear IN
        go_wp2
        go_ret2
        exact ⟨_, rfl, hnil.out, Below.refl _ _⟩
      · have n80 : ¬ (hd s 0 : Int) = 80 := by omega
        clear hlo hc hr hd1 hmk
        go_enter Tryd.func77, Tryd.ntmps77
        go_wp2_with fail
        refine IN.mono ?_
        rintro e w1 ⟨rfl, rfl⟩
        clear IN
        go_wp2
        go_ret2
        exact ⟨_, rfl, hnil.out, Below.refl _ _⟩
    · have hm : hd s 0 = 80 ∧ hd s 1 = 71 := by simp [markOk] at hmk; exact hmk
      have hc : codeP s = if (readL s).isSome then 0 else 3 := by unfold codeP; rw [hlo, hmk]; rfl
      have hr : readP s = (readL s).getD [] := by unfold readP; rw [hlo, hmk]; rfl
      rw [hm.1] at x0
      rw [hm.2] at x1
      have x2 : ∀ u : World, (Instr.index 9 (.string s) (.int .i64 2)).run Tryd.prog u = .ok (.int .u8 (hd s 2 : Int)) u := index_str s 2 (by omega)
      have HC : Hid _ := hc
      have HRP : Hid _ := hr
      have HNO : Hid (rdF (hd s 2) ⟨#[]⟩ (s.extract 3 s.size) = none → codeP s = 3 ∧ readP s = []) := fun h => by
        have e : readL s = none := by unfold readL; rw [h]
        rw [hc, hr, e]
        exact ⟨rfl, rfl⟩
      have HYES : Hid (∀ l, rdF (hd s 2) ⟨#[]⟩ (s.extract 3 s.size) = some l → (isPage s l = true → codeP s = 0 ∧ readP s = l) ∧ (isPage s l = false → codeP s = 3 ∧ readP s = [])) := fun l h => by
        have e : readL s = if isPage s l then some l else none := by unfold readL; rw [h]
        refine ⟨fun hp => ?_, fun hp => ?_⟩
        · rw [hc, hr, e, hp]; exact ⟨rfl, rfl⟩
        · rw [hc, hr, e, hp]; exact ⟨rfl, rfl⟩
      have l2 := hd_lt s 2
      have v2 : IntKind.i64.wrap (hd s 2 : Int) = (hd s 2 : Int) := by rw [IntKind.wrap_i64]; omega
      obtain ⟨i0, hi0, hz0, hs0, hy0⟩ := info_parts info_rwS
      generalize codeP s = cd at *
      generalize readP s = rp at *
      clear hlo hd1 hmk hm hc hr HC HRP
      go_enter Tryd.func77, Tryd.ntmps77
      go_wp2_with fail
      refine IN.mono ?_
      rintro e w1 ⟨rfl, rfl⟩
      clear IN
      go_wp2
      go_loopw [4, 5, 6, 7] (fun v4 v5 v6 v7 wr => SrRel w1 s v4 v5 v6 v7 wr) (fun _ _ _ v7 _ => hd s 2 - (intOf v7).toNat)
      case atStart => exact ⟨0, 3, ⟨#[]⟩, [], Nat.zero_le _, rfl, rfl, h3, rfl, Nat.zero_le _, rfl, hnil.out, by rw [Nat.sub_zero]; cases rdF (hd s 2) ⟨#[]⟩ (s.extract 3 s.size) <;> rfl, Below.refl _ _⟩
      case round =>
        obtain ⟨k, a, p, l, hk, rfl, rfl, ha, rfl, hp, hl, hR, hF, hb⟩ := hrel
        have HRW : Hid (Rws _ _ _ _) := hR
        have HF : Hid _ := hF
        have HB : Hid (Below _ _ _) := hb
        obtain ⟨ra, rc, rfl⟩ := rw_form hR
        have HLN : Hid (l.length = k) := hl
        have hl9 : l.length ≤ 255 := by omega
        clear hR hF hb hl
        by_cases hlt : k < hd s 2
        · have hk8 : (k : Int) < (hd s 2 : Int) := by omega
          have hsub : hd s 2 - k = (hd s 2 - (k + 1)) + 1 := by omega
          have hokA := ok_at (p := p) ha
          by_cases h4 : a + 4 ≤ s.size
          · have y0 : ∀ u : World, (Instr.index 9 (.string s) (.int .i64 (a : Int))).run Tryd.prog u = .ok (.int .u8 (hd s a : Int)) u := index_str s a (by omega)
            have y1 : ∀ u : World, (Instr.index 9 (.string s) (.int .i64 ((a : Int) + 1))).run Tryd.prog u = .ok (.int .u8 (hd s (a + 1) : Int)) u := index_hd s 1 (by omega)
            have y2 : ∀ u : World, (Instr.index 9 (.string s) (.int .i64 ((a : Int) + 2))).run Tryd.prog u = .ok (.int .u8 (hd s (a + 2) : Int)) u := index_hd s 2 (by omega)
            have y3 : ∀ u : World, (Instr.index 9 (.string s) (.int .i64 ((a : Int) + 3))).run Tryd.prog u = .ok (.int .u8 (hd s (a + 3) : Int)) u := index_hd s 3 (by omega)
            have m0 := hd_lt s a
            have m1 := hd_lt s (a + 1)
            have m2 := hd_lt s (a + 2)
            have m3 := hd_lt s (a + 3)
            have u0 : IntKind.i64.wrap (hd s a : Int) = (hd s a : Int) := by rw [IntKind.wrap_i64]; omega
            have u1 : IntKind.i64.wrap (hd s (a + 1) : Int) = (hd s (a + 1) : Int) := by rw [IntKind.wrap_i64]; omega
            have u2 : IntKind.i64.wrap (hd s (a + 2) : Int) = (hd s (a + 2) : Int) := by rw [IntKind.wrap_i64]; omega
            have u3 : IntKind.i64.wrap (hd s (a + 3) : Int) = (hd s (a + 3) : Int) := by rw [IntKind.wrap_i64]; omega
            have n4 : (a : Int) + 4 ≤ (s.size : Int) := by omega
            have hRA := row_at (s := s) (p := p) (a := a)
            rw [decide_eq_true h4, Bool.true_and] at hokA
            generalize hd s a = n0 at *
            generalize hd s (a + 1) = k1 at *
            generalize hd s (a + 2) = k2 at *
            generalize hd s (a + 3) = k3 at *
            by_cases hn : n0 ≤ p.size
            · have hn8 : (n0 : Int) ≤ (p.size : Int) := by omega
              rw [decide_eq_true hn, Bool.true_and] at hokA
              by_cases hD : a + 4 + k1 + k2 + k3 ≤ s.size
              · have nD : (a : Int) + 4 + (k1 : Int) + (k2 : Int) + (k3 : Int) ≤ (s.size : Int) := by omega
                obtain ⟨hr1, hr2⟩ := hRA hD
                have HFN : Hid ((rdF (hd s 2 - (k + 1)) (rowOf p (s.extract a s.size)).key (restOf (s.extract a s.size))).map ((l ++ [rowOf p (s.extract a s.size)]) ++ ·) = rdF (hd s 2) ⟨#[]⟩ (s.extract 3 s.size)) := by
                  show _ = _
                  rw [← HF.out, hsub, rdF, hokA, decide_eq_true hD, if_pos rfl]
                  cases rdF (hd s 2 - (k + 1)) (rowOf p (s.extract a s.size)).key (restOf (s.extract a s.size)) <;> simp
                rw [hr1, hr2] at HFN
                have sl1 : ∀ u : World, (Instr.slice 9 (.string s) (some (.int .i64 ((a : Int) + 4))) (some (.int .i64 ((a : Int) + 4 + (k1 : Int)))) none).run Tryd.prog u = .ok (.string (s.extract (a + 4) (a + 4 + k1))) u := fun u => slice_at s _ _ _ _ (by omega) (by omega) (by omega) (by omega) u
                have sl2 : ∀ u : World, (Instr.slice 9 (.string s) (some (.int .i64 ((a : Int) + 4 + (k1 : Int)))) (some (.int .i64 ((a : Int) + 4 + (k1 : Int) + (k2 : Int)))) none).run Tryd.prog u = .ok (.string (s.extract (a + 4 + k1) (a + 4 + k1 + k2))) u := fun u => slice_at s _ _ _ _ (by omega) (by omega) (by omega) (by omega) u
                have sl3 : ∀ u : World, (Instr.slice 9 (.string s) (some (.int .i64 ((a : Int) + 4 + (k1 : Int) + (k2 : Int)))) (some (.int .i64 ((a : Int) + 4 + (k1 : Int) + (k2 : Int) + (k3 : Int)))) none).run Tryd.prog u = .ok (.string (s.extract (a + 4 + k1 + k2) (a + 4 + k1 + k2 + k3))) u := fun u => slice_at s _ _ _ _ (by omega) (by omega) (by omega) (by omega) u
                have z1 : (s.extract (a + 4) (a + 4 + k1)).size = k1 := by rw [ext_size s (by omega)]; omega
                have z0 : (p.extract 0 n0).size = n0 := ext_size p hn
                have hkz : (p.extract 0 n0 ++ s.extract (a + 4) (a + 4 + k1)).size ≤ 510 := by rw [ByteArray.size_append, z0, z1]; omega
                have HKZ : Hid _ := hkz
                generalize s.extract (a + 4) (a + 4 + k1) = e1 at *
                generalize s.extract (a + 4 + k1) (a + 4 + k1 + k2) = e2 at *
                generalize s.extract (a + 4 + k1 + k2) (a + 4 + k1 + k2 + k3) = e3 at *
                have hc1 : ¬ 9223372036854775807 < n0 + k1 := by omega
                have h1a : ∀ u : World, u.heap = (wr.alloc (.cells #[.string (p.extract 0 n0 ++ e1), .string e2, .string e3] 32)).heap → u.ownsRow w1.heap.size 32 3 (.slice ra l.length rc) l.length (rwAll l) := fun u hu => by
                  have := HRW.out.below ((Below.refl wr.heap.size wr).alloc (Nat.le_refl _) (.cells #[.string (p.extract 0 n0 ++ e1), .string e2, .string e3] 32))
                  unfold Rws World.ownsRow at this
                  unfold World.ownsRow
                  rw [hu]; exact this
                have hwz := HB.out.size
                clear HNO HYES HF hokA hr1 hr2 hRA hkz x0 x1
                go_upto_region 20 with fail
                clear y0 y1 y2 y3 x2
                go_cut [4] from 25 to 102 (fun v4 wx => Rws wx w1.heap.size v4 (l ++ [⟨p.extract 0 n0 ++ e1, e2, e3⟩]) ∧ Below w1.heap.size w1 wx)
                case first =>
                  go_region_law (refine step_append_lies _ rfl (.tmp 74) (.tmp 92) 23 rfl w1.heap.size 32 i0 _ 3 48 Tryd.underlying23 hi0 hz0 hs0 hy0 rfl (by decide) _ _ _ rfl (h1a _ rfl) ⟨wr.heap.size, 0, none⟩ 1 1 [.string (p.extract 0 n0 ++ e1), .string e2, .string e3] rfl rfl (cells3_at _ _ _ _ _ _ rfl) (fun z hz => by simp at hz; rcases hz with rfl | rfl | rfl <;> rfl) (by omega) (by unfold maxLen; omega) (by omega) (by simp; omega) (wr.heap.size + 1) (by simp) ?_; intro g9 cap9 w9 ho9 hg9 _ _)
                  all_goals
                    have hK : Rws w9 w1.heap.size (.slice (some ⟨g9, 0, none⟩) (l.length + 1) cap9) (l ++ [⟨p.extract 0 n0 ++ e1, e2, e3⟩]) ∧ Below w1.heap.size w1 w9 := ⟨rw_snoc ho9, Below.grown (HB.out.alloc HB.out.size _) (grown_heap6 hg9 rfl rfl rfl rfl) (by simp; omega) (fun j hj => (World.ownsRow.lt HRW.out j hj).1)⟩
                    go_wp2_with fail
                    go_meet
                    case rel => exact hK
                case rest =>
                  obtain ⟨hR9, hB9⟩ := hcut
                  have HR9 : Hid (Rws _ _ _ _) := hR9
                  have HB9 : Hid (Below w1.heap.size w1 wc) := hB9
                  clear hR9 hB9 h1a HRW HB
                  go_wp2
                  go_quiet (fail)
                  go_wp2
                  exact ⟨⟨k + 1, a + 4 + k1 + k2 + k3, _, _, hlt, by go_num, by go_num, hD, rfl, HKZ.out, by rw [List.length_append, HLN.out]; rfl, HR9.out.below ⟨rfl, rfl, rfl, Nat.le_refl _, fun _ _ => rfl⟩, HFN.out, ⟨HB9.out.os, HB9.out.tape, HB9.out.output, HB9.out.size, HB9.out.block⟩⟩, by simp [intOf]; omega⟩
              · have nD : ¬ (a : Int) + 4 + (k1 : Int) + (k2 : Int) + (k3 : Int) ≤ (s.size : Int) := by omega
                have hno := HNO.out (by rw [← HF.out, hsub, rdF, hokA, decide_eq_false hD]; rfl)
                have HNN : Hid _ := hno
                clear HNO HYES HF hokA hno hRA
                go_wp2
                go_ret2
                rw [HNN.out.1, HNN.out.2]
                exact ⟨_, rfl, World.ownsRow_nil _ _ _ _, HB.out⟩
            · have nn8 : ¬ (n0 : Int) ≤ (p.size : Int) := by omega
              have hno := HNO.out (by rw [← HF.out, hsub, rdF, hokA, decide_eq_false hn]; rfl)
              have HNN : Hid _ := hno
              clear HNO HYES HF hokA hno hRA
              go_wp2
              go_ret2
              rw [HNN.out.1, HNN.out.2]
              exact ⟨_, rfl, World.ownsRow_nil _ _ _ _, HB.out⟩
          · have n4 : ¬ (a : Int) + 4 ≤ (s.size : Int) := by omega
            have hno := HNO.out (by rw [← HF.out, hsub, rdF, hokA, decide_eq_false h4]; rfl)
            have HNN : Hid _ := hno
            clear HNO HYES HF hokA hno
            go_wp2
            go_ret2
            rw [HNN.out.1, HNN.out.2]
            exact ⟨_, rfl, World.ownsRow_nil _ _ _ _, HB.out⟩
        · have hkz : k = hd s 2 := by omega
          have hsome : rdF (hd s 2) ⟨#[]⟩ (s.extract 3 s.size) = some l := by rw [← HF.out, hkz, Nat.sub_self]; simp [rdF]
          obtain ⟨hyes, hnop⟩ := HYES.out l hsome
          have nk : ¬ (k : Int) < (hd s 2 : Int) := by omega
          have hsl := rws_sl HRW.out
          have GR := specGR_any (cap := rc) hsl (by omega)
          clear hsome HNO HYES HF HLN hkz x0 x1
          by_cases h0 : l.length = 0
          · have hno := hnop (by unfold isPage; rw [h0]; rfl)
            have HNN : Hid _ := hno
            have e0 : (l.length : Int) = 0 := by omega
            clear hyes hnop hno GR hsl h0
            go_wp2
            go_ret2
            rw [HNN.out.1, HNN.out.2]
            exact ⟨_, rfl, World.ownsRow_nil _ _ _ _, HB.out⟩
          · have hn0 : ((l.length : Int) == 0) = false := by rw [beq_eq_false_iff_ne]; omega
            have hb0 : (l.length == 0) = false := by simpa using h0
            cases hg : goodR l
            · have hno := hnop (by unfold isPage; rw [hg, Bool.and_false]; rfl)
              have HNN : Hid _ := hno
              rw [hg] at GR
              clear hyes hnop hno hsl h0 hb0 hg
              go_wp2_with fail
              refine GR.mono ?_
              rintro e w2 ⟨rfl, b2⟩
              clear GR
              go_wp2
              go_ret2
              rw [HNN.out.1, HNN.out.2]
              exact ⟨_, rfl, World.ownsRow_nil _ _ _ _, HB.out.trans (b2.mono HB.out.size)⟩
            · have hB := goodR_RwB hg
              have PG := fun (u : World) (hu : Below wr.heap.size wr u) => specPage_any (cap := rc) (hsl.below hu (Nat.le_refl _)) hB
              rw [hg] at GR
              by_cases hpg : byT (pageI l) = s
              · have hy := hyes (by unfold isPage; rw [hb0, hg, decide_eq_true hpg]; rfl)
                have HNN : Hid _ := hy
                rw [hpg] at PG
                clear hyes hnop hy hsl h0 hb0 hg hB hpg
                go_wp2_with fail
                refine GR.mono ?_
                rintro e w2 ⟨rfl, b2⟩
                have PG2 := PG _ b2
                clear GR PG
                go_wp2_with fail
                refine PG2.mono ?_
                rintro e w3 ⟨rfl, b3⟩
                have HB3 : Hid (Below w1.heap.size w1 w3) := (HB.out.trans (b2.mono HB.out.size)).trans (b3.mono (HB.out.trans (b2.mono HB.out.size)).size)
                have HR3 : Hid (Rws w3 w1.heap.size (.slice ra l.length rc) l) := (HRW.out.below b2).below b3
                clear PG2 b2 b3
                go_wp2
                go_ret2
                rw [HNN.out.1, HNN.out.2]
                exact ⟨_, rfl, HR3.out, HB3.out⟩
              · have hno := hnop (by unfold isPage; rw [decide_eq_false hpg, Bool.and_false])
                have HNN : Hid _ := hno
                generalize byT (pageI l) = pq at *
                have hne := ne_list6 hpg
                clear hyes hnop hno hsl h0 hb0 hg hB hpg
                go_wp2_with fail
                refine GR.mono ?_
                rintro e w2 ⟨rfl, b2⟩
                have PG2 := PG _ b2
                clear GR PG
                go_wp2_with fail
                refine PG2.mono ?_
                rintro e w3 ⟨rfl, b3⟩
                have HB3 : Hid (Below w1.heap.size w1 w3) := (HB.out.trans (b2.mono HB.out.size)).trans (b3.mono (HB.out.trans (b2.mono HB.out.size)).size)
                clear PG2 b2 b3
                go_wp2
                go_ret2
                rw [HNN.out.1, HNN.out.2]
                exact ⟨_, rfl, World.ownsRow_nil _ _ _ _, HB3.out⟩
end Go.Proofs.YticogafoopkflaaDoor
