/- Contract of the specification's l2C: the runes put together, from the front. -/
import Derived.Test.YtlhpkjhinikmmadDoorComp
import Derived.Test.YtlhpkjhinikmmadDoorSTog
namespace Go.Proofs.YtlhpkjhinikmmadDoor
open Go.RowKit

set_option maxRecDepth 100000 in
set_option maxHeartbeats 4000000 in
theorem c_row (w : World) (B gd capd : Nat) (ds : List Int) (hz : ds.length ≤ 2000) (hI : Ints w B (.slice (some ⟨gd, 0, none⟩) ds.length capd) ds) :
    Calls Tryd.prog 39 #[.slice (some ⟨gd, 0, none⟩) ds.length capd] w fun e w' => ∃ v, e = .returned v ∧ Ints w' w.heap.size v (compS ds ds.length).1 ∧ Below w.heap.size w w' := by
  obtain ⟨i0, hi, hzz, hz1, hz2⟩ := info_parts info_int
  go_enter Tryd.func39, Tryd.ntmps39
  go_wp2
  go_loopw [3, 4, 14] (fun out last i wr => CRel (compS ds) w ds.length out last i wr) (fun _ _ i _ => ds.length - (intOf i).toNat)
  case atStart => exact ⟨0, Nat.zero_le _, rfl, rfl, ⟨rfl, .inl ⟨rfl, rfl⟩⟩, Below.refl _ _⟩
  case round =>
    obtain ⟨k, hk, rfl, rfl, ho, hbr⟩ := hrel
    by_cases hlt : k < ds.length
    · obtain ⟨r, hx⟩ : ∃ r, ds[k]? = some r := ⟨_, List.getElem?_eq_getElem hlt⟩
      have c1 := ints_at0 (hI.below hbr) k r hx
      have HS : Hid (compS ds (k + 1) = stepBy (freeS (compS ds k) r) (compS ds k) r) := by
        show _ = _
        rw [← at0_mem hx]; rfl
      have hln := compS_len ds k
      have hk8 : (k : Int) < (ds.length : Int) := by omega
      have C := fun w => specClass_any r w
      clear hx
      generalize compS ds k = s at *
      obtain ⟨os, q⟩ := s
      simp only at ho hln ⊢
      rcases ho.form with ⟨rfl, rfl⟩ | ⟨g, cap, rfl, hcap, hcapm⟩
      · have hq0 : q = 0 := by simpa using hln.2
        subst hq0
        have HP : Hid (compS ds (k + 1) = push ([], 0) r) := by
          show _ = _
          rw [HS.out, show freeS ([], 0) r = false from decide_eq_false (by simp)]; rfl
        clear HS
        go_wp2_with fail
        refine (C _).mono ?_
        rintro e w1 ⟨rfl, rfl⟩
        clear C
        have hown0 := ho
        unfold Ints at hown0
        simp only [List.length_nil] at hown0
        have hszz := hbr.size
        by_cases er : cls r = 0
        · have er' : (cls r == 0) = true := by simpa using er
          have ER : Hid (cls r = 0) := er
          clear er
          go_wp2_with (at_builtin; refine wpList_append_lies _ rfl _ _ 24 rfl w.heap.size 3 i0 (.int .i64 0) 1 8 Tryd.underlying24 hi hzz hz1 hz2 rfl (by decide) _ 0 _ rfl (hown0.alloc _) ⟨_, 0, none⟩ 1 1 [.int .i64 r] rfl rfl (cell_one_new _ _ _) (fun x hx => by simp at hx; subst hx; rfl) (by omega) (by unfold maxLen; omega) (by omega) (by simp; omega) (w1.heap.size + 1) (by simp) ?_; intro g' cap' w3 hown hgr hgg hlt')
          exact ⟨crel_start hlt HP.out ER.out rfl hown (grown_below ho hbr _ hgr), by simp [intOf]; omega⟩
        · have er' : (cls r == 0) = false := by simpa using er
          have ER : Hid (¬ cls r = 0) := er
          clear er
          go_wp2_with (at_builtin; refine wpList_append_lies _ rfl _ _ 24 rfl w.heap.size 3 i0 (.int .i64 0) 1 8 Tryd.underlying24 hi hzz hz1 hz2 rfl (by decide) _ 0 _ rfl (hown0.alloc _) ⟨_, 0, none⟩ 1 1 [.int .i64 r] rfl rfl (cell_one_new _ _ _) (fun x hx => by simp at hx; subst hx; rfl) (by omega) (by unfold maxLen; omega) (by omega) (by simp; omega) (w1.heap.size + 1) (by simp) ?_; intro g' cap' w3 hown hgr hgg hlt')
          exact ⟨crel_mark hlt HP.out ER.out rfl hown (grown_below ho hbr _ hgr) (by omega), by simp [intOf]; omega⟩
      · obtain ⟨N, hN⟩ : ∃ N, os.length = N := ⟨_, rfl⟩
        have HN : Hid _ := hN
        rw [hN] at hcap hln ⊢
        have hoN := ho
        rw [hN] at hoN
        cases q with
        | zero =>
          have HP : Hid (compS ds (k + 1) = push (os, 0) r) := by
            show _ = _
            rw [HS.out, show freeS (os, 0) r = false from decide_eq_false (by simp)]; rfl
          clear HS hN ho
          go_wp2_with fail
          refine (C _).mono ?_
          rintro e w1 ⟨rfl, rfl⟩
          clear C
          have hown0 := hoN
          unfold Ints at hown0
          rw [HN.out] at hown0
          have hszz := hbr.size
          by_cases er : cls r = 0
          · have er' : (cls r == 0) = true := by simpa using er
            have ER : Hid (cls r = 0) := er
            clear er
            go_wp2_with (at_builtin; refine wpList_append_lies _ rfl _ _ 24 rfl w.heap.size 3 i0 (.int .i64 0) 1 8 Tryd.underlying24 hi hzz hz1 hz2 rfl (by decide) _ N _ rfl (hown0.alloc _) ⟨_, 0, none⟩ 1 1 [.int .i64 r] rfl rfl (cell_one_new _ _ _) (fun x hx => by simp at hx; subst hx; rfl) (by omega) (by unfold maxLen; omega) (by omega) (by simp; omega) (w1.heap.size + 1) (by simp) ?_; intro g' cap' w3 hown hgr hgg hlt')
            exact ⟨crel_start hlt HP.out ER.out HN.out hown (grown_below hoN hbr _ hgr), by simp [intOf]; omega⟩
          · have er' : (cls r == 0) = false := by simpa using er
            have ER : Hid (¬ cls r = 0) := er
            clear er
            go_wp2_with (at_builtin; refine wpList_append_lies _ rfl _ _ 24 rfl w.heap.size 3 i0 (.int .i64 0) 1 8 Tryd.underlying24 hi hzz hz1 hz2 rfl (by decide) _ N _ rfl (hown0.alloc _) ⟨_, 0, none⟩ 1 1 [.int .i64 r] rfl rfl (cell_one_new _ _ _) (fun x hx => by simp at hx; subst hx; rfl) (by omega) (by unfold maxLen; omega) (by omega) (by simp; omega) (w1.heap.size + 1) (by simp) ?_; intro g' cap' w3 hown hgr hgg hlt')
            exact ⟨crel_mark hlt HP.out ER.out HN.out hown (grown_below hoN hbr _ hgr) (by omega), by simp [intOf]; omega⟩
        | succ p =>
          obtain ⟨M, rfl⟩ : ∃ M, N = M + 1 := ⟨N - 1, by omega⟩
          have hpM : p ≤ M := by omega
          have yc : wr.cell? ⟨g, p, none⟩ = some (.int .i64 (at0 os p)) := by
            have := ho.cell p (by omega); exact this
          have zc : wr.cell? ⟨g, M, none⟩ = some (.int .i64 (at0 os M)) := by
            have := ho.cell M (by omega); exact this
          have HY : Hid (∀ x, tog (at0 os p) r = some x → stepBy true (os, p + 1) r = (os.set p x, p + 1)) := fun x h => step_some (s := (os, p + 1)) h
          have HZ : Hid (tog (at0 os p) r = none → stepBy true (os, p + 1) r = push (os, p + 1) r) := fun h => step_none (s := (os, p + 1)) h
          have TG := fun w => specTog_any (at0 os p) r w
          have hw1 : IntKind.i64.wrap ((M : Int) + 1 - 1) = (M : Int) := by rw [IntKind.wrap_i64]; omega
          have hw3 : IntKind.i64.wrap (M : Int) = (M : Int) := by rw [IntKind.wrap_i64]; omega
          have hM1 : (M : Int) < (M : Int) + 1 := by omega
          have hp1 : (p : Int) < (M : Int) + 1 := by omega
          by_cases hMp : M = p
          · have HF : Hid (freeS (os, p + 1) r = true) := decide_eq_true ⟨by simp, .inl (by simp only; omega)⟩
            rw [HF.out] at HS
            have hMp2 : p = M := hMp.symm
            clear hMp
            subst hMp2
            clear zc HF hN ho hpM
            go_wp2_with fail
            refine (C _).mono ?_
            rintro e w1 ⟨rfl, rfl⟩
            clear C
            go_wp2_with fail
            refine (TG _).mono ?_
            rintro e w2 ⟨rfl, hb2⟩
            have hob := hoN.below hb2
            have hbb := hbr.trans (hb2.mono hbr.size)
            have hofz := hob
            unfold Ints at hofz
            rw [HN.out] at hofz
            have fz := World.ownsRow.frozenAt hofz p
            clear hofz
            have yc2 : w2.cell? ⟨g, p, none⟩ = some (.int .i64 (at0 os p)) := by rw [hb2.cell (World.ownsRow.lt hoN g rfl).2]; exact yc
            clear TG yc hb2
            cases ho2 : tog (at0 os p) r with
            | some x =>
              have HC : Hid (compS ds (k + 1) = (os.set p x, p + 1)) := HS.out.trans (HY.out x ho2)
              clear HS HY HZ ho2
              simp only [togRes, Option.getD, Option.isSome]
              go_wp2
              exact ⟨crel_store hlt HC.out HN.out hob hbb, by simp [intOf]; omega⟩
            | none =>
              have HP : Hid (compS ds (k + 1) = push (os, p + 1) r) := HS.out.trans (HZ.out ho2)
              clear HS HY HZ ho2
              simp only [togRes, Option.getD, Option.isSome]
              have hown0 := hob
              unfold Ints at hown0
              rw [HN.out] at hown0
              have hszz := hbb.size
              by_cases er : cls r = 0
              · have er' : (cls r == 0) = true := by simpa using er
                have ER : Hid (cls r = 0) := er
                clear er
                go_wp2_with (at_builtin; refine wpList_append_lies _ rfl _ _ 24 rfl w.heap.size 3 i0 (.int .i64 0) 1 8 Tryd.underlying24 hi hzz hz1 hz2 rfl (by decide) _ (p + 1) _ rfl (hown0.alloc _) ⟨_, 0, none⟩ 1 1 [.int .i64 r] rfl rfl (cell_one_new _ _ _) (fun x hx => by simp at hx; subst hx; rfl) (by omega) (by unfold maxLen; omega) (by omega) (by simp; omega) (w2.heap.size + 1) (by simp) ?_; intro g' cap' w3 hown hgr hgg hlt')
                exact ⟨crel_start hlt HP.out ER.out HN.out hown (grown_below hob hbb _ hgr), by simp [intOf]; omega⟩
              · have er' : (cls r == 0) = false := by simpa using er
                have ER : Hid (¬ cls r = 0) := er
                clear er
                go_wp2_with (at_builtin; refine wpList_append_lies _ rfl _ _ 24 rfl w.heap.size 3 i0 (.int .i64 0) 1 8 Tryd.underlying24 hi hzz hz1 hz2 rfl (by decide) _ (p + 1) _ rfl (hown0.alloc _) ⟨_, 0, none⟩ 1 1 [.int .i64 r] rfl rfl (cell_one_new _ _ _) (fun x hx => by simp at hx; subst hx; rfl) (by omega) (by unfold maxLen; omega) (by omega) (by simp; omega) (w2.heap.size + 1) (by simp) ?_; intro g' cap' w3 hown hgr hgg hlt')
                exact ⟨crel_mark hlt HP.out ER.out HN.out hown (grown_below hob hbb _ hgr) (by omega), by simp [intOf]; omega⟩
          · have hMp2 : (p : Int) < (M : Int) := by omega
            have HF : Hid (freeS (os, p + 1) r = decide (cls (at0 os M) ≠ 0 ∧ cls (at0 os M) < cls r)) := by
              show _ = _
              unfold freeS
              apply decide_eq_decide.2
              simp only [hN, Nat.add_sub_cancel]
              constructor
              · rintro ⟨_, h | h⟩
                · omega
                · exact h
              · exact fun h => ⟨by omega, .inr h⟩
            have CM := fun w => specClass_any (at0 os M) w
            by_cases f1 : cls (at0 os M) = 0
            · have HP : Hid (compS ds (k + 1) = push (os, p + 1) r) := by
                show _ = _
                rw [HS.out, HF.out, show decide (cls (at0 os M) ≠ 0 ∧ cls (at0 os M) < cls r) = false from decide_eq_false (fun h => h.1 f1)]; rfl
              have f1' : (cls (at0 os M) != 0) = false := by simp [f1]
              clear HS HF HY HZ TG hN ho f1
              go_wp2_with fail
              refine (C _).mono ?_
              rintro e w1 ⟨rfl, rfl⟩
              go_wp2_with fail
              refine (CM _).mono ?_
              rintro e w1 ⟨rfl, rfl⟩
              clear C CM
              have hown0 := hoN
              unfold Ints at hown0
              rw [HN.out] at hown0
              have hszz := hbr.size
              by_cases er : cls r = 0
              · have er' : (cls r == 0) = true := by simpa using er
                have ER : Hid (cls r = 0) := er
                clear er
                go_wp2_with (at_builtin; refine wpList_append_lies _ rfl _ _ 24 rfl w.heap.size 3 i0 (.int .i64 0) 1 8 Tryd.underlying24 hi hzz hz1 hz2 rfl (by decide) _ (M + 1) _ rfl (hown0.alloc _) ⟨_, 0, none⟩ 1 1 [.int .i64 r] rfl rfl (cell_one_new _ _ _) (fun x hx => by simp at hx; subst hx; rfl) (by omega) (by unfold maxLen; omega) (by omega) (by simp; omega) (w1.heap.size + 1) (by simp) ?_; intro g' cap' w3 hown hgr hgg hlt')
                exact ⟨crel_start hlt HP.out ER.out HN.out hown (grown_below hoN hbr _ hgr), by simp [intOf]; omega⟩
              · have er' : (cls r == 0) = false := by simpa using er
                have ER : Hid (¬ cls r = 0) := er
                clear er
                go_wp2_with (at_builtin; refine wpList_append_lies _ rfl _ _ 24 rfl w.heap.size 3 i0 (.int .i64 0) 1 8 Tryd.underlying24 hi hzz hz1 hz2 rfl (by decide) _ (M + 1) _ rfl (hown0.alloc _) ⟨_, 0, none⟩ 1 1 [.int .i64 r] rfl rfl (cell_one_new _ _ _) (fun x hx => by simp at hx; subst hx; rfl) (by omega) (by unfold maxLen; omega) (by omega) (by simp; omega) (w1.heap.size + 1) (by simp) ?_; intro g' cap' w3 hown hgr hgg hlt')
                exact ⟨crel_mark hlt HP.out ER.out HN.out hown (grown_below hoN hbr _ hgr) (by omega), by simp [intOf]; omega⟩
            · have f1' : (cls (at0 os M) != 0) = true := by simpa using f1
              by_cases f2 : cls (at0 os M) < cls r
              · rw [HF.out, show decide (cls (at0 os M) ≠ 0 ∧ cls (at0 os M) < cls r) = true from decide_eq_true ⟨f1, f2⟩] at HS
                clear HF hN ho f1
                go_wp2_with fail
                refine (C _).mono ?_
                rintro e w1 ⟨rfl, rfl⟩
                go_wp2_with fail
                refine (CM _).mono ?_
                rintro e w1 ⟨rfl, rfl⟩
                clear C CM zc
                go_wp2_with fail
                refine (TG _).mono ?_
                rintro e w2 ⟨rfl, hb2⟩
                have hob := hoN.below hb2
                have hbb := hbr.trans (hb2.mono hbr.size)
                have hofz := hob
                unfold Ints at hofz
                rw [HN.out] at hofz
                have fz := World.ownsRow.frozenAt hofz p
                clear hofz
                have yc2 : w2.cell? ⟨g, p, none⟩ = some (.int .i64 (at0 os p)) := by rw [hb2.cell (World.ownsRow.lt hoN g rfl).2]; exact yc
                clear TG yc hb2
                cases ho2 : tog (at0 os p) r with
                | some x =>
                  have HC : Hid (compS ds (k + 1) = (os.set p x, p + 1)) := HS.out.trans (HY.out x ho2)
                  clear HS HY HZ ho2
                  simp only [togRes, Option.getD, Option.isSome]
                  go_wp2
                  exact ⟨crel_store hlt HC.out HN.out hob hbb, by simp [intOf]; omega⟩
                | none =>
                  have HP : Hid (compS ds (k + 1) = push (os, p + 1) r) := HS.out.trans (HZ.out ho2)
                  clear HS HY HZ ho2
                  simp only [togRes, Option.getD, Option.isSome]
                  have hown0 := hob
                  unfold Ints at hown0
                  rw [HN.out] at hown0
                  have hszz := hbb.size
                  by_cases er : cls r = 0
                  · have er' : (cls r == 0) = true := by simpa using er
                    have ER : Hid (cls r = 0) := er
                    clear er
                    go_wp2_with (at_builtin; refine wpList_append_lies _ rfl _ _ 24 rfl w.heap.size 3 i0 (.int .i64 0) 1 8 Tryd.underlying24 hi hzz hz1 hz2 rfl (by decide) _ (M + 1) _ rfl (hown0.alloc _) ⟨_, 0, none⟩ 1 1 [.int .i64 r] rfl rfl (cell_one_new _ _ _) (fun x hx => by simp at hx; subst hx; rfl) (by omega) (by unfold maxLen; omega) (by omega) (by simp; omega) (w2.heap.size + 1) (by simp) ?_; intro g' cap' w3 hown hgr hgg hlt')
                    exact ⟨crel_start hlt HP.out ER.out HN.out hown (grown_below hob hbb _ hgr), by simp [intOf]; omega⟩
                  · have er' : (cls r == 0) = false := by simpa using er
                    have ER : Hid (¬ cls r = 0) := er
                    clear er
                    go_wp2_with (at_builtin; refine wpList_append_lies _ rfl _ _ 24 rfl w.heap.size 3 i0 (.int .i64 0) 1 8 Tryd.underlying24 hi hzz hz1 hz2 rfl (by decide) _ (M + 1) _ rfl (hown0.alloc _) ⟨_, 0, none⟩ 1 1 [.int .i64 r] rfl rfl (cell_one_new _ _ _) (fun x hx => by simp at hx; subst hx; rfl) (by omega) (by unfold maxLen; omega) (by omega) (by simp; omega) (w2.heap.size + 1) (by simp) ?_; intro g' cap' w3 hown hgr hgg hlt')
                    exact ⟨crel_mark hlt HP.out ER.out HN.out hown (grown_below hob hbb _ hgr) (by omega), by simp [intOf]; omega⟩
              · have HP : Hid (compS ds (k + 1) = push (os, p + 1) r) := by
                  show _ = _
                  rw [HS.out, HF.out, show decide (cls (at0 os M) ≠ 0 ∧ cls (at0 os M) < cls r) = false from decide_eq_false (fun h => f2 h.2)]; rfl
                have f2' : decide (cls (at0 os M) < cls r) = false := by simpa using f2
                clear HS HF HY HZ TG hN ho f1 f2
                go_wp2_with fail
                refine (C _).mono ?_
                rintro e w1 ⟨rfl, rfl⟩
                go_wp2_with fail
                refine (CM _).mono ?_
                rintro e w1 ⟨rfl, rfl⟩
                clear C CM
                have hown0 := hoN
                unfold Ints at hown0
                rw [HN.out] at hown0
                have hszz := hbr.size
                by_cases er : cls r = 0
                · have er' : (cls r == 0) = true := by simpa using er
                  have ER : Hid (cls r = 0) := er
                  clear er
                  go_wp2_with (at_builtin; refine wpList_append_lies _ rfl _ _ 24 rfl w.heap.size 3 i0 (.int .i64 0) 1 8 Tryd.underlying24 hi hzz hz1 hz2 rfl (by decide) _ (M + 1) _ rfl (hown0.alloc _) ⟨_, 0, none⟩ 1 1 [.int .i64 r] rfl rfl (cell_one_new _ _ _) (fun x hx => by simp at hx; subst hx; rfl) (by omega) (by unfold maxLen; omega) (by omega) (by simp; omega) (w1.heap.size + 1) (by simp) ?_; intro g' cap' w3 hown hgr hgg hlt')
                  exact ⟨crel_start hlt HP.out ER.out HN.out hown (grown_below hoN hbr _ hgr), by simp [intOf]; omega⟩
                · have er' : (cls r == 0) = false := by simpa using er
                  have ER : Hid (¬ cls r = 0) := er
                  clear er
                  go_wp2_with (at_builtin; refine wpList_append_lies _ rfl _ _ 24 rfl w.heap.size 3 i0 (.int .i64 0) 1 8 Tryd.underlying24 hi hzz hz1 hz2 rfl (by decide) _ (M + 1) _ rfl (hown0.alloc _) ⟨_, 0, none⟩ 1 1 [.int .i64 r] rfl rfl (cell_one_new _ _ _) (fun x hx => by simp at hx; subst hx; rfl) (by omega) (by unfold maxLen; omega) (by omega) (by simp; omega) (w1.heap.size + 1) (by simp) ?_; intro g' cap' w3 hown hgr hgg hlt')
                  exact ⟨crel_mark hlt HP.out ER.out HN.out hown (grown_below hoN hbr _ hgr) (by omega), by simp [intOf]; omega⟩
    · have hk3 : k = ds.length := by omega
      subst hk3
      go_wp2
      go_ret
      exact ⟨_, rfl, ho, hbr⟩
end Go.Proofs.YtlhpkjhinikmmadDoor
