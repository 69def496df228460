/- Contract of the program's putTogether. -/
import Derived.Test.YtlhpkjhinikmmaaDoorComp
import Derived.Test.YtlhpkjhinikmmaaDoorITog
import Derived.Test.YtlhpkjhinikmmaaDoorIBlock
import Derived.Test.YtlhpkjhinikmmaaDoorINorm
namespace Go.Proofs.YtlhpkjhinikmmaaDoor
open Go.RowKit

set_option maxRecDepth 100000 in
set_option maxHeartbeats 4000000 in
theorem put_row (w : World) (B gd capd : Nat) (ds : List Int) (hz : ds.length ≤ 2000) (hI : Ints w B (.slice (some ⟨gd, 0, none⟩) ds.length capd) ds) (hm : Held w 2 marksF) (ht : Tabs w) :
    Calls Tryd.prog 20 #[.slice (some ⟨gd, 0, none⟩) ds.length capd] w fun e w' => ∃ v, e = .returned v ∧ Ints w' w.heap.size v (compI ds ds.length).1 ∧ Below w.heap.size w w' := by
  obtain ⟨i0, hi, hzz, hz1, hz2⟩ := info_parts info_int
  go_enter Tryd.func20, Tryd.ntmps20
  go_wp2
  go_loopw [3, 4, 11] (fun out last i wr => CRel (compI ds) w ds.length out last i wr) (fun _ _ i _ => ds.length - (intOf i).toNat)
  case atStart => exact ⟨0, Nat.zero_le _, rfl, rfl, ⟨rfl, .inl ⟨rfl, rfl⟩⟩, Below.refl _ _⟩
  case round =>
    obtain ⟨k, hk, rfl, rfl, ho, hbr⟩ := hrel
    by_cases hlt : k < ds.length
    · obtain ⟨r, hx⟩ : ∃ r, ds[k]? = some r := ⟨_, List.getElem?_eq_getElem hlt⟩
      have c1 := ints_at0 (hI.below hbr) k r hx
      have HS : Hid (compI ds (k + 1) = stepBy (freeI (compI ds k) r) (compI ds k) r) := by
        show _ = _
        rw [← at0_mem hx]; rfl
      have hln := compI_len ds k
      have hk8 : (k : Int) < (ds.length : Int) := by omega
      clear hx
      generalize compI ds k = s at *
      obtain ⟨os, q⟩ := s
      simp only at ho hln ⊢
      rcases ho.form with ⟨rfl, rfl⟩ | ⟨g, cap, rfl, hcap, hcapm⟩
      · have hq0 : q = 0 := by simpa using hln.2
        subst hq0
        have HP : Hid (compI ds (k + 1) = push ([], 0) r) := by
          show _ = _
          rw [HS.out, show freeI ([], 0) r = false from decide_eq_false (by simp)]; rfl
        clear HS
        have CC := implClass_any r wr (hm.below hbr hm.lt)
        go_wp2_with fail
        refine CC.mono ?_
        rintro e wc ⟨rfl, hbc⟩
        have hoc := (ho).below hbc
        have hbbc := (hbr).trans (hbc.mono (hbr).size)
        clear CC hbc
        have hown0 := hoc
        unfold Ints at hown0
        simp only [List.length_nil] at hown0
        have hszz := hbbc.size
        by_cases er : cls r = 0
        · have er' : (cls r == 0) = true := by simpa using er
          have ER : Hid (cls r = 0) := er
          clear er
          go_wp2_with (at_builtin; refine wpList_append_lies _ rfl _ _ 23 rfl w.heap.size 3 i0 (.int .i64 0) 1 8 Tryd.underlying23 hi hzz hz1 hz2 rfl (by decide) _ 0 _ rfl (hown0.alloc _) ⟨_, 0, none⟩ 1 1 [.int .i64 r] rfl rfl (cell_one_new _ _ _) (fun x hx => by simp at hx; subst hx; rfl) (by omega) (by unfold maxLen; omega) (by omega) (by simp; omega) (wc.heap.size + 1) (by simp) ?_; intro g' cap' w3 hown hgr hgg hlt')
          exact ⟨crel_start hlt HP.out ER.out rfl hown (grown_below hoc hbbc _ hgr), by simp [intOf]; omega⟩
        · have er' : (cls r == 0) = false := by simpa using er
          have ER : Hid (¬ cls r = 0) := er
          clear er
          go_wp2_with (at_builtin; refine wpList_append_lies _ rfl _ _ 23 rfl w.heap.size 3 i0 (.int .i64 0) 1 8 Tryd.underlying23 hi hzz hz1 hz2 rfl (by decide) _ 0 _ rfl (hown0.alloc _) ⟨_, 0, none⟩ 1 1 [.int .i64 r] rfl rfl (cell_one_new _ _ _) (fun x hx => by simp at hx; subst hx; rfl) (by omega) (by unfold maxLen; omega) (by omega) (by simp; omega) (wc.heap.size + 1) (by simp) ?_; intro g' cap' w3 hown hgr hgg hlt')
          exact ⟨crel_mark hlt HP.out ER.out rfl hown (grown_below hoc hbbc _ hgr) (by omega), by simp [intOf]; omega⟩
      · obtain ⟨N, hN⟩ : ∃ N, os.length = N := ⟨_, rfl⟩
        have HN : Hid _ := hN
        rw [hN] at hcap hln ⊢
        have hoN := ho
        rw [hN] at hoN
        cases q with
        | zero =>
          have HP : Hid (compI ds (k + 1) = push (os, 0) r) := by
            show _ = _
            rw [HS.out, show freeI (os, 0) r = false from decide_eq_false (by simp)]; rfl
          clear HS hN ho
          have CC := implClass_any r wr (hm.below hbr hm.lt)
          go_wp2_with fail
          refine CC.mono ?_
          rintro e wc ⟨rfl, hbc⟩
          have hoc := (hoN).below hbc
          have hbbc := (hbr).trans (hbc.mono (hbr).size)
          clear CC hbc
          have hown0 := hoc
          unfold Ints at hown0
          rw [HN.out] at hown0
          have hszz := hbbc.size
          by_cases er : cls r = 0
          · have er' : (cls r == 0) = true := by simpa using er
            have ER : Hid (cls r = 0) := er
            clear er
            go_wp2_with (at_builtin; refine wpList_append_lies _ rfl _ _ 23 rfl w.heap.size 3 i0 (.int .i64 0) 1 8 Tryd.underlying23 hi hzz hz1 hz2 rfl (by decide) _ N _ rfl (hown0.alloc _) ⟨_, 0, none⟩ 1 1 [.int .i64 r] rfl rfl (cell_one_new _ _ _) (fun x hx => by simp at hx; subst hx; rfl) (by omega) (by unfold maxLen; omega) (by omega) (by simp; omega) (wc.heap.size + 1) (by simp) ?_; intro g' cap' w3 hown hgr hgg hlt')
            exact ⟨crel_start hlt HP.out ER.out HN.out hown (grown_below hoc hbbc _ hgr), by simp [intOf]; omega⟩
          · have er' : (cls r == 0) = false := by simpa using er
            have ER : Hid (¬ cls r = 0) := er
            clear er
            go_wp2_with (at_builtin; refine wpList_append_lies _ rfl _ _ 23 rfl w.heap.size 3 i0 (.int .i64 0) 1 8 Tryd.underlying23 hi hzz hz1 hz2 rfl (by decide) _ N _ rfl (hown0.alloc _) ⟨_, 0, none⟩ 1 1 [.int .i64 r] rfl rfl (cell_one_new _ _ _) (fun x hx => by simp at hx; subst hx; rfl) (by omega) (by unfold maxLen; omega) (by omega) (by simp; omega) (wc.heap.size + 1) (by simp) ?_; intro g' cap' w3 hown hgr hgg hlt')
            exact ⟨crel_mark hlt HP.out ER.out HN.out hown (grown_below hoc hbbc _ hgr) (by omega), by simp [intOf]; omega⟩
        | succ p =>
          obtain ⟨M, rfl⟩ : ∃ M, N = M + 1 := ⟨N - 1, by omega⟩
          have hpM : p ≤ M := by omega
          have yc : wr.cell? ⟨g, p, none⟩ = some (.int .i64 (at0 os p)) := by
            have := ho.cell p (by omega); exact this
          have HY : Hid (∀ x, tog (at0 os p) r = some x → stepBy true (os, p + 1) r = (os.set p x, p + 1)) := fun x h => step_some (s := (os, p + 1)) h
          have HZ : Hid (tog (at0 os p) r = none → stepBy true (os, p + 1) r = push (os, p + 1) r) := fun h => step_none (s := (os, p + 1)) h
          have TG := fun (w : World) (h : Tabs w) => implTogether_any (at0 os p) r w h.1 h.2
          have hp1 : (p : Int) < (M : Int) + 1 := by omega
          have hglt := (World.ownsRow.lt hoN g rfl).2
          have HFr : Hid (freeI (os, p + 1) r = !blk (os.drop (p + 1)) r) := freeI_blk (os, p + 1) r (by simp)
          rw [HFr.out] at HS
          have hdl : (os.drop (p + 1)).length = M - p := by rw [List.length_drop]; omega
          have hmr := hm.below hbr hm.lt
          unfold maxLen at hcapm
          by_cases hcp : cap = p + 1
          · have hMp : p = M := by omega
            have BL := blocked_none wr (some ⟨g, 0, none⟩) 0 r hmr
            have hb0 : blk (os.drop (p + 1)) r = false := by rw [show os.drop (p + 1) = [] from List.drop_eq_nil_of_le (by omega)]; rfl
            rw [hb0] at HS
            subst hMp
            subst hcp
            clear HFr hdl hb0 hmr hN ho hpM
            go_wp2_with fail
            refine BL.mono ?_
            rintro e w1 ⟨rfl, hb1⟩
            clear BL
            have ho1 := hoN.below hb1
            have hbb1 := hbr.trans (hb1.mono hbr.size)
            have yc1 : w1.cell? ⟨g, p, none⟩ = some (.int .i64 (at0 os p)) := by rw [hb1.cell hglt]; exact yc
            have TT := TG w1 (ht.below hbb1)
            clear TG yc
            go_wp2_with fail
            refine TT.mono ?_
            rintro e w2 ⟨rfl, hb2⟩
            have hob := ho1.below hb2
            have hbb := hbb1.trans (hb2.mono hbb1.size)
            have hofz := hob
            unfold Ints at hofz
            rw [HN.out] at hofz
            have fz := World.ownsRow.frozenAt hofz p
            clear hofz
            have yc2 : w2.cell? ⟨g, p, none⟩ = some (.int .i64 (at0 os p)) := by rw [hb2.cell (World.ownsRow.lt ho1 g rfl).2]; exact yc1
            clear TT yc1 hb2 hb1
            cases ho2 : tog (at0 os p) r with
            | some x =>
              have HC : Hid (compI ds (k + 1) = (os.set p x, p + 1)) := HS.out.trans (HY.out x ho2)
              clear HS HY HZ ho2
              simp only [togRes, Option.getD, Option.isSome]
              go_wp2
              exact ⟨crel_store hlt HC.out HN.out hob hbb, by simp [intOf]; omega⟩
            | none =>
              have HP : Hid (compI ds (k + 1) = push (os, p + 1) r) := HS.out.trans (HZ.out ho2)
              clear HS HY HZ ho2
              simp only [togRes, Option.getD, Option.isSome]
              have CC := implClass_any r w2 (hm.below hbb hm.lt)
              go_wp2_with fail
              refine CC.mono ?_
              rintro e wc ⟨rfl, hbc⟩
              have hoc := (hob).below hbc
              have hbbc := (hbb).trans (hbc.mono (hbb).size)
              clear CC hbc
              have hown0 := hoc
              unfold Ints at hown0
              rw [HN.out] at hown0
              have hszz := hbbc.size
              by_cases er : cls r = 0
              · have er' : (cls r == 0) = true := by simpa using er
                have ER : Hid (cls r = 0) := er
                clear er
                go_wp2_with (at_builtin; refine wpList_append_lies _ rfl _ _ 23 rfl w.heap.size 3 i0 (.int .i64 0) 1 8 Tryd.underlying23 hi hzz hz1 hz2 rfl (by decide) _ (p + 1) _ rfl (hown0.alloc _) ⟨_, 0, none⟩ 1 1 [.int .i64 r] rfl rfl (cell_one_new _ _ _) (fun x hx => by simp at hx; subst hx; rfl) (by omega) (by unfold maxLen; omega) (by omega) (by simp; omega) (wc.heap.size + 1) (by simp) ?_; intro g' cap' w3 hown hgr hgg hlt')
                exact ⟨crel_start hlt HP.out ER.out HN.out hown (grown_below hoc hbbc _ hgr), by simp [intOf]; omega⟩
              · have er' : (cls r == 0) = false := by simpa using er
                have ER : Hid (¬ cls r = 0) := er
                clear er
                go_wp2_with (at_builtin; refine wpList_append_lies _ rfl _ _ 23 rfl w.heap.size 3 i0 (.int .i64 0) 1 8 Tryd.underlying23 hi hzz hz1 hz2 rfl (by decide) _ (p + 1) _ rfl (hown0.alloc _) ⟨_, 0, none⟩ 1 1 [.int .i64 r] rfl rfl (cell_one_new _ _ _) (fun x hx => by simp at hx; subst hx; rfl) (by omega) (by unfold maxLen; omega) (by omega) (by simp; omega) (wc.heap.size + 1) (by simp) ?_; intro g' cap' w3 hown hgr hgg hlt')
                exact ⟨crel_mark hlt HP.out ER.out HN.out hown (grown_below hoc hbbc _ hgr) (by omega), by simp [intOf]; omega⟩
          · have BL : Calls Tryd.prog 36 #[.slice (some ⟨g, p + 1, none⟩) (M - p) (cap - (p + 1)), .int .i64 r] wr fun e w' => e = .returned (.bool (blk (os.drop (p + 1)) r)) ∧ Below wr.heap.size wr w' := by
              rw [← hdl]
              refine blocked_any wr g (p + 1) (cap - (p + 1)) (os.drop (p + 1)) r (by omega) hglt (fun j b hj => ?_) hmr
              rw [List.getElem?_drop] at hj
              have hjl := (List.getElem?_eq_some_iff.1 hj).1
              have := ho.cell (p + 1 + j) (by omega)
              rw [hj] at this
              exact this
            generalize blk (os.drop (p + 1)) r = bb at *
            have hp2 : (p : Int) + 1 ≤ (M : Int) + 1 := by omega
            clear HFr hdl hmr hN ho
            go_wp2_with fail
            refine BL.mono ?_
            rintro e w1 ⟨rfl, hb1⟩
            clear BL
            cases bb with
            | true =>
              have HP : Hid (compI ds (k + 1) = push (os, p + 1) r) := HS.out
              have ho1 := hoN.below hb1
              have hbb1 := hbr.trans (hb1.mono hbr.size)
              clear HS HY HZ TG yc hb1
              have CC := implClass_any r w1 (hm.below hbb1 hm.lt)
              go_wp2_with fail
              refine CC.mono ?_
              rintro e wc ⟨rfl, hbc⟩
              have hoc := (ho1).below hbc
              have hbbc := (hbb1).trans (hbc.mono (hbb1).size)
              clear CC hbc
              have hown0 := hoc
              unfold Ints at hown0
              rw [HN.out] at hown0
              have hszz := hbbc.size
              by_cases er : cls r = 0
              · have er' : (cls r == 0) = true := by simpa using er
                have ER : Hid (cls r = 0) := er
                clear er
                go_wp2_with (at_builtin; refine wpList_append_lies _ rfl _ _ 23 rfl w.heap.size 3 i0 (.int .i64 0) 1 8 Tryd.underlying23 hi hzz hz1 hz2 rfl (by decide) _ (M + 1) _ rfl (hown0.alloc _) ⟨_, 0, none⟩ 1 1 [.int .i64 r] rfl rfl (cell_one_new _ _ _) (fun x hx => by simp at hx; subst hx; rfl) (by omega) (by unfold maxLen; omega) (by omega) (by simp; omega) (wc.heap.size + 1) (by simp) ?_; intro g' cap' w3 hown hgr hgg hlt')
                exact ⟨crel_start hlt HP.out ER.out HN.out hown (grown_below hoc hbbc _ hgr), by simp [intOf]; omega⟩
              · have er' : (cls r == 0) = false := by simpa using er
                have ER : Hid (¬ cls r = 0) := er
                clear er
                go_wp2_with (at_builtin; refine wpList_append_lies _ rfl _ _ 23 rfl w.heap.size 3 i0 (.int .i64 0) 1 8 Tryd.underlying23 hi hzz hz1 hz2 rfl (by decide) _ (M + 1) _ rfl (hown0.alloc _) ⟨_, 0, none⟩ 1 1 [.int .i64 r] rfl rfl (cell_one_new _ _ _) (fun x hx => by simp at hx; subst hx; rfl) (by omega) (by unfold maxLen; omega) (by omega) (by simp; omega) (wc.heap.size + 1) (by simp) ?_; intro g' cap' w3 hown hgr hgg hlt')
                exact ⟨crel_mark hlt HP.out ER.out HN.out hown (grown_below hoc hbbc _ hgr) (by omega), by simp [intOf]; omega⟩
            | false =>
              have HS2 : Hid (compI ds (k + 1) = stepBy true (os, p + 1) r) := HS.out
              clear HS
              have ho1 := hoN.below hb1
              have hbb1 := hbr.trans (hb1.mono hbr.size)
              have yc1 : w1.cell? ⟨g, p, none⟩ = some (.int .i64 (at0 os p)) := by rw [hb1.cell hglt]; exact yc
              have TT := TG w1 (ht.below hbb1)
              clear TG yc
              go_wp2_with fail
              refine TT.mono ?_
              rintro e w2 ⟨rfl, hb2⟩
              have hob := ho1.below hb2
              have hbb := hbb1.trans (hb2.mono hbb1.size)
              have hofz := hob
              unfold Ints at hofz
              rw [HN.out] at hofz
              have fz := World.ownsRow.frozenAt hofz p
              clear hofz
              have yc2 : w2.cell? ⟨g, p, none⟩ = some (.int .i64 (at0 os p)) := by rw [hb2.cell (World.ownsRow.lt ho1 g rfl).2]; exact yc1
              clear TT yc1 hb2 hb1
              cases ho2 : tog (at0 os p) r with
              | some x =>
                have HC : Hid (compI ds (k + 1) = (os.set p x, p + 1)) := HS2.out.trans (HY.out x ho2)
                clear HS2 HY HZ ho2
                simp only [togRes, Option.getD, Option.isSome]
                go_wp2
                exact ⟨crel_store hlt HC.out HN.out hob hbb, by simp [intOf]; omega⟩
              | none =>
                have HP : Hid (compI ds (k + 1) = push (os, p + 1) r) := HS2.out.trans (HZ.out ho2)
                clear HS2 HY HZ ho2
                simp only [togRes, Option.getD, Option.isSome]
                have CC := implClass_any r w2 (hm.below hbb hm.lt)
                go_wp2_with fail
                refine CC.mono ?_
                rintro e wc ⟨rfl, hbc⟩
                have hoc := (hob).below hbc
                have hbbc := (hbb).trans (hbc.mono (hbb).size)
                clear CC hbc
                have hown0 := hoc
                unfold Ints at hown0
                rw [HN.out] at hown0
                have hszz := hbbc.size
                by_cases er : cls r = 0
                · have er' : (cls r == 0) = true := by simpa using er
                  have ER : Hid (cls r = 0) := er
                  clear er
                  go_wp2_with (at_builtin; refine wpList_append_lies _ rfl _ _ 23 rfl w.heap.size 3 i0 (.int .i64 0) 1 8 Tryd.underlying23 hi hzz hz1 hz2 rfl (by decide) _ (M + 1) _ rfl (hown0.alloc _) ⟨_, 0, none⟩ 1 1 [.int .i64 r] rfl rfl (cell_one_new _ _ _) (fun x hx => by simp at hx; subst hx; rfl) (by omega) (by unfold maxLen; omega) (by omega) (by simp; omega) (wc.heap.size + 1) (by simp) ?_; intro g' cap' w3 hown hgr hgg hlt')
                  exact ⟨crel_start hlt HP.out ER.out HN.out hown (grown_below hoc hbbc _ hgr), by simp [intOf]; omega⟩
                · have er' : (cls r == 0) = false := by simpa using er
                  have ER : Hid (¬ cls r = 0) := er
                  clear er
                  go_wp2_with (at_builtin; refine wpList_append_lies _ rfl _ _ 23 rfl w.heap.size 3 i0 (.int .i64 0) 1 8 Tryd.underlying23 hi hzz hz1 hz2 rfl (by decide) _ (M + 1) _ rfl (hown0.alloc _) ⟨_, 0, none⟩ 1 1 [.int .i64 r] rfl rfl (cell_one_new _ _ _) (fun x hx => by simp at hx; subst hx; rfl) (by omega) (by unfold maxLen; omega) (by omega) (by simp; omega) (wc.heap.size + 1) (by simp) ?_; intro g' cap' w3 hown hgr hgg hlt')
                  exact ⟨crel_mark hlt HP.out ER.out HN.out hown (grown_below hoc hbbc _ hgr) (by omega), by simp [intOf]; omega⟩
    · have hk3 : k = ds.length := by omega
      subst hk3
      go_wp2
      go_ret
      exact ⟨_, rfl, ho, hbr⟩
end Go.Proofs.YtlhpkjhinikmmaaDoor
