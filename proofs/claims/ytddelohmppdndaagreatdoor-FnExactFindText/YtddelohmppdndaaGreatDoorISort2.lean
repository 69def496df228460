/- Contract of the program's sortRuns: the runs of marks of a row of the call's own are sorted in place. -/
import Derived.Test.YtddelohmppdndaaGreatDoorISort
namespace Go.Proofs.YtddelohmppdndaaGreatDoor
open Go.RowKit

def RRel (w : World) (B g cap n : Nat) (zs : List Int) (fv i : Value) (wr : World) : Prop :=
  ∃ f a : Nat, f ≤ a ∧ a ≤ n ∧ fv = .int .i64 f ∧ i = .int .i64 a ∧ SH w B g cap n (srt zs f) wr ∧ (∀ j, f ≤ j → j < a → 0 < cls (at0 zs j)) ∧ (f = 0 ∨ cls (at0 (srt zs f) (f - 1)) = 0)

set_option maxRecDepth 100000 in
set_option maxHeartbeats 4000000 in
theorem sortRuns_any (w : World) (B g cap n : Nat) (zs : List Int) (hown : Own w B g cap n zs) (hB : 0 < B) (hn : n ≤ 1048576) (hm : Held w 0 marksF) :
    Calls Tryz.prog 90 #[.slice (some ⟨g, 0, none⟩) n cap] w fun e w' => e = .returned (.tuple #[]) ∧ SH w B g cap n (sortM zs) w' := by
  have hlen : zs.length = n := hown.len
  have hcap : n ≤ cap ∧ cap ≤ maxLen := by
    rcases hown.2 with ⟨h, _⟩ | ⟨g', cap', cur, h, _, _, h2, h3, _⟩
    · cases h
    · injection h with _ _ h4; subst h4; exact ⟨h2, h3⟩
  obtain ⟨hc1, hc2⟩ := hcap
  unfold maxLen at hc2
  go_enter Tryz.func90, Tryz.ntmps90
  go_wp2
  go_loopw [2, 7] (fun fv i wr => RRel w B g cap n zs fv i wr) (fun _ i _ => n - (intOf i).toNat)
  case atStart => exact ⟨0, 0, Nat.le_refl _, Nat.zero_le _, rfl, rfl, ⟨hown, grown_refl _ _, hm⟩, fun j _ hj => by omega, .inl rfl⟩
  case round =>
    clear hown hm
    obtain ⟨f, a, hfa, han, rfl, rfl, hsh, HM0, HP0⟩ := hrel
    have HM : Hid _ := HM0
    have HP : Hid (f = 0 ∨ cls (at0 (srt zs f) (f - 1)) = 0) := HP0
    clear HM0 HP0
    by_cases hlt : a < n
    · have c0 := hsh.cell a hlt
      rw [srt_above zs f a hfa] at c0
      have CC := implClass_any (at0 zs a) wr hsh.2.2
      generalize hx : at0 zs a = x at *
      have ha8 : (a : Int) < (n : Int) := by omega
      go_wp2_with fail
      refine CC.mono ?_
      rintro e w1 ⟨rfl, hb1⟩
      have hs1 := hsh.below hb1
      clear CC c0
      by_cases e : cls x = 0
      · have e' : (cls x == 0) = true := by simpa using e
        have SB := sortBy_any w1 B g cap n f (a - f) (cap - f) (srt zs f) hs1.1 hB (by omega) hn hs1.2.2
        have hf8 : (f : Int) ≤ (a : Int) := by omega
        have ha9 : (a : Int) ≤ (cap : Int) := by omega
        have HS := srtX_srt (f := f) (a - f) zs (by omega) HP.out (fun j h1 h2 => HM.out j h1 (by omega))
        rw [show f + (a - f) = a by omega] at HS
        have HN : Hid (srtX f (srt zs f) (a - f) = srt zs (a + 1)) := by
          show _ = _
          rw [HS.1, srt_starter zs a (by rw [hx]; exact e)]
        have HQ : Hid (a + 1 = 0 ∨ cls (at0 (srt zs (a + 1)) (a + 1 - 1)) = 0) := by
          refine .inr ?_
          rw [srt_starter zs a (by rw [hx]; exact e), Nat.add_sub_cancel, srt_above zs a a (Nat.le_refl _), hx]; exact e
        clear hsh HS HM HP e hx
        go_wp2_with fail
        refine SB.mono ?_
        rintro e w2 ⟨rfl, hs2⟩
        rw [HN.out] at hs2
        have hs3 := hs1.from hs2
        clear SB HN hs1 hs2 hb1
        go_wp2
        exact ⟨⟨a + 1, a + 1, Nat.le_refl _, by omega, by go_num, by go_num, hs3, fun j h1 h2 => by omega, HQ.out⟩, by simp [intOf]; omega⟩
      · have e' : (cls x == 0) = false := by simpa using e
        have HM2 : Hid (∀ j, f ≤ j → j < a + 1 → 0 < cls (at0 zs j)) := fun j h1 h2 => by
          by_cases ej : j = a
          · subst ej; rw [hx]; have := (cls_range x).1; omega
          · exact HM.out j h1 (by omega)
        clear hsh HM e hx hb1
        go_wp2
        exact ⟨⟨f, a + 1, by omega, by omega, by go_num, by go_num, hs1, HM2.out, HP.out⟩, by simp [intOf]; omega⟩
    · have han2 : a = n := by omega
      subst han2
      have SB := sortBy_any wr B g cap a f (a - f) (cap - f) (srt zs f) hsh.1 hB (by omega) hn hsh.2.2
      have HS := srtX_srt (f := f) (a - f) zs (by omega) HP.out (fun j h1 h2 => HM.out j h1 (by omega))
      rw [show f + (a - f) = a by omega] at HS
      have HN : Hid (srtX f (srt zs f) (a - f) = sortM zs) := by
        show _ = _
        rw [HS.1, sortM, hlen]
      have hf8 : (f : Int) ≤ (a : Int) := by omega
      by_cases hcf : cap = f
      · have haf : a = f := by omega
        have HE : Hid (srt zs f = sortM zs) := by
          show _ = _
          rw [sortM, hlen, haf]
        clear HS HM HP SB HN
        subst haf
        subst hcf
        have SB0 := sortBy_none wr (some ⟨g, 0, none⟩) 0
        go_wp2_with fail
        refine SB0.mono ?_
        rintro e w2 ⟨rfl, rfl⟩
        rw [HE.out] at hsh
        clear SB0 HE
        go_wp2
        go_end0
        exact ⟨rfl, hsh⟩
      · clear HS HM HP
        go_wp2_with fail
        refine SB.mono ?_
        rintro e w2 ⟨rfl, hs2⟩
        rw [HN.out] at hs2
        have hs3 := hsh.from hs2
        clear SB HN hsh hs2
        go_wp2
        go_end0
        exact ⟨rfl, hs3⟩
end Go.Proofs.YtddelohmppdndaaGreatDoor
