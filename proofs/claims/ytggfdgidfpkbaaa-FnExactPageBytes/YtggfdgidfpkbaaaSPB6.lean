/- Contract of the specification's PageBytes. -/
import Derived.Test.YtggfdgidfpkbaaaSPage6
import Derived.Test.YtggfdgidfpkbaaaSGood6
namespace Go.Proofs.Ytggfdgidfpkbaaa
open Go.RowKit

theorem pbT_okS {l : List Rw} (h : okPB l = true) : pbT l = byT (pageI l) := by unfold pbT; rw [if_pos h]
theorem pbT_noS {l : List Rw} (h : okPB l = false) : pbT l = ⟨#[]⟩ := by unfold pbT; rw [h]; rfl

set_option maxRecDepth 100000 in
set_option maxHeartbeats 4000000 in
theorem specPB_any {w : World} {a : Option Addr} {l : List Rw} {cap : Nat} (hS : SlRw w a l) (hl : l.length ≤ 1048576) :
    Calls Try.prog 12 #[.slice a l.length cap] w fun e w' => e = .returned (.tuple #[.string (pbT l), .bool (okPB l)]) ∧ Below w.heap.size w w' := by
  have GR := specGR_any (cap := cap) hS (by omega)
  by_cases h0 : l.length = 0
  · have hok : okPB l = false := by unfold okPB; rw [h0]; rfl
    rw [hok, pbT_noS hok, h0]
    clear GR hS hok
    go_enter Try.func12, Try.ntmps12
    go_wp2
    go_ret2
    exact ⟨rfl, Below.refl _ _⟩
  · have hn0 : ((l.length : Int) == 0) = false := by rw [beq_eq_false_iff_ne]; omega
    cases hg : goodR l
    · have hok : okPB l = false := by unfold okPB; rw [hg, Bool.and_false]; rfl
      rw [hok, pbT_noS hok]
      rw [hg] at GR
      clear hS hok hg
      go_enter Try.func12, Try.ntmps12
      go_wp2_with fail
      refine GR.mono ?_
      rintro e w2 ⟨rfl, b2⟩
      clear GR
      go_wp2
      go_ret2
      exact ⟨rfl, b2⟩
    · have hB := goodR_RwB hg
      rw [hg] at GR
      have PG := fun (u : World) (hu : Below w.heap.size w u) => specPage_any (cap := cap) (hS.below hu (Nat.le_refl _)) hB
      have hsz := byT_size (pageI l)
      by_cases hf : (pageI l).length ≤ 300
      · have hok : okPB l = true := by unfold okPB; rw [hg, decide_eq_true hf, show (l.length == 0) = false from by simpa using h0]; rfl
        rw [hok, pbT_okS hok]
        generalize byT (pageI l) = s at *
        have hs3 : (s.size : Int) ≤ 300 := by omega
        clear hS hok hg hB hf hsz
        go_enter Try.func12, Try.ntmps12
        go_wp2_with fail
        refine GR.mono ?_
        rintro e w2 ⟨rfl, b2⟩
        have P2 := PG _ b2
        clear GR PG
        go_wp2_with fail
        refine P2.mono ?_
        rintro e w3 ⟨rfl, b3⟩
        clear P2
        go_wp2
        go_ret2
        exact ⟨rfl, b2.trans (b3.mono b2.size)⟩
      · have hok : okPB l = false := by unfold okPB; rw [decide_eq_false hf, Bool.and_false]
        rw [hok, pbT_noS hok]
        generalize byT (pageI l) = s at *
        have hs3 : ¬ (s.size : Int) ≤ 300 := by omega
        clear hS hok hg hB hf hsz
        go_enter Try.func12, Try.ntmps12
        go_wp2_with fail
        refine GR.mono ?_
        rintro e w2 ⟨rfl, b2⟩
        have P2 := PG _ b2
        clear GR PG
        go_wp2_with fail
        refine P2.mono ?_
        rintro e w3 ⟨rfl, b3⟩
        clear P2
        go_wp2
        go_ret2
        exact ⟨rfl, b2.trans (b3.mono b2.size)⟩
end Go.Proofs.Ytggfdgidfpkbaaa
