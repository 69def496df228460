/- Contract of the program's GoodRows. -/
import Derived.Test.YtbgomhgohphglaaDoorPGood6
import Derived.BigQuiet
import Derived.Deep.QuietTactic
namespace Go.Proofs.YtbgomhgohphglaaDoor
open Go.RowKit

theorem below_drewN6 {B : Nat} {w u : World} (h : Below B w u) (n : Nat) : Below B w (u.drewN n) := ⟨h.os, h.tape, h.output, h.size, h.block⟩

def GRel6 (w : World) (l : List Rw) (i : Value) (wr : World) : Prop := ∃ k : Nat, k ≤ l.length ∧ i = .int .i64 k ∧ (∀ j, j < k → okAt l j = true) ∧ Below w.heap.size w wr

set_option maxRecDepth 100000 in
set_option maxHeartbeats 4000000 in
theorem implGR_any {w : World} {a : Option Addr} {l : List Rw} {cap : Nat} (hS : SlRw w a l) (hl : l.length ≤ 9223372036854775807) :
    Calls Tryd.prog 55 #[.slice a l.length cap] w fun e w' => e = .returned (.bool (goodR l)) ∧ Below w.heap.size w w' := by
  by_cases h60 : l.length ≤ 60
  · obtain ⟨ans, HANS⟩ : ∃ ans, Hid (goodR l = ans) := ⟨_, rfl⟩
    rw [HANS.out]
    go_enter Tryd.func55, Tryd.ntmps55
    go_wp2
    go_loopw [10] (fun i wr => GRel6 w l i wr) (fun i _ => l.length - (intOf i).toNat)
    case atStart => exact ⟨0, Nat.zero_le _, rfl, fun j hj => by omega, Below.refl _ _⟩
    case round =>
      obtain ⟨k, hk, rfl, hR, hb⟩ := hrel
      have HR : Hid _ := hR
      clear hR
      by_cases hlt : k < l.length
      · obtain ⟨x, hx⟩ : ∃ x, l[k]? = some x := ⟨_, List.getElem?_eq_getElem hlt⟩
        have hS2 := hS.below hb (Nat.le_refl _)
        rcases hS2 with rfl | ⟨b, o, rfl, hE⟩
        · simp at hx
        obtain ⟨a0, a1, a2⟩ := hE k x hx
        have hbl := rw_cell_lt a0
        have hk8 : (k : Int) < (l.length : Int) := by omega
        have HB : Hid (∀ o n, Below w.heap.size w ((wr.alloc o).drewN n)) := fun o n => below_drewN6 (hb.alloc hb.size o) n
        have HB0 : Hid (∀ o, Below w.heap.size w (wr.alloc o)) := fun o => hb.alloc hb.size o
        clear hS hb
        by_cases c0 : x.key.size ≤ 200
        · by_cases c1 : x.text.size ≤ 80
          · by_cases c2 : x.val.size ≤ 80
            · have hz := sz1_true c0 c1 c2
              have d0 : ¬ (200 : Int) < (x.key.size : Int) := by omega
              have d1 : ¬ (80 : Int) < (x.text.size : Int) := by omega
              have d2 : ¬ (80 : Int) < (x.val.size : Int) := by omega
              cases k with
              | zero =>
                simp only [Nat.zero_mul, Nat.add_zero] at a0 a1 a2
                have HN : Hid _ := okAt_snoc HR.out (by rw [okAt_zero hx]; exact hz)
                clear hE hx HR hz HANS c0 c1 c2
                go_wp2
                go_quiet (fail)
                go_wp2
                exact ⟨⟨1, by omega, by go_num, HN.out, HB.out _ _⟩, by simp [intOf]; omega⟩
              | succ j =>
                obtain ⟨y, hy⟩ : ∃ y, l[j]? = some y := ⟨_, List.getElem?_eq_getElem (by omega)⟩
                obtain ⟨p0, _, _⟩ := hE j y hy
                have hj1 : (((j + 1 : Nat) : Int) - 1).toNat = j := by omega
                have hj2 : ((j + 1 : Nat) : Int) - 1 = (j : Int) := by omega
                have hj3 : (j : Int) < (l.length : Int) := by omega
                have hok := okAt_succ hx hy
                rw [hz, Bool.true_and] at hok
                cases hlk : ltK y.key x.key
                · have HF : Hid (ans = false) := by show _ = _; rw [← HANS.out]; exact goodR_not hlt (hok.trans hlk)
                  unfold ltK at hlk
                  clear hE hx hy HR hz HANS c0 c1 c2 hok
                  go_wp2
                  go_quiet (fail)
                  go_wp2
                  go_ret
                  rw [HF.out]
                  exact ⟨rfl, HB.out _ _⟩
                · have HN : Hid _ := okAt_snoc HR.out (hok.trans hlk)
                  unfold ltK at hlk
                  clear hE hx hy HR hz HANS c0 c1 c2 hok
                  go_wp2
                  go_quiet (fail)
                  go_wp2
                  exact ⟨⟨j + 1 + 1, by omega, by go_num, HN.out, HB.out _ _⟩, by simp [intOf]; omega⟩
            · have d0 : ¬ (200 : Int) < (x.key.size : Int) := by omega
              have d1 : ¬ (80 : Int) < (x.text.size : Int) := by omega
              have d2 : (80 : Int) < (x.val.size : Int) := by omega
              have HF : Hid (ans = false) := by show _ = _; rw [← HANS.out]; exact goodR_not hlt (okAt_sz hx (sz1_val c2))
              clear hE hx HR HANS c0 c1 c2
              go_wp2
              go_ret
              rw [HF.out]
              exact ⟨rfl, HB0.out _⟩
          · have d0 : ¬ (200 : Int) < (x.key.size : Int) := by omega
            have d1 : (80 : Int) < (x.text.size : Int) := by omega
            have HF : Hid (ans = false) := by show _ = _; rw [← HANS.out]; exact goodR_not hlt (okAt_sz hx (sz1_text c1))
            clear hE hx HR HANS c0 c1
            go_wp2
            go_ret
            rw [HF.out]
            exact ⟨rfl, HB0.out _⟩
        · have d0 : (200 : Int) < (x.key.size : Int) := by omega
          have HF : Hid (ans = false) := by show _ = _; rw [← HANS.out]; exact goodR_not hlt (okAt_sz hx (sz1_key c0))
          clear hE hx HR HANS c0
          go_wp2
          go_ret
          rw [HF.out]
          exact ⟨rfl, HB0.out _⟩
      · have hkz : k = l.length := by omega
        subst hkz
        have HF : Hid (ans = true) := by show _ = _; rw [← HANS.out]; exact goodR_all h60 HR.out
        clear hS HR HANS
        go_wp2
        go_ret
        rw [HF.out]
        exact ⟨rfl, hb⟩
  · have hc : ¬ (l.length : Int) ≤ 60 := by omega
    rw [goodR_long h60]
    clear hS
    go_enter Tryd.func55, Tryd.ntmps55
    go_wp2
    go_ret
    exact ⟨rfl, Below.refl _ _⟩
end Go.Proofs.YtbgomhgohphglaaDoor
