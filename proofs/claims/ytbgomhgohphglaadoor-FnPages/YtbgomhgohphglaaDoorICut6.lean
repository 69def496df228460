/- Contract of the program's CutRows. -/
import Derived.Test.YtbgomhgohphglaaDoorICopy6
import Derived.Test.YtbgomhgohphglaaDoorIWithin6
import Derived.Test.YtbgomhgohphglaaDoorIGood6
import Derived.Test.YtbgomhgohphglaaDoorNestK
import Derived.Deep.AppendLies
namespace Go.Proofs.YtbgomhgohphglaaDoor
open Go.RowKit

def lenV : Value → Nat
  | .slice _ n _ => n
  | _ => 0

/-- The rows that are left, and the pages so far. -/
def CtRel (w : World) (R : Option (List (List Rw))) (v0 v4 : Value) (wr : World) : Prop :=
  ∃ (l : List Rw) (acc : List (List Rw)) (vs : List Value) (hi : Nat) (al : Option Addr) (cl : Nat), v0 = .slice al l.length cl ∧ l.length ≤ cl ∧ cl ≤ 9223372036854775807 ∧ SlRw w al l ∧ goodR l = true ∧ NestR wr w.heap.size hi v4 acc vs ∧ acc.length ≤ 40 ∧ cutF acc l = R ∧ Below w.heap.size w wr

set_option maxRecDepth 100000 in
set_option maxHeartbeats 8000000 in
theorem implCut_any {w : World} {a : Option Addr} {l : List Rw} {c : Nat} (hS : SlRw w a l) (hl : l.length ≤ c) (hc : c ≤ 9223372036854775807) (hl2 : l.length ≤ 1048576) :
    Calls Tryd.prog 28 #[.slice a l.length c] w fun e w' => ∃ v, e = .returned (.tuple #[v, .bool (cutA l).isSome]) ∧ (∀ gs, cutA l = some gs → ∃ vs, NestR w' w.heap.size w'.heap.size v gs vs) ∧ (cutA l = none → v = .slice none 0 0) ∧ Below w.heap.size w w' := by
  have GD := implGR_any (cap := c) hS (by omega)
  cases hg : goodR l
  · have HA : Hid (cutA l = none) := by show _ = _; unfold cutA; rw [if_neg (by rw [hg]; decide)]
    rw [hg] at GD
    rw [HA.out]
    clear hS hg
    go_enter Tryd.func28, Tryd.ntmps28
    go_wp2_with fail
    refine GD.mono ?_
    rintro e w1 ⟨rfl, b1⟩
    clear GD
    go_wp2
    go_ret2
    exact ⟨_, rfl, fun gs h => (by cases h), fun _ => rfl, b1⟩
  · obtain ⟨R, HR⟩ : ∃ R, Hid (cutA l = R) := ⟨_, rfl⟩
    have HF : Hid (cutF [] l = R) := by show _ = _; rw [← HR.out]; unfold cutA; rw [if_pos hg]
    rw [hg] at GD
    rw [HR.out]
    obtain ⟨i1, hi1, hy0, hy1, hy2⟩ := info_parts info_rwL
    have HS : Hid (SlRw w a l) := hS
    have HG : Hid (goodR l = true) := hg
    clear hS hg
    go_enter Tryd.func28, Tryd.ntmps28
    go_wp2_with fail
    refine GD.mono ?_
    rintro e w1 ⟨rfl, b1⟩
    have HB1 : Hid (Below w.heap.size w w1) := b1
    clear GD b1
    go_wp2_with fail
    go_loopw [0, 4] (fun v0 v4 wr => CtRel w R v0 v4 wr) (fun v0 _ _ => lenV v0)
    case atStart => exact ⟨l, [], [], _, a, c, rfl, hl, hc, HS.out, HG.out, NestR.nil w1 _, by simp, HF.out, HB1.out⟩
    case round =>
      clear HS HG HF HB1 hl hc HR
      obtain ⟨l, acc, vs, hi, al, cl, rfl, hl, hc, hS, hg, hN, ha, hF, hb⟩ := hrel
      by_cases h0 : l.length = 0
      · have HRE : Hid (R = some acc) := by show _ = _; rw [← hF, cutF_end h0]
        have HN : Hid (NestR wr w.heap.size hi _ acc vs) := hN
        have HB : Hid (Below w.heap.size w wr) := hb
        have h08 : ¬ (0 : Int) < (l.length : Int) := by omega
        clear hN hb hS hF hg
        go_wp2
        go_ret2
        rw [HRE.out]
        exact ⟨_, rfl, fun gs h => by obtain rfl := Option.some.inj h; exact ⟨_, HN.out.high HN.out.top (Nat.le_refl _)⟩, fun h => (by cases h), HB.out⟩
      · have h08 : (0 : Int) < (l.length : Int) := by omega
        have hRB := goodR_RwB hg
        have h60 := goodR_len hg
        have WN := within_any (cap := cl) 300 (hS.below hb (Nat.le_refl _)) hRB (by omega)
        obtain ⟨q1, q2, q3⟩ := wn_is l 300
        have HS : Hid (SlRw w al l) := hS
        have HG : Hid (goodR l = true) := hg
        have HN : Hid (NestR wr w.heap.size hi u4 acc vs) := hN
        have HF : Hid (cutF acc l = R) := hF
        have HB : Hid (Below w.heap.size w wr) := hb
        have HRB : Hid (RwB l) := hRB
        obtain ⟨n, HWN⟩ : ∃ n, Hid (wn l 300 = n) := ⟨_, rfl⟩
        rw [HWN.out] at WN q1
        obtain ⟨a4, c4, hv4, _⟩ := hN.form
        subst hv4
        clear hS hg hN hF hb hRB q2 q3
        by_cases hn0 : n = 0
        · have HRE : Hid (R = none) := by show _ = _; rw [← HF.out]; exact cutF_no h0 (.inl (by rw [HWN.out]; exact hn0))
          subst hn0
          go_wp2_with fail
          refine WN.mono ?_
          rintro e w2 ⟨rfl, b2⟩
          have HB2 : Hid (Below w.heap.size w w2) := HB.out.trans (b2.mono HB.out.size)
          clear WN b2
          go_wp2
          go_ret2
          rw [HRE.out]
          exact ⟨_, rfl, fun gs h => (by cases h), fun _ => rfl, HB2.out⟩
        · have hn8 : ¬ (n : Int) = 0 := by omega
          by_cases h40 : acc.length = 40
          · have HRE : Hid (R = none) := by show _ = _; rw [← HF.out]; exact cutF_no h0 (.inr h40)
            have h48 : (acc.length : Int) = 40 := by omega
            clear h40
            go_wp2_with fail
            refine WN.mono ?_
            rintro e w2 ⟨rfl, b2⟩
            have HB2 : Hid (Below w.heap.size w w2) := HB.out.trans (b2.mono HB.out.size)
            clear WN b2
            go_wp2
            go_ret2
            rw [HRE.out]
            exact ⟨_, rfl, fun gs h => (by cases h), fun _ => rfl, HB2.out⟩
          · have h48 : ¬ (acc.length : Int) = 40 := by omega
            have HF2 : Hid (cutF (acc ++ [l.take n]) (l.drop n) = R) := by show _ = _; rw [← HF.out, cutF_yes h0 (by rw [HWN.out]; exact hn0) h40, HWN.out]
            have htl : (l.take n).length = n := by rw [List.length_take]; omega
            have hdl : (l.drop n).length = l.length - n := List.length_drop
            have HRT : Hid (RwB (l.take n)) := goodR_RwB (goodR_take HG.out n)
            have HGD : Hid (goodR (l.drop n) = true) := goodR_drop HG.out n
            have HTL : Hid ((l.take n).length = n) := htl
            have HDL : Hid ((l.drop n).length = l.length - n) := hdl
            clear htl hdl
            obtain ⟨b, o, rfl⟩ : ∃ b o, al = some ⟨b, o, none⟩ := by
              rcases HS.out with h | ⟨b, o, h, _⟩
              · rw [h] at h0; simp at h0
              · exact ⟨b, o, h⟩
            have CP : Hid (∀ u, Below w.heap.size w u → Calls Tryd.prog 57 #[.slice (some ⟨b, o, none⟩) n n] u fun e w' => ∃ v, e = .returned v ∧ Rws w' u.heap.size v (l.take n) ∧ Below u.heap.size u w') := fun u hu => by
              have := copyRows_any (cap := n) ((HS.out.below hu (Nat.le_refl _)).take n) (by rw [HTL.out]; omega) HRT.out
              rw [HTL.out] at this
              exact this
            have hln : n ≤ l.length := q1
            have hcn8 : (n : Int) ≤ (cl : Int) := by omega
            have hnb : ((n : Int) == 0) = false := by simp; omega
            have hab : ((acc.length : Int) == 40) = false := by simp; omega
            have hll8 : (n : Int) ≤ (l.length : Int) := by omega
            clear HF HG HRB
            by_cases hcn : cl = n
            · have HSD : Hid (SlRw w (some ⟨b, o, none⟩) (l.drop n)) := .inl (List.drop_eq_nil_of_le (by omega))
              subst hcn
              go_wp2_with fail
              refine WN.mono ?_
              rintro e w2 ⟨rfl, b2⟩
              have HB2 : Hid (Below w.heap.size w w2) := HB.out.trans (b2.mono HB.out.size)
              have HN2 : Hid (NestR w2 w.heap.size hi _ acc vs) := HN.out.below b2
              have C2 := CP.out w2 HB2.out
              clear WN b2 HB HN
              go_wp2_with fail
              refine C2.mono ?_
              rintro e w3 ⟨v3, rfl, r3, b3⟩
              obtain ⟨g3, c3, hv3, _⟩ := rws_at r3 (by rw [HTL.out]; omega)
              rw [HTL.out] at hv3
              subst hv3
              have HB3 : Hid (Below w.heap.size w w3) := HB2.out.trans (b3.mono HB2.out.size)
              have bA := (Below.refl w3.heap.size w3).alloc (Nat.le_refl _) (.cells #[.slice (some ⟨g3, 0, none⟩) cl c3] 23)
              have hrow := ((HN2.out.below b3).below bA).row
              have HU : Hid (Below w2.heap.size w2 (w3.alloc (.cells #[.slice (some ⟨g3, 0, none⟩) cl c3] 23))) := b3.alloc b3.size _
              have HX0 : Hid (Rws (w3.alloc (.cells #[.slice (some ⟨g3, 0, none⟩) cl c3] 23)) w2.heap.size (.slice (some ⟨g3, 0, none⟩) cl c3) (l.take cl)) := r3.below bA
              have hsU := HB3.out.size
              clear C2 b3 r3
              go_wp2_with (at_builtin; refine wpList_append_lies _ rfl _ _ 52 rfl w.heap.size 23 i1 (.slice none 0 0) 1 24 Tryd.underlying52 hi1 hy0 hy1 hy2 rfl (by decide) _ _ _ rfl hrow ⟨_, 0, none⟩ 1 1 [.slice (some ⟨g3, 0, none⟩) cl c3] rfl rfl (cell_one_new _ _ _) (fun x hx => by simp at hx; subst hx; rfl) (by omega) (by unfold maxLen; omega) (by omega) (by simp; omega) _ rfl ?_)
              intro g5 c5 u5 ho5 hg5 hgo5 hlt5
              have N5 := HN2.out.push HB2.out.size HU.out HX0.out hg5 ho5
              have HB5 : Hid (Below w.heap.size w u5) := Below.grown (HB3.out.trans (bA.mono HB3.out.size)) hg5 (Nat.le_trans HB3.out.size bA.size) (fun i hj => (World.ownsRow.lt hrow i hj).1)
              have HNN : Hid (NestR _ _ _ _ _ _) := N5
              clear N5 HU HX0 hg5 ho5 hrow bA HN2 HB2 HB3
              go_wp2
              exact ⟨⟨l.drop cl, acc ++ [l.take cl], _, _, _, 0, by rw [HDL.out, show l.length - cl = 0 by omega], by rw [HDL.out]; omega, by omega, HSD.out, HGD.out, HNN.out, by simp; omega, HF2.out, HB5.out⟩, by simp [lenV]; omega⟩
            · have hcn2 : (cl == n) = false := by simpa using hcn
              have HSD : Hid (SlRw w (some ⟨b, o + n * 3, none⟩) (l.drop n)) := HS.out.drop n
              go_wp2_with fail
              refine WN.mono ?_
              rintro e w2 ⟨rfl, b2⟩
              have HB2 : Hid (Below w.heap.size w w2) := HB.out.trans (b2.mono HB.out.size)
              have HN2 : Hid (NestR w2 w.heap.size hi _ acc vs) := HN.out.below b2
              have C2 := CP.out w2 HB2.out
              clear WN b2 HB HN
              go_wp2_with fail
              refine C2.mono ?_
              rintro e w3 ⟨v3, rfl, r3, b3⟩
              obtain ⟨g3, c3, hv3, _⟩ := rws_at r3 (by rw [HTL.out]; omega)
              rw [HTL.out] at hv3
              subst hv3
              have HB3 : Hid (Below w.heap.size w w3) := HB2.out.trans (b3.mono HB2.out.size)
              have bA := (Below.refl w3.heap.size w3).alloc (Nat.le_refl _) (.cells #[.slice (some ⟨g3, 0, none⟩) n c3] 23)
              have hrow := ((HN2.out.below b3).below bA).row
              have HU : Hid (Below w2.heap.size w2 (w3.alloc (.cells #[.slice (some ⟨g3, 0, none⟩) n c3] 23))) := b3.alloc b3.size _
              have HX0 : Hid (Rws (w3.alloc (.cells #[.slice (some ⟨g3, 0, none⟩) n c3] 23)) w2.heap.size (.slice (some ⟨g3, 0, none⟩) n c3) (l.take n)) := r3.below bA
              have hsU := HB3.out.size
              clear C2 b3 r3
              go_wp2_with (at_builtin; refine wpList_append_lies _ rfl _ _ 52 rfl w.heap.size 23 i1 (.slice none 0 0) 1 24 Tryd.underlying52 hi1 hy0 hy1 hy2 rfl (by decide) _ _ _ rfl hrow ⟨_, 0, none⟩ 1 1 [.slice (some ⟨g3, 0, none⟩) n c3] rfl rfl (cell_one_new _ _ _) (fun x hx => by simp at hx; subst hx; rfl) (by omega) (by unfold maxLen; omega) (by omega) (by simp; omega) _ rfl ?_)
              intro g5 c5 u5 ho5 hg5 hgo5 hlt5
              have N5 := HN2.out.push HB2.out.size HU.out HX0.out hg5 ho5
              have HB5 : Hid (Below w.heap.size w u5) := Below.grown (HB3.out.trans (bA.mono HB3.out.size)) hg5 (Nat.le_trans HB3.out.size bA.size) (fun i hj => (World.ownsRow.lt hrow i hj).1)
              have HNN : Hid (NestR _ _ _ _ _ _) := N5
              clear N5 HU HX0 hg5 ho5 hrow bA HN2 HB2 HB3
              go_wp2
              exact ⟨⟨l.drop n, acc ++ [l.take n], _, _, _, cl - n, by rw [HDL.out], by rw [HDL.out]; omega, by omega, HSD.out, HGD.out, HNN.out, by simp; omega, HF2.out, HB5.out⟩, by simp [lenV]; omega⟩
end Go.Proofs.YtbgomhgohphglaaDoor
