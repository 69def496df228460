/- The walk of the law FnExactReadPage. -/
import Derived.Test.YtggfdgidfpkbaaaDoorIReadP
import Derived.Test.YtggfdgidfpkbaaaDoorHeldRw
import Derived.Test.YtggfdgidfpkbaaaDoorEqRw
namespace Go.Proofs.YtggfdgidfpkbaaaDoor
open Go.RowKit

theorem rws_low {W : World} {B B' : Nat} {v : Value} {l : List Rw} (h : Rws W B v l) (hb : B' ≤ B) : Rws W B' v l := by
  refine ⟨h.1, ?_⟩
  rcases h.2 with h0 | ⟨g, cap, cur, q1, q2, q3⟩
  · exact .inl h0
  · exact .inr ⟨g, cap, cur, q1, by omega, q3⟩

theorem rws_keep {W W' : World} {B B' : Nat} {v v' : Value} {l l' : List Rw} (h : Rws W B v l) (h' : Rws W B' v' l') (hB : ∀ j, v.ownBlock = some j → j < B') (hg : W.grownBy W' v'.ownBlock) : Rws W' B v l :=
  World.ownsRow.kept h hg (by
    cases c : v.ownBlock with
    | none => exact .inl rfl
    | some j =>
      refine .inr fun e => ?_
      have h1 := hB j c
      have h2 := (World.ownsRow.lt h' j e.symm).1
      omega)

set_option maxRecDepth 100000 in
set_option maxHeartbeats 4000000 in
theorem readPage_walk (w : World) (s : ByteArray) (hs : s.size ≤ maxLen) {ty : TypeId} {pv : Value} (hg : ErrG w ty pv) :
    Calls Tryd.prog 3 #[.string s] w fun e w' => e = .returned (.bool true) ∧ Below w.heap.size w w' := by
  unfold maxLen at hs
  by_cases hz : s.size ≤ 1048576
  · have hz8 : (s.size : Int) ≤ 1048576 := by omega
    have SP := specRP_any s w hz
    have IM := fun (u : World) (h : ErrG u ty pv) => implRP_any s u hz h
    have hlen : (readP s).length ≤ 1048576 := by have := readP_len s; omega
    have hgl := hg.lt
    generalize readP s = l at *
    generalize codeP s = cd at *
    go_enter Tryd.func3, Tryd.ntmps3
    go_wp2_with fail
    refine SP.mono ?_
    rintro e w1 ⟨v1, rfl, r1, b1⟩
    obtain ⟨a1, c1, rfl⟩ := rw_form r1
    have G1 : ErrG w1 ty pv := (b1.cell (p := ⟨0, 0, none⟩) hgl).trans hg
    have I1 := IM _ G1
    have HR1 : Hid (Rws _ _ _ _) := r1
    have HB1 : Hid (Below w.heap.size w w1) := b1
    have HG1 : Hid (ErrG _ _ _) := G1
    clear SP r1 b1 G1
    go_wp2_with fail
    refine I1.mono ?_
    rintro e w2 ⟨v2, rfl, r2, b2⟩
    obtain ⟨a2, c2, rfl⟩ := rw_form r2
    have HR2 : Hid (Rws w2 w1.heap.size (.slice a2 l.length c2) l) := r2
    have HS2 : Hid (Rws w2 w.heap.size (.slice a1 l.length c1) l) := HR1.out.below b2
    have HSB : Hid (∀ j, (Value.slice a1 l.length c1).ownBlock = some j → j < w1.heap.size) := fun j hj => (World.ownsRow.lt HR1.out j hj).2
    have HB2 : Hid (Below w.heap.size w w2) := HB1.out.trans (b2.mono HB1.out.size)
    have hw1 := HB1.out.size
    have HG2 : Hid (ErrG w2 ty pv) := (b2.cell (p := ⟨0, 0, none⟩) HG1.out.lt).trans HG1.out
    have EQ := eqR_any hlen HR2.out HS2.out
    clear I1 r2 b2 HR1 HB1 HG1
    go_wp2_with fail
    refine EQ.mono ?_
    rintro e w3 ⟨rfl, b3⟩
    have HR3 : Hid (Rws w3 w1.heap.size (.slice a2 l.length c2) l) := HR2.out.below b3
    have HS3 : Hid (Rws w3 w.heap.size (.slice a1 l.length c1) l) := HS2.out.below b3
    have HB3 : Hid (Below w.heap.size w w3) := HB2.out.trans (b3.mono HB2.out.size)
    have HG3 : Hid (ErrG w3 ty pv) := (b3.cell (p := ⟨0, 0, none⟩) HG2.out.lt).trans HG2.out
    have MK : Calls Tryd.prog 12 #[.slice a2 l.length c2, .int .i64 1] _ _ := markR_any (m := 1) (by omega) (by omega) hlen HR3.out
    clear EQ b3 HR2 HS2 HB2 HG2
    go_wp2_with fail
    refine MK.mono ?_
    rintro e w4 ⟨rfl, r4, g4⟩
    have HR4 : Hid (Rws w4 w1.heap.size (.slice a2 l.length c2) (seqR 1 l.length)) := r4
    have HS4 : Hid (Rws w4 w.heap.size (.slice a1 l.length c1) l) := rws_keep HS3.out HR3.out HSB.out g4
    have HB4 : Hid (Below w.heap.size w w4) := Below.grown HB3.out g4 HB3.out.size (fun j hj => by have := (World.ownsRow.lt HR3.out j hj).1; omega)
    have HG4 : Hid (ErrG w4 ty pv) := errg_kept HG3.out HR3.out g4 (by omega)
    have HD : Calls Tryd.prog 13 #[.slice a2 l.length c2, .int .i64 1] _ _ := heldR_any (m := 1) (n := l.length) (by omega) (by omega) hlen HR4.out
    clear MK r4 g4 HR3 HS3 HB3 HG3
    obtain ⟨q, hq⟩ : ∃ q, q = 1 + 3 * l.length := ⟨_, rfl⟩
    have hq8 : q ≤ 4000000 := by omega
    rw [← hq] at HD ⊢
    have HQ : Hid _ := hq
    clear hq
    go_wp2_with fail
    refine HD.mono ?_
    rintro e w5 ⟨rfl, b5⟩
    have HR5 : Hid (Rws w5 w1.heap.size (.slice a2 l.length c2) (seqR 1 l.length)) := HR4.out.below b5
    have HS5 : Hid (Rws w5 w.heap.size (.slice a1 l.length c1) l) := HS4.out.below b5
    have HB5 : Hid (Below w.heap.size w w5) := HB4.out.trans (b5.mono HB4.out.size)
    have I5 := IM _ (show ErrG w5 ty pv from (b5.cell (p := ⟨0, 0, none⟩) HG4.out.lt).trans HG4.out)
    clear HD b5 HR4 HS4 HB4 HG4 IM
    go_wp2_with fail
    refine I5.mono ?_
    rintro e w6 ⟨v6, rfl, r6, b6⟩
    obtain ⟨a6, c6, rfl⟩ := rw_form r6
    have HR6 : Hid (Rws w6 w1.heap.size (.slice a2 l.length c2) (seqR 1 l.length)) := HR5.out.below b6
    have HB6 : Hid (Below w.heap.size w w6) := HB5.out.trans (b6.mono HB5.out.size)
    have EQ := eqR_any hlen r6 (HS5.out.below b6)
    clear I5 r6 b6 HR5 HS5 HB5
    go_wp2_with fail
    refine EQ.mono ?_
    rintro e w7 ⟨rfl, b7⟩
    have HB7 : Hid (Below w.heap.size w w7) := HB6.out.trans (b7.mono HB6.out.size)
    have HD : Calls Tryd.prog 13 #[.slice a2 l.length c2, .int .i64 1] _ _ := heldR_any (m := 1) (n := l.length) (by omega) (by omega) hlen (HR6.out.below b7)
    rw [← HQ.out] at HD
    clear EQ b7 HR6 HB6
    go_wp2_with fail
    refine HD.mono ?_
    rintro e w8 ⟨rfl, b8⟩
    have HB8 : Hid (Below w.heap.size w w8) := HB7.out.trans (b8.mono HB7.out.size)
    clear HD b8 HB7
    go_wp2
    go_ret
    exact ⟨rfl, HB8.out⟩
  · have hz8 : ¬ (s.size : Int) ≤ 1048576 := by omega
    go_enter Tryd.func3, Tryd.ntmps3
    go_wp2
    go_ret
    exact ⟨rfl, Below.refl _ _⟩
end Go.Proofs.YtggfdgidfpkbaaaDoor
