/- The specification's FourthOf, and the walk of the law FnExactFourthOf from the program's contract (a hypothesis of the walk). -/
import Derived.Test.YtcmanfcgoapjjafSFourth
import Derived.Test.YtcmanfcgoapjjafToEls
import Derived.Test.YtcmanfcgoapjjafMarkE
import Derived.Test.YtcmanfcgoapjjafIntK
namespace Go.Proofs.Ytcmanfcgoapjjaf
open Go.RowKit

def okF (es : List El) : Bool := decide (es.length ≤ 1000)
def fA (sh : Bool) (es : List El) : List Int := if okF es = true then fourths sh es else []
def eA (sh : Bool) (es : List El) : List El := if okF es = true then counted sh es else []

theorem fA_len (sh : Bool) (es : List El) : (fA sh es).length ≤ 1000 ∧ (eA sh es).length ≤ 1000 := by
  unfold fA eA
  split
  · rename_i h
    have h1 := of_decide_eq_true h
    have h2 := fourS_len sh es es.length
    exact ⟨Nat.le_trans h2.1 h1, Nat.le_trans h2.2 h1⟩
  · exact ⟨by simp, by simp⟩

theorem Elems.slice {w : World} {B : Nat} {v : Value} {es : List El} (h : Elems w B v es) : ∃ a c, v = .slice a es.length c := by
  rcases h.form with ⟨rfl, rfl⟩ | ⟨g, cap, rfl, _, _⟩
  · exact ⟨_, _, rfl⟩
  · exact ⟨_, _, rfl⟩

set_option maxRecDepth 100000 in
set_option maxHeartbeats 1000000 in
theorem fourthOf_any {w : World} {B : Nat} {v : Value} {es : List El} (sh : Bool) (hz : es.length ≤ 1048576) (hL : Elems w B v es) :
    Calls Try.prog 5 #[v, .bool sh] w fun e w' => ∃ v v', e = .returned (.tuple #[v, v', .bool (okF es)]) ∧ Ints w' w.heap.size v (fA sh es) ∧ Elems w' w.heap.size v' (eA sh es) ∧ Below w.heap.size w w' := by
  have F := fourth_any sh hz hL
  obtain ⟨a, c, rfl⟩ := hL.slice
  unfold fA eA
  by_cases h : es.length ≤ 1000
  · have h2 : ¬ (1000 : Int) < (es.length : Int) := by omega
    rw [show okF es = true from decide_eq_true h, if_pos rfl, if_pos rfl]
    clear hL
    go_enter Try.func5, Try.ntmps5
    go_wp2_with fail
    refine F.mono ?_
    rintro e w1 ⟨v1, v2, rfl, i1, i2, b1⟩
    clear F
    go_wp2
    go_ret3
    exact ⟨_, _, rfl, i1, i2, b1⟩
  · have h2 : (1000 : Int) < (es.length : Int) := by omega
    rw [show okF es = false from decide_eq_false h, if_neg (by simp), if_neg (by simp)]
    clear hL F
    go_enter Try.func5, Try.ntmps5
    go_wp2
    go_ret3
    exact ⟨_, _, rfl, World.ownsRow_nil _ _ _ _, World.ownsRow_nil _ _ _ _, Below.refl _ _⟩

theorem row_apart {u u' : World} {B e size n : Nat} {v vx : Value} {xs : List Value} (h : u.ownsRow B e size v n xs) (hg : u.grownBy u' vx.ownBlock) (hx : ∀ g, vx.ownBlock = some g → g < B) : u'.ownsRow B e size v n xs :=
  World.ownsRow.kept h hg (by
    cases c : v.ownBlock with
    | none => exact .inl rfl
    | some g =>
      refine .inr fun d => ?_
      have h1 := (World.ownsRow.lt h g c).1
      have h2 := hx g d.symm
      omega)

theorem grown_base {w u u' : World} {B : Nat} {v : Value} (h : Below B w u) (hg : u.grownBy u' v.ownBlock) (hB : B ≤ u.heap.size) (hv : ∀ g, v.ownBlock = some g → B ≤ g) : Below B w u' := Below.grown h hg hB hv

set_option maxRecDepth 100000 in
set_option maxHeartbeats 8000000 in
theorem fourthOf_walk (w : World) (a : Option Addr) (len cap : Nat) (es : List El) (sh : Bool) (hA : ArgEls w a len cap es)
    (I : ∀ (u : World) (B : Nat) (v : Value), Below w.heap.size w u → Elems u B v es → es.length ≤ 1048576 → Calls Try.prog 7 #[v, .bool sh] u fun e w' => ∃ v v', e = .returned (.tuple #[v, v', .bool (okF es)]) ∧ Ints w' u.heap.size v (fA sh es) ∧ Elems w' u.heap.size v' (eA sh es) ∧ Below u.heap.size u w') :
    Calls Try.prog 3 #[.slice a len cap, .bool sh] w fun e w' => e = .returned (.bool true) ∧ Below w.heap.size w w' := by
  have hmx : len ≤ 9223372036854775807 := by have h1 := hA.2.1; have h2 := hA.2.2.1; unfold maxLen at h2; omega
  have S := szEls_any w a len cap 1048576 (by omega) (by omega) hmx
  by_cases hneg : (1048576 : Int) - (len : Int) < 0
  · rw [if_pos hneg] at S
    clear I hA
    go_enter Try.func3, Try.ntmps3
    go_wp2_with fail
    refine S.mono ?_
    rintro e w1 ⟨rfl, rfl⟩
    clear S
    go_wp2
    go_ret
    exact ⟨rfl, Below.refl _ _⟩
  rw [if_neg hneg] at S
  have hle : len ≤ 1048576 := by omega
  have hel : es.length ≤ 1048576 := by have := hA.1; omega
  have T := fun (u : World) (hu : Below w.heap.size w u) => toEls_any w u a len cap es hA hu hle
  have hfl := fA_len sh es
  have SP := fun (u : World) (B : Nat) (v : Value) (h : Elems u B v es) => fourthOf_any sh hel h
  have I2 := fun (u : World) (B : Nat) (v : Value) (hu : Below w.heap.size w u) (h : Elems u B v es) => I u B v hu h hel
  obtain ⟨hf1, hf2⟩ := hfl
  generalize fA sh es = fl at *
  generalize eA sh es = el at *
  generalize okF es = ok at *
  have HI : Hid _ := I2
  have HT : Hid _ := T
  have HSP : Hid _ := SP
  clear I I2 T SP hA
  go_enter Try.func3, Try.ntmps3
  go_wp2_with fail
  refine S.mono ?_
  rintro e w0 ⟨rfl, hw0⟩
  obtain rfl : w = w0 := hw0.symm
  clear S
  go_wp2_with fail
  refine (HT.out _ (Below.refl _ _)).mono ?_
  rintro e w1 ⟨g1, rfl, i1, b1⟩
  go_wp2_with fail
  refine (HSP.out _ _ _ i1).mono ?_
  rintro e w2 ⟨s0, s1, rfl, is0, is1, b2⟩
  have c2 := b1.trans (b2.mono b1.size)
  clear i1 b2 b1 HSP
  go_wp2_with fail
  refine (HT.out _ c2).mono ?_
  rintro e w3 ⟨g3, rfl, x3, b3⟩
  have c3 := c2.trans (b3.mono c2.size)
  go_wp2_with fail
  refine (HI.out _ _ _ c3 x3).mono ?_
  rintro e w4 ⟨r0, r1, rfl, ir0, ir1, b4⟩
  have c4 := c3.trans (b4.mono c3.size)
  have k24 := b3.trans (b4.mono b3.size)
  have hx3 : ∀ g, (Value.slice (some ⟨g3, 0, none⟩) len len).ownBlock = some g → w2.heap.size ≤ g ∧ g < w3.heap.size := fun g hg => World.ownsRow.lt x3 g hg
  have hw23 := b3.size
  have x4 := x3.below b4
  clear x3 b3 b4
  have Q4 := eq_any ir0 (is0.below k24)
  go_wp2_with fail
  refine Q4.mono ?_
  rintro e w5 ⟨rfl, n5, rfl⟩
  clear Q4
  have d5 : Below w4.heap.size w4 (w4.drewN n5) := below_drewN (Below.refl _ _) n5
  have E5 := eqE_any (by omega) (ir1.below d5) ((is1.below k24).below d5)
  go_wp2_with fail
  refine E5.mono ?_
  rintro e w6 ⟨rfl, b6⟩
  clear E5
  have d6 := d5.trans (b6.mono d5.size)
  have c6 := c4.trans (d6.mono c4.size)
  clear d5 b6
  go_wp2_with fail
  refine (HT.out _ c6).mono ?_
  rintro e w7 ⟨g7, rfl, y7, b7⟩
  have d7 := d6.trans (b7.mono d6.size)
  have E7 := eqE_any (by omega) (x4.below d7) y7
  clear b7 y7 d6 c6
  go_wp2_with fail
  refine E7.mono ?_
  rintro e w8 ⟨rfl, b8⟩
  have d8 := d7.trans (b8.mono d7.size)
  clear E7 b8 d7
  have M8 := markE_any (k0 := 1) (by omega) (by omega) hel (x4.below d8)
  go_wp2_with fail
  refine M8.mono ?_
  rintro e w9 ⟨rfl, x9, gr9⟩
  clear M8
  have k28 : Below w2.heap.size w2 w8 := k24.trans (d8.mono k24.size)
  have k29 : Below w2.heap.size w2 w9 := grown_base k28 gr9 k28.size (fun g hg => (hx3 g hg).1)
  have c8 : Below w.heap.size w w8 := c4.trans (d8.mono c4.size)
  have c9 : Below w.heap.size w w9 := grown_base c8 gr9 c8.size (fun g hg => Nat.le_trans c2.size (hx3 g hg).1)
  have r09 : Ints w9 w3.heap.size r0 fl := row_apart (ir0.below d8) gr9 (fun g hg => (hx3 g hg).2)
  have r19 : Elems w9 w3.heap.size r1 el := row_apart (ir1.below d8) gr9 (fun g hg => (hx3 g hg).2)
  clear gr9 x9 x4 ir0 ir1 d8 k28 c8 k24 c4
  have hkp : ¬ (1 : Int) + 4 * (es.length : Int) < 0 := by omega
  have Q9 := eq_any r09 (is0.below k29)
  go_wp2_with fail
  refine Q9.mono ?_
  rintro e w10 ⟨rfl, n10, rfl⟩
  clear Q9
  have d10 : Below w9.heap.size w9 (w9.drewN n10) := below_drewN (Below.refl _ _) n10
  have E10 := eqE_any (by omega) (r19.below d10) ((is1.below k29).below d10)
  go_wp2_with fail
  refine E10.mono ?_
  rintro e w11 ⟨rfl, b11⟩
  clear E10
  have d11 := d10.trans (b11.mono d10.size)
  clear d10 b11
  obtain ⟨m, hm⟩ : ∃ m, m = (1 : Int) + (fl.length : Int) := ⟨_, rfl⟩
  obtain ⟨en, hen⟩ : ∃ en, en = m + 4 * (el.length : Int) := ⟨_, rfl⟩
  have hmb : 0 ≤ m ∧ m ≤ 100000 := by omega
  have henb : ¬ en < 0 := by omega
  have hmn : ¬ m < 0 := by omega
  have M11 := markK_any (m := 1) (by omega) (by omega) (by omega) (r09.below d11)
  rw [← hm] at M11
  have HM : Hid (m = 1 + (fl.length : Int)) := hm
  have HEN : Hid (en = m + 4 * (el.length : Int)) := hen
  clear hm hen
  go_wp2_with fail
  refine M11.mono ?_
  rintro e w12 ⟨rfl, r012, gr12⟩
  clear M11
  have k211 : Below w2.heap.size w2 w11 := k29.trans (d11.mono k29.size)
  have c11 : Below w.heap.size w w11 := c9.trans (d11.mono c9.size)
  have hr0 : ∀ g, r0.ownBlock = some g → w3.heap.size ≤ g := fun g hg => (World.ownsRow.lt r09 g hg).1
  have hr1 : ∀ g, r1.ownBlock = some g → w3.heap.size ≤ g := fun g hg => (World.ownsRow.lt r19 g hg).1
  have k212 := grown_base k211 gr12 k211.size (fun g hg => Nat.le_trans hw23 (hr0 g hg))
  have c12 := grown_base c11 gr12 c11.size (fun g hg => Nat.le_trans c3.size (hr0 g hg))
  have r112 : Elems w12 w3.heap.size r1 el := World.ownsRow.kept (r19.below d11) gr12 (own_type (r19.below d11) (r09.below d11) (by decide))
  clear gr12 r09 r19 d11 k211 c11 k29 c9
  have M12 := markE_any (k0 := m) hmb.1 (by omega) (by omega) r112
  rw [← HEN.out] at M12
  go_wp2_with fail
  refine M12.mono ?_
  rintro e w13 ⟨rfl, r113, gr13⟩
  clear M12
  have k213 := grown_base k212 gr13 k212.size (fun g hg => Nat.le_trans hw23 (hr1 g hg))
  have c13 := grown_base c12 gr13 c12.size (fun g hg => Nat.le_trans c3.size (hr1 g hg))
  have r013 : Ints w13 w3.heap.size r0 (seqK 1 fl.length) := World.ownsRow.kept r012 gr13 (own_type r012 r112 (by decide))
  clear gr13 r012 r112 k212 c12
  have L13 := heldK_any (m := 1) (by omega) (by omega) (by omega) r013
  rw [← HM.out] at L13
  go_wp2_with fail
  refine L13.mono ?_
  rintro e w14 ⟨rfl, hw14⟩
  obtain rfl : w13 = w14 := hw14.symm
  clear L13
  have L14 := heldE_any (k0 := m) hmb.1 (by omega) (by omega) r113
  rw [← HEN.out] at L14
  go_wp2_with fail
  refine L14.mono ?_
  rintro e w15 ⟨rfl, hw15⟩
  obtain rfl : w13 = w15 := hw15.symm
  clear L14
  go_wp2_with fail
  refine (HT.out _ c13).mono ?_
  rintro e w16 ⟨g16, rfl, y16, b16⟩
  have c16 := c13.trans (b16.mono c13.size)
  go_wp2_with fail
  refine (HI.out _ _ _ c16 y16).mono ?_
  rintro e w17 ⟨q0, q1, rfl, iq0, iq1, b17⟩
  have d17 := b16.trans (b17.mono b16.size)
  have c17 := c13.trans (d17.mono c13.size)
  have k217 := k213.trans (d17.mono k213.size)
  clear b16 b17 y16 c16 HI HT
  have Q17 := eq_any iq0 (is0.below k217)
  go_wp2_with fail
  refine Q17.mono ?_
  rintro e w18 ⟨rfl, n18, rfl⟩
  clear Q17
  have d18 : Below w17.heap.size w17 (w17.drewN n18) := below_drewN (Below.refl _ _) n18
  have E18 := eqE_any (by omega) (iq1.below d18) ((is1.below k217).below d18)
  go_wp2_with fail
  refine E18.mono ?_
  rintro e w19 ⟨rfl, b19⟩
  clear E18
  have d19 := d18.trans (b19.mono d18.size)
  have e19 := d17.trans (d19.mono d17.size)
  have c19 := c13.trans (e19.mono c13.size)
  have L19 := heldK_any (m := 1) (by omega) (by omega) (by omega) (r013.below e19)
  rw [← HM.out] at L19
  clear d18 b19 d17 d19 iq0 iq1 k217 c17
  go_wp2_with fail
  refine L19.mono ?_
  rintro e w20 ⟨rfl, hw20⟩
  obtain rfl : w19 = w20 := hw20.symm
  clear L19
  have L20 := heldE_any (k0 := m) hmb.1 (by omega) (by omega) (r113.below e19)
  rw [← HEN.out] at L20
  go_wp2_with fail
  refine L20.mono ?_
  rintro e w21 ⟨rfl, hw21⟩
  obtain rfl : w19 = w21 := hw21.symm
  clear L20
  go_wp2
  go_ret
  exact ⟨rfl, c19⟩
end Go.Proofs.Ytcmanfcgoapjjaf
