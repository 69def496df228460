/- The walk of the law FnExactPagesOf. -/
import Derived.Test.YtecgkekafbimaaaPages6
import Derived.Test.YtecgkekafbimaaaMarkRw
import Derived.Test.YtecgkekafbimaaaHeldT
import Derived.Test.YtecgkekafbimaaaEqT6
import Derived.Test.YtecgkekafbimaaaEqRw
namespace Go.Proofs.Ytecgkekafbimaaa
open Go.RowKit

theorem rwsC_keep {W W' : World} {B : Nat} {v : Value} {l : List Rw} {r : Option Nat} (h : Rws W B v l) (hg : W.grownBy W' r) (hn : ∀ j, v.ownBlock = some j → r ≠ some j) : Rws W' B v l :=
  World.ownsRow.kept h hg (by
    cases c : v.ownBlock with
    | none => exact .inl rfl
    | some j => exact .inr fun e => hn j c e.symm)

theorem strsP_keep {W W' : World} {B : Nat} {v : Value} {l : List ByteArray} {r : Option Nat} (h : Strs W B v l) (hg : W.grownBy W' r) (hn : ∀ j, v.ownBlock = some j → r ≠ some j) : Strs W' B v l :=
  World.ownsRow.kept h hg (by
    cases c : v.ownBlock with
    | none => exact .inl rfl
    | some j => exact .inr fun e => hn j c e.symm)

theorem pagesA_bd (l : List Rw) : ((pagesA l).getD []).length ≤ 40 := by
  cases h : cutA l with
  | none => rw [pagesA_none h]; exact Nat.zero_le _
  | some gs =>
    rw [pagesA_some h]
    have := (cutA_ok h).1
    simpa using this

set_option maxRecDepth 100000 in
set_option maxHeartbeats 8000000 in
theorem pagesOf_walk (w : World) (a : Option Addr) (len cap : Nat) (es : List Rw) (hA : ArgRws w a len cap es) :
    Calls Try.prog 4 #[.slice a len cap] w fun e w' => e = .returned (.bool true) ∧ Below w.heap.size w w' := by
  have SZ := szRows_any w w a len cap es 1048576 (by omega) (by omega) hA (Below.refl _ _)
  have HA : Hid (ArgRws w a len cap es) := hA
  clear hA
  by_cases hneg : szRA es 1048576 < 0
  · generalize szRA es 1048576 = sz at *
    go_enter Try.func4, Try.ntmps4
    go_wp2_with fail
    refine SZ.mono ?_
    rintro e w2 ⟨rfl, b2⟩
    clear SZ
    go_wp2
    go_ret
    exact ⟨rfl, b2⟩
  · have hbd := szRA_bd (es := es) (by omega)
    have hle : len ≤ 1048576 := by have := HA.out.1; omega
    have HLEN : Hid (es.length = len) := HA.out.1
    have HEL : Hid (es.length ≤ 1048576) := hbd.1
    clear hbd
    generalize szRA es 1048576 = sz at *
    have HT : Hid (∀ (u : World), Below w.heap.size w u → Calls Try.prog 7 #[.slice a len cap] u fun e w' => ∃ g, e = .returned (.slice (some ⟨g, 0, none⟩) len len) ∧ Rws w' u.heap.size (.slice (some ⟨g, 0, none⟩) len len) es ∧ Below u.heap.size u w') := fun u hu => toRows_any w u a len cap es HA.out hu hle
    obtain ⟨gs, HGS⟩ : ∃ gs, Hid ((pagesA es).getD [] = gs) := ⟨_, rfl⟩
    obtain ⟨ok, HOK⟩ : ∃ ok, Hid ((pagesA es).isSome = ok) := ⟨_, rfl⟩
    have hg40 := pagesA_bd es
    rw [HGS.out] at hg40
    have HSP : Hid (∀ (u : World) (B g : Nat), Rws u B (.slice (some ⟨g, 0, none⟩) len len) es → Calls Try.prog 14 #[.slice (some ⟨g, 0, none⟩) len len] u fun e w' => ∃ v', e = .returned (.tuple #[v', .bool ok]) ∧ Strs w' u.heap.size v' gs ∧ Below u.heap.size u w') := fun u B g h => by
      have h' : Rws u B (.slice (some ⟨g, 0, none⟩) es.length len) es := by rw [HLEN.out]; exact h
      have := specPO_any (c := len) (rws_sl h') (by rw [HLEN.out]; omega) hle
      rw [HLEN.out, HOK.out, HGS.out] at this
      exact this
    have HIM : Hid (∀ (u : World) (B g : Nat), Rws u B (.slice (some ⟨g, 0, none⟩) len len) es → Calls Try.prog 15 #[.slice (some ⟨g, 0, none⟩) len len] u fun e w' => ∃ v', e = .returned (.tuple #[v', .bool ok]) ∧ Strs w' u.heap.size v' gs ∧ Below u.heap.size u w') := fun u B g h => by
      have h' : Rws u B (.slice (some ⟨g, 0, none⟩) es.length len) es := by rw [HLEN.out]; exact h
      have := implPO_any (c := len) (rws_sl h') (by rw [HLEN.out]; omega) hle
      rw [HLEN.out, HOK.out, HGS.out] at this
      exact this
    have EQN : Hid (∀ (u : World) (B B' : Nat) (v v' : Value), Strs u B v gs → Strs u B' v' gs → Calls Try.prog 16 #[v, v'] u fun e w' => e = .returned (.bool true) ∧ Below u.heap.size u w') := fun u B B' v v' h h' => eqT6_any (by omega) h h'
    have MKN : Hid (∀ (u : World) (B : Nat) (v : Value), Strs u B v gs → Calls Try.prog 17 #[v, .int .i64 1] u fun e w' => e = .returned (.int .i64 ((1 + gs.length : Nat) : Int)) ∧ Strs w' B v (seqT 1 gs.length) ∧ u.grownBy w' v.ownBlock) := fun u B v h => markT_any (m := 1) (by omega) (by omega) (by omega) h
    have HDN : Hid (∀ (u : World) (B : Nat) (v : Value), Strs u B v (seqT 1 gs.length) → Calls Try.prog 18 #[v, .int .i64 1] u fun e w' => e = .returned (.int .i64 ((1 + gs.length : Nat) : Int)) ∧ Below u.heap.size u w') := fun u B v h => heldT_any (m := 1) (n := gs.length) (by omega) (by omega) (by omega) h
    obtain ⟨tt, HTT⟩ : ∃ tt : Nat, Hid (1 + gs.length = tt) := ⟨_, rfl⟩
    have htt : tt ≤ 1000000 := by rw [← HTT.out]; omega
    rw [HTT.out] at MKN HDN
    clear HA HGS HOK hg40 HTT
    go_enter Try.func4, Try.ntmps4
    go_wp2_with fail
    refine SZ.mono ?_
    rintro e w1 ⟨rfl, b1⟩
    have T1 := HT.out w1 b1
    have HB1 : Hid (Below w.heap.size w w1) := b1
    clear SZ b1
    go_wp2_with fail
    refine T1.mono ?_
    rintro e w2 ⟨g2, rfl, s2, b2⟩
    have HB2 : Hid (Below w.heap.size w w2) := HB1.out.trans (b2.mono HB1.out.size)
    have SP := HSP.out w2 _ _ s2
    clear T1 s2 b2 HB1
    go_wp2_with fail
    refine SP.mono ?_
    rintro e w3 ⟨v3, rfl, r3, b3⟩
    obtain ⟨a3, c3, rfl⟩ := strs_formB r3
    have HB3 : Hid (Below w.heap.size w w3) := HB2.out.trans (b3.mono HB2.out.size)
    have HW3 : Hid (Strs w3 w2.heap.size (.slice a3 gs.length c3) gs) := r3
    have HWB : Hid (∀ j, (Value.slice a3 gs.length c3).ownBlock = some j → j < w3.heap.size) := fun j hj => (World.ownsRow.lt r3 j hj).2
    have T3 := HT.out w3 HB3.out
    clear SP b3 r3 HB2
    go_wp2_with fail
    refine T3.mono ?_
    rintro e w4 ⟨g4, rfl, s4, b4⟩
    have HB4 : Hid (Below w.heap.size w w4) := HB3.out.trans (b4.mono HB3.out.size)
    have HS4 : Hid (Rws w4 w3.heap.size (.slice (some ⟨g4, 0, none⟩) len len) es) := s4
    have HW4 : Hid (Strs w4 w2.heap.size (.slice a3 gs.length c3) gs) := HW3.out.below b4
    have hg4 := World.ownsRow.lt s4 g4 rfl
    have hw3 := HB3.out.size
    have hw34 := b4.size
    have IM := HIM.out w4 _ _ s4
    clear T3 s4 b4 HB3 HW3
    go_wp2_with fail
    refine IM.mono ?_
    rintro e w5 ⟨v5, rfl, r5, b5⟩
    obtain ⟨a5, c5, rfl⟩ := strs_formB r5
    have HB5 : Hid (Below w.heap.size w w5) := HB4.out.trans (b5.mono HB4.out.size)
    have HS5 : Hid (Rws w5 w3.heap.size (.slice (some ⟨g4, 0, none⟩) len len) es) := HS4.out.below b5
    have HW5 : Hid (Strs w5 w2.heap.size (.slice a3 gs.length c3) gs) := HW4.out.below b5
    have HR5 : Hid (Strs w5 w4.heap.size (.slice a5 gs.length c5) gs) := r5
    have EQ := EQN.out w5 _ _ _ _ r5 HW5.out
    have hw45 := b5.size
    clear IM b5 r5 HB4 HS4 HW4
    go_wp2_with fail
    refine EQ.mono ?_
    rintro e w6 ⟨rfl, b6⟩
    have HB6 : Hid (Below w.heap.size w w6) := HB5.out.trans (b6.mono HB5.out.size)
    have HS6 : Hid (Rws w6 w3.heap.size (.slice (some ⟨g4, 0, none⟩) len len) es) := HS5.out.below b6
    have HW6 : Hid (Strs w6 w2.heap.size (.slice a3 gs.length c3) gs) := HW5.out.below b6
    have HR6 : Hid (Strs w6 w4.heap.size (.slice a5 gs.length c5) gs) := HR5.out.below b6
    have T6 := HT.out w6 HB6.out
    clear EQ b6 HB5 HS5 HW5 HR5
    go_wp2_with fail
    refine T6.mono ?_
    rintro e w7 ⟨g7, rfl, s7, b7⟩
    have HB7 : Hid (Below w.heap.size w w7) := HB6.out.trans (b7.mono HB6.out.size)
    have HS7 : Hid (Rws w7 w3.heap.size (.slice (some ⟨g4, 0, none⟩) len len) es) := HS6.out.below b7
    have HW7 : Hid (Strs w7 w2.heap.size (.slice a3 gs.length c3) gs) := HW6.out.below b7
    have HR7 : Hid (Strs w7 w4.heap.size (.slice a5 gs.length c5) gs) := HR6.out.below b7
    have EQ : Calls Try.prog 10 #[.slice (some ⟨g4, 0, none⟩) len len, .slice (some ⟨g7, 0, none⟩) len len] w7 fun e w' => e = .returned (.bool true) ∧ Below w7.heap.size w7 w' := eqR_any HEL.out HS7.out s7
    clear T6 s7 b7 HB6 HS6 HW6 HR6
    go_wp2_with fail
    refine EQ.mono ?_
    rintro e w8 ⟨rfl, b8⟩
    have HB8 : Hid (Below w.heap.size w w8) := HB7.out.trans (b8.mono HB7.out.size)
    have HS8 : Hid (Rws w8 w3.heap.size (.slice (some ⟨g4, 0, none⟩) len len) es) := HS7.out.below b8
    have HW8 : Hid (Strs w8 w2.heap.size (.slice a3 gs.length c3) gs) := HW7.out.below b8
    have HR8 : Hid (Strs w8 w4.heap.size (.slice a5 gs.length c5) gs) := HR7.out.below b8
    have MT : Calls Try.prog 11 #[.slice (some ⟨g4, 0, none⟩) len len, .int .i64 1] w8 _ := markR_any (m := 1) (by omega) (by omega) HEL.out HS8.out
    rw [HLEN.out] at MT
    clear EQ b8 HB7 HS7 HW7 HR7
    obtain ⟨kq, hkq⟩ : ∃ kq, kq = 1 + 3 * len := ⟨_, rfl⟩
    rw [← hkq] at MT
    have hkq0 : ¬ (kq : Int) < 0 := by omega
    have hkq1 : kq ≤ 4000000 := by omega
    clear hkq
    go_wp2_with fail
    refine MT.mono ?_
    rintro e w9 ⟨rfl, _, g9⟩
    have g9' : w8.grownBy w9 (some g4) := g9
    have HB9 : Hid (Below w.heap.size w w9) := Below.grown HB8.out g9' HB8.out.size (fun j hj => by have := Option.some.inj hj; omega)
    have HW9 : Hid (Strs w9 w2.heap.size (.slice a3 gs.length c3) gs) := strsP_keep HW8.out g9' (fun j hj e => by have := Option.some.inj e; have := HWB.out j hj; omega)
    have HR9 : Hid (Strs w9 w4.heap.size (.slice a5 gs.length c5) gs) := strsP_keep HR8.out g9' (fun j hj e => by have := Option.some.inj e; have := (World.ownsRow.lt HR8.out j hj).1; omega)
    have EQ := EQN.out w9 _ _ _ _ HR9.out HW9.out
    clear MT g9 g9' HB8 HS8 HW8 HR8
    go_wp2_with fail
    refine EQ.mono ?_
    rintro e w10 ⟨rfl, b10⟩
    have HB10 : Hid (Below w.heap.size w w10) := HB9.out.trans (b10.mono HB9.out.size)
    have HW10 : Hid (Strs w10 w2.heap.size (.slice a3 gs.length c3) gs) := HW9.out.below b10
    have HR10 : Hid (Strs w10 w4.heap.size (.slice a5 gs.length c5) gs) := HR9.out.below b10
    have MK := MKN.out w10 _ _ HR10.out
    clear EQ b10 HB9 HW9 HR9
    go_wp2_with fail
    refine MK.mono ?_
    rintro e w11 ⟨rfl, r11, m11⟩
    have HR11 : Hid (Strs w11 w4.heap.size (.slice a5 gs.length c5) (seqT 1 gs.length)) := r11
    have HW11 : Hid (Strs w11 w2.heap.size (.slice a3 gs.length c3) gs) := strsP_keep HW10.out m11 (fun j hj e => by have h5 := (World.ownsRow.lt HR10.out j e).1; have h6 := HWB.out j hj; omega)
    have HB11 : Hid (Below w.heap.size w w11) := Below.grown HB10.out m11 HB10.out.size (fun j hj => by have h5 := (World.ownsRow.lt HR10.out j hj).1; omega)
    have HD := HDN.out w11 _ _ HR11.out
    have htt0 : ¬ (tt : Int) < 0 := by omega
    clear MK r11 m11 HB10 HW10 HR10
    go_wp2_with fail
    refine HD.mono ?_
    rintro e w12 ⟨rfl, b12⟩
    have HR12 : Hid (Strs w12 w4.heap.size (.slice a5 gs.length c5) (seqT 1 gs.length)) := HR11.out.below b12
    have HW12 : Hid (Strs w12 w2.heap.size (.slice a3 gs.length c3) gs) := HW11.out.below b12
    have HB12 : Hid (Below w.heap.size w w12) := HB11.out.trans (b12.mono HB11.out.size)
    have T12 := HT.out w12 HB12.out
    clear HD b12 HR11 HW11 HB11
    go_wp2_with fail
    refine T12.mono ?_
    rintro e w13 ⟨g13, rfl, s13, b13⟩
    have HR13 : Hid (Strs w13 w4.heap.size (.slice a5 gs.length c5) (seqT 1 gs.length)) := HR12.out.below b13
    have HW13 : Hid (Strs w13 w2.heap.size (.slice a3 gs.length c3) gs) := HW12.out.below b13
    have HB13 : Hid (Below w.heap.size w w13) := HB12.out.trans (b13.mono HB12.out.size)
    have IM := HIM.out w13 _ _ s13
    clear T12 b13 s13 HR12 HW12 HB12
    go_wp2_with fail
    refine IM.mono ?_
    rintro e w14 ⟨v14, rfl, r14, b14⟩
    obtain ⟨a14, c14, rfl⟩ := strs_formB r14
    have HR14 : Hid (Strs w14 w4.heap.size (.slice a5 gs.length c5) (seqT 1 gs.length)) := HR13.out.below b14
    have HB14 : Hid (Below w.heap.size w w14) := HB13.out.trans (b14.mono HB13.out.size)
    have EQ := EQN.out w14 _ _ _ _ r14 (HW13.out.below b14)
    clear IM r14 b14 HR13 HW13 HB13
    go_wp2_with fail
    refine EQ.mono ?_
    rintro e w15 ⟨rfl, b15⟩
    have HB15 : Hid (Below w.heap.size w w15) := HB14.out.trans (b15.mono HB14.out.size)
    have HD := HDN.out w15 _ _ (HR14.out.below b15)
    clear EQ b15 HR14 HB14
    go_wp2_with fail
    refine HD.mono ?_
    rintro e w16 ⟨rfl, b16⟩
    have HB16 : Hid (Below w.heap.size w w16) := HB15.out.trans (b16.mono HB15.out.size)
    clear HD b16 HB15
    go_wp2
    go_ret
    exact ⟨rfl, HB16.out⟩
end Go.Proofs.Ytecgkekafbimaaa
