/- The walk of the law FnExactRowsFrom. -/
import Derived.Test.YtggfdgidfpkbaaaDoorFrom6
import Derived.Test.YtggfdgidfpkbaaaDoorAStrs
import Derived.Test.YtggfdgidfpkbaaaDoorMarkRw
import Derived.Test.YtggfdgidfpkbaaaDoorHeldRw
import Derived.Test.YtggfdgidfpkbaaaDoorEqRw
namespace Go.Proofs.YtggfdgidfpkbaaaDoor
open Go.RowKit

theorem rwsF_keep {W W' : World} {B : Nat} {v : Value} {l : List Rw} {r : Option Nat} (h : Rws W B v l) (hg : W.grownBy W' r) (hn : ∀ j, v.ownBlock = some j → r ≠ some j) : Rws W' B v l :=
  World.ownsRow.kept h hg (by
    cases c : v.ownBlock with
    | none => exact .inl rfl
    | some j => exact .inr fun e => hn j c e.symm)

theorem rowsF_len (ss : List ByteArray) (lo hi : ByteArray) : (rowsF ss lo hi).length ≤ 2400 := by
  unfold rowsF
  cases h : bookF ss with
  | none => simp
  | some gs =>
    obtain ⟨h1, h2⟩ := bookF_is h
    have h3 := fromK_len lo hi gs h2 gs.length
    show (fromK lo hi gs gs.length).length ≤ 2400
    omega

set_option maxRecDepth 100000 in
set_option maxHeartbeats 8000000 in
theorem rowsFrom_walk (w : World) (a : Option Addr) (len cap : Nat) (ss : List ByteArray) (lo hi : ByteArray) (hA : ArgStrs w a len cap ss) (hlo : lo.size ≤ maxLen) (hhi : hi.size ≤ maxLen) {ty : TypeId} {pv : Value} (hg : ErrG w ty pv) :
    Calls Tryd.prog 5 #[.slice a len cap, .string lo, .string hi] w fun e w' => e = .returned (.bool true) ∧ Below w.heap.size w w' := by
  unfold maxLen at hlo hhi
  have SZ : Calls Tryd.prog 14 #[.slice a len cap, .int .i64 1048576] w fun e w' => e = .returned (.int .i64 (szSA ss 1048576)) ∧ Below w.heap.size w w' :=
    (szStrs_any w w a len cap ss 1048576 (by omega) (by omega) hA (Below.refl _ _)).mono fun e w' h => ⟨h.1, by rw [h.2]; exact Below.refl _ _⟩
  have hlen := hA.1
  have HA : Hid (ArgStrs w a len cap ss) := hA
  have HG : Hid (ErrG w ty pv) := hg
  have hgl := hg.lt
  clear hA hg
  by_cases h1 : lo.size ≤ 1048576
  · have n1 : ¬ (1048576 : Int) < (lo.size : Int) := by omega
    by_cases h2 : hi.size ≤ 1048576
    · have n2 : ¬ (1048576 : Int) < (hi.size : Int) := by omega
      by_cases hneg : szSA ss 1048576 < 0
      · generalize szSA ss 1048576 = sz at *
        go_enter Tryd.func5, Tryd.ntmps5
        go_wp2_with fail
        refine SZ.mono ?_
        rintro e w1 ⟨rfl, b1⟩
        clear SZ
        go_wp2
        go_ret
        exact ⟨rfl, b1⟩
      · have hbd := szSA_bd (ss := ss) (left := 1048576) (by omega)
        have hsl : ss.length ≤ 1048576 := by omega
        have hln : len ≤ 1048576 := by omega
        have HZ : Hid (∀ s ∈ ss, s.size ≤ 1048576) := fun s hs => by have := hbd.2 s hs; omega
        have HT : Hid (∀ (u : World), Below w.heap.size w u → Calls Tryd.prog 16 #[.slice a len cap] u fun e w' => ∃ g, e = .returned (.slice (some ⟨g, 0, none⟩) len len) ∧ Strs w' u.heap.size (.slice (some ⟨g, 0, none⟩) len len) ss ∧ Below u.heap.size u w') := fun u hu => toStrs_any w u a len cap ss HA.out hu hln
        have hrl := rowsF_len ss lo hi
        obtain ⟨l, HL⟩ : ∃ l, Hid (rowsF ss lo hi = l) := ⟨_, rfl⟩
        obtain ⟨bk, HBK⟩ : ∃ bk, Hid ((bookF ss).isSome = bk) := ⟨_, rfl⟩
        rw [HL.out] at hrl
        have HSP : Hid (∀ (u : World) (B : Nat) (v : Value), Strs u B v ss → Calls Tryd.prog 20 #[v, .string lo, .string hi] u fun e w' => ∃ v', e = .returned (.tuple #[v', .bool bk]) ∧ Rws w' u.heap.size v' l ∧ Below u.heap.size u w') := fun u B v h => by
          have := specRF_any lo hi h HZ.out hsl
          rw [HL.out, HBK.out] at this
          exact this
        have HIM : Hid (∀ (u : World) (B : Nat) (v : Value), Below w.heap.size w u → Strs u B v ss → Calls Tryd.prog 21 #[v, .string lo, .string hi] u fun e w' => ∃ v', e = .returned (.tuple #[v', .bool bk]) ∧ Rws w' u.heap.size v' l ∧ Below u.heap.size u w') := fun u B v hu h => by
          have := implRF_any lo hi h HZ.out hsl (show ErrG u ty pv from (hu.cell (p := ⟨0, 0, none⟩) hgl).trans HG.out)
          rw [HL.out, HBK.out] at this
          exact this
        have HLL : Hid (l.length ≤ 1048576) := by show _ ≤ _; omega
        clear hbd HA HL HBK HG HZ
        generalize szSA ss 1048576 = sz at *
        go_enter Tryd.func5, Tryd.ntmps5
        go_wp2_with fail
        refine SZ.mono ?_
        rintro e w1 ⟨rfl, b1⟩
        have T1 := HT.out w1 b1
        have HB1 : Hid (Below w.heap.size w w1) := b1
        clear SZ b1
        go_wp2_with fail
        refine T1.mono ?_
        rintro e w2 ⟨g2, rfl, s2, b2⟩
        have HB2 : Hid (Below w.heap.size w w2) := HB1.out.trans (b2.mono HB1.out.size)
        have SP := HSP.out w2 _ _ s2
        clear T1 s2 b2 HB1
        go_wp2_with fail
        refine SP.mono ?_
        rintro e w3 ⟨v3, rfl, r3, b3⟩
        obtain ⟨a3, c3, rfl⟩ := rw_form r3
        have HB3 : Hid (Below w.heap.size w w3) := HB2.out.trans (b3.mono HB2.out.size)
        have HW3 : Hid (Rws w3 w2.heap.size (.slice a3 l.length c3) l) := r3
        have HWB : Hid (∀ j, (Value.slice a3 l.length c3).ownBlock = some j → j < w3.heap.size) := fun j hj => (World.ownsRow.lt r3 j hj).2
        have T3 := HT.out w3 HB3.out
        clear SP b3 r3 HB2
        go_wp2_with fail
        refine T3.mono ?_
        rintro e w4 ⟨g4, rfl, s4, b4⟩
        have HB4 : Hid (Below w.heap.size w w4) := HB3.out.trans (b4.mono HB3.out.size)
        have HS4 : Hid (Strs w4 w3.heap.size (.slice (some ⟨g4, 0, none⟩) len len) ss) := s4
        have HW4 : Hid (Rws w4 w2.heap.size (.slice a3 l.length c3) l) := HW3.out.below b4
        have hg4 := World.ownsRow.lt s4 g4 rfl
        have hw3 := HB3.out.size
        have IM := HIM.out w4 _ _ HB4.out s4
        clear T3 s4 b4 HB3 HW3
        go_wp2_with fail
        refine IM.mono ?_
        rintro e w5 ⟨v5, rfl, r5, b5⟩
        obtain ⟨a5, c5, rfl⟩ := rw_form r5
        have HB5 : Hid (Below w.heap.size w w5) := HB4.out.trans (b5.mono HB4.out.size)
        have HS5 : Hid (Strs w5 w3.heap.size (.slice (some ⟨g4, 0, none⟩) len len) ss) := HS4.out.below b5
        have HW5 : Hid (Rws w5 w2.heap.size (.slice a3 l.length c3) l) := HW4.out.below b5
        have HR5 : Hid (Rws w5 w4.heap.size (.slice a5 l.length c5) l) := r5
        have EQ := eqR_any HLL.out r5 HW5.out
        clear IM b5 r5 HB4 HS4 HW4
        go_wp2_with fail
        refine EQ.mono ?_
        rintro e w6 ⟨rfl, b6⟩
        have HB6 : Hid (Below w.heap.size w w6) := HB5.out.trans (b6.mono HB5.out.size)
        have HS6 : Hid (Strs w6 w3.heap.size (.slice (some ⟨g4, 0, none⟩) len len) ss) := HS5.out.below b6
        have HW6 : Hid (Rws w6 w2.heap.size (.slice a3 l.length c3) l) := HW5.out.below b6
        have HR6 : Hid (Rws w6 w4.heap.size (.slice a5 l.length c5) l) := HR5.out.below b6
        have T6 := HT.out w6 HB6.out
        clear EQ b6 HB5 HS5 HW5 HR5
        go_wp2_with fail
        refine T6.mono ?_
        rintro e w7 ⟨g7, rfl, s7, b7⟩
        have HB7 : Hid (Below w.heap.size w w7) := HB6.out.trans (b7.mono HB6.out.size)
        have HS7 : Hid (Strs w7 w3.heap.size (.slice (some ⟨g4, 0, none⟩) len len) ss) := HS6.out.below b7
        have HW7 : Hid (Rws w7 w2.heap.size (.slice a3 l.length c3) l) := HW6.out.below b7
        have HR7 : Hid (Rws w7 w4.heap.size (.slice a5 l.length c5) l) := HR6.out.below b7
        have EQ : Calls Tryd.prog 19 #[.slice (some ⟨g4, 0, none⟩) len len, .slice (some ⟨g7, 0, none⟩) len len] w7 fun e w' => e = .returned (.bool true) ∧ Below w7.heap.size w7 w' :=
          (eqStr_any hsl HS7.out s7).mono fun e w' h => ⟨h.1, by obtain ⟨n, hn⟩ := h.2; rw [hn]; exact below_drewN6 (Below.refl _ _) n⟩
        clear T6 s7 b7 HB6 HS6 HW6 HR6
        go_wp2_with fail
        refine EQ.mono ?_
        rintro e w8 ⟨rfl, b8⟩
        have HB8 : Hid (Below w.heap.size w w8) := HB7.out.trans (b8.mono HB7.out.size)
        have HS8 : Hid (Strs w8 w3.heap.size (.slice (some ⟨g4, 0, none⟩) len len) ss) := HS7.out.below b8
        have HW8 : Hid (Rws w8 w2.heap.size (.slice a3 l.length c3) l) := HW7.out.below b8
        have HR8 : Hid (Rws w8 w4.heap.size (.slice a5 l.length c5) l) := HR7.out.below b8
        have MT : Calls Tryd.prog 22 #[.slice (some ⟨g4, 0, none⟩) len len, .int .i64 1] w8 _ := markT_any (m := 1) (by omega) (by omega) hsl HS8.out
        clear EQ b8 HB7 HS7 HW7 HR7
        go_wp2_with fail
        refine MT.mono ?_
        rintro e w9 ⟨rfl, _, g9⟩
        have g9' : w8.grownBy w9 (some g4) := g9
        have HB9 : Hid (Below w.heap.size w w9) := Below.grown HB8.out g9' HB8.out.size (fun j hj => by have := Option.some.inj hj; omega)
        have HW9 : Hid (Rws w9 w2.heap.size (.slice a3 l.length c3) l) := rwsF_keep HW8.out g9' (fun j hj e => by have := Option.some.inj e; have := HWB.out j hj; omega)
        have HR9 : Hid (Rws w9 w4.heap.size (.slice a5 l.length c5) l) := rwsF_keep HR8.out g9' (fun j hj e => by have := Option.some.inj e; have := (World.ownsRow.lt HR8.out j hj).1; omega)
        have EQ := eqR_any HLL.out HR9.out HW9.out
        have hps : ¬ ((1 + ss.length : Nat) : Int) < 0 := by omega
        clear MT g9 g9' HB8 HS8 HW8 HR8
        go_wp2_with fail
        refine EQ.mono ?_
        rintro e w10 ⟨rfl, b10⟩
        have HB10 : Hid (Below w.heap.size w w10) := HB9.out.trans (b10.mono HB9.out.size)
        have HW10 : Hid (Rws w10 w2.heap.size (.slice a3 l.length c3) l) := HW9.out.below b10
        have HR10 : Hid (Rws w10 w4.heap.size (.slice a5 l.length c5) l) := HR9.out.below b10
        have MK : Calls Tryd.prog 12 #[.slice a5 l.length c5, .int .i64 1] _ _ := markR_any (m := 1) (by omega) (by omega) HLL.out HR10.out
        clear EQ b10 HB9 HW9 HR9
        go_wp2_with fail
        refine MK.mono ?_
        rintro e w11 ⟨rfl, r11, g11⟩
        have HR11 : Hid (Rws w11 w4.heap.size (.slice a5 l.length c5) (seqR 1 l.length)) := r11
        have hw34 : w3.heap.size ≤ w4.heap.size := by omega
        have HW11 : Hid (Rws w11 w2.heap.size (.slice a3 l.length c3) l) := rwsF_keep HW10.out g11 (fun j hj e => by have h5 := (World.ownsRow.lt HR10.out j e).1; have h6 := HWB.out j hj; omega)
        have HB11 : Hid (Below w.heap.size w w11) := Below.grown HB10.out g11 HB10.out.size (fun j hj => by have h5 := (World.ownsRow.lt HR10.out j hj).1; omega)
        have HD : Calls Tryd.prog 13 #[.slice a5 l.length c5, .int .i64 1] _ _ := heldR_any (m := 1) (n := l.length) (by omega) (by omega) HLL.out HR11.out
        clear MK r11 g11 HB10 HW10 HR10
        obtain ⟨q, hq⟩ : ∃ q, q = 1 + 3 * l.length := ⟨_, rfl⟩
        have hq8 : q ≤ 4000000 := by omega
        rw [← hq] at HD ⊢
        have HQ : Hid _ := hq
        clear hq
        go_wp2_with fail
        refine HD.mono ?_
        rintro e w12 ⟨rfl, b12⟩
        have HR12 : Hid (Rws w12 w4.heap.size (.slice a5 l.length c5) (seqR 1 l.length)) := HR11.out.below b12
        have HW12 : Hid (Rws w12 w2.heap.size (.slice a3 l.length c3) l) := HW11.out.below b12
        have HB12 : Hid (Below w.heap.size w w12) := HB11.out.trans (b12.mono HB11.out.size)
        have T12 := HT.out w12 HB12.out
        clear HD b12 HR11 HW11 HB11
        go_wp2_with fail
        refine T12.mono ?_
        rintro e w13 ⟨g13, rfl, s13, b13⟩
        have HR13 : Hid (Rws w13 w4.heap.size (.slice a5 l.length c5) (seqR 1 l.length)) := HR12.out.below b13
        have HW13 : Hid (Rws w13 w2.heap.size (.slice a3 l.length c3) l) := HW12.out.below b13
        have HB13 : Hid (Below w.heap.size w w13) := HB12.out.trans (b13.mono HB12.out.size)
        have IM := HIM.out w13 _ _ HB13.out s13
        clear T12 b13 s13 HR12 HW12 HB12
        go_wp2_with fail
        refine IM.mono ?_
        rintro e w14 ⟨v14, rfl, r14, b14⟩
        obtain ⟨a14, c14, rfl⟩ := rw_form r14
        have HR14 : Hid (Rws w14 w4.heap.size (.slice a5 l.length c5) (seqR 1 l.length)) := HR13.out.below b14
        have HB14 : Hid (Below w.heap.size w w14) := HB13.out.trans (b14.mono HB13.out.size)
        have EQ := eqR_any HLL.out r14 (HW13.out.below b14)
        clear IM r14 b14 HR13 HW13 HB13
        go_wp2_with fail
        refine EQ.mono ?_
        rintro e w15 ⟨rfl, b15⟩
        have HB15 : Hid (Below w.heap.size w w15) := HB14.out.trans (b15.mono HB14.out.size)
        have HD : Calls Tryd.prog 13 #[.slice a5 l.length c5, .int .i64 1] _ _ := heldR_any (m := 1) (n := l.length) (by omega) (by omega) HLL.out (HR14.out.below b15)
        rw [← HQ.out] at HD
        clear EQ b15 HR14 HB14
        go_wp2_with fail
        refine HD.mono ?_
        rintro e w16 ⟨rfl, b16⟩
        have HB16 : Hid (Below w.heap.size w w16) := HB15.out.trans (b16.mono HB15.out.size)
        clear HD b16 HB15
        go_wp2
        go_ret
        exact ⟨rfl, HB16.out⟩
    · have n2 : (1048576 : Int) < (hi.size : Int) := by omega
      clear SZ HA
      go_enter Tryd.func5, Tryd.ntmps5
      go_wp2
      go_ret
      exact ⟨rfl, Below.refl _ _⟩
  · have n1 : (1048576 : Int) < (lo.size : Int) := by omega
    clear SZ HA
    go_enter Tryd.func5, Tryd.ntmps5
    go_wp2
    go_ret
    exact ⟨rfl, Below.refl _ _⟩
end Go.Proofs.YtggfdgidfpkbaaaDoor
