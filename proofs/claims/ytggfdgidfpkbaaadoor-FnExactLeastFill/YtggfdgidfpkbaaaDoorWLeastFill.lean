/- The walk of the law FnExactLeastFill. -/
import Derived.Test.YtggfdgidfpkbaaaDoorLeast6
import Derived.Test.YtggfdgidfpkbaaaDoorAStrs
namespace Go.Proofs.YtggfdgidfpkbaaaDoor
open Go.RowKit

set_option maxRecDepth 100000 in
set_option maxHeartbeats 4000000 in
theorem leastFill_walk (w : World) (a : Option Addr) (len cap : Nat) (ss : List ByteArray) (hA : ArgStrs w a len cap ss) {ty : TypeId} {pv : Value} (hg : ErrG w ty pv) :
    Calls Tryd.prog 8 #[.slice a len cap] w fun e w' => e = .returned (.bool true) ∧ Below w.heap.size w w' := by
  have SZ : Calls Tryd.prog 14 #[.slice a len cap, .int .i64 1048576] w fun e w' => e = .returned (.int .i64 (szSA ss 1048576)) ∧ Below w.heap.size w w' :=
    (szStrs_any w w a len cap ss 1048576 (by omega) (by omega) hA (Below.refl _ _)).mono fun e w' h => ⟨h.1, by rw [h.2]; exact Below.refl _ _⟩
  have hlen := hA.1
  have HA : Hid (ArgStrs w a len cap ss) := hA
  have HG : Hid (ErrG w ty pv) := hg
  have hgl := hg.lt
  clear hA hg
  by_cases hneg : szSA ss 1048576 < 0
  · generalize szSA ss 1048576 = sz at *
    go_enter Tryd.func8, Tryd.ntmps8
    go_wp2_with fail
    refine SZ.mono ?_
    rintro e w1 ⟨rfl, b1⟩
    clear SZ
    go_wp2
    go_ret
    exact ⟨rfl, b1⟩
  · have hbd := szSA_bd (ss := ss) (left := 1048576) (by omega)
    have hsl : ss.length ≤ 1048576 := by omega
    have hln : len ≤ 1048576 := by omega
    have HZ : Hid (∀ s ∈ ss, s.size ≤ 1048576) := fun s hs => by have := hbd.2 s hs; omega
    have HT : Hid (∀ (u : World), Below w.heap.size w u → Calls Tryd.prog 16 #[.slice a len cap] u fun e w' => ∃ g, e = .returned (.slice (some ⟨g, 0, none⟩) len len) ∧ Strs w' u.heap.size (.slice (some ⟨g, 0, none⟩) len len) ss ∧ Below u.heap.size u w') := fun u hu => toStrs_any w u a len cap ss HA.out hu hln
    have HSL : Hid (ss.length ≤ 1048576) := hsl
    clear hbd HA
    generalize szSA ss 1048576 = sz at *
    go_enter Tryd.func8, Tryd.ntmps8
    go_wp2_with fail
    refine SZ.mono ?_
    rintro e w1 ⟨rfl, b1⟩
    have T1 := HT.out w1 b1
    have HB1 : Hid (Below w.heap.size w w1) := b1
    clear SZ b1
    go_wp2_with fail
    refine T1.mono ?_
    rintro e w2 ⟨g2, rfl, s2, b2⟩
    have HB2 : Hid (Below w.heap.size w w2) := HB1.out.trans (b2.mono HB1.out.size)
    have SP := specLF_any s2 HZ.out HSL.out
    obtain ⟨la, HLA⟩ : ∃ la, Hid (leastA ss = la) := ⟨_, rfl⟩
    obtain ⟨bk, HBK⟩ : ∃ bk, Hid ((bookF ss).isSome = bk) := ⟨_, rfl⟩
    rw [HLA.out, HBK.out] at SP
    clear T1 s2 b2 HB1
    go_wp2_with fail
    refine SP.mono ?_
    rintro e w3 ⟨rfl, b3⟩
    have HB3 : Hid (Below w.heap.size w w3) := HB2.out.trans (b3.mono HB2.out.size)
    have T3 := HT.out w3 HB3.out
    clear SP b3 HB2
    go_wp2_with fail
    refine T3.mono ?_
    rintro e w4 ⟨g4, rfl, s4, b4⟩
    have HB4 : Hid (Below w.heap.size w w4) := HB3.out.trans (b4.mono HB3.out.size)
    have HS4 : Hid (Strs w4 w3.heap.size (.slice (some ⟨g4, 0, none⟩) len len) ss) := s4
    have IM := implLF_any s4 HZ.out HSL.out (show ErrG w4 ty pv from (HB4.out.cell (p := ⟨0, 0, none⟩) hgl).trans HG.out)
    rw [HLA.out, HBK.out] at IM
    clear T3 s4 b4 HB3
    go_wp2_with fail
    refine IM.mono ?_
    rintro e w5 ⟨rfl, b5⟩
    have HB5 : Hid (Below w.heap.size w w5) := HB4.out.trans (b5.mono HB4.out.size)
    have HS5 : Hid (Strs w5 w3.heap.size (.slice (some ⟨g4, 0, none⟩) len len) ss) := HS4.out.below b5
    have T5 := HT.out w5 HB5.out
    clear IM b5 HB4 HS4
    go_wp2_with fail
    refine T5.mono ?_
    rintro e w6 ⟨g6, rfl, s6, b6⟩
    have HB6 : Hid (Below w.heap.size w w6) := HB5.out.trans (b6.mono HB5.out.size)
    have EQ : Calls Tryd.prog 19 #[.slice (some ⟨g4, 0, none⟩) len len, .slice (some ⟨g6, 0, none⟩) len len] w6 fun e w' => e = .returned (.bool true) ∧ Below w6.heap.size w6 w' :=
      (eqStr_any hsl (HS5.out.below b6) s6).mono fun e w' h => ⟨h.1, by obtain ⟨n, hn⟩ := h.2; rw [hn]; exact below_drewN6 (Below.refl _ _) n⟩
    clear T5 s6 b6 HB5 HS5
    go_wp2_with fail
    refine EQ.mono ?_
    rintro e w7 ⟨rfl, b7⟩
    have HB7 : Hid (Below w.heap.size w w7) := HB6.out.trans (b7.mono HB6.out.size)
    clear EQ b7 HB6
    go_wp2
    go_ret
    exact ⟨rfl, HB7.out⟩
end Go.Proofs.YtggfdgidfpkbaaaDoor
