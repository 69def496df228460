/- The walk of the law FnExactPageBytes. -/
import Derived.Test.YtggfdgidfpkbaaaIPage6
import Derived.Test.YtggfdgidfpkbaaaSPB6
import Derived.Test.YtggfdgidfpkbaaaARw
import Derived.Test.YtggfdgidfpkbaaaEqRw
namespace Go.Proofs.Ytggfdgidfpkbaaa
open Go.RowKit

set_option maxRecDepth 100000 in
set_option maxHeartbeats 4000000 in
theorem pageBytes_walk (w : World) (a : Option Addr) (len cap : Nat) (es : List Rw) (hA : ArgRws w a len cap es) :
    Calls Try.prog 4 #[.slice a len cap] w fun e w' => e = .returned (.bool true) ∧ Below w.heap.size w w' := by
  have S := szRows_any w w a len cap es 1048576 (by omega) (by omega) hA (Below.refl _ _)
  have HA : Hid (ArgRws w a len cap es) := hA
  clear hA
  by_cases hneg : szRA es 1048576 < 0
  · generalize szRA es 1048576 = sz at *
    go_enter Try.func4, Try.ntmps4
    go_wp2_with fail
    refine S.mono ?_
    rintro e w2 ⟨rfl, b2⟩
    clear S
    go_wp2
    go_ret
    exact ⟨rfl, b2⟩
  · have hbd := szRA_bd (es := es) (by omega)
    have hle : len ≤ 1048576 := by have := HA.out.1; omega
    have hel : es.length ≤ 1048576 := hbd.1
    have HLEN : Hid (es.length = len) := HA.out.1
    clear hbd
    generalize szRA es 1048576 = sz at *
    have T := fun (u : World) (hu : Below w.heap.size w u) => toRows_any w u a len cap es HA.out hu hle
    have GS := fun (u : World) (B g : Nat) (h : Rws u B (.slice (some ⟨g, 0, none⟩) len len) es) => specPB_any (w := u) (a := some ⟨g, 0, none⟩) (l := es) (cap := len) (Rws.sl (B := B) (cap := len) (by rw [HLEN.out]; exact h)) (by omega)
    have GI := fun (u : World) (B g : Nat) (h : Rws u B (.slice (some ⟨g, 0, none⟩) len len) es) => implPB_any (w := u) (a := some ⟨g, 0, none⟩) (l := es) (cap := len) (Rws.sl (B := B) (cap := len) (by rw [HLEN.out]; exact h)) (by omega)
    rw [HLEN.out] at GS GI
    generalize okPB es = ok at *
    generalize pbT es = tx at *
    go_enter Try.func4, Try.ntmps4
    go_wp2_with fail
    refine S.mono ?_
    rintro e w2 ⟨rfl, b2⟩
    clear S
    have HB2 : Hid (Below _ _ _) := b2
    go_wp2_with fail
    refine (T _ HB2.out).mono ?_
    rintro e w3 ⟨g3, rfl, i3, b3⟩
    have HB3 : Hid (Below _ _ _) := HB2.out.trans (b3.mono HB2.out.size)
    have A := GS _ _ _ i3
    clear HB2 b2 b3 i3 GS
    go_wp2_with fail
    refine A.mono ?_
    rintro e w4 ⟨rfl, b4⟩
    have HB4 : Hid (Below _ _ _) := HB3.out.trans (b4.mono HB3.out.size)
    clear A HB3 b4
    go_wp2_with fail
    refine (T _ HB4.out).mono ?_
    rintro e w5 ⟨g5, rfl, i5, b5⟩
    have HB5 : Hid (Below _ _ _) := HB4.out.trans (b5.mono HB4.out.size)
    have I5 : Hid (Rws _ _ _ _) := i5
    have G := GI _ _ _ I5.out
    clear HB4 b5 i5 GI
    go_wp2_with fail
    refine G.mono ?_
    rintro e w6 ⟨rfl, b6⟩
    have HB6 : Hid (Below _ _ _) := HB5.out.trans (b6.mono HB5.out.size)
    have I6 : Hid (Rws _ _ _ _) := I5.out.below b6
    clear G HB5 I5 b6
    go_wp2_with fail
    refine (T _ HB6.out).mono ?_
    rintro e w7 ⟨g7, rfl, i7, b7⟩
    have HB7 : Hid (Below _ _ _) := HB6.out.trans (b7.mono HB6.out.size)
    have EQ := eqR_any hel (I6.out.below b7) i7
    clear T HB6 I6 b7 i7
    go_wp2_with fail
    refine EQ.mono ?_
    rintro e w8 ⟨rfl, b8⟩
    have HB8 : Hid (Below _ _ _) := HB7.out.trans (b8.mono HB7.out.size)
    clear EQ HB7 b8
    go_wp2
    go_ret
    exact ⟨rfl, HB8.out⟩
end Go.Proofs.Ytggfdgidfpkbaaa
