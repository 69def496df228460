/- Texts of mine laid together: BlkC, WElemOf. -/
import Derived.Test.YtdnelneamnmcnafDoorEnts
import Derived.Test.YtdnelneamnmcnafDoorSElemOf
import Derived.Test.YtdnelneamnmcnafDoorM3
import Derived.Test.YtdnelneamnmcnafDoorM4
namespace Go.Proofs.YtdnelneamnmcnafDoor
open Go.RowKit

/-- A block and what it holds. -/
def Blk (w : World) (g : Nat) (cs : Array Value) (t : TypeId) : Prop := w.heap[g]? = some (.cells cs t)
theorem Blk.below {w w' : World} {g : Nat} {cs : Array Value} {t : TypeId} (h : Blk w g cs t) (hb : Below w.heap.size w w') : Blk w' g cs t := by
  unfold Blk
  rw [hb.block g (Array.getElem?_eq_some_iff.1 h).1]; exact h
theorem Blk.three {w : World} {g : Nat} {x y z : Value} {t : TypeId} (h : Blk w g #[x, y, z] t) : w.cell? ⟨g, 0, none⟩ = some x ∧ w.cell? ⟨g, 1, none⟩ = some y ∧ w.cell? ⟨g, 2, none⟩ = some z :=
  ⟨cell_of_row _ _ 0 _ _ _ h, cell_of_row _ _ 1 _ _ _ h, cell_of_row _ _ 2 _ _ _ h⟩
theorem Blk.lt {w : World} {g : Nat} {cs : Array Value} {t : TypeId} (h : Blk w g cs t) : g < w.heap.size := (Array.getElem?_eq_some_iff.1 h).1

theorem Ents.slice {w : World} {B : Nat} {v : Value} {es : List Ent} (h : Ents w B v es) : ∃ a n c, v = .slice a n c := by
  rcases h.form with ⟨rfl, _⟩ | ⟨_, _, rfl, _, _, _, _⟩
  · exact ⟨_, _, _, rfl⟩
  · exact ⟨_, _, _, rfl⟩

/-- What stands in the last region: the two boxes. -/
theorem keep6 {w0 w1 w2 : World} {g g' : Nat} {x y z x' y' z' : Value} (hg : g < w0.heap.size) (hg' : g' < w0.heap.size) (hb : Below w1.heap.size w1 w2)
    (h : w1.cell? ⟨g, 0, none⟩ = some x ∧ w1.cell? ⟨g, 1, none⟩ = some y ∧ w1.cell? ⟨g, 2, none⟩ = some z ∧ w1.cell? ⟨g', 0, none⟩ = some x' ∧ w1.cell? ⟨g', 1, none⟩ = some y' ∧ w1.cell? ⟨g', 2, none⟩ = some z' ∧ Below w0.heap.size w0 w1) :
    w2.cell? ⟨g, 0, none⟩ = some x ∧ w2.cell? ⟨g, 1, none⟩ = some y ∧ w2.cell? ⟨g, 2, none⟩ = some z ∧ w2.cell? ⟨g', 0, none⟩ = some x' ∧ w2.cell? ⟨g', 1, none⟩ = some y' ∧ w2.cell? ⟨g', 2, none⟩ = some z' ∧ Below w0.heap.size w0 w2 := by
  obtain ⟨a0, a1, a2, b0, b1, b2, h3⟩ := h
  have q1 : g < w1.heap.size := Nat.lt_of_lt_of_le hg h3.size
  have q2 : g' < w1.heap.size := Nat.lt_of_lt_of_le hg' h3.size
  exact ⟨by rw [hb.cell q1]; exact a0, by rw [hb.cell q1]; exact a1, by rw [hb.cell q1]; exact a2, by rw [hb.cell q2]; exact b0, by rw [hb.cell q2]; exact b1, by rw [hb.cell q2]; exact b2, h3.trans (hb.mono h3.size)⟩
end Go.Proofs.YtdnelneamnmcnafDoor

namespace Go.Proofs.YtdnelneamnmcnafDoor
open Go.RowKit

theorem Blk.four {w : World} {g : Nat} {x y z v : Value} {t : TypeId} (h : Blk w g #[x, y, z, v] t) : w.cell? ⟨g, 0, none⟩ = some x ∧ w.cell? ⟨g, 1, none⟩ = some y ∧ w.cell? ⟨g, 2, none⟩ = some z ∧ w.cell? ⟨g, 3, none⟩ = some v :=
  ⟨cell_of_row _ _ 0 _ _ _ h, cell_of_row _ _ 1 _ _ _ h, cell_of_row _ _ 2 _ _ _ h, cell_of_row _ _ 3 _ _ _ h⟩

set_option maxRecDepth 100000 in
set_option maxHeartbeats 8000000 in
theorem elemOf_walk (w : World) (a : Option Addr) (len cap : Nat) (es : List Ent) (sh : Bool) (lv : Int) (al : Option Addr) (ln lc : Nat) (zl : List Int) (hA : ArgEnts w a len cap es) (hL : IsRow .i64 w al ln lc zl)
    (I : ∀ (u : World) (B B' : Nat) (v vl : Value), Below w.heap.size w u → Ents u B v es → Ints u B' vl (zl.take ln) → (∀ e ∈ es, e.runes.length ≤ 1048576) → es.length ≤ 1048576 → (zl.take ln).length ≤ 1048576 → Calls Tryd.prog 8 #[.agg #[v, .bool sh, .int .i64 lv], vl] u fun e w' => e = .returned (elRes (elemOk es lv (zl.take ln))) ∧ Below u.heap.size u w') :
    Calls Tryd.prog 3 #[.agg #[.slice a len cap, .bool sh, .int .i64 lv], .slice al ln lc] w fun e w' => e = .returned (.bool true) ∧ Below w.heap.size w w' := by
  have hmx := isRow_len hL
  have hb1 := (Below.refl w.heap.size w).alloc (Nat.le_refl _) (.cells #[.slice a len cap, .bool sh, .int .i64 lv] 24)
  have hx1 : Blk (w.alloc (.cells #[.slice a len cap, .bool sh, .int .i64 lv] 24)) w.heap.size #[.slice a len cap, .bool sh, .int .i64 lv] 24 := heap_alloc_new _ _
  have S := szRules_any w _ a len cap es sh lv 1048576 (by omega) (by omega) hA hb1
  have HA : Hid (ArgEnts w a len cap es) := hA
  have HL : Hid (IsRow .i64 w al ln lc zl) := hL
  have HI : Hid _ := I
  have HB1 : Hid (Below _ _ _) := hb1
  have HX1 : Hid (Blk _ _ _ _) := hx1
  clear hA I hb1 hx1 hL
  by_cases hln : 1048576 < ln
  · have hln2 : (1048576 : Int) < (ln : Int) := by omega
    clear S
    go_enter Tryd.func3, Tryd.ntmps3
    go_wp2
    go_ret
    exact ⟨rfl, HB1.out⟩
  have hln2 : ¬ (1048576 : Int) < (ln : Int) := by omega
  by_cases hneg : szA es 1048576 < 0
  · generalize szA es 1048576 = sz at *
    go_enter Tryd.func3, Tryd.ntmps3
    go_wp2_with fail
    refine S.mono ?_
    rintro e w2 ⟨rfl, b2⟩
    clear S
    go_wp2
    go_ret
    exact ⟨rfl, HB1.out.trans (b2.mono HB1.out.size)⟩
  · have hbd := szA_bd (es := es) (left := 1048576) (by omega)
    have hle : len ≤ 1048576 := by have := HA.out.1; omega
    have HR : Hid (∀ e ∈ es, e.runes.length ≤ 1048576) := fun e he => by have := hbd.2 e he; omega
    have hel : es.length ≤ 1048576 := by omega
    clear hbd
    generalize szA es 1048576 = sz at *
    have T := fun (u : World) (hu : Below w.heap.size w u) => toRules_any w u a len cap es sh lv HA.out hu hle HR.out
    have U := fun (u : World) (hu : Below w.heap.size w u) => toInt_any w u al ln lc zl HL.out hu (by omega)
    have hll : (zl.take ln).length ≤ 1048576 := by rw [isRow_take HL.out]; omega
    have I2 := fun (u : World) (B B' : Nat) (v vl : Value) (h1 : Below w.heap.size w u) (h2 : Ents u B v es) (h3 : Ints u B' vl (zl.take ln)) => HI.out u B B' v vl h1 h2 h3 HR.out hel hll
    have A2 := fun (u : World) (B B' : Nat) (v vl : Value) (h2 : Ents u B v es) (h3 : Ints u B' vl (zl.take ln)) => elemOf_any (sh := sh) (lv := lv) h2 h3 hel hll HR.out
    generalize zl.take ln = l at *
    obtain ⟨o, HO⟩ : ∃ o, Hid (elemOk es lv l = o) := ⟨_, rfl⟩
    rw [HO.out] at I2 A2
    unfold elRes elV at I2 A2
    generalize elOf o = x0 at *
    generalize o.isSome = ob at *
    have HI2 : Hid _ := I2
    have HA2 : Hid _ := A2
    clear I2 A2 HI HL
    go_enter Tryd.func3, Tryd.ntmps3
    go_wp2_with fail
    refine S.mono ?_
    rintro e w2 ⟨rfl, b2⟩
    clear S
    have HX2 : Hid (Blk _ _ _ _) := HX1.out.below b2
    have HB2 : Hid (Below _ _ _) := HB1.out.trans (b2.mono HB1.out.size)
    obtain ⟨p0, p1, p2⟩ := HX2.out.three
    clear HX1 HB1 b2
    go_wp2_with fail
    refine (T _ HB2.out).mono ?_
    rintro e w3 ⟨g3, rfl, i3, b3⟩
    have HX3 : Hid (Blk _ _ _ _) := HX2.out.below b3
    have HB3 : Hid (Below _ _ _) := HB2.out.trans (b3.mono HB2.out.size)
    clear p0 p1 p2 HX2 HB2 b3
    go_wp2_with fail
    refine (U _ HB3.out).mono ?_
    rintro e w4 ⟨v4, rfl, j4, b4⟩
    have HX4 : Hid (Blk _ _ _ _) := HX3.out.below b4
    have HB4 : Hid (Below _ _ _) := HB3.out.trans (b4.mono HB3.out.size)
    have A := HA2.out _ _ _ _ _ (i3.below b4) j4
    clear HX3 HB3 b4 i3 j4 HA2
    go_wp2_with fail
    refine A.mono ?_
    rintro e w5 ⟨rfl, b5⟩
    have b56 := (Below.refl w5.heap.size w5).alloc (Nat.le_refl _) (.cells #[.int .i64 x0.first, .int .i64 x0.second, .int .i64 x0.third, .bool x0.varies] 28)
    have HX6 : Hid (Blk _ _ _ _) := (HX4.out.below b5).below b56
    have HE6 : Hid (Blk (w5.alloc (.cells #[.int .i64 x0.first, .int .i64 x0.second, .int .i64 x0.third, .bool x0.varies] 28)) w5.heap.size #[.int .i64 x0.first, .int .i64 x0.second, .int .i64 x0.third, .bool x0.varies] 28) := heap_alloc_new _ _
    have HB5 := HB4.out.trans (b5.mono HB4.out.size)
    have HB6 : Hid (Below _ _ _) := HB5.trans (b56.mono HB5.size)
    obtain ⟨p0, p1, p2⟩ := HX6.out.three
    clear A HX4 HB4 HB5 b5 b56
    go_wp2_with fail
    refine (T _ HB6.out).mono ?_
    rintro e w7 ⟨g7, rfl, i7, b7⟩
    have b78 := (Below.refl w7.heap.size w7).alloc (Nat.le_refl _) (.cells #[.slice (some ⟨g7, 0, none⟩) len len, .bool sh, .int .i64 lv] 33)
    have HX8 : Hid (Blk _ _ _ _) := (HX6.out.below b7).below b78
    have HE8 : Hid (Blk _ _ _ _) := (HE6.out.below b7).below b78
    have HY8 : Hid (Blk (w7.alloc (.cells #[.slice (some ⟨g7, 0, none⟩) len len, .bool sh, .int .i64 lv] 33)) w7.heap.size #[.slice (some ⟨g7, 0, none⟩) len len, .bool sh, .int .i64 lv] 33) := heap_alloc_new _ _
    have HB7 := HB6.out.trans (b7.mono HB6.out.size)
    have HB8 : Hid (Below _ _ _) := HB7.trans (b78.mono HB7.size)
    have I8 : Hid (Ents _ _ _ _) := i7.below b78
    clear p0 p1 p2 HX6 HE6 HB6 HB7 b7 b78 i7
    go_wp2_with fail
    refine (U _ HB8.out).mono ?_
    rintro e w9 ⟨v9, rfl, j9, b9⟩
    have HX9 : Hid (Blk _ _ _ _) := HX8.out.below b9
    have HE9 : Hid (Blk _ _ _ _) := HE8.out.below b9
    have HY9 : Hid (Blk _ _ _ _) := HY8.out.below b9
    have HB9 : Hid (Below _ _ _) := HB8.out.trans (b9.mono HB8.out.size)
    have I9 : Hid (Ents _ _ _ _) := I8.out.below b9
    have J9 : Hid (Ints _ _ _ _) := j9
    have G := HI2.out _ _ _ _ _ HB9.out I9.out j9
    obtain ⟨q0, q1, q2⟩ := HY9.out.three
    clear HX8 HE8 HY8 HB8 I8 b9 j9 HI2
    go_wp2_with fail
    refine G.mono ?_
    rintro e w10 ⟨rfl, b10⟩
    have b11 := (Below.refl w10.heap.size w10).alloc (Nat.le_refl _) (.cells #[.int .i64 x0.first, .int .i64 x0.second, .int .i64 x0.third, .bool x0.varies] 28)
    have HX11 : Hid (Blk _ _ _ _) := (HX9.out.below b10).below b11
    have HE11 : Hid (Blk _ _ _ _) := (HE9.out.below b10).below b11
    have HY11 : Hid (Blk _ _ _ _) := (HY9.out.below b10).below b11
    have HF11 : Hid (Blk (w10.alloc (.cells #[.int .i64 x0.first, .int .i64 x0.second, .int .i64 x0.third, .bool x0.varies] 28)) w10.heap.size #[.int .i64 x0.first, .int .i64 x0.second, .int .i64 x0.third, .bool x0.varies] 28) := heap_alloc_new _ _
    have HB10 := HB9.out.trans (b10.mono HB9.out.size)
    have HB11 : Hid (Below _ _ _) := HB10.trans (b11.mono HB10.size)
    have I11 : Hid (Ents _ _ _ _) := (I9.out.below b10).below b11
    have J11 : Hid (Ints _ _ _ _) := (J9.out.below b10).below b11
    clear G HX9 HE9 HY9 HB9 HB10 I9 J9 b10 b11 q0 q1 q2
    obtain ⟨q0, q1, q2, q3⟩ := HE11.out.four
    obtain ⟨r0, r1, r2, r3⟩ := HF11.out.four
    go_wp2_with fail
    refine (eqElem_same _ _ _ _ _).mono ?_
    rintro e w12 ⟨rfl, b12⟩
    have hx12 := HX11.out.below b12
    have hy12 := HY11.out.below b12
    have HB12 : Hid (Below _ _ _) := HB11.out.trans (b12.mono HB11.out.size)
    have I12 : Hid (Ents _ _ _ _) := I11.out.below b12
    have J12 : Hid (Ints _ _ _ _) := J11.out.below b12
    clear HX11 HE11 HY11 HF11 HB11 I11 J11 b12 q0 q1 q2 q3 r0 r1 r2 r3
    obtain ⟨p0, p1, p2⟩ := hx12.three
    obtain ⟨q0, q1, q2⟩ := hy12.three
    have hgx := hx12.lt
    have hgy := hy12.lt
    have hS : w12.cell? ⟨w.heap.size, 0, none⟩ = some (.slice a len cap) ∧ w12.cell? ⟨w.heap.size, 1, none⟩ = some (.bool sh) ∧ w12.cell? ⟨w.heap.size, 2, none⟩ = some (.int .i64 lv) ∧ w12.cell? ⟨w7.heap.size, 0, none⟩ = some (.slice (some ⟨g7, 0, none⟩) len len) ∧ w12.cell? ⟨w7.heap.size, 1, none⟩ = some (.bool sh) ∧ w12.cell? ⟨w7.heap.size, 2, none⟩ = some (.int .i64 lv) ∧ Below w12.heap.size w12 w12 := ⟨p0, p1, p2, q0, q1, q2, Below.refl _ _⟩
    have hS2 := keep6 hgx hgy ((Below.refl w12.heap.size w12).drew) hS
    have K := fun (u1 u2 : World) (hb : Below u1.heap.size u1 u2) (hu : u1.cell? ⟨w.heap.size, 0, none⟩ = some (.slice a len cap) ∧ u1.cell? ⟨w.heap.size, 1, none⟩ = some (.bool sh) ∧ u1.cell? ⟨w.heap.size, 2, none⟩ = some (.int .i64 lv) ∧ u1.cell? ⟨w7.heap.size, 0, none⟩ = some (.slice (some ⟨g7, 0, none⟩) len len) ∧ u1.cell? ⟨w7.heap.size, 1, none⟩ = some (.bool sh) ∧ u1.cell? ⟨w7.heap.size, 2, none⟩ = some (.int .i64 lv) ∧ Below w12.heap.size w12 u1) => keep6 hgx hgy hb hu
    have T2 := fun (u : World) (hu : u.cell? ⟨w.heap.size, 0, none⟩ = some (.slice a len cap) ∧ u.cell? ⟨w.heap.size, 1, none⟩ = some (.bool sh) ∧ u.cell? ⟨w.heap.size, 2, none⟩ = some (.int .i64 lv) ∧ u.cell? ⟨w7.heap.size, 0, none⟩ = some (.slice (some ⟨g7, 0, none⟩) len len) ∧ u.cell? ⟨w7.heap.size, 1, none⟩ = some (.bool sh) ∧ u.cell? ⟨w7.heap.size, 2, none⟩ = some (.int .i64 lv) ∧ Below w12.heap.size w12 u) => T u (HB12.out.trans (hu.2.2.2.2.2.2.mono HB12.out.size))
    have EQ := fun (u : World) (B : Nat) (g : Nat) (hu : u.cell? ⟨w.heap.size, 0, none⟩ = some (.slice a len cap) ∧ u.cell? ⟨w.heap.size, 1, none⟩ = some (.bool sh) ∧ u.cell? ⟨w.heap.size, 2, none⟩ = some (.int .i64 lv) ∧ u.cell? ⟨w7.heap.size, 0, none⟩ = some (.slice (some ⟨g7, 0, none⟩) len len) ∧ u.cell? ⟨w7.heap.size, 1, none⟩ = some (.bool sh) ∧ u.cell? ⟨w7.heap.size, 2, none⟩ = some (.int .i64 lv) ∧ Below w12.heap.size w12 u) (he : Ents u B (.slice (some ⟨g, 0, none⟩) len len) es) => eqRules_same sh lv hel (I12.out.below hu.2.2.2.2.2.2) he
    clear hx12 hy12 T p0 p1 p2 q0 q1 q2
    go_wp2_with fail
    go_region_held (fun u => u.cell? ⟨w.heap.size, 0, none⟩ = some (.slice a len cap) ∧ u.cell? ⟨w.heap.size, 1, none⟩ = some (.bool sh) ∧ u.cell? ⟨w.heap.size, 2, none⟩ = some (.int .i64 lv) ∧ u.cell? ⟨w7.heap.size, 0, none⟩ = some (.slice (some ⟨g7, 0, none⟩) len len) ∧ u.cell? ⟨w7.heap.size, 1, none⟩ = some (.bool sh) ∧ u.cell? ⟨w7.heap.size, 2, none⟩ = some (.int .i64 lv) ∧ Below w12.heap.size w12 u)
      (first | exact hS2 | exact K _ _ (by assumption) (by assumption))
      (first | (go_at_call 6; refine (T2 _ (by assumption)).mono ?_; rintro e w' ⟨g, rfl, hEn, hbw⟩) | (go_at_call 10; refine (EQ _ _ _ (by assumption) (by assumption)).mono ?_; rintro e w' ⟨rfl, hbw⟩))
    all_goals
      have hE := (show w'.cell? ⟨w.heap.size, 0, none⟩ = _ ∧ _ ∧ _ ∧ _ ∧ _ ∧ _ ∧ Below w12.heap.size w12 w' by assumption).2.2.2.2.2.2
      have HB13 : Hid (Below _ _ _) := HB12.out.trans (hE.mono HB12.out.size)
      have J13 : Hid (Ints _ _ _ _) := J12.out.below hE
      clear hS hS2 EQ K T2
      go_wp2_with fail
      refine (U _ HB13.out).mono ?_
      rintro e w14 ⟨v14, rfl, j14, b14⟩
      have HB14 : Hid (Below _ _ _) := HB13.out.trans (b14.mono HB13.out.size)
      have Q := eq_any (J13.out.below b14) j14
      go_wp2_with fail
      refine Q.mono ?_
      rintro e w15 ⟨rfl, n15, rfl⟩
      clear Q
      go_wp2
      go_ret
      exact ⟨rfl, below_drewN HB14.out n15⟩
end Go.Proofs.YtdnelneamnmcnafDoor
