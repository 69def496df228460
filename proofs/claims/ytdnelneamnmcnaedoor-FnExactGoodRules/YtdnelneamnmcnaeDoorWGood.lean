/- The walk of the law FnExactGoodRules, from the program's contract (a hypothesis of the walk). -/
import Derived.Test.YtdnelneamnmcnaeDoorSRule2
import Derived.Test.YtdnelneamnmcnaeDoorToRules
import Derived.Test.YtdnelneamnmcnaeDoorEqRules
import Derived.Test.YtdnelneamnmcnaeDoorBlk
namespace Go.Proofs.YtdnelneamnmcnaeDoor
open Go.RowKit

/-- What stands in the last region: the two boxes. -/
theorem keep6 {w0 w1 w2 : World} {g g' : Nat} {x y z x' y' z' : Value} (hg : g < w0.heap.size) (hg' : g' < w0.heap.size) (hb : Below w1.heap.size w1 w2)
    (h : w1.cell? ⟨g, 0, none⟩ = some x ∧ w1.cell? ⟨g, 1, none⟩ = some y ∧ w1.cell? ⟨g, 2, none⟩ = some z ∧ w1.cell? ⟨g', 0, none⟩ = some x' ∧ w1.cell? ⟨g', 1, none⟩ = some y' ∧ w1.cell? ⟨g', 2, none⟩ = some z' ∧ Below w0.heap.size w0 w1) :
    w2.cell? ⟨g, 0, none⟩ = some x ∧ w2.cell? ⟨g, 1, none⟩ = some y ∧ w2.cell? ⟨g, 2, none⟩ = some z ∧ w2.cell? ⟨g', 0, none⟩ = some x' ∧ w2.cell? ⟨g', 1, none⟩ = some y' ∧ w2.cell? ⟨g', 2, none⟩ = some z' ∧ Below w0.heap.size w0 w2 := by
  obtain ⟨a0, a1, a2, b0, b1, b2, h3⟩ := h
  have q1 : g < w1.heap.size := Nat.lt_of_lt_of_le hg h3.size
  have q2 : g' < w1.heap.size := Nat.lt_of_lt_of_le hg' h3.size
  exact ⟨by rw [hb.cell q1]; exact a0, by rw [hb.cell q1]; exact a1, by rw [hb.cell q1]; exact a2, by rw [hb.cell q2]; exact b0, by rw [hb.cell q2]; exact b1, by rw [hb.cell q2]; exact b2, h3.trans (hb.mono h3.size)⟩

set_option maxRecDepth 100000 in
set_option maxHeartbeats 4000000 in
theorem goodRules_walk (w : World) (a : Option Addr) (len cap : Nat) (es : List Ent) (sh : Bool) (lv : Int) (hA : ArgEnts w a len cap es)
    (I : ∀ (u : World) (B : Nat) (v : Value), Below w.heap.size w u → Ents u B v es → (∀ e ∈ es, e.runes.length ≤ 1048576) → es.length ≤ 1048576 → Calls Tryd.prog 22 #[.agg #[v, .bool sh, .int .i64 lv]] u fun e w' => e = .returned (.bool (rulesOk es lv)) ∧ Below u.heap.size u w') :
    Calls Tryd.prog 6 #[.agg #[.slice a len cap, .bool sh, .int .i64 lv]] w fun e w' => e = .returned (.bool true) ∧ Below w.heap.size w w' := by
  have hb1 := (Below.refl w.heap.size w).alloc (Nat.le_refl _) (.cells #[.slice a len cap, .bool sh, .int .i64 lv] 37)
  have hx1 : Blk (w.alloc (.cells #[.slice a len cap, .bool sh, .int .i64 lv] 37)) w.heap.size #[.slice a len cap, .bool sh, .int .i64 lv] 37 := heap_alloc_new _ _
  have S := szRules_any w _ a len cap es sh lv 1048576 (by omega) (by omega) hA hb1
  have HA : Hid (ArgEnts w a len cap es) := hA
  have HI : Hid _ := I
  have HB1 : Hid (Below _ _ _) := hb1
  have HX1 : Hid (Blk _ _ _ _) := hx1
  clear hA I hb1 hx1
  by_cases hneg : szA es 1048576 < 0
  · generalize szA es 1048576 = sz at *
    go_enter Tryd.func6, Tryd.ntmps6
    go_wp2_with fail
    refine S.mono ?_
    rintro e w2 ⟨rfl, b2⟩
    clear S
    go_wp2
    go_ret
    exact ⟨rfl, HB1.out.trans (b2.mono HB1.out.size)⟩
  · have hbd := szA_bd (es := es) (left := 1048576) (by omega)
    have hle : len ≤ 1048576 := by have := HA.out.1; omega
    have HR : Hid (∀ e ∈ es, e.runes.length ≤ 1048576) := fun e he => by have := hbd.2 e he; omega
    have hel : es.length ≤ 1048576 := by omega
    clear hbd
    generalize szA es 1048576 = sz at *
    have T := fun (u : World) (hu : Below w.heap.size w u) => toRules_any w u a len cap es sh lv HA.out hu hle HR.out
    obtain ⟨ok, HOK⟩ : ∃ ok, Hid (rulesOk es lv = ok) := ⟨_, rfl⟩
    go_enter Tryd.func6, Tryd.ntmps6
    go_wp2_with fail
    refine S.mono ?_
    rintro e w2 ⟨rfl, b2⟩
    clear S
    have HX2 : Hid (Blk _ _ _ _) := HX1.out.below b2
    have HB2 : Hid (Below _ _ _) := HB1.out.trans (b2.mono HB1.out.size)
    obtain ⟨p0, p1, p2⟩ := HX2.out.three
    clear HX1 HB1 b2
    go_wp2_with fail
    refine (T _ HB2.out).mono ?_
    rintro e w3 ⟨g3, rfl, i3, b3⟩
    have HX3 : Hid (Blk _ _ _ _) := HX2.out.below b3
    have HB3 : Hid (Below _ _ _) := HB2.out.trans (b3.mono HB2.out.size)
    have A := good3_any (sh := sh) (lv := lv) i3 HR.out
    rw [HOK.out] at A
    clear p0 p1 p2 HX2 HB2 b3 i3
    go_wp2_with fail
    refine A.mono ?_
    rintro e w4 ⟨rfl, b4⟩
    have HX4 : Hid (Blk _ _ _ _) := HX3.out.below b4
    have HB4 : Hid (Below _ _ _) := HB3.out.trans (b4.mono HB3.out.size)
    obtain ⟨p0, p1, p2⟩ := HX4.out.three
    clear A HX3 HB3 b4
    go_wp2_with fail
    refine (T _ HB4.out).mono ?_
    rintro e w5 ⟨g5, rfl, i5, b5⟩
    have b56 := (Below.refl w5.heap.size w5).alloc (Nat.le_refl _) (.cells #[.slice (some ⟨g5, 0, none⟩) len len, .bool sh, .int .i64 lv] 42)
    have HX6 : Hid (Blk _ _ _ _) := (HX4.out.below b5).below b56
    have HY6 : Hid (Blk (w5.alloc (.cells #[.slice (some ⟨g5, 0, none⟩) len len, .bool sh, .int .i64 lv] 42)) w5.heap.size #[.slice (some ⟨g5, 0, none⟩) len len, .bool sh, .int .i64 lv] 42) := heap_alloc_new _ _
    have HB5 := HB4.out.trans (b5.mono HB4.out.size)
    have HB6 : Hid (Below _ _ _) := HB5.trans (b56.mono HB5.size)
    have I6 : Hid (Ents _ _ _ _) := i5.below b56
    have G := HI.out _ _ _ HB6.out I6.out HR.out hel
    rw [HOK.out] at G
    clear p0 p1 p2 HX4 HB4 b5 b56 i5 HB5
    go_wp2_with fail
    refine G.mono ?_
    rintro e w7 ⟨rfl, b7⟩
    have hx7 := HX6.out.below b7
    have hy7 := HY6.out.below b7
    have HB7 : Hid (Below _ _ _) := HB6.out.trans (b7.mono HB6.out.size)
    have I7 : Hid (Ents _ _ _ _) := I6.out.below b7
    obtain ⟨p0, p1, p2⟩ := hx7.three
    obtain ⟨q0, q1, q2⟩ := hy7.three
    have hgx := hx7.lt
    have hgy := hy7.lt
    have hS : w7.cell? ⟨w.heap.size, 0, none⟩ = some (.slice a len cap) ∧ w7.cell? ⟨w.heap.size, 1, none⟩ = some (.bool sh) ∧ w7.cell? ⟨w.heap.size, 2, none⟩ = some (.int .i64 lv) ∧ w7.cell? ⟨w5.heap.size, 0, none⟩ = some (.slice (some ⟨g5, 0, none⟩) len len) ∧ w7.cell? ⟨w5.heap.size, 1, none⟩ = some (.bool sh) ∧ w7.cell? ⟨w5.heap.size, 2, none⟩ = some (.int .i64 lv) ∧ Below w7.heap.size w7 w7 := ⟨p0, p1, p2, q0, q1, q2, Below.refl _ _⟩
    have hS2 := keep6 hgx hgy ((Below.refl w7.heap.size w7).drew) hS
    have K := fun (u1 u2 : World) (hb : Below u1.heap.size u1 u2) (hu : u1.cell? ⟨w.heap.size, 0, none⟩ = some (.slice a len cap) ∧ u1.cell? ⟨w.heap.size, 1, none⟩ = some (.bool sh) ∧ u1.cell? ⟨w.heap.size, 2, none⟩ = some (.int .i64 lv) ∧ u1.cell? ⟨w5.heap.size, 0, none⟩ = some (.slice (some ⟨g5, 0, none⟩) len len) ∧ u1.cell? ⟨w5.heap.size, 1, none⟩ = some (.bool sh) ∧ u1.cell? ⟨w5.heap.size, 2, none⟩ = some (.int .i64 lv) ∧ Below w7.heap.size w7 u1) => keep6 hgx hgy hb hu
    have T2 := fun (u : World) (hu : u.cell? ⟨w.heap.size, 0, none⟩ = some (.slice a len cap) ∧ u.cell? ⟨w.heap.size, 1, none⟩ = some (.bool sh) ∧ u.cell? ⟨w.heap.size, 2, none⟩ = some (.int .i64 lv) ∧ u.cell? ⟨w5.heap.size, 0, none⟩ = some (.slice (some ⟨g5, 0, none⟩) len len) ∧ u.cell? ⟨w5.heap.size, 1, none⟩ = some (.bool sh) ∧ u.cell? ⟨w5.heap.size, 2, none⟩ = some (.int .i64 lv) ∧ Below w7.heap.size w7 u) => T u (HB7.out.trans (hu.2.2.2.2.2.2.mono HB7.out.size))
    have EQ := fun (u : World) (B : Nat) (g : Nat) (hu : u.cell? ⟨w.heap.size, 0, none⟩ = some (.slice a len cap) ∧ u.cell? ⟨w.heap.size, 1, none⟩ = some (.bool sh) ∧ u.cell? ⟨w.heap.size, 2, none⟩ = some (.int .i64 lv) ∧ u.cell? ⟨w5.heap.size, 0, none⟩ = some (.slice (some ⟨g5, 0, none⟩) len len) ∧ u.cell? ⟨w5.heap.size, 1, none⟩ = some (.bool sh) ∧ u.cell? ⟨w5.heap.size, 2, none⟩ = some (.int .i64 lv) ∧ Below w7.heap.size w7 u) (he : Ents u B (.slice (some ⟨g, 0, none⟩) len len) es) => eqRules_same sh lv hel (I7.out.below hu.2.2.2.2.2.2) he
    clear G HX6 HY6 HB6 I6 b7 hx7 hy7 T p0 p1 p2 q0 q1 q2 HI
    go_wp2_with fail
    go_region_held (fun u => u.cell? ⟨w.heap.size, 0, none⟩ = some (.slice a len cap) ∧ u.cell? ⟨w.heap.size, 1, none⟩ = some (.bool sh) ∧ u.cell? ⟨w.heap.size, 2, none⟩ = some (.int .i64 lv) ∧ u.cell? ⟨w5.heap.size, 0, none⟩ = some (.slice (some ⟨g5, 0, none⟩) len len) ∧ u.cell? ⟨w5.heap.size, 1, none⟩ = some (.bool sh) ∧ u.cell? ⟨w5.heap.size, 2, none⟩ = some (.int .i64 lv) ∧ Below w7.heap.size w7 u)
      (first | exact hS2 | exact K _ _ (by assumption) (by assumption))
      (first | (go_at_call 21; refine (T2 _ (by assumption)).mono ?_; rintro e w' ⟨g, rfl, hEn, hbw⟩) | (go_at_call 23; refine (EQ _ _ _ (by assumption) (by assumption)).mono ?_; rintro e w' ⟨rfl, hbw⟩))
    all_goals
      have hE := (show w'.cell? ⟨w.heap.size, 0, none⟩ = _ ∧ _ ∧ _ ∧ _ ∧ _ ∧ _ ∧ Below w7.heap.size w7 w' by assumption).2.2.2.2.2.2
      clear hS hS2 EQ K T2
      go_wp2
      go_ret
      exact ⟨rfl, HB7.out.trans (hE.mono HB7.out.size)⟩
end Go.Proofs.YtdnelneamnmcnaeDoor
