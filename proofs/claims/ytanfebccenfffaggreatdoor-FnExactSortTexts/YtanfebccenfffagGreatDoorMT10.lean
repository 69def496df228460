/- Texts of mine laid together: WSortTexts. -/
import Derived.Test.YtanfebccenfffagGreatDoorMT7
import Derived.Test.YtanfebccenfffagGreatDoorMT9
namespace Go.Proofs.YtanfebccenfffagGreatDoor
open Go.RowKit

theorem row_mid {w w' : World} {B T B' n k : Nat} {t : TypeId} {v : Value} {l : List Value} (h : w.ownsRow B' t k v n l) (hm : Mid B T w w') (ha : ∀ g, v.ownBlock = some g → g < B ∨ T ≤ g) : w'.ownsRow B' t k v n l := by
  refine ⟨h.1, ?_⟩
  rcases h.2 with h2 | ⟨g, cap, cur, h1, h2, h3, h4⟩
  · exact .inl h2
  · refine .inr ⟨g, cap, cur, h1, h2, ?_, h4⟩
    rw [hm.block g (Array.getElem?_eq_some_iff.1 h3).1 (ha g (by rw [h1]; rfl))]; exact h3

theorem rows_apart {w w' : World} {B B' n n' k k' : Nat} {t t' : TypeId} {v v' : Value} {l l' : List Value} (h : w.ownsRow B t k v n l) (h' : w'.ownsRow B' t' k' v' n' l') (hB : w.heap.size ≤ B') : v.ownBlock = none ∨ v.ownBlock ≠ v'.ownBlock := by
  cases c : v.ownBlock with
  | none => exact .inl rfl
  | some j =>
    refine .inr fun e => ?_
    have l1 := (World.ownsRow.lt h j c).2
    have l2 := (World.ownsRow.lt h' j e.symm).1
    omega

theorem apart_symm {v v' : Value} (h : v.ownBlock = none ∨ v.ownBlock ≠ v'.ownBlock) : v'.ownBlock = none ∨ v'.ownBlock ≠ v.ownBlock := by
  cases c : v'.ownBlock with
  | none => exact .inl rfl
  | some j =>
    refine .inr fun e => ?_
    rcases h with h | h
    · rw [h] at e; cases e
    · exact h (by rw [c]; exact e.symm)

theorem szEs_le : ∀ (es : List Ent) (left : Int), 0 ≤ left → szEs es left ≤ left
  | [], _, _ => Int.le_refl _
  | e :: es, left, h => by
    unfold szEs
    split
    · omega
    · rename_i c
      have hb := szL_bd c
      rw [hb.1]
      have := szEs_le es (left - (e.runes.length : Int)) hb.2
      omega

theorem szA_le (es : List Ent) (left : Int) (h : 0 ≤ left) : szA es left ≤ left := by
  unfold szA
  split
  · omega
  · have := szEs_le es (left - (es.length : Int)) (by omega)
    omega

set_option maxRecDepth 100000 in
set_option maxHeartbeats 8000000 in
theorem sortTexts_walk (w : World) (a : Option Addr) (len cap : Nat) (es : List Ent) (sh : Bool) (lv : Int) (al : Option Addr) (ln lc : Nat) (ss : List ByteArray) (hA : ArgEnts w a len cap es) (hS : ArgStrs w al ln lc ss)
    (I : ∀ (u : World) (B B' : Nat) (v vl : Value), Below w.heap.size w u → Ents u B v es → (∀ e ∈ es, e.runes.length ≤ 1048576) → Strs u B' vl ss → (∀ s ∈ ss, s.size ≤ 1048576) → ss.length ≤ 1048576 → Calls Tryz.prog 10 #[.agg #[v, .bool sh, .int .i64 lv], vl] u fun e w' => ∃ v', e = .returned (.tuple #[v', .bool (okS es lv ss)]) ∧ Strs w' u.heap.size v' (sortS es sh lv ss) ∧ Below u.heap.size u w') :
    Calls Tryz.prog 3 #[.agg #[.slice a len cap, .bool sh, .int .i64 lv], .slice al ln lc] w fun e w' => e = .returned (.bool true) ∧ Below w.heap.size w w' := by
  have hb1 := (Below.refl w.heap.size w).alloc (Nat.le_refl _) (.cells #[.slice a len cap, .bool sh, .int .i64 lv] 24)
  have hx1 : Blk (w.alloc (.cells #[.slice a len cap, .bool sh, .int .i64 lv] 24)) w.heap.size #[.slice a len cap, .bool sh, .int .i64 lv] 24 := heap_alloc_new _ _
  have S := szRules_any w _ a len cap es sh lv 1048576 (by omega) (by omega) hA hb1
  have HA : Hid (ArgEnts w a len cap es) := hA
  have HSA : Hid (ArgStrs w al ln lc ss) := hS
  have HI : Hid _ := I
  have HB1 : Hid (Below _ _ _) := hb1
  have HX1 : Hid (Blk _ _ _ _) := hx1
  have hszle := szA_le es 1048576 (by omega)
  clear hA I hb1 hx1 hS
  by_cases hneg : szA es 1048576 < 0
  · generalize szA es 1048576 = sz at *
    go_enter Tryz.func3, Tryz.ntmps3
    go_wp2_with fail
    refine S.mono ?_
    rintro e w2 ⟨rfl, b2⟩
    clear S
    go_wp2
    go_ret
    exact ⟨rfl, HB1.out.trans (b2.mono HB1.out.size)⟩
  have hbd := szA_bd (es := es) (left := 1048576) (by omega)
  have hem := endM_szA (es := es) (m := 1) (left := 1048576) (by omega)
  have hle : len ≤ 1048576 := by have := HA.out.1; omega
  have HR : Hid (∀ e ∈ es, e.runes.length ≤ 1048576) := fun e he => by have := hbd.2 e he; omega
  have hel : es.length ≤ 1048576 := by omega
  have hpos := endM_ge es 1
  obtain ⟨en, HEN⟩ : ∃ en : Nat, Hid (endM es 1 = (en : Int)) := ⟨(endM es 1).toNat, by show _ = _; omega⟩
  rw [HEN.out] at hem hpos
  clear hbd
  generalize szA es 1048576 = sz at *
  have SS := fun (u : World) (hu : Below w.heap.size w u) => szStrs_any w u al ln lc ss sz (by omega) hszle HSA.out hu
  by_cases hneg2 : szSA ss sz < 0
  · generalize szSA ss sz = sz2 at *
    go_enter Tryz.func3, Tryz.ntmps3
    go_wp2_with fail
    refine S.mono ?_
    rintro e w2 ⟨rfl, b2⟩
    have hb2 := HB1.out.trans (b2.mono HB1.out.size)
    clear S b2
    go_wp2_with fail
    refine (SS _ hb2).mono ?_
    rintro e w3 ⟨rfl, hw3⟩
    obtain rfl : w2 = w3 := hw3.symm
    clear SS
    go_wp2
    go_ret
    exact ⟨rfl, hb2⟩
  · have hbd2 := szSA_bd (ss := ss) (left := sz) (by omega)
    have hln : ln ≤ 1048576 := by have := HSA.out.1; omega
    have hsl : ss.length ≤ 1048576 := by omega
    have HSZ : Hid (∀ s ∈ ss, s.size ≤ 1048576) := fun s hs => by have := hbd2.2 s hs; omega
    clear hbd2
    generalize szSA ss sz = sz2 at *
    have T := fun (u : World) (hu : Below w.heap.size w u) => toRules_any w u a len cap es sh lv HA.out hu hle HR.out
    have TD := fun (u : World) (hu : Below w.heap.size w u) => toRulesD_any w u a len cap es sh lv HA.out hu hle HR.out
    have TS := fun (u : World) (hu : Below w.heap.size w u) => toStrs_any w u al ln lc ss HSA.out hu hln
    have A0 := fun (u : World) (B B' : Nat) (v vl : Value) (h : Ents u B v es) (h' : Strs u B' vl ss) => specSort_any (sh := sh) (lv := lv) ss h HR.out h' HSZ.out hsl
    have I0 := fun (u : World) (B B' : Nat) (v vl : Value) (hu : Below w.heap.size w u) (h : Ents u B v es) (h' : Strs u B' vl ss) => HI.out u B B' v vl hu h HR.out h' HSZ.out hsl
    have hll := sortS_len es sh lv ss
    generalize sortS es sh lv ss = rs at *
    generalize okS es lv ss = ok at *
    have hlns : ss.length = ln := HSA.out.1
    have HLNS : Hid (ss.length = ln) := hlns
    have HA0 : Hid _ := A0
    have HI0 : Hid _ := I0
    have HTD : Hid _ := TD
    clear A0 I0 HI TD hlns
    go_enter Tryz.func3, Tryz.ntmps3
    go_wp2_with fail
    refine S.mono ?_
    rintro e w2 ⟨rfl, b2⟩
    clear S
    have HX2 : Hid (Blk _ _ _ _) := HX1.out.below b2
    have HB2 : Hid (Below _ _ _) := HB1.out.trans (b2.mono HB1.out.size)
    clear HX1 HB1 b2
    go_wp2_with fail
    refine (SS _ HB2.out).mono ?_
    rintro e w2' ⟨rfl, hw2⟩
    obtain rfl : w2 = w2' := hw2.symm
    obtain ⟨p0, p1, p2⟩ := HX2.out.three
    clear SS
    go_wp2_with fail
    refine (T _ HB2.out).mono ?_
    rintro e w3 ⟨g3, rfl, i3, b3⟩
    have HX3 : Hid (Blk _ _ _ _) := HX2.out.below b3
    have HB3 : Hid (Below _ _ _) := HB2.out.trans (b3.mono HB2.out.size)
    have HI3 : Hid (Ents _ _ _ _) := i3
    clear p0 p1 p2 HX2 HB2 b3 i3
    go_wp2_with fail
    refine (TS _ HB3.out).mono ?_
    rintro e w4 ⟨g4, rfl, s4, b4⟩
    have HX4 : Hid (Blk _ _ _ _) := HX3.out.below b4
    have HB4 : Hid (Below _ _ _) := HB3.out.trans (b4.mono HB3.out.size)
    have A := HA0.out _ _ _ _ _ (HI3.out.below b4) s4
    clear HX3 HB3 HI3 b4 s4 HA0
    go_wp2_with fail
    refine A.mono ?_
    rintro e w5 ⟨v5, rfl, r5, b5⟩
    have HX5 : Hid (Blk _ _ _ _) := HX4.out.below b5
    have HB5 : Hid (Below _ _ _) := HB4.out.trans (b5.mono HB4.out.size)
    have H55 : Hid (Strs w5 w4.heap.size v5 rs) := r5
    have HXL : Hid (w.heap.size < w5.heap.size) := HX5.out.lt
    obtain ⟨p0, p1, p2⟩ := HX5.out.three
    clear A HX4 HB4 b5 r5
    go_wp2_with fail
    refine (HTD.out _ HB5.out).mono ?_
    rintro e w6 ⟨g6, rfl, d6, b6⟩
    have b67 := (Below.refl w6.heap.size w6).alloc (Nat.le_refl _) (.cells #[.slice (some ⟨g6, 0, none⟩) len len, .bool sh, .int .i64 lv] 32)
    have HX7 : Hid (Blk _ _ _ _) := (HX5.out.below b6).below b67
    have HY7 : Hid (Blk (w6.alloc (.cells #[.slice (some ⟨g6, 0, none⟩) len len, .bool sh, .int .i64 lv] 32)) w6.heap.size #[.slice (some ⟨g6, 0, none⟩) len len, .bool sh, .int .i64 lv] 32) := heap_alloc_new _ _
    have H57 : Hid (Below _ _ _) := b6.trans (b67.mono b6.size)
    have HB6 := HB5.out.trans (b6.mono HB5.out.size)
    have HB7 : Hid (Below _ _ _) := HB6.trans (b67.mono HB6.size)
    have D7 : Hid (EntsD _ _ _ _ _) := d6.below b67
    have HS7 : Hid (w6.heap.size < (w6.alloc (.cells #[.slice (some ⟨g6, 0, none⟩) len len, .bool sh, .int .i64 lv] 32)).heap.size) := by show _ < _; simp
    have HS56 : Hid (w5.heap.size ≤ w6.heap.size) := b6.size
    clear p0 p1 p2 HX5 b6 b67 d6 HB6 HTD
    go_wp2_with fail
    refine (TS _ HB7.out).mono ?_
    rintro e w8 ⟨g8, rfl, s8, b8⟩
    have HX8 : Hid (Blk _ _ _ _) := HX7.out.below b8
    have HY8 : Hid (Blk _ _ _ _) := HY7.out.below b8
    have HB8 : Hid (Below _ _ _) := HB7.out.trans (b8.mono HB7.out.size)
    have D8 : Hid (EntsD _ _ _ _ _) := D7.out.below b8
    have H58 : Hid (Below _ _ _) := H57.out.trans (b8.mono H57.out.size)
    have H88 : Hid (Strs w8 _ (.slice (some ⟨g8, 0, none⟩) ln ln) ss) := s8
    have G := HI0.out _ _ _ _ _ HB8.out D8.out.ents s8
    have HA8 : Hid (w6.heap.size < g8) := by show _ < _; have := (World.ownsRow.lt s8 g8 rfl).1; have := HS7.out; omega
    obtain ⟨q0, q1, q2⟩ := HY8.out.three
    clear HX7 HY7 HB7 D7 H57 b8 s8
    go_wp2_with fail
    refine G.mono ?_
    rintro e w9 ⟨v9, rfl, r9, b9⟩
    have HX9 : Hid (Blk _ _ _ _) := HX8.out.below b9
    have HY9 : Hid (Blk _ _ _ _) := HY8.out.below b9
    have HB9 : Hid (Below _ _ _) := HB8.out.trans (b9.mono HB8.out.size)
    have D9 : Hid (EntsD _ _ _ _ _) := D8.out.below b9
    have H59 : Hid (Below _ _ _) := H58.out.trans (b9.mono H58.out.size)
    have H89 : Hid (Strs w9 _ (.slice (some ⟨g8, 0, none⟩) ln ln) ss) := H88.out.below b9
    have H99 : Hid (Strs w9 w8.heap.size v9 rs) := r9
    have HP98 : Hid ((Value.slice (some ⟨g8, 0, none⟩) ln ln).ownBlock = none ∨ (Value.slice (some ⟨g8, 0, none⟩) ln ln).ownBlock ≠ v9.ownBlock) := rows_apart H88.out r9 (Nat.le_refl _)
    have HP58 : Hid (v5.ownBlock = none ∨ v5.ownBlock ≠ (Value.slice (some ⟨g8, 0, none⟩) ln ln).ownBlock) := by
      show _ ∨ _
      cases c : v5.ownBlock with
      | none => exact .inl rfl
      | some j =>
        refine .inr fun e => ?_
        have l1 := (World.ownsRow.lt H55.out j c).2
        have : j = g8 := Option.some.inj e
        have := HA8.out
        have := HS56.out
        omega
    have HP59 : Hid (v5.ownBlock = none ∨ v5.ownBlock ≠ v9.ownBlock) := rows_apart H55.out r9 H58.out.size
    have HG9 : Hid (∀ g, v9.ownBlock = some g → w6.heap.size ≤ g ∧ w.heap.size < g) := fun g hg => by have := (World.ownsRow.lt r9 g hg).1; have := HS7.out; have := H58.out.size; have := HXL.out; have := HS56.out; have := HA8.out; have := (World.ownsRow.lt H88.out g8 rfl).2; omega
    have HG5 : Hid (∀ g, v5.ownBlock = some g → g < w5.heap.size) := fun g hg => (World.ownsRow.lt H55.out g hg).2
    have E9 := eqStr_any (by omega) r9 (H55.out.below H59.out)
    clear G HX8 HY8 HB8 D8 H58 H88 b9 r9 q0 q1 q2
    go_wp2_with fail
    refine E9.mono ?_
    rintro e w10 ⟨rfl, nqb10, hqb10⟩
    have b10 : Below w9.heap.size w9 w10 := by rw [hqb10]; exact below_drewN (Below.refl _ _) nqb10
    clear hqb10
    have hx10 := HX9.out.below b10
    have hy10 := HY9.out.below b10
    have HB10 : Hid (Below _ _ _) := HB9.out.trans (b10.mono HB9.out.size)
    have D10 : Hid (EntsD _ _ _ _ _) := D9.out.below b10
    have H510 : Hid (Below _ _ _) := H59.out.trans (b10.mono H59.out.size)
    have H810 : Hid (Strs w10 _ (.slice (some ⟨g8, 0, none⟩) ln ln) ss) := H89.out.below b10
    have H910 : Hid (Strs w10 w8.heap.size v9 rs) := H99.out.below b10
    obtain ⟨p0, p1, p2⟩ := hx10.three
    obtain ⟨q0, q1, q2⟩ := hy10.three
    have hgx := hx10.lt
    have hgy := hy10.lt
    have HX10 : Hid (Blk _ _ _ _) := hx10
    have HY10 : Hid (Blk _ _ _ _) := hy10
    have hS : w10.cell? ⟨w.heap.size, 0, none⟩ = some (.slice a len cap) ∧ w10.cell? ⟨w.heap.size, 1, none⟩ = some (.bool sh) ∧ w10.cell? ⟨w.heap.size, 2, none⟩ = some (.int .i64 lv) ∧ w10.cell? ⟨w6.heap.size, 0, none⟩ = some (.slice (some ⟨g6, 0, none⟩) len len) ∧ w10.cell? ⟨w6.heap.size, 1, none⟩ = some (.bool sh) ∧ w10.cell? ⟨w6.heap.size, 2, none⟩ = some (.int .i64 lv) ∧ Below w10.heap.size w10 w10 := ⟨p0, p1, p2, q0, q1, q2, Below.refl _ _⟩
    have hS2 := keep6 hgx hgy ((Below.refl w10.heap.size w10).drew) hS
    have K := fun (u1 u2 : World) (hb : Below u1.heap.size u1 u2) (hu : u1.cell? ⟨w.heap.size, 0, none⟩ = some (.slice a len cap) ∧ u1.cell? ⟨w.heap.size, 1, none⟩ = some (.bool sh) ∧ u1.cell? ⟨w.heap.size, 2, none⟩ = some (.int .i64 lv) ∧ u1.cell? ⟨w6.heap.size, 0, none⟩ = some (.slice (some ⟨g6, 0, none⟩) len len) ∧ u1.cell? ⟨w6.heap.size, 1, none⟩ = some (.bool sh) ∧ u1.cell? ⟨w6.heap.size, 2, none⟩ = some (.int .i64 lv) ∧ Below w10.heap.size w10 u1) => keep6 hgx hgy hb hu
    have T2 := fun (u : World) (hu : u.cell? ⟨w.heap.size, 0, none⟩ = some (.slice a len cap) ∧ u.cell? ⟨w.heap.size, 1, none⟩ = some (.bool sh) ∧ u.cell? ⟨w.heap.size, 2, none⟩ = some (.int .i64 lv) ∧ u.cell? ⟨w6.heap.size, 0, none⟩ = some (.slice (some ⟨g6, 0, none⟩) len len) ∧ u.cell? ⟨w6.heap.size, 1, none⟩ = some (.bool sh) ∧ u.cell? ⟨w6.heap.size, 2, none⟩ = some (.int .i64 lv) ∧ Below w10.heap.size w10 u) => T u (HB10.out.trans (hu.2.2.2.2.2.2.mono HB10.out.size))
    have EQ := fun (u : World) (B : Nat) (g : Nat) (hu : u.cell? ⟨w.heap.size, 0, none⟩ = some (.slice a len cap) ∧ u.cell? ⟨w.heap.size, 1, none⟩ = some (.bool sh) ∧ u.cell? ⟨w.heap.size, 2, none⟩ = some (.int .i64 lv) ∧ u.cell? ⟨w6.heap.size, 0, none⟩ = some (.slice (some ⟨g6, 0, none⟩) len len) ∧ u.cell? ⟨w6.heap.size, 1, none⟩ = some (.bool sh) ∧ u.cell? ⟨w6.heap.size, 2, none⟩ = some (.int .i64 lv) ∧ Below w10.heap.size w10 u) (he : Ents u B (.slice (some ⟨g, 0, none⟩) len len) es) => eqRules_same sh lv hel (D10.out.ents.below hu.2.2.2.2.2.2) he
    have HT : Hid _ := T
    clear E9 HX9 HY9 HB9 D9 H59 H89 H99 b10 hx10 hy10 T p0 p1 p2 q0 q1 q2
    go_wp2_with fail
    go_region_held (fun u => u.cell? ⟨w.heap.size, 0, none⟩ = some (.slice a len cap) ∧ u.cell? ⟨w.heap.size, 1, none⟩ = some (.bool sh) ∧ u.cell? ⟨w.heap.size, 2, none⟩ = some (.int .i64 lv) ∧ u.cell? ⟨w6.heap.size, 0, none⟩ = some (.slice (some ⟨g6, 0, none⟩) len len) ∧ u.cell? ⟨w6.heap.size, 1, none⟩ = some (.bool sh) ∧ u.cell? ⟨w6.heap.size, 2, none⟩ = some (.int .i64 lv) ∧ Below w10.heap.size w10 u)
      (first | exact hS2 | exact K _ _ (by assumption) (by assumption))
      (first | (go_at_call 8; refine (T2 _ (by assumption)).mono ?_; rintro e w' ⟨g, rfl, hEn, hbw⟩) | (go_at_call 12; refine (EQ _ _ _ (by assumption) (by assumption)).mono ?_; rintro e w' ⟨rfl, hbw⟩))
    all_goals
      have hE := (show w'.cell? ⟨w.heap.size, 0, none⟩ = _ ∧ _ ∧ _ ∧ _ ∧ _ ∧ _ ∧ Below w10.heap.size w10 w' by assumption).2.2.2.2.2.2
      clear hS hS2 EQ K T2
      have HX11 : Hid (Blk _ _ _ _) := HX10.out.below hE
      have HY11 : Hid (Blk _ _ _ _) := HY10.out.below hE
      have HB11 : Hid (Below _ _ _) := HB10.out.trans (hE.mono HB10.out.size)
      have D11 : Hid (EntsD _ _ _ _ _) := D10.out.below hE
      have H511 : Hid (Below _ _ _) := H510.out.trans (hE.mono H510.out.size)
      have H811 : Hid (Strs w' _ (.slice (some ⟨g8, 0, none⟩) ln ln) ss) := H810.out.below hE
      have H911 : Hid (Strs w' w8.heap.size v9 rs) := H910.out.below hE
      clear HX10 HY10 HB10 D10 H510 H810 H910 hE
      go_wp2_with fail
      refine (TS _ HB11.out).mono ?_
      rintro e w12 ⟨g12, rfl, s12, b12⟩
      have E12 := eqStr_any hsl (H811.out.below b12) s12
      have HB12 : Hid (Below _ _ _) := HB11.out.trans (b12.mono HB11.out.size)
      have H512 : Hid (Below _ _ _) := H511.out.trans (b12.mono H511.out.size)
      have HX12 : Hid (Blk _ _ _ _) := HX11.out.below b12
      have HY12 : Hid (Blk _ _ _ _) := HY11.out.below b12
      have D12 : Hid (EntsD _ _ _ _ _) := D11.out.below b12
      have H812 : Hid (Strs w12 _ (.slice (some ⟨g8, 0, none⟩) ln ln) ss) := H811.out.below b12
      have H912 : Hid (Strs w12 w8.heap.size v9 rs) := H911.out.below b12
      clear HX11 HY11 HB11 D11 H511 H811 H911 b12 s12
      go_wp2_with fail
      refine E12.mono ?_
      rintro e w13 ⟨rfl, nqb13, hqb13⟩
      have b13 : Below w12.heap.size w12 w13 := by rw [hqb13]; exact below_drewN (Below.refl _ _) nqb13
      clear hqb13
      have HB13 : Hid (Below _ _ _) := HB12.out.trans (b13.mono HB12.out.size)
      have H513 : Hid (Below _ _ _) := H512.out.trans (b13.mono H512.out.size)
      have HX13 : Hid (Blk _ _ _ _) := HX12.out.below b13
      have HY13 : Hid (Blk _ _ _ _) := HY12.out.below b13
      have D13 : Hid (EntsD _ _ _ _ _) := D12.out.below b13
      have H813 : Hid (Strs w13 _ (.slice (some ⟨g8, 0, none⟩) ln ln) ss) := H812.out.below b13
      have H913 : Hid (Strs w13 w8.heap.size v9 rs) := H912.out.below b13
      have M13 := markRules1_any (m0 := 1) sh lv (by omega) (by rw [HEN.out]; omega) hel D13.out
      rw [HEN.out] at M13
      obtain ⟨q0, q1, q2⟩ := HY13.out.three
      clear E12 HX12 HY12 HB12 D12 H512 H812 H912 b13
      go_wp2_with fail
      refine M13.mono ?_
      rintro e w14 ⟨rfl, _, m14⟩
      have b14 := m14.below H513.out.size
      have HX14 : Hid (Blk _ _ _ _) := HX13.out.mid m14 (.inl HXL.out)
      have HB14 : Hid (Below _ _ _) := HB13.out.trans (b14.mono HB5.out.size)
      have H514 : Hid (Strs w14 w4.heap.size v5 rs) := row_mid (H55.out.below H513.out) m14 (fun g hg => .inl (HG5.out g hg))
      have H814 : Hid (Strs w14 _ (.slice (some ⟨g8, 0, none⟩) ln ln) ss) := row_mid H813.out m14 (fun g hg => .inr (by have : g = g8 := (Option.some.inj hg).symm; have := HA8.out; omega))
      have H914 : Hid (Strs w14 w8.heap.size v9 rs) := row_mid H913.out m14 (fun g hg => .inr (HG9.out g hg).1)
      have MS := markT_any (m := en) (by omega) (by omega) hsl H814.out
      rw [HLNS.out] at MS
      clear M13 HX13 HY13 HB13 D13 H513 H813 H913 m14 b14 q0 q1 q2
      go_wp2_with fail
      refine MS.mono ?_
      rintro e w15 ⟨rfl, _, g15⟩
      have HX15 : Hid (Blk w15 w.heap.size #[.slice a len cap, .bool sh, .int .i64 lv] 24) := by
        show w15.heap[w.heap.size]? = _
        rw [g15.block w.heap.size HX14.out.lt (fun c => by have : w.heap.size = g8 := Option.some.inj c; have := HA8.out; have := HXL.out; have := HS56.out; omega)]
        exact HX14.out
      have HB15 : Hid (Below w.heap.size w w15) := Below.grown HB14.out g15 HB14.out.size (fun g hg => by have : g = g8 := (Option.some.inj hg).symm; have := HA8.out; have := HXL.out; have := HS56.out; omega)
      have H515 : Hid (Strs w15 w4.heap.size v5 rs) := World.ownsRow.kept H514.out g15 HP58.out
      have H915 : Hid (Strs w15 w8.heap.size v9 rs) := World.ownsRow.kept H914.out g15 (apart_symm HP98.out)
      have E15 := eqStr_any (by omega) H915.out H515.out
      have hk8 : ¬ (((en + ln : Nat) : Int) < 0) := by omega
      have hk9 : decide (((en + ln : Nat) : Int) < 0) = false := decide_eq_false hk8
      obtain ⟨kq, HKQ⟩ : ∃ kq : Int, Hid (((en + ln : Nat) : Int) = kq) := ⟨_, rfl⟩
      rw [HKQ.out] at hk8 hk9
      rw [HKQ.out]
      clear MS HX14 HB14 H514 H814 H914 g15 HKQ
      go_wp2_with fail
      refine E15.mono ?_
      rintro e w16 ⟨rfl, nqb16, hqb16⟩
      have b16 : Below w15.heap.size w15 w16 := by rw [hqb16]; exact below_drewN (Below.refl _ _) nqb16
      clear hqb16
      have HX16 : Hid (Blk _ _ _ _) := HX15.out.below b16
      have HB16 : Hid (Below _ _ _) := HB15.out.trans (b16.mono HB15.out.size)
      have H516 : Hid (Strs w16 w4.heap.size v5 rs) := H515.out.below b16
      have H916 : Hid (Strs w16 w8.heap.size v9 rs) := H915.out.below b16
      have M16 := markT_any (m := 1) (by omega) (by omega) (by omega) H916.out
      clear E15 HX15 HB15 H515 H915 b16
      go_wp2_with fail
      refine M16.mono ?_
      rintro e w17 ⟨rfl, r17, g17⟩
      have HX17 : Hid (Blk w17 w.heap.size #[.slice a len cap, .bool sh, .int .i64 lv] 24) := by
        show w17.heap[w.heap.size]? = _
        rw [g17.block w.heap.size HX16.out.lt (fun c => by have := (HG9.out _ c.symm).2; omega)]
        exact HX16.out
      have HB17 : Hid (Below w.heap.size w w17) := Below.grown HB16.out g17 HB16.out.size (fun g hg => by have := (HG9.out g hg).2; omega)
      have H517 : Hid (Strs w17 w4.heap.size v5 rs) := World.ownsRow.kept H516.out g17 HP59.out
      have H917 : Hid (Strs w17 w8.heap.size v9 (seqT 1 rs.length)) := r17
      have L17 := heldT_any (m := 1) (by omega) (by omega) (by omega) r17
      obtain ⟨mq, HMQ⟩ : ∃ mq : Nat, Hid (1 + rs.length = mq) := ⟨_, rfl⟩
      rw [HMQ.out] at L17
      rw [HMQ.out]
      have hm8 : ¬ ((mq : Int) < 0) := by omega
      clear M16 HX16 HB16 H516 H916 r17 g17
      go_wp2_with fail
      refine L17.mono ?_
      rintro e w18 ⟨rfl, b18⟩
      have HX18 : Hid (Blk _ _ _ _) := HX17.out.below b18
      have HB18 : Hid (Below _ _ _) := HB17.out.trans (b18.mono HB17.out.size)
      have H518 : Hid (Strs w18 w4.heap.size v5 rs) := H517.out.below b18
      have H918 : Hid (Strs w18 w8.heap.size v9 (seqT 1 rs.length)) := H917.out.below b18
      obtain ⟨p0, p1, p2⟩ := HX18.out.three
      clear L17 HX17 HB17 H517 H917 b18
      go_wp2_with fail
      refine (HT.out _ HB18.out).mono ?_
      rintro e w19 ⟨g19, rfl, i19, b19⟩
      have HB19 : Hid (Below _ _ _) := HB18.out.trans (b19.mono HB18.out.size)
      have H519 : Hid (Strs w19 w4.heap.size v5 rs) := H518.out.below b19
      have H919 : Hid (Strs w19 w8.heap.size v9 (seqT 1 rs.length)) := H918.out.below b19
      have HI19 : Hid (Ents _ _ _ _) := i19
      clear p0 p1 p2 HX18 HB18 H518 H918 b19 i19 HT
      go_wp2_with fail
      refine (TS _ HB19.out).mono ?_
      rintro e w20 ⟨g20, rfl, s20, b20⟩
      have HB20 : Hid (Below _ _ _) := HB19.out.trans (b20.mono HB19.out.size)
      have H520 : Hid (Strs w20 w4.heap.size v5 rs) := H519.out.below b20
      have H920 : Hid (Strs w20 w8.heap.size v9 (seqT 1 rs.length)) := H919.out.below b20
      have G20 := HI0.out _ _ _ _ _ HB20.out (HI19.out.below b20) s20
      clear HB19 H519 H919 HI19 b20 s20 HI0 TS
      go_wp2_with fail
      refine G20.mono ?_
      rintro e w21 ⟨v21, rfl, r21, b21⟩
      have HB21 : Hid (Below _ _ _) := HB20.out.trans (b21.mono HB20.out.size)
      have H521 : Hid (Strs w21 w4.heap.size v5 rs) := H520.out.below b21
      have H921 : Hid (Strs w21 w8.heap.size v9 (seqT 1 rs.length)) := H920.out.below b21
      have E21 := eqStr_any (by omega) r21 H521.out
      clear G20 HB20 H520 H920 r21 b21
      go_wp2_with fail
      refine E21.mono ?_
      rintro e w22 ⟨rfl, nqb22, hqb22⟩
      have b22 : Below w21.heap.size w21 w22 := by rw [hqb22]; exact below_drewN (Below.refl _ _) nqb22
      clear hqb22
      have HB22 : Hid (Below _ _ _) := HB21.out.trans (b22.mono HB21.out.size)
      have L22 := heldT_any (m := 1) (by omega) (by omega) (by omega) (H921.out.below b22)
      rw [HMQ.out] at L22
      clear E21 HB21 H521 H921 b22 HMQ
      go_wp2_with fail
      refine L22.mono ?_
      rintro e w23 ⟨rfl, b23⟩
      clear L22
      go_wp2
      go_ret
      exact ⟨rfl, HB22.out.trans (b23.mono HB22.out.size)⟩
end Go.Proofs.YtanfebccenfffagGreatDoor
