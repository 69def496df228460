/- Texts of mine laid together: IShort, IMatch5, IRange, IPieces. -/
import Derived.Test.YtinjldagfhbioaaGreatDoorMD6
import Derived.Test.YtinjldagfhbioaaGreatDoorMD2
import Derived.Test.YtinjldagfhbioaaGreatDoorMD7
import Derived.Test.YtinjldagfhbioaaGreatDoorMD1
import Derived.Test.YtinjldagfhbioaaGreatDoorMD3
import Derived.Test.YtinjldagfhbioaaGreatDoorMD5
import Derived.Deep.Cut
import Derived.Deep.CutRange
import Derived.Deep.RegionLaw
import Derived.Test.YtinjldagfhbioaaGreatDoorInts
import Derived.RangeFuncNested
import Derived.RangeFuncBound
import Derived.RangeFuncCalls
import Derived.RangeFuncLeaves
namespace Go.Proofs.YtinjldagfhbioaaGreatDoor
open Go.RowKit

theorem equal_bw {w : World} {B B' : Nat} {a b : Value} {za zb : List Int} (hza : za.length ≤ 1048576) (hzb : zb.length ≤ 1048576) (ha : Ints w B a za) (hb : Ints w B' b zb) :
    Calls Tryz.prog 24 #[a, b] w fun e w' => e = .returned (.bool (decide (za = zb))) ∧ Below w.heap.size w w' :=
  (equal_any hza hzb ha hb).mono fun e w' ⟨h1, n, h2⟩ => ⟨h1, by rw [h2]; exact below_drewN (Below.refl _ _) n⟩

theorem alike_bw {w : World} {B B' : Nat} {va vb : Value} {a b : List Int} (ha : a.length ≤ 1048576) (hb : b.length ≤ 1048576) (hra : ∀ x ∈ a, 1 ≤ x ∧ x ≤ 65535) (hrb : ∀ x ∈ b, 1 ≤ x ∧ x ≤ 65535) (h1 : Ints w B va a) (h2 : Ints w B' vb b) :
    Calls Tryz.prog 60 #[va, vb] w fun e w' => e = .returned (.int .i64 (alike a b)) ∧ Below w.heap.size w w' :=
  (alike_any ha hb hra hrb h1 h2).mono fun e w' ⟨h1, n, h2⟩ => ⟨h1, by rw [h2]; exact below_drewN (Below.refl _ _) n⟩

/-- What shortest answers. -/
def shV : Option Nat → Value
  | none => .tuple #[.int .i64 0, .bool false]
  | some m => .tuple #[.int .i64 m, .bool true]

/-- What is held from one piece to the next. -/
def ShRel (W : World) (b : Nat) (ve : Value) (sh : Bool) (lv : Int) (es : List Ent) (want : List Int) (pc : Nat → List Int) (N k : Nat) (R : Option Nat) (v : Value) (wr : World) : Prop :=
  ∃ a vs vr st rest, v = .int .i64 (a : Nat) ∧ k ≤ a ∧ a ≤ N ∧ Str W wr b ve sh lv vs vr st rest ∧ st.length + 2 * rest.length ≤ 2 * (catP pc k (a - k)).length ∧ (∀ x ∈ rest, goodB x = true) ∧ (∀ y ∈ st, 1 ≤ y ∧ y ≤ 65535) ∧ shortF es sh want pc (N - a) a st rest = R

set_option maxRecDepth 100000 in
set_option maxHeartbeats 8000000 in
theorem shortest_any {w : World} {B BW : Nat} {ve vc vp vw : Value} {es : List Ent} {sh : Bool} {lv : Int} {want : List Int} {pc : Nat → List Int} {N k : Nat} (hE : Ents w B ve es) (hne : es.length ≤ 1048576) (hr : ∀ e ∈ es, e.runes.length ≤ 1048576) (ht : Tabs3 w)
    (hP : Pcs w vp pc N) (hW : Ints w BW vw want) (hwl : want.length ≤ 4000) (hN : N ≤ 1048576) (hk : k ≤ N) (hcat : ∀ n, k + n ≤ N → (catP pc k n).length ≤ 200) (hg : ∀ i, ∀ x ∈ pc i, goodB x = true)
    (hww : ∀ y ∈ want, 1 ≤ y ∧ y ≤ 65535) (hes : ∀ run, (∀ x ∈ run, goodB x = true) → ∀ y ∈ firstsE sh (elsOf es run), 1 ≤ y ∧ y ≤ 65535) :
    Calls Tryz.prog 37 #[.agg #[ve, .bool sh, .int .i64 lv, vc, vp, vw], .int .i64 k] w fun e w' => e = .returned (shV (if want = [] then none else shortF es sh want pc (N - k) k [] [])) ∧ Below w.heap.size w w' := by
  obtain ⟨ea, ec, rfl⟩ : ∃ a c, ve = .slice a es.length c := by
    rcases hE.form with ⟨rfl, rfl⟩ | ⟨_, _, rfl, _, _, _, _⟩
    · exact ⟨_, _, rfl⟩
    · exact ⟨_, _, rfl⟩
  obtain ⟨pa, pcap, rfl, hPi⟩ := hP
  obtain ⟨wa, wc0, rfl⟩ := ints_form hW
  have hbx : Below w.heap.size w (w.alloc (.cells #[.slice ea es.length ec, .bool sh, .int .i64 lv, vc, .slice pa N pcap, .slice wa want.length wc0] 54)) := (Below.refl _ _).alloc (Nat.le_refl _) _
  have hbox : (w.alloc (.cells #[.slice ea es.length ec, .bool sh, .int .i64 lv, vc, .slice pa N pcap, .slice wa want.length wc0] 54)).heap[w.heap.size]? = some (.cells #[.slice ea es.length ec, .bool sh, .int .i64 lv, vc, .slice pa N pcap, .slice wa want.length wc0] 54) := heap_alloc_new w _
  by_cases h0 : want = []
  · subst h0
    rw [if_pos rfl]
    go_enter Tryz.func37, Tryz.ntmps37
    go_wp2
    go_ret2
    exact ⟨rfl, hbx⟩
  · have hw8 : ¬ ((want.length : Int) = 0) := by
      have := List.length_pos_iff.2 h0
      omega
    have hw9 : ((want.length : Int) == 0) = false := by simpa using hw8
    rw [if_neg h0]
    obtain ⟨R, HR⟩ : ∃ R, Hid (shortF es sh want pc (N - k) k [] [] = R) := ⟨_, rfl⟩
    rw [HR.out]
    obtain ⟨W, HWe⟩ : ∃ W, Hid (W = w.alloc (.cells #[.slice ea es.length ec, .bool sh, .int .i64 lv, vc, .slice pa N pcap, .slice wa want.length wc0] 54)) := ⟨_, rfl⟩
    have hWs : W.heap.size = w.heap.size + 1 := by rw [HWe.out]; simp
    rw [← HWe.out] at hbx hbox
    have HE : Hid (Ents W B (.slice ea es.length ec) es) := hE.below hbx
    have HT : Hid (Tabs3 W) := ht.below hbx
    have HWW : Hid (Ints W BW (.slice wa want.length wc0) want) := hW.below hbx
    have HPP : Hid (Pcs W (.slice pa N pcap) pc N) := Pcs.below ⟨pa, pcap, rfl, hPi⟩ hbx
    have HBX : Hid (Below w.heap.size w W) := hbx
    have HBB : Hid (W.heap[w.heap.size]? = _) := hbox
    have HCAT : Hid (∀ n, k + n ≤ N → (catP pc k n).length ≤ 200) := hcat
    have HGG : Hid (∀ i, ∀ x ∈ pc i, goodB x = true) := hg
    have HST0 : Hid (Str W (W.alloc (.cells #[.slice ea es.length ec, .bool sh, .int .i64 lv, .slice none 0 0, .slice none 0 0] 106)) (w.heap.size + 1) (.slice ea es.length ec) sh lv (.slice none 0 0) (.slice none 0 0) [] []) := by
      refine ⟨by omega, ?_, ⟨rfl, .inl ⟨rfl, rfl⟩⟩, .inl ⟨rfl, rfl⟩, .inl rfl, (Below.refl _ _).alloc (Nat.le_refl _) _⟩
      rw [← hWs]
      exact heap_alloc_new W _
    have hN8 : (N : Int) ≤ 1048576 := by omega
    clear hE ht hW hPi hbx hbox hcat hg
    go_enter Tryz.func37, Tryz.ntmps37
    go_wp2_with fail
    rw [← HWe.out]
    clear HWe
    go_loopw [7] (fun v wr => ShRel W (w.heap.size + 1) (.slice ea es.length ec) sh lv es want pc N k R v wr) (fun v _ => N - (intOf v).toNat)
    case atStart => exact ⟨k, _, _, [], [], rfl, Nat.le_refl _, hk, HST0.out, by simp, (fun x hx => by cases hx), (fun y hy => by cases hy), HR.out⟩
    case round =>
      clear HST0 HR
      obtain ⟨a, vs, vr, st, rest, rfl, hka, haN, hS, hlen, hgd, hst, hsh⟩ := hrel
      have hbr := hS.2.2.2.2.2
      have hbx' : wr.heap[w.heap.size]? = _ := (hbr.block w.heap.size (by omega)).trans HBB.out
      have x4 := cell_of_row _ _ 4 _ _ _ hbx'
      have x5 := cell_of_row _ _ 5 _ _ _ hbx'
      have hbl : w.heap.size + 1 < wr.heap.size := (Array.getElem?_eq_some_iff.1 hS.2.1).1
      by_cases haN2 : a < N
      · have ha8 : (a : Int) < (N : Int) := by omega
        obtain ⟨pa', pc', hpv, hPi⟩ := HPP.out.below hbr
        obtain ⟨rfl, _, rfl⟩ := Value.slice.inj hpv
        obtain ⟨g, gx, fx, cx, rfl, hgl, hgc, hgxl, hgy⟩ := hPi a haN2
        have hcl : (catP pc k (a - k)).length + (pc a).length ≤ 200 := by
          have := HCAT.out (a - k + 1) (by omega)
          rw [catP, List.length_append, show k + (a - k) = a by omega] at this
          exact this
        have GR := grow_any (cx := cx) HE.out hne hr HT.out hS hgxl hgy (by omega) (by omega) hgd (HGG.out a)
        obtain ⟨q1, q2, q3⟩ := growS_bd (es := es) (sh := sh) (st := st) (rest := rest) hgd (HGG.out a) hes hst
        have HSH : Hid ((if (growS es sh st rest (pc a)).1 ++ firstsB es sh (growS es sh st rest (pc a)).2 = want then some (a + 1) else if alike (growS es sh st rest (pc a)).1 want < (growS es sh st rest (pc a)).1.length then none else shortF es sh want pc (N - (a + 1)) (a + 1) (growS es sh st rest (pc a)).1 (growS es sh st rest (pc a)).2) = R) := by
          show _ = _
          rw [← hsh, show N - a = (N - (a + 1)) + 1 by omega, shortF]
        generalize growS es sh st rest (pc a) = gs at *
        have hlen2 : gs.1.length + 2 * gs.2.length ≤ 2 * (catP pc k (a + 1 - k)).length := by
          rw [show a + 1 - k = (a - k) + 1 by omega, catP, List.length_append, show k + (a - k) = a by omega]
          omega
        have hlen3 : gs.1.length + 2 * gs.2.length ≤ 400 := by omega
        have HPI : Hid _ := hPi
        clear hS hsh hgd hst hPi hgy hlen hbr hbx'
        go_wp2_with fail
        refine GR.mono ?_
        rintro e w2 ⟨rfl, vs2, vr2, hS2⟩
        obtain ⟨sa, sc, rfl⟩ := ints_form hS2.2.2.1
        have HS2 : Hid (Str _ _ _ _ _ _ _ _ _ _) := hS2
        have hb2 := hS2.2.2.2.2.2
        have hbx2 : w2.heap[w.heap.size]? = _ := (hb2.block w.heap.size (by omega)).trans HBB.out
        have y5 := cell_of_row _ _ 5 _ _ _ hbx2
        have hbl2 : w.heap.size + 1 < w2.heap.size := (Array.getElem?_eq_some_iff.1 hS2.2.1).1
        have hbl3 : w.heap.size < w2.heap.size := by omega
        have FI := fun (u : World) (hu : Below w2.heap.size w2 u) => firsts_any HE.out hne hr HT.out (HS2.out.below hu) (by omega) (by omega) q2
        have HW2 : Hid (Ints w2 BW (.slice wa want.length wc0) want) := HWW.out.below hb2
        have HB2 : Hid (Below w.heap.size w w2) := HBX.out.trans (hb2.mono HBX.out.size)
        have hfB : (gs.1 ++ firstsB es sh gs.2).length ≤ 4000 := by
          rw [firstsB_eq, List.length_append]
          have := Nat.le_trans (firstsE_len sh (elems4 es gs.2)) (elems4_len es gs.2)
          omega
        generalize firstsB es sh gs.2 = fB at *
        clear GR hS2 hbx2 hb2 x4 x5 hbl hgc
        go_upto_region 8 with fail
        go_cut [32] from 29 to 31 (fun v32 wx => v32 = .bool (decide (gs.1 ++ fB = want)) ∧ Below w2.heap.size w2 wx)
        case first =>
          go_region_law
            (first
              | (go_simp; go_at_call 59; refine (FI _ (by repeat (first | with_reducible exact Below.refl _ _ | with_reducible refine Below.drew ?_))).mono ?_; rintro e w3 ⟨v3, rfl, i3, b3⟩; have b3' : Below w2.heap.size w2 w3 := (by first | exact b3 | exact ((Below.refl _ _).drew).trans b3); have z5 : w3.cell? ⟨w.heap.size, 5, none⟩ = some _ := (b3'.cell hbl3).trans y5; have EQ := fun (u : World) (hu : Below w3.heap.size w3 u) => equal_bw (by omega) (by omega) (i3.below hu) ((HW2.out.below b3').below hu))
              | (go_simp; go_at_call 24; refine (EQ _ (by repeat (first | with_reducible exact Below.refl _ _ | with_reducible refine Below.drew ?_))).mono ?_; rintro e w4 ⟨rfl, bq4⟩))
          all_goals
            have b4 : Below w2.heap.size w2 w4 := by
              first
                | exact b3'.trans (bq4.mono b3'.size)
                | exact b3'.drew.trans (bq4.mono b3'.drew.size)
            clear bq4 b3 b3' i3 EQ z5 FI
            go_wp2_with fail
            go_meet
            case rel => exact ⟨rfl, b4⟩
        case rest =>
          obtain ⟨rfl, b4⟩ := hcut
          obtain ⟨w4, rfl⟩ : ∃ w4, w4 = wc := ⟨_, rfl⟩
          have HS4 : Hid (Str _ _ _ _ _ _ _ _ _ _) := HS2.out.below b4
          have HW4 : Hid (Ints w4 BW (.slice wa want.length wc0) want) := HW2.out.below b4
          have HB4 : Hid (Below w.heap.size w w4) := HB2.out.trans (b4.mono HB2.out.size)
          have t5 : w4.cell? ⟨w.heap.size, 5, none⟩ = some _ := (b4.cell hbl3).trans y5
          obtain ⟨_, _, _, t3, _, _⟩ := HS4.out.cells
          have hbl4 : w.heap.size + 1 < w4.heap.size := Nat.lt_of_lt_of_le hbl2 b4.size
          have hbl5 : w.heap.size < w4.heap.size := by omega
          clear b4 FI y5 HS2 HW2 HB2
          by_cases hq : gs.1 ++ fB = want
          · have hR : R = some (a + 1) := by rw [← HSH.out, if_pos hq]
            subst hR
            rw [decide_eq_true hq]
            clear HSH
            go_wp2
            go_ret2
            exact ⟨by show _ = Ending.returned (Value.tuple #[.int .i64 ((a + 1 : Nat) : Int), .bool true]); congr, HB4.out⟩
          · have HSH2 : Hid ((if alike gs.1 want < gs.1.length then none else shortF es sh want pc (N - (a + 1)) (a + 1) gs.1 gs.2) = R) := by
              show _ = _
              rw [← HSH.out, if_neg hq]
            rw [decide_eq_false hq]
            have AK := fun (u : World) (hu : Below w4.heap.size w4 u) => alike_bw (by omega) (by omega) q3 hww (HS4.out.2.2.1.below hu) (HW4.out.below hu)
            clear HSH hq
            go_upto_region 10 with fail
            go_cut [43] from 35 to 42 (fun v43 wx => v43 = .bool (decide (alike gs.1 want < gs.1.length)) ∧ Below w4.heap.size w4 wx)
            case first =>
              go_region_law (go_simp; go_at_call 60; refine (AK _ (by repeat (first | with_reducible exact Below.refl _ _ | with_reducible refine Below.drew ?_))).mono ?_; rintro e w6 ⟨rfl, bq6⟩; have b6 : Below w4.heap.size w4 w6 := (by first | exact bq6 | exact ((Below.refl _ _).drew).trans bq6); have s3 : w6.cell? ⟨w.heap.size + 1, 3, none⟩ = some _ := (b6.cell hbl4).trans t3)
              all_goals
                have B6 : Hid (Below w4.heap.size w4 w6) := b6
                clear b6 bq6 s3 AK
                go_wp2_with fail
                go_meet
                case rel => exact ⟨rfl, B6.out⟩
            case rest =>
              obtain ⟨rfl, b6⟩ := hcut
              have HB6 : Hid (Below w.heap.size w wc) := HB4.out.trans (b6.mono HB4.out.size)
              have HS6 : Hid (Str _ _ _ _ _ _ _ _ _ _) := HS4.out.below b6
              clear AK b6 t3 t5 HS4 HW4 HB4
              by_cases hA : alike gs.1 want < gs.1.length
              · have hR : R = none := by rw [← HSH2.out, if_pos hA]
                subst hR
                rw [decide_eq_true hA]
                clear HSH2
                go_wp2
                go_ret2
                exact ⟨rfl, HB6.out⟩
              · rw [decide_eq_false hA]
                have HSH3 : Hid (shortF es sh want pc (N - (a + 1)) (a + 1) gs.1 gs.2 = R) := by
                  show _ = _
                  rw [← HSH2.out, if_neg hA]
                clear HSH2 hA
                go_wp2
                have hrel2 : ShRel W (w.heap.size + 1) (.slice ea es.length ec) sh lv es want pc N k R (.int .i64 ((a : Int) + 1)) wc := ⟨a + 1, _, _, gs.1, gs.2, by go_num, by omega, by omega, HS6.out, hlen2, q2, q3, HSH3.out⟩
                exact ⟨hrel2, by simp [intOf]; omega⟩
      · have ha8 : ¬ (a : Int) < (N : Int) := by omega
        have hR : R = none := by rw [← hsh, show N - a = 0 by omega]; rfl
        subst hR
        have HB : Hid (Below w.heap.size w wr) := HBX.out.trans (hbr.mono HBX.out.size)
        clear hS hsh hbr hbx'
        go_wp2
        go_ret2
        exact ⟨rfl, HB.out⟩
end Go.Proofs.YtinjldagfhbioaaGreatDoor

namespace Go.Proofs.YtinjldagfhbioaaGreatDoor
open Go.RowKit

set_option maxRecDepth 100000 in
set_option maxHeartbeats 1000000 in
theorem index_in {w : World} {B : Nat} {v : Value} {zs : List Int} (hz : zs.length ≤ 1048576) (hI : Ints w B v zs) {x : Int} (hx : x ∈ zs) :
    Calls Tryz.prog 47 #[v, .int .i64 x] w fun e w' => (∃ k : Nat, e = .returned (.int .i64 (k : Int))) ∧ w' = w := by
  rcases hI.form with ⟨rfl, rfl⟩ | ⟨g, cap, rfl, h1, h2⟩
  · simp at hx
  have hl := (World.ownsRow.lt hI g rfl).2
  have hc : ∀ j, j < zs.length → w.cell? ⟨g, j, none⟩ = some (.int .i64 (zs[j]?.getD 0)) := fun j hj => hI.cell j hj
  have HX : Hid (x ∈ zs) := hx
  clear hI hx
  go_enter Tryz.func47, Tryz.ntmps47
  go_wp2
  go_loopw [8] (fun i wr => ∃ k : Nat, k ≤ zs.length ∧ i = .int .i64 (k : Int) ∧ wr = w ∧ Hid (∀ j, j < k → zs[j]? ≠ some x)) (fun i _ => zs.length - (intOf i).toNat)
  case atStart => exact ⟨0, Nat.zero_le _, rfl, rfl, fun j hj => by omega⟩
  case round =>
    obtain ⟨k, hk, rfl, rfl, HN⟩ := hrel
    by_cases hlt : k < zs.length
    · obtain ⟨y, hy⟩ : ∃ y, zs[k]? = some y := by exact ⟨_, List.getElem?_eq_getElem hlt⟩
      have c := hc k hlt
      rw [hy] at c
      have c1 : wr.cell? ⟨g, k, none⟩ = some (.int .i64 y) := c
      have hk8 : (k : Int) < (zs.length : Int) := by omega
      have HY : Hid (zs[k]? = some y) := hy
      clear hc c hy
      by_cases e : x = y
      · subst e
        go_wp2
        go_ret
        exact ⟨⟨k, rfl⟩, rfl⟩
      · have e2 : (x == y) = false := by simpa using e
        go_wp2
        refine ⟨⟨k + 1, by omega, by go_num, by (first | rfl | trivial), fun j hj => ?_⟩, by simp [intOf]; omega⟩
        by_cases hjk : j = k
        · subst hjk
          rw [HY.out]
          exact fun h => e (Option.some.inj h).symm
        · exact HN.out j (by omega)
    · exfalso
      obtain ⟨j, hj, hj2⟩ := List.getElem_of_mem HX.out
      exact HN.out j (by omega) (by rw [List.getElem?_eq_getElem hj, hj2])

set_option maxRecDepth 100000 in
set_option maxHeartbeats 1000000 in
theorem contains_in {w : World} {B : Nat} {v : Value} {zs : List Int} (hz : zs.length ≤ 1048576) (hI : Ints w B v zs) {x : Int} (hx : x ∈ zs) :
    Calls Tryz.prog 23 #[v, .int .i64 x] w fun e w' => e = .returned (.bool true) ∧ w' = w := by
  have N := index_in hz hI hx
  clear hI hx
  go_enter Tryz.func23, Tryz.ntmps23
  go_wp2_with fail
  refine N.mono ?_
  rintro e w' ⟨⟨k, rfl⟩, rfl⟩
  have hk : (0 : Int) ≤ (k : Int) := by omega
  go_wp2
  go_ret
  exact ⟨rfl, rfl⟩

theorem cutsL_le (s : ByteArray) (h : s.size ≤ 200) : (cutsL s).length ≤ 201 := by
  have h1 := cutsL_len s
  have h2 := nPc_le (s := s)
  omega

theorem not_ge {a b : Nat} (h : a < b) : ¬ (b : Int) ≤ (a : Int) := by omega

/-- A Span's box. -/
def BoxP (u : World) (p : Nat) (x y : Int) : Prop := u.heap[p]? = some (.cells #[.int .i64 x, .int .i64 y] 32)
theorem BoxP.below {u u' : World} {p : Nat} {x y : Int} (h : BoxP u p x y) (hb : Below u.heap.size u u') : BoxP u' p x y := (hb.block p (Array.getElem?_eq_some_iff.1 h).1).trans h
theorem BoxP.facts {u : World} {p : Nat} {x y : Int} (h : BoxP u p x y) : p < u.heap.size ∧ u.cell? ⟨p, 0, none⟩ = some (.int .i64 x) ∧ u.cell? ⟨p, 1, none⟩ = some (.int .i64 y) :=
  ⟨(Array.getElem?_eq_some_iff.1 h).1, cell_of_row _ _ 0 _ _ _ h, cell_of_row _ _ 1 _ _ _ h⟩

def BoxU (u : World) (p : Nat) (v : Value) (sh : Bool) (lv : Int) : Prop := u.heap[p]? = some (.cells #[v, .bool sh, .int .i64 lv] 25)
theorem BoxU.below {u u' : World} {p : Nat} {v : Value} {sh : Bool} {lv : Int} (h : BoxU u p v sh lv) (hb : Below u.heap.size u u') : BoxU u' p v sh lv := (hb.block p (Array.getElem?_eq_some_iff.1 h).1).trans h
theorem BoxU.facts {u : World} {p : Nat} {v : Value} {sh : Bool} {lv : Int} (h : BoxU u p v sh lv) : p < u.heap.size ∧ u.cell? ⟨p, 0, none⟩ = some v ∧ u.cell? ⟨p, 1, none⟩ = some (.bool sh) ∧ u.cell? ⟨p, 2, none⟩ = some (.int .i64 lv) :=
  ⟨(Array.getElem?_eq_some_iff.1 h).1, cell_of_row _ _ 0 _ _ _ h, cell_of_row _ _ 1 _ _ _ h, cell_of_row _ _ 2 _ _ _ h⟩

theorem below_drewM {B : Nat} {w u : World} (h : Below B w u) (n : Nat) : Below B w (u.drewN n) := ⟨h.os, h.tape, h.output, h.size, h.block⟩

set_option maxRecDepth 100000 in
set_option maxHeartbeats 8000000 in
theorem match_any {w : World} {B : Nat} {ve : Value} {es : List Ent} {sh : Bool} {lv : Int} (s t : ByteArray) (hs : s.size ≤ 1048576) (htz : t.size ≤ 1048576) (hE : Ents w B ve es) (hr : ∀ e ∈ es, e.runes.length ≤ 1048576) (ht : Tabs3 w)
    (ho1 : okE es lv s = true) (ho2 : okE es lv t = true) {p q : Int} (hp : SpAt es sh s t (p, q)) :
    Calls Tryz.prog 7 #[.agg #[ve, .bool sh, .int .i64 lv], .string s, .agg #[.int .i64 p, .int .i64 q], .string t] w fun e w' => e = .returned (.tuple #[.bool true, .bool true]) ∧ Below w.heap.size w w' := by
  obtain ⟨va, vc, rfl⟩ : ∃ a c, ve = .slice a es.length c := by
    rcases hE.form with ⟨rfl, rfl⟩ | ⟨_, _, rfl, _, _, _, _⟩
    · exact ⟨_, _, rfl⟩
    · exact ⟨_, _, rfl⟩
  obtain ⟨i, k, hik, hk, hpq, hw, hf⟩ := hp
  obtain ⟨rfl, rfl⟩ : p = (cutAt s i : Int) ∧ q = (cutAt s k : Int) := by
    injection hpq with e1 e2
    exact ⟨e1, e2⟩
  have hok4 : ok4 s = true := by unfold okE at ho1; rw [Bool.and_eq_true] at ho1; exact ho1.1
  have hst := stretch_ok hik hk hok4
  have hlt := cut_lt hik hk
  have hm1 : (cutAt s i : Int) ∈ cutsL s := cut_mem (by omega)
  have hm2 : (cutAt s k : Int) ∈ cutsL s := cut_mem hk
  obtain ⟨W0, HW0⟩ : ∃ W0, Hid (W0 = (w.alloc (.cells #[.slice va es.length vc, .bool sh, .int .i64 lv] 25)).alloc (.cells #[.int .i64 (cutAt s i : Int), .int .i64 (cutAt s k : Int)] 32)) := ⟨_, rfl⟩
  have hB0 : Below w.heap.size w W0 := by rw [HW0.out]; exact ((Below.refl _ _).alloc (Nat.le_refl _) _).alloc (by simp) _
  have HU0 : Hid (BoxU W0 w.heap.size (.slice va es.length vc) sh lv) := by
    show _ = _
    rw [HW0.out, Below.heap_alloc _ _ _ (by simp)]
    exact heap_alloc_new w _
  have HP0 : Hid (BoxP W0 (w.heap.size + 1) (cutAt s i : Int) (cutAt s k : Int)) := by
    have := heap_alloc_new (w.alloc (.cells #[.slice va es.length vc, .bool sh, .int .i64 lv] 25)) (.cells #[.int .i64 (cutAt s i : Int), .int .i64 (cutAt s k : Int)] 32)
    rw [World.size_alloc] at this
    show _ = _
    rw [HW0.out]
    exact this
  have HT0 : Hid (Tabs3 W0) := ht.below hB0
  have HE0 : Hid (Ents W0 B (.slice va es.length vc) es) := hE.below hB0
  have CU := implCut_any s W0 hs HT0.out
  have hcu : cutI s = cutsL s := by unfold cutI; rw [if_pos hok4]
  have hfi : firsT es sh lv t = wantT es sh t := by unfold firsT wantT; rw [if_pos ho2]
  have hro := (okE_parts ho2).2.2
  have HOX : Hid (okE es lv (s.extract (cutAt s i) (cutAt s k)) = true) := by show _ = _; unfold okE; rw [hst.1, hro]; rfl
  have hfx : firsT es sh lv (s.extract (cutAt s i) (cutAt s k)) = wantT es sh t := by unfold firsT; rw [if_pos HOX.out]; exact hf
  have hxz : (s.extract (cutAt s i) (cutAt s k)).size ≤ 1048576 := by have h1 := size_part s (a := cutAt s i) hst.2.2; omega
  have HF1 : Hid (∀ u : World, Below W0.heap.size W0 u → Calls Tryz.prog 8 #[.agg #[.slice va es.length vc, .bool sh, .int .i64 lv], .string t] u fun e w' => ∃ v, e = .returned (.tuple #[v, .bool true]) ∧ Ints w' u.heap.size v (wantT es sh t) ∧ Below u.heap.size u w') := fun u hu => by
    have := implFirsts_any (sh := sh) (lv := lv) t htz (HE0.out.below hu) hr (HT0.out.below hu)
    rw [ho2, hfi] at this
    exact this
  have HF2 : Hid (∀ u : World, Below W0.heap.size W0 u → Calls Tryz.prog 8 #[.agg #[.slice va es.length vc, .bool sh, .int .i64 lv], .string (s.extract (cutAt s i) (cutAt s k))] u fun e w' => ∃ v, e = .returned (.tuple #[v, .bool true]) ∧ Ints w' u.heap.size v (wantT es sh t) ∧ Below u.heap.size u w') := fun u hu => by
    have := implFirsts_any (sh := sh) (lv := lv) _ hxz (HE0.out.below hu) hr (HT0.out.below hu)
    rw [HOX.out, hfx] at this
    exact this
  have hwl := firsT_len es sh lv t
  rw [hfi] at hwl
  have hcl := cutsL_le s (okE_parts ho1).1
  rw [hcu, hok4] at CU
  have HB0 : Hid (Below w.heap.size w W0) := hB0
  have hle1 : cutAt s i ≤ cutAt s k := hst.2.1
  have hle2 : cutAt s k ≤ s.size := hst.2.2
  have HW : Hid (wantT es sh t ≠ []) := hw
  have HM1 : Hid ((cutAt s i : Int) ∈ cutsL s) := hm1
  have HM2 : Hid ((cutAt s k : Int) ∈ cutsL s) := hm2
  clear hE ht hr hf hfx hfi hcu hw hst HOX hm1 hm2 hpq hB0 hxz
  generalize cutAt s i = a at *
  generalize cutAt s k = b at *
  generalize wantT es sh t = fw at *
  generalize cutsL s = cl at *
  have hab : ¬ (b : Int) ≤ (a : Int) := not_ge hlt
  have hfl : (0 : Int) < (fw.length : Int) := by
    have h1 : fw.length ≠ 0 := fun e => HW.out (List.eq_nil_of_length_eq_zero e)
    omega
  go_enter Tryz.func7, Tryz.ntmps7
  go_wp2_with fail
  rw [← HW0.out]
  refine CU.mono ?_
  rintro e w1 ⟨v1, rfl, i1, b1⟩
  obtain ⟨a1, c1, rfl⟩ := ints_form i1
  obtain ⟨hul, u0, u1, u2⟩ := (HU0.out.below b1).facts
  have F1 := HF1.out w1 b1
  have HU1 : Hid (BoxU w1 w.heap.size (.slice va es.length vc) sh lv) := HU0.out.below b1
  have HP1 : Hid (BoxP w1 (w.heap.size + 1) (a : Int) (b : Int)) := HP0.out.below b1
  have HI1 : Hid (Ints w1 W0.heap.size (.slice a1 cl.length c1) cl) := i1
  have HB1 : Hid (Below W0.heap.size W0 w1) := b1
  clear CU i1 b1 HU0 HP0 HF1
  go_wp2_with fail
  refine F1.mono ?_
  rintro e w2 ⟨v2, rfl, i2, b2⟩
  obtain ⟨a2, c2, rfl⟩ := ints_form i2
  have HU2 : Hid (BoxU w2 w.heap.size (.slice va es.length vc) sh lv) := HU1.out.below b2
  have HP2 : Hid (BoxP w2 (w.heap.size + 1) (a : Int) (b : Int)) := HP1.out.below b2
  obtain ⟨hpl, p0, p1⟩ := HP2.out.facts
  have HI2 : Hid (Ints w2 W0.heap.size (.slice a1 cl.length c1) cl) := HI1.out.below b2
  have HJ2 : Hid (Ints w2 w1.heap.size (.slice a2 fw.length c2) fw) := i2
  have HB2 : Hid (Below W0.heap.size W0 w2) := HB1.out.trans (b2.mono HB1.out.size)
  have K1 := contains_in (by omega) HI2.out HM1.out
  have K2 := contains_in (by omega) HI2.out HM2.out
  clear F1 i2 b2 HU1 HP1 HI1 HB1 u0 u1 u2 hul
  go_wp2_with fail
  refine K1.mono ?_
  rintro e w' ⟨rfl, rfl⟩
  go_wp2_with fail
  refine K2.mono ?_
  rintro e w' ⟨rfl, rfl⟩
  clear K1 K2 HI2 HM1 HM2
  obtain ⟨hul, u0, u1, u2⟩ := HU2.out.facts
  go_upto_region 9 with fail
  go_cut [14, 15] from 49 to 60 (fun v14 v15 wx => v15 = .bool true ∧ Ints wx w'.heap.size v14 fw ∧ Below w'.heap.size w' wx)
  case first =>
    have F2 := fun (u : World) (hu : Below w'.heap.size w' u) => HF2.out u (HB2.out.trans (hu.mono HB2.out.size))
    go_region_with (go_at_call 8; refine (F2 _ (by repeat (first | exact Below.refl _ _ | refine Below.drew ?_))).mono ?_; rintro e w5 ⟨v5, rfl, i5, b5⟩; have b6 : Below w'.heap.size w' w5 := ⟨b5.os, b5.tape, b5.output, b5.size, b5.block⟩; have i6 : Ints w5 w'.heap.size v5 fw := i5; clear i5 b5)
    all_goals
      go_simp
      go_wp2_with fail
      go_meet
      case rel => exact ⟨rfl, i6, b6⟩
  case rest =>
    obtain ⟨h15, i6, b6⟩ := hcut
    subst h15
    obtain ⟨a6, c6, rfl⟩ := ints_form i6
    have EQ := equal_bw (by omega) (by omega) i6 (HJ2.out.below b6)
    have HB6 : Hid (Below w.heap.size w wc) := HB0.out.trans ((HB2.out.trans (b6.mono HB2.out.size)).mono HB0.out.size)
    clear i6 b6 HJ2 HB2 HU2 HP2 p0 p1 u0 u1 u2 hpl hul HF2
    go_wp2_with fail
    refine EQ.mono ?_
    rintro e w7 ⟨rfl, b7⟩
    have HB7 : Hid (Below w.heap.size w w7) := HB6.out.trans (b7.mono HB6.out.size)
    have hdt : decide (fw = fw) = true := by simp
    clear EQ b7
    go_wp2
    go_ret2
    exact ⟨by simp, HB7.out⟩
end Go.Proofs.YtinjldagfhbioaaGreatDoor

namespace Go.Proofs.YtinjldagfhbioaaGreatDoor
open Go.RowKit

/-- What an iterator owes that is handed a receiver and yield: S of all that came, or Sp of those up to a round that said no. -/
def SeqRecv {α : Type} (n gf : Nat) (recv : Value) (encs : α → Array Value) (Kp : World → World → Prop) (S Sp : List α → Prop) (N : Nat) (w : World) : Prop :=
  ∀ (l : Nat) (J Jx : List α → World → Prop) (W : World), Below w.heap.size w W → AbidesFrom W.heap.size J → AbidesFrom W.heap.size Jx →
    (∀ pre x W1, J pre W1 → pre.length < N → YieldAt Fence.wide (n - 1) Tryz.prog l (encs x) W1 fun e W' => (e = .returned (.bool true) ∧ J (pre ++ [x]) W' ∧ Kp W1 W') ∨ (e = .returned (.bool false) ∧ Jx (pre ++ [x]) W')) →
    J [] W → CallsIn Fence.wide n Tryz.prog gf #[recv, .func (.yield l) #[] #[]] W fun e W' => (∃ v, e = .returned v) ∧ ((∃ xs, S xs ∧ J xs W') ∨ (∃ pre, Sp pre ∧ Jx pre W'))

/-- How a round's body ends. -/
def bodyEnd {α : Type} (B : Nat) (Kp : World → World → Prop) (I Ix : List α → World → Prop) (xs : List α) (W : World) (e : Exit) (W' : World) : Prop :=
  (e = .normal ∧ KeepsFrom B W W' ∧ Kp W W' ∧ I xs W') ∨ (e = .ret ∧ KeepsFrom B W W' ∧ Ix xs W')

theorem range_recv {α : Type} {n : Nat} {g : Operand} {ps : Array Tmp} {assign body : Code} {Q : Exit → Act → World → Prop} {a : Act} {w : World} (h1 : 1 ≤ n) {gf : Nat} {recv : Value} (hg : a.eval g = .func (.func gf) #[recv] #[])
    (eg : ∀ args w, (callFunc gf args).run Tryz.prog w = .ok (.enter gf args) w) {encs : α → Array Value} {Kp : World → World → Prop} {S Sp : List α → Prop} {N : Nat} (hseq : SeqRecv (n - 1) gf recv encs Kp S Sp N w)
    (hKt : ∀ {A B C : World}, Kp A B → Kp B C → Kp A C) (hKb : ∀ (W : World) (l : Nat) (o o' : Obj), w.heap.size ≤ l → W.heap[l]? = some o → o.isCells = false → Kp W (W.putObj l o')) (hps : ∀ x, (encs x).size = ps.size)
    (I Ix : List α → World → Prop) (hI : OwnFrom w.heap.size I) (hIx : OwnFrom w.heap.size Ix) (h0 : I [] w) (Ax : α → Act → World → Prop) (hAx : ∀ x a', OwnFrom w.heap.size (fun (_ : Unit) W => Ax x a' W))
    (hassign : ∀ (l : Nat) (pre : List α) (x : α) (W : World) (K : Act → World → Prop), I pre W → (∀ a' W', KeepsFrom w.heap.size W W' → Kp W W' → I pre W' → Ax x a' W' → K a' W') →
      assign.wpIn (Fence.wide.inRound l) (n - 1 - 1) Tryz.prog (Exit.then K (fun _ _ _ => False)) { tmps := (ps.zip (encs x)).foldl (fun t (p, v) => t.setIfInBounds p v) a.tmps, defers := [] } W)
    (hbody : ∀ (l : Nat) (pre : List α) (x : α) (a' : Act) (W : World), I pre W → Ax x a' W → pre.length < N → body.wpIn (Fence.wide.inRound l) (n - 1 - 1) Tryz.prog (fun e _ W' => bodyEnd w.heap.size Kp I Ix (pre ++ [x]) W e W') a' W)
    (hdone : ∀ (D : Nat) (xs : List α) (W : World), w.heap.size ≤ D → S xs → I xs W → W.heap[D]? = some (.deferred (some [])) → Q .normal { a with defers := { target := .collected D, args := #[] } :: a.defers } W)
    (hstop : ∀ (D : Nat) (pre : List α) (W : World), w.heap.size ≤ D → Sp pre → Ix pre W → W.heap[D]? = some (.deferred (some [])) → Code.ret.wpIn Fence.wide n Tryz.prog Q { a with defers := { target := .collected D, args := #[] } :: a.defers } W) :
    (Code.rangeFunc g ps assign body).wpIn Fence.wide n Tryz.prog Q a w := by
  refine wpIn_rangeFunc fun fn hfn => ?_
  -- the loop's record, in its states; the block of the rounds' deferred calls lies ahead of it
  obtain ⟨rc, hrc⟩ : ∃ rc : LoopState → Option Code → Loop, rc = fun st pe => { state := st, pending := pe, fn, tmps := a.tmps, params := ps, assign, body, defers := w.heap.size } := ⟨_, rfl⟩
  have hab : ∀ {A : World} {row : Option Nat}, (∀ r, row = some r → ((w.alloc (.deferred (some []))).alloc (.loop (rc .ready none))).heap.size ≤ r ∧ ∃ o : Obj, A.heap[r]? = some o ∧ o.isWalk = true) → ∀ r, row = some r → w.heap.size ≤ r ∧ ∃ o : Obj, A.heap[r]? = some o ∧ o.isCells = false := fun hr r e => by
    obtain ⟨q1, o, q2, q3⟩ := hr r e
    exact ⟨by simp at q1; omega, o, q2, Obj.not_cells_of_walk q3⟩
  refine ⟨w.heap.size + 1, [{ target := .collected w.heap.size, args := #[] }], (w.alloc (.deferred (some []))).alloc (.loop (rc .ready none)), { target := .fn (.func gf) #[], args := #[recv, .func (.yield (w.heap.size + 1)) #[] #[]] }, ((w.alloc (.deferred (some []))).alloc (.loop (rc .ready none))), gf, #[recv, .func (.yield (w.heap.size + 1)) #[] #[]], ((w.alloc (.deferred (some []))).alloc (.loop (rc .ready none))), ?_, ?_, fun _ _ => trivial, ?_, fun _ => h1, ?_⟩
  · rw [hrc]
    exact run_enterLoop_outer _ _ _ _ _
  · simp only [resolve, hg]
    simp [go_sem]
  · simp [invoke, go_sem, eg]
  · have hl0 : ((w.alloc (.deferred (some []))).alloc (.loop (rc .ready none))).heap[w.heap.size + 1]? = some (.loop (rc .ready none)) := by
      have := World.alloc_heap_new (w.alloc (.deferred (some []))) (.loop (rc .ready none))
      rwa [World.size_alloc] at this
    have hd0 : ((w.alloc (.deferred (some []))).alloc (.loop (rc .ready none))).heap[w.heap.size]? = some (.deferred (some [])) := (Below.heap_alloc _ _ _ (by simp)).trans (World.alloc_heap_new w _)
    have hb0 : Below w.heap.size w ((w.alloc (.deferred (some []))).alloc (.loop (rc .ready none))) := ((Below.refl _ w).alloc (Nat.le_refl _) _).alloc (by simp) _
    refine (hseq (w.heap.size + 1) (fun pre W => I pre W ∧ W.heap[w.heap.size + 1]? = some (.loop (rc .ready none)) ∧ W.heap[w.heap.size]? = some (.deferred (some [])))
      (fun pre W => Ix pre W ∧ W.heap[w.heap.size + 1]? = some (.loop (rc .done (some .ret))) ∧ W.heap[w.heap.size]? = some (.deferred (some []))) _ hb0
      (fun s A B row hs hgr hr => ⟨hI s A B row hs.1 hgr (hab hr), (grownBy_keeps hgr (fun r e => (hr r e).2) hs.2.1 rfl).trans hs.2.1, (grownBy_keeps hgr (fun r e => (hr r e).2) hs.2.2 rfl).trans hs.2.2⟩)
      (fun s A B row hs hgr hr => ⟨hIx s A B row hs.1 hgr (hab hr), (grownBy_keeps hgr (fun r e => (hr r e).2) hs.2.1 rfl).trans hs.2.1, (grownBy_keeps hgr (fun r e => (hr r e).2) hs.2.2 rfl).trans hs.2.2⟩)
      ?_ ⟨hI.alloc _ (hI.alloc _ h0), hl0, hd0⟩).mono ?_
    · rintro pre x W ⟨hi, hl, hd⟩ hlen
      have hy := run_yield (P := Tryz.prog) (args := encs x) hl (by rw [hrc]; exact hps x)
      rw [hrc] at hy
      refine ⟨fn, _, assign, body, hy, roundIn_of_wpIn hfn (hassign _ pre x W _ hi fun a' V k1 k2 i1 x1 => ?_)⟩
      have lV := k1.same _ _ (by omega) hl rfl
      have dV := k1.same _ _ (Nat.le_refl _) hd rfl
      have ltV : w.heap.size + 1 < V.heap.size := (Array.getElem?_eq_some_iff.1 lV).1
      have lU : (V.putObj (w.heap.size + 1) (.loop { rc .ready none with state := .busy })).heap[w.heap.size + 1]? = some (.loop { rc .ready none with state := .busy }) := World.putObj_heap_same ltV
      have dU : (V.putObj (w.heap.size + 1) (.loop { rc .ready none with state := .busy })).heap[w.heap.size]? = some (.deferred (some [])) := (World.putObj_heap_other (by omega)).trans dV
      refine ⟨_, run_beginRound lV (by rw [hrc]), wpIn_mono (hbody _ pre x a' _ (hI.putObj _ i1 (by omega) lV rfl) ((hAx x a').putObj (s := ()) _ x1 (by omega) lV rfl) hlen) fun e a3 W3 hp => ?_⟩
      have ends : ∀ (j : Option Code), KeepsFrom w.heap.size (V.putObj (w.heap.size + 1) (.loop { rc .ready none with state := .busy })) W3 →
          (Instr.endRound (w.heap.size + 1) j).run Tryz.prog W3 = .ok (.bool j.isNone) (W3.putObj (w.heap.size + 1) (.loop (rc (if j.isNone then .ready else .done) j))) ∧ W3.heap[w.heap.size + 1]? = some (.loop { rc .ready none with state := .busy }) ∧
          (W3.putObj (w.heap.size + 1) (.loop (rc (if j.isNone then .ready else .done) j))).heap[w.heap.size + 1]? = some (.loop (rc (if j.isNone then .ready else .done) j)) ∧ (W3.putObj (w.heap.size + 1) (.loop (rc (if j.isNone then .ready else .done) j))).heap[w.heap.size]? = some (.deferred (some [])) := fun j k3 => by
        have l3 := k3.same _ _ (by omega) lU rfl
        have r3 := run_endRound (P := Tryz.prog) j l3
        rw [hrc] at r3 l3 ⊢
        exact ⟨r3, l3, World.putObj_heap_same (Array.getElem?_eq_some_iff.1 l3).1, (World.putObj_heap_other (by omega)).trans (k3.same _ _ (Nat.le_refl _) dU rfl)⟩
      rcases hp with ⟨rfl, k3, p3, i3⟩ | ⟨rfl, k3, i3⟩
      · obtain ⟨r3, l3, l4, d4⟩ := ends none k3
        exact ⟨_, _, r3, .inl ⟨rfl, ⟨hI.putObj _ i3 (by omega) l3 rfl, l4, d4⟩, hKt k2 (hKt (hKt (hKb _ _ _ _ (by omega) lV rfl) p3) (hKb _ _ _ _ (by omega) l3 rfl))⟩⟩
      · obtain ⟨r3, l3, l4, d4⟩ := ends (some .ret) k3
        exact ⟨_, _, r3, .inr ⟨rfl, hIx.putObj _ i3 (by omega) l3 rfl, l4, d4⟩⟩
    · rintro e W2 ⟨⟨v, rfl⟩, (⟨xs, hS, hi, hl, hd⟩ | ⟨pre, hSp, hi, hl, hd⟩)⟩
      · exact ⟨none, _, by have := run_endLoop (P := Tryz.prog) hl (by rw [hrc]; simp); rw [hrc] at this; exact this, hdone _ xs _ (Nat.le_refl _) hS (hI.putObj _ hi (by omega) hl rfl) ((World.putObj_heap_other (by omega)).trans hd)⟩
      · exact ⟨some .ret, _, by have := run_endLoop (P := Tryz.prog) hl (by rw [hrc]; simp); rw [hrc] at this; exact this, hstop _ pre _ (Nat.le_refl _) hSp (hIx.putObj _ hi (by omega) hl rfl) ((World.putObj_heap_other (by omega)).trans hd)⟩
end Go.Proofs.YtinjldagfhbioaaGreatDoor

namespace Go.Proofs.YtinjldagfhbioaaGreatDoor
open Go.RowKit

theorem entOf_in {es : List Ent} {l : List Int} {e : El} (h : entOf es l = some e) : ∃ x ∈ es, x.el = e := by
  unfold entOf at h
  split at h
  · obtain ⟨x, hx, rfl⟩ := Option.map_eq_some_iff.1 h
    exact ⟨x, List.mem_of_getElem? hx, rfl⟩
  · cases h

/-- The first weights of good runes lie in 1 .. 65535. -/
theorem hes_of {es : List Ent} {lv : Int} {sh : Bool} (h : rulesOk es lv = true) : ∀ run, (∀ x ∈ run, goodB x = true) → ∀ y ∈ firstsE sh (elsOf es run), 1 ≤ y ∧ y ≤ 65535 := by
  intro run hg y hy
  unfold firstsE at hy
  obtain ⟨e, he, hy⟩ := List.mem_flatMap.1 hy
  have hr : rngE e := by
    unfold elsOf at he
    split at he
    · rename_i e' hx
      obtain ⟨x, hx1, hx2⟩ := entOf_in hx
      simp only [List.mem_singleton] at he
      rw [he, ← hx2]
      exact ents_rng h x hx1
    · have hb : 0 ≤ at0 run 0 ∧ at0 run 0 ≤ 1114111 := by
        cases run with
        | nil => decide
        | cons z zs =>
          have := goodB_true (hg z (by simp))
          show 0 ≤ z ∧ z ≤ 1114111
          omega
      exact base_rng hb.1 hb.2 e he
  unfold ifNot at hy
  split at hy
  · cases hy
  · rename_i hz
    simp only [List.mem_singleton] at hy
    subst hy
    have h1 := hr.1
    unfold fw at hz ⊢
    split
    · rename_i c
      rw [if_pos c] at hz
      exact absurd rfl hz
    · rename_i c
      rw [if_neg c] at hz
      omega

theorem piece_ne {s : ByteArray} {b c : Nat} (hbc : b < c) (hcs : c ≤ s.size) (hw : b + wid s b ≤ c) : rn4 (s.extract b c) ≠ [] := by
  have hd := decL_step s hbc hcs hw
  have hr : rn4 (s.extract b c) = nD (decL (s.extract b c)) := rfl
  rw [hr, hd]
  intro e
  have hl := len_apD (rnAt s b :: decL (s.extract (b + wid s b) c))
  have hl2 := congrArg List.length e
  rw [nD_len] at hl2
  simp at hl hl2
  rw [hl2] at hl
  simp at hl

theorem pcS_at {s : ByteArray} {k : Nat} (h : k < nPc s) : pcS s k = rn4 (s.extract (cutAt s k) (cutAt s (k + 1))) := by
  unfold pcS
  rw [if_pos (by have := cuts_len s; omega)]

theorem pcS_ne {s : ByteArray} {k : Nat} (h : k < nPc s) : pcS s k ≠ [] ∧ cutAt s k < cutAt s (k + 1) := by
  rw [pcS_at h]
  obtain ⟨q1, q2, q3, _⟩ := cuts_at (cutAt_some (s := s) (k := k) (by omega)) (cutAt_some (s := s) (k := k + 1) (by omega))
  exact ⟨piece_ne q2 q3 (q1.wid q2), q2⟩

theorem pcS_good (s : ByteArray) : ∀ i, ∀ x ∈ pcS s i, goodB x = true := by
  intro i x hx
  unfold pcS at hx
  split at hx
  · exact rn4_good _ x hx
  · simp only [List.mem_singleton] at hx
    subst hx
    decide

/-- The pieces up to k, in memory. -/
def PcRel (W : World) (s : ByteArray) (v5 v6 : Value) (wr : World) : Prop :=
  ∃ (k : Nat) (vs : List Value), k ≤ nPc s ∧ v6 = .int .i64 ((k + 1 : Nat) : Int) ∧ wr.ownsRow W.heap.size 35 1 v5 k vs ∧
    (∀ i, i < k → ∃ gx cx, vs[i]? = some (.slice (some ⟨gx, 0, none⟩) (pcS s i).length cx) ∧ Ints wr W.heap.size (.slice (some ⟨gx, 0, none⟩) (pcS s i).length cx) (pcS s i)) ∧ Below W.heap.size W wr

theorem cells1_p (w : World) (n : Nat) (x : Value) (ty : TypeId) (hn : n = w.heap.size) : ∀ j u, [x][j]? = some u → (w.alloc (.cells #[x] ty)).cell? ((⟨n, 0, none⟩ : Addr).add j) = some u := by
  subst hn
  intro j u hj
  match j, hj with
  | 0, hj => simp at hj; subst hj; simp [Addr.add]
  | j + 1, hj => simp at hj

theorem ints_addr {w : World} {B : Nat} {v : Value} {l : List Int} (h : Ints w B v l) (hne : l ≠ []) : ∃ g c, v = .slice (some ⟨g, 0, none⟩) l.length c := by
  rcases h.form with ⟨_, h0⟩ | ⟨g, c, hv, _⟩
  · exact absurd h0 hne
  · exact ⟨g, c, hv⟩

/-- The pieces in memory, all their blocks from B on. -/
def PcsB (w : World) (B : Nat) (v : Value) (pc : Nat → List Int) (n : Nat) : Prop :=
  ∃ a c, v = .slice a n c ∧ ∀ i, i < n → ∃ g gx fx cx, a = some ⟨g, 0, none⟩ ∧ g < w.heap.size ∧ w.cell? ⟨g, i, none⟩ = some (.slice (some ⟨gx, fx, none⟩) (pc i).length cx) ∧ gx < w.heap.size ∧ (∀ j y, (pc i)[j]? = some y → w.cell? ⟨gx, fx + j, none⟩ = some (.int .i64 y)) ∧ B ≤ g ∧ B ≤ gx

theorem PcsB.pcs {w : World} {B : Nat} {v : Value} {pc : Nat → List Int} {n : Nat} (h : PcsB w B v pc n) : Pcs w v pc n := by
  obtain ⟨a, c, h1, h2⟩ := h
  refine ⟨a, c, h1, fun i hi => ?_⟩
  obtain ⟨g, gx, fx, cx, q1, q2, q3, q4, q5, _⟩ := h2 i hi
  exact ⟨g, gx, fx, cx, q1, q2, q3, q4, q5⟩

theorem PcsB.kept {w w' : World} {B : Nat} {v : Value} {pc : Nat → List Int} {n : Nat} (h : PcsB w B v pc n) (hs : w.heap.size ≤ w'.heap.size) (hb : ∀ k, B ≤ k → k < w.heap.size → w'.heap[k]? = w.heap[k]?) : PcsB w' B v pc n := by
  obtain ⟨a, c, h1, h2⟩ := h
  refine ⟨a, c, h1, fun i hi => ?_⟩
  obtain ⟨g, gx, fx, cx, q1, q2, q3, q4, q5, q6, q7⟩ := h2 i hi
  exact ⟨g, gx, fx, cx, q1, Nat.lt_of_lt_of_le q2 hs, (World.cell?_of_block (a := ⟨g, i, none⟩) (hb g q6 q2)).trans q3, Nat.lt_of_lt_of_le q4 hs, fun j y hy => (World.cell?_of_block (a := ⟨gx, fx + j, none⟩) (hb gx q7 q4)).trans (q5 j y hy), q6, q7⟩

theorem pcs_of {W wr : World} {s : ByteArray} {v5 : Value} {vs : List Value} (h : wr.ownsRow W.heap.size 35 1 v5 (nPc s) vs) (hi : ∀ i, i < nPc s → ∃ gx cx, vs[i]? = some (.slice (some ⟨gx, 0, none⟩) (pcS s i).length cx) ∧ Ints wr W.heap.size (.slice (some ⟨gx, 0, none⟩) (pcS s i).length cx) (pcS s i)) : PcsB wr W.heap.size v5 (pcS s) (nPc s) := by
  rcases h.2 with ⟨rfl, h0⟩ | ⟨g, cap, cur, rfl, hg, hh, hr⟩
  · exact ⟨none, 0, by rw [h0], fun i hi' => by omega⟩
  · refine ⟨some ⟨g, 0, none⟩, cap, rfl, fun i hi' => ?_⟩
    obtain ⟨gx, cx, h1, h2⟩ := hi i hi'
    refine ⟨g, gx, 0, cx, rfl, (Array.getElem?_eq_some_iff.1 hh).1, ?_, (World.ownsRow.lt h2 gx rfl).2, fun j y hy => ?_, hg, (World.ownsRow.lt h2 gx rfl).1⟩
    · have := World.ownsRow.cellAt (g := g) h i (by omega)
      rw [this, h1]
    · have hj := (List.getElem?_eq_some_iff.1 hy).1
      rw [Nat.zero_add, h2.cell j hj, hy]
      rfl

set_option maxRecDepth 100000 in
set_option maxHeartbeats 4000000 in
theorem pieces_any {w : World} {B : Nat} {vc : Value} {s : ByteArray} (hs : ok4 s = true) (hC : Ints w B vc (cutsL s)) (ht : Tabs3 w) :
    Calls Tryz.prog 16 #[.string s, vc] w fun e w' => ∃ v, e = .returned v ∧ PcsB w' w.heap.size v (pcS s) (nPc s) ∧ Below w.heap.size w w' := by
  have hsz : s.size ≤ 200 := (of_decide_eq_true hs).1
  have hnp := nPc_le (s := s)
  have hcl := cutsL_len s
  obtain ⟨ca, cc, rfl⟩ := ints_form hC
  obtain ⟨ii, hii, hiz, hi1, hi2⟩ := info_parts info_ints
  have HC : Hid (Ints w B (.slice ca (cutsL s).length cc) (cutsL s)) := hC
  rw [hcl] at HC ⊢
  have HCL : Hid _ := hcl
  have HT : Hid (Tabs3 w) := ht
  clear hC ht hcl
  go_enter Tryz.func16, Tryz.ntmps16
  go_wp2
  go_loopw [5, 6] (fun v5 v6 wr => PcRel w s v5 v6 wr) (fun _ i _ => nPc s + 1 - (intOf i).toNat)
  case atStart => exact ⟨0, [], Nat.zero_le _, rfl, World.ownsRow_nil _ _ _ _, (fun i hi => by omega), Below.refl _ _⟩
  case round =>
    obtain ⟨k, vs, hk, rfl, hV, hI, hb⟩ := hrel
    by_cases hlt : k < nPc s
    · have hk8 : ((k + 1 : Nat) : Int) < ((nPc s + 1 : Nat) : Int) := by omega
      have HV : Hid (World.ownsRow _ _ _ _ _ _ _) := hV
      have HI : Hid _ := hI
      have HB : Hid (Below _ _ _) := hb
      clear hV hI hb
      obtain ⟨gc, rfl⟩ : ∃ gc, ca = some ⟨gc, 0, none⟩ := by
        rcases HC.out.form with ⟨h, _⟩ | ⟨g, c, h, _⟩
        · cases h
        · exact ⟨g, (Value.slice.inj h).1⟩
      have hCw : Ints wr B (.slice (some ⟨gc, 0, none⟩) (cutsL s).length cc) (cutsL s) := by rw [HCL.out]; exact HC.out.below HB.out
      have c0 := hCw.cell k (by rw [HCL.out]; omega)
      have c1 := hCw.cell (k + 1) (by rw [HCL.out]; omega)
      rw [cutsL_some (by omega)] at c0 c1
      simp only [Option.getD_some] at c0 c1
      have hgl : gc < wr.heap.size := (World.ownsRow.lt hCw gc rfl).2
      obtain ⟨o1, o2, o3⟩ := stretch_ok (s := s) (i := k) (k := k + 1) (by omega) (by omega) hs
      obtain ⟨pn, pl⟩ := pcS_ne hlt
      have hat := pcS_at hlt
      have haR : aR (s.extract (cutAt s k) (cutAt s (k + 1))) = pcS s k := by rw [hat]; unfold aR; rw [if_pos o1]
      have hpl : (pcS s k).length ≤ 200 := by rw [← haR]; exact aR_len _
      have hss : (s.extract (cutAt s k) (cutAt s (k + 1))).size ≤ 1048576 := by rw [size_part s o3]; omega
      have AP := fun (u : World) (hu : Below wr.heap.size wr u) => apartT_any (s.extract (cutAt s k) (cutAt s (k + 1))) hss u ((HT.out.below HB.out).below hu)
      rw [haR, o1] at AP
      generalize cutAt s k = p at *
      generalize cutAt s (k + 1) = q at *
      have hp8 : (p : Int) ≤ (q : Int) := by omega
      have hq8 : (q : Int) ≤ (s.size : Int) := by omega
      have hj1 : ((k + 1 : Nat) : Int) - 1 = (k : Int) := by omega
      have hj2 : (((k + 1 : Nat) : Int) - 1).toNat = k := by omega
      have hwk : IntKind.i64.wrap (k : Int) = (k : Int) := by rw [IntKind.wrap_i64]; omega
      have hki : (k : Int) < (nPc s : Int) + 1 := by omega
      have hki2 : (k : Int) + 1 < (nPc s : Int) + 1 := by omega
      have htn : ((k : Int) + 1).toNat = k + 1 := by omega
      have hk0 : 0 ≤ (k : Int) + 1 := by omega
      have HPN : Hid (pcS s k ≠ []) := pn
      clear hCw hat haR o1 pn hss
      go_wp2_with fail
      go_region_law (go_simp; go_at_call 34; refine (AP _ (by repeat (first | with_reducible exact Below.refl _ _ | with_reducible refine Below.drew ?_))).mono ?_; rintro e w6 ⟨v6, rfl, i6, b6⟩)
      all_goals
        obtain ⟨gx, cx, rfl⟩ := ints_addr i6 HPN.out
        have b6' : Below wr.heap.size wr w6 := (by first | exact b6 | exact ((Below.refl _ _).drew).trans b6)
        have V6 : w6.ownsRow w.heap.size 35 1 u5 k vs := World.ownsRow.kept HV.out (row := none) ⟨b6'.os, b6'.tape, b6'.output, b6'.size, fun k hk _ => b6'.block k hk⟩ (by cases h : u5.ownBlock <;> simp)
        have I6 : Ints w6 w.heap.size (.slice (some ⟨gx, 0, none⟩) (pcS s k).length cx) (pcS s k) := low_ints i6 (by have := HB.out.size; simpa using this)
        have HI6 : Hid (∀ i, i < k + 1 → ∃ gx' cx', (vs ++ [.slice (some ⟨gx, 0, none⟩) (pcS s k).length cx])[i]? = some (.slice (some ⟨gx', 0, none⟩) (pcS s i).length cx') ∧ Ints w6 w.heap.size (.slice (some ⟨gx', 0, none⟩) (pcS s i).length cx') (pcS s i)) := by
          intro i hi
          have hvl : vs.length = k := by simpa using HV.out.1
          by_cases e : i = k
          · subst e
            exact ⟨gx, cx, by rw [List.getElem?_append_right (by omega), hvl]; simp, I6⟩
          · obtain ⟨g', c', h1, h2⟩ := HI.out i (by omega)
            exact ⟨g', c', by rw [List.getElem?_append_left (by omega)]; exact h1, h2.below b6'⟩
        have HB6 : Hid (Below w.heap.size w w6) := HB.out.trans (b6'.mono HB.out.size)
        have hs6 := HB6.out.size
        clear AP i6 b6 b6' I6 HV HI HB c0 c1 hgl
        go_wp2_with (at_builtin; refine wpList_append_own _ rfl _ _ 51 rfl w.heap.size 35 ii (.slice none 0 0) 1 24 Tryz.underlying51 hii hiz hi1 hi2 rfl (by decide) _ _ _ rfl (V6.alloc _) ⟨w6.heap.size, 0, none⟩ 1 1 [.slice (some ⟨gx, 0, none⟩) (pcS s k).length cx] rfl rfl (cells1_p _ _ _ _ (by simp)) (fun u hu => by simp at hu; subst hu; rfl) (by unfold maxLen; omega) (by omega) (by simp; omega) ?_)
        intro v7 w7 ho7 hg7 _
        have hal := (Below.refl w6.heap.size w6).alloc (Nat.le_refl _) (.cells #[.slice (some ⟨gx, 0, none⟩) (pcS s k).length cx] 35)
        have HI7 : Hid (∀ i, i < k + 1 → ∃ gx' cx', (vs ++ [.slice (some ⟨gx, 0, none⟩) (pcS s k).length cx])[i]? = some (.slice (some ⟨gx', 0, none⟩) (pcS s i).length cx') ∧ Ints w7 w.heap.size (.slice (some ⟨gx', 0, none⟩) (pcS s i).length cx') (pcS s i)) := by
          intro i hi
          obtain ⟨g', c', h1, h2⟩ := HI6.out i hi
          exact ⟨g', c', h1, World.ownsRow.kept (h2.below hal) hg7 (own_type (h2.below hal) (V6.alloc _) (by decide))⟩
        have HO7 : Hid (World.ownsRow _ _ _ _ _ _ _) := ho7
        have HB7 : Hid (Below w.heap.size w w7) := Below.grown (HB6.out.alloc HB6.out.size _) hg7 (by simp; omega) (fun j hj => (World.ownsRow.lt V6 j hj).1)
        clear ho7 hg7 V6 HI6 HB6 hal
        go_wp2
        exact ⟨⟨k + 1, _, hlt, by go_num, HO7.out, HI7.out, HB7.out⟩, by simp [intOf]; omega⟩
    · have hkz : k = nPc s := by omega
      subst hkz
      have HP : Hid _ := pcs_of hV hI
      clear hV hI HC
      go_wp2
      go_ret
      exact ⟨_, rfl, HP.out, hb⟩
end Go.Proofs.YtinjldagfhbioaaGreatDoor
