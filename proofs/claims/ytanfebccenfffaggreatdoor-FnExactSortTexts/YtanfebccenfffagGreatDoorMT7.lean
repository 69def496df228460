/- Texts of mine laid together: SKey0, SKey, SKeyOf, SSortT, ToEl, IsRow, ARules, SzRules. -/
import Derived.Test.YtanfebccenfffagGreatDoorMT6
import Derived.Test.YtanfebccenfffagGreatDoorMT4
import Derived.Deep.RegionHeld
import Derived.Test.YtanfebccenfffagGreatDoorMT5
import Derived.Deep.Cut
import Derived.Deep.CutRange
import Derived.BigRegion
import Derived.Test.YtanfebccenfffagGreatDoorStrs
import Derived.Deep.AppendLies
import Derived.Test.YtanfebccenfffagGreatDoorResC
import Derived.Test.YtanfebccenfffagGreatDoorProg
import Derived.WalkKit
import Derived.Test.YtanfebccenfffagGreatDoorEnts
import Derived.ProofKit
import Derived.OpenShut
import Derived.LaidMore
import Derived.Deep.Slices
import Derived.Lib.SmallJoins
namespace Go.Proofs.YtanfebccenfffagGreatDoor
open Go.RowKit

theorem ents_slice {w : World} {B : Nat} {v : Value} {es : List Ent} (h : Ents w B v es) : ∃ a c, v = .slice a es.length c := by
  rcases h.form with ⟨rfl, rfl⟩ | ⟨_, _, rfl, _, _, _, _⟩
  · exact ⟨_, _, rfl⟩
  · exact ⟨_, _, rfl⟩

/-- The rules' block, of a call's own. -/
def BoxS (u : World) (b : Nat) (v : Value) (sh : Bool) (lv : Int) : Prop := u.heap[b]? = some (.cells #[v, .bool sh, .int .i64 lv] 32)
theorem BoxS.below {B b : Nat} {u u' : World} {v : Value} {sh : Bool} {lv : Int} (h : BoxS u b v sh lv) (hb : Below B u u') (hlt : b < B) : BoxS u' b v sh lv := (hb.block b hlt).trans h
theorem BoxS.cells {b : Nat} {u : World} {v : Value} {sh : Bool} {lv : Int} (h : BoxS u b v sh lv) : u.cell? ⟨b, 0, none⟩ = some v ∧ u.cell? ⟨b, 1, none⟩ = some (.bool sh) ∧ u.cell? ⟨b, 2, none⟩ = some (.int .i64 lv) :=
  ⟨cell_of_row _ _ 0 _ _ _ h, cell_of_row _ _ 1 _ _ _ h, cell_of_row _ _ 2 _ _ _ h⟩

/-- The rules' block and what has grown. -/
def BoxW (w0 : World) (b : Nat) (v : Value) (sh : Bool) (lv : Int) (u : World) : Prop := u.cell? ⟨b, 0, none⟩ = some v ∧ u.cell? ⟨b, 1, none⟩ = some (.bool sh) ∧ u.cell? ⟨b, 2, none⟩ = some (.int .i64 lv) ∧ b < w0.heap.size ∧ Below w0.heap.size w0 u

theorem BoxW.keep {w0 u u' : World} {b : Nat} {v : Value} {sh : Bool} {lv : Int} (hb : Below u.heap.size u u')
    (h : u.cell? ⟨b, 0, none⟩ = some v ∧ u.cell? ⟨b, 1, none⟩ = some (.bool sh) ∧ u.cell? ⟨b, 2, none⟩ = some (.int .i64 lv) ∧ b < w0.heap.size ∧ Below w0.heap.size w0 u) :
    u'.cell? ⟨b, 0, none⟩ = some v ∧ u'.cell? ⟨b, 1, none⟩ = some (.bool sh) ∧ u'.cell? ⟨b, 2, none⟩ = some (.int .i64 lv) ∧ b < w0.heap.size ∧ Below w0.heap.size w0 u' := by
  obtain ⟨h0, h1, h2, h3, h4⟩ := h
  have hlt : b < u.heap.size := Nat.lt_of_lt_of_le h3 h4.size
  exact ⟨(hb.cell hlt).trans h0, (hb.cell hlt).trans h1, (hb.cell hlt).trans h2, h3, h4.trans (hb.mono h4.size)⟩

theorem els_sliceS {w : World} {B : Nat} {v : Value} {es : List El} (h : Elems w B v es) :
    ∃ a c, v = .slice a es.length c ∧ ∀ k e, es[k]? = some e → ∃ g, a = some ⟨g, 0, none⟩ ∧ g < w.heap.size ∧ w.cell? ⟨g, k * 4, none⟩ = some (.int .i64 e.first) ∧ w.cell? ⟨g, k * 4 + 1, none⟩ = some (.int .i64 e.second) ∧ w.cell? ⟨g, k * 4 + 2, none⟩ = some (.int .i64 e.third) ∧ w.cell? ⟨g, k * 4 + 3, none⟩ = some (.bool e.varies) := by
  rcases h.form with ⟨rfl, rfl⟩ | ⟨g, cap, rfl, _, _⟩
  · exact ⟨_, _, rfl, fun k e he => by simp at he⟩
  · exact ⟨_, _, rfl, fun k e he => ⟨g, rfl, (World.ownsRow.lt h g rfl).2, h.cells k e he⟩⟩

theorem ints_sliceS {w : World} {B : Nat} {v : Value} {l : List Int} (h : Ints w B v l) :
    ∃ a c, v = .slice a l.length c ∧ ∀ k, k < l.length → ∃ g, a = some ⟨g, 0, none⟩ ∧ g < w.heap.size ∧ w.cell? ⟨g, k, none⟩ = some (.int .i64 (at0 l k)) := by
  rcases h.form with ⟨rfl, rfl⟩ | ⟨g, cap, rfl, _, _⟩
  · exact ⟨_, _, rfl, fun k hk => by simp at hk⟩
  · exact ⟨_, _, rfl, fun k hk => ⟨g, rfl, (World.ownsRow.lt h g rfl).2, h.cell k hk⟩⟩

theorem elAt_at {xs : List El} {k : Nat} {e : El} (h : xs[k]? = some e) : elAt xs k = e := by unfold elAt; rw [h]; rfl

end Go.Proofs.YtanfebccenfffagGreatDoor

namespace Go.Proofs.YtanfebccenfffagGreatDoor
open Go.RowKit

def SoRel (W : World) (xs : List El) (fs : List Int) (n : Nat) (v8 v9 : Value) (wr : World) : Prop :=
  ∃ l : Nat, l ≤ n ∧ v9 = .int .i64 ((l : Int) + 1) ∧ Bys wr W.heap.size v8 (keyN xs fs l) ∧ Below W.heap.size W wr

def SiRel (W : World) (pre : List Int) (lv : Nat) (xs : List El) (fs : List Int) (v8 i : Value) (wr : World) : Prop :=
  ∃ k : Nat, k ≤ xs.length ∧ i = .int .i64 k ∧ Bys wr W.heap.size v8 (pre ++ bysOf (wtsK lv xs fs k)) ∧ Below W.heap.size W wr

theorem wts_zero {lv : Nat} {xs : List El} {fs : List Int} {k : Nat} (pre : List Int) (h : wtL lv (elAt xs k) (at0 fs k) = 0) : pre ++ bysOf (wtsK lv xs fs (k + 1)) = pre ++ bysOf (wtsK lv xs fs k) := by
  rw [wtsK, ifNot_zero h, List.append_nil]
theorem wts_some {lv : Nat} {xs : List El} {fs : List Int} {k : Nat} (pre : List Int) (h : wtL lv (elAt xs k) (at0 fs k) ≠ 0) : pre ++ bysOf (wtsK lv xs fs (k + 1)) = (pre ++ bysOf (wtsK lv xs fs k)) ++ [wtL lv (elAt xs k) (at0 fs k) / 256, wtL lv (elAt xs k) (at0 fs k) % 256] := by
  rw [wtsK, ifNot_some h, bysOf_app, bysOf_one, List.append_assoc]

set_option maxRecDepth 100000 in
set_option maxHeartbeats 4000000 in
theorem key4_any {w : World} {B B' : Nat} {v vl : Value} {es : List Ent} {sh : Bool} {n : Nat} {l : List Int} (hE : Ents w B v es) (hn : es.length ≤ 1048576) (hr : ∀ e ∈ es, e.runes.length ≤ 1048576)
    (hL : Ints w B' vl l) (hl : l.length ≤ 200) (hg : ∀ x ∈ l, 0 ≤ x ∧ x ≤ 1114111) (h1 : 1 ≤ n) (h4 : n ≤ 4) (hrg : ∀ e ∈ elems4 es l, rngE e) :
    Calls Tryz.prog 46 #[.agg #[v, .bool sh, .int .i64 n], vl] w fun e w' => e = .returned (.string (bytesOf (keyB es sh n l))) ∧ Below w.heap.size w w' := by
  obtain ⟨va, vc, rfl⟩ := ents_slice hE
  obtain ⟨al, cl, rfl⟩ := lenS_form hL
  obtain ⟨i0, hi0, hz0, hs0, hy0⟩ := info_parts info_u8
  have hbx : Below w.heap.size w (w.alloc (.cells #[.slice va es.length vc, .bool sh, .int .i64 n] 32)) := (Below.refl _ _).alloc (Nat.le_refl _) _
  have hbox : BoxS (w.alloc (.cells #[.slice va es.length vc, .bool sh, .int .i64 n] 32)) w.heap.size (.slice va es.length vc) sh n := heap_alloc_new w _
  have hlb : w.heap.size < (w.alloc (.cells #[.slice va es.length vc, .bool sh, .int .i64 n] 32)).heap.size := by simp
  have EL := fun (u : World) (hu : Below (w.alloc (.cells #[.slice va es.length vc, .bool sh, .int .i64 n] 32)).heap.size (w.alloc (.cells #[.slice va es.length vc, .bool sh, .int .i64 n] 32)) u) => elems4S_any (sh := sh) (lv := (n : Int)) ((hE.below hbx).below hu) hn hr ((hL.below hbx).below hu) (by omega) hg
  have hlen := elems4_len es l
  unfold keyB
  rw [Int.toNat_natCast]
  have hwr := fun lv => wtsK_rng (lv := lv) (fourS_rng (sh := sh) hrg (elems4 es l).length).2 (fourS_rng (sh := sh) hrg (elems4 es l).length).1
  generalize elems4 es l = el at *
  have hel : el.length ≤ 400 := by omega
  have FO := fun (u : World) (B : Nat) (v : Value) (h : Elems u B v el) => fourth_any sh (by omega) h
  have hcl := counted_len sh el
  have hfl := fourths_len sh el
  have hwr2 : ∀ lv k, ∀ m ∈ wtsK lv (counted sh el) (fourths sh el) k, 1 ≤ m ∧ m ≤ 65535 := fun lv k => hwr lv k
  have her : ∀ e ∈ counted sh el, rngE e := (fourS_rng (sh := sh) hrg el.length).2
  have hfr : ∀ f ∈ fourths sh el, 0 ≤ f ∧ f ≤ 65535 := (fourS_rng (sh := sh) hrg el.length).1
  generalize counted sh el = xs at *
  generalize fourths sh el = fs at *
  have hxl : xs.length ≤ 400 := by omega
  have HFL : Hid (fs.length = xs.length) := by show _ = _; omega
  have HWR : Hid (∀ lv k, ∀ m ∈ wtsK lv xs fs k, 1 ≤ m ∧ m ≤ 65535) := hwr2
  have HER : Hid (∀ e ∈ xs, rngE e) := her
  have HFR : Hid (∀ f ∈ fs, 0 ≤ f ∧ f ≤ 65535) := hfr
  clear hE hL hr hg hwr hwr2 hlen hcl hfl hrg her hfr
  obtain ⟨W0, HW0⟩ : ∃ W0, Hid (W0 = w.alloc (.cells #[.slice va es.length vc, .bool sh, .int .i64 n] 32)) := ⟨_, rfl⟩
  rw [← HW0.out] at hbx hbox hlb EL
  obtain ⟨c0, c1, c2⟩ := hbox.cells
  have hS : W0.cell? ⟨w.heap.size, 0, none⟩ = some (.slice va es.length vc) ∧ W0.cell? ⟨w.heap.size, 1, none⟩ = some (.bool sh) ∧ W0.cell? ⟨w.heap.size, 2, none⟩ = some (.int .i64 n) ∧ w.heap.size < W0.heap.size ∧ Below W0.heap.size W0 W0 := ⟨c0, c1, c2, hlb, Below.refl _ _⟩
  have hS2 := BoxW.keep ((Below.refl W0.heap.size W0).drew) hS
  have EL2 := fun (u : World) (hu : u.cell? ⟨w.heap.size, 0, none⟩ = some (.slice va es.length vc) ∧ u.cell? ⟨w.heap.size, 1, none⟩ = some (.bool sh) ∧ u.cell? ⟨w.heap.size, 2, none⟩ = some (.int .i64 n) ∧ w.heap.size < W0.heap.size ∧ Below W0.heap.size W0 u) => EL u hu.2.2.2.2
  clear EL hbox
  go_enter Tryz.func46, Tryz.ntmps46
  go_wp2_with fail
  rw [← HW0.out]
  clear HW0
  go_region_held (fun u => u.cell? ⟨w.heap.size, 0, none⟩ = some (.slice va es.length vc) ∧ u.cell? ⟨w.heap.size, 1, none⟩ = some (.bool sh) ∧ u.cell? ⟨w.heap.size, 2, none⟩ = some (.int .i64 n) ∧ w.heap.size < W0.heap.size ∧ Below W0.heap.size W0 u)
    (first | exact hS2 | exact BoxW.keep (by assumption) (by assumption))
    (first | (go_at_call 69; refine (EL2 _ (by assumption)).mono ?_; rintro e w' ⟨vE, rfl, hEl, hbw⟩; obtain ⟨aE, cE, rfl⟩ := (show ∃ a c, vE = .slice a el.length c by obtain ⟨h, _⟩ | ⟨g, cap, h, _⟩ := hEl.form <;> (first | exact ⟨_, _, h⟩ | (rename_i h2; subst h2; exact ⟨_, _, h⟩)))) | (go_at_call 68; refine (FO _ _ _ (by assumption)).mono ?_; rintro e w' ⟨v5, v6, rfl, hI5, hE6, hbw⟩))
  all_goals
    obtain ⟨_, _, d2, _, hbW⟩ := (show w'.cell? ⟨w.heap.size, 0, none⟩ = _ ∧ _ ∧ _ ∧ _ ∧ Below W0.heap.size W0 w' by assumption)
    have hwW : w.heap.size < w'.heap.size := Nat.lt_of_lt_of_le hlb hbW.size
    have HBW : Hid (Below w.heap.size w w') := hbx.trans (hbW.mono hbx.size)
    obtain ⟨fa, fc, rfl, hcI⟩ := ints_sliceS hI5
    obtain ⟨xa, xc, rfl, hcE⟩ := els_sliceS hE6
    have HCI : Hid _ := hcI
    have HCE : Hid _ := hcE
    have hkl := fun l => keyN_len xs fs l
    have HKL : Hid (∀ l, l ≤ 4 → (keyN xs fs l).length ≤ 3208) := fun l hl => Nat.le_trans (hkl l) (Nat.le_trans (Nat.mul_le_mul hl (show 2 + 2 * xs.length ≤ 802 by omega)) (by omega))
    obtain ⟨W, HWW⟩ : ∃ W, Hid (W = w') := ⟨_, rfl⟩
    have hWW := HWW.out
    subst hWW
    clear hcI hcE hI5 hE6 hbW hS hS2 EL2 FO c0 c1 c2 hbx hlb hkl HWW
    try clear hEl
    try clear hbw
    go_wp2_with fail
    go_loopw [7, 8] (fun v7 v8 wr => SoRel W xs fs n v7 v8 wr) (fun _ v8 _ => n + 1 - (intOf v8).toNat)
    case atStart => exact ⟨0, by omega, rfl, World.ownsRow_nil _ _ _ _, Below.refl _ _⟩
    case round =>
      obtain ⟨l, hl, rfl, hK, hbw⟩ := hrel
      have e2 : wr.cell? ⟨w.heap.size, 2, none⟩ = some (.int .i64 n) := (hbw.cell (p := ⟨w.heap.size, 2, none⟩) hwW).trans d2
      have hkl := HKL.out l (by omega)
      have hsz := hbw.size
      by_cases hlt : l < n
      · have hlt8 : (l : Int) + 1 ≤ (n : Int) := by omega
        have HK : Hid (Bys _ _ _ _) := hK
        have HBV : Hid (Below _ _ _) := hbw
        clear hK hbw
        go_upto_if 28 with fail
        go_cut [7] from 21 to 64 (fun v7 wx => Bys wx W.heap.size v7 (keyN xs fs l ++ sepB (l + 1)) ∧ Below W.heap.size W wx)
        case first =>
          by_cases h0 : l = 0
          · subst h0
            go_wp2
            go_meet
            case rel => exact ⟨by simpa [sepB] using HK.out, HBV.out⟩
          · have h08 : (1 : Int) < (l : Int) + 1 := by omega
            have hs : sepB (l + 1) = [0, 0] := by unfold sepB; rw [if_pos (by omega)]
            have HS : Hid _ := hs
            have hK := HK.out
            unfold Bys at hK
            clear hs
            go_wp2_with (at_builtin; refine wpList_append_own _ rfl _ _ 95 rfl W.heap.size 5 i0 (.int .u8 0) 1 1 Tryz.underlying95 hi0 hz0 hs0 hy0 rfl (by decide) _ _ _ rfl (hK.alloc _) ⟨wr.heap.size, 0, none⟩ 2 2 [.int .u8 0, .int .u8 0] rfl rfl (cells2_at _ _ _ _ _ (by simp)) (fun u hu => by simp at hu; subst hu; rfl) (by unfold maxLen; omega) (by omega) (by simp; omega) ?_)
            intro v4 w4 ho4 hg4 _
            have hI4 : Bys w4 W.heap.size v4 (keyN xs fs l ++ [0, 0]) := Bys.app2 ho4
            have hb4 : Below W.heap.size W w4 := Below.grown (HBV.out.alloc HBV.out.size _) hg4 (HBV.out.alloc HBV.out.size _).size (fun j hj => (World.ownsRow.lt hK j hj).1)
            have HI4 : Hid (Bys _ _ _ _) := hI4
            clear ho4 hg4 hK hI4
            go_wp2
            go_meet
            case rel => exact ⟨by rw [HS.out]; exact HI4.out, hb4⟩
        case rest =>
          obtain ⟨hK, hbw⟩ := hcut
          clear HK HBV e2
          have hpl : (keyN xs fs l ++ sepB (l + 1)).length ≤ 3210 := by
            have : (sepB (l + 1)).length ≤ 2 := by unfold sepB; split <;> simp
            rw [List.length_append]; omega
          have HPR : Hid (keyN xs fs (l + 1) = (keyN xs fs l ++ sepB (l + 1)) ++ bysOf (wtsK (l + 1) xs fs xs.length)) := by show _ = _; rw [keyN, List.append_assoc]; rfl
          generalize keyN xs fs l ++ sepB (l + 1) = pre at *
          have HK2 : Hid (Bys _ _ _ _) := hK
          have HBW2 : Hid (Below _ _ _) := hbw
          clear hK hbw
          go_wp2_with fail
          go_loopw [7, 34] (fun v7 i wr => SiRel W pre (l + 1) xs fs v7 i wr) (fun _ i _ => xs.length - (intOf i).toNat)
          case atStart => exact ⟨0, Nat.zero_le _, rfl, by rw [wtsK, bysOf_nil, List.append_nil]; exact HK2.out, HBW2.out⟩
          case round =>
            clear HK2 HBW2
            obtain ⟨k, hk, rfl, hK, hbw⟩ := hrel
            have hwl := wtsK_len (l + 1) xs fs k
            by_cases hlk : k < xs.length
            · obtain ⟨e, he⟩ : ∃ e, xs[k]? = some e := ⟨_, List.getElem?_eq_getElem hlk⟩
              obtain ⟨ge, rfl, hgl, y0, y1, y2, y3⟩ := HCE.out k e he
              obtain ⟨gf, rfl, hfl, z0⟩ := HCI.out k (by have := HFL.out; omega)
              have hkf8 : (k : Int) < (fs.length : Int) := by have := HFL.out; omega
              have hk8 : (k : Int) < (xs.length : Int) := by omega
              have a0 : wr.cell? ⟨ge, k * 4, none⟩ = some (.int .i64 e.first) := (hbw.cell (p := ⟨ge, k * 4, none⟩) hgl).trans y0
              have a1 : wr.cell? ⟨ge, k * 4 + 1, none⟩ = some (.int .i64 e.second) := (hbw.cell (p := ⟨ge, k * 4 + 1, none⟩) hgl).trans y1
              have a2 : wr.cell? ⟨ge, k * 4 + 2, none⟩ = some (.int .i64 e.third) := (hbw.cell (p := ⟨ge, k * 4 + 2, none⟩) hgl).trans y2
              have a3 : wr.cell? ⟨ge, k * 4 + 3, none⟩ = some (.bool e.varies) := (hbw.cell (p := ⟨ge, k * 4 + 3, none⟩) hgl).trans y3
              have b0 : wr.cell? ⟨gf, k, none⟩ = some (.int .i64 (at0 fs k)) := (hbw.cell (p := ⟨gf, k, none⟩) hfl).trans z0
              have hgf : gf < wr.heap.size := Nat.lt_of_lt_of_le hfl hbw.size
              obtain ⟨X, HX⟩ : ∃ X, Hid (wtL (l + 1) (elAt xs k) (at0 fs k) = X) := ⟨_, rfl⟩
              have HXS : Hid ((l = 0 → X = e.first) ∧ (l = 1 → X = e.second) ∧ (l = 2 → X = e.third) ∧ (l = 3 → X = at0 fs k)) := by
                show _ ∧ _
                rw [← HX.out, elAt_at he]
                refine ⟨?_, ?_, ?_, ?_⟩ <;> (intro h; subst h; rfl)
              have hXr := wtL_rng (lv := l + 1) (elAt_rng HER.out k) (at0_rng HFR.out k)
              rw [HX.out] at hXr
              have hbl : (pre ++ bysOf (wtsK (l + 1) xs fs k)).length ≤ 4100 := by rw [List.length_append, bysOf_len]; omega
              have HK3 : Hid (Bys _ _ _ _) := hK
              have HB3 : Hid (Below _ _ _) := hbw
              have hsz3 := hbw.size
              clear hK hbw y0 y1 y2 y3 z0 he hgl hfl
              go_upto_region 11 with fail
              go_cut [11, 34] from 34 to 64 (fun v11 v34 wx => v11 = .int .i64 X ∧ v34 = .int .i64 k ∧ Below wr.heap.size wr wx)
              case first =>
                clear HK3 HB3 HX
                obtain h | h | h | h : l = 0 ∨ l = 1 ∨ l = 2 ∨ l = 3 := by omega
                · subst h
                  obtain rfl := HXS.out.1 rfl
                  clear HXS
                  go_region
                  all_goals
                    go_wp2_with fail
                    go_meet
                    case rel => exact ⟨rfl, rfl, by repeat (first | with_reducible exact Below.refl _ _ | with_reducible refine Below.drew ?_ | with_reducible refine Below.alloc ?_ (by first | omega | (simp; done) | (simp; omega)) _)⟩
                · subst h
                  obtain rfl := HXS.out.2.1 rfl
                  clear HXS
                  go_region
                  all_goals
                    go_wp2_with fail
                    go_meet
                    case rel => exact ⟨rfl, rfl, by repeat (first | with_reducible exact Below.refl _ _ | with_reducible refine Below.drew ?_ | with_reducible refine Below.alloc ?_ (by first | omega | (simp; done) | (simp; omega)) _)⟩
                · subst h
                  obtain rfl := HXS.out.2.2.1 rfl
                  clear HXS
                  go_region
                  all_goals
                    go_wp2_with fail
                    go_meet
                    case rel => exact ⟨rfl, rfl, by repeat (first | with_reducible exact Below.refl _ _ | with_reducible refine Below.drew ?_ | with_reducible refine Below.alloc ?_ (by first | omega | (simp; done) | (simp; omega)) _)⟩
                · subst h
                  obtain rfl := HXS.out.2.2.2 rfl
                  clear HXS
                  go_region
                  all_goals
                    go_wp2_with fail
                    go_meet
                    case rel => exact ⟨rfl, rfl, by repeat (first | with_reducible exact Below.refl _ _ | with_reducible refine Below.drew ?_ | with_reducible refine Below.alloc ?_ (by first | omega | (simp; done) | (simp; omega)) _)⟩
              case rest =>
                obtain ⟨rfl, rfl, hbx⟩ := hcut
                have hK := HK3.out.below hbx
                have hbw := HB3.out.trans (hbx.mono HB3.out.size)
                have hsz4 := hbw.size
                clear HK3 HB3 hbx a0 a1 a2 a3 b0 HXS
                by_cases hX0 : X = 0
                · have HT : Hid _ := wts_zero pre (HX.out.trans hX0)
                  have HK4 : Hid (Bys _ _ _ _) := hK
                  clear hK HX
                  go_wp2
                  go_roundw
                  case rel => exact ⟨k + 1, by omega, by go_num, by rw [HT.out]; exact HK4.out, hbw⟩
                  case measure => simp [intOf]; omega
                · have hX0' : (X == 0) = false := by simpa using hX0
                  have hT := wts_some (lv := l + 1) (xs := xs) (fs := fs) (k := k) pre (by rw [HX.out]; exact hX0)
                  rw [HX.out] at hT
                  have HT : Hid _ := hT
                  obtain ⟨hX1, hX2⟩ := hXr
                  obtain ⟨cur, HCUR⟩ : ∃ cur, Hid (pre ++ bysOf (wtsK (l + 1) xs fs k) = cur) := ⟨_, rfl⟩
                  rw [HCUR.out] at hK HT hbl
                  unfold Bys at hK
                  clear HX hT
                  go_wp2_with (at_builtin; refine wpList_append_own _ rfl _ _ 95 rfl W.heap.size 5 i0 (.int .u8 0) 1 1 Tryz.underlying95 hi0 hz0 hs0 hy0 rfl (by decide) _ _ _ rfl (hK.alloc _) ⟨wc.heap.size, 0, none⟩ 2 2 [.int .u8 (X / 256), .int .u8 (X % 256)] rfl rfl (cells2_at _ _ _ _ _ (by simp)) (fun u hu => by simp at hu; rcases hu with rfl | rfl <;> rfl) (by unfold maxLen; omega) (by omega) (by simp; omega) ?_)
                  intro v6 w6 ho6 hg6 _
                  have hI6 : Bys w6 W.heap.size v6 (cur ++ [X / 256, X % 256]) := Bys.app2 ho6
                  have hb6 : Below W.heap.size W w6 := Below.grown (hbw.alloc hbw.size _) hg6 (hbw.alloc hbw.size _).size (fun j hj => (World.ownsRow.lt hK j hj).1)
                  have HI6 : Hid (Bys _ _ _ _) := hI6
                  clear ho6 hg6 hK hI6 hbw
                  go_wp2
                  go_roundw
                  case rel => exact ⟨k + 1, by omega, by go_num, by rw [HT.out]; exact HI6.out, hb6⟩
                  case measure => simp [intOf]; omega
            · have hkl2 : k = xs.length := by omega
              subst hkl2
              have HK6 : Hid (Bys wr W.heap.size u7 (keyN xs fs (l + 1))) := by show Bys _ _ _ _; rw [HPR.out]; exact hK
              clear hK
              go_wp2
              go_roundw
              case rel => exact ⟨l + 1, by omega, by go_num, HK6.out, hbw⟩
              case measure => simp [intOf]; omega
      · have hln : l = n := by omega
        subst hln
        have CV := conv_bys hK
        clear hK
        go_wp2
        go_ret
        exact ⟨rfl, HBW.out.trans (hbw.mono HBW.out.size)⟩
end Go.Proofs.YtanfebccenfffagGreatDoor

namespace Go.Proofs.YtanfebccenfffagGreatDoor
open Go.RowKit

set_option maxRecDepth 100000 in
set_option maxHeartbeats 4000000 in
theorem specKey_any {w : World} {B : Nat} {ve : Value} {es : List Ent} {sh : Bool} {lv : Int} (x : ByteArray) (hx : x.size ≤ 1048576) (hE : Ents w B ve es) (hr : ∀ e ∈ es, e.runes.length ≤ 1048576) :
    Calls Tryz.prog 23 #[.agg #[ve, .bool sh, .int .i64 lv], .string x] w fun e w' => e = .returned (.tuple #[.string (keyT es sh lv x), .bool (okE es lv x)]) ∧ Below w.heap.size w w' := by
  obtain ⟨va, vc, rfl⟩ := ents_slice hE
  have hbx : Below w.heap.size w (w.alloc (.cells #[.slice va es.length vc, .bool sh, .int .i64 lv] 32)) := (Below.refl _ _).alloc (Nat.le_refl _) _
  have hbox : BoxS (w.alloc (.cells #[.slice va es.length vc, .bool sh, .int .i64 lv] 32)) w.heap.size (.slice va es.length vc) sh lv := heap_alloc_new w _
  have hlb : w.heap.size < (w.alloc (.cells #[.slice va es.length vc, .bool sh, .int .i64 lv] 32)).heap.size := by simp
  have AT := runes4_any x (w.alloc (.cells #[.slice va es.length vc, .bool sh, .int .i64 lv] 32)) (by omega)
  have HE : Hid (Ents _ _ _ _) := hE.below hbx
  have GR := fun (u : World) (hu : Below (w.alloc (.cells #[.slice va es.length vc, .bool sh, .int .i64 lv] 32)).heap.size (w.alloc (.cells #[.slice va es.length vc, .bool sh, .int .i64 lv] 32)) u) => good3_any (sh := sh) (lv := lv) (HE.out.below hu) hr
  have hrg := rn4_rng x
  unfold keyT okE
  clear hE
  cases hok : ok4 x
  · rw [hok] at AT
    rw [Bool.false_and, if_neg (by simp)]
    clear hok GR
    go_enter Tryz.func23, Tryz.ntmps23
    go_wp2_with fail
    refine AT.mono ?_
    rintro e w1 ⟨v1, rfl, i1, b1⟩
    clear AT i1
    go_wp2
    go_ret2
    exact ⟨rfl, hbx.trans (b1.mono hbx.size)⟩
  · obtain ⟨hs, hl⟩ := ok4_parts hok
    rw [hok] at AT
    rw [Bool.true_and]
    clear hok
    generalize rn4 x = rs at *
    cases hro : rulesOk es lv
    · rw [hro] at GR
      rw [if_neg (by simp)]
      clear hro
      go_enter Tryz.func23, Tryz.ntmps23
      go_wp2_with fail
      refine AT.mono ?_
      rintro e w1 ⟨v1, rfl, i1, b1⟩
      have G1 := GR _ b1
      obtain ⟨c0, c1, c2⟩ := (hbox.below b1 hlb).cells
      have hsz1 := b1.size
      clear AT GR hbox i1
      go_wp2_with fail
      refine G1.mono ?_
      rintro e w2 ⟨rfl, b2⟩
      clear G1
      have b3 := hbx.trans ((b1.trans (b2.mono b1.size)).mono hbx.size)
      go_wp2
      go_ret2
      exact ⟨rfl, b3⟩
    · rw [hro] at GR
      rw [if_pos rfl]
      have hne : es.length ≤ 1048576 := by have := (rulesOk_parts hro).1; omega
      obtain ⟨_, hl1, hl4⟩ := rulesOk_parts hro
      have herg := elems4_rng hro hrg
      obtain ⟨n, rfl⟩ : ∃ n : Nat, lv = (n : Int) := ⟨lv.toNat, by omega⟩
      clear hro
      go_enter Tryz.func23, Tryz.ntmps23
      go_wp2_with fail
      refine AT.mono ?_
      rintro e w1 ⟨v1, rfl, i1, b1⟩
      have G1 := GR _ b1
      have hbox1 := hbox.below b1 hlb
      obtain ⟨c0, c1, c2⟩ := hbox1.cells
      have hsz1 := b1.size
      have I1 := i1 hs
      clear AT GR hbox i1
      go_wp2_with fail
      refine G1.mono ?_
      rintro e w2 ⟨rfl, b2⟩
      clear G1 c0 c1 c2
      have b12 := b1.trans (b2.mono b1.size)
      have b3 := hbx.trans (b12.mono hbx.size)
      have E2 := key4_any (sh := sh) (n := n) (HE.out.below b12) hne hr (I1.below b2) (by omega) hrg (by omega) (by omega) herg
      obtain ⟨c0, c1, c2⟩ := (hbox1.below b2 (by omega)).cells
      clear I1 hbox1
      go_wp2_with fail
      refine E2.mono ?_
      rintro e w3 ⟨rfl, b4⟩
      clear E2 c0 c1 c2
      go_wp2
      go_ret2
      exact ⟨rfl, b3.trans (b4.mono b3.size)⟩
end Go.Proofs.YtanfebccenfffagGreatDoor

namespace Go.Proofs.YtanfebccenfffagGreatDoor
open Go.RowKit

/-- Two rows apart: the keys and the texts. -/
structure KO (w : World) (B : Nat) (v6 v7 : Value) (n : Nat) (l : List KT) : Prop where
  len : l.length = n
  keys : w.ownsRow B 9 1 v6 n ((l.map KT.key).map Value.string)
  texts : w.ownsRow B 9 1 v7 n ((l.map KT.text).map Value.string)
  apart : v6.ownBlock = none ∨ v6.ownBlock ≠ v7.ownBlock

theorem KO.below {w w' : World} {B n : Nat} {v6 v7 : Value} {l : List KT} (h : KO w B v6 v7 n l) (hb : Below w.heap.size w w') : KO w' B v6 v7 n l :=
  ⟨h.len, World.ownsRow.kept h.keys (row := none) ⟨hb.os, hb.tape, hb.output, hb.size, fun k hk _ => hb.block k hk⟩ (by cases h : v6.ownBlock <;> simp),
    World.ownsRow.kept h.texts (row := none) ⟨hb.os, hb.tape, hb.output, hb.size, fun k hk _ => hb.block k hk⟩ (by cases h : v7.ownBlock <;> simp), h.apart⟩

theorem kt_at {l : List KT} {k : Nat} (h : k < l.length) : l[k]? = some (ktAt l k) := by
  unfold ktAt
  rw [List.getElem?_eq_getElem h]; rfl

theorem KO.facts {w : World} {B n g6 c6 g7 c7 : Nat} {l : List KT} (h : KO w B (.slice (some ⟨g6, 0, none⟩) n c6) (.slice (some ⟨g7, 0, none⟩) n c7) n l) (j : Nat) (hj : j < n) :
    w.cell? ⟨g6, j, none⟩ = some (.string (ktAt l j).key) ∧ w.cell? ⟨g7, j, none⟩ = some (.string (ktAt l j).text) ∧ w.frozen? ⟨g6, j, none⟩ = false ∧ w.frozen? ⟨g7, j, none⟩ = false := by
  have hl := h.len
  have e := kt_at (l := l) (k := j) (by omega)
  have h6 := World.ownsRow.cellAt h.keys j (by omega)
  have h7 := World.ownsRow.cellAt h.texts j (by omega)
  rw [List.getElem?_map, List.getElem?_map, e] at h6 h7
  exact ⟨h6, h7, World.ownsRow.frozenAt h.keys j, World.ownsRow.frozenAt h.texts j⟩

theorem KO.ne {w : World} {B n g6 c6 g7 c7 : Nat} {l : List KT} (h : KO w B (.slice (some ⟨g6, 0, none⟩) n c6) (.slice (some ⟨g7, 0, none⟩) n c7) n l) : g6 ≠ g7 := by
  rcases h.apart with c | c
  · cases c
  · exact fun e => c (by rw [e]; rfl)

/-- A key laid anew, the text not yet. -/
theorem KO.half {w : World} {B n g6 c6 g7 c7 : Nat} {l : List KT} (h : KO w B (.slice (some ⟨g6, 0, none⟩) n c6) (.slice (some ⟨g7, 0, none⟩) n c7) n l) (i : Nat) (x : ByteArray) :
    ∀ j, j < n → (w.setCell ⟨g6, i, none⟩ (.string x)).cell? ⟨g7, j, none⟩ = some (.string (ktAt l j).text) ∧ (w.setCell ⟨g6, i, none⟩ (.string x)).frozen? ⟨g7, j, none⟩ = false := by
  intro j hj
  have s6 := World.ownsRow.stored h.keys i (.string x)
  have k7 := World.ownsRow.kept h.texts s6.2 (by
    rcases h.apart with c | c
    · cases c
    · exact .inr fun e => c e.symm)
  have hl := h.len
  have h7 := World.ownsRow.cellAt k7 j (by omega)
  rw [List.getElem?_map, List.getElem?_map, kt_at (l := l) (k := j) (by omega)] at h7
  exact ⟨h7, World.ownsRow.frozenAt k7 j⟩

theorem KO.put {w : World} {B n g6 c6 g7 c7 : Nat} {l : List KT} (h : KO w B (.slice (some ⟨g6, 0, none⟩) n c6) (.slice (some ⟨g7, 0, none⟩) n c7) n l) (i : Nat) (x : KT) :
    KO ((w.setCell ⟨g6, i, none⟩ (.string x.key)).setCell ⟨g7, i, none⟩ (.string x.text)) B (.slice (some ⟨g6, 0, none⟩) n c6) (.slice (some ⟨g7, 0, none⟩) n c7) n (l.set i x) := by
  have s6 := World.ownsRow.stored h.keys i (.string x.key)
  have k7 := World.ownsRow.kept h.texts s6.2 (by
    rcases h.apart with c | c
    · cases c
    · exact .inr fun e => c e.symm)
  have s7 := World.ownsRow.stored k7 i (.string x.text)
  have k6 := World.ownsRow.kept s6.1 s7.2 h.apart
  refine ⟨by simp [h.len], ?_, ?_, h.apart⟩
  · simpa [List.map_set] using k6
  · simpa [List.map_set] using s7.1

theorem KO.below_put {w u : World} {B g6 g7 i : Nat} {x y : Value} (h : Below B w u) (h6 : B ≤ g6) (h7 : B ≤ g7) : Below B w ((u.setCell ⟨g6, i, none⟩ x).setCell ⟨g7, i, none⟩ y) := (h.setCell h6 _).setCell h7 _

def SoR (W : World) (L : List KT) (n : Nat) (v6 v7 i : Value) (wr : World) : Prop :=
  ∃ k : Nat, k ≤ n ∧ i = .int .i64 k ∧ KO wr W.heap.size v6 v7 k (insK L k) ∧ Below W.heap.size W wr
def SiR (W : World) (x : KT) (goal : List KT) (n : Nat) (v6 v7 at_ : Value) (wr : World) : Prop :=
  ∃ (j : Nat) (arr : List KT), j < n ∧ at_ = .int .i64 j ∧ KO wr W.heap.size v6 v7 n arr ∧ bubK (arr.set j x) j = goal ∧ Below W.heap.size W wr

theorem Strs.sliceS {w : World} {B : Nat} {v : Value} {ss : List ByteArray} (h : Strs w B v ss) :
    ∃ a c, v = .slice a ss.length c ∧ ∀ k x, ss[k]? = some x → ∃ g, a = some ⟨g, 0, none⟩ ∧ g < w.heap.size ∧ w.cell? ⟨g, k, none⟩ = some (.string x) := by
  rcases h.form with ⟨rfl, rfl⟩ | ⟨g, cap, rfl, _, _⟩
  · exact ⟨_, _, rfl, fun k x hx => by simp at hx⟩
  · exact ⟨_, _, rfl, fun k x hx => ⟨g, rfl, (World.ownsRow.lt h g rfl).2, Strs.cell h k x hx⟩⟩

theorem cellT_at (w : World) (n : Nat) (x : ByteArray) (t : TypeId) (hn : n = w.heap.size) : ∀ j u, [Value.string x][j]? = some u → (w.alloc (.cells #[.string x] t)).cell? ((⟨n, 0, none⟩ : Addr).add j) = some u := by
  subst hn
  intro j u hj
  match j, hj with
  | 0, hj => simp at hj; subst hj; simp [Addr.add]

set_option maxRecDepth 100000 in
set_option maxHeartbeats 4000000 in
theorem specSort_any {w : World} {B B' : Nat} {ve vl : Value} {es : List Ent} {sh : Bool} {lv : Int} (ss : List ByteArray) (hE : Ents w B ve es) (hr : ∀ e ∈ es, e.runes.length ≤ 1048576) (hL : Strs w B' vl ss) (hsz : ∀ s ∈ ss, s.size ≤ 1048576) (hln : ss.length ≤ 1048576) :
    Calls Tryz.prog 7 #[.agg #[ve, .bool sh, .int .i64 lv], vl] w fun e w' => ∃ v', e = .returned (.tuple #[v', .bool (okS es lv ss)]) ∧ Strs w' w.heap.size v' (sortS es sh lv ss) ∧ Below w.heap.size w w' := by
  obtain ⟨va, vc, rfl⟩ := ents_slice hE
  obtain ⟨la, lc, rfl, hcL⟩ := hL.sliceS
  obtain ⟨i0, hi0, hz0, hs0, hy0⟩ := info_parts info_str
  have hbx : Below w.heap.size w (w.alloc (.cells #[.slice va es.length vc, .bool sh, .int .i64 lv] 32)) := (Below.refl _ _).alloc (Nat.le_refl _) _
  have hbox : BoxS (w.alloc (.cells #[.slice va es.length vc, .bool sh, .int .i64 lv] 32)) w.heap.size (.slice va es.length vc) sh lv := heap_alloc_new w _
  have hlb : w.heap.size < (w.alloc (.cells #[.slice va es.length vc, .bool sh, .int .i64 lv] 32)).heap.size := by simp
  have GR := good3_any (sh := sh) (lv := lv) (hE.below hbx) hr
  have HE : Hid (Ents _ _ _ _) := hE
  have HCL : Hid _ := hcL
  have HSZ : Hid (∀ s ∈ ss, s.size ≤ 1048576) := hsz
  clear hE hL hcL hsz
  by_cases h60 : 60 < ss.length
  · have h608 : (60 : Int) < (ss.length : Int) := by omega
    have h609 : decide ((60 : Int) < (ss.length : Int)) = true := decide_eq_true h608
    have hf := okS_long (es := es) (lv := lv) h60
    unfold sortS
    rw [hf, if_neg (by simp)]
    clear hf GR
    go_enter Tryz.func7, Tryz.ntmps7
    go_wp2
    go_ret2
    exact ⟨_, rfl, ⟨rfl, .inl ⟨rfl, rfl⟩⟩, hbx⟩
  · have h608 : ¬ (60 : Int) < (ss.length : Int) := by omega
    have h609 : decide ((60 : Int) < (ss.length : Int)) = false := decide_eq_false h608
    cases hro : rulesOk es lv
    · rw [hro] at GR
      have hf := okS_rules (ss := ss) hro
      unfold sortS
      rw [hf, if_neg (by simp)]
      clear hf hro
      go_enter Tryz.func7, Tryz.ntmps7
      go_wp2_with fail
      refine GR.mono ?_
      rintro e w2 ⟨rfl, b2⟩
      clear GR
      go_wp2
      go_ret2
      exact ⟨_, rfl, ⟨rfl, .inl ⟨rfl, rfl⟩⟩, hbx.trans (b2.mono hbx.size)⟩
    · rw [hro] at GR
      have KY := fun (u : World) (hu : Below w.heap.size w u) (x : ByteArray) (hx : x.size ≤ 1048576) => specKey_any (sh := sh) (lv := lv) x hx (HE.out.below hu) hr
      have KY2 : ∀ (u : World) (hu : Below w.heap.size w u) (x : ByteArray) (hx : x.size ≤ 1048576), Calls Tryz.prog 23 #[.agg #[.slice va es.length vc, .bool sh, .int .i64 lv], .string x] u fun e w' => e = .returned (.tuple #[.string (keyT es sh lv x), .bool (ok4 x)]) ∧ Below u.heap.size u w' := fun u hu x hx => by
        have := KY u hu x hx
        rw [okE_rules x hro] at this
        exact this
      have HKY : Hid _ := KY2
      have HRO : Hid (rulesOk es lv = true) := hro
      clear KY KY2 hro
      obtain ⟨W0, HW0⟩ : ∃ W0, Hid (W0 = w.alloc (.cells #[.slice va es.length vc, .bool sh, .int .i64 lv] 32)) := ⟨_, rfl⟩
      rw [← HW0.out] at hbx hbox hlb GR
      go_enter Tryz.func7, Tryz.ntmps7
      go_wp2_with fail
      rw [← HW0.out]
      obtain ⟨c0, c1, c2⟩ := hbox.cells
      refine GR.mono ?_
      rintro e W ⟨rfl, bW⟩
      have HBO : Hid (BoxS W w.heap.size (.slice va es.length vc) sh lv) := hbox.below bW hlb
      have HBW : Hid (Below w.heap.size w W) := hbx.trans (bW.mono hbx.size)
      have hwW : w.heap.size < W.heap.size := Nat.lt_of_lt_of_le hlb bW.size
      obtain ⟨L, HL⟩ : ∃ L, Hid (ss.map (ktOf es sh lv) = L) := ⟨_, rfl⟩
      have hLl : L.length = ss.length := by rw [← HL.out, List.length_map]
      clear GR c0 c1 c2 hbox hbx bW HW0 hlb
      have HLL : Hid (L.length = ss.length) := hLl
      clear hLl
      go_wp2_with fail
      go_loopw [6, 7, 23] (fun v6 v7 i wr => (∀ j s, j < (intOf i).toNat → ss[j]? = some s → ok4 s = true) ∧ SoR W L ss.length v6 v7 i wr) (fun _ _ i _ => ss.length - (intOf i).toNat)
      case atStart => exact ⟨fun j s hj => by simp [intOf] at hj, 0, Nat.zero_le _, rfl, ⟨rfl, World.ownsRow_nil _ _ _ _, World.ownsRow_nil _ _ _ _, .inl rfl⟩, Below.refl _ _⟩
      case round =>
        obtain ⟨hgd, k, hk, rfl, hKO, hbw⟩ := hrel
        have HGD : Hid (∀ j s, j < k → ss[j]? = some s → ok4 s = true) := fun j s hj hs => hgd j s (by simpa [intOf] using hj) hs
        clear hgd
        have hsz1 := hbw.size
        by_cases hlt : k < ss.length
        · obtain ⟨x, hx⟩ : ∃ x, ss[k]? = some x := ⟨_, List.getElem?_eq_getElem hlt⟩
          obtain ⟨g, rfl, hgl, y0⟩ := HCL.out k x hx
          have a0 : wr.cell? ⟨g, k, none⟩ = some (.string x) := ((HBW.out.trans (hbw.mono HBW.out.size)).cell (p := ⟨g, k, none⟩) hgl).trans y0
          have hk8 : (k : Int) < (ss.length : Int) := by omega
          obtain ⟨c0, c1, c2⟩ := (HBO.out.below hbw hwW).cells
          have K1 := HKY.out wr (HBW.out.trans (hbw.mono HBW.out.size)) x (HSZ.out x (List.mem_of_getElem? hx))
          have HX : Hid (ss[k]? = some x) := hx
          clear hx y0
          cases hok : ok4 x
          · rw [hok] at K1
            have hf := okS_bad (es := es) (lv := lv) HX.out hok
            have hf2 : sortS es sh lv ss = [] := by unfold sortS; rw [hf, if_neg (by simp)]
            have HF : Hid (okS es lv ss = false ∧ sortS es sh lv ss = []) := ⟨hf, hf2⟩
            clear hf hf2 hok hKO
            go_wp2_with fail
            refine K1.mono ?_
            rintro e w2 ⟨rfl, b2⟩
            have HB2 : Hid (Below w.heap.size w w2) := HBW.out.trans ((hbw.trans (b2.mono hbw.size)).mono HBW.out.size)
            clear K1 c0 c1 c2 a0 b2 hbw
            go_wp2
            go_ret2
            rw [HF.out.1, HF.out.2]
            exact ⟨_, rfl, ⟨rfl, .inl ⟨rfl, rfl⟩⟩, HB2.out⟩
          · rw [hok] at K1
            have HGD2 : Hid (∀ j s, j < k + 1 → ss[j]? = some s → ok4 s = true) := fun j s hj hs => by
              by_cases c : j = k
              · subst c
                rw [HX.out] at hs
                cases hs
                exact hok
              · exact HGD.out j s (by omega) hs
            have HKA : Hid (ktAt L k = ⟨keyT es sh lv x, x⟩) := by show _ = _; rw [← HL.out, ktAt_map HX.out]; rfl
            have hil := insK_len L k
            generalize keyT es sh lv x = kx at *
            have HKO : Hid (KO _ _ _ _ _ _) := hKO
            have HINS : Hid (insK L (k + 1) = bubK (insK L k ++ [⟨kx, x⟩]) k) := by show _ = _; rw [insK_succ, HKA.out]
            have hu6 : ∃ a6 c6, u6 = .slice a6 k c6 := by
              rcases hKO.keys.2 with ⟨h1, h2⟩ | ⟨g6, c6, cur, h1, _⟩
              · subst h2
                exact ⟨_, _, h1⟩
              · exact ⟨_, _, h1⟩
            obtain ⟨a6, c6, rfl⟩ := hu6
            clear hok HGD HX hKO HKA hil
            go_wp2_with fail
            refine K1.mono ?_
            rintro e w2 ⟨rfl, b2⟩
            have ko2 := HKO.out.below b2
            have hb2 := hbw.trans (b2.mono hbw.size)
            have hsz2 := hb2.size
            have ik := ko2.keys
            have it := ko2.texts
            have HAP : Hid _ := ko2.apart
            have HLEN : Hid ((insK L k).length = k) := ko2.len
            clear K1 c0 c1 c2 a0 b2 hbw ko2 HKO
            go_wp2_with (at_builtin; refine wpList_append_lies _ rfl _ _ 25 rfl W.heap.size 9 i0 (.string ⟨#[]⟩) 1 16 Tryz.underlying25 hi0 hz0 hs0 hy0 rfl (by decide) _ _ _ rfl (ik.alloc _) ⟨w2.heap.size, 0, none⟩ 1 1 [.string kx] rfl rfl (cellT_at _ _ _ _ (by simp)) (fun u hu => by simp at hu; subst hu; rfl) (by omega) (by unfold maxLen; omega) (by omega) (by simp; omega) (w2.heap.size + 1) (by simp) ?_)
            intro g6 cap6 w4 o4 gr4 hg4 hl4
            have it4 := World.ownsRow.kept (it.alloc (.cells #[.string kx] 9)) gr4 (by
              rcases HAP.out with c | c
              · cases c2 : u7.ownBlock with
                | none => exact .inl rfl
                | some b => exact .inr fun e => by rw [c] at e; cases e
              · exact .inr fun e => c e.symm)
            have hb4 : Below W.heap.size W w4 := Below.grown (hb2.alloc hb2.size _) gr4 (hb2.alloc hb2.size _).size (fun j hj => (World.ownsRow.lt ik j hj).1)
            have HN4 : Hid (∀ b, u7.ownBlock = some b → b ≠ g6) := fun b hb e => by
              have l7 := (World.ownsRow.lt it b hb).2
              rcases hg4 with c | c
              · rcases HAP.out with d | d
                · rw [d] at c; cases c
                · exact d (by rw [c, hb, e])
              · omega
            have hsz4 := hb4.size
            have O4 : Hid (World.ownsRow _ _ _ _ _ _ _) := o4
            have HB4 : Hid (Below _ _ _) := hb4
            clear ik it gr4 hg4 o4 hb2 hb4
            go_wp2_with (at_builtin; refine wpList_append_lies _ rfl _ _ 25 rfl W.heap.size 9 i0 (.string ⟨#[]⟩) 1 16 Tryz.underlying25 hi0 hz0 hs0 hy0 rfl (by decide) _ _ _ rfl (it4.alloc _) ⟨w4.heap.size, 0, none⟩ 1 1 [.string x] rfl rfl (cellT_at _ _ _ _ (by simp)) (fun u hu => by simp at hu; subst hu; rfl) (by omega) (by unfold maxLen; omega) (by omega) (by simp; omega) (w4.heap.size + 1) (by simp) ?_)
            intro g7 cap7 w5 o5 gr5 hg5 hl5
            have hb5 : Below W.heap.size W w5 := Below.grown (HB4.out.alloc HB4.out.size _) gr5 (HB4.out.alloc HB4.out.size _).size (fun j hj => (World.ownsRow.lt it4 j hj).1)
            have hne : g6 ≠ g7 := fun e => by
              rcases hg5 with c | c
              · exact HN4.out g7 c e.symm
              · omega
            have o45 := World.ownsRow.kept (World.ownsRow.alloc O4.out (.cells #[.string x] 9)) gr5 (.inr fun e => HN4.out g6 e.symm rfl)
            have ko5 : KO w5 W.heap.size (.slice (some ⟨g6, 0, none⟩) (k + 1) cap6) (.slice (some ⟨g7, 0, none⟩) (k + 1) cap7) (k + 1) (insK L k ++ [⟨kx, x⟩]) :=
              ⟨by simp [HLEN.out], by simpa using o45, by simpa using o5, .inr fun e => hne (Option.some.inj e)⟩
            have hG6 := (World.ownsRow.lt ko5.keys g6 rfl).1
            have hG7 := (World.ownsRow.lt ko5.texts g7 rfl).1
            have hst : SiR W ⟨kx, x⟩ (insK L (k + 1)) (k + 1) (.slice (some ⟨g6, 0, none⟩) (k + 1) cap6) (.slice (some ⟨g7, 0, none⟩) (k + 1) cap7) (.int .i64 k) w5 :=
              ⟨k, insK L k ++ [⟨kx, x⟩], by omega, rfl, ko5, by rw [HINS.out, List.set_append_right _ _ (by rw [HLEN.out]; exact Nat.le_refl _), HLEN.out, Nat.sub_self]; rfl, hb5⟩
            have HST : Hid (SiR _ _ _ _ _ _ _ _) := hst
            obtain ⟨goal, HGO⟩ : ∃ goal, Hid (insK L (k + 1) = goal) := ⟨_, rfl⟩
            rw [HGO.out] at HST
            clear hst ko5 o45 gr5 hg5 o5 hb5 it4 O4 HB4 HN4 HINS HAP HLEN hl4 hl5
            go_wp2_with fail
            go_loopw [12] (fun at_ wr => SiR W ⟨kx, x⟩ goal (k + 1) (.slice (some ⟨g6, 0, none⟩) (k + 1) cap6) (.slice (some ⟨g7, 0, none⟩) (k + 1) cap7) at_ wr) (fun at_ _ => (intOf at_).toNat)
            case atStart => exact HST.out
            case round =>
              clear HST
              obtain ⟨j, arr, hj, rfl, ko, hgoal, hbw⟩ := hrel
              have HG : Hid (bubK (arr.set j ⟨kx, x⟩) j = goal) := hgoal
              have hal := ko.len
              clear hgoal
              have hj8 : (j : Int) < (k : Int) + 1 := by omega
              cases j with
              | zero =>
                have HE0 : Hid (arr.set 0 ⟨kx, x⟩ = goal) := HG.out
                have HP : Hid (KO _ _ _ _ _ _) := ko.put 0 ⟨kx, x⟩
                have HBP : Hid (Below _ _ _) := KO.below_put (i := 0) (x := .string kx) (y := .string x) hbw hG6 hG7
                obtain ⟨f1, f2, f3, f4⟩ := ko.facts 0 hj
                obtain ⟨f5, f6⟩ := ko.half 0 kx 0 hj
                clear HG ko hbw
                go_wp2
                exact ⟨⟨fun j s hj hs => HGD2.out j s (by simp [intOf] at hj; omega) hs, k + 1, by omega, by go_num, by rw [HGO.out, ← HE0.out]; exact HP.out, HBP.out⟩, by simp [intOf]; omega⟩
              | succ p =>
                have hp1 : p < k + 1 := by omega
                have hw1 : IntKind.i64.wrap ((p : Int) + 1 - 1) = (p : Int) := by rw [IntKind.wrap_i64]; omega
                have hw2 : IntKind.i64.wrap (((p + 1 : Nat) : Int) - 1) = (p : Int) := by rw [IntKind.wrap_i64]; omega
                have hw3 : IntKind.i64.wrap (p : Int) = (p : Int) := by rw [IntKind.wrap_i64]; omega
                have hq1 : (p : Int) < (k : Int) + 1 := by omega
                have hq2 : (p : Int) + 1 < (k : Int) + 1 := by omega
                have hq3 : (0 : Int) < (p : Int) + 1 := by omega
                have hq4 : decide ((0 : Int) < (p : Int) + 1) = true := decide_eq_true hq3
                obtain ⟨f1, f2, f3, f4⟩ := ko.facts (p + 1) hj
                obtain ⟨e1, e2, _, _⟩ := ko.facts p hp1
                cases hgt : gtS (ktAt arr p).key kx
                · unfold gtS at hgt
                  cases hl : ltS (ktAt arr p).key kx
                  · have heq : ((ktAt arr p).key.toList == kx.toList) = true := by
                      rw [hl, Bool.false_or] at hgt
                      unfold eqS at hgt
                      simpa using hgt
                    have hlt2 : Op.bytesLess (ktAt arr p).key.toList kx.toList = false := hl
                    have hgt : gtS (ktAt arr p).key kx = false := by unfold gtS eqS; rw [heq]; simp
                    clear hl
                    have HE0 : Hid (arr.set (p + 1) ⟨kx, x⟩ = goal) := by show _ = _; rw [← hole_stop (by omega) hgt]; exact HG.out
                    have HP : Hid (KO _ _ _ _ _ _) := ko.put (p + 1) ⟨kx, x⟩
                    have HBP : Hid (Below _ _ _) := KO.below_put (i := p + 1) (x := .string kx) (y := .string x) hbw hG6 hG7
                    obtain ⟨f5, f6⟩ := ko.half (p + 1) kx (p + 1) hj
                    clear HG ko hgt hbw
                    go_wp2
                    exact ⟨⟨fun j s hj hs => HGD2.out j s (by simp [intOf] at hj; omega) hs, k + 1, by omega, by go_num, by rw [HGO.out, ← HE0.out]; exact HP.out, HBP.out⟩, by simp [intOf]; omega⟩
                  · have hlt2 : Op.bytesLess (ktAt arr p).key.toList kx.toList = true := hl
                    have hgt : gtS (ktAt arr p).key kx = false := by unfold gtS; rw [hl]; simp
                    clear hl
                    have HE0 : Hid (arr.set (p + 1) ⟨kx, x⟩ = goal) := by show _ = _; rw [← hole_stop (by omega) hgt]; exact HG.out
                    have HP : Hid (KO _ _ _ _ _ _) := ko.put (p + 1) ⟨kx, x⟩
                    have HBP : Hid (Below _ _ _) := KO.below_put (i := p + 1) (x := .string kx) (y := .string x) hbw hG6 hG7
                    obtain ⟨f5, f6⟩ := ko.half (p + 1) kx (p + 1) hj
                    clear HG ko hgt hbw
                    go_wp2
                    exact ⟨⟨fun j s hj hs => HGD2.out j s (by simp [intOf] at hj; omega) hs, k + 1, by omega, by go_num, by rw [HGO.out, ← HE0.out]; exact HP.out, HBP.out⟩, by simp [intOf]; omega⟩
                · have hgt2 := hgt
                  unfold gtS at hgt2
                  simp only [Bool.not_eq_true', Bool.or_eq_false_iff] at hgt2
                  have hlt2 : Op.bytesLess (ktAt arr p).key.toList kx.toList = false := hgt2.1
                  have heq : ((ktAt arr p).key.toList == kx.toList) = false := hgt2.2
                  have HE0 : Hid (bubK ((arr.set (p + 1) (ktAt arr p)).set p ⟨kx, x⟩) p = goal) := by show _ = _; rw [← hole_go (by omega) hgt]; exact HG.out
                  have HP : Hid (KO _ _ _ _ _ _) := ko.put (p + 1) (ktAt arr p)
                  have HBP : Hid (Below _ _ _) := KO.below_put (i := p + 1) (x := .string (ktAt arr p).key) (y := .string (ktAt arr p).text) hbw hG6 hG7
                  obtain ⟨f5, f6⟩ := ko.half (p + 1) (ktAt arr p).key (p + 1) hj
                  obtain ⟨f7, _⟩ := ko.half (p + 1) (ktAt arr p).key p hp1
                  clear HG ko hgt hgt2 hbw
                  go_wp2
                  exact ⟨⟨p, _, by omega, by go_num, HP.out, HE0.out, HBP.out⟩, by simp [intOf]⟩
        · have hk3 : k = ss.length := by omega
          subst hk3
          have hfin := okS_good (es := es) (lv := lv) (ss := ss) (by omega) HRO.out (fun j s hj hs => HGD.out j s hj hs)
          have hfin2 : sortS es sh lv ss = (insK L ss.length).map KT.text := by unfold sortS; rw [hfin, if_pos rfl, HL.out]
          have HF : Hid (okS es lv ss = true ∧ sortS es sh lv ss = (insK L ss.length).map KT.text) := ⟨hfin, hfin2⟩
          have HT : Hid (Strs wr w.heap.size u7 ((insK L ss.length).map KT.text)) := by
            show Strs _ _ _ _
            have h := hKO.texts
            unfold Strs
            rw [List.length_map, hKO.len]
            refine ⟨h.1, ?_⟩
            rcases h.2 with h | ⟨g, cap, cur, h1, h2, h3⟩
            · exact .inl h
            · exact .inr ⟨g, cap, cur, h1, Nat.le_trans HBW.out.size h2, h3⟩
          clear hfin hfin2 hKO HGD
          go_wp2
          go_ret2
          rw [HF.out.1, HF.out.2]
          exact ⟨_, rfl, HT.out, HBW.out.trans (hbw.mono HBW.out.size)⟩
end Go.Proofs.YtanfebccenfffagGreatDoor

namespace Go.Proofs.YtanfebccenfffagGreatDoor
open Go.RowKit

set_option maxRecDepth 100000 in
set_option maxHeartbeats 1000000 in
theorem toElem_any (w : World) (f s t : Int) (v : Bool) : Calls Tryz.prog 71 #[.agg #[.int .i64 f, .int .i64 s, .int .i64 t, .bool v]] w fun e w' => e = .returned (.agg #[.int .i64 f, .int .i64 s, .int .i64 t, .bool v]) ∧ Below w.heap.size w w' := by
  go_enter Tryz.func71, Tryz.ntmps71
  go_wp2
  refine bodyPost_ret (v := .agg #[.int .i64 f, .int .i64 s, .int .i64 t, .bool v]) ?_ rfl ⟨rfl, (((Below.refl _ _).alloc (Nat.le_refl _) _).alloc (by simp) _).alloc (by simp; omega) _⟩
  rw [results_cell1 rfl]
  go_simp
end Go.Proofs.YtanfebccenfffagGreatDoor

namespace Go.Proofs.YtanfebccenfffagGreatDoor
open Go.RowKit

def IsRow (k : IntKind) (w : World) (a : Option Addr) (len cap : Nat) (zs : List Int) : Prop :=
  (a = none ∧ len = 0 ∧ cap = 0 ∧ zs = []) ∨
  ∃ x, a = some x ∧ len ≤ cap ∧ cap ≤ maxLen ∧ zs.length = cap ∧ (∀ i, i < zs.length → w.cell? (x.add i) = some (.int k (zs.getD i 0))) ∧ ∀ n ∈ zs, (Lit.int k n).wf = true
end Go.Proofs.YtanfebccenfffagGreatDoor

namespace Go.Proofs.YtanfebccenfffagGreatDoor
open Go.ChangeShapes Go.WideShapes Go.ChangeAt Go.WideMaps Go.WideElems Go.RowKit Go.Deep Go.Joins

theorem spot_none {w : World} {a : Addr} {v : Value} (h : w.cell? a = some v) : a.spot = none := by
  unfold World.cell? at h
  split at h
  · cases hs : a.spot with
    | none => rfl
    | some x => simp [hs] at h
  · simp at h

theorem list5 {cs : List Value} (h : cs.length = 5) : ∃ v0 v1 v2 v3 v4, cs = [v0, v1, v2, v3, v4] := by
  match cs, h with
  | [v0, v1, v2, v3, v4], _ => exact ⟨v0, v1, v2, v3, v4, rfl⟩

instance : Inhabited Ent := ⟨⟨[], ⟨0, 0, 0, false⟩⟩⟩

/-- One entry handed in: its cells from place p of block b on. -/
def ArgEnt (w : World) (b p : Nat) (e : Ent) : Prop :=
  ∃ (ra : Option Addr) (rl rc : Nat) (zs : List Int), IsRow .i64 w ra rl rc zs ∧ e.runes = zs.take rl ∧ e.runes.length = rl ∧ w.cell? ⟨b, p, none⟩ = some (.slice ra rl rc) ∧ w.cell? ⟨b, p + 1, none⟩ = some (.int .i64 e.el.first) ∧
    w.cell? ⟨b, p + 2, none⟩ = some (.int .i64 e.el.second) ∧ w.cell? ⟨b, p + 3, none⟩ = some (.int .i64 e.el.third) ∧ w.cell? ⟨b, p + 4, none⟩ = some (.bool e.el.varies)

/-- A list of entries handed in. -/
def ArgEnts (w : World) (a : Option Addr) (len cap : Nat) (es : List Ent) : Prop :=
  es.length = len ∧ len ≤ cap ∧ cap ≤ maxLen ∧ (len = 0 ∨ ∃ b o, a = some ⟨b, o, none⟩ ∧ ∀ (k : Nat) (e : Ent), es[k]? = some e → ArgEnt w b (o + k * 5) e)

section
variable {H : Type} {enc : TypeId × Value → H} {w : World} {base : Nat}

theorem open_entry {n : Nat} {cs : List Value} {x : DataW H × List MemPlace} (h : DataW.trod enc Tryz.prog w base (fun _ => true) true n 78 cs = some x) :
    ∃ (ra : Option Addr) (rl rc : Nat) (zs : List Int) (f s t : Int) (v : Bool), cs = [.slice ra rl rc, .int .i64 f, .int .i64 s, .int .i64 t, .bool v] ∧ IsRow .i64 w ra rl rc zs := by
  obtain ⟨y0, y1, m, _, hl, h0, h1⟩ := trod_struct2 Tryz.underlying78 h
  have c5 : Tryz.prog.cellsOf 78 = 5 := by kernel_rfl
  have c1 : Tryz.prog.cellsOf 59 = 1 := by kernel_rfl
  have c4 : Tryz.prog.cellsOf 76 = 4 := by kernel_rfl
  rw [c5] at hl
  obtain ⟨v0, v1, v2, v3, v4, rfl⟩ := list5 hl
  simp only [c1, c4, List.take, List.drop] at h0 h1
  obtain ⟨z0, z1, z2, z3, m', _, _, g0, g1, g2, g3⟩ := trod_struct4 Tryz.underlying76 h1
  have d1 : Tryz.prog.cellsOf 3 = 1 := by kernel_rfl
  have d2 : Tryz.prog.cellsOf 4 = 1 := by kernel_rfl
  simp only [d1, d2, List.take, List.drop] at g0 g1 g2 g3
  obtain ⟨f, hf, _⟩ := DataW.trod_int Tryz.underlying3 g0
  obtain ⟨s, hs, _⟩ := DataW.trod_int Tryz.underlying3 g1
  obtain ⟨t, ht, _⟩ := DataW.trod_int Tryz.underlying3 g2
  obtain ⟨v, hv, _⟩ := DataW.trod_bool Tryz.underlying4 g3
  cases hf
  cases hs
  cases ht
  cases hv
  rcases open_ints Tryz.underlying59 Tryz.underlying3 (by kernel_rfl) h0 with ⟨hcs, _⟩ | ⟨x, l, c, zs, hcs, _, hlc, hm, hz, _, hcell, hwz⟩
  · cases hcs
    exact ⟨none, 0, 0, [], f, s, t, v, rfl, .inl ⟨rfl, rfl, rfl, rfl⟩⟩
  · cases hcs
    exact ⟨some x, l, c, zs, f, s, t, v, rfl, .inr ⟨_, rfl, hlc, hm, by simpa using hz, hcell, hwz⟩⟩

theorem isRow_take {a : Option Addr} {len cap : Nat} {zs : List Int} (h : IsRow .i64 w a len cap zs) : (zs.take len).length = len := by
  rcases h with ⟨_, rfl, _, rfl⟩ | ⟨_, _, h1, _, h2, _⟩
  · rfl
  · rw [List.length_take]; omega

theorem open_entries {n : Nat} {a : Option Addr} {len cap : Nat} {x : DataW H × List MemPlace} (h : DataW.trod enc Tryz.prog w base (fun _ => true) true n 22 [.slice a len cap] = some x) : ∃ es, ArgEnts w a len cap es := by
  have c5 : Tryz.prog.cellsOf 78 = 5 := by kernel_rfl
  rcases open_slice Tryz.underlying22 h with ⟨hcs, _⟩ | ⟨a', len', cap', m, n', D, Pl, hcs, _, hl, hm, hmm, _, hx⟩
  · cases hcs
    exact ⟨[], rfl, Nat.le_refl _, Nat.zero_le _, .inl rfl⟩
  · cases hcs
    rw [c5] at hx
    simp only [if_true] at hmm
    subst hmm
    by_cases h0 : len = 0
    · subst h0
      exact ⟨[], rfl, hl, hm, .inl rfl⟩
    · have hsp : a'.spot = none := by
        obtain ⟨cs', h1, _⟩ := hx 0 (by omega)
        obtain ⟨_, h3, h4⟩ := World.cells?_some h1
        have h5 := h4 0 (by omega)
        rw [List.getElem?_eq_getElem (by omega)] at h5
        have := spot_none h5
        simpa [Addr.add] using this
      have hadd : ∀ i, a'.add i = ⟨a'.block, a'.off + i, none⟩ := fun i => by
        unfold Addr.add
        split
        · rename_i hi
          subst hi
          cases a'
          simp at hsp
          simp [hsp]
        · rfl
      have each : ∀ i, i < len → ∃ e : Ent, ArgEnt w a'.block (a'.off + i * 5) e := fun i hi => by
        obtain ⟨cs', h1, h2⟩ := hx i (by omega)
        obtain ⟨ra, rl, rc, zs, f, s, t, v, rfl, hr⟩ := open_entry h2
        obtain ⟨_, _, h4⟩ := World.cells?_some h1
        have at' : ∀ j, j < 5 → w.cell? ⟨a'.block, a'.off + i * 5 + j, none⟩ = [Value.slice ra rl rc, .int .i64 f, .int .i64 s, .int .i64 t, .bool v][j]? := fun j hj => by
          rw [← h4 j hj, hadd]
          unfold Addr.add
          split
          · rename_i hj; subst hj; rfl
          · rfl
        exact ⟨⟨zs.take rl, ⟨f, s, t, v⟩⟩, ra, rl, rc, zs, hr, rfl, isRow_take hr, at' 0 (by omega), at' 1 (by omega), at' 2 (by omega), at' 3 (by omega), at' 4 (by omega)⟩
      obtain ⟨E, hE⟩ := choose_lt (p := fun i e => ArgEnt w a'.block (a'.off + i * 5) e) each
      refine ⟨(List.range len).map E, by simp, hl, hm, .inr ⟨a'.block, a'.off, ?_, fun k e he => ?_⟩⟩
      · cases a'
        simp at hsp
        simp [hsp]
      · rw [List.getElem?_map, Option.map_eq_some_iff] at he
        obtain ⟨i, hi, rfl⟩ := he
        obtain ⟨hk, e2⟩ := List.getElem?_eq_some_iff.1 hi
        simp at hk e2
        subst e2
        exact hE k hk
end
end Go.Proofs.YtanfebccenfffagGreatDoor

namespace Go.Proofs.YtanfebccenfffagGreatDoor
open Go.RowKit

def szL (left : Int) (n : Nat) : Int := if left - (n : Int) < 0 then -1 else left - (n : Int)

def szEs : List Ent → Int → Int
  | [], left => left
  | e :: es, left => if szL left e.runes.length < 0 then -1 else szEs es (szL left e.runes.length)

def szA (es : List Ent) (left : Int) : Int := if left - (es.length : Int) < 0 then -1 else szEs es (left - (es.length : Int))

theorem szL_bd {left : Int} {n : Nat} (h : ¬ szL left n < 0) : szL left n = left - (n : Int) ∧ 0 ≤ left - (n : Int) := by
  unfold szL at *
  split at h
  · omega
  · rename_i c
    rw [if_neg c]
    omega

theorem szEs_bd : ∀ (es : List Ent) (left : Int), 0 ≤ left → 0 ≤ szEs es left → ∀ e ∈ es, (e.runes.length : Int) ≤ left
  | [], _, _, _ => fun e he => by simp at he
  | x :: es, left, h0, h => fun e he => by
    unfold szEs at h
    split at h
    · omega
    · rename_i c
      have hb := szL_bd c
      rw [hb.1] at h
      rcases List.mem_cons.1 he with rfl | he
      · omega
      · have := szEs_bd es _ hb.2 h e he
        omega

theorem szEs_neg : ∀ (es : List Ent) (left : Int), 0 ≤ left → szEs es left < 0 → szEs es left = -1
  | [], left, h0, h => by unfold szEs at h; omega
  | x :: es, left, h0, h => by
    unfold szEs at h ⊢
    split
    · rfl
    · rename_i c
      rw [if_neg c] at h
      have hb := szL_bd c
      exact szEs_neg es _ (by rw [hb.1]; exact hb.2) h

theorem szA_bd {es : List Ent} {left : Int} (h : 0 ≤ szA es left) : (es.length : Int) ≤ left ∧ ∀ e ∈ es, (e.runes.length : Int) ≤ left := by
  unfold szA at h
  split at h
  · omega
  · refine ⟨by omega, fun e he => ?_⟩
    have := szEs_bd es _ (by omega) h e he
    omega

set_option maxRecDepth 100000 in
set_option maxHeartbeats 1000000 in
theorem szInt_any (w : World) (a : Option Addr) (n c : Nat) (left : Int) (h0 : 0 ≤ left) (h1 : left ≤ 1048576) (hn : n ≤ 9223372036854775807) :
    Calls Tryz.prog 66 #[.slice a n c, .int .i64 left] w fun e w' => e = .returned (.int .i64 (szL left n)) ∧ w' = w := by
  unfold szL
  by_cases h : left - (n : Int) < 0
  · rw [if_pos h]
    go_enter Tryz.func66, Tryz.ntmps66
    go_wp2
    go_ret
    exact ⟨rfl, rfl⟩
  · rw [if_neg h]
    go_enter Tryz.func66, Tryz.ntmps66
    go_wp2
    go_ret
    exact ⟨rfl, rfl⟩

set_option maxRecDepth 100000 in
set_option maxHeartbeats 1000000 in
theorem szEnt_any (w : World) (a : Option Addr) (n c : Nat) (f s t : Int) (v : Bool) (left : Int) (h0 : 0 ≤ left) (h1 : left ≤ 1048576) (hn : n ≤ 9223372036854775807) :
    Calls Tryz.prog 42 #[.agg #[.slice a n c, .int .i64 f, .int .i64 s, .int .i64 t, .bool v], .int .i64 left] w fun e w' => e = .returned (.int .i64 (szL left n)) ∧ Below w.heap.size w w' := by
  have S := fun w => szInt_any w a n c left h0 h1 hn
  by_cases h : szL left n < 0
  · have h' : szL left n = -1 := by unfold szL at *; split at h <;> simp_all
    rw [h'] at S
    rw [h']
    clear h h'
    go_enter Tryz.func42, Tryz.ntmps42
    go_wp2_with (go_at_call 66; refine (S _).mono ?_; rintro e w1 ⟨rfl, rfl⟩)
    go_ret
    exact ⟨rfl, (Below.refl _ _).alloc (Nat.le_refl _) _⟩
  · obtain ⟨z, hz⟩ : ∃ z, z = szL left n := ⟨_, rfl⟩
    rw [← hz] at S h ⊢
    clear hz
    go_enter Tryz.func42, Tryz.ntmps42
    go_wp2_with (go_at_call 66; refine (S _).mono ?_; rintro e w1 ⟨rfl, rfl⟩)
    go_ret
    exact ⟨rfl, (Below.refl _ _).alloc (Nat.le_refl _) _⟩

def SzRel (w : World) (es : List Ent) (ans : Int) (lv i : Value) (wr : World) : Prop :=
  ∃ (k : Nat) (left : Int), k ≤ es.length ∧ i = .int .i64 k ∧ lv = .int .i64 left ∧ 0 ≤ left ∧ left ≤ 1048576 ∧ szEs (es.drop k) left = ans ∧ Below w.heap.size w wr

theorem ent_drop {es : List Ent} {k : Nat} {e : Ent} (h : es[k]? = some e) : es.drop k = e :: es.drop (k + 1) := by
  obtain ⟨hk, rfl⟩ := List.getElem?_eq_some_iff.1 h
  exact List.drop_eq_getElem_cons hk

theorem cell_lt {w : World} {b o : Nat} {v : Value} (h : w.cell? ⟨b, o, none⟩ = some v) : b < w.heap.size := by
  apply Classical.byContradiction
  intro hn
  have : w.heap[b]? = none := by simp; omega
  simp [World.cell?, this] at h

theorem ArgEnt.below {w w' : World} {b p : Nat} {e : Ent} (h : ArgEnt w b p e) (hb : Below w.heap.size w w') : ∃ (ra : Option Addr) (rl rc : Nat) (zs : List Int), IsRow .i64 w ra rl rc zs ∧ e.runes = zs.take rl ∧ e.runes.length = rl ∧ w'.cell? ⟨b, p, none⟩ = some (.slice ra rl rc) ∧ w'.cell? ⟨b, p + 1, none⟩ = some (.int .i64 e.el.first) ∧
    w'.cell? ⟨b, p + 2, none⟩ = some (.int .i64 e.el.second) ∧ w'.cell? ⟨b, p + 3, none⟩ = some (.int .i64 e.el.third) ∧ w'.cell? ⟨b, p + 4, none⟩ = some (.bool e.el.varies) := by
  obtain ⟨ra, rl, rc, zs, hr, h1, h2, a0, a1, a2, a3, a4⟩ := h
  have hlt := cell_lt a0
  exact ⟨ra, rl, rc, zs, hr, h1, h2, by rw [hb.cell hlt]; exact a0, by rw [hb.cell hlt]; exact a1, by rw [hb.cell hlt]; exact a2, by rw [hb.cell hlt]; exact a3, by rw [hb.cell hlt]; exact a4⟩

theorem isRow_len {w : World} {a : Option Addr} {len cap : Nat} {zs : List Int} (h : IsRow .i64 w a len cap zs) : len ≤ 9223372036854775807 := by
  rcases h with ⟨_, rfl, _, _⟩ | ⟨_, _, h1, h2, _⟩
  · omega
  · unfold maxLen at h2; omega

set_option maxRecDepth 100000 in
set_option maxHeartbeats 2000000 in
theorem szEnts_any (w w1 : World) (a : Option Addr) (len cap : Nat) (es : List Ent) (left : Int) (h0 : 0 ≤ left) (h1 : left ≤ 1048576) (hA : ArgEnts w a len cap es) (hb : Below w.heap.size w w1) :
    Calls Tryz.prog 21 #[.slice a len cap, .int .i64 left] w1 fun e w' => e = .returned (.int .i64 (szA es left)) ∧ Below w1.heap.size w1 w' := by
  obtain ⟨hlen, hlc, hcm, hA⟩ := hA
  unfold maxLen at hcm
  by_cases hneg : left - (len : Int) < 0
  · have HA : Hid (szA es left = -1) := by show _ = _; unfold szA; rw [hlen, if_pos hneg]
    clear hA
    go_enter Tryz.func21, Tryz.ntmps21
    go_wp2
    go_ret
    rw [HA.out]
    exact ⟨rfl, Below.refl _ _⟩
  · have HA : Hid (szA es left = szEs es (left - (len : Int))) := by show _ = _; unfold szA; rw [hlen, if_neg hneg]
    subst hlen
    obtain ⟨ans, HANS⟩ : ∃ ans, Hid (szEs es (left - (es.length : Int)) = ans) := ⟨_, rfl⟩
    go_enter Tryz.func21, Tryz.ntmps21
    go_wp2
    go_loopw [1, 5] (fun lv i wr => SzRel w1 es ans lv i wr) (fun _ i _ => es.length - (intOf i).toNat)
    case atStart => exact ⟨0, _, Nat.zero_le _, rfl, rfl, by omega, by omega, by rw [List.drop_zero]; exact HANS.out, Below.refl _ _⟩
    case round =>
      obtain ⟨k, lf, hk, rfl, rfl, hf0, hf1, hR, hbr⟩ := hrel
      have HR : Hid _ := hR
      clear hR
      by_cases hlt : k < es.length
      · obtain ⟨e, he⟩ : ∃ e, es[k]? = some e := ⟨_, List.getElem?_eq_getElem hlt⟩
        obtain ⟨b, o, rfl, hE⟩ := hA.resolve_left (by omega)
        obtain ⟨ra, rl, rc, zs, hr, e1, e2, a0, a1, a2, a3, a4⟩ := (hE k e he).below (hb.trans (hbr.mono hb.size))
        have E2 : Hid (e.runes.length = rl) := e2
        have hrl := isRow_len hr
        have hk8 : (k : Int) < (es.length : Int) := by omega
        have SZ := fun w => szEnt_any w ra rl rc e.el.first e.el.second e.el.third e.el.varies lf hf0 hf1 hrl
        have HR2 : Hid ((if szL lf rl < 0 then -1 else szEs (es.drop (k + 1)) (szL lf rl)) = ans) := by
          show _ = _
          rw [← HR.out, ent_drop he, ← E2.out]
          rfl
        clear hE he hr hrl HR e1 e2
        go_wp2_with fail
        refine (SZ _).mono ?_
        rintro e' w3 ⟨rfl, b3⟩
        clear SZ a0 a1 a2 a3 a4
        by_cases hs : szL lf rl < 0
        · have HF : Hid (-1 = ans) := by show _ = _; rw [← HR2.out, if_pos hs]
          go_wp2
          go_ret
          rw [HA.out, HANS.out, ← HF.out]
          exact ⟨rfl, hbr.trans (b3.mono hbr.size)⟩
        · have hbd := szL_bd hs
          have HF : Hid (szEs (es.drop (k + 1)) (szL lf rl) = ans) := by show _ = _; rw [← HR2.out, if_neg hs]
          obtain ⟨z, hz⟩ : ∃ z, z = szL lf rl := ⟨_, rfl⟩
          have hzb : 0 ≤ z ∧ z ≤ 1048576 := by rw [hz, hbd.1]; omega
          rw [← hz] at HF hs ⊢
          clear hz hbd HR2
          go_wp2
          exact ⟨⟨k + 1, z, hlt, by go_num, rfl, hzb.1, hzb.2, HF.out, hbr.trans (b3.mono hbr.size)⟩, by simp [intOf]; omega⟩
      · have hk3 : k = es.length := by omega
        subst hk3
        have HF : Hid (lf = ans) := by show _ = _; rw [← HR.out, List.drop_length]; rfl
        clear HR hA
        go_wp2
        go_ret
        rw [HA.out, HANS.out, ← HF.out]
        exact ⟨rfl, hbr⟩

set_option maxRecDepth 100000 in
set_option maxHeartbeats 2000000 in
theorem szRules_any (w w1 : World) (a : Option Addr) (len cap : Nat) (es : List Ent) (sh : Bool) (lv left : Int) (h0 : 0 ≤ left) (h1 : left ≤ 1048576) (hA : ArgEnts w a len cap es) (hb : Below w.heap.size w w1) :
    Calls Tryz.prog 5 #[.agg #[.slice a len cap, .bool sh, .int .i64 lv], .int .i64 left] w1 fun e w' => e = .returned (.int .i64 (szA es left)) ∧ Below w1.heap.size w1 w' := by
  have S := fun (u : World) (hu : Below w.heap.size w u) => szEnts_any w u a len cap es left h0 h1 hA hu
  have hb2 := (Below.refl w1.heap.size w1).alloc (Nat.le_refl _) (.cells #[.slice a len cap, .bool sh, .int .i64 lv] 24)
  have S2 := S _ (hb.trans (hb2.mono hb.size))
  have HB : Hid (Below _ _ _) := hb2
  clear S hA hb hb2
  by_cases h : szA es left < 0
  · have h' : szA es left = -1 := by
      unfold szA at *
      split at h
      · rename_i c; rw [if_pos c]
      · rename_i c; rw [if_neg c]; exact szEs_neg _ _ (by omega) h
    rw [h'] at S2
    rw [h']
    clear h h'
    go_enter Tryz.func5, Tryz.ntmps5
    go_wp2_with fail
    refine S2.mono ?_
    rintro e w3 ⟨rfl, b3⟩
    go_wp2
    go_ret
    exact ⟨rfl, HB.out.trans (b3.mono HB.out.size)⟩
  · obtain ⟨z, hz⟩ : ∃ z, z = szA es left := ⟨_, rfl⟩
    rw [← hz] at S2 h ⊢
    clear hz
    go_enter Tryz.func5, Tryz.ntmps5
    go_wp2_with fail
    refine S2.mono ?_
    rintro e w3 ⟨rfl, b3⟩
    go_wp2
    go_ret
    exact ⟨rfl, HB.out.trans (b3.mono HB.out.size)⟩
end Go.Proofs.YtanfebccenfffagGreatDoor
