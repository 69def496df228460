/- Texts of mine laid together: SKey0, SKey, SKeyOf, ToEl, IsRow, ARules, SzRules, EqI, ToInt. -/
import Derived.Test.YtanfebccenfffafDoorMG6
import Derived.Test.YtanfebccenfffafDoorMG5
import Derived.Deep.RegionHeld
import Derived.Deep.Cut
import Derived.Deep.CutRange
import Derived.BigRegion
import Derived.Test.YtanfebccenfffafDoorResC
import Derived.Test.YtanfebccenfffafDoorProg
import Derived.WalkKit
import Derived.Test.YtanfebccenfffafDoorEnts
import Derived.ProofKit
import Derived.OpenShut
import Derived.LaidMore
import Derived.Deep.Slices
import Derived.Lib.SmallJoins
import Derived.Test.YtanfebccenfffafDoorInts
import Derived.WalkSmall
import Derived.BigQuiet
import Derived.Deep.QuietTactic
import Derived.Laws.OwnMore
import Derived.OwnWalk
namespace Go.Proofs.YtanfebccenfffafDoor
open Go.RowKit

theorem ents_slice {w : World} {B : Nat} {v : Value} {es : List Ent} (h : Ents w B v es) : ∃ a c, v = .slice a es.length c := by
  rcases h.form with ⟨rfl, rfl⟩ | ⟨_, _, rfl, _, _, _, _⟩
  · exact ⟨_, _, rfl⟩
  · exact ⟨_, _, rfl⟩

/-- The rules' block, of a call's own. -/
def BoxS (u : World) (b : Nat) (v : Value) (sh : Bool) (lv : Int) : Prop := u.heap[b]? = some (.cells #[v, .bool sh, .int .i64 lv] 33)
theorem BoxS.below {B b : Nat} {u u' : World} {v : Value} {sh : Bool} {lv : Int} (h : BoxS u b v sh lv) (hb : Below B u u') (hlt : b < B) : BoxS u' b v sh lv := (hb.block b hlt).trans h
theorem BoxS.cells {b : Nat} {u : World} {v : Value} {sh : Bool} {lv : Int} (h : BoxS u b v sh lv) : u.cell? ⟨b, 0, none⟩ = some v ∧ u.cell? ⟨b, 1, none⟩ = some (.bool sh) ∧ u.cell? ⟨b, 2, none⟩ = some (.int .i64 lv) :=
  ⟨cell_of_row _ _ 0 _ _ _ h, cell_of_row _ _ 1 _ _ _ h, cell_of_row _ _ 2 _ _ _ h⟩

/-- The rules' block and what has grown. -/
def BoxW (w0 : World) (b : Nat) (v : Value) (sh : Bool) (lv : Int) (u : World) : Prop := u.cell? ⟨b, 0, none⟩ = some v ∧ u.cell? ⟨b, 1, none⟩ = some (.bool sh) ∧ u.cell? ⟨b, 2, none⟩ = some (.int .i64 lv) ∧ b < w0.heap.size ∧ Below w0.heap.size w0 u

theorem BoxW.keep {w0 u u' : World} {b : Nat} {v : Value} {sh : Bool} {lv : Int} (hb : Below u.heap.size u u')
    (h : u.cell? ⟨b, 0, none⟩ = some v ∧ u.cell? ⟨b, 1, none⟩ = some (.bool sh) ∧ u.cell? ⟨b, 2, none⟩ = some (.int .i64 lv) ∧ b < w0.heap.size ∧ Below w0.heap.size w0 u) :
    u'.cell? ⟨b, 0, none⟩ = some v ∧ u'.cell? ⟨b, 1, none⟩ = some (.bool sh) ∧ u'.cell? ⟨b, 2, none⟩ = some (.int .i64 lv) ∧ b < w0.heap.size ∧ Below w0.heap.size w0 u' := by
  obtain ⟨h0, h1, h2, h3, h4⟩ := h
  have hlt : b < u.heap.size := Nat.lt_of_lt_of_le h3 h4.size
  exact ⟨(hb.cell hlt).trans h0, (hb.cell hlt).trans h1, (hb.cell hlt).trans h2, h3, h4.trans (hb.mono h4.size)⟩

theorem els_sliceS {w : World} {B : Nat} {v : Value} {es : List El} (h : Elems w B v es) :
    ∃ a c, v = .slice a es.length c ∧ ∀ k e, es[k]? = some e → ∃ g, a = some ⟨g, 0, none⟩ ∧ g < w.heap.size ∧ w.cell? ⟨g, k * 4, none⟩ = some (.int .i64 e.first) ∧ w.cell? ⟨g, k * 4 + 1, none⟩ = some (.int .i64 e.second) ∧ w.cell? ⟨g, k * 4 + 2, none⟩ = some (.int .i64 e.third) ∧ w.cell? ⟨g, k * 4 + 3, none⟩ = some (.bool e.varies) := by
  rcases h.form with ⟨rfl, rfl⟩ | ⟨g, cap, rfl, _, _⟩
  · exact ⟨_, _, rfl, fun k e he => by simp at he⟩
  · exact ⟨_, _, rfl, fun k e he => ⟨g, rfl, (World.ownsRow.lt h g rfl).2, h.cells k e he⟩⟩

theorem ints_sliceS {w : World} {B : Nat} {v : Value} {l : List Int} (h : Ints w B v l) :
    ∃ a c, v = .slice a l.length c ∧ ∀ k, k < l.length → ∃ g, a = some ⟨g, 0, none⟩ ∧ g < w.heap.size ∧ w.cell? ⟨g, k, none⟩ = some (.int .i64 (at0 l k)) := by
  rcases h.form with ⟨rfl, rfl⟩ | ⟨g, cap, rfl, _, _⟩
  · exact ⟨_, _, rfl, fun k hk => by simp at hk⟩
  · exact ⟨_, _, rfl, fun k hk => ⟨g, rfl, (World.ownsRow.lt h g rfl).2, h.cell k hk⟩⟩

theorem elAt_at {xs : List El} {k : Nat} {e : El} (h : xs[k]? = some e) : elAt xs k = e := by unfold elAt; rw [h]; rfl

end Go.Proofs.YtanfebccenfffafDoor

namespace Go.Proofs.YtanfebccenfffafDoor
open Go.RowKit

def SoRel (W : World) (xs : List El) (fs : List Int) (n : Nat) (v8 v9 : Value) (wr : World) : Prop :=
  ∃ l : Nat, l ≤ n ∧ v9 = .int .i64 ((l : Int) + 1) ∧ Bys wr W.heap.size v8 (keyN xs fs l) ∧ Below W.heap.size W wr

def SiRel (W : World) (pre : List Int) (lv : Nat) (xs : List El) (fs : List Int) (v8 i : Value) (wr : World) : Prop :=
  ∃ k : Nat, k ≤ xs.length ∧ i = .int .i64 k ∧ Bys wr W.heap.size v8 (pre ++ bysOf (wtsK lv xs fs k)) ∧ Below W.heap.size W wr

theorem wts_zero {lv : Nat} {xs : List El} {fs : List Int} {k : Nat} (pre : List Int) (h : wtL lv (elAt xs k) (at0 fs k) = 0) : pre ++ bysOf (wtsK lv xs fs (k + 1)) = pre ++ bysOf (wtsK lv xs fs k) := by
  rw [wtsK, ifNot_zero h, List.append_nil]
theorem wts_some {lv : Nat} {xs : List El} {fs : List Int} {k : Nat} (pre : List Int) (h : wtL lv (elAt xs k) (at0 fs k) ≠ 0) : pre ++ bysOf (wtsK lv xs fs (k + 1)) = (pre ++ bysOf (wtsK lv xs fs k)) ++ [wtL lv (elAt xs k) (at0 fs k) / 256, wtL lv (elAt xs k) (at0 fs k) % 256] := by
  rw [wtsK, ifNot_some h, bysOf_app, bysOf_one, List.append_assoc]

set_option maxRecDepth 100000 in
set_option maxHeartbeats 4000000 in
theorem key4_any {w : World} {B B' : Nat} {v vl : Value} {es : List Ent} {sh : Bool} {n : Nat} {l : List Int} (hE : Ents w B v es) (hn : es.length ≤ 1048576) (hr : ∀ e ∈ es, e.runes.length ≤ 1048576)
    (hL : Ints w B' vl l) (hl : l.length ≤ 200) (hg : ∀ x ∈ l, 0 ≤ x ∧ x ≤ 1114111) (h1 : 1 ≤ n) (h4 : n ≤ 4) (hrg : ∀ e ∈ elems4 es l, rngE e) :
    Calls Tryd.prog 45 #[.agg #[v, .bool sh, .int .i64 n], vl] w fun e w' => e = .returned (.string (bytesOf (keyB es sh n l))) ∧ Below w.heap.size w w' := by
  obtain ⟨va, vc, rfl⟩ := ents_slice hE
  obtain ⟨al, cl, rfl⟩ := lenS_form hL
  obtain ⟨i0, hi0, hz0, hs0, hy0⟩ := info_parts info_u8
  have hbx : Below w.heap.size w (w.alloc (.cells #[.slice va es.length vc, .bool sh, .int .i64 n] 33)) := (Below.refl _ _).alloc (Nat.le_refl _) _
  have hbox : BoxS (w.alloc (.cells #[.slice va es.length vc, .bool sh, .int .i64 n] 33)) w.heap.size (.slice va es.length vc) sh n := heap_alloc_new w _
  have hlb : w.heap.size < (w.alloc (.cells #[.slice va es.length vc, .bool sh, .int .i64 n] 33)).heap.size := by simp
  have EL := fun (u : World) (hu : Below (w.alloc (.cells #[.slice va es.length vc, .bool sh, .int .i64 n] 33)).heap.size (w.alloc (.cells #[.slice va es.length vc, .bool sh, .int .i64 n] 33)) u) => elems4S_any (sh := sh) (lv := (n : Int)) ((hE.below hbx).below hu) hn hr ((hL.below hbx).below hu) (by omega) hg
  have hlen := elems4_len es l
  unfold keyB
  rw [Int.toNat_natCast]
  have hwr := fun lv => wtsK_rng (lv := lv) (fourS_rng (sh := sh) hrg (elems4 es l).length).2 (fourS_rng (sh := sh) hrg (elems4 es l).length).1
  generalize elems4 es l = el at *
  have hel : el.length ≤ 400 := by omega
  have FO := fun (u : World) (B : Nat) (v : Value) (h : Elems u B v el) => fourth_any sh (by omega) h
  have hcl := counted_len sh el
  have hfl := fourths_len sh el
  have hwr2 : ∀ lv k, ∀ m ∈ wtsK lv (counted sh el) (fourths sh el) k, 1 ≤ m ∧ m ≤ 65535 := fun lv k => hwr lv k
  have her : ∀ e ∈ counted sh el, rngE e := (fourS_rng (sh := sh) hrg el.length).2
  have hfr : ∀ f ∈ fourths sh el, 0 ≤ f ∧ f ≤ 65535 := (fourS_rng (sh := sh) hrg el.length).1
  generalize counted sh el = xs at *
  generalize fourths sh el = fs at *
  have hxl : xs.length ≤ 400 := by omega
  have HFL : Hid (fs.length = xs.length) := by show _ = _; omega
  have HWR : Hid (∀ lv k, ∀ m ∈ wtsK lv xs fs k, 1 ≤ m ∧ m ≤ 65535) := hwr2
  have HER : Hid (∀ e ∈ xs, rngE e) := her
  have HFR : Hid (∀ f ∈ fs, 0 ≤ f ∧ f ≤ 65535) := hfr
  clear hE hL hr hg hwr hwr2 hlen hcl hfl hrg her hfr
  obtain ⟨W0, HW0⟩ : ∃ W0, Hid (W0 = w.alloc (.cells #[.slice va es.length vc, .bool sh, .int .i64 n] 33)) := ⟨_, rfl⟩
  rw [← HW0.out] at hbx hbox hlb EL
  obtain ⟨c0, c1, c2⟩ := hbox.cells
  have hS : W0.cell? ⟨w.heap.size, 0, none⟩ = some (.slice va es.length vc) ∧ W0.cell? ⟨w.heap.size, 1, none⟩ = some (.bool sh) ∧ W0.cell? ⟨w.heap.size, 2, none⟩ = some (.int .i64 n) ∧ w.heap.size < W0.heap.size ∧ Below W0.heap.size W0 W0 := ⟨c0, c1, c2, hlb, Below.refl _ _⟩
  have hS2 := BoxW.keep ((Below.refl W0.heap.size W0).drew) hS
  have EL2 := fun (u : World) (hu : u.cell? ⟨w.heap.size, 0, none⟩ = some (.slice va es.length vc) ∧ u.cell? ⟨w.heap.size, 1, none⟩ = some (.bool sh) ∧ u.cell? ⟨w.heap.size, 2, none⟩ = some (.int .i64 n) ∧ w.heap.size < W0.heap.size ∧ Below W0.heap.size W0 u) => EL u hu.2.2.2.2
  clear EL hbox
  go_enter Tryd.func45, Tryd.ntmps45
  go_wp2_with fail
  rw [← HW0.out]
  clear HW0
  go_region_held (fun u => u.cell? ⟨w.heap.size, 0, none⟩ = some (.slice va es.length vc) ∧ u.cell? ⟨w.heap.size, 1, none⟩ = some (.bool sh) ∧ u.cell? ⟨w.heap.size, 2, none⟩ = some (.int .i64 n) ∧ w.heap.size < W0.heap.size ∧ Below W0.heap.size W0 u)
    (first | exact hS2 | exact BoxW.keep (by assumption) (by assumption))
    (first | (go_at_call 41; refine (EL2 _ (by assumption)).mono ?_; rintro e w' ⟨vE, rfl, hEl, hbw⟩; obtain ⟨aE, cE, rfl⟩ := (show ∃ a c, vE = .slice a el.length c by obtain ⟨h, _⟩ | ⟨g, cap, h, _⟩ := hEl.form <;> (first | exact ⟨_, _, h⟩ | (rename_i h2; subst h2; exact ⟨_, _, h⟩)))) | (go_at_call 69; refine (FO _ _ _ (by assumption)).mono ?_; rintro e w' ⟨v5, v6, rfl, hI5, hE6, hbw⟩))
  all_goals
    obtain ⟨_, _, d2, _, hbW⟩ := (show w'.cell? ⟨w.heap.size, 0, none⟩ = _ ∧ _ ∧ _ ∧ _ ∧ Below W0.heap.size W0 w' by assumption)
    have hwW : w.heap.size < w'.heap.size := Nat.lt_of_lt_of_le hlb hbW.size
    have HBW : Hid (Below w.heap.size w w') := hbx.trans (hbW.mono hbx.size)
    obtain ⟨fa, fc, rfl, hcI⟩ := ints_sliceS hI5
    obtain ⟨xa, xc, rfl, hcE⟩ := els_sliceS hE6
    have HCI : Hid _ := hcI
    have HCE : Hid _ := hcE
    have hkl := fun l => keyN_len xs fs l
    have HKL : Hid (∀ l, l ≤ 4 → (keyN xs fs l).length ≤ 3208) := fun l hl => Nat.le_trans (hkl l) (Nat.le_trans (Nat.mul_le_mul hl (show 2 + 2 * xs.length ≤ 802 by omega)) (by omega))
    obtain ⟨W, HWW⟩ : ∃ W, Hid (W = w') := ⟨_, rfl⟩
    have hWW := HWW.out
    subst hWW
    clear hcI hcE hI5 hE6 hbW hS hS2 EL2 FO c0 c1 c2 hbx hlb hkl HWW
    try clear hEl
    try clear hbw
    go_wp2_with fail
    go_loopw [7, 8] (fun v7 v8 wr => SoRel W xs fs n v7 v8 wr) (fun _ v8 _ => n + 1 - (intOf v8).toNat)
    case atStart => exact ⟨0, by omega, rfl, World.ownsRow_nil _ _ _ _, Below.refl _ _⟩
    case round =>
      obtain ⟨l, hl, rfl, hK, hbw⟩ := hrel
      have e2 : wr.cell? ⟨w.heap.size, 2, none⟩ = some (.int .i64 n) := (hbw.cell (p := ⟨w.heap.size, 2, none⟩) hwW).trans d2
      have hkl := HKL.out l (by omega)
      have hsz := hbw.size
      by_cases hlt : l < n
      · have hlt8 : (l : Int) + 1 ≤ (n : Int) := by omega
        have HK : Hid (Bys _ _ _ _) := hK
        have HBV : Hid (Below _ _ _) := hbw
        clear hK hbw
        go_upto_if 28 with fail
        go_cut [7] from 21 to 64 (fun v7 wx => Bys wx W.heap.size v7 (keyN xs fs l ++ sepB (l + 1)) ∧ Below W.heap.size W wx)
        case first =>
          by_cases h0 : l = 0
          · subst h0
            go_wp2
            go_meet
            case rel => exact ⟨by simpa [sepB] using HK.out, HBV.out⟩
          · have h08 : (1 : Int) < (l : Int) + 1 := by omega
            have hs : sepB (l + 1) = [0, 0] := by unfold sepB; rw [if_pos (by omega)]
            have HS : Hid _ := hs
            have hK := HK.out
            unfold Bys at hK
            clear hs
            go_wp2_with (at_builtin; refine wpList_append_own _ rfl _ _ 71 rfl W.heap.size 5 i0 (.int .u8 0) 1 1 Tryd.underlying71 hi0 hz0 hs0 hy0 rfl (by decide) _ _ _ rfl (hK.alloc _) ⟨wr.heap.size, 0, none⟩ 2 2 [.int .u8 0, .int .u8 0] rfl rfl (cells2_at _ _ _ _ _ (by simp)) (fun u hu => by simp at hu; subst hu; rfl) (by unfold maxLen; omega) (by omega) (by simp; omega) ?_)
            intro v4 w4 ho4 hg4 _
            have hI4 : Bys w4 W.heap.size v4 (keyN xs fs l ++ [0, 0]) := Bys.app2 ho4
            have hb4 : Below W.heap.size W w4 := Below.grown (HBV.out.alloc HBV.out.size _) hg4 (HBV.out.alloc HBV.out.size _).size (fun j hj => (World.ownsRow.lt hK j hj).1)
            have HI4 : Hid (Bys _ _ _ _) := hI4
            clear ho4 hg4 hK hI4
            go_wp2
            go_meet
            case rel => exact ⟨by rw [HS.out]; exact HI4.out, hb4⟩
        case rest =>
          obtain ⟨hK, hbw⟩ := hcut
          clear HK HBV e2
          have hpl : (keyN xs fs l ++ sepB (l + 1)).length ≤ 3210 := by
            have : (sepB (l + 1)).length ≤ 2 := by unfold sepB; split <;> simp
            rw [List.length_append]; omega
          have HPR : Hid (keyN xs fs (l + 1) = (keyN xs fs l ++ sepB (l + 1)) ++ bysOf (wtsK (l + 1) xs fs xs.length)) := by show _ = _; rw [keyN, List.append_assoc]; rfl
          generalize keyN xs fs l ++ sepB (l + 1) = pre at *
          have HK2 : Hid (Bys _ _ _ _) := hK
          have HBW2 : Hid (Below _ _ _) := hbw
          clear hK hbw
          go_wp2_with fail
          go_loopw [7, 34] (fun v7 i wr => SiRel W pre (l + 1) xs fs v7 i wr) (fun _ i _ => xs.length - (intOf i).toNat)
          case atStart => exact ⟨0, Nat.zero_le _, rfl, by rw [wtsK, bysOf_nil, List.append_nil]; exact HK2.out, HBW2.out⟩
          case round =>
            clear HK2 HBW2
            obtain ⟨k, hk, rfl, hK, hbw⟩ := hrel
            have hwl := wtsK_len (l + 1) xs fs k
            by_cases hlk : k < xs.length
            · obtain ⟨e, he⟩ : ∃ e, xs[k]? = some e := ⟨_, List.getElem?_eq_getElem hlk⟩
              obtain ⟨ge, rfl, hgl, y0, y1, y2, y3⟩ := HCE.out k e he
              obtain ⟨gf, rfl, hfl, z0⟩ := HCI.out k (by have := HFL.out; omega)
              have hkf8 : (k : Int) < (fs.length : Int) := by have := HFL.out; omega
              have hk8 : (k : Int) < (xs.length : Int) := by omega
              have a0 : wr.cell? ⟨ge, k * 4, none⟩ = some (.int .i64 e.first) := (hbw.cell (p := ⟨ge, k * 4, none⟩) hgl).trans y0
              have a1 : wr.cell? ⟨ge, k * 4 + 1, none⟩ = some (.int .i64 e.second) := (hbw.cell (p := ⟨ge, k * 4 + 1, none⟩) hgl).trans y1
              have a2 : wr.cell? ⟨ge, k * 4 + 2, none⟩ = some (.int .i64 e.third) := (hbw.cell (p := ⟨ge, k * 4 + 2, none⟩) hgl).trans y2
              have a3 : wr.cell? ⟨ge, k * 4 + 3, none⟩ = some (.bool e.varies) := (hbw.cell (p := ⟨ge, k * 4 + 3, none⟩) hgl).trans y3
              have b0 : wr.cell? ⟨gf, k, none⟩ = some (.int .i64 (at0 fs k)) := (hbw.cell (p := ⟨gf, k, none⟩) hfl).trans z0
              have hgf : gf < wr.heap.size := Nat.lt_of_lt_of_le hfl hbw.size
              obtain ⟨X, HX⟩ : ∃ X, Hid (wtL (l + 1) (elAt xs k) (at0 fs k) = X) := ⟨_, rfl⟩
              have HXS : Hid ((l = 0 → X = e.first) ∧ (l = 1 → X = e.second) ∧ (l = 2 → X = e.third) ∧ (l = 3 → X = at0 fs k)) := by
                show _ ∧ _
                rw [← HX.out, elAt_at he]
                refine ⟨?_, ?_, ?_, ?_⟩ <;> (intro h; subst h; rfl)
              have hXr := wtL_rng (lv := l + 1) (elAt_rng HER.out k) (at0_rng HFR.out k)
              rw [HX.out] at hXr
              have hbl : (pre ++ bysOf (wtsK (l + 1) xs fs k)).length ≤ 4100 := by rw [List.length_append, bysOf_len]; omega
              have HK3 : Hid (Bys _ _ _ _) := hK
              have HB3 : Hid (Below _ _ _) := hbw
              have hsz3 := hbw.size
              clear hK hbw y0 y1 y2 y3 z0 he hgl hfl
              go_upto_region 11 with fail
              go_cut [11, 34] from 34 to 64 (fun v11 v34 wx => v11 = .int .i64 X ∧ v34 = .int .i64 k ∧ Below wr.heap.size wr wx)
              case first =>
                clear HK3 HB3 HX
                obtain h | h | h | h : l = 0 ∨ l = 1 ∨ l = 2 ∨ l = 3 := by omega
                · subst h
                  obtain rfl := HXS.out.1 rfl
                  clear HXS
                  go_region
                  all_goals
                    go_wp2_with fail
                    go_meet
                    case rel => exact ⟨rfl, rfl, by repeat (first | with_reducible exact Below.refl _ _ | with_reducible refine Below.drew ?_ | with_reducible refine Below.alloc ?_ (by first | omega | (simp; done) | (simp; omega)) _)⟩
                · subst h
                  obtain rfl := HXS.out.2.1 rfl
                  clear HXS
                  go_region
                  all_goals
                    go_wp2_with fail
                    go_meet
                    case rel => exact ⟨rfl, rfl, by repeat (first | with_reducible exact Below.refl _ _ | with_reducible refine Below.drew ?_ | with_reducible refine Below.alloc ?_ (by first | omega | (simp; done) | (simp; omega)) _)⟩
                · subst h
                  obtain rfl := HXS.out.2.2.1 rfl
                  clear HXS
                  go_region
                  all_goals
                    go_wp2_with fail
                    go_meet
                    case rel => exact ⟨rfl, rfl, by repeat (first | with_reducible exact Below.refl _ _ | with_reducible refine Below.drew ?_ | with_reducible refine Below.alloc ?_ (by first | omega | (simp; done) | (simp; omega)) _)⟩
                · subst h
                  obtain rfl := HXS.out.2.2.2 rfl
                  clear HXS
                  go_region
                  all_goals
                    go_wp2_with fail
                    go_meet
                    case rel => exact ⟨rfl, rfl, by repeat (first | with_reducible exact Below.refl _ _ | with_reducible refine Below.drew ?_ | with_reducible refine Below.alloc ?_ (by first | omega | (simp; done) | (simp; omega)) _)⟩
              case rest =>
                obtain ⟨rfl, rfl, hbx⟩ := hcut
                have hK := HK3.out.below hbx
                have hbw := HB3.out.trans (hbx.mono HB3.out.size)
                have hsz4 := hbw.size
                clear HK3 HB3 hbx a0 a1 a2 a3 b0 HXS
                by_cases hX0 : X = 0
                · have HT : Hid _ := wts_zero pre (HX.out.trans hX0)
                  have HK4 : Hid (Bys _ _ _ _) := hK
                  clear hK HX
                  go_wp2
                  go_roundw
                  case rel => exact ⟨k + 1, by omega, by go_num, by rw [HT.out]; exact HK4.out, hbw⟩
                  case measure => simp [intOf]; omega
                · have hX0' : (X == 0) = false := by simpa using hX0
                  have hT := wts_some (lv := l + 1) (xs := xs) (fs := fs) (k := k) pre (by rw [HX.out]; exact hX0)
                  rw [HX.out] at hT
                  have HT : Hid _ := hT
                  obtain ⟨hX1, hX2⟩ := hXr
                  obtain ⟨cur, HCUR⟩ : ∃ cur, Hid (pre ++ bysOf (wtsK (l + 1) xs fs k) = cur) := ⟨_, rfl⟩
                  rw [HCUR.out] at hK HT hbl
                  unfold Bys at hK
                  clear HX hT
                  go_wp2_with (at_builtin; refine wpList_append_own _ rfl _ _ 71 rfl W.heap.size 5 i0 (.int .u8 0) 1 1 Tryd.underlying71 hi0 hz0 hs0 hy0 rfl (by decide) _ _ _ rfl (hK.alloc _) ⟨wc.heap.size, 0, none⟩ 2 2 [.int .u8 (X / 256), .int .u8 (X % 256)] rfl rfl (cells2_at _ _ _ _ _ (by simp)) (fun u hu => by simp at hu; rcases hu with rfl | rfl <;> rfl) (by unfold maxLen; omega) (by omega) (by simp; omega) ?_)
                  intro v6 w6 ho6 hg6 _
                  have hI6 : Bys w6 W.heap.size v6 (cur ++ [X / 256, X % 256]) := Bys.app2 ho6
                  have hb6 : Below W.heap.size W w6 := Below.grown (hbw.alloc hbw.size _) hg6 (hbw.alloc hbw.size _).size (fun j hj => (World.ownsRow.lt hK j hj).1)
                  have HI6 : Hid (Bys _ _ _ _) := hI6
                  clear ho6 hg6 hK hI6 hbw
                  go_wp2
                  go_roundw
                  case rel => exact ⟨k + 1, by omega, by go_num, by rw [HT.out]; exact HI6.out, hb6⟩
                  case measure => simp [intOf]; omega
            · have hkl2 : k = xs.length := by omega
              subst hkl2
              have HK6 : Hid (Bys wr W.heap.size u7 (keyN xs fs (l + 1))) := by show Bys _ _ _ _; rw [HPR.out]; exact hK
              clear hK
              go_wp2
              go_roundw
              case rel => exact ⟨l + 1, by omega, by go_num, HK6.out, hbw⟩
              case measure => simp [intOf]; omega
      · have hln : l = n := by omega
        subst hln
        have CV := conv_bys hK
        clear hK
        go_wp2
        go_ret
        exact ⟨rfl, HBW.out.trans (hbw.mono HBW.out.size)⟩
end Go.Proofs.YtanfebccenfffafDoor

namespace Go.Proofs.YtanfebccenfffafDoor
open Go.RowKit

set_option maxRecDepth 100000 in
set_option maxHeartbeats 4000000 in
theorem specKey_any {w : World} {B : Nat} {ve : Value} {es : List Ent} {sh : Bool} {lv : Int} (x : ByteArray) (hx : x.size ≤ 1048576) (hE : Ents w B ve es) (hr : ∀ e ∈ es, e.runes.length ≤ 1048576) :
    Calls Tryd.prog 22 #[.agg #[ve, .bool sh, .int .i64 lv], .string x] w fun e w' => e = .returned (.tuple #[.string (keyT es sh lv x), .bool (okE es lv x)]) ∧ Below w.heap.size w w' := by
  obtain ⟨va, vc, rfl⟩ := ents_slice hE
  have hbx : Below w.heap.size w (w.alloc (.cells #[.slice va es.length vc, .bool sh, .int .i64 lv] 33)) := (Below.refl _ _).alloc (Nat.le_refl _) _
  have hbox : BoxS (w.alloc (.cells #[.slice va es.length vc, .bool sh, .int .i64 lv] 33)) w.heap.size (.slice va es.length vc) sh lv := heap_alloc_new w _
  have hlb : w.heap.size < (w.alloc (.cells #[.slice va es.length vc, .bool sh, .int .i64 lv] 33)).heap.size := by simp
  have AT := runes4_any x (w.alloc (.cells #[.slice va es.length vc, .bool sh, .int .i64 lv] 33)) (by omega)
  have HE : Hid (Ents _ _ _ _) := hE.below hbx
  have GR := fun (u : World) (hu : Below (w.alloc (.cells #[.slice va es.length vc, .bool sh, .int .i64 lv] 33)).heap.size (w.alloc (.cells #[.slice va es.length vc, .bool sh, .int .i64 lv] 33)) u) => good3_any (sh := sh) (lv := lv) (HE.out.below hu) hr
  have hrg := rn4_rng x
  unfold keyT okE
  clear hE
  cases hok : ok4 x
  · rw [hok] at AT
    rw [Bool.false_and, if_neg (by simp)]
    clear hok GR
    go_enter Tryd.func22, Tryd.ntmps22
    go_wp2_with fail
    refine AT.mono ?_
    rintro e w1 ⟨v1, rfl, i1, b1⟩
    clear AT i1
    go_wp2
    go_ret2
    exact ⟨rfl, hbx.trans (b1.mono hbx.size)⟩
  · obtain ⟨hs, hl⟩ := ok4_parts hok
    rw [hok] at AT
    rw [Bool.true_and]
    clear hok
    generalize rn4 x = rs at *
    cases hro : rulesOk es lv
    · rw [hro] at GR
      rw [if_neg (by simp)]
      clear hro
      go_enter Tryd.func22, Tryd.ntmps22
      go_wp2_with fail
      refine AT.mono ?_
      rintro e w1 ⟨v1, rfl, i1, b1⟩
      have G1 := GR _ b1
      obtain ⟨c0, c1, c2⟩ := (hbox.below b1 hlb).cells
      have hsz1 := b1.size
      clear AT GR hbox i1
      go_wp2_with fail
      refine G1.mono ?_
      rintro e w2 ⟨rfl, b2⟩
      clear G1
      have b3 := hbx.trans ((b1.trans (b2.mono b1.size)).mono hbx.size)
      go_wp2
      go_ret2
      exact ⟨rfl, b3⟩
    · rw [hro] at GR
      rw [if_pos rfl]
      have hne : es.length ≤ 1048576 := by have := (rulesOk_parts hro).1; omega
      obtain ⟨_, hl1, hl4⟩ := rulesOk_parts hro
      have herg := elems4_rng hro hrg
      obtain ⟨n, rfl⟩ : ∃ n : Nat, lv = (n : Int) := ⟨lv.toNat, by omega⟩
      clear hro
      go_enter Tryd.func22, Tryd.ntmps22
      go_wp2_with fail
      refine AT.mono ?_
      rintro e w1 ⟨v1, rfl, i1, b1⟩
      have G1 := GR _ b1
      have hbox1 := hbox.below b1 hlb
      obtain ⟨c0, c1, c2⟩ := hbox1.cells
      have hsz1 := b1.size
      have I1 := i1 hs
      clear AT GR hbox i1
      go_wp2_with fail
      refine G1.mono ?_
      rintro e w2 ⟨rfl, b2⟩
      clear G1 c0 c1 c2
      have b12 := b1.trans (b2.mono b1.size)
      have b3 := hbx.trans (b12.mono hbx.size)
      have E2 := key4_any (sh := sh) (n := n) (HE.out.below b12) hne hr (I1.below b2) (by omega) hrg (by omega) (by omega) herg
      obtain ⟨c0, c1, c2⟩ := (hbox1.below b2 (by omega)).cells
      clear I1 hbox1
      go_wp2_with fail
      refine E2.mono ?_
      rintro e w3 ⟨rfl, b4⟩
      clear E2 c0 c1 c2
      go_wp2
      go_ret2
      exact ⟨rfl, b3.trans (b4.mono b3.size)⟩
end Go.Proofs.YtanfebccenfffafDoor

namespace Go.Proofs.YtanfebccenfffafDoor
open Go.RowKit

set_option maxRecDepth 100000 in
set_option maxHeartbeats 1000000 in
theorem toElem_any (w : World) (f s t : Int) (v : Bool) : Calls Tryd.prog 78 #[.agg #[.int .i64 f, .int .i64 s, .int .i64 t, .bool v]] w fun e w' => e = .returned (.agg #[.int .i64 f, .int .i64 s, .int .i64 t, .bool v]) ∧ Below w.heap.size w w' := by
  go_enter Tryd.func78, Tryd.ntmps78
  go_wp2
  refine bodyPost_ret (v := .agg #[.int .i64 f, .int .i64 s, .int .i64 t, .bool v]) ?_ rfl ⟨rfl, (((Below.refl _ _).alloc (Nat.le_refl _) _).alloc (by simp) _).alloc (by simp; omega) _⟩
  rw [results_cell1 rfl]
  go_simp
end Go.Proofs.YtanfebccenfffafDoor

namespace Go.Proofs.YtanfebccenfffafDoor
open Go.RowKit

def IsRow (k : IntKind) (w : World) (a : Option Addr) (len cap : Nat) (zs : List Int) : Prop :=
  (a = none ∧ len = 0 ∧ cap = 0 ∧ zs = []) ∨
  ∃ x, a = some x ∧ len ≤ cap ∧ cap ≤ maxLen ∧ zs.length = cap ∧ (∀ i, i < zs.length → w.cell? (x.add i) = some (.int k (zs.getD i 0))) ∧ ∀ n ∈ zs, (Lit.int k n).wf = true
end Go.Proofs.YtanfebccenfffafDoor

namespace Go.Proofs.YtanfebccenfffafDoor
open Go.ChangeShapes Go.WideShapes Go.ChangeAt Go.WideMaps Go.WideElems Go.RowKit Go.Deep Go.Joins

theorem spot_none {w : World} {a : Addr} {v : Value} (h : w.cell? a = some v) : a.spot = none := by
  unfold World.cell? at h
  split at h
  · cases hs : a.spot with
    | none => rfl
    | some x => simp [hs] at h
  · simp at h

theorem list5 {cs : List Value} (h : cs.length = 5) : ∃ v0 v1 v2 v3 v4, cs = [v0, v1, v2, v3, v4] := by
  match cs, h with
  | [v0, v1, v2, v3, v4], _ => exact ⟨v0, v1, v2, v3, v4, rfl⟩

instance : Inhabited Ent := ⟨⟨[], ⟨0, 0, 0, false⟩⟩⟩

/-- One entry handed in: its cells from place p of block b on. -/
def ArgEnt (w : World) (b p : Nat) (e : Ent) : Prop :=
  ∃ (ra : Option Addr) (rl rc : Nat) (zs : List Int), IsRow .i64 w ra rl rc zs ∧ e.runes = zs.take rl ∧ e.runes.length = rl ∧ w.cell? ⟨b, p, none⟩ = some (.slice ra rl rc) ∧ w.cell? ⟨b, p + 1, none⟩ = some (.int .i64 e.el.first) ∧
    w.cell? ⟨b, p + 2, none⟩ = some (.int .i64 e.el.second) ∧ w.cell? ⟨b, p + 3, none⟩ = some (.int .i64 e.el.third) ∧ w.cell? ⟨b, p + 4, none⟩ = some (.bool e.el.varies)

/-- A list of entries handed in. -/
def ArgEnts (w : World) (a : Option Addr) (len cap : Nat) (es : List Ent) : Prop :=
  es.length = len ∧ len ≤ cap ∧ cap ≤ maxLen ∧ (len = 0 ∨ ∃ b o, a = some ⟨b, o, none⟩ ∧ ∀ (k : Nat) (e : Ent), es[k]? = some e → ArgEnt w b (o + k * 5) e)

section
variable {H : Type} {enc : TypeId × Value → H} {w : World} {base : Nat}

theorem open_entry {n : Nat} {cs : List Value} {x : DataW H × List MemPlace} (h : DataW.trod enc Tryd.prog w base (fun _ => true) true n 79 cs = some x) :
    ∃ (ra : Option Addr) (rl rc : Nat) (zs : List Int) (f s t : Int) (v : Bool), cs = [.slice ra rl rc, .int .i64 f, .int .i64 s, .int .i64 t, .bool v] ∧ IsRow .i64 w ra rl rc zs := by
  obtain ⟨y0, y1, m, _, hl, h0, h1⟩ := trod_struct2 Tryd.underlying79 h
  have c5 : Tryd.prog.cellsOf 79 = 5 := by kernel_rfl
  have c1 : Tryd.prog.cellsOf 25 = 1 := by kernel_rfl
  have c4 : Tryd.prog.cellsOf 77 = 4 := by kernel_rfl
  rw [c5] at hl
  obtain ⟨v0, v1, v2, v3, v4, rfl⟩ := list5 hl
  simp only [c1, c4, List.take, List.drop] at h0 h1
  obtain ⟨z0, z1, z2, z3, m', _, _, g0, g1, g2, g3⟩ := trod_struct4 Tryd.underlying77 h1
  have d1 : Tryd.prog.cellsOf 3 = 1 := by kernel_rfl
  have d2 : Tryd.prog.cellsOf 4 = 1 := by kernel_rfl
  simp only [d1, d2, List.take, List.drop] at g0 g1 g2 g3
  obtain ⟨f, hf, _⟩ := DataW.trod_int Tryd.underlying3 g0
  obtain ⟨s, hs, _⟩ := DataW.trod_int Tryd.underlying3 g1
  obtain ⟨t, ht, _⟩ := DataW.trod_int Tryd.underlying3 g2
  obtain ⟨v, hv, _⟩ := DataW.trod_bool Tryd.underlying4 g3
  cases hf
  cases hs
  cases ht
  cases hv
  rcases open_ints Tryd.underlying25 Tryd.underlying3 (by kernel_rfl) h0 with ⟨hcs, _⟩ | ⟨x, l, c, zs, hcs, _, hlc, hm, hz, _, hcell, hwz⟩
  · cases hcs
    exact ⟨none, 0, 0, [], f, s, t, v, rfl, .inl ⟨rfl, rfl, rfl, rfl⟩⟩
  · cases hcs
    exact ⟨some x, l, c, zs, f, s, t, v, rfl, .inr ⟨_, rfl, hlc, hm, by simpa using hz, hcell, hwz⟩⟩

theorem isRow_take {a : Option Addr} {len cap : Nat} {zs : List Int} (h : IsRow .i64 w a len cap zs) : (zs.take len).length = len := by
  rcases h with ⟨_, rfl, _, rfl⟩ | ⟨_, _, h1, _, h2, _⟩
  · rfl
  · rw [List.length_take]; omega

theorem open_entries {n : Nat} {a : Option Addr} {len cap : Nat} {x : DataW H × List MemPlace} (h : DataW.trod enc Tryd.prog w base (fun _ => true) true n 22 [.slice a len cap] = some x) : ∃ es, ArgEnts w a len cap es := by
  have c5 : Tryd.prog.cellsOf 79 = 5 := by kernel_rfl
  rcases open_slice Tryd.underlying22 h with ⟨hcs, _⟩ | ⟨a', len', cap', m, n', D, Pl, hcs, _, hl, hm, hmm, _, hx⟩
  · cases hcs
    exact ⟨[], rfl, Nat.le_refl _, Nat.zero_le _, .inl rfl⟩
  · cases hcs
    rw [c5] at hx
    simp only [if_true] at hmm
    subst hmm
    by_cases h0 : len = 0
    · subst h0
      exact ⟨[], rfl, hl, hm, .inl rfl⟩
    · have hsp : a'.spot = none := by
        obtain ⟨cs', h1, _⟩ := hx 0 (by omega)
        obtain ⟨_, h3, h4⟩ := World.cells?_some h1
        have h5 := h4 0 (by omega)
        rw [List.getElem?_eq_getElem (by omega)] at h5
        have := spot_none h5
        simpa [Addr.add] using this
      have hadd : ∀ i, a'.add i = ⟨a'.block, a'.off + i, none⟩ := fun i => by
        unfold Addr.add
        split
        · rename_i hi
          subst hi
          cases a'
          simp at hsp
          simp [hsp]
        · rfl
      have each : ∀ i, i < len → ∃ e : Ent, ArgEnt w a'.block (a'.off + i * 5) e := fun i hi => by
        obtain ⟨cs', h1, h2⟩ := hx i (by omega)
        obtain ⟨ra, rl, rc, zs, f, s, t, v, rfl, hr⟩ := open_entry h2
        obtain ⟨_, _, h4⟩ := World.cells?_some h1
        have at' : ∀ j, j < 5 → w.cell? ⟨a'.block, a'.off + i * 5 + j, none⟩ = [Value.slice ra rl rc, .int .i64 f, .int .i64 s, .int .i64 t, .bool v][j]? := fun j hj => by
          rw [← h4 j hj, hadd]
          unfold Addr.add
          split
          · rename_i hj; subst hj; rfl
          · rfl
        exact ⟨⟨zs.take rl, ⟨f, s, t, v⟩⟩, ra, rl, rc, zs, hr, rfl, isRow_take hr, at' 0 (by omega), at' 1 (by omega), at' 2 (by omega), at' 3 (by omega), at' 4 (by omega)⟩
      obtain ⟨E, hE⟩ := choose_lt (p := fun i e => ArgEnt w a'.block (a'.off + i * 5) e) each
      refine ⟨(List.range len).map E, by simp, hl, hm, .inr ⟨a'.block, a'.off, ?_, fun k e he => ?_⟩⟩
      · cases a'
        simp at hsp
        simp [hsp]
      · rw [List.getElem?_map, Option.map_eq_some_iff] at he
        obtain ⟨i, hi, rfl⟩ := he
        obtain ⟨hk, e2⟩ := List.getElem?_eq_some_iff.1 hi
        simp at hk e2
        subst e2
        exact hE k hk
end
end Go.Proofs.YtanfebccenfffafDoor

namespace Go.Proofs.YtanfebccenfffafDoor
open Go.RowKit

def szL (left : Int) (n : Nat) : Int := if left - (n : Int) < 0 then -1 else left - (n : Int)

def szEs : List Ent → Int → Int
  | [], left => left
  | e :: es, left => if szL left e.runes.length < 0 then -1 else szEs es (szL left e.runes.length)

def szA (es : List Ent) (left : Int) : Int := if left - (es.length : Int) < 0 then -1 else szEs es (left - (es.length : Int))

theorem szL_bd {left : Int} {n : Nat} (h : ¬ szL left n < 0) : szL left n = left - (n : Int) ∧ 0 ≤ left - (n : Int) := by
  unfold szL at *
  split at h
  · omega
  · rename_i c
    rw [if_neg c]
    omega

theorem szEs_bd : ∀ (es : List Ent) (left : Int), 0 ≤ left → 0 ≤ szEs es left → ∀ e ∈ es, (e.runes.length : Int) ≤ left
  | [], _, _, _ => fun e he => by simp at he
  | x :: es, left, h0, h => fun e he => by
    unfold szEs at h
    split at h
    · omega
    · rename_i c
      have hb := szL_bd c
      rw [hb.1] at h
      rcases List.mem_cons.1 he with rfl | he
      · omega
      · have := szEs_bd es _ hb.2 h e he
        omega

theorem szEs_neg : ∀ (es : List Ent) (left : Int), 0 ≤ left → szEs es left < 0 → szEs es left = -1
  | [], left, h0, h => by unfold szEs at h; omega
  | x :: es, left, h0, h => by
    unfold szEs at h ⊢
    split
    · rfl
    · rename_i c
      rw [if_neg c] at h
      have hb := szL_bd c
      exact szEs_neg es _ (by rw [hb.1]; exact hb.2) h

theorem szA_bd {es : List Ent} {left : Int} (h : 0 ≤ szA es left) : (es.length : Int) ≤ left ∧ ∀ e ∈ es, (e.runes.length : Int) ≤ left := by
  unfold szA at h
  split at h
  · omega
  · refine ⟨by omega, fun e he => ?_⟩
    have := szEs_bd es _ (by omega) h e he
    omega

set_option maxRecDepth 100000 in
set_option maxHeartbeats 1000000 in
theorem szInt_any (w : World) (a : Option Addr) (n c : Nat) (left : Int) (h0 : 0 ≤ left) (h1 : left ≤ 1048576) (hn : n ≤ 9223372036854775807) :
    Calls Tryd.prog 73 #[.slice a n c, .int .i64 left] w fun e w' => e = .returned (.int .i64 (szL left n)) ∧ w' = w := by
  unfold szL
  by_cases h : left - (n : Int) < 0
  · rw [if_pos h]
    go_enter Tryd.func73, Tryd.ntmps73
    go_wp2
    go_ret
    exact ⟨rfl, rfl⟩
  · rw [if_neg h]
    go_enter Tryd.func73, Tryd.ntmps73
    go_wp2
    go_ret
    exact ⟨rfl, rfl⟩

set_option maxRecDepth 100000 in
set_option maxHeartbeats 1000000 in
theorem szEnt_any (w : World) (a : Option Addr) (n c : Nat) (f s t : Int) (v : Bool) (left : Int) (h0 : 0 ≤ left) (h1 : left ≤ 1048576) (hn : n ≤ 9223372036854775807) :
    Calls Tryd.prog 50 #[.agg #[.slice a n c, .int .i64 f, .int .i64 s, .int .i64 t, .bool v], .int .i64 left] w fun e w' => e = .returned (.int .i64 (szL left n)) ∧ Below w.heap.size w w' := by
  have S := fun w => szInt_any w a n c left h0 h1 hn
  by_cases h : szL left n < 0
  · have h' : szL left n = -1 := by unfold szL at *; split at h <;> simp_all
    rw [h'] at S
    rw [h']
    clear h h'
    go_enter Tryd.func50, Tryd.ntmps50
    go_wp2_with (go_at_call 73; refine (S _).mono ?_; rintro e w1 ⟨rfl, rfl⟩)
    go_ret
    exact ⟨rfl, (Below.refl _ _).alloc (Nat.le_refl _) _⟩
  · obtain ⟨z, hz⟩ : ∃ z, z = szL left n := ⟨_, rfl⟩
    rw [← hz] at S h ⊢
    clear hz
    go_enter Tryd.func50, Tryd.ntmps50
    go_wp2_with (go_at_call 73; refine (S _).mono ?_; rintro e w1 ⟨rfl, rfl⟩)
    go_ret
    exact ⟨rfl, (Below.refl _ _).alloc (Nat.le_refl _) _⟩

def SzRel (w : World) (es : List Ent) (ans : Int) (lv i : Value) (wr : World) : Prop :=
  ∃ (k : Nat) (left : Int), k ≤ es.length ∧ i = .int .i64 k ∧ lv = .int .i64 left ∧ 0 ≤ left ∧ left ≤ 1048576 ∧ szEs (es.drop k) left = ans ∧ Below w.heap.size w wr

theorem ent_drop {es : List Ent} {k : Nat} {e : Ent} (h : es[k]? = some e) : es.drop k = e :: es.drop (k + 1) := by
  obtain ⟨hk, rfl⟩ := List.getElem?_eq_some_iff.1 h
  exact List.drop_eq_getElem_cons hk

theorem cell_lt {w : World} {b o : Nat} {v : Value} (h : w.cell? ⟨b, o, none⟩ = some v) : b < w.heap.size := by
  apply Classical.byContradiction
  intro hn
  have : w.heap[b]? = none := by simp; omega
  simp [World.cell?, this] at h

theorem ArgEnt.below {w w' : World} {b p : Nat} {e : Ent} (h : ArgEnt w b p e) (hb : Below w.heap.size w w') : ∃ (ra : Option Addr) (rl rc : Nat) (zs : List Int), IsRow .i64 w ra rl rc zs ∧ e.runes = zs.take rl ∧ e.runes.length = rl ∧ w'.cell? ⟨b, p, none⟩ = some (.slice ra rl rc) ∧ w'.cell? ⟨b, p + 1, none⟩ = some (.int .i64 e.el.first) ∧
    w'.cell? ⟨b, p + 2, none⟩ = some (.int .i64 e.el.second) ∧ w'.cell? ⟨b, p + 3, none⟩ = some (.int .i64 e.el.third) ∧ w'.cell? ⟨b, p + 4, none⟩ = some (.bool e.el.varies) := by
  obtain ⟨ra, rl, rc, zs, hr, h1, h2, a0, a1, a2, a3, a4⟩ := h
  have hlt := cell_lt a0
  exact ⟨ra, rl, rc, zs, hr, h1, h2, by rw [hb.cell hlt]; exact a0, by rw [hb.cell hlt]; exact a1, by rw [hb.cell hlt]; exact a2, by rw [hb.cell hlt]; exact a3, by rw [hb.cell hlt]; exact a4⟩

theorem isRow_len {w : World} {a : Option Addr} {len cap : Nat} {zs : List Int} (h : IsRow .i64 w a len cap zs) : len ≤ 9223372036854775807 := by
  rcases h with ⟨_, rfl, _, _⟩ | ⟨_, _, h1, h2, _⟩
  · omega
  · unfold maxLen at h2; omega

set_option maxRecDepth 100000 in
set_option maxHeartbeats 2000000 in
theorem szEnts_any (w w1 : World) (a : Option Addr) (len cap : Nat) (es : List Ent) (left : Int) (h0 : 0 ≤ left) (h1 : left ≤ 1048576) (hA : ArgEnts w a len cap es) (hb : Below w.heap.size w w1) :
    Calls Tryd.prog 30 #[.slice a len cap, .int .i64 left] w1 fun e w' => e = .returned (.int .i64 (szA es left)) ∧ Below w1.heap.size w1 w' := by
  obtain ⟨hlen, hlc, hcm, hA⟩ := hA
  unfold maxLen at hcm
  by_cases hneg : left - (len : Int) < 0
  · have HA : Hid (szA es left = -1) := by show _ = _; unfold szA; rw [hlen, if_pos hneg]
    clear hA
    go_enter Tryd.func30, Tryd.ntmps30
    go_wp2
    go_ret
    rw [HA.out]
    exact ⟨rfl, Below.refl _ _⟩
  · have HA : Hid (szA es left = szEs es (left - (len : Int))) := by show _ = _; unfold szA; rw [hlen, if_neg hneg]
    subst hlen
    obtain ⟨ans, HANS⟩ : ∃ ans, Hid (szEs es (left - (es.length : Int)) = ans) := ⟨_, rfl⟩
    go_enter Tryd.func30, Tryd.ntmps30
    go_wp2
    go_loopw [1, 5] (fun lv i wr => SzRel w1 es ans lv i wr) (fun _ i _ => es.length - (intOf i).toNat)
    case atStart => exact ⟨0, _, Nat.zero_le _, rfl, rfl, by omega, by omega, by rw [List.drop_zero]; exact HANS.out, Below.refl _ _⟩
    case round =>
      obtain ⟨k, lf, hk, rfl, rfl, hf0, hf1, hR, hbr⟩ := hrel
      have HR : Hid _ := hR
      clear hR
      by_cases hlt : k < es.length
      · obtain ⟨e, he⟩ : ∃ e, es[k]? = some e := ⟨_, List.getElem?_eq_getElem hlt⟩
        obtain ⟨b, o, rfl, hE⟩ := hA.resolve_left (by omega)
        obtain ⟨ra, rl, rc, zs, hr, e1, e2, a0, a1, a2, a3, a4⟩ := (hE k e he).below (hb.trans (hbr.mono hb.size))
        have E2 : Hid (e.runes.length = rl) := e2
        have hrl := isRow_len hr
        have hk8 : (k : Int) < (es.length : Int) := by omega
        have SZ := fun w => szEnt_any w ra rl rc e.el.first e.el.second e.el.third e.el.varies lf hf0 hf1 hrl
        have HR2 : Hid ((if szL lf rl < 0 then -1 else szEs (es.drop (k + 1)) (szL lf rl)) = ans) := by
          show _ = _
          rw [← HR.out, ent_drop he, ← E2.out]
          rfl
        clear hE he hr hrl HR e1 e2
        go_wp2_with fail
        refine (SZ _).mono ?_
        rintro e' w3 ⟨rfl, b3⟩
        clear SZ a0 a1 a2 a3 a4
        by_cases hs : szL lf rl < 0
        · have HF : Hid (-1 = ans) := by show _ = _; rw [← HR2.out, if_pos hs]
          go_wp2
          go_ret
          rw [HA.out, HANS.out, ← HF.out]
          exact ⟨rfl, hbr.trans (b3.mono hbr.size)⟩
        · have hbd := szL_bd hs
          have HF : Hid (szEs (es.drop (k + 1)) (szL lf rl) = ans) := by show _ = _; rw [← HR2.out, if_neg hs]
          obtain ⟨z, hz⟩ : ∃ z, z = szL lf rl := ⟨_, rfl⟩
          have hzb : 0 ≤ z ∧ z ≤ 1048576 := by rw [hz, hbd.1]; omega
          rw [← hz] at HF hs ⊢
          clear hz hbd HR2
          go_wp2
          exact ⟨⟨k + 1, z, hlt, by go_num, rfl, hzb.1, hzb.2, HF.out, hbr.trans (b3.mono hbr.size)⟩, by simp [intOf]; omega⟩
      · have hk3 : k = es.length := by omega
        subst hk3
        have HF : Hid (lf = ans) := by show _ = _; rw [← HR.out, List.drop_length]; rfl
        clear HR hA
        go_wp2
        go_ret
        rw [HA.out, HANS.out, ← HF.out]
        exact ⟨rfl, hbr⟩

set_option maxRecDepth 100000 in
set_option maxHeartbeats 2000000 in
theorem szRules_any (w w1 : World) (a : Option Addr) (len cap : Nat) (es : List Ent) (sh : Bool) (lv left : Int) (h0 : 0 ≤ left) (h1 : left ≤ 1048576) (hA : ArgEnts w a len cap es) (hb : Below w.heap.size w w1) :
    Calls Tryd.prog 8 #[.agg #[.slice a len cap, .bool sh, .int .i64 lv], .int .i64 left] w1 fun e w' => e = .returned (.int .i64 (szA es left)) ∧ Below w1.heap.size w1 w' := by
  have S := fun (u : World) (hu : Below w.heap.size w u) => szEnts_any w u a len cap es left h0 h1 hA hu
  have hb2 := (Below.refl w1.heap.size w1).alloc (Nat.le_refl _) (.cells #[.slice a len cap, .bool sh, .int .i64 lv] 24)
  have S2 := S _ (hb.trans (hb2.mono hb.size))
  have HB : Hid (Below _ _ _) := hb2
  clear S hA hb hb2
  by_cases h : szA es left < 0
  · have h' : szA es left = -1 := by
      unfold szA at *
      split at h
      · rename_i c; rw [if_pos c]
      · rename_i c; rw [if_neg c]; exact szEs_neg _ _ (by omega) h
    rw [h'] at S2
    rw [h']
    clear h h'
    go_enter Tryd.func8, Tryd.ntmps8
    go_wp2_with fail
    refine S2.mono ?_
    rintro e w3 ⟨rfl, b3⟩
    go_wp2
    go_ret
    exact ⟨rfl, HB.out.trans (b3.mono HB.out.size)⟩
  · obtain ⟨z, hz⟩ : ∃ z, z = szA es left := ⟨_, rfl⟩
    rw [← hz] at S2 h ⊢
    clear hz
    go_enter Tryd.func8, Tryd.ntmps8
    go_wp2_with fail
    refine S2.mono ?_
    rintro e w3 ⟨rfl, b3⟩
    go_wp2
    go_ret
    exact ⟨rfl, HB.out.trans (b3.mono HB.out.size)⟩
end Go.Proofs.YtanfebccenfffafDoor

namespace Go.Proofs.YtanfebccenfffafDoor
open Go.RowKit

set_option maxRecDepth 100000 in
set_option maxHeartbeats 1000000 in
theorem eq_none (w : World) (a b : Option Addr) (c d : Nat) : Calls Tryd.prog 15 #[.slice a 0 c, .slice b 0 d] w fun e w' => e = .returned (.bool true) ∧ ∃ n, w' = w.drewN n := by
  go_enter Tryd.func15, Tryd.ntmps15
  go_wp2
  go_loopw [5] (fun i wr => i = .int .i64 0 ∧ wr = w) (fun _ _ => 0)
  case atStart => exact ⟨rfl, rfl⟩
  case round =>
    obtain ⟨rfl, rfl⟩ := hrel
    go_wp2
    go_ret
    exact ⟨rfl, 0, rfl⟩

set_option maxRecDepth 100000 in
set_option maxHeartbeats 1000000 in
theorem eq_row (w : World) (g g' cap cap' : Nat) (zs : List Int) (hz : zs.length ≤ maxLen)
    (h1 : ∀ j, j < zs.length → w.cell? ⟨g, j, none⟩ = some (.int .i64 (zs[j]?.getD 0)))
    (h2 : ∀ j, j < zs.length → w.cell? ⟨g', j, none⟩ = some (.int .i64 (zs[j]?.getD 0))) :
    Calls Tryd.prog 15 #[.slice (some ⟨g, 0, none⟩) zs.length cap, .slice (some ⟨g', 0, none⟩) zs.length cap'] w fun e w' => e = .returned (.bool true) ∧ ∃ n, w' = w.drewN n := by
  unfold maxLen at hz
  go_enter Tryd.func15, Tryd.ntmps15
  go_wp2
  go_loopw [5] (fun i wr => ∃ k nq : Nat, k ≤ zs.length ∧ i = .int .i64 k ∧ wr = w.drewN nq) (fun i _ => zs.length - (intOf i).toNat)
  case atStart => exact ⟨0, 0, Nat.zero_le _, rfl, rfl⟩
  case round =>
    obtain ⟨k, nq, hk, rfl, rfl⟩ := hrel
    by_cases hlt : k < zs.length
    · have g1 := h1 k hlt
      have g2 := h2 k hlt
      have hz2 : (k : Int) < (zs.length : Int) := by omega
      have HZ : Hid (zs.length ≤ 2 ^ 63 - 1) := hz
      have H1 : Hid _ := h1
      have H2 : Hid _ := h2
      clear h1 h2
      go_wp2
      go_quiet (fail)
      go_wp2
      go_roundw
      case rel => exact ⟨k + 1, _, by omega, by go_num, rfl⟩
      case measure => simp [intOf]; omega
    · go_wp2
      go_ret
      exact ⟨rfl, _, rfl⟩

theorem eq_any {w : World} {B B' : Nat} {a b : Value} {zs : List Int} (ha : Ints w B a zs) (hb : Ints w B' b zs) :
    Calls Tryd.prog 15 #[a, b] w fun e w' => e = .returned (.bool true) ∧ ∃ n, w' = w.drewN n := by
  rcases ha.form with ⟨rfl, rfl⟩ | ⟨g, cap, rfl, h1, h2⟩
  · rcases hb.form with ⟨rfl, _⟩ | ⟨g', cap', rfl, _, _⟩
    · exact eq_none w _ _ _ _
    · exact eq_none w _ _ _ _
  · rcases hb.form with ⟨rfl, rfl⟩ | ⟨g', cap', rfl, _, _⟩
    · exact eq_none w _ _ _ _
    · exact eq_row w g g' cap cap' zs (by omega) (fun j hj => ha.cell j hj) (fun j hj => hb.cell j hj)
end Go.Proofs.YtanfebccenfffafDoor

namespace Go.Proofs.YtanfebccenfffafDoor
open Go.RowKit

def filled (zs : List Int) (n : Nat) : Nat → List Int
  | 0 => List.replicate n 0
  | k + 1 => (filled zs n k).set k (zs[k]?.getD 0)

theorem filled_length (zs : List Int) (n k : Nat) : (filled zs n k).length = n := by
  induction k with
  | zero => simp [filled]
  | succ k ih => simp [filled, ih]

theorem filled_at (zs : List Int) (n k j : Nat) (hj : j < k) (hn : j < n) : (filled zs n k)[j]? = some (zs[j]?.getD 0) := by
  induction k with
  | zero => omega
  | succ k ih =>
    simp only [filled, List.getElem?_set, filled_length]
    by_cases e : k = j
    · subst e; simp [hn]
    · rw [if_neg e]; exact ih (by omega)

theorem filled_all (zs : List Int) (n : Nat) (h : n ≤ zs.length) : filled zs n n = zs.take n := by
  apply List.ext_getElem?
  intro j
  by_cases hj : j < n
  · rw [filled_at zs n n j hj hj]
    rw [List.getElem?_take, if_pos hj, List.getElem?_eq_getElem (by omega)]
    rfl
  · rw [List.getElem?_eq_none (by rw [filled_length]; omega), List.getElem?_eq_none (by simp; omega)]

theorem filled_map (zs : List Int) (n k : Nat) : ((filled zs n k).map (Value.int .i64)).set k (.int .i64 (zs[k]?.getD 0)) = (filled zs n (k + 1)).map (Value.int .i64) := by
  simp [filled, List.map_set]

def ToRel (w : World) (n : Nat) (zs : List Int) (i : Value) (wr : World) : Prop :=
  ∃ k : Nat, k ≤ n ∧ i = .int .i64 k ∧ wr.ownsRow w.heap.size 3 1 (.slice (some ⟨w.heap.size, 0, none⟩) n n) n ((filled zs n k).map (Value.int .i64)) ∧ Below w.heap.size w wr

theorem made_ints (n : Nat) : (madeCells (Value.int .i64 0).cells (n * 1)).toList = (List.replicate n (0 : Int)).map (Value.int .i64) := by
  have h := toList_madeCells_one (Value.int .i64 0) n
  simpa [Value.cells] using h

set_option maxRecDepth 100000 in
set_option maxHeartbeats 1000000 in
theorem toInt_none (w : World) (a : Option Addr) (c : Nat) :
    Calls Tryd.prog 11 #[.slice a 0 c] w fun e w' => ∃ v, e = .returned v ∧ Ints w' w.heap.size v [] ∧ Below w.heap.size w w' := by
  obtain ⟨i0, hi, hz0, hz1, hz2⟩ := info_parts info_int
  go_enter Tryd.func11, Tryd.ntmps11
  go_wp2_with (at_make; refine wpList_make_full _ rfl _ _ 25 rfl w.heap.size 3 i0 (.int .i64 0) 1 Tryd.underlying25 hi hz0 hz1 .i64 .i64 _ _ 0 rfl rfl rfl rfl (by omega) (by unfold maxLen; omega) (Nat.le_refl _) ?_; intro w1 hown hgr)
  have hI : Ints w1 w.heap.size (.slice (some ⟨w.heap.size, 0, none⟩) 0 0) [] := by
    rw [made_ints] at hown
    simpa [Ints] using hown
  have hb1 : Below w.heap.size w w1 := Below.grown (Below.refl _ _) hgr (Nat.le_refl _) (fun j hj => by cases hj)
  clear hown hgr
  go_loopw [4] (fun i wr => i = .int .i64 0 ∧ wr = w1) (fun _ _ => 0)
  case atStart => exact ⟨rfl, rfl⟩
  case round =>
    obtain ⟨rfl, rfl⟩ := hrel
    go_wp2
    go_ret
    exact ⟨_, rfl, hI, hb1⟩

set_option maxRecDepth 100000 in
set_option maxHeartbeats 1000000 in
theorem toInt_row (w : World) (b off n cap : Nat) (zs : List Int) (hn : n ≤ zs.length) (hm : n ≤ 1073741824) (hb : b < w.heap.size)
    (hc : ∀ j, j < n → w.cell? ⟨b, off + j, none⟩ = some (.int .i64 (zs[j]?.getD 0))) :
    Calls Tryd.prog 11 #[.slice (some ⟨b, off, none⟩) n cap] w fun e w' => ∃ v, e = .returned v ∧ Ints w' w.heap.size v (zs.take n) ∧ Below w.heap.size w w' := by
  obtain ⟨i0, hi, hz0, hz1, hz2⟩ := info_parts info_int
  go_enter Tryd.func11, Tryd.ntmps11
  go_wp2_with (at_make; refine wpList_make_full _ rfl _ _ 25 rfl w.heap.size 3 i0 (.int .i64 0) 1 Tryd.underlying25 hi hz0 hz1 .i64 .i64 _ _ n rfl rfl rfl rfl (by rw [hz2]; omega) (by unfold maxLen; omega) (Nat.le_refl _) ?_; intro w1 hown hgr)
  have hI : w1.ownsRow w.heap.size 3 1 (.slice (some ⟨w.heap.size, 0, none⟩) n n) n ((filled zs n 0).map (Value.int .i64)) := by
    rw [made_ints] at hown
    exact hown
  have hb1 : Below w.heap.size w w1 := Below.grown (Below.refl _ _) hgr (Nat.le_refl _) (fun j hj => by cases hj)
  clear hown hgr
  go_loopw [4] (fun i wr => ToRel w n zs i wr) (fun i _ => n - (intOf i).toNat)
  case atStart => exact ⟨0, Nat.zero_le _, rfl, hI, hb1⟩
  case round =>
    clear hI hb1
    obtain ⟨k, hk, rfl, hown, hbw⟩ := hrel
    by_cases hlt : k < n
    · have c0 := (hbw.cell (p := ⟨b, off + k, none⟩) hb).trans (hc k hlt)
      have c1 := hown.cellAt k (by omega)
      have hm2 : ((filled zs n k).map (Value.int .i64))[k]? = some (.int .i64 ((filled zs n k)[k]?.getD 0)) := by
        have := filled_length zs n k
        simp [this, hlt]
      rw [hm2] at c1
      have c2 := hown.frozenAt k
      have hst := hown.stored k (.int .i64 (zs[k]?.getD 0))
      rw [filled_map] at hst
      have HST : Hid _ := hst
      have hkz : k < zs.length := by omega
      obtain ⟨x, hx⟩ : ∃ x, x = zs[k]?.getD 0 := ⟨_, rfl⟩
      rw [← hx] at c0 HST
      have HX : Hid _ := hx
      have HC : Hid _ := hc
      clear hst hm2 hx hc
      go_wp2
      go_roundw
      case rel => exact ⟨k + 1, by omega, by go_num, HST.out.1, Below.grown hbw HST.out.2 hbw.size (fun j hj => by cases hj; exact Nat.le_refl _)⟩
      case measure => simp [intOf]; omega
    · have hkz : k = n := by omega
      subst hkz
      have hf := filled_all zs k hn
      rw [hf] at hown
      have hl : (zs.take k).length = k := by simp; omega
      have hown2 : Ints wr w.heap.size (.slice (some ⟨w.heap.size, 0, none⟩) k k) (zs.take k) := by
        unfold Ints; rw [hl]; exact hown
      clear hf hl hown hc
      go_wp2
      go_ret
      exact ⟨_, rfl, hown2, hbw⟩
end Go.Proofs.YtanfebccenfffafDoor
