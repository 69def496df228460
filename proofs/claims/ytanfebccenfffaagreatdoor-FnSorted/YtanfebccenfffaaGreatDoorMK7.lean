/- Texts of mine laid together: SKey0, SKey, SKeyOf, SCmp, IFirsts. -/
import Derived.Test.YtanfebccenfffaaGreatDoorMK6
import Derived.Test.YtanfebccenfffaaGreatDoorOkE
import Derived.Deep.RegionHeld
import Derived.Test.YtanfebccenfffaaGreatDoorMK5
import Derived.Deep.Cut
import Derived.Deep.CutRange
import Derived.BigRegion
import Derived.Test.YtanfebccenfffaaGreatDoorPCmp
namespace Go.Proofs.YtanfebccenfffaaGreatDoor
open Go.RowKit

theorem ents_slice {w : World} {B : Nat} {v : Value} {es : List Ent} (h : Ents w B v es) : ∃ a c, v = .slice a es.length c := by
  rcases h.form with ⟨rfl, rfl⟩ | ⟨_, _, rfl, _, _, _, _⟩
  · exact ⟨_, _, rfl⟩
  · exact ⟨_, _, rfl⟩

/-- The rules' block, of a call's own. -/
def BoxS (u : World) (b : Nat) (v : Value) (sh : Bool) (lv : Int) : Prop := u.heap[b]? = some (.cells #[v, .bool sh, .int .i64 lv] 25)
theorem BoxS.below {B b : Nat} {u u' : World} {v : Value} {sh : Bool} {lv : Int} (h : BoxS u b v sh lv) (hb : Below B u u') (hlt : b < B) : BoxS u' b v sh lv := (hb.block b hlt).trans h
theorem BoxS.cells {b : Nat} {u : World} {v : Value} {sh : Bool} {lv : Int} (h : BoxS u b v sh lv) : u.cell? ⟨b, 0, none⟩ = some v ∧ u.cell? ⟨b, 1, none⟩ = some (.bool sh) ∧ u.cell? ⟨b, 2, none⟩ = some (.int .i64 lv) :=
  ⟨cell_of_row _ _ 0 _ _ _ h, cell_of_row _ _ 1 _ _ _ h, cell_of_row _ _ 2 _ _ _ h⟩

/-- The rules' block and what has grown. -/
def BoxW (w0 : World) (b : Nat) (v : Value) (sh : Bool) (lv : Int) (u : World) : Prop := u.cell? ⟨b, 0, none⟩ = some v ∧ u.cell? ⟨b, 1, none⟩ = some (.bool sh) ∧ u.cell? ⟨b, 2, none⟩ = some (.int .i64 lv) ∧ b < w0.heap.size ∧ Below w0.heap.size w0 u

theorem BoxW.keep {w0 u u' : World} {b : Nat} {v : Value} {sh : Bool} {lv : Int} (hb : Below u.heap.size u u')
    (h : u.cell? ⟨b, 0, none⟩ = some v ∧ u.cell? ⟨b, 1, none⟩ = some (.bool sh) ∧ u.cell? ⟨b, 2, none⟩ = some (.int .i64 lv) ∧ b < w0.heap.size ∧ Below w0.heap.size w0 u) :
    u'.cell? ⟨b, 0, none⟩ = some v ∧ u'.cell? ⟨b, 1, none⟩ = some (.bool sh) ∧ u'.cell? ⟨b, 2, none⟩ = some (.int .i64 lv) ∧ b < w0.heap.size ∧ Below w0.heap.size w0 u' := by
  obtain ⟨h0, h1, h2, h3, h4⟩ := h
  have hlt : b < u.heap.size := Nat.lt_of_lt_of_le h3 h4.size
  exact ⟨(hb.cell hlt).trans h0, (hb.cell hlt).trans h1, (hb.cell hlt).trans h2, h3, h4.trans (hb.mono h4.size)⟩

theorem els_sliceS {w : World} {B : Nat} {v : Value} {es : List El} (h : Elems w B v es) :
    ∃ a c, v = .slice a es.length c ∧ ∀ k e, es[k]? = some e → ∃ g, a = some ⟨g, 0, none⟩ ∧ g < w.heap.size ∧ w.cell? ⟨g, k * 4, none⟩ = some (.int .i64 e.first) ∧ w.cell? ⟨g, k * 4 + 1, none⟩ = some (.int .i64 e.second) ∧ w.cell? ⟨g, k * 4 + 2, none⟩ = some (.int .i64 e.third) ∧ w.cell? ⟨g, k * 4 + 3, none⟩ = some (.bool e.varies) := by
  rcases h.form with ⟨rfl, rfl⟩ | ⟨g, cap, rfl, _, _⟩
  · exact ⟨_, _, rfl, fun k e he => by simp at he⟩
  · exact ⟨_, _, rfl, fun k e he => ⟨g, rfl, (World.ownsRow.lt h g rfl).2, h.cells k e he⟩⟩

theorem ints_sliceS {w : World} {B : Nat} {v : Value} {l : List Int} (h : Ints w B v l) :
    ∃ a c, v = .slice a l.length c ∧ ∀ k, k < l.length → ∃ g, a = some ⟨g, 0, none⟩ ∧ g < w.heap.size ∧ w.cell? ⟨g, k, none⟩ = some (.int .i64 (at0 l k)) := by
  rcases h.form with ⟨rfl, rfl⟩ | ⟨g, cap, rfl, _, _⟩
  · exact ⟨_, _, rfl, fun k hk => by simp at hk⟩
  · exact ⟨_, _, rfl, fun k hk => ⟨g, rfl, (World.ownsRow.lt h g rfl).2, h.cell k hk⟩⟩

theorem elAt_at {xs : List El} {k : Nat} {e : El} (h : xs[k]? = some e) : elAt xs k = e := by unfold elAt; rw [h]; rfl

end Go.Proofs.YtanfebccenfffaaGreatDoor

namespace Go.Proofs.YtanfebccenfffaaGreatDoor
open Go.RowKit

def SoRel (W : World) (xs : List El) (fs : List Int) (n : Nat) (v8 v9 : Value) (wr : World) : Prop :=
  ∃ l : Nat, l ≤ n ∧ v9 = .int .i64 ((l : Int) + 1) ∧ Bys wr W.heap.size v8 (keyN xs fs l) ∧ Below W.heap.size W wr

def SiRel (W : World) (pre : List Int) (lv : Nat) (xs : List El) (fs : List Int) (v8 i : Value) (wr : World) : Prop :=
  ∃ k : Nat, k ≤ xs.length ∧ i = .int .i64 k ∧ Bys wr W.heap.size v8 (pre ++ bysOf (wtsK lv xs fs k)) ∧ Below W.heap.size W wr

theorem wts_zero {lv : Nat} {xs : List El} {fs : List Int} {k : Nat} (pre : List Int) (h : wtL lv (elAt xs k) (at0 fs k) = 0) : pre ++ bysOf (wtsK lv xs fs (k + 1)) = pre ++ bysOf (wtsK lv xs fs k) := by
  rw [wtsK, ifNot_zero h, List.append_nil]
theorem wts_some {lv : Nat} {xs : List El} {fs : List Int} {k : Nat} (pre : List Int) (h : wtL lv (elAt xs k) (at0 fs k) ≠ 0) : pre ++ bysOf (wtsK lv xs fs (k + 1)) = (pre ++ bysOf (wtsK lv xs fs k)) ++ [wtL lv (elAt xs k) (at0 fs k) / 256, wtL lv (elAt xs k) (at0 fs k) % 256] := by
  rw [wtsK, ifNot_some h, bysOf_app, bysOf_one, List.append_assoc]

set_option maxRecDepth 100000 in
set_option maxHeartbeats 4000000 in
theorem key4_any {w : World} {B B' : Nat} {v vl : Value} {es : List Ent} {sh : Bool} {n : Nat} {l : List Int} (hE : Ents w B v es) (hn : es.length ≤ 1048576) (hr : ∀ e ∈ es, e.runes.length ≤ 1048576)
    (hL : Ints w B' vl l) (hl : l.length ≤ 200) (hg : ∀ x ∈ l, 0 ≤ x ∧ x ≤ 1114111) (h1 : 1 ≤ n) (h4 : n ≤ 4) (hrg : ∀ e ∈ elems4 es l, rngE e) :
    Calls Tryz.prog 52 #[.agg #[v, .bool sh, .int .i64 n], vl] w fun e w' => e = .returned (.string (bytesOf (keyB es sh n l))) ∧ Below w.heap.size w w' := by
  obtain ⟨va, vc, rfl⟩ := ents_slice hE
  obtain ⟨al, cl, rfl⟩ := lenS_form hL
  obtain ⟨i0, hi0, hz0, hs0, hy0⟩ := info_parts info_u8
  have hbx : Below w.heap.size w (w.alloc (.cells #[.slice va es.length vc, .bool sh, .int .i64 n] 25)) := (Below.refl _ _).alloc (Nat.le_refl _) _
  have hbox : BoxS (w.alloc (.cells #[.slice va es.length vc, .bool sh, .int .i64 n] 25)) w.heap.size (.slice va es.length vc) sh n := heap_alloc_new w _
  have hlb : w.heap.size < (w.alloc (.cells #[.slice va es.length vc, .bool sh, .int .i64 n] 25)).heap.size := by simp
  have EL := fun (u : World) (hu : Below (w.alloc (.cells #[.slice va es.length vc, .bool sh, .int .i64 n] 25)).heap.size (w.alloc (.cells #[.slice va es.length vc, .bool sh, .int .i64 n] 25)) u) => elems4S_any (sh := sh) (lv := (n : Int)) ((hE.below hbx).below hu) hn hr ((hL.below hbx).below hu) (by omega) hg
  have hlen := elems4_len es l
  unfold keyB
  rw [Int.toNat_natCast]
  have hwr := fun lv => wtsK_rng (lv := lv) (fourS_rng (sh := sh) hrg (elems4 es l).length).2 (fourS_rng (sh := sh) hrg (elems4 es l).length).1
  generalize elems4 es l = el at *
  have hel : el.length ≤ 400 := by omega
  have FO := fun (u : World) (B : Nat) (v : Value) (h : Elems u B v el) => fourth_any sh (by omega) h
  have hcl := counted_len sh el
  have hfl := fourths_len sh el
  have hwr2 : ∀ lv k, ∀ m ∈ wtsK lv (counted sh el) (fourths sh el) k, 1 ≤ m ∧ m ≤ 65535 := fun lv k => hwr lv k
  have her : ∀ e ∈ counted sh el, rngE e := (fourS_rng (sh := sh) hrg el.length).2
  have hfr : ∀ f ∈ fourths sh el, 0 ≤ f ∧ f ≤ 65535 := (fourS_rng (sh := sh) hrg el.length).1
  generalize counted sh el = xs at *
  generalize fourths sh el = fs at *
  have hxl : xs.length ≤ 400 := by omega
  have HFL : Hid (fs.length = xs.length) := by show _ = _; omega
  have HWR : Hid (∀ lv k, ∀ m ∈ wtsK lv xs fs k, 1 ≤ m ∧ m ≤ 65535) := hwr2
  have HER : Hid (∀ e ∈ xs, rngE e) := her
  have HFR : Hid (∀ f ∈ fs, 0 ≤ f ∧ f ≤ 65535) := hfr
  clear hE hL hr hg hwr hwr2 hlen hcl hfl hrg her hfr
  obtain ⟨W0, HW0⟩ : ∃ W0, Hid (W0 = w.alloc (.cells #[.slice va es.length vc, .bool sh, .int .i64 n] 25)) := ⟨_, rfl⟩
  rw [← HW0.out] at hbx hbox hlb EL
  obtain ⟨c0, c1, c2⟩ := hbox.cells
  have hS : W0.cell? ⟨w.heap.size, 0, none⟩ = some (.slice va es.length vc) ∧ W0.cell? ⟨w.heap.size, 1, none⟩ = some (.bool sh) ∧ W0.cell? ⟨w.heap.size, 2, none⟩ = some (.int .i64 n) ∧ w.heap.size < W0.heap.size ∧ Below W0.heap.size W0 W0 := ⟨c0, c1, c2, hlb, Below.refl _ _⟩
  have hS2 := BoxW.keep ((Below.refl W0.heap.size W0).drew) hS
  have EL2 := fun (u : World) (hu : u.cell? ⟨w.heap.size, 0, none⟩ = some (.slice va es.length vc) ∧ u.cell? ⟨w.heap.size, 1, none⟩ = some (.bool sh) ∧ u.cell? ⟨w.heap.size, 2, none⟩ = some (.int .i64 n) ∧ w.heap.size < W0.heap.size ∧ Below W0.heap.size W0 u) => EL u hu.2.2.2.2
  clear EL hbox
  go_enter Tryz.func52, Tryz.ntmps52
  go_wp2_with fail
  rw [← HW0.out]
  clear HW0
  go_region_held (fun u => u.cell? ⟨w.heap.size, 0, none⟩ = some (.slice va es.length vc) ∧ u.cell? ⟨w.heap.size, 1, none⟩ = some (.bool sh) ∧ u.cell? ⟨w.heap.size, 2, none⟩ = some (.int .i64 n) ∧ w.heap.size < W0.heap.size ∧ Below W0.heap.size W0 u)
    (first | exact hS2 | exact BoxW.keep (by assumption) (by assumption))
    (first | (go_at_call 73; refine (EL2 _ (by assumption)).mono ?_; rintro e w' ⟨vE, rfl, hEl, hbw⟩; obtain ⟨aE, cE, rfl⟩ := (show ∃ a c, vE = .slice a el.length c by obtain ⟨h, _⟩ | ⟨g, cap, h, _⟩ := hEl.form <;> (first | exact ⟨_, _, h⟩ | (rename_i h2; subst h2; exact ⟨_, _, h⟩)))) | (go_at_call 72; refine (FO _ _ _ (by assumption)).mono ?_; rintro e w' ⟨v5, v6, rfl, hI5, hE6, hbw⟩))
  all_goals
    obtain ⟨_, _, d2, _, hbW⟩ := (show w'.cell? ⟨w.heap.size, 0, none⟩ = _ ∧ _ ∧ _ ∧ _ ∧ Below W0.heap.size W0 w' by assumption)
    have hwW : w.heap.size < w'.heap.size := Nat.lt_of_lt_of_le hlb hbW.size
    have HBW : Hid (Below w.heap.size w w') := hbx.trans (hbW.mono hbx.size)
    obtain ⟨fa, fc, rfl, hcI⟩ := ints_sliceS hI5
    obtain ⟨xa, xc, rfl, hcE⟩ := els_sliceS hE6
    have HCI : Hid _ := hcI
    have HCE : Hid _ := hcE
    have hkl := fun l => keyN_len xs fs l
    have HKL : Hid (∀ l, l ≤ 4 → (keyN xs fs l).length ≤ 3208) := fun l hl => Nat.le_trans (hkl l) (Nat.le_trans (Nat.mul_le_mul hl (show 2 + 2 * xs.length ≤ 802 by omega)) (by omega))
    obtain ⟨W, HWW⟩ : ∃ W, Hid (W = w') := ⟨_, rfl⟩
    have hWW := HWW.out
    subst hWW
    clear hcI hcE hI5 hE6 hbW hS hS2 EL2 FO c0 c1 c2 hbx hlb hkl HWW
    try clear hEl
    try clear hbw
    go_wp2_with fail
    go_loopw [7, 8] (fun v7 v8 wr => SoRel W xs fs n v7 v8 wr) (fun _ v8 _ => n + 1 - (intOf v8).toNat)
    case atStart => exact ⟨0, by omega, rfl, World.ownsRow_nil _ _ _ _, Below.refl _ _⟩
    case round =>
      obtain ⟨l, hl, rfl, hK, hbw⟩ := hrel
      have e2 : wr.cell? ⟨w.heap.size, 2, none⟩ = some (.int .i64 n) := (hbw.cell (p := ⟨w.heap.size, 2, none⟩) hwW).trans d2
      have hkl := HKL.out l (by omega)
      have hsz := hbw.size
      by_cases hlt : l < n
      · have hlt8 : (l : Int) + 1 ≤ (n : Int) := by omega
        have HK : Hid (Bys _ _ _ _) := hK
        have HBV : Hid (Below _ _ _) := hbw
        clear hK hbw
        go_upto_if 28 with fail
        go_cut [7] from 21 to 64 (fun v7 wx => Bys wx W.heap.size v7 (keyN xs fs l ++ sepB (l + 1)) ∧ Below W.heap.size W wx)
        case first =>
          by_cases h0 : l = 0
          · subst h0
            go_wp2
            go_meet
            case rel => exact ⟨by simpa [sepB] using HK.out, HBV.out⟩
          · have h08 : (1 : Int) < (l : Int) + 1 := by omega
            have hs : sepB (l + 1) = [0, 0] := by unfold sepB; rw [if_pos (by omega)]
            have HS : Hid _ := hs
            have hK := HK.out
            unfold Bys at hK
            clear hs
            go_wp2_with (at_builtin; refine wpList_append_own _ rfl _ _ 22 rfl W.heap.size 5 i0 (.int .u8 0) 1 1 Tryz.underlying22 hi0 hz0 hs0 hy0 rfl (by decide) _ _ _ rfl (hK.alloc _) ⟨wr.heap.size, 0, none⟩ 2 2 [.int .u8 0, .int .u8 0] rfl rfl (cells2_at _ _ _ _ _ (by simp)) (fun u hu => by simp at hu; subst hu; rfl) (by unfold maxLen; omega) (by omega) (by simp; omega) ?_)
            intro v4 w4 ho4 hg4 _
            have hI4 : Bys w4 W.heap.size v4 (keyN xs fs l ++ [0, 0]) := Bys.app2 ho4
            have hb4 : Below W.heap.size W w4 := Below.grown (HBV.out.alloc HBV.out.size _) hg4 (HBV.out.alloc HBV.out.size _).size (fun j hj => (World.ownsRow.lt hK j hj).1)
            have HI4 : Hid (Bys _ _ _ _) := hI4
            clear ho4 hg4 hK hI4
            go_wp2
            go_meet
            case rel => exact ⟨by rw [HS.out]; exact HI4.out, hb4⟩
        case rest =>
          obtain ⟨hK, hbw⟩ := hcut
          clear HK HBV e2
          have hpl : (keyN xs fs l ++ sepB (l + 1)).length ≤ 3210 := by
            have : (sepB (l + 1)).length ≤ 2 := by unfold sepB; split <;> simp
            rw [List.length_append]; omega
          have HPR : Hid (keyN xs fs (l + 1) = (keyN xs fs l ++ sepB (l + 1)) ++ bysOf (wtsK (l + 1) xs fs xs.length)) := by show _ = _; rw [keyN, List.append_assoc]; rfl
          generalize keyN xs fs l ++ sepB (l + 1) = pre at *
          have HK2 : Hid (Bys _ _ _ _) := hK
          have HBW2 : Hid (Below _ _ _) := hbw
          clear hK hbw
          go_wp2_with fail
          go_loopw [7, 34] (fun v7 i wr => SiRel W pre (l + 1) xs fs v7 i wr) (fun _ i _ => xs.length - (intOf i).toNat)
          case atStart => exact ⟨0, Nat.zero_le _, rfl, by rw [wtsK, bysOf_nil, List.append_nil]; exact HK2.out, HBW2.out⟩
          case round =>
            clear HK2 HBW2
            obtain ⟨k, hk, rfl, hK, hbw⟩ := hrel
            have hwl := wtsK_len (l + 1) xs fs k
            by_cases hlk : k < xs.length
            · obtain ⟨e, he⟩ : ∃ e, xs[k]? = some e := ⟨_, List.getElem?_eq_getElem hlk⟩
              obtain ⟨ge, rfl, hgl, y0, y1, y2, y3⟩ := HCE.out k e he
              obtain ⟨gf, rfl, hfl, z0⟩ := HCI.out k (by have := HFL.out; omega)
              have hkf8 : (k : Int) < (fs.length : Int) := by have := HFL.out; omega
              have hk8 : (k : Int) < (xs.length : Int) := by omega
              have a0 : wr.cell? ⟨ge, k * 4, none⟩ = some (.int .i64 e.first) := (hbw.cell (p := ⟨ge, k * 4, none⟩) hgl).trans y0
              have a1 : wr.cell? ⟨ge, k * 4 + 1, none⟩ = some (.int .i64 e.second) := (hbw.cell (p := ⟨ge, k * 4 + 1, none⟩) hgl).trans y1
              have a2 : wr.cell? ⟨ge, k * 4 + 2, none⟩ = some (.int .i64 e.third) := (hbw.cell (p := ⟨ge, k * 4 + 2, none⟩) hgl).trans y2
              have a3 : wr.cell? ⟨ge, k * 4 + 3, none⟩ = some (.bool e.varies) := (hbw.cell (p := ⟨ge, k * 4 + 3, none⟩) hgl).trans y3
              have b0 : wr.cell? ⟨gf, k, none⟩ = some (.int .i64 (at0 fs k)) := (hbw.cell (p := ⟨gf, k, none⟩) hfl).trans z0
              have hgf : gf < wr.heap.size := Nat.lt_of_lt_of_le hfl hbw.size
              obtain ⟨X, HX⟩ : ∃ X, Hid (wtL (l + 1) (elAt xs k) (at0 fs k) = X) := ⟨_, rfl⟩
              have HXS : Hid ((l = 0 → X = e.first) ∧ (l = 1 → X = e.second) ∧ (l = 2 → X = e.third) ∧ (l = 3 → X = at0 fs k)) := by
                show _ ∧ _
                rw [← HX.out, elAt_at he]
                refine ⟨?_, ?_, ?_, ?_⟩ <;> (intro h; subst h; rfl)
              have hXr := wtL_rng (lv := l + 1) (elAt_rng HER.out k) (at0_rng HFR.out k)
              rw [HX.out] at hXr
              have hbl : (pre ++ bysOf (wtsK (l + 1) xs fs k)).length ≤ 4100 := by rw [List.length_append, bysOf_len]; omega
              have HK3 : Hid (Bys _ _ _ _) := hK
              have HB3 : Hid (Below _ _ _) := hbw
              have hsz3 := hbw.size
              clear hK hbw y0 y1 y2 y3 z0 he hgl hfl
              go_upto_region 11 with fail
              go_cut [11, 34] from 34 to 64 (fun v11 v34 wx => v11 = .int .i64 X ∧ v34 = .int .i64 k ∧ Below wr.heap.size wr wx)
              case first =>
                clear HK3 HB3 HX
                obtain h | h | h | h : l = 0 ∨ l = 1 ∨ l = 2 ∨ l = 3 := by omega
                · subst h
                  obtain rfl := HXS.out.1 rfl
                  clear HXS
                  go_region
                  all_goals
                    go_wp2_with fail
                    go_meet
                    case rel => exact ⟨rfl, rfl, by repeat (first | with_reducible exact Below.refl _ _ | with_reducible refine Below.drew ?_ | with_reducible refine Below.alloc ?_ (by first | omega | (simp; done) | (simp; omega)) _)⟩
                · subst h
                  obtain rfl := HXS.out.2.1 rfl
                  clear HXS
                  go_region
                  all_goals
                    go_wp2_with fail
                    go_meet
                    case rel => exact ⟨rfl, rfl, by repeat (first | with_reducible exact Below.refl _ _ | with_reducible refine Below.drew ?_ | with_reducible refine Below.alloc ?_ (by first | omega | (simp; done) | (simp; omega)) _)⟩
                · subst h
                  obtain rfl := HXS.out.2.2.1 rfl
                  clear HXS
                  go_region
                  all_goals
                    go_wp2_with fail
                    go_meet
                    case rel => exact ⟨rfl, rfl, by repeat (first | with_reducible exact Below.refl _ _ | with_reducible refine Below.drew ?_ | with_reducible refine Below.alloc ?_ (by first | omega | (simp; done) | (simp; omega)) _)⟩
                · subst h
                  obtain rfl := HXS.out.2.2.2 rfl
                  clear HXS
                  go_region
                  all_goals
                    go_wp2_with fail
                    go_meet
                    case rel => exact ⟨rfl, rfl, by repeat (first | with_reducible exact Below.refl _ _ | with_reducible refine Below.drew ?_ | with_reducible refine Below.alloc ?_ (by first | omega | (simp; done) | (simp; omega)) _)⟩
              case rest =>
                obtain ⟨rfl, rfl, hbx⟩ := hcut
                have hK := HK3.out.below hbx
                have hbw := HB3.out.trans (hbx.mono HB3.out.size)
                have hsz4 := hbw.size
                clear HK3 HB3 hbx a0 a1 a2 a3 b0 HXS
                by_cases hX0 : X = 0
                · have HT : Hid _ := wts_zero pre (HX.out.trans hX0)
                  have HK4 : Hid (Bys _ _ _ _) := hK
                  clear hK HX
                  go_wp2
                  go_roundw
                  case rel => exact ⟨k + 1, by omega, by go_num, by rw [HT.out]; exact HK4.out, hbw⟩
                  case measure => simp [intOf]; omega
                · have hX0' : (X == 0) = false := by simpa using hX0
                  have hT := wts_some (lv := l + 1) (xs := xs) (fs := fs) (k := k) pre (by rw [HX.out]; exact hX0)
                  rw [HX.out] at hT
                  have HT : Hid _ := hT
                  obtain ⟨hX1, hX2⟩ := hXr
                  obtain ⟨cur, HCUR⟩ : ∃ cur, Hid (pre ++ bysOf (wtsK (l + 1) xs fs k) = cur) := ⟨_, rfl⟩
                  rw [HCUR.out] at hK HT hbl
                  unfold Bys at hK
                  clear HX hT
                  go_wp2_with (at_builtin; refine wpList_append_own _ rfl _ _ 22 rfl W.heap.size 5 i0 (.int .u8 0) 1 1 Tryz.underlying22 hi0 hz0 hs0 hy0 rfl (by decide) _ _ _ rfl (hK.alloc _) ⟨wc.heap.size, 0, none⟩ 2 2 [.int .u8 (X / 256), .int .u8 (X % 256)] rfl rfl (cells2_at _ _ _ _ _ (by simp)) (fun u hu => by simp at hu; rcases hu with rfl | rfl <;> rfl) (by unfold maxLen; omega) (by omega) (by simp; omega) ?_)
                  intro v6 w6 ho6 hg6 _
                  have hI6 : Bys w6 W.heap.size v6 (cur ++ [X / 256, X % 256]) := Bys.app2 ho6
                  have hb6 : Below W.heap.size W w6 := Below.grown (hbw.alloc hbw.size _) hg6 (hbw.alloc hbw.size _).size (fun j hj => (World.ownsRow.lt hK j hj).1)
                  have HI6 : Hid (Bys _ _ _ _) := hI6
                  clear ho6 hg6 hK hI6 hbw
                  go_wp2
                  go_roundw
                  case rel => exact ⟨k + 1, by omega, by go_num, by rw [HT.out]; exact HI6.out, hb6⟩
                  case measure => simp [intOf]; omega
            · have hkl2 : k = xs.length := by omega
              subst hkl2
              have HK6 : Hid (Bys wr W.heap.size u7 (keyN xs fs (l + 1))) := by show Bys _ _ _ _; rw [HPR.out]; exact hK
              clear hK
              go_wp2
              go_roundw
              case rel => exact ⟨l + 1, by omega, by go_num, HK6.out, hbw⟩
              case measure => simp [intOf]; omega
      · have hln : l = n := by omega
        subst hln
        have CV := conv_bys hK
        clear hK
        go_wp2
        go_ret
        exact ⟨rfl, HBW.out.trans (hbw.mono HBW.out.size)⟩
end Go.Proofs.YtanfebccenfffaaGreatDoor

namespace Go.Proofs.YtanfebccenfffaaGreatDoor
open Go.RowKit

set_option maxRecDepth 100000 in
set_option maxHeartbeats 4000000 in
theorem specKey_any {w : World} {B : Nat} {ve : Value} {es : List Ent} {sh : Bool} {lv : Int} (x : ByteArray) (hx : x.size ≤ 1048576) (hE : Ents w B ve es) (hr : ∀ e ∈ es, e.runes.length ≤ 1048576) :
    Calls Tryz.prog 24 #[.agg #[ve, .bool sh, .int .i64 lv], .string x] w fun e w' => e = .returned (.tuple #[.string (keyT es sh lv x), .bool (okE es lv x)]) ∧ Below w.heap.size w w' := by
  obtain ⟨va, vc, rfl⟩ := ents_slice hE
  have hbx : Below w.heap.size w (w.alloc (.cells #[.slice va es.length vc, .bool sh, .int .i64 lv] 25)) := (Below.refl _ _).alloc (Nat.le_refl _) _
  have hbox : BoxS (w.alloc (.cells #[.slice va es.length vc, .bool sh, .int .i64 lv] 25)) w.heap.size (.slice va es.length vc) sh lv := heap_alloc_new w _
  have hlb : w.heap.size < (w.alloc (.cells #[.slice va es.length vc, .bool sh, .int .i64 lv] 25)).heap.size := by simp
  have AT := runes4_any x (w.alloc (.cells #[.slice va es.length vc, .bool sh, .int .i64 lv] 25)) (by omega)
  have HE : Hid (Ents _ _ _ _) := hE.below hbx
  have GR := fun (u : World) (hu : Below (w.alloc (.cells #[.slice va es.length vc, .bool sh, .int .i64 lv] 25)).heap.size (w.alloc (.cells #[.slice va es.length vc, .bool sh, .int .i64 lv] 25)) u) => good3_any (sh := sh) (lv := lv) (HE.out.below hu) hr
  have hrg := rn4_rng x
  unfold keyT okE
  clear hE
  cases hok : ok4 x
  · rw [hok] at AT
    rw [Bool.false_and, if_neg (by simp)]
    clear hok GR
    go_enter Tryz.func24, Tryz.ntmps24
    go_wp2_with fail
    refine AT.mono ?_
    rintro e w1 ⟨v1, rfl, i1, b1⟩
    clear AT i1
    go_wp2
    go_ret2
    exact ⟨rfl, hbx.trans (b1.mono hbx.size)⟩
  · obtain ⟨hs, hl⟩ := ok4_parts hok
    rw [hok] at AT
    rw [Bool.true_and]
    clear hok
    generalize rn4 x = rs at *
    cases hro : rulesOk es lv
    · rw [hro] at GR
      rw [if_neg (by simp)]
      clear hro
      go_enter Tryz.func24, Tryz.ntmps24
      go_wp2_with fail
      refine AT.mono ?_
      rintro e w1 ⟨v1, rfl, i1, b1⟩
      have G1 := GR _ b1
      obtain ⟨c0, c1, c2⟩ := (hbox.below b1 hlb).cells
      have hsz1 := b1.size
      clear AT GR hbox i1
      go_wp2_with fail
      refine G1.mono ?_
      rintro e w2 ⟨rfl, b2⟩
      clear G1
      have b3 := hbx.trans ((b1.trans (b2.mono b1.size)).mono hbx.size)
      go_wp2
      go_ret2
      exact ⟨rfl, b3⟩
    · rw [hro] at GR
      rw [if_pos rfl]
      have hne : es.length ≤ 1048576 := by have := (rulesOk_parts hro).1; omega
      obtain ⟨_, hl1, hl4⟩ := rulesOk_parts hro
      have herg := elems4_rng hro hrg
      obtain ⟨n, rfl⟩ : ∃ n : Nat, lv = (n : Int) := ⟨lv.toNat, by omega⟩
      clear hro
      go_enter Tryz.func24, Tryz.ntmps24
      go_wp2_with fail
      refine AT.mono ?_
      rintro e w1 ⟨v1, rfl, i1, b1⟩
      have G1 := GR _ b1
      have hbox1 := hbox.below b1 hlb
      obtain ⟨c0, c1, c2⟩ := hbox1.cells
      have hsz1 := b1.size
      have I1 := i1 hs
      clear AT GR hbox i1
      go_wp2_with fail
      refine G1.mono ?_
      rintro e w2 ⟨rfl, b2⟩
      clear G1 c0 c1 c2
      have b12 := b1.trans (b2.mono b1.size)
      have b3 := hbx.trans (b12.mono hbx.size)
      have E2 := key4_any (sh := sh) (n := n) (HE.out.below b12) hne hr (I1.below b2) (by omega) hrg (by omega) (by omega) herg
      obtain ⟨c0, c1, c2⟩ := (hbox1.below b2 (by omega)).cells
      clear I1 hbox1
      go_wp2_with fail
      refine E2.mono ?_
      rintro e w3 ⟨rfl, b4⟩
      clear E2 c0 c1 c2
      go_wp2
      go_ret2
      exact ⟨rfl, b3.trans (b4.mono b3.size)⟩
end Go.Proofs.YtanfebccenfffaaGreatDoor

namespace Go.Proofs.YtanfebccenfffaaGreatDoor
open Go.RowKit

set_option maxRecDepth 100000 in
set_option maxHeartbeats 4000000 in
theorem specCmp_any {w : World} {B : Nat} {ve : Value} {es : List Ent} {sh : Bool} {lv : Int} (x : ByteArray) (hx : x.size ≤ 1048576) (y : ByteArray) (hy : y.size ≤ 1048576) (hE : Ents w B ve es) (hr : ∀ e ∈ es, e.runes.length ≤ 1048576) :
    Calls Tryz.prog 7 #[.agg #[ve, .bool sh, .int .i64 lv], .string x, .string y] w fun e w' => e = .returned (.tuple #[.int .i64 (cmpT es sh lv x y), .bool (okE es lv x && okE es lv y)]) ∧ Below w.heap.size w w' := by
  obtain ⟨va, vc, rfl⟩ := ents_slice hE
  have hbx : Below w.heap.size w (w.alloc (.cells #[.slice va es.length vc, .bool sh, .int .i64 lv] 25)) := (Below.refl _ _).alloc (Nat.le_refl _) _
  have hbox : BoxS (w.alloc (.cells #[.slice va es.length vc, .bool sh, .int .i64 lv] 25)) w.heap.size (.slice va es.length vc) sh lv := heap_alloc_new w _
  have hlb : w.heap.size < (w.alloc (.cells #[.slice va es.length vc, .bool sh, .int .i64 lv] 25)).heap.size := by simp
  have KX := specKey_any (sh := sh) (lv := lv) x hx (hE.below hbx) hr
  have KY := fun (u : World) (hu : Below w.heap.size w u) => specKey_any (sh := sh) (lv := lv) y hy (hE.below hu) hr
  have HBX : Hid (Below _ _ _) := hbx
  have HBO : Hid (BoxS _ _ _ _ _) := hbox
  unfold cmpT
  generalize keyT es sh lv x = ka at *
  generalize keyT es sh lv y = kb at *
  generalize okE es lv x = oa at *
  generalize okE es lv y = ob at *
  clear hE hr hbx hbox
  cases oa
  · rw [Bool.false_and, if_neg (by simp)]
    go_enter Tryz.func7, Tryz.ntmps7
    go_wp2_with fail
    refine KX.mono ?_
    rintro e w1 ⟨rfl, b1⟩
    have hb1 := HBX.out.trans (b1.mono HBX.out.size)
    have K2 := KY _ hb1
    obtain ⟨c0, c1, c2⟩ := (HBO.out.below b1 hlb).cells
    clear KX KY b1
    go_wp2_with fail
    refine K2.mono ?_
    rintro e w2 ⟨rfl, b2⟩
    have hb2 := hb1.trans (b2.mono hb1.size)
    clear K2 c0 c1 c2 b2 hb1
    go_wp2
    go_ret2
    exact ⟨rfl, hb2⟩
  · cases ob
    · rw [Bool.and_false, if_neg (by simp)]
      go_enter Tryz.func7, Tryz.ntmps7
      go_wp2_with fail
      refine KX.mono ?_
      rintro e w1 ⟨rfl, b1⟩
      have hb1 := HBX.out.trans (b1.mono HBX.out.size)
      have K2 := KY _ hb1
      obtain ⟨c0, c1, c2⟩ := (HBO.out.below b1 hlb).cells
      clear KX KY b1
      go_wp2_with fail
      refine K2.mono ?_
      rintro e w2 ⟨rfl, b2⟩
      have hb2 := hb1.trans (b2.mono hb1.size)
      clear K2 c0 c1 c2 b2 hb1
      go_wp2
      go_ret2
      exact ⟨rfl, hb2⟩
    · rw [Bool.and_true, if_pos rfl]
      go_enter Tryz.func7, Tryz.ntmps7
      go_wp2_with fail
      refine KX.mono ?_
      rintro e w1 ⟨rfl, b1⟩
      have hb1 := HBX.out.trans (b1.mono HBX.out.size)
      have K2 := KY _ hb1
      obtain ⟨c0, c1, c2⟩ := (HBO.out.below b1 hlb).cells
      clear KX KY b1
      go_wp2_with fail
      refine K2.mono ?_
      rintro e w2 ⟨rfl, b2⟩
      have hb2 := hb1.trans (b2.mono hb1.size)
      clear K2 c0 c1 c2 b2 hb1
      cases hlt : Op.bytesLess ka.toList kb.toList
      · cases heq : (ka.toList == kb.toList)
        · have HV : Hid (cmpS ka kb = 1) := by show _ = _; simp [cmpS, ltS, gtS, eqS, hlt, heq]
          go_wp2
          go_ret2
          rw [HV.out]
          exact ⟨rfl, hb2⟩
        · have HV : Hid (cmpS ka kb = 0) := by show _ = _; simp [cmpS, ltS, gtS, eqS, hlt, heq]
          go_wp2
          go_ret2
          rw [HV.out]
          exact ⟨rfl, hb2⟩
      · have HV : Hid (cmpS ka kb = -1) := by show _ = _; simp [cmpS, ltS, hlt]
        go_wp2
        go_ret2
        rw [HV.out]
        exact ⟨rfl, hb2⟩
end Go.Proofs.YtanfebccenfffaaGreatDoor

namespace Go.Proofs.YtanfebccenfffaaGreatDoor
open Go.RowKit

theorem firsT_of {es : List Ent} {sh : Bool} {lv : Int} {x : ByteArray} : firsT es sh lv x = wts 1 (counted sh (elsA es lv x)) (fourths sh (elsA es lv x)) := by
  unfold firsT elsA
  split
  · rfl
  · rfl

set_option maxRecDepth 100000 in
set_option maxHeartbeats 4000000 in
theorem implFirsts_any {w : World} {B : Nat} {ve : Value} {es : List Ent} {sh : Bool} {lv : Int} (x : ByteArray) (hx : x.size ≤ 1048576) (hE : Ents w B ve es) (hr : ∀ e ∈ es, e.runes.length ≤ 1048576) (ht : Tabs3 w) :
    Calls Tryz.prog 25 #[.agg #[ve, .bool sh, .int .i64 lv], .string x] w fun e w' => ∃ v, e = .returned (.tuple #[v, .bool (okE es lv x)]) ∧ Ints w' w.heap.size v (firsT es sh lv x) ∧ Below w.heap.size w w' := by
  obtain ⟨va, vc, rfl⟩ : ∃ a c, ve = .slice a es.length c := by
    rcases hE.form with ⟨rfl, rfl⟩ | ⟨_, _, rfl, _, _, _, _⟩
    · exact ⟨_, _, rfl⟩
    · exact ⟨_, _, rfl⟩
  have hbx : Below w.heap.size w (w.alloc (.cells #[.slice va es.length vc, .bool sh, .int .i64 lv] 25)) := (Below.refl _ _).alloc (Nat.le_refl _) _
  have C := count_any (sh := sh) (lv := lv) x hx (hE.below hbx) hr (ht.below hbx)
  have hlen := elsA_len es lv x
  rw [firsT_of]
  have hcl := counted_len sh (elsA es lv x)
  have hfl := fourths_len sh (elsA es lv x)
  have HBX : Hid (Below _ _ _) := hbx
  have hfc : (fourths sh (elsA es lv x)).length = (counted sh (elsA es lv x)).length := by omega
  have hcn : (counted sh (elsA es lv x)).length ≤ 1048576 := by omega
  have HFC : Hid (_ = _) := hfc
  clear hE ht hr hx hlen hcl hfl hfc hbx
  cases hok : okE es lv x
  · rw [hok] at C
    have he0 : elsA es lv x = [] := by unfold elsA; rw [hok]; rfl
    rw [he0, counted_nil, fourths_nil] at C
    rw [he0, counted_nil, fourths_nil]
    clear hok he0 HFC hcn
    go_enter Tryz.func25, Tryz.ntmps25
    go_wp2_with fail
    refine C.mono ?_
    rintro e w1 ⟨v1, v2, rfl, e1, i1, b1⟩
    obtain ⟨a1, k1, rfl⟩ := els_form e1
    obtain ⟨a2, k2, rfl⟩ := ints_form i1
    have HB1 : Hid (Below _ _ _) := HBX.out.trans (b1.mono HBX.out.size)
    clear C i1 e1 b1
    go_wp2
    go_ret2
    exact ⟨_, rfl, ⟨rfl, .inl ⟨rfl, rfl⟩⟩, HB1.out.alloc HB1.out.size _⟩
  · rw [hok] at C
    clear hok
    generalize counted sh (elsA es lv x) = xs at *
    generalize fourths sh (elsA es lv x) = fs at *
    go_enter Tryz.func25, Tryz.ntmps25
    go_wp2_with fail
    refine C.mono ?_
    rintro e w1 ⟨v1, v2, rfl, e1, i1, b1⟩
    obtain ⟨a1, k1, rfl⟩ := els_form e1
    obtain ⟨a2, k2, rfl⟩ := ints_form i1
    have HB1 : Hid (Below _ _ _) := HBX.out.trans (b1.mono HBX.out.size)
    have hb2 : Below w1.heap.size w1 (w1.alloc (.cells #[.slice a1 xs.length k1, .slice a2 fs.length k2] 63)) := (Below.refl _ _).alloc (Nat.le_refl _) _
    have WT := weights1_any (e1.below hb2) (i1.below hb2) HFC.out hcn
    have HB2 : Hid (Below _ _ _) := HB1.out.trans (hb2.mono HB1.out.size)
    clear C i1 e1 b1 hb2
    go_wp2_with fail
    refine WT.mono ?_
    rintro e w3 ⟨v3, rfl, i3, b3⟩
    have HI3 : Hid (Ints _ _ _ _) := i3
    clear WT i3
    go_wp2
    go_ret2
    exact ⟨_, rfl, low_ints HI3.out HB2.out.size, HB2.out.trans (b3.mono HB2.out.size)⟩
end Go.Proofs.YtanfebccenfffaaGreatDoor
