/- Texts of mine laid together: SKey0, SKey, SKeyOf, SSortT, SGrp. -/
import Derived.Test.YtanfebccenfffahGreatDoorMP7
import Derived.Test.YtanfebccenfffahGreatDoorMP1
import Derived.Deep.RegionHeld
import Derived.Test.YtanfebccenfffahGreatDoorMP5
import Derived.Deep.Cut
import Derived.Deep.CutRange
import Derived.BigRegion
import Derived.Test.YtanfebccenfffahGreatDoorStrs
import Derived.Deep.AppendLies
namespace Go.Proofs.YtanfebccenfffahGreatDoor
open Go.RowKit

theorem ents_slice {w : World} {B : Nat} {v : Value} {es : List Ent} (h : Ents w B v es) : ∃ a c, v = .slice a es.length c := by
  rcases h.form with ⟨rfl, rfl⟩ | ⟨_, _, rfl, _, _, _, _⟩
  · exact ⟨_, _, rfl⟩
  · exact ⟨_, _, rfl⟩

/-- The rules' block, of a call's own. -/
def BoxS (u : World) (b : Nat) (v : Value) (sh : Bool) (lv : Int) : Prop := u.heap[b]? = some (.cells #[v, .bool sh, .int .i64 lv] 33)
theorem BoxS.below {B b : Nat} {u u' : World} {v : Value} {sh : Bool} {lv : Int} (h : BoxS u b v sh lv) (hb : Below B u u') (hlt : b < B) : BoxS u' b v sh lv := (hb.block b hlt).trans h
theorem BoxS.cells {b : Nat} {u : World} {v : Value} {sh : Bool} {lv : Int} (h : BoxS u b v sh lv) : u.cell? ⟨b, 0, none⟩ = some v ∧ u.cell? ⟨b, 1, none⟩ = some (.bool sh) ∧ u.cell? ⟨b, 2, none⟩ = some (.int .i64 lv) :=
  ⟨cell_of_row _ _ 0 _ _ _ h, cell_of_row _ _ 1 _ _ _ h, cell_of_row _ _ 2 _ _ _ h⟩

/-- The rules' block and what has grown. -/
def BoxW (w0 : World) (b : Nat) (v : Value) (sh : Bool) (lv : Int) (u : World) : Prop := u.cell? ⟨b, 0, none⟩ = some v ∧ u.cell? ⟨b, 1, none⟩ = some (.bool sh) ∧ u.cell? ⟨b, 2, none⟩ = some (.int .i64 lv) ∧ b < w0.heap.size ∧ Below w0.heap.size w0 u

theorem BoxW.keep {w0 u u' : World} {b : Nat} {v : Value} {sh : Bool} {lv : Int} (hb : Below u.heap.size u u')
    (h : u.cell? ⟨b, 0, none⟩ = some v ∧ u.cell? ⟨b, 1, none⟩ = some (.bool sh) ∧ u.cell? ⟨b, 2, none⟩ = some (.int .i64 lv) ∧ b < w0.heap.size ∧ Below w0.heap.size w0 u) :
    u'.cell? ⟨b, 0, none⟩ = some v ∧ u'.cell? ⟨b, 1, none⟩ = some (.bool sh) ∧ u'.cell? ⟨b, 2, none⟩ = some (.int .i64 lv) ∧ b < w0.heap.size ∧ Below w0.heap.size w0 u' := by
  obtain ⟨h0, h1, h2, h3, h4⟩ := h
  have hlt : b < u.heap.size := Nat.lt_of_lt_of_le h3 h4.size
  exact ⟨(hb.cell hlt).trans h0, (hb.cell hlt).trans h1, (hb.cell hlt).trans h2, h3, h4.trans (hb.mono h4.size)⟩

theorem els_sliceS {w : World} {B : Nat} {v : Value} {es : List El} (h : Elems w B v es) :
    ∃ a c, v = .slice a es.length c ∧ ∀ k e, es[k]? = some e → ∃ g, a = some ⟨g, 0, none⟩ ∧ g < w.heap.size ∧ w.cell? ⟨g, k * 4, none⟩ = some (.int .i64 e.first) ∧ w.cell? ⟨g, k * 4 + 1, none⟩ = some (.int .i64 e.second) ∧ w.cell? ⟨g, k * 4 + 2, none⟩ = some (.int .i64 e.third) ∧ w.cell? ⟨g, k * 4 + 3, none⟩ = some (.bool e.varies) := by
  rcases h.form with ⟨rfl, rfl⟩ | ⟨g, cap, rfl, _, _⟩
  · exact ⟨_, _, rfl, fun k e he => by simp at he⟩
  · exact ⟨_, _, rfl, fun k e he => ⟨g, rfl, (World.ownsRow.lt h g rfl).2, h.cells k e he⟩⟩

theorem ints_sliceS {w : World} {B : Nat} {v : Value} {l : List Int} (h : Ints w B v l) :
    ∃ a c, v = .slice a l.length c ∧ ∀ k, k < l.length → ∃ g, a = some ⟨g, 0, none⟩ ∧ g < w.heap.size ∧ w.cell? ⟨g, k, none⟩ = some (.int .i64 (at0 l k)) := by
  rcases h.form with ⟨rfl, rfl⟩ | ⟨g, cap, rfl, _, _⟩
  · exact ⟨_, _, rfl, fun k hk => by simp at hk⟩
  · exact ⟨_, _, rfl, fun k hk => ⟨g, rfl, (World.ownsRow.lt h g rfl).2, h.cell k hk⟩⟩

theorem elAt_at {xs : List El} {k : Nat} {e : El} (h : xs[k]? = some e) : elAt xs k = e := by unfold elAt; rw [h]; rfl

end Go.Proofs.YtanfebccenfffahGreatDoor

namespace Go.Proofs.YtanfebccenfffahGreatDoor
open Go.RowKit

def SoRel (W : World) (xs : List El) (fs : List Int) (n : Nat) (v8 v9 : Value) (wr : World) : Prop :=
  ∃ l : Nat, l ≤ n ∧ v9 = .int .i64 ((l : Int) + 1) ∧ Bys wr W.heap.size v8 (keyN xs fs l) ∧ Below W.heap.size W wr

def SiRel (W : World) (pre : List Int) (lv : Nat) (xs : List El) (fs : List Int) (v8 i : Value) (wr : World) : Prop :=
  ∃ k : Nat, k ≤ xs.length ∧ i = .int .i64 k ∧ Bys wr W.heap.size v8 (pre ++ bysOf (wtsK lv xs fs k)) ∧ Below W.heap.size W wr

theorem wts_zero {lv : Nat} {xs : List El} {fs : List Int} {k : Nat} (pre : List Int) (h : wtL lv (elAt xs k) (at0 fs k) = 0) : pre ++ bysOf (wtsK lv xs fs (k + 1)) = pre ++ bysOf (wtsK lv xs fs k) := by
  rw [wtsK, ifNot_zero h, List.append_nil]
theorem wts_some {lv : Nat} {xs : List El} {fs : List Int} {k : Nat} (pre : List Int) (h : wtL lv (elAt xs k) (at0 fs k) ≠ 0) : pre ++ bysOf (wtsK lv xs fs (k + 1)) = (pre ++ bysOf (wtsK lv xs fs k)) ++ [wtL lv (elAt xs k) (at0 fs k) / 256, wtL lv (elAt xs k) (at0 fs k) % 256] := by
  rw [wtsK, ifNot_some h, bysOf_app, bysOf_one, List.append_assoc]

set_option maxRecDepth 100000 in
set_option maxHeartbeats 4000000 in
theorem key4_any {w : World} {B B' : Nat} {v vl : Value} {es : List Ent} {sh : Bool} {n : Nat} {l : List Int} (hE : Ents w B v es) (hn : es.length ≤ 1048576) (hr : ∀ e ∈ es, e.runes.length ≤ 1048576)
    (hL : Ints w B' vl l) (hl : l.length ≤ 200) (hg : ∀ x ∈ l, 0 ≤ x ∧ x ≤ 1114111) (h1 : 1 ≤ n) (h4 : n ≤ 4) (hrg : ∀ e ∈ elems4 es l, rngE e) :
    Calls Tryz.prog 30 #[.agg #[v, .bool sh, .int .i64 n], vl] w fun e w' => e = .returned (.string (bytesOf (keyB es sh n l))) ∧ Below w.heap.size w w' := by
  obtain ⟨va, vc, rfl⟩ := ents_slice hE
  obtain ⟨al, cl, rfl⟩ := lenS_form hL
  obtain ⟨i0, hi0, hz0, hs0, hy0⟩ := info_parts info_u8
  have hbx : Below w.heap.size w (w.alloc (.cells #[.slice va es.length vc, .bool sh, .int .i64 n] 33)) := (Below.refl _ _).alloc (Nat.le_refl _) _
  have hbox : BoxS (w.alloc (.cells #[.slice va es.length vc, .bool sh, .int .i64 n] 33)) w.heap.size (.slice va es.length vc) sh n := heap_alloc_new w _
  have hlb : w.heap.size < (w.alloc (.cells #[.slice va es.length vc, .bool sh, .int .i64 n] 33)).heap.size := by simp
  have EL := fun (u : World) (hu : Below (w.alloc (.cells #[.slice va es.length vc, .bool sh, .int .i64 n] 33)).heap.size (w.alloc (.cells #[.slice va es.length vc, .bool sh, .int .i64 n] 33)) u) => elems4S_any (sh := sh) (lv := (n : Int)) ((hE.below hbx).below hu) hn hr ((hL.below hbx).below hu) (by omega) hg
  have hlen := elems4_len es l
  unfold keyB
  rw [Int.toNat_natCast]
  have hwr := fun lv => wtsK_rng (lv := lv) (fourS_rng (sh := sh) hrg (elems4 es l).length).2 (fourS_rng (sh := sh) hrg (elems4 es l).length).1
  generalize elems4 es l = el at *
  have hel : el.length ≤ 400 := by omega
  have FO := fun (u : World) (B : Nat) (v : Value) (h : Elems u B v el) => fourth_any sh (by omega) h
  have hcl := counted_len sh el
  have hfl := fourths_len sh el
  have hwr2 : ∀ lv k, ∀ m ∈ wtsK lv (counted sh el) (fourths sh el) k, 1 ≤ m ∧ m ≤ 65535 := fun lv k => hwr lv k
  have her : ∀ e ∈ counted sh el, rngE e := (fourS_rng (sh := sh) hrg el.length).2
  have hfr : ∀ f ∈ fourths sh el, 0 ≤ f ∧ f ≤ 65535 := (fourS_rng (sh := sh) hrg el.length).1
  generalize counted sh el = xs at *
  generalize fourths sh el = fs at *
  have hxl : xs.length ≤ 400 := by omega
  have HFL : Hid (fs.length = xs.length) := by show _ = _; omega
  have HWR : Hid (∀ lv k, ∀ m ∈ wtsK lv xs fs k, 1 ≤ m ∧ m ≤ 65535) := hwr2
  have HER : Hid (∀ e ∈ xs, rngE e) := her
  have HFR : Hid (∀ f ∈ fs, 0 ≤ f ∧ f ≤ 65535) := hfr
  clear hE hL hr hg hwr hwr2 hlen hcl hfl hrg her hfr
  obtain ⟨W0, HW0⟩ : ∃ W0, Hid (W0 = w.alloc (.cells #[.slice va es.length vc, .bool sh, .int .i64 n] 33)) := ⟨_, rfl⟩
  rw [← HW0.out] at hbx hbox hlb EL
  obtain ⟨c0, c1, c2⟩ := hbox.cells
  have hS : W0.cell? ⟨w.heap.size, 0, none⟩ = some (.slice va es.length vc) ∧ W0.cell? ⟨w.heap.size, 1, none⟩ = some (.bool sh) ∧ W0.cell? ⟨w.heap.size, 2, none⟩ = some (.int .i64 n) ∧ w.heap.size < W0.heap.size ∧ Below W0.heap.size W0 W0 := ⟨c0, c1, c2, hlb, Below.refl _ _⟩
  have hS2 := BoxW.keep ((Below.refl W0.heap.size W0).drew) hS
  have EL2 := fun (u : World) (hu : u.cell? ⟨w.heap.size, 0, none⟩ = some (.slice va es.length vc) ∧ u.cell? ⟨w.heap.size, 1, none⟩ = some (.bool sh) ∧ u.cell? ⟨w.heap.size, 2, none⟩ = some (.int .i64 n) ∧ w.heap.size < W0.heap.size ∧ Below W0.heap.size W0 u) => EL u hu.2.2.2.2
  clear EL hbox
  go_enter Tryz.func30, Tryz.ntmps30
  go_wp2_with fail
  rw [← HW0.out]
  clear HW0
  go_region_held (fun u => u.cell? ⟨w.heap.size, 0, none⟩ = some (.slice va es.length vc) ∧ u.cell? ⟨w.heap.size, 1, none⟩ = some (.bool sh) ∧ u.cell? ⟨w.heap.size, 2, none⟩ = some (.int .i64 n) ∧ w.heap.size < W0.heap.size ∧ Below W0.heap.size W0 u)
    (first | exact hS2 | exact BoxW.keep (by assumption) (by assumption))
    (first | (go_at_call 47; refine (EL2 _ (by assumption)).mono ?_; rintro e w' ⟨vE, rfl, hEl, hbw⟩; obtain ⟨aE, cE, rfl⟩ := (show ∃ a c, vE = .slice a el.length c by obtain ⟨h, _⟩ | ⟨g, cap, h, _⟩ := hEl.form <;> (first | exact ⟨_, _, h⟩ | (rename_i h2; subst h2; exact ⟨_, _, h⟩)))) | (go_at_call 46; refine (FO _ _ _ (by assumption)).mono ?_; rintro e w' ⟨v5, v6, rfl, hI5, hE6, hbw⟩))
  all_goals
    obtain ⟨_, _, d2, _, hbW⟩ := (show w'.cell? ⟨w.heap.size, 0, none⟩ = _ ∧ _ ∧ _ ∧ _ ∧ Below W0.heap.size W0 w' by assumption)
    have hwW : w.heap.size < w'.heap.size := Nat.lt_of_lt_of_le hlb hbW.size
    have HBW : Hid (Below w.heap.size w w') := hbx.trans (hbW.mono hbx.size)
    obtain ⟨fa, fc, rfl, hcI⟩ := ints_sliceS hI5
    obtain ⟨xa, xc, rfl, hcE⟩ := els_sliceS hE6
    have HCI : Hid _ := hcI
    have HCE : Hid _ := hcE
    have hkl := fun l => keyN_len xs fs l
    have HKL : Hid (∀ l, l ≤ 4 → (keyN xs fs l).length ≤ 3208) := fun l hl => Nat.le_trans (hkl l) (Nat.le_trans (Nat.mul_le_mul hl (show 2 + 2 * xs.length ≤ 802 by omega)) (by omega))
    obtain ⟨W, HWW⟩ : ∃ W, Hid (W = w') := ⟨_, rfl⟩
    have hWW := HWW.out
    subst hWW
    clear hcI hcE hI5 hE6 hbW hS hS2 EL2 FO c0 c1 c2 hbx hlb hkl HWW
    try clear hEl
    try clear hbw
    go_wp2_with fail
    go_loopw [7, 8] (fun v7 v8 wr => SoRel W xs fs n v7 v8 wr) (fun _ v8 _ => n + 1 - (intOf v8).toNat)
    case atStart => exact ⟨0, by omega, rfl, World.ownsRow_nil _ _ _ _, Below.refl _ _⟩
    case round =>
      obtain ⟨l, hl, rfl, hK, hbw⟩ := hrel
      have e2 : wr.cell? ⟨w.heap.size, 2, none⟩ = some (.int .i64 n) := (hbw.cell (p := ⟨w.heap.size, 2, none⟩) hwW).trans d2
      have hkl := HKL.out l (by omega)
      have hsz := hbw.size
      by_cases hlt : l < n
      · have hlt8 : (l : Int) + 1 ≤ (n : Int) := by omega
        have HK : Hid (Bys _ _ _ _) := hK
        have HBV : Hid (Below _ _ _) := hbw
        clear hK hbw
        go_upto_if 28 with fail
        go_cut [7] from 21 to 64 (fun v7 wx => Bys wx W.heap.size v7 (keyN xs fs l ++ sepB (l + 1)) ∧ Below W.heap.size W wx)
        case first =>
          by_cases h0 : l = 0
          · subst h0
            go_wp2
            go_meet
            case rel => exact ⟨by simpa [sepB] using HK.out, HBV.out⟩
          · have h08 : (1 : Int) < (l : Int) + 1 := by omega
            have hs : sepB (l + 1) = [0, 0] := by unfold sepB; rw [if_pos (by omega)]
            have HS : Hid _ := hs
            have hK := HK.out
            unfold Bys at hK
            clear hs
            go_wp2_with (at_builtin; refine wpList_append_own _ rfl _ _ 76 rfl W.heap.size 5 i0 (.int .u8 0) 1 1 Tryz.underlying76 hi0 hz0 hs0 hy0 rfl (by decide) _ _ _ rfl (hK.alloc _) ⟨wr.heap.size, 0, none⟩ 2 2 [.int .u8 0, .int .u8 0] rfl rfl (cells2_at _ _ _ _ _ (by simp)) (fun u hu => by simp at hu; subst hu; rfl) (by unfold maxLen; omega) (by omega) (by simp; omega) ?_)
            intro v4 w4 ho4 hg4 _
            have hI4 : Bys w4 W.heap.size v4 (keyN xs fs l ++ [0, 0]) := Bys.app2 ho4
            have hb4 : Below W.heap.size W w4 := Below.grown (HBV.out.alloc HBV.out.size _) hg4 (HBV.out.alloc HBV.out.size _).size (fun j hj => (World.ownsRow.lt hK j hj).1)
            have HI4 : Hid (Bys _ _ _ _) := hI4
            clear ho4 hg4 hK hI4
            go_wp2
            go_meet
            case rel => exact ⟨by rw [HS.out]; exact HI4.out, hb4⟩
        case rest =>
          obtain ⟨hK, hbw⟩ := hcut
          clear HK HBV e2
          have hpl : (keyN xs fs l ++ sepB (l + 1)).length ≤ 3210 := by
            have : (sepB (l + 1)).length ≤ 2 := by unfold sepB; split <;> simp
            rw [List.length_append]; omega
          have HPR : Hid (keyN xs fs (l + 1) = (keyN xs fs l ++ sepB (l + 1)) ++ bysOf (wtsK (l + 1) xs fs xs.length)) := by show _ = _; rw [keyN, List.append_assoc]; rfl
          generalize keyN xs fs l ++ sepB (l + 1) = pre at *
          have HK2 : Hid (Bys _ _ _ _) := hK
          have HBW2 : Hid (Below _ _ _) := hbw
          clear hK hbw
          go_wp2_with fail
          go_loopw [7, 34] (fun v7 i wr => SiRel W pre (l + 1) xs fs v7 i wr) (fun _ i _ => xs.length - (intOf i).toNat)
          case atStart => exact ⟨0, Nat.zero_le _, rfl, by rw [wtsK, bysOf_nil, List.append_nil]; exact HK2.out, HBW2.out⟩
          case round =>
            clear HK2 HBW2
            obtain ⟨k, hk, rfl, hK, hbw⟩ := hrel
            have hwl := wtsK_len (l + 1) xs fs k
            by_cases hlk : k < xs.length
            · obtain ⟨e, he⟩ : ∃ e, xs[k]? = some e := ⟨_, List.getElem?_eq_getElem hlk⟩
              obtain ⟨ge, rfl, hgl, y0, y1, y2, y3⟩ := HCE.out k e he
              obtain ⟨gf, rfl, hfl, z0⟩ := HCI.out k (by have := HFL.out; omega)
              have hkf8 : (k : Int) < (fs.length : Int) := by have := HFL.out; omega
              have hk8 : (k : Int) < (xs.length : Int) := by omega
              have a0 : wr.cell? ⟨ge, k * 4, none⟩ = some (.int .i64 e.first) := (hbw.cell (p := ⟨ge, k * 4, none⟩) hgl).trans y0
              have a1 : wr.cell? ⟨ge, k * 4 + 1, none⟩ = some (.int .i64 e.second) := (hbw.cell (p := ⟨ge, k * 4 + 1, none⟩) hgl).trans y1
              have a2 : wr.cell? ⟨ge, k * 4 + 2, none⟩ = some (.int .i64 e.third) := (hbw.cell (p := ⟨ge, k * 4 + 2, none⟩) hgl).trans y2
              have a3 : wr.cell? ⟨ge, k * 4 + 3, none⟩ = some (.bool e.varies) := (hbw.cell (p := ⟨ge, k * 4 + 3, none⟩) hgl).trans y3
              have b0 : wr.cell? ⟨gf, k, none⟩ = some (.int .i64 (at0 fs k)) := (hbw.cell (p := ⟨gf, k, none⟩) hfl).trans z0
              have hgf : gf < wr.heap.size := Nat.lt_of_lt_of_le hfl hbw.size
              obtain ⟨X, HX⟩ : ∃ X, Hid (wtL (l + 1) (elAt xs k) (at0 fs k) = X) := ⟨_, rfl⟩
              have HXS : Hid ((l = 0 → X = e.first) ∧ (l = 1 → X = e.second) ∧ (l = 2 → X = e.third) ∧ (l = 3 → X = at0 fs k)) := by
                show _ ∧ _
                rw [← HX.out, elAt_at he]
                refine ⟨?_, ?_, ?_, ?_⟩ <;> (intro h; subst h; rfl)
              have hXr := wtL_rng (lv := l + 1) (elAt_rng HER.out k) (at0_rng HFR.out k)
              rw [HX.out] at hXr
              have hbl : (pre ++ bysOf (wtsK (l + 1) xs fs k)).length ≤ 4100 := by rw [List.length_append, bysOf_len]; omega
              have HK3 : Hid (Bys _ _ _ _) := hK
              have HB3 : Hid (Below _ _ _) := hbw
              have hsz3 := hbw.size
              clear hK hbw y0 y1 y2 y3 z0 he hgl hfl
              go_upto_region 11 with fail
              go_cut [11, 34] from 34 to 64 (fun v11 v34 wx => v11 = .int .i64 X ∧ v34 = .int .i64 k ∧ Below wr.heap.size wr wx)
              case first =>
                clear HK3 HB3 HX
                obtain h | h | h | h : l = 0 ∨ l = 1 ∨ l = 2 ∨ l = 3 := by omega
                · subst h
                  obtain rfl := HXS.out.1 rfl
                  clear HXS
                  go_region
                  all_goals
                    go_wp2_with fail
                    go_meet
                    case rel => exact ⟨rfl, rfl, by repeat (first | with_reducible exact Below.refl _ _ | with_reducible refine Below.drew ?_ | with_reducible refine Below.alloc ?_ (by first | omega | (simp; done) | (simp; omega)) _)⟩
                · subst h
                  obtain rfl := HXS.out.2.1 rfl
                  clear HXS
                  go_region
                  all_goals
                    go_wp2_with fail
                    go_meet
                    case rel => exact ⟨rfl, rfl, by repeat (first | with_reducible exact Below.refl _ _ | with_reducible refine Below.drew ?_ | with_reducible refine Below.alloc ?_ (by first | omega | (simp; done) | (simp; omega)) _)⟩
                · subst h
                  obtain rfl := HXS.out.2.2.1 rfl
                  clear HXS
                  go_region
                  all_goals
                    go_wp2_with fail
                    go_meet
                    case rel => exact ⟨rfl, rfl, by repeat (first | with_reducible exact Below.refl _ _ | with_reducible refine Below.drew ?_ | with_reducible refine Below.alloc ?_ (by first | omega | (simp; done) | (simp; omega)) _)⟩
                · subst h
                  obtain rfl := HXS.out.2.2.2 rfl
                  clear HXS
                  go_region
                  all_goals
                    go_wp2_with fail
                    go_meet
                    case rel => exact ⟨rfl, rfl, by repeat (first | with_reducible exact Below.refl _ _ | with_reducible refine Below.drew ?_ | with_reducible refine Below.alloc ?_ (by first | omega | (simp; done) | (simp; omega)) _)⟩
              case rest =>
                obtain ⟨rfl, rfl, hbx⟩ := hcut
                have hK := HK3.out.below hbx
                have hbw := HB3.out.trans (hbx.mono HB3.out.size)
                have hsz4 := hbw.size
                clear HK3 HB3 hbx a0 a1 a2 a3 b0 HXS
                by_cases hX0 : X = 0
                · have HT : Hid _ := wts_zero pre (HX.out.trans hX0)
                  have HK4 : Hid (Bys _ _ _ _) := hK
                  clear hK HX
                  go_wp2
                  go_roundw
                  case rel => exact ⟨k + 1, by omega, by go_num, by rw [HT.out]; exact HK4.out, hbw⟩
                  case measure => simp [intOf]; omega
                · have hX0' : (X == 0) = false := by simpa using hX0
                  have hT := wts_some (lv := l + 1) (xs := xs) (fs := fs) (k := k) pre (by rw [HX.out]; exact hX0)
                  rw [HX.out] at hT
                  have HT : Hid _ := hT
                  obtain ⟨hX1, hX2⟩ := hXr
                  obtain ⟨cur, HCUR⟩ : ∃ cur, Hid (pre ++ bysOf (wtsK (l + 1) xs fs k) = cur) := ⟨_, rfl⟩
                  rw [HCUR.out] at hK HT hbl
                  unfold Bys at hK
                  clear HX hT
                  go_wp2_with (at_builtin; refine wpList_append_own _ rfl _ _ 76 rfl W.heap.size 5 i0 (.int .u8 0) 1 1 Tryz.underlying76 hi0 hz0 hs0 hy0 rfl (by decide) _ _ _ rfl (hK.alloc _) ⟨wc.heap.size, 0, none⟩ 2 2 [.int .u8 (X / 256), .int .u8 (X % 256)] rfl rfl (cells2_at _ _ _ _ _ (by simp)) (fun u hu => by simp at hu; rcases hu with rfl | rfl <;> rfl) (by unfold maxLen; omega) (by omega) (by simp; omega) ?_)
                  intro v6 w6 ho6 hg6 _
                  have hI6 : Bys w6 W.heap.size v6 (cur ++ [X / 256, X % 256]) := Bys.app2 ho6
                  have hb6 : Below W.heap.size W w6 := Below.grown (hbw.alloc hbw.size _) hg6 (hbw.alloc hbw.size _).size (fun j hj => (World.ownsRow.lt hK j hj).1)
                  have HI6 : Hid (Bys _ _ _ _) := hI6
                  clear ho6 hg6 hK hI6 hbw
                  go_wp2
                  go_roundw
                  case rel => exact ⟨k + 1, by omega, by go_num, by rw [HT.out]; exact HI6.out, hb6⟩
                  case measure => simp [intOf]; omega
            · have hkl2 : k = xs.length := by omega
              subst hkl2
              have HK6 : Hid (Bys wr W.heap.size u7 (keyN xs fs (l + 1))) := by show Bys _ _ _ _; rw [HPR.out]; exact hK
              clear hK
              go_wp2
              go_roundw
              case rel => exact ⟨l + 1, by omega, by go_num, HK6.out, hbw⟩
              case measure => simp [intOf]; omega
      · have hln : l = n := by omega
        subst hln
        have CV := conv_bys hK
        clear hK
        go_wp2
        go_ret
        exact ⟨rfl, HBW.out.trans (hbw.mono HBW.out.size)⟩
end Go.Proofs.YtanfebccenfffahGreatDoor

namespace Go.Proofs.YtanfebccenfffahGreatDoor
open Go.RowKit

set_option maxRecDepth 100000 in
set_option maxHeartbeats 4000000 in
theorem specKey_any {w : World} {B : Nat} {ve : Value} {es : List Ent} {sh : Bool} {lv : Int} (x : ByteArray) (hx : x.size ≤ 1048576) (hE : Ents w B ve es) (hr : ∀ e ∈ es, e.runes.length ≤ 1048576) :
    Calls Tryz.prog 19 #[.agg #[ve, .bool sh, .int .i64 lv], .string x] w fun e w' => e = .returned (.tuple #[.string (keyT es sh lv x), .bool (okE es lv x)]) ∧ Below w.heap.size w w' := by
  obtain ⟨va, vc, rfl⟩ := ents_slice hE
  have hbx : Below w.heap.size w (w.alloc (.cells #[.slice va es.length vc, .bool sh, .int .i64 lv] 33)) := (Below.refl _ _).alloc (Nat.le_refl _) _
  have hbox : BoxS (w.alloc (.cells #[.slice va es.length vc, .bool sh, .int .i64 lv] 33)) w.heap.size (.slice va es.length vc) sh lv := heap_alloc_new w _
  have hlb : w.heap.size < (w.alloc (.cells #[.slice va es.length vc, .bool sh, .int .i64 lv] 33)).heap.size := by simp
  have AT := runes4_any x (w.alloc (.cells #[.slice va es.length vc, .bool sh, .int .i64 lv] 33)) (by omega)
  have HE : Hid (Ents _ _ _ _) := hE.below hbx
  have GR := fun (u : World) (hu : Below (w.alloc (.cells #[.slice va es.length vc, .bool sh, .int .i64 lv] 33)).heap.size (w.alloc (.cells #[.slice va es.length vc, .bool sh, .int .i64 lv] 33)) u) => good3_any (sh := sh) (lv := lv) (HE.out.below hu) hr
  have hrg := rn4_rng x
  unfold keyT okE
  clear hE
  cases hok : ok4 x
  · rw [hok] at AT
    rw [Bool.false_and, if_neg (by simp)]
    clear hok GR
    go_enter Tryz.func19, Tryz.ntmps19
    go_wp2_with fail
    refine AT.mono ?_
    rintro e w1 ⟨v1, rfl, i1, b1⟩
    clear AT i1
    go_wp2
    go_ret2
    exact ⟨rfl, hbx.trans (b1.mono hbx.size)⟩
  · obtain ⟨hs, hl⟩ := ok4_parts hok
    rw [hok] at AT
    rw [Bool.true_and]
    clear hok
    generalize rn4 x = rs at *
    cases hro : rulesOk es lv
    · rw [hro] at GR
      rw [if_neg (by simp)]
      clear hro
      go_enter Tryz.func19, Tryz.ntmps19
      go_wp2_with fail
      refine AT.mono ?_
      rintro e w1 ⟨v1, rfl, i1, b1⟩
      have G1 := GR _ b1
      obtain ⟨c0, c1, c2⟩ := (hbox.below b1 hlb).cells
      have hsz1 := b1.size
      clear AT GR hbox i1
      go_wp2_with fail
      refine G1.mono ?_
      rintro e w2 ⟨rfl, b2⟩
      clear G1
      have b3 := hbx.trans ((b1.trans (b2.mono b1.size)).mono hbx.size)
      go_wp2
      go_ret2
      exact ⟨rfl, b3⟩
    · rw [hro] at GR
      rw [if_pos rfl]
      have hne : es.length ≤ 1048576 := by have := (rulesOk_parts hro).1; omega
      obtain ⟨_, hl1, hl4⟩ := rulesOk_parts hro
      have herg := elems4_rng hro hrg
      obtain ⟨n, rfl⟩ : ∃ n : Nat, lv = (n : Int) := ⟨lv.toNat, by omega⟩
      clear hro
      go_enter Tryz.func19, Tryz.ntmps19
      go_wp2_with fail
      refine AT.mono ?_
      rintro e w1 ⟨v1, rfl, i1, b1⟩
      have G1 := GR _ b1
      have hbox1 := hbox.below b1 hlb
      obtain ⟨c0, c1, c2⟩ := hbox1.cells
      have hsz1 := b1.size
      have I1 := i1 hs
      clear AT GR hbox i1
      go_wp2_with fail
      refine G1.mono ?_
      rintro e w2 ⟨rfl, b2⟩
      clear G1 c0 c1 c2
      have b12 := b1.trans (b2.mono b1.size)
      have b3 := hbx.trans (b12.mono hbx.size)
      have E2 := key4_any (sh := sh) (n := n) (HE.out.below b12) hne hr (I1.below b2) (by omega) hrg (by omega) (by omega) herg
      obtain ⟨c0, c1, c2⟩ := (hbox1.below b2 (by omega)).cells
      clear I1 hbox1
      go_wp2_with fail
      refine E2.mono ?_
      rintro e w3 ⟨rfl, b4⟩
      clear E2 c0 c1 c2
      go_wp2
      go_ret2
      exact ⟨rfl, b3.trans (b4.mono b3.size)⟩
end Go.Proofs.YtanfebccenfffahGreatDoor

namespace Go.Proofs.YtanfebccenfffahGreatDoor
open Go.RowKit

/-- Two rows apart: the keys and the texts. -/
structure KO (w : World) (B : Nat) (v6 v7 : Value) (n : Nat) (l : List KT) : Prop where
  len : l.length = n
  keys : w.ownsRow B 9 1 v6 n ((l.map KT.key).map Value.string)
  texts : w.ownsRow B 9 1 v7 n ((l.map KT.text).map Value.string)
  apart : v6.ownBlock = none ∨ v6.ownBlock ≠ v7.ownBlock

theorem KO.below {w w' : World} {B n : Nat} {v6 v7 : Value} {l : List KT} (h : KO w B v6 v7 n l) (hb : Below w.heap.size w w') : KO w' B v6 v7 n l :=
  ⟨h.len, World.ownsRow.kept h.keys (row := none) ⟨hb.os, hb.tape, hb.output, hb.size, fun k hk _ => hb.block k hk⟩ (by cases h : v6.ownBlock <;> simp),
    World.ownsRow.kept h.texts (row := none) ⟨hb.os, hb.tape, hb.output, hb.size, fun k hk _ => hb.block k hk⟩ (by cases h : v7.ownBlock <;> simp), h.apart⟩

theorem kt_at {l : List KT} {k : Nat} (h : k < l.length) : l[k]? = some (ktAt l k) := by
  unfold ktAt
  rw [List.getElem?_eq_getElem h]; rfl

theorem KO.facts {w : World} {B n g6 c6 g7 c7 : Nat} {l : List KT} (h : KO w B (.slice (some ⟨g6, 0, none⟩) n c6) (.slice (some ⟨g7, 0, none⟩) n c7) n l) (j : Nat) (hj : j < n) :
    w.cell? ⟨g6, j, none⟩ = some (.string (ktAt l j).key) ∧ w.cell? ⟨g7, j, none⟩ = some (.string (ktAt l j).text) ∧ w.frozen? ⟨g6, j, none⟩ = false ∧ w.frozen? ⟨g7, j, none⟩ = false := by
  have hl := h.len
  have e := kt_at (l := l) (k := j) (by omega)
  have h6 := World.ownsRow.cellAt h.keys j (by omega)
  have h7 := World.ownsRow.cellAt h.texts j (by omega)
  rw [List.getElem?_map, List.getElem?_map, e] at h6 h7
  exact ⟨h6, h7, World.ownsRow.frozenAt h.keys j, World.ownsRow.frozenAt h.texts j⟩

theorem KO.ne {w : World} {B n g6 c6 g7 c7 : Nat} {l : List KT} (h : KO w B (.slice (some ⟨g6, 0, none⟩) n c6) (.slice (some ⟨g7, 0, none⟩) n c7) n l) : g6 ≠ g7 := by
  rcases h.apart with c | c
  · cases c
  · exact fun e => c (by rw [e]; rfl)

/-- A key laid anew, the text not yet. -/
theorem KO.half {w : World} {B n g6 c6 g7 c7 : Nat} {l : List KT} (h : KO w B (.slice (some ⟨g6, 0, none⟩) n c6) (.slice (some ⟨g7, 0, none⟩) n c7) n l) (i : Nat) (x : ByteArray) :
    ∀ j, j < n → (w.setCell ⟨g6, i, none⟩ (.string x)).cell? ⟨g7, j, none⟩ = some (.string (ktAt l j).text) ∧ (w.setCell ⟨g6, i, none⟩ (.string x)).frozen? ⟨g7, j, none⟩ = false := by
  intro j hj
  have s6 := World.ownsRow.stored h.keys i (.string x)
  have k7 := World.ownsRow.kept h.texts s6.2 (by
    rcases h.apart with c | c
    · cases c
    · exact .inr fun e => c e.symm)
  have hl := h.len
  have h7 := World.ownsRow.cellAt k7 j (by omega)
  rw [List.getElem?_map, List.getElem?_map, kt_at (l := l) (k := j) (by omega)] at h7
  exact ⟨h7, World.ownsRow.frozenAt k7 j⟩

theorem KO.put {w : World} {B n g6 c6 g7 c7 : Nat} {l : List KT} (h : KO w B (.slice (some ⟨g6, 0, none⟩) n c6) (.slice (some ⟨g7, 0, none⟩) n c7) n l) (i : Nat) (x : KT) :
    KO ((w.setCell ⟨g6, i, none⟩ (.string x.key)).setCell ⟨g7, i, none⟩ (.string x.text)) B (.slice (some ⟨g6, 0, none⟩) n c6) (.slice (some ⟨g7, 0, none⟩) n c7) n (l.set i x) := by
  have s6 := World.ownsRow.stored h.keys i (.string x.key)
  have k7 := World.ownsRow.kept h.texts s6.2 (by
    rcases h.apart with c | c
    · cases c
    · exact .inr fun e => c e.symm)
  have s7 := World.ownsRow.stored k7 i (.string x.text)
  have k6 := World.ownsRow.kept s6.1 s7.2 h.apart
  refine ⟨by simp [h.len], ?_, ?_, h.apart⟩
  · simpa [List.map_set] using k6
  · simpa [List.map_set] using s7.1

theorem KO.below_put {w u : World} {B g6 g7 i : Nat} {x y : Value} (h : Below B w u) (h6 : B ≤ g6) (h7 : B ≤ g7) : Below B w ((u.setCell ⟨g6, i, none⟩ x).setCell ⟨g7, i, none⟩ y) := (h.setCell h6 _).setCell h7 _

def SoR (W : World) (L : List KT) (n : Nat) (v6 v7 i : Value) (wr : World) : Prop :=
  ∃ k : Nat, k ≤ n ∧ i = .int .i64 k ∧ KO wr W.heap.size v6 v7 k (insK L k) ∧ Below W.heap.size W wr
def SiR (W : World) (x : KT) (goal : List KT) (n : Nat) (v6 v7 at_ : Value) (wr : World) : Prop :=
  ∃ (j : Nat) (arr : List KT), j < n ∧ at_ = .int .i64 j ∧ KO wr W.heap.size v6 v7 n arr ∧ bubK (arr.set j x) j = goal ∧ Below W.heap.size W wr

theorem Strs.sliceS {w : World} {B : Nat} {v : Value} {ss : List ByteArray} (h : Strs w B v ss) :
    ∃ a c, v = .slice a ss.length c ∧ ∀ k x, ss[k]? = some x → ∃ g, a = some ⟨g, 0, none⟩ ∧ g < w.heap.size ∧ w.cell? ⟨g, k, none⟩ = some (.string x) := by
  rcases h.form with ⟨rfl, rfl⟩ | ⟨g, cap, rfl, _, _⟩
  · exact ⟨_, _, rfl, fun k x hx => by simp at hx⟩
  · exact ⟨_, _, rfl, fun k x hx => ⟨g, rfl, (World.ownsRow.lt h g rfl).2, Strs.cell h k x hx⟩⟩

theorem cellT_at (w : World) (n : Nat) (x : ByteArray) (t : TypeId) (hn : n = w.heap.size) : ∀ j u, [Value.string x][j]? = some u → (w.alloc (.cells #[.string x] t)).cell? ((⟨n, 0, none⟩ : Addr).add j) = some u := by
  subst hn
  intro j u hj
  match j, hj with
  | 0, hj => simp at hj; subst hj; simp [Addr.add]

set_option maxRecDepth 100000 in
set_option maxHeartbeats 4000000 in
theorem specSort_any {w : World} {B B' : Nat} {ve vl : Value} {es : List Ent} {sh : Bool} {lv : Int} (ss : List ByteArray) (hE : Ents w B ve es) (hr : ∀ e ∈ es, e.runes.length ≤ 1048576) (hL : Strs w B' vl ss) (hsz : ∀ s ∈ ss, s.size ≤ 1048576) (hln : ss.length ≤ 1048576) :
    Calls Tryz.prog 18 #[.agg #[ve, .bool sh, .int .i64 lv], vl] w fun e w' => ∃ v', e = .returned (.tuple #[v', .bool (okS es lv ss)]) ∧ Strs w' w.heap.size v' (sortS es sh lv ss) ∧ Below w.heap.size w w' := by
  obtain ⟨va, vc, rfl⟩ := ents_slice hE
  obtain ⟨la, lc, rfl, hcL⟩ := hL.sliceS
  obtain ⟨i0, hi0, hz0, hs0, hy0⟩ := info_parts info_str
  have hbx : Below w.heap.size w (w.alloc (.cells #[.slice va es.length vc, .bool sh, .int .i64 lv] 33)) := (Below.refl _ _).alloc (Nat.le_refl _) _
  have hbox : BoxS (w.alloc (.cells #[.slice va es.length vc, .bool sh, .int .i64 lv] 33)) w.heap.size (.slice va es.length vc) sh lv := heap_alloc_new w _
  have hlb : w.heap.size < (w.alloc (.cells #[.slice va es.length vc, .bool sh, .int .i64 lv] 33)).heap.size := by simp
  have GR := good3_any (sh := sh) (lv := lv) (hE.below hbx) hr
  have HE : Hid (Ents _ _ _ _) := hE
  have HCL : Hid _ := hcL
  have HSZ : Hid (∀ s ∈ ss, s.size ≤ 1048576) := hsz
  clear hE hL hcL hsz
  by_cases h60 : 60 < ss.length
  · have h608 : (60 : Int) < (ss.length : Int) := by omega
    have h609 : decide ((60 : Int) < (ss.length : Int)) = true := decide_eq_true h608
    have hf := okS_long (es := es) (lv := lv) h60
    unfold sortS
    rw [hf, if_neg (by simp)]
    clear hf GR
    go_enter Tryz.func18, Tryz.ntmps18
    go_wp2
    go_ret2
    exact ⟨_, rfl, ⟨rfl, .inl ⟨rfl, rfl⟩⟩, hbx⟩
  · have h608 : ¬ (60 : Int) < (ss.length : Int) := by omega
    have h609 : decide ((60 : Int) < (ss.length : Int)) = false := decide_eq_false h608
    cases hro : rulesOk es lv
    · rw [hro] at GR
      have hf := okS_rules (ss := ss) hro
      unfold sortS
      rw [hf, if_neg (by simp)]
      clear hf hro
      go_enter Tryz.func18, Tryz.ntmps18
      go_wp2_with fail
      refine GR.mono ?_
      rintro e w2 ⟨rfl, b2⟩
      clear GR
      go_wp2
      go_ret2
      exact ⟨_, rfl, ⟨rfl, .inl ⟨rfl, rfl⟩⟩, hbx.trans (b2.mono hbx.size)⟩
    · rw [hro] at GR
      have KY := fun (u : World) (hu : Below w.heap.size w u) (x : ByteArray) (hx : x.size ≤ 1048576) => specKey_any (sh := sh) (lv := lv) x hx (HE.out.below hu) hr
      have KY2 : ∀ (u : World) (hu : Below w.heap.size w u) (x : ByteArray) (hx : x.size ≤ 1048576), Calls Tryz.prog 19 #[.agg #[.slice va es.length vc, .bool sh, .int .i64 lv], .string x] u fun e w' => e = .returned (.tuple #[.string (keyT es sh lv x), .bool (ok4 x)]) ∧ Below u.heap.size u w' := fun u hu x hx => by
        have := KY u hu x hx
        rw [okE_rules x hro] at this
        exact this
      have HKY : Hid _ := KY2
      have HRO : Hid (rulesOk es lv = true) := hro
      clear KY KY2 hro
      obtain ⟨W0, HW0⟩ : ∃ W0, Hid (W0 = w.alloc (.cells #[.slice va es.length vc, .bool sh, .int .i64 lv] 33)) := ⟨_, rfl⟩
      rw [← HW0.out] at hbx hbox hlb GR
      go_enter Tryz.func18, Tryz.ntmps18
      go_wp2_with fail
      rw [← HW0.out]
      obtain ⟨c0, c1, c2⟩ := hbox.cells
      refine GR.mono ?_
      rintro e W ⟨rfl, bW⟩
      have HBO : Hid (BoxS W w.heap.size (.slice va es.length vc) sh lv) := hbox.below bW hlb
      have HBW : Hid (Below w.heap.size w W) := hbx.trans (bW.mono hbx.size)
      have hwW : w.heap.size < W.heap.size := Nat.lt_of_lt_of_le hlb bW.size
      obtain ⟨L, HL⟩ : ∃ L, Hid (ss.map (ktOf es sh lv) = L) := ⟨_, rfl⟩
      have hLl : L.length = ss.length := by rw [← HL.out, List.length_map]
      clear GR c0 c1 c2 hbox hbx bW HW0 hlb
      have HLL : Hid (L.length = ss.length) := hLl
      clear hLl
      go_wp2_with fail
      go_loopw [6, 7, 23] (fun v6 v7 i wr => (∀ j s, j < (intOf i).toNat → ss[j]? = some s → ok4 s = true) ∧ SoR W L ss.length v6 v7 i wr) (fun _ _ i _ => ss.length - (intOf i).toNat)
      case atStart => exact ⟨fun j s hj => by simp [intOf] at hj, 0, Nat.zero_le _, rfl, ⟨rfl, World.ownsRow_nil _ _ _ _, World.ownsRow_nil _ _ _ _, .inl rfl⟩, Below.refl _ _⟩
      case round =>
        obtain ⟨hgd, k, hk, rfl, hKO, hbw⟩ := hrel
        have HGD : Hid (∀ j s, j < k → ss[j]? = some s → ok4 s = true) := fun j s hj hs => hgd j s (by simpa [intOf] using hj) hs
        clear hgd
        have hsz1 := hbw.size
        by_cases hlt : k < ss.length
        · obtain ⟨x, hx⟩ : ∃ x, ss[k]? = some x := ⟨_, List.getElem?_eq_getElem hlt⟩
          obtain ⟨g, rfl, hgl, y0⟩ := HCL.out k x hx
          have a0 : wr.cell? ⟨g, k, none⟩ = some (.string x) := ((HBW.out.trans (hbw.mono HBW.out.size)).cell (p := ⟨g, k, none⟩) hgl).trans y0
          have hk8 : (k : Int) < (ss.length : Int) := by omega
          obtain ⟨c0, c1, c2⟩ := (HBO.out.below hbw hwW).cells
          have K1 := HKY.out wr (HBW.out.trans (hbw.mono HBW.out.size)) x (HSZ.out x (List.mem_of_getElem? hx))
          have HX : Hid (ss[k]? = some x) := hx
          clear hx y0
          cases hok : ok4 x
          · rw [hok] at K1
            have hf := okS_bad (es := es) (lv := lv) HX.out hok
            have hf2 : sortS es sh lv ss = [] := by unfold sortS; rw [hf, if_neg (by simp)]
            have HF : Hid (okS es lv ss = false ∧ sortS es sh lv ss = []) := ⟨hf, hf2⟩
            clear hf hf2 hok hKO
            go_wp2_with fail
            refine K1.mono ?_
            rintro e w2 ⟨rfl, b2⟩
            have HB2 : Hid (Below w.heap.size w w2) := HBW.out.trans ((hbw.trans (b2.mono hbw.size)).mono HBW.out.size)
            clear K1 c0 c1 c2 a0 b2 hbw
            go_wp2
            go_ret2
            rw [HF.out.1, HF.out.2]
            exact ⟨_, rfl, ⟨rfl, .inl ⟨rfl, rfl⟩⟩, HB2.out⟩
          · rw [hok] at K1
            have HGD2 : Hid (∀ j s, j < k + 1 → ss[j]? = some s → ok4 s = true) := fun j s hj hs => by
              by_cases c : j = k
              · subst c
                rw [HX.out] at hs
                cases hs
                exact hok
              · exact HGD.out j s (by omega) hs
            have HKA : Hid (ktAt L k = ⟨keyT es sh lv x, x⟩) := by show _ = _; rw [← HL.out, ktAt_map HX.out]; rfl
            have hil := insK_len L k
            generalize keyT es sh lv x = kx at *
            have HKO : Hid (KO _ _ _ _ _ _) := hKO
            have HINS : Hid (insK L (k + 1) = bubK (insK L k ++ [⟨kx, x⟩]) k) := by show _ = _; rw [insK_succ, HKA.out]
            have hu6 : ∃ a6 c6, u6 = .slice a6 k c6 := by
              rcases hKO.keys.2 with ⟨h1, h2⟩ | ⟨g6, c6, cur, h1, _⟩
              · subst h2
                exact ⟨_, _, h1⟩
              · exact ⟨_, _, h1⟩
            obtain ⟨a6, c6, rfl⟩ := hu6
            clear hok HGD HX hKO HKA hil
            go_wp2_with fail
            refine K1.mono ?_
            rintro e w2 ⟨rfl, b2⟩
            have ko2 := HKO.out.below b2
            have hb2 := hbw.trans (b2.mono hbw.size)
            have hsz2 := hb2.size
            have ik := ko2.keys
            have it := ko2.texts
            have HAP : Hid _ := ko2.apart
            have HLEN : Hid ((insK L k).length = k) := ko2.len
            clear K1 c0 c1 c2 a0 b2 hbw ko2 HKO
            go_wp2_with (at_builtin; refine wpList_append_lies _ rfl _ _ 25 rfl W.heap.size 9 i0 (.string ⟨#[]⟩) 1 16 Tryz.underlying25 hi0 hz0 hs0 hy0 rfl (by decide) _ _ _ rfl (ik.alloc _) ⟨w2.heap.size, 0, none⟩ 1 1 [.string kx] rfl rfl (cellT_at _ _ _ _ (by simp)) (fun u hu => by simp at hu; subst hu; rfl) (by omega) (by unfold maxLen; omega) (by omega) (by simp; omega) (w2.heap.size + 1) (by simp) ?_)
            intro g6 cap6 w4 o4 gr4 hg4 hl4
            have it4 := World.ownsRow.kept (it.alloc (.cells #[.string kx] 9)) gr4 (by
              rcases HAP.out with c | c
              · cases c2 : u7.ownBlock with
                | none => exact .inl rfl
                | some b => exact .inr fun e => by rw [c] at e; cases e
              · exact .inr fun e => c e.symm)
            have hb4 : Below W.heap.size W w4 := Below.grown (hb2.alloc hb2.size _) gr4 (hb2.alloc hb2.size _).size (fun j hj => (World.ownsRow.lt ik j hj).1)
            have HN4 : Hid (∀ b, u7.ownBlock = some b → b ≠ g6) := fun b hb e => by
              have l7 := (World.ownsRow.lt it b hb).2
              rcases hg4 with c | c
              · rcases HAP.out with d | d
                · rw [d] at c; cases c
                · exact d (by rw [c, hb, e])
              · omega
            have hsz4 := hb4.size
            have O4 : Hid (World.ownsRow _ _ _ _ _ _ _) := o4
            have HB4 : Hid (Below _ _ _) := hb4
            clear ik it gr4 hg4 o4 hb2 hb4
            go_wp2_with (at_builtin; refine wpList_append_lies _ rfl _ _ 25 rfl W.heap.size 9 i0 (.string ⟨#[]⟩) 1 16 Tryz.underlying25 hi0 hz0 hs0 hy0 rfl (by decide) _ _ _ rfl (it4.alloc _) ⟨w4.heap.size, 0, none⟩ 1 1 [.string x] rfl rfl (cellT_at _ _ _ _ (by simp)) (fun u hu => by simp at hu; subst hu; rfl) (by omega) (by unfold maxLen; omega) (by omega) (by simp; omega) (w4.heap.size + 1) (by simp) ?_)
            intro g7 cap7 w5 o5 gr5 hg5 hl5
            have hb5 : Below W.heap.size W w5 := Below.grown (HB4.out.alloc HB4.out.size _) gr5 (HB4.out.alloc HB4.out.size _).size (fun j hj => (World.ownsRow.lt it4 j hj).1)
            have hne : g6 ≠ g7 := fun e => by
              rcases hg5 with c | c
              · exact HN4.out g7 c e.symm
              · omega
            have o45 := World.ownsRow.kept (World.ownsRow.alloc O4.out (.cells #[.string x] 9)) gr5 (.inr fun e => HN4.out g6 e.symm rfl)
            have ko5 : KO w5 W.heap.size (.slice (some ⟨g6, 0, none⟩) (k + 1) cap6) (.slice (some ⟨g7, 0, none⟩) (k + 1) cap7) (k + 1) (insK L k ++ [⟨kx, x⟩]) :=
              ⟨by simp [HLEN.out], by simpa using o45, by simpa using o5, .inr fun e => hne (Option.some.inj e)⟩
            have hG6 := (World.ownsRow.lt ko5.keys g6 rfl).1
            have hG7 := (World.ownsRow.lt ko5.texts g7 rfl).1
            have hst : SiR W ⟨kx, x⟩ (insK L (k + 1)) (k + 1) (.slice (some ⟨g6, 0, none⟩) (k + 1) cap6) (.slice (some ⟨g7, 0, none⟩) (k + 1) cap7) (.int .i64 k) w5 :=
              ⟨k, insK L k ++ [⟨kx, x⟩], by omega, rfl, ko5, by rw [HINS.out, List.set_append_right _ _ (by rw [HLEN.out]; exact Nat.le_refl _), HLEN.out, Nat.sub_self]; rfl, hb5⟩
            have HST : Hid (SiR _ _ _ _ _ _ _ _) := hst
            obtain ⟨goal, HGO⟩ : ∃ goal, Hid (insK L (k + 1) = goal) := ⟨_, rfl⟩
            rw [HGO.out] at HST
            clear hst ko5 o45 gr5 hg5 o5 hb5 it4 O4 HB4 HN4 HINS HAP HLEN hl4 hl5
            go_wp2_with fail
            go_loopw [12] (fun at_ wr => SiR W ⟨kx, x⟩ goal (k + 1) (.slice (some ⟨g6, 0, none⟩) (k + 1) cap6) (.slice (some ⟨g7, 0, none⟩) (k + 1) cap7) at_ wr) (fun at_ _ => (intOf at_).toNat)
            case atStart => exact HST.out
            case round =>
              clear HST
              obtain ⟨j, arr, hj, rfl, ko, hgoal, hbw⟩ := hrel
              have HG : Hid (bubK (arr.set j ⟨kx, x⟩) j = goal) := hgoal
              have hal := ko.len
              clear hgoal
              have hj8 : (j : Int) < (k : Int) + 1 := by omega
              cases j with
              | zero =>
                have HE0 : Hid (arr.set 0 ⟨kx, x⟩ = goal) := HG.out
                have HP : Hid (KO _ _ _ _ _ _) := ko.put 0 ⟨kx, x⟩
                have HBP : Hid (Below _ _ _) := KO.below_put (i := 0) (x := .string kx) (y := .string x) hbw hG6 hG7
                obtain ⟨f1, f2, f3, f4⟩ := ko.facts 0 hj
                obtain ⟨f5, f6⟩ := ko.half 0 kx 0 hj
                clear HG ko hbw
                go_wp2
                exact ⟨⟨fun j s hj hs => HGD2.out j s (by simp [intOf] at hj; omega) hs, k + 1, by omega, by go_num, by rw [HGO.out, ← HE0.out]; exact HP.out, HBP.out⟩, by simp [intOf]; omega⟩
              | succ p =>
                have hp1 : p < k + 1 := by omega
                have hw1 : IntKind.i64.wrap ((p : Int) + 1 - 1) = (p : Int) := by rw [IntKind.wrap_i64]; omega
                have hw2 : IntKind.i64.wrap (((p + 1 : Nat) : Int) - 1) = (p : Int) := by rw [IntKind.wrap_i64]; omega
                have hw3 : IntKind.i64.wrap (p : Int) = (p : Int) := by rw [IntKind.wrap_i64]; omega
                have hq1 : (p : Int) < (k : Int) + 1 := by omega
                have hq2 : (p : Int) + 1 < (k : Int) + 1 := by omega
                have hq3 : (0 : Int) < (p : Int) + 1 := by omega
                have hq4 : decide ((0 : Int) < (p : Int) + 1) = true := decide_eq_true hq3
                obtain ⟨f1, f2, f3, f4⟩ := ko.facts (p + 1) hj
                obtain ⟨e1, e2, _, _⟩ := ko.facts p hp1
                cases hgt : gtS (ktAt arr p).key kx
                · unfold gtS at hgt
                  cases hl : ltS (ktAt arr p).key kx
                  · have heq : ((ktAt arr p).key.toList == kx.toList) = true := by
                      rw [hl, Bool.false_or] at hgt
                      unfold eqS at hgt
                      simpa using hgt
                    have hlt2 : Op.bytesLess (ktAt arr p).key.toList kx.toList = false := hl
                    have hgt : gtS (ktAt arr p).key kx = false := by unfold gtS eqS; rw [heq]; simp
                    clear hl
                    have HE0 : Hid (arr.set (p + 1) ⟨kx, x⟩ = goal) := by show _ = _; rw [← hole_stop (by omega) hgt]; exact HG.out
                    have HP : Hid (KO _ _ _ _ _ _) := ko.put (p + 1) ⟨kx, x⟩
                    have HBP : Hid (Below _ _ _) := KO.below_put (i := p + 1) (x := .string kx) (y := .string x) hbw hG6 hG7
                    obtain ⟨f5, f6⟩ := ko.half (p + 1) kx (p + 1) hj
                    clear HG ko hgt hbw
                    go_wp2
                    exact ⟨⟨fun j s hj hs => HGD2.out j s (by simp [intOf] at hj; omega) hs, k + 1, by omega, by go_num, by rw [HGO.out, ← HE0.out]; exact HP.out, HBP.out⟩, by simp [intOf]; omega⟩
                  · have hlt2 : Op.bytesLess (ktAt arr p).key.toList kx.toList = true := hl
                    have hgt : gtS (ktAt arr p).key kx = false := by unfold gtS; rw [hl]; simp
                    clear hl
                    have HE0 : Hid (arr.set (p + 1) ⟨kx, x⟩ = goal) := by show _ = _; rw [← hole_stop (by omega) hgt]; exact HG.out
                    have HP : Hid (KO _ _ _ _ _ _) := ko.put (p + 1) ⟨kx, x⟩
                    have HBP : Hid (Below _ _ _) := KO.below_put (i := p + 1) (x := .string kx) (y := .string x) hbw hG6 hG7
                    obtain ⟨f5, f6⟩ := ko.half (p + 1) kx (p + 1) hj
                    clear HG ko hgt hbw
                    go_wp2
                    exact ⟨⟨fun j s hj hs => HGD2.out j s (by simp [intOf] at hj; omega) hs, k + 1, by omega, by go_num, by rw [HGO.out, ← HE0.out]; exact HP.out, HBP.out⟩, by simp [intOf]; omega⟩
                · have hgt2 := hgt
                  unfold gtS at hgt2
                  simp only [Bool.not_eq_true', Bool.or_eq_false_iff] at hgt2
                  have hlt2 : Op.bytesLess (ktAt arr p).key.toList kx.toList = false := hgt2.1
                  have heq : ((ktAt arr p).key.toList == kx.toList) = false := hgt2.2
                  have HE0 : Hid (bubK ((arr.set (p + 1) (ktAt arr p)).set p ⟨kx, x⟩) p = goal) := by show _ = _; rw [← hole_go (by omega) hgt]; exact HG.out
                  have HP : Hid (KO _ _ _ _ _ _) := ko.put (p + 1) (ktAt arr p)
                  have HBP : Hid (Below _ _ _) := KO.below_put (i := p + 1) (x := .string (ktAt arr p).key) (y := .string (ktAt arr p).text) hbw hG6 hG7
                  obtain ⟨f5, f6⟩ := ko.half (p + 1) (ktAt arr p).key (p + 1) hj
                  obtain ⟨f7, _⟩ := ko.half (p + 1) (ktAt arr p).key p hp1
                  clear HG ko hgt hgt2 hbw
                  go_wp2
                  exact ⟨⟨p, _, by omega, by go_num, HP.out, HE0.out, HBP.out⟩, by simp [intOf]⟩
        · have hk3 : k = ss.length := by omega
          subst hk3
          have hfin := okS_good (es := es) (lv := lv) (ss := ss) (by omega) HRO.out (fun j s hj hs => HGD.out j s hj hs)
          have hfin2 : sortS es sh lv ss = (insK L ss.length).map KT.text := by unfold sortS; rw [hfin, if_pos rfl, HL.out]
          have HF : Hid (okS es lv ss = true ∧ sortS es sh lv ss = (insK L ss.length).map KT.text) := ⟨hfin, hfin2⟩
          have HT : Hid (Strs wr w.heap.size u7 ((insK L ss.length).map KT.text)) := by
            show Strs _ _ _ _
            have h := hKO.texts
            unfold Strs
            rw [List.length_map, hKO.len]
            refine ⟨h.1, ?_⟩
            rcases h.2 with h | ⟨g, cap, cur, h1, h2, h3⟩
            · exact .inl h
            · exact .inr ⟨g, cap, cur, h1, Nat.le_trans HBW.out.size h2, h3⟩
          clear hfin hfin2 hKO HGD
          go_wp2
          go_ret2
          rw [HF.out.1, HF.out.2]
          exact ⟨_, rfl, HT.out, HBW.out.trans (hbw.mono HBW.out.size)⟩
end Go.Proofs.YtanfebccenfffahGreatDoor

namespace Go.Proofs.YtanfebccenfffahGreatDoor
open Go.RowKit

theorem blk_frozenS {u u' : World} {g : Nat} (h : u'.heap[g]? = u.heap[g]?) (j : Nat) : u'.frozen? ⟨g, j, none⟩ = u.frozen? ⟨g, j, none⟩ := by
  simp only [World.frozen?, h]

theorem info_slS : (Tryz.prog.info? 25).map (fun i => (i.zero, i.size, i.bytes)) = some (some (.slice none 0 0), 1, 24) := by kernel_rfl

theorem grp_stepS {L : List ByteArray} {nw : Nat → Bool} {k q : Nat} {gs : List (List ByteArray)} {gq : List ByteArray} {s : ByteArray} (hs : L[k]? = some s) (hg : (if nw k = true then grpK L nw k ++ [[]] else grpK L nw k) = gs) (hq : gs.length = q + 1) (hgq : gs[q]? = some gq) : grpK L nw (k + 1) = gs.set q (gq ++ [s]) := by
  rw [grpK, hg]
  unfold addL txAt
  rw [hs, hq, show q + 1 - 1 = q by omega, hgq]
  rfl

theorem strs_allS {w : World} {B : Nat} {v : Value} {ss : List ByteArray} (h : Strs w B v ss) : ∃ a c, v = .slice a ss.length c ∧ ∀ (k : Nat) (x : ByteArray), ss[k]? = some x → ∃ g, a = some ⟨g, 0, none⟩ ∧ ∀ u, Below w.heap.size w u → ∀ (j : Nat) (y : ByteArray), ss[j]? = some y → u.cell? ⟨g, j, none⟩ = some (.string y) := by
  rcases h.form with ⟨rfl, rfl⟩ | ⟨g, cap, rfl, _, _⟩
  · exact ⟨_, _, rfl, fun k x hx => by simp at hx⟩
  · exact ⟨_, _, rfl, fun k x hx => ⟨g, rfl, fun u hu j y hy => (h.below hu).cell j y hy⟩⟩

theorem ne_textS {a b : ByteArray} (h : ¬ a = b) : (a.toList == b.toList) = false := by
  rw [ByteArray.toList_eq, ByteArray.toList_eq]
  cases c : (a.data.toList == b.data.toList)
  · rfl
  · exact absurd (ByteArray.ext (Array.toList_inj.1 (by simpa using c))) h

def GsRel (es : List Ent) (sh : Bool) (lv : Int) (w2 : World) (lo : Nat) (L : List ByteArray) (nw : Nat → Bool) (vg ah i : Value) (wr : World) : Prop :=
  ∃ (k hi : Nat) (vs : List Value) (t : ByteArray), k ≤ L.length ∧ i = .int .i64 k ∧ ah = .string t ∧ (∀ p, k = p + 1 → t = keyT es sh lv (txAt L p)) ∧ Nest wr lo hi vg (grpK L nw k) vs ∧ Below w2.heap.size w2 wr

set_option maxRecDepth 100000 in
set_option maxHeartbeats 8000000 in
theorem specGrp_any {w : World} {B B' : Nat} {ve vl : Value} {es : List Ent} {sh : Bool} {lv : Int} (ss : List ByteArray) (hE : Ents w B ve es) (hr : ∀ e ∈ es, e.runes.length ≤ 1048576) (hL : Strs w B' vl ss) (hsz : ∀ s ∈ ss, s.size ≤ 1048576) (hln : ss.length ≤ 1048576) :
    Calls Tryz.prog 6 #[.agg #[ve, .bool sh, .int .i64 lv], vl] w fun e w' => ∃ v' vs, e = .returned (.tuple #[v', .bool (okS es lv ss)]) ∧ Nest w' w.heap.size w'.heap.size v' (grpS es sh lv ss) vs ∧ Below w.heap.size w w' := by
  obtain ⟨va, vc, rfl⟩ := ents_slice hE
  have hbx : Below w.heap.size w (w.alloc (.cells #[.slice va es.length vc, .bool sh, .int .i64 lv] 33)) := (Below.refl _ _).alloc (Nat.le_refl _) _
  have hbox : BoxS (w.alloc (.cells #[.slice va es.length vc, .bool sh, .int .i64 lv] 33)) w.heap.size (.slice va es.length vc) sh lv := heap_alloc_new w _
  have hlb : w.heap.size < (w.alloc (.cells #[.slice va es.length vc, .bool sh, .int .i64 lv] 33)).heap.size := by simp
  have SO := specSort_any (sh := sh) (lv := lv) ss (hE.below hbx) hr (hL.below hbx) hsz hln
  have HE : Hid (Ents w _ _ _) := hE
  have HR : Hid (∀ e ∈ es, e.runes.length ≤ 1048576) := hr
  have HP : Hid (okS es lv ss = true → (sortS es sh lv ss).Perm ss) := fun h => sortS_perm h
  have HN0 : Hid (okS es lv ss = false → grpS es sh lv ss = []) := fun h => by unfold grpS; rw [sortS_no h]; rfl
  have HGS0 : Hid (grpS es sh lv ss = grpK (sortS es sh lv ss) (nwAt es sh lv (sortS es sh lv ss)) (sortS es sh lv ss).length) := rfl
  have hl60 := sortS_len es sh lv ss
  have HSZ : Hid (∀ s ∈ ss, s.size ≤ 1048576) := hsz
  clear hE hr hL hsz
  cases hok : okS es lv ss
  · rw [hok] at SO
    rw [HN0.out hok]
    clear HP HN0 HGS0
    go_enter Tryz.func6, Tryz.ntmps6
    go_wp2_with fail
    refine SO.mono ?_
    rintro e w1 ⟨v1, rfl, _, b1⟩
    clear SO
    go_wp2
    go_ret2
    exact ⟨_, [], rfl, Nest.nil _ _, hbx.trans (b1.mono hbx.size)⟩
  · rw [hok] at SO
    have hp := HP.out hok
    have HM : Hid (∀ x ∈ sortS es sh lv ss, x.size ≤ 1048576) := fun x hx => HSZ.out x (hp.mem_iff.1 hx)
    have HZ : Hid (nwAt es sh lv (sortS es sh lv ss) 0 = true) := rfl
    rw [HGS0.out]
    clear HP HN0 HGS0 hp hok HSZ
    generalize sortS es sh lv ss = L at *
    have HNA : Hid (∀ k, nwAt es sh lv L k = (decide (k = 0) || !decide (keyT es sh lv (txAt L (k - 1)) = keyT es sh lv (txAt L k)))) := fun k => rfl
    generalize nwAt es sh lv L = nw at *
    obtain ⟨i0, hi0, hz0, hz1, hz2⟩ := info_parts info_str
    obtain ⟨i1, hi1, hy0, hy1, hy2⟩ := info_parts info_slS
    go_enter Tryz.func6, Tryz.ntmps6
    go_wp2_with fail
    refine SO.mono ?_
    rintro e w2 ⟨v2, rfl, s2, b2⟩
    obtain ⟨a2, k2, rfl, qs⟩ := strs_allS s2
    have HQS : Hid _ := qs
    have HX2 : Hid (BoxS w2 _ _ _ _) := hbox.below b2 hlb
    have HB2 : Hid (Below w.heap.size w w2) := hbx.trans (b2.mono hbx.size)
    have hl2 : w.heap.size < w2.heap.size := Nat.lt_of_lt_of_le hlb b2.size
    obtain ⟨lo, HLO⟩ : ∃ lo, Hid (lo = w2.heap.size) := ⟨_, rfl⟩
    have hlo : w2.heap.size ≤ lo := by rw [HLO.out]; exact Nat.le_refl _
    clear SO s2 b2 hbox qs
    go_wp2_with fail
    go_loopw [8, 9, 24] (fun vg ah i wr => GsRel es sh lv w2 lo L nw vg ah i wr) (fun _ _ i _ => L.length - (intOf i).toNat)
    case atStart => exact ⟨0, _, [], _, Nat.zero_le _, rfl, rfl, (fun p hp => by omega), (by rw [HLO.out]; exact Nest.nil w2 _), Below.refl _ _⟩
    case round =>
      obtain ⟨k, hi, vs1, t, hk, rfl, rfl, hkt, hN, hbr⟩ := hrel
      by_cases hlt : k < L.length
      · obtain ⟨s, hs⟩ : ∃ s, L[k]? = some s := ⟨_, List.getElem?_eq_getElem hlt⟩
        obtain ⟨gs0, rfl, qc⟩ := HQS.out k s hs
        have c0 := qc wr hbr k s hs
        have hlt8 : (k : Int) < (L.length : Int) := by omega
        have HS : Hid (L[k]? = some s) := hs
        have z2 := HM.out s (List.mem_of_getElem? hs)
        obtain ⟨gs1, HG⟩ : ∃ gs1, Hid (grpK L nw k = gs1) := ⟨_, rfl⟩
        rw [HG.out] at hN
        have hbw := HB2.out.trans (hbr.mono HB2.out.size)
        have SK := specKey_any (sh := sh) (lv := lv) s z2 (HE.out.below hbw) HR.out
        obtain ⟨p0, p1, p2⟩ := (HX2.out.below hbr hl2).cells
        have HTX : Hid (txAt L k = s) := by show _ = _; unfold txAt; rw [hs]; rfl
        obtain ⟨kx, HKE⟩ : ∃ kx, Hid (keyT es sh lv s = kx) := ⟨_, rfl⟩
        rw [HKE.out] at SK
        have HKX : Hid (∀ p, k + 1 = p + 1 → kx = keyT es sh lv (txAt L p)) := fun p hp => by
          obtain rfl : k = p := by omega
          rw [HTX.out, HKE.out]
        have hwl : w.heap.size < wr.heap.size := Nat.lt_of_lt_of_le hl2 hbr.size
        clear qc
        go_wp2_with fail
        refine SK.mono ?_
        rintro e w3 ⟨rfl, b3⟩
        have HN1 : Hid (Nest w3 lo hi u8 gs1 vs1) := hN.below b3
        have HBU : Hid (Below w2.heap.size w2 w3) := hbr.trans (b3.mono hbr.size)
        clear hs hN hbr b3 SK p0 p1 p2 c0 hbw hwl
        by_cases hk0 : k = 0
        · subst hk0
          have HNW : Hid (nw 0 = true) := HZ.out
          clear hkt
          have N1 := HN1.out
          have hgn : gs1.length ≤ 60 := by rw [← HG.out]; have := (grpK_facts L HZ.out 0).1; omega
          have hloU : lo ≤ w3.heap.size := by rw [HLO.out]; exact HBU.out.size
          have hsU := HBU.out.size
          have htop := N1.top
          have bA := (Below.refl w3.heap.size w3).alloc (Nat.le_refl _) (.cells #[.slice none 0 0] 25)
          have hrow := (N1.below bA).row
          obtain ⟨a1, c1, hv1, _⟩ := N1.form
          subst hv1
          clear N1
          go_wp2_with (at_builtin; refine wpList_append_lies _ rfl _ _ 28 rfl lo 25 i1 (.slice none 0 0) 1 24 Tryz.underlying28 hi1 hy0 hy1 hy2 rfl (by decide) _ _ _ rfl hrow ⟨_, 0, none⟩ 1 1 [.slice none 0 0] rfl rfl (cell_one_new _ _ _) (fun x hx => by simp at hx; subst hx; rfl) (by omega) (by unfold maxLen; omega) (by omega) (by simp; omega) _ rfl ?_)
          intro g5 c5 u5 ho5 hg5 hgo5 hlt5
          have N5 := HN1.out.push bA hg5 ho5
          have B5 : Below w2.heap.size w2 u5 := Below.grown (HBU.out.trans (bA.mono HBU.out.size)) hg5 (Nat.le_trans HBU.out.size bA.size) (fun j hj => Nat.le_trans hlo (World.ownsRow.lt hrow j hj).1)
          obtain ⟨q, HQ⟩ : ∃ q, Hid (gs1.length = q) := ⟨_, rfl⟩
          have HGS : Hid ((gs1 ++ [[]]).length = q + 1) := by show _ = _; rw [List.length_append, HQ.out]; rfl
          have HST : Hid ((if nw 0 = true then grpK L nw 0 ++ [[]] else grpK L nw 0) = gs1 ++ [[]]) := by show _ = _; rw [if_pos HNW.out, HG.out]
          have hq60 : q ≤ 60 := by rw [← HQ.out, ← HG.out]; have := (grpK_facts L HZ.out 0).1; omega
          rw [HQ.out]
          rw [HQ.out] at N5
          generalize gs1 ++ [[]] = gs2 at *
          generalize vs1 ++ [.slice none 0 0] = vs2 at *
          clear HN1 HBU hrow ho5 hg5 hgo5 bA hsU htop hloU hgn
          obtain ⟨gq, hgq⟩ : ∃ gq, gs2[q]? = some gq := ⟨_, List.getElem?_eq_getElem (by rw [HGS.out]; omega)⟩
          obtain ⟨x, hx, hI, _⟩ := N5.ins q gq hgq
          obtain ⟨a2, c2, hv2, fm⟩ := N5.form
          rw [HGS.out] at hv2
          obtain ⟨g, hag, hlog, hhig, hcl, hfz⟩ := fm q x hx
          subst hag
          injection hv2 with e1 e2 e3
          injection e1 with e1'
          injection e1' with e1''
          have e1x := e1''.symm
          subst e1x
          subst e3
          have hgl : gq.length ≤ 60 := by
            have h1 := tot_mem (List.mem_of_getElem? hgq)
            have h2 : totL gs2 ≤ 60 := by rw [← HST.out]; have h3 := (grpK_facts L HZ.out 0).2.1; have h4 : totL [[]] = 0 := rfl; split <;> first | (rw [totL_app, h3, h4]; omega) | (rw [h3]; omega)
            omega
          have bB := (Below.refl u5.heap.size u5).alloc (Nat.le_refl _) (.cells #[.string s] 9)
          have hrow2 := hI.below bB
          unfold Strs at hrow2
          have hsW := B5.size
          have hloW : lo ≤ u5.heap.size := by rw [HLO.out]; exact B5.size
          have htp := N5.top
          have hw1 : IntKind.i64.wrap ((q : Int) + 1 - 1) = (q : Int) := by rw [IntKind.wrap_i64]; omega
          have hw2 : IntKind.i64.wrap (((q + 1 : Nat) : Int) - 1) = (q : Int) := by rw [IntKind.wrap_i64]; omega
          have hw3 : IntKind.i64.wrap (q : Int) = (q : Int) := by rw [IntKind.wrap_i64]; omega
          have hq8 : (q : Int) < ((q + 1 : Nat) : Int) := by omega
          have hqq : q < q + 1 := by omega
          have HNN : Hid (Nest u5 lo _ _ gs2 vs2) := N5
          have HBB : Hid (Below w2.heap.size w2 u5) := B5
          have HXX : Hid (vs2[q]? = some x) := hx
          have HGQ : Hid (gs2[q]? = some gq) := hgq
          have HAP : Hid (some g ≠ x.ownBlock) := by
            rcases N5.apart hI with h | h
            · cases h
            · exact h
          have hgW : g < u5.heap.size := by omega
          obtain ⟨xa, xc, hxs⟩ := (show ∃ a c, x = .slice a gq.length c by
            rcases hI.form with ⟨rfl, rfl⟩ | ⟨_, _, rfl, _, _⟩
            · exact ⟨_, _, rfl⟩
            · exact ⟨_, _, rfl⟩)
          subst hxs
          clear N5 B5 hx hgq hI fm
          go_wp2_with (at_builtin; refine wpList_append_lies _ rfl _ _ 25 rfl lo 9 i0 (.string ⟨#[]⟩) 1 16 Tryz.underlying25 hi0 hz0 hz1 hz2 rfl (by decide) _ _ _ rfl hrow2 ⟨_, 0, none⟩ 1 1 [.string s] rfl rfl (cell_one_new _ _ _) (fun x hx => by simp at hx; subst hx; rfl) (by omega) (by unfold maxLen; omega) (by omega) (by simp; omega) _ rfl ?_)
          intro b6 c6 u6 ho6 hg6 hgo6 hlt6
          have eb : u6.heap[g]? = u5.heap[g]? := (hg6.block g (by simp; omega) HAP.out).trans (Below.heap_alloc _ _ _ hgW)
          have hc6 : u6.cell? ⟨g, q, none⟩ = some (.slice xa gq.length xc) := (World.cell?_of_block (w := u5) eb).trans hcl
          have hf6 : u6.frozen? ⟨g, q, none⟩ = false := (blk_frozenS eb q).trans (hfz q)
          have N6 := HNN.out
          have HN7 : Hid (Nest (u6.setCell ⟨g, q, none⟩ (.slice (some ⟨b6, 0, none⟩) (gq.length + 1) c6)) lo u6.heap.size (.slice (some ⟨g, 0, none⟩) (q + 1) c5) (grpK L nw (0 + 1)) (vs2.set q (.slice (some ⟨b6, 0, none⟩) (gq.length + 1) c6))) := by
            have h7 := Nest.put (gv := g) (cv := c5) (by rw [HGS.out]; exact N6) bB HXX.out HGQ.out hg6 (Strs.snoc ho6) (by rcases hgo6 with h | h; exact .inl h; exact .inr (by have h9 : b6 = u5.heap.size + 1 := (by simpa using h); omega))
            rw [HGS.out] at h7
            rw [grp_stepS HS.out HST.out HGS.out HGQ.out]
            exact h7
          have HB7 : Hid (Below w2.heap.size w2 (u6.setCell ⟨g, q, none⟩ (.slice (some ⟨b6, 0, none⟩) (gq.length + 1) c6))) := by
            have h1 : Below w2.heap.size w2 u6 := Below.grown (HBB.out.trans (bB.mono HBB.out.size)) hg6 (Nat.le_trans HBB.out.size bB.size) (fun j hj => Nat.le_trans hlo (World.ownsRow.lt hrow2 j hj).1)
            exact Below.grown h1 (setCell_grown u6 g q _) h1.size (fun j hj => by have : g = j := Option.some.inj hj; omega)
          clear N6 hg6 ho6 hgo6 hrow2 bB HNN HBB HXX HGQ HAP eb hfz hcl
          go_wp2
          exact ⟨⟨0 + 1, _, _, _, by omega, by go_num, rfl, HKX.out, HN7.out, HB7.out⟩, by simp [intOf]; omega⟩
        · obtain ⟨p, rfl⟩ : ∃ p, k = p + 1 := ⟨k - 1, by omega⟩
          have htp := hkt p rfl
          have HNV : Hid (nw (p + 1) = !decide (t = kx)) := by
            show _ = _
            rw [HNA.out, decide_eq_false (by omega), Bool.false_or, show p + 1 - 1 = p by omega, HTX.out, HKE.out, ← htp]
          have hpz : ((((p + 1 : Nat) : Int)) == 0) = false := by simp; omega
          have hpz2 : (((p : Int) + 1) == 0) = false := by simp; omega
          have hpz3 : ¬ ((p : Int) + 1 = 0) := by omega
          clear hkt htp hk0
          by_cases hxt : kx = t
          · have HNW : Hid (nw (p + 1) = false) := by show _ = _; rw [HNV.out, decide_eq_true hxt.symm]; rfl
            subst hxt
            clear HNV
            have N5 := HN1.out
            have B5 := HBU.out
            obtain ⟨q, HQ⟩ : ∃ q, Hid (gs1.length = q + 1) := by
              have := (grpK_facts L HZ.out (p + 1)).2.2 (by omega)
              rw [HG.out] at this
              exact ⟨gs1.length - 1, by show _ = _; omega⟩
            have HGS : Hid (gs1.length = q + 1) := HQ.out
            have HST : Hid ((if nw (p + 1) = true then grpK L nw (p + 1) ++ [[]] else grpK L nw (p + 1)) = gs1) := by show _ = _; rw [if_neg (by rw [HNW.out]; simp), HG.out]
            have hq60 : q ≤ 60 := by have := HQ.out; have := (grpK_facts L HZ.out (p + 1)).1; rw [HG.out] at this; omega
            obtain ⟨a1, c5, hv1, _⟩ := N5.form
            rw [HQ.out] at hv1
            subst hv1
            generalize gs1 = gs2 at *
            generalize vs1 = vs2 at *
            clear HN1 HBU
            obtain ⟨gq, hgq⟩ : ∃ gq, gs2[q]? = some gq := ⟨_, List.getElem?_eq_getElem (by rw [HGS.out]; omega)⟩
            obtain ⟨x, hx, hI, _⟩ := N5.ins q gq hgq
            obtain ⟨a2, c2, hv2, fm⟩ := N5.form
            rw [HGS.out] at hv2
            obtain ⟨g, hag, hlog, hhig, hcl, hfz⟩ := fm q x hx
            subst hag
            injection hv2 with e1 e2 e3
            subst e1
            subst e3
            have hgl : gq.length ≤ 60 := by
              have h1 := tot_mem (List.mem_of_getElem? hgq)
              have h2 : totL gs2 ≤ 60 := by rw [← HST.out]; have h3 := (grpK_facts L HZ.out (p + 1)).2.1; have h4 : totL [[]] = 0 := rfl; split <;> first | (rw [totL_app, h3, h4]; omega) | (rw [h3]; omega)
              omega
            have bB := (Below.refl w3.heap.size w3).alloc (Nat.le_refl _) (.cells #[.string s] 9)
            have hrow2 := hI.below bB
            unfold Strs at hrow2
            have hsW := B5.size
            have hloW : lo ≤ w3.heap.size := by rw [HLO.out]; exact B5.size
            have htp := N5.top
            have hw1 : IntKind.i64.wrap ((q : Int) + 1 - 1) = (q : Int) := by rw [IntKind.wrap_i64]; omega
            have hw2 : IntKind.i64.wrap (((q + 1 : Nat) : Int) - 1) = (q : Int) := by rw [IntKind.wrap_i64]; omega
            have hw3 : IntKind.i64.wrap (q : Int) = (q : Int) := by rw [IntKind.wrap_i64]; omega
            have hq8 : (q : Int) < ((q + 1 : Nat) : Int) := by omega
            have hqq : q < q + 1 := by omega
            have HNN : Hid (Nest w3 lo _ _ gs2 vs2) := N5
            have HBB : Hid (Below w2.heap.size w2 w3) := B5
            have HXX : Hid (vs2[q]? = some x) := hx
            have HGQ : Hid (gs2[q]? = some gq) := hgq
            have HAP : Hid (some g ≠ x.ownBlock) := by
              rcases N5.apart hI with h | h
              · cases h
              · exact h
            have hgW : g < w3.heap.size := by omega
            obtain ⟨xa, xc, hxs⟩ := (show ∃ a c, x = .slice a gq.length c by
              rcases hI.form with ⟨rfl, rfl⟩ | ⟨_, _, rfl, _, _⟩
              · exact ⟨_, _, rfl⟩
              · exact ⟨_, _, rfl⟩)
            subst hxs
            clear N5 B5 hx hgq hI fm
            go_wp2_with (at_builtin; refine wpList_append_lies _ rfl _ _ 25 rfl lo 9 i0 (.string ⟨#[]⟩) 1 16 Tryz.underlying25 hi0 hz0 hz1 hz2 rfl (by decide) _ _ _ rfl hrow2 ⟨_, 0, none⟩ 1 1 [.string s] rfl rfl (cell_one_new _ _ _) (fun x hx => by simp at hx; subst hx; rfl) (by omega) (by unfold maxLen; omega) (by omega) (by simp; omega) _ rfl ?_)
            intro b6 c6 u6 ho6 hg6 hgo6 hlt6
            have eb : u6.heap[g]? = w3.heap[g]? := (hg6.block g (by simp; omega) HAP.out).trans (Below.heap_alloc _ _ _ hgW)
            have hc6 : u6.cell? ⟨g, q, none⟩ = some (.slice xa gq.length xc) := (World.cell?_of_block (w := w3) eb).trans hcl
            have hf6 : u6.frozen? ⟨g, q, none⟩ = false := (blk_frozenS eb q).trans (hfz q)
            have N6 := HNN.out
            have HN7 : Hid (Nest (u6.setCell ⟨g, q, none⟩ (.slice (some ⟨b6, 0, none⟩) (gq.length + 1) c6)) lo u6.heap.size (.slice (some ⟨g, 0, none⟩) (q + 1) c5) (grpK L nw ((p + 1) + 1)) (vs2.set q (.slice (some ⟨b6, 0, none⟩) (gq.length + 1) c6))) := by
              have h7 := Nest.put (gv := g) (cv := c5) (by rw [HGS.out]; exact N6) bB HXX.out HGQ.out hg6 (Strs.snoc ho6) (by rcases hgo6 with h | h; exact .inl h; exact .inr (by have h9 : b6 = w3.heap.size + 1 := (by simpa using h); omega))
              rw [HGS.out] at h7
              rw [grp_stepS HS.out HST.out HGS.out HGQ.out]
              exact h7
            have HB7 : Hid (Below w2.heap.size w2 (u6.setCell ⟨g, q, none⟩ (.slice (some ⟨b6, 0, none⟩) (gq.length + 1) c6))) := by
              have h1 : Below w2.heap.size w2 u6 := Below.grown (HBB.out.trans (bB.mono HBB.out.size)) hg6 (Nat.le_trans HBB.out.size bB.size) (fun j hj => Nat.le_trans hlo (World.ownsRow.lt hrow2 j hj).1)
              exact Below.grown h1 (setCell_grown u6 g q _) h1.size (fun j hj => by have : g = j := Option.some.inj hj; omega)
            clear N6 hg6 ho6 hgo6 hrow2 bB HNN HBB HXX HGQ HAP eb hfz hcl
            go_wp2
            exact ⟨⟨p + 1 + 1, _, _, _, by omega, by go_num, rfl, HKX.out, HN7.out, HB7.out⟩, by simp [intOf]; omega⟩
          · have HNW : Hid (nw (p + 1) = true) := by show _ = _; rw [HNV.out, decide_eq_false (fun c => hxt c.symm)]; rfl
            have hne := ne_textS hxt
            clear HNV
            have N1 := HN1.out
            have hgn : gs1.length ≤ 60 := by rw [← HG.out]; have := (grpK_facts L HZ.out (p + 1)).1; omega
            have hloU : lo ≤ w3.heap.size := by rw [HLO.out]; exact HBU.out.size
            have hsU := HBU.out.size
            have htop := N1.top
            have bA := (Below.refl w3.heap.size w3).alloc (Nat.le_refl _) (.cells #[.slice none 0 0] 25)
            have hrow := (N1.below bA).row
            obtain ⟨a1, c1, hv1, _⟩ := N1.form
            subst hv1
            clear N1
            go_wp2_with (at_builtin; refine wpList_append_lies _ rfl _ _ 28 rfl lo 25 i1 (.slice none 0 0) 1 24 Tryz.underlying28 hi1 hy0 hy1 hy2 rfl (by decide) _ _ _ rfl hrow ⟨_, 0, none⟩ 1 1 [.slice none 0 0] rfl rfl (cell_one_new _ _ _) (fun x hx => by simp at hx; subst hx; rfl) (by omega) (by unfold maxLen; omega) (by omega) (by simp; omega) _ rfl ?_)
            intro g5 c5 u5 ho5 hg5 hgo5 hlt5
            have N5 := HN1.out.push bA hg5 ho5
            have B5 : Below w2.heap.size w2 u5 := Below.grown (HBU.out.trans (bA.mono HBU.out.size)) hg5 (Nat.le_trans HBU.out.size bA.size) (fun j hj => Nat.le_trans hlo (World.ownsRow.lt hrow j hj).1)
            obtain ⟨q, HQ⟩ : ∃ q, Hid (gs1.length = q) := ⟨_, rfl⟩
            have HGS : Hid ((gs1 ++ [[]]).length = q + 1) := by show _ = _; rw [List.length_append, HQ.out]; rfl
            have HST : Hid ((if nw (p + 1) = true then grpK L nw (p + 1) ++ [[]] else grpK L nw (p + 1)) = gs1 ++ [[]]) := by show _ = _; rw [if_pos HNW.out, HG.out]
            have hq60 : q ≤ 60 := by rw [← HQ.out, ← HG.out]; have := (grpK_facts L HZ.out (p + 1)).1; omega
            rw [HQ.out]
            rw [HQ.out] at N5
            generalize gs1 ++ [[]] = gs2 at *
            generalize vs1 ++ [.slice none 0 0] = vs2 at *
            clear HN1 HBU hrow ho5 hg5 hgo5 bA hsU htop hloU hgn
            obtain ⟨gq, hgq⟩ : ∃ gq, gs2[q]? = some gq := ⟨_, List.getElem?_eq_getElem (by rw [HGS.out]; omega)⟩
            obtain ⟨x, hx, hI, _⟩ := N5.ins q gq hgq
            obtain ⟨a2, c2, hv2, fm⟩ := N5.form
            rw [HGS.out] at hv2
            obtain ⟨g, hag, hlog, hhig, hcl, hfz⟩ := fm q x hx
            subst hag
            injection hv2 with e1 e2 e3
            injection e1 with e1'
            injection e1' with e1''
            have e1x := e1''.symm
            subst e1x
            subst e3
            have hgl : gq.length ≤ 60 := by
              have h1 := tot_mem (List.mem_of_getElem? hgq)
              have h2 : totL gs2 ≤ 60 := by rw [← HST.out]; have h3 := (grpK_facts L HZ.out (p + 1)).2.1; have h4 : totL [[]] = 0 := rfl; split <;> first | (rw [totL_app, h3, h4]; omega) | (rw [h3]; omega)
              omega
            have bB := (Below.refl u5.heap.size u5).alloc (Nat.le_refl _) (.cells #[.string s] 9)
            have hrow2 := hI.below bB
            unfold Strs at hrow2
            have hsW := B5.size
            have hloW : lo ≤ u5.heap.size := by rw [HLO.out]; exact B5.size
            have htp := N5.top
            have hw1 : IntKind.i64.wrap ((q : Int) + 1 - 1) = (q : Int) := by rw [IntKind.wrap_i64]; omega
            have hw2 : IntKind.i64.wrap (((q + 1 : Nat) : Int) - 1) = (q : Int) := by rw [IntKind.wrap_i64]; omega
            have hw3 : IntKind.i64.wrap (q : Int) = (q : Int) := by rw [IntKind.wrap_i64]; omega
            have hq8 : (q : Int) < ((q + 1 : Nat) : Int) := by omega
            have hqq : q < q + 1 := by omega
            have HNN : Hid (Nest u5 lo _ _ gs2 vs2) := N5
            have HBB : Hid (Below w2.heap.size w2 u5) := B5
            have HXX : Hid (vs2[q]? = some x) := hx
            have HGQ : Hid (gs2[q]? = some gq) := hgq
            have HAP : Hid (some g ≠ x.ownBlock) := by
              rcases N5.apart hI with h | h
              · cases h
              · exact h
            have hgW : g < u5.heap.size := by omega
            obtain ⟨xa, xc, hxs⟩ := (show ∃ a c, x = .slice a gq.length c by
              rcases hI.form with ⟨rfl, rfl⟩ | ⟨_, _, rfl, _, _⟩
              · exact ⟨_, _, rfl⟩
              · exact ⟨_, _, rfl⟩)
            subst hxs
            clear N5 B5 hx hgq hI fm
            go_wp2_with (at_builtin; refine wpList_append_lies _ rfl _ _ 25 rfl lo 9 i0 (.string ⟨#[]⟩) 1 16 Tryz.underlying25 hi0 hz0 hz1 hz2 rfl (by decide) _ _ _ rfl hrow2 ⟨_, 0, none⟩ 1 1 [.string s] rfl rfl (cell_one_new _ _ _) (fun x hx => by simp at hx; subst hx; rfl) (by omega) (by unfold maxLen; omega) (by omega) (by simp; omega) _ rfl ?_)
            intro b6 c6 u6 ho6 hg6 hgo6 hlt6
            have eb : u6.heap[g]? = u5.heap[g]? := (hg6.block g (by simp; omega) HAP.out).trans (Below.heap_alloc _ _ _ hgW)
            have hc6 : u6.cell? ⟨g, q, none⟩ = some (.slice xa gq.length xc) := (World.cell?_of_block (w := u5) eb).trans hcl
            have hf6 : u6.frozen? ⟨g, q, none⟩ = false := (blk_frozenS eb q).trans (hfz q)
            have N6 := HNN.out
            have HN7 : Hid (Nest (u6.setCell ⟨g, q, none⟩ (.slice (some ⟨b6, 0, none⟩) (gq.length + 1) c6)) lo u6.heap.size (.slice (some ⟨g, 0, none⟩) (q + 1) c5) (grpK L nw ((p + 1) + 1)) (vs2.set q (.slice (some ⟨b6, 0, none⟩) (gq.length + 1) c6))) := by
              have h7 := Nest.put (gv := g) (cv := c5) (by rw [HGS.out]; exact N6) bB HXX.out HGQ.out hg6 (Strs.snoc ho6) (by rcases hgo6 with h | h; exact .inl h; exact .inr (by have h9 : b6 = u5.heap.size + 1 := (by simpa using h); omega))
              rw [HGS.out] at h7
              rw [grp_stepS HS.out HST.out HGS.out HGQ.out]
              exact h7
            have HB7 : Hid (Below w2.heap.size w2 (u6.setCell ⟨g, q, none⟩ (.slice (some ⟨b6, 0, none⟩) (gq.length + 1) c6))) := by
              have h1 : Below w2.heap.size w2 u6 := Below.grown (HBB.out.trans (bB.mono HBB.out.size)) hg6 (Nat.le_trans HBB.out.size bB.size) (fun j hj => Nat.le_trans hlo (World.ownsRow.lt hrow2 j hj).1)
              exact Below.grown h1 (setCell_grown u6 g q _) h1.size (fun j hj => by have : g = j := Option.some.inj hj; omega)
            clear N6 hg6 ho6 hgo6 hrow2 bB HNN HBB HXX HGQ HAP eb hfz hcl
            go_wp2
            exact ⟨⟨p + 1 + 1, _, _, _, by omega, by go_num, rfl, HKX.out, HN7.out, HB7.out⟩, by simp [intOf]; omega⟩
      · obtain rfl : k = L.length := by omega
        go_wp2
        go_ret2
        exact ⟨_, vs1, rfl, (hN.high hN.top (Nat.le_refl _)).low (by omega), HB2.out.trans (hbr.mono HB2.out.size)⟩
end Go.Proofs.YtanfebccenfffahGreatDoor
