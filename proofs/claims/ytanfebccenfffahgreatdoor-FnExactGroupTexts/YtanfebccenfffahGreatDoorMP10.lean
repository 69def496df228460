/- Texts of mine laid together: ToRD, EqEl, EqRules, MarkR1, BlkC, Blk, AStrs, WGroupTexts. -/
import Derived.Test.YtanfebccenfffahGreatDoorMP9
import Derived.Test.YtanfebccenfffahGreatDoorMarkR0
import Derived.Test.YtanfebccenfffahGreatDoorEl
import Derived.BigQuiet
import Derived.Deep.QuietTactic
import Derived.Deep.RegionHeld
import Derived.Test.YtanfebccenfffahGreatDoorEnts
import Derived.Test.YtanfebccenfffahGreatDoorEqI
import Derived.Deep.RegionHeldLaw
import Derived.WalkKit
import Derived.ProofKit
import Derived.OpenShut
import Derived.LaidMore
import Derived.Laws.OwnMore
import Derived.OwnWalk
import Derived.SliceStrings
import Derived.Test.YtanfebccenfffahGreatDoorMP8
namespace Go.Proofs.YtanfebccenfffahGreatDoor
open Go.RowKit

theorem entsD_made {w : World} {B : Nat} {v : Value} {n : Nat} (h : w.ownsRow B 64 5 v n (madeCells zCells (n * 5)).toList) : EntsD w B w.heap.size v (List.replicate n zEnt) := by
  refine ⟨List.replicate n (.slice none 0 0), by simp, ?_, fun k e he => ?_, fun i j x y _ hx _ => ?_, fun g hg => (World.ownsRow.lt h g hg).2, fun i x g hx hg => ?_⟩
  · rw [← made_ents, List.length_replicate]; exact h
  · have hk := (List.getElem?_eq_some_iff.1 he).1
    rw [List.length_replicate] at hk
    refine ⟨.slice none 0 0, by simp [hk], ?_⟩
    have : e = zEnt := by simp [hk] at he; exact he.symm
    subst this
    exact ⟨rfl, .inl ⟨rfl, rfl⟩⟩
  · have := (List.mem_replicate.1 (List.mem_of_getElem? hx)).2
    subst this
    exact .inl rfl
  · have := (List.mem_replicate.1 (List.mem_of_getElem? hx)).2
    subst this
    cases hg

theorem EntsD.high {w : World} {B T T' : Nat} {v : Value} {es : List Ent} (h : EntsD w B T v es) (hT : T ≤ T') : EntsD w B T' v es := by
  obtain ⟨xs, hl, h1, h2, h3, h4, h5⟩ := h
  exact ⟨xs, hl, h1, h2, h3, fun g hg => Nat.lt_of_lt_of_le (h4 g hg) hT, fun i x g hx hg => Nat.lt_of_lt_of_le (h5 i x g hx hg) hT⟩

theorem EntsD.low {w : World} {B B' T : Nat} {v : Value} {es : List Ent} (h : EntsD w B' T v es) (hB : B ≤ B') : EntsD w B T v es := by
  obtain ⟨xs, hl, h1, h2, h3, h4, h5⟩ := h
  refine ⟨xs, hl, ⟨h1.1, ?_⟩, fun k e he => ?_, h3, h4, h5⟩
  · rcases h1.2 with h | ⟨g, cap, cur, a, b, c⟩
    · exact .inl h
    · exact .inr ⟨g, cap, cur, a, Nat.le_trans hB b, c⟩
  · obtain ⟨x, hx, hI⟩ := h2 k e he
    exact ⟨x, hx, ints_low2 hI hB⟩

theorem EntsD.grown {u u' : World} {B T b : Nat} {v : Value} {es : List Ent} (h : EntsD u B T v es) (hg : u.grownBy u' (some b)) (hb : b < B) : EntsD u' B T v es := by
  obtain ⟨xs, hl, h1, h2, h3, h4, h5⟩ := h
  refine ⟨xs, hl, World.ownsRow.kept h1 hg ?_, fun k e he => ?_, h3, h4, h5⟩
  · cases e : v.ownBlock with
    | none => exact .inl rfl
    | some g => exact .inr fun c => by have := (World.ownsRow.lt h1 g e).1; cases c; omega
  · obtain ⟨x, hx, hI⟩ := h2 k e he
    exact ⟨x, hx, hI.away hg hb⟩

/-- An entry laid anew at its place, its list in a block of its own. -/
theorem EntsD.setAt {u : World} {B C T g cap n k : Nat} {es : List Ent} {x : Value} {e : Ent} (h : EntsD u B T (.slice (some ⟨g, 0, none⟩) n cap) es) (hn : es.length = n) (hk : k < n) (hI : Ints u C x e.runes) (hB : B ≤ C) (hC : T ≤ u.heap.size) (hTC : T ≤ C := by omega) :
    EntsD (set5 u g (k * 5) x e.el) B (set5 u g (k * 5) x e.el).heap.size (.slice (some ⟨g, 0, none⟩) n cap) (es.set k e) := by
  subst hn
  obtain ⟨xs, hl, h1, h2, h3, h4, h5⟩ := h
  have s1 := h1.stored (k * 5) x
  have s2 := s1.1.stored (k * 5 + 1) (.int .i64 e.el.first)
  have s3 := s2.1.stored (k * 5 + 2) (.int .i64 e.el.second)
  have s4 := s3.1.stored (k * 5 + 3) (.int .i64 e.el.third)
  have s5 := s4.1.stored (k * 5 + 4) (.bool e.el.varies)
  have hg := set5_grown u g (k * 5) x e.el
  have hsz := hg.size
  have hIB := ints_low2 hI hB
  have away : ∀ (j : Nat) (y : Value), j ≠ k → xs[j]? = some y → y.ownBlock = none ∨ y.ownBlock ≠ x.ownBlock := fun j y _ hy => by
    cases c : y.ownBlock with
    | none => exact .inl rfl
    | some b =>
      refine .inr fun e' => ?_
      have l1 := h5 j y b hy c
      have l2 := (World.ownsRow.lt hI b e'.symm).1
      omega
  refine ⟨xs.set k x, by simp [hl], ?_, fun j y hy => ?_, fun i j y z hij hy hz => ?_, fun b hb => ?_, fun i y b hy hb => ?_⟩
  · rw [entAll_set xs es k x e hl hk, List.length_set]
    exact s5.1
  · by_cases c : j = k
    · subst c
      rw [List.getElem?_set_self (by omega)] at hy
      cases hy
      exact ⟨x, by rw [List.getElem?_set_self (by omega)], World.ownsRow.kept hIB hg (own_type hIB h1 (by decide))⟩
    · rw [List.getElem?_set_ne (by omega)] at hy
      obtain ⟨z, hz, hzi⟩ := h2 j y hy
      exact ⟨z, by rw [List.getElem?_set_ne (by omega)]; exact hz, World.ownsRow.kept hzi hg (own_type hzi h1 (by decide))⟩
  · by_cases ci : i = k
    · subst ci
      rw [List.getElem?_set_self (by omega)] at hy
      cases hy
      rw [List.getElem?_set_ne hij] at hz
      rcases away j z (fun c => hij c.symm) hz with c | c
      · cases c2 : x.ownBlock with
        | none => exact .inl rfl
        | some b => exact .inr fun e' => by rw [c] at e'; cases e'
      · exact .inr fun e' => c e'.symm
    · rw [List.getElem?_set_ne (fun c => ci c.symm)] at hy
      by_cases cj : j = k
      · subst cj
        rw [List.getElem?_set_self (by omega)] at hz
        cases hz
        exact away i y ci hy
      · rw [List.getElem?_set_ne (fun c => cj c.symm)] at hz
        exact h3 i j y z hij hy hz
  · exact Nat.lt_of_lt_of_le (World.ownsRow.lt h1 b hb).2 hsz
  · by_cases ci : i = k
    · subst ci
      rw [List.getElem?_set_self (by omega)] at hy
      cases hy
      exact Nat.lt_of_lt_of_le (World.ownsRow.lt hI b hb).2 hsz
    · rw [List.getElem?_set_ne (fun c => ci c.symm)] at hy
      exact Nat.lt_of_lt_of_le (h5 i y b hy hb) (Nat.le_trans hC hsz)

def TDRel (w : World) (es : List Ent) (i : Value) (wr : World) : Prop :=
  ∃ k : Nat, k ≤ es.length ∧ i = .int .i64 k ∧ EntsD wr w.heap.size wr.heap.size (.slice (some ⟨w.heap.size, 0, none⟩) es.length es.length) (fillE es k) ∧ Below w.heap.size w wr

set_option maxRecDepth 100000 in
set_option maxHeartbeats 2000000 in
theorem toEntsD_any (w0 w : World) (a : Option Addr) (len cap : Nat) (es : List Ent) (hA : ArgEnts w0 a len cap es) (hb : Below w0.heap.size w0 w) (hm : len ≤ 1048576) (hr : ∀ e ∈ es, e.runes.length ≤ 1048576) :
    Calls Tryz.prog 20 #[.slice a len cap] w fun e w' => ∃ g, e = .returned (.slice (some ⟨g, 0, none⟩) len len) ∧ EntsD w' w.heap.size w'.heap.size (.slice (some ⟨g, 0, none⟩) len len) es ∧ Below w.heap.size w w' := by
  obtain ⟨hlen, hlc, hcm, hA⟩ := hA
  subst hlen
  obtain ⟨i0, hi, hz0, hz1, hz2⟩ := info_parts info_ent
  go_enter Tryz.func20, Tryz.ntmps20
  go_wp2_with (at_make; refine wpList_make_full _ rfl _ _ 31 rfl w.heap.size 64 i0 _ 5 Tryz.underlying31 hi hz0 hz1 .i64 .i64 _ _ es.length rfl rfl rfl rfl (by rw [hz2]; omega) (by unfold maxLen; omega) (Nat.le_refl _) ?_; intro w1 hown hgr)
  have hE1 : EntsD w1 w.heap.size w1.heap.size (.slice (some ⟨w.heap.size, 0, none⟩) es.length es.length) (fillE es 0) := by
    have := entsD_made hown
    simpa [fillE] using this
  have hb1 : Below w.heap.size w w1 := Below.grown (Below.refl _ _) hgr (Nat.le_refl _) (fun j hj => by cases hj)
  clear hown hgr
  go_loopw [4] (fun i wr => TDRel w es i wr) (fun i _ => es.length - (intOf i).toNat)
  case atStart => exact ⟨0, Nat.zero_le _, rfl, hE1, hb1⟩
  case round =>
    clear hE1 hb1
    obtain ⟨k, hk, rfl, hE, hbr⟩ := hrel
    by_cases hlt : k < es.length
    · obtain ⟨e, he⟩ : ∃ e, es[k]? = some e := ⟨_, List.getElem?_eq_getElem hlt⟩
      obtain ⟨b, o, rfl, hAE⟩ := hA.resolve_left (by omega)
      obtain ⟨ra, rl, rc, zs, hro, e1, e2, a0, a1, a2, a3, a4⟩ := (hAE k e he).below (hb.trans (hbr.mono hb.size))
      have hk8 : (k : Int) < (es.length : Int) := by omega
      have T := toEntry_any w0 wr ra rl rc zs e.el.first e.el.second e.el.third e.el.varies hro (hb.trans (hbr.mono hb.size)) (by have := hr e (List.mem_of_getElem? he); omega)
      rw [← e1] at T
      have HE : Hid (EntsD _ _ _ _ _) := hE
      have HG : Hid (es[k]? = some e) := he
      clear hAE he hro e1 e2 hr hE
      go_wp2_with fail
      refine T.mono ?_
      rintro e' w3 ⟨x, rfl, i3, b3⟩
      obtain ⟨xa, xn, xc, rfl⟩ : ∃ xa xn xc, x = .slice xa xn xc := by
        rcases i3.form with ⟨rfl, _⟩ | ⟨_, _, rfl, _, _⟩
        · exact ⟨_, _, _, rfl⟩
        · exact ⟨_, _, _, rfl⟩
      have hE3 := HE.out.below b3
      have hfl := fillE_len es k hk
      have hset := hE3.setAt (k := k) (x := .slice xa xn xc) (e := e) hfl hlt i3 hbr.size b3.size
      rw [fillE_set HG.out] at hset
      have HS : Hid (EntsD _ _ _ _ _) := hset
      have HB : Hid (Below _ _ _) := grown_ge (hbr.trans (b3.mono hbr.size)) (set5_grown w3 w.heap.size (k * 5) (.slice xa xn xc) e.el) (Nat.le_refl _)
      obtain ⟨xs, hxl, h1, _⟩ := hE3.ents
      rw [hfl] at h1
      obtain ⟨y, hy⟩ : ∃ y, (fillE es k)[k]? = some y := ⟨_, List.getElem?_eq_getElem (by omega)⟩
      have hE3' : Ents w3 w.heap.size (.slice (some ⟨w.heap.size, 0, none⟩) (fillE es k).length es.length) (fillE es k) := by rw [hfl]; exact (HE.out.below b3).ents
      obtain ⟨z, _, c0, c1, c2, c3, c4⟩ := hE3'.cells k y hy
      have f0 := h1.frozenAt (k * 5)
      have f1 := h1.frozenAt (k * 5 + 1)
      have f2 := h1.frozenAt (k * 5 + 2)
      have f3 := h1.frozenAt (k * 5 + 3)
      have f4 := h1.frozenAt (k * 5 + 4)
      clear T a0 a1 a2 a3 a4 HE HG hset hxl h1 hy hE3' b3 i3 hfl
      go_wp2
      exact ⟨⟨k + 1, hlt, by go_num, HS.out, HB.out⟩, by simp [intOf]; omega⟩
    · have hk3 : k = es.length := by omega
      subst hk3
      rw [fillE_all] at hE
      clear hA hr
      go_wp2
      go_ret
      exact ⟨_, rfl, hE, hbr⟩

set_option maxRecDepth 100000 in
set_option maxHeartbeats 2000000 in
theorem toRulesD_any (w0 w : World) (a : Option Addr) (len cap : Nat) (es : List Ent) (sh : Bool) (lv : Int) (hA : ArgEnts w0 a len cap es) (hb : Below w0.heap.size w0 w) (hm : len ≤ 1048576) (hr : ∀ e ∈ es, e.runes.length ≤ 1048576) :
    Calls Tryz.prog 7 #[.agg #[.slice a len cap, .bool sh, .int .i64 lv]] w fun e w' => ∃ g, e = .returned (.agg #[.slice (some ⟨g, 0, none⟩) len len, .bool sh, .int .i64 lv]) ∧ EntsD w' w.heap.size w'.heap.size (.slice (some ⟨g, 0, none⟩) len len) es ∧ Below w.heap.size w w' := by
  have hb3 := (((Below.refl w.heap.size w).alloc (Nat.le_refl _) (.cells #[.slice a len cap, .bool sh, .int .i64 lv] 24)).alloc (by simp) (.cells #[.slice none 0 0, .bool false, .int .i64 0] 33)).alloc (by simp; omega) (.cells #[.slice none 0 0, .bool false, .int .i64 0] 33)
  have T := toEntsD_any w0 _ a len cap es hA (hb.trans (hb3.mono hb.size)) hm hr
  have HX : Hid (TR _ _ _ _ _ _ _ _) := alloc3_heap w (.cells #[.slice a len cap, .bool sh, .int .i64 lv] 24) (.cells #[.slice none 0 0, .bool false, .int .i64 0] 33) (.cells #[.slice none 0 0, .bool false, .int .i64 0] 33)
  have HB : Hid (Below _ _ _) := hb3
  clear hb3 hb hA hr
  go_enter Tryz.func7, Tryz.ntmps7
  go_wp2_with fail
  refine T.mono ?_
  rintro e w3 ⟨g, rfl, i3, b3⟩
  have hx3 := HX.out.below b3
  have HI3 : Hid (EntsD w3 (w.heap.size + 1 + 1 + 1) w3.heap.size (.slice (some ⟨g, 0, none⟩) len len) es) := by show EntsD _ _ _ _ _; simpa using i3
  have HC3 : Hid (Below _ _ _) := HB.out.trans (b3.mono HB.out.size)
  obtain ⟨⟨l1, l2, l3⟩, ⟨a0, a1, a2⟩, ⟨q0, q1, q2, qf⟩, ⟨p0, p1, p2, pf⟩⟩ := hx3.facts
  clear T HX HB b3 i3 hx3
  go_wp2
  refine bodyPost_ret (v := .agg #[.slice (some ⟨g, 0, none⟩) len len, .bool sh, .int .i64 lv]) ?_ rfl ⟨_, rfl, ?_, ?_⟩
  · rw [results_cell1 rfl]
    go_simp
  · refine EntsD.low (B' := w.heap.size + 1 + 1 + 1) ?_ (by omega)
    refine EntsD.high (T := w3.heap.size) ?_ (by simp [World.setCell])
    iterate 6 (refine EntsD.grown ?_ (setCell_grown _ _ _ _) (by omega))
    exact HI3.out
  · iterate 6 (refine grown_ge ?_ (setCell_grown _ _ _ _) (by omega))
    exact HC3.out
end Go.Proofs.YtanfebccenfffahGreatDoor

namespace Go.Proofs.YtanfebccenfffahGreatDoor
open Go.RowKit

set_option maxRecDepth 100000 in
set_option maxHeartbeats 1000000 in
theorem eqElem_same (w : World) (a b c : Int) (d : Bool) : Calls Tryz.prog 58 #[.agg #[.int .i64 a, .int .i64 b, .int .i64 c, .bool d], .agg #[.int .i64 a, .int .i64 b, .int .i64 c, .bool d]] w fun e w' => e = .returned (.bool true) ∧ Below w.heap.size w w' := by
  go_enter Tryz.func58, Tryz.ntmps58
  go_wp2
  go_ret
  exact ⟨rfl, ((Below.refl _ _).alloc (Nat.le_refl _) _).alloc (by simp) _⟩
end Go.Proofs.YtanfebccenfffahGreatDoor

namespace Go.Proofs.YtanfebccenfffahGreatDoor
open Go.RowKit

set_option maxRecDepth 100000 in
set_option maxHeartbeats 2000000 in
theorem eqEnt_same {w : World} {B B' : Nat} {x y : Value} {l : List Int} (f s t : Int) (v : Bool) (hx : Ints w B x l) (hy : Ints w B' y l) :
    Calls Tryz.prog 38 #[.agg #[x, .int .i64 f, .int .i64 s, .int .i64 t, .bool v], .agg #[y, .int .i64 f, .int .i64 s, .int .i64 t, .bool v]] w fun e w' => e = .returned (.bool true) ∧ Below w.heap.size w w' := by
  obtain ⟨xa, xn, xc, rfl⟩ : ∃ xa xn xc, x = .slice xa xn xc := by
    rcases hx.form with ⟨rfl, _⟩ | ⟨_, _, rfl, _, _⟩
    · exact ⟨_, _, _, rfl⟩
    · exact ⟨_, _, _, rfl⟩
  obtain ⟨ya, yn, yc, rfl⟩ : ∃ ya yn yc, y = .slice ya yn yc := by
    rcases hy.form with ⟨rfl, _⟩ | ⟨_, _, rfl, _, _⟩
    · exact ⟨_, _, _, rfl⟩
    · exact ⟨_, _, _, rfl⟩
  have hb := ((Below.refl w.heap.size w).alloc (Nat.le_refl _) (.cells #[.slice xa xn xc, .int .i64 f, .int .i64 s, .int .i64 t, .bool v] 64)).alloc (by simp) (.cells #[.slice ya yn yc, .int .i64 f, .int .i64 s, .int .i64 t, .bool v] 64)
  have Q := eq_any (hx.below hb) (hy.below hb)
  have E := fun u => eqElem_same u f s t v
  have HB : Hid (Below _ _ _) := hb
  clear hb hx hy
  go_enter Tryz.func38, Tryz.ntmps38
  go_wp2_with fail
  refine Q.mono ?_
  rintro e w3 ⟨rfl, n3, rfl⟩
  clear Q
  go_wp2_with fail
  refine (E _).mono ?_
  rintro e w4 ⟨rfl, b4⟩
  have h3 := below_drewN HB.out n3
  clear E
  go_wp2
  go_ret
  exact ⟨rfl, h3.trans (b4.mono h3.size)⟩

set_option maxRecDepth 100000 in
set_option maxHeartbeats 1000000 in
theorem eqEs_none (w : World) (a b : Option Addr) (c d : Nat) : Calls Tryz.prog 23 #[.slice a 0 c, .slice b 0 d] w fun e w' => e = .returned (.bool true) ∧ Below w.heap.size w w' := by
  go_enter Tryz.func23, Tryz.ntmps23
  go_wp2
  go_loopw [5] (fun i wr => i = .int .i64 0 ∧ wr = w) (fun _ _ => 0)
  case atStart => exact ⟨rfl, rfl⟩
  case round =>
    obtain ⟨rfl, rfl⟩ := hrel
    go_wp2
    go_ret
    exact ⟨rfl, Below.refl _ _⟩

theorem keep10 {w0 w1 w2 : World} {g g' k xn xc yn yc : Nat} {xa ya : Option Addr} {e : Ent} (hg : g < w0.heap.size) (hg' : g' < w0.heap.size) (hb : Below w1.heap.size w1 w2)
    (h : w1.cell? ⟨g, k * 5, none⟩ = some (.slice xa xn xc) ∧ w1.cell? ⟨g, k * 5 + 1, none⟩ = some (.int .i64 e.el.first) ∧ w1.cell? ⟨g, k * 5 + 2, none⟩ = some (.int .i64 e.el.second) ∧ w1.cell? ⟨g, k * 5 + 3, none⟩ = some (.int .i64 e.el.third) ∧ w1.cell? ⟨g, k * 5 + 4, none⟩ = some (.bool e.el.varies) ∧ w1.cell? ⟨g', k * 5, none⟩ = some (.slice ya yn yc) ∧ w1.cell? ⟨g', k * 5 + 1, none⟩ = some (.int .i64 e.el.first) ∧ w1.cell? ⟨g', k * 5 + 2, none⟩ = some (.int .i64 e.el.second) ∧ w1.cell? ⟨g', k * 5 + 3, none⟩ = some (.int .i64 e.el.third) ∧ w1.cell? ⟨g', k * 5 + 4, none⟩ = some (.bool e.el.varies) ∧ Below w0.heap.size w0 w1) :
    w2.cell? ⟨g, k * 5, none⟩ = some (.slice xa xn xc) ∧ w2.cell? ⟨g, k * 5 + 1, none⟩ = some (.int .i64 e.el.first) ∧ w2.cell? ⟨g, k * 5 + 2, none⟩ = some (.int .i64 e.el.second) ∧ w2.cell? ⟨g, k * 5 + 3, none⟩ = some (.int .i64 e.el.third) ∧ w2.cell? ⟨g, k * 5 + 4, none⟩ = some (.bool e.el.varies) ∧ w2.cell? ⟨g', k * 5, none⟩ = some (.slice ya yn yc) ∧ w2.cell? ⟨g', k * 5 + 1, none⟩ = some (.int .i64 e.el.first) ∧ w2.cell? ⟨g', k * 5 + 2, none⟩ = some (.int .i64 e.el.second) ∧ w2.cell? ⟨g', k * 5 + 3, none⟩ = some (.int .i64 e.el.third) ∧ w2.cell? ⟨g', k * 5 + 4, none⟩ = some (.bool e.el.varies) ∧ Below w0.heap.size w0 w2 := by
  obtain ⟨a0, a1, a2, a3, a4, b0, b1, b2, b3, b4, h3⟩ := h
  have q1 : g < w1.heap.size := Nat.lt_of_lt_of_le hg h3.size
  have q2 : g' < w1.heap.size := Nat.lt_of_lt_of_le hg' h3.size
  exact ⟨by rw [hb.cell q1]; exact a0, by rw [hb.cell q1]; exact a1, by rw [hb.cell q1]; exact a2, by rw [hb.cell q1]; exact a3, by rw [hb.cell q1]; exact a4, by rw [hb.cell q2]; exact b0, by rw [hb.cell q2]; exact b1, by rw [hb.cell q2]; exact b2, by rw [hb.cell q2]; exact b3, by rw [hb.cell q2]; exact b4, h3.trans (hb.mono h3.size)⟩

def EsRel (w : World) (n : Nat) (i : Value) (wr : World) : Prop := ∃ k : Nat, k ≤ n ∧ i = .int .i64 k ∧ Below w.heap.size w wr

set_option maxRecDepth 100000 in
set_option maxHeartbeats 4000000 in
theorem eqEs_row (w0 : World) (B B' g g' cap cap' : Nat) (es : List Ent) (hz : es.length ≤ 1048576) (h1 : Ents w0 B (.slice (some ⟨g, 0, none⟩) es.length cap) es) (h2 : Ents w0 B' (.slice (some ⟨g', 0, none⟩) es.length cap') es) :
    Calls Tryz.prog 23 #[.slice (some ⟨g, 0, none⟩) es.length cap, .slice (some ⟨g', 0, none⟩) es.length cap'] w0 fun e w' => e = .returned (.bool true) ∧ Below w0.heap.size w0 w' := by
  have hg : g < w0.heap.size := by
    obtain ⟨xs, _, h3, _⟩ := h1
    exact (World.ownsRow.lt h3 g rfl).2
  have hg' : g' < w0.heap.size := by
    obtain ⟨xs, _, h3, _⟩ := h2
    exact (World.ownsRow.lt h3 g' rfl).2
  go_enter Tryz.func23, Tryz.ntmps23
  go_wp2
  go_loopw [5] (fun i wr => EsRel w0 es.length i wr) (fun i _ => es.length - (intOf i).toNat)
  case atStart => exact ⟨0, Nat.zero_le _, rfl, Below.refl _ _⟩
  case round =>
    obtain ⟨k, hk, rfl, hb⟩ := hrel
    by_cases hlt : k < es.length
    · obtain ⟨e, he⟩ : ∃ e, es[k]? = some e := ⟨_, List.getElem?_eq_getElem hlt⟩
      obtain ⟨x, hI, a0, a1, a2, a3, a4⟩ := h1.cells k e he
      obtain ⟨y, hJ, b0, b1, b2, b3, b4⟩ := h2.cells k e he
      obtain ⟨xa, xn, xc, rfl⟩ : ∃ xa xn xc, x = .slice xa xn xc := by
        rcases hI.form with ⟨rfl, _⟩ | ⟨_, _, rfl, _, _⟩
        · exact ⟨_, _, _, rfl⟩
        · exact ⟨_, _, _, rfl⟩
      obtain ⟨ya, yn, yc, rfl⟩ : ∃ ya yn yc, y = .slice ya yn yc := by
        rcases hJ.form with ⟨rfl, _⟩ | ⟨_, _, rfl, _, _⟩
        · exact ⟨_, _, _, rfl⟩
        · exact ⟨_, _, _, rfl⟩
      have hk8 : (k : Int) < (es.length : Int) := by omega
      have hS0 : w0.cell? ⟨g, k * 5, none⟩ = some (.slice xa xn xc) ∧ w0.cell? ⟨g, k * 5 + 1, none⟩ = some (.int .i64 e.el.first) ∧ w0.cell? ⟨g, k * 5 + 2, none⟩ = some (.int .i64 e.el.second) ∧ w0.cell? ⟨g, k * 5 + 3, none⟩ = some (.int .i64 e.el.third) ∧ w0.cell? ⟨g, k * 5 + 4, none⟩ = some (.bool e.el.varies) ∧ w0.cell? ⟨g', k * 5, none⟩ = some (.slice ya yn yc) ∧ w0.cell? ⟨g', k * 5 + 1, none⟩ = some (.int .i64 e.el.first) ∧ w0.cell? ⟨g', k * 5 + 2, none⟩ = some (.int .i64 e.el.second) ∧ w0.cell? ⟨g', k * 5 + 3, none⟩ = some (.int .i64 e.el.third) ∧ w0.cell? ⟨g', k * 5 + 4, none⟩ = some (.bool e.el.varies) ∧ Below w0.heap.size w0 w0 := ⟨a0, a1, a2, a3, a4, b0, b1, b2, b3, b4, Below.refl _ _⟩
      have hS := keep10 hg hg' hb hS0
      have hS2 := keep10 hg hg' ((Below.refl wr.heap.size wr).drew) hS
      have EQ := fun (u : World) (hu : u.cell? ⟨g, k * 5, none⟩ = some (.slice xa xn xc) ∧ u.cell? ⟨g, k * 5 + 1, none⟩ = some (.int .i64 e.el.first) ∧ u.cell? ⟨g, k * 5 + 2, none⟩ = some (.int .i64 e.el.second) ∧ u.cell? ⟨g, k * 5 + 3, none⟩ = some (.int .i64 e.el.third) ∧ u.cell? ⟨g, k * 5 + 4, none⟩ = some (.bool e.el.varies) ∧ u.cell? ⟨g', k * 5, none⟩ = some (.slice ya yn yc) ∧ u.cell? ⟨g', k * 5 + 1, none⟩ = some (.int .i64 e.el.first) ∧ u.cell? ⟨g', k * 5 + 2, none⟩ = some (.int .i64 e.el.second) ∧ u.cell? ⟨g', k * 5 + 3, none⟩ = some (.int .i64 e.el.third) ∧ u.cell? ⟨g', k * 5 + 4, none⟩ = some (.bool e.el.varies) ∧ Below w0.heap.size w0 u) => eqEnt_same e.el.first e.el.second e.el.third e.el.varies (hI.below hu.2.2.2.2.2.2.2.2.2.2) (hJ.below hu.2.2.2.2.2.2.2.2.2.2)
      have K := fun (u1 u2 : World) (hb : Below u1.heap.size u1 u2) (hu : u1.cell? ⟨g, k * 5, none⟩ = some (.slice xa xn xc) ∧ u1.cell? ⟨g, k * 5 + 1, none⟩ = some (.int .i64 e.el.first) ∧ u1.cell? ⟨g, k * 5 + 2, none⟩ = some (.int .i64 e.el.second) ∧ u1.cell? ⟨g, k * 5 + 3, none⟩ = some (.int .i64 e.el.third) ∧ u1.cell? ⟨g, k * 5 + 4, none⟩ = some (.bool e.el.varies) ∧ u1.cell? ⟨g', k * 5, none⟩ = some (.slice ya yn yc) ∧ u1.cell? ⟨g', k * 5 + 1, none⟩ = some (.int .i64 e.el.first) ∧ u1.cell? ⟨g', k * 5 + 2, none⟩ = some (.int .i64 e.el.second) ∧ u1.cell? ⟨g', k * 5 + 3, none⟩ = some (.int .i64 e.el.third) ∧ u1.cell? ⟨g', k * 5 + 4, none⟩ = some (.bool e.el.varies) ∧ Below w0.heap.size w0 u1) => keep10 hg hg' hb hu
      clear he h1 h2 a0 a1 a2 a3 a4 b0 b1 b2 b3 b4 hI hJ hS0
      go_wp2_with fail
      go_region_held (fun u => u.cell? ⟨g, k * 5, none⟩ = some (.slice xa xn xc) ∧ u.cell? ⟨g, k * 5 + 1, none⟩ = some (.int .i64 e.el.first) ∧ u.cell? ⟨g, k * 5 + 2, none⟩ = some (.int .i64 e.el.second) ∧ u.cell? ⟨g, k * 5 + 3, none⟩ = some (.int .i64 e.el.third) ∧ u.cell? ⟨g, k * 5 + 4, none⟩ = some (.bool e.el.varies) ∧ u.cell? ⟨g', k * 5, none⟩ = some (.slice ya yn yc) ∧ u.cell? ⟨g', k * 5 + 1, none⟩ = some (.int .i64 e.el.first) ∧ u.cell? ⟨g', k * 5 + 2, none⟩ = some (.int .i64 e.el.second) ∧ u.cell? ⟨g', k * 5 + 3, none⟩ = some (.int .i64 e.el.third) ∧ u.cell? ⟨g', k * 5 + 4, none⟩ = some (.bool e.el.varies) ∧ Below w0.heap.size w0 u)
        (first | exact hS2 | exact K _ _ (by assumption) (by assumption))
        (first | (go_at_call 38; refine (EQ _ (by assumption)).mono ?_; rintro e w' ⟨rfl, hbw⟩))
      all_goals
        have hE := (show w'.cell? ⟨g, k * 5, none⟩ = _ ∧ _ ∧ _ ∧ _ ∧ _ ∧ _ ∧ _ ∧ _ ∧ _ ∧ _ ∧ Below w0.heap.size w0 w' by assumption).2.2.2.2.2.2.2.2.2.2
        clear hS hS2 EQ K
        go_wp2
        exact ⟨⟨k + 1, by omega, by go_num, hE⟩, by simp [intOf]; omega⟩
    · go_wp2
      go_ret
      exact ⟨rfl, hb⟩

theorem eqEs_any {w : World} {B B' : Nat} {a b : Value} {es : List Ent} (hz : es.length ≤ 1048576) (ha : Ents w B a es) (hb : Ents w B' b es) :
    Calls Tryz.prog 23 #[a, b] w fun e w' => e = .returned (.bool true) ∧ Below w.heap.size w w' := by
  rcases ha.form with ⟨rfl, rfl⟩ | ⟨g, cap, rfl, h1, h2, _, _⟩
  · rcases hb.form with ⟨rfl, _⟩ | ⟨g', cap', rfl, _, _, _, _⟩
    · exact eqEs_none w _ _ _ _
    · exact eqEs_none w _ _ _ _
  · rcases hb.form with ⟨rfl, rfl⟩ | ⟨g', cap', rfl, _, _, _, _⟩
    · exact eqEs_none w _ _ _ _
    · exact eqEs_row w B B' g g' cap cap' es hz ha hb

set_option maxRecDepth 100000 in
set_option maxHeartbeats 2000000 in
theorem eqRules_same {w : World} {B B' : Nat} {a b : Value} {es : List Ent} (sh : Bool) (lv : Int) (hz : es.length ≤ 1048576) (ha : Ents w B a es) (hb : Ents w B' b es) :
    Calls Tryz.prog 11 #[.agg #[a, .bool sh, .int .i64 lv], .agg #[b, .bool sh, .int .i64 lv]] w fun e w' => e = .returned (.bool true) ∧ Below w.heap.size w w' := by
  obtain ⟨xa, xn, xc, rfl⟩ : ∃ xa xn xc, a = .slice xa xn xc := by
    rcases ha.form with ⟨rfl, _⟩ | ⟨_, _, rfl, _, _, _, _⟩
    · exact ⟨_, _, _, rfl⟩
    · exact ⟨_, _, _, rfl⟩
  obtain ⟨ya, yn, yc, rfl⟩ : ∃ ya yn yc, b = .slice ya yn yc := by
    rcases hb.form with ⟨rfl, _⟩ | ⟨_, _, rfl, _, _, _, _⟩
    · exact ⟨_, _, _, rfl⟩
    · exact ⟨_, _, _, rfl⟩
  have hw := ((Below.refl w.heap.size w).alloc (Nat.le_refl _) (.cells #[.slice xa xn xc, .bool sh, .int .i64 lv] 33)).alloc (by simp) (.cells #[.slice ya yn yc, .bool sh, .int .i64 lv] 33)
  have Q := eqEs_any hz (ha.below hw) (hb.below hw)
  have HX : Hid (_ ∧ _) := And.intro (show ((w.alloc (.cells #[.slice xa xn xc, .bool sh, .int .i64 lv] 33)).alloc (.cells #[.slice ya yn yc, .bool sh, .int .i64 lv] 33)).heap[w.heap.size]? = some (.cells #[.slice xa xn xc, .bool sh, .int .i64 lv] 33) by rw [Below.heap_alloc _ _ _ (by simp)]; exact heap_alloc_new w _) (heap_alloc2_new w (.cells #[.slice xa xn xc, .bool sh, .int .i64 lv] 33) (.cells #[.slice ya yn yc, .bool sh, .int .i64 lv] 33))
  have HB : Hid (Below _ _ _) := hw
  clear hw ha hb
  go_enter Tryz.func11, Tryz.ntmps11
  go_wp2_with fail
  refine Q.mono ?_
  rintro e w3 ⟨rfl, b3⟩
  have k1 : w3.heap[w.heap.size]? = some (.cells #[.slice xa xn xc, .bool sh, .int .i64 lv] 33) := by rw [b3.block _ (by simp; omega)]; exact HX.out.1
  have k2 : w3.heap[w.heap.size + 1]? = some (.cells #[.slice ya yn yc, .bool sh, .int .i64 lv] 33) := by rw [b3.block _ (by simp)]; exact HX.out.2
  have c1 := cell_of_row _ _ 1 _ _ _ k1
  have c2 := cell_of_row _ _ 2 _ _ _ k1
  have d1 := cell_of_row _ _ 1 _ _ _ k2
  have d2 := cell_of_row _ _ 2 _ _ _ k2
  have HC : Hid (Below _ _ _) := HB.out.trans (b3.mono HB.out.size)
  clear Q k1 k2 HX HB b3
  go_wp2
  go_ret
  exact ⟨rfl, HC.out⟩
end Go.Proofs.YtanfebccenfffahGreatDoor

namespace Go.Proofs.YtanfebccenfffahGreatDoor
open Go.RowKit

theorem endM_ge : ∀ (es : List Ent) (m : Int), m ≤ endM es m
  | [], _ => Int.le_refl _
  | e :: es, m => by
    have := endM_ge es (m + (e.runes.length : Int) + 1 + 1 + 1 + 1)
    unfold endM
    omega

theorem endM_szEs : ∀ (es : List Ent) (m left : Int), 0 ≤ left → 0 ≤ szEs es left → endM es m ≤ m + left + 4 * (es.length : Int)
  | [], m, left, h0, _ => by unfold endM; simp; omega
  | e :: es, m, left, h0, h => by
    unfold szEs at h
    split at h
    · omega
    · rename_i c
      have hb := szL_bd c
      rw [hb.1] at h
      have := endM_szEs es (m + (e.runes.length : Int) + 1 + 1 + 1 + 1) (left - (e.runes.length : Int)) hb.2 h
      unfold endM
      rw [List.length_cons]
      omega

theorem endM_szA {es : List Ent} {m left : Int} (h : 0 ≤ szA es left) : endM es m ≤ m + left + 4 * (es.length : Int) := by
  unfold szA at h
  split at h
  · omega
  · have := endM_szEs es m (left - (es.length : Int)) (by omega) h
    omega

def MRel1 (w : World) (B T : Nat) (v : Value) (es : List Ent) (m0 : Int) (kv i : Value) (wr : World) : Prop :=
  ∃ (j : Nat) (m : Int) (done : List Ent), j ≤ es.length ∧ i = .int .i64 j ∧ kv = .int .i64 m ∧ 0 ≤ m ∧ m ≤ endM es m0 ∧ done.length = j ∧ EntsD wr B T v (done ++ es.drop j) ∧
    done ++ markEs (es.drop j) m = markEs es m0 ∧ endM (es.drop j) m = endM es m0 ∧ Mid B T w wr

set_option maxRecDepth 100000 in
set_option maxHeartbeats 4000000 in
theorem markEs1_row (w : World) (B T g cap : Nat) (es : List Ent) (m0 : Int) (hm0 : 0 ≤ m0) (hm1 : endM es m0 ≤ 1073741824) (hz : es.length ≤ 1048576) (hE : EntsD w B T (.slice (some ⟨g, 0, none⟩) es.length cap) es) :
    Calls Tryz.prog 24 #[.slice (some ⟨g, 0, none⟩) es.length cap, .int .i64 m0] w fun e w' => e = .returned (.int .i64 (endM es m0)) ∧ EntsD w' B T (.slice (some ⟨g, 0, none⟩) es.length cap) (markEs es m0) ∧ Mid B T w w' := by
  go_enter Tryz.func24, Tryz.ntmps24
  go_wp2
  go_loopw [1, 5] (fun kv i wr => MRel1 w B T (.slice (some ⟨g, 0, none⟩) es.length cap) es m0 kv i wr) (fun _ i _ => es.length - (intOf i).toNat)
  case atStart => exact ⟨0, m0, [], Nat.zero_le _, rfl, rfl, hm0, endM_ge _ _, rfl, by simpa using hE, by simp, by simp, Mid.refl _ _ _⟩
  case round =>
    clear hE
    obtain ⟨j, m, done, hj, rfl, rfl, hmm0, hmm1, hdl, hED, hmk, hend, hbw⟩ := hrel
    have HMK : Hid _ := hmk
    have HEND : Hid _ := hend
    clear hmk hend
    by_cases hlt : j < es.length
    · obtain ⟨e, he⟩ : ∃ e, es[j]? = some e := ⟨_, List.getElem?_eq_getElem hlt⟩
      have hdr := ents_drop he
      have hge : m + (e.runes.length : Int) + 1 + 1 + 1 + 1 ≤ endM es m0 := by
        rw [← HEND.out, hdr]
        exact endM_ge _ _
      have hlen : (done ++ es.drop j).length = es.length := by rw [List.length_append, hdl, List.length_drop]; omega
      have hat : (done ++ es.drop j)[j]? = some e := by rw [List.getElem?_append_right (by omega), hdl, Nat.sub_self, hdr]; rfl
      obtain ⟨xs, hxl, h1, h2, h3, h4, h5⟩ := hED
      obtain ⟨x, hx, hI⟩ := h2 j e hat
      rw [hlen] at h1
      obtain ⟨xa, xn, xc, rfl⟩ : ∃ xa xn xc, x = .slice xa xn xc := by
        rcases hI.form with ⟨rfl, _⟩ | ⟨_, _, rfl, _, _⟩
        · exact ⟨_, _, _, rfl⟩
        · exact ⟨_, _, _, rfl⟩
      have at' : ∀ i, i < 5 → wr.cell? ⟨g, j * 5 + i, none⟩ = (entC (.slice xa xn xc) e.el)[i]? := fun i hi => by
        rw [World.ownsRow.cellAt h1 (j * 5 + i) (by omega), entAll_at xs _ j i _ e hx hat hi]
      have a0 : wr.cell? ⟨g, j * 5, none⟩ = some (.slice xa xn xc) := at' 0 (by omega)
      have hj8 : (j : Int) < (es.length : Int) := by omega
      have MK := markK_any (m := m) hmm0 (by omega) (by omega) hI
      obtain ⟨M, hM⟩ : ∃ M, M = m + (e.runes.length : Int) := ⟨_, rfl⟩
      rw [← hM] at MK
      have hMb : 0 ≤ M ∧ M ≤ 1073741824 := by omega
      obtain ⟨hMb0, hMb1⟩ := hMb
      have HM : Hid _ := hM
      have HX : Hid _ := hx
      have HE : Hid _ := he
      have HDR : Hid _ := hdr
      have HLEN : Hid _ := hlen
      have HAT : Hid _ := hat
      have H1 : Hid _ := h1
      have H2 : Hid _ := h2
      have H3 : Hid _ := h3
      have H4 : Hid (g < T) := h4 g rfl
      have H5 : Hid _ := h5
      have HXL : Hid _ := hxl
      have HI : Hid (Ints _ _ _ _) := hI
      clear hM hx he hdr hlen hat h1 h2 h3 h4 h5 hxl hI at'
      go_wp2_with fail
      refine MK.mono ?_
      rintro e' w3 ⟨rfl, i3, g3⟩
      have k1 := World.ownsRow.kept H1.out g3 (own_type H1.out HI.out (by decide))
      have at3 : ∀ i, i < 5 → w3.cell? ⟨g, j * 5 + i, none⟩ = (entC (.slice xa xn xc) e.el)[i]? := fun i hi => by
        rw [World.ownsRow.cellAt k1 (j * 5 + i) (by omega), entAll_at xs _ j i _ e HX.out HAT.out hi]
      have c1 : w3.cell? ⟨g, j * 5 + 1, none⟩ = some (.int .i64 e.el.first) := at3 1 (by omega)
      have c2 : w3.cell? ⟨g, j * 5 + 2, none⟩ = some (.int .i64 e.el.second) := at3 2 (by omega)
      have c3 : w3.cell? ⟨g, j * 5 + 3, none⟩ = some (.int .i64 e.el.third) := at3 3 (by omega)
      have c4 : w3.cell? ⟨g, j * 5 + 4, none⟩ = some (.bool e.el.varies) := at3 4 (by omega)
      have f1 := k1.frozenAt (j * 5 + 1)
      have f2 := k1.frozenAt (j * 5 + 2)
      have f3 := k1.frozenAt (j * 5 + 3)
      have f4 := k1.frozenAt (j * 5 + 4)
      have hD := entsD_mark (el := mkR M) HLEN.out HXL.out H1.out H2.out H3.out H4.out H5.out hlt HX.out (.inr ⟨_, HI.out⟩) i3 g3
      have hset : (done ++ es.drop j).set j ⟨seqK m e.runes.length, mkR M⟩ = (done ++ [⟨seqK m e.runes.length, mkR M⟩]) ++ es.drop (j + 1) := by
        rw [List.set_append_right _ _ (by omega), hdl, Nat.sub_self, HDR.out, List.set_cons_zero]; simp
      rw [hset] at hD
      have hgB := (World.ownsRow.lt H1.out g rfl).1
      have hb3 : Mid B T w w3 := hbw.grown g3 (fun jj hjj => ⟨(World.ownsRow.lt HI.out jj hjj).1, H5.out j _ jj HX.out hjj⟩)
      have hb4 : Mid B T w (set4 w3 g (j * 5) (mkR M)) := hb3.grown (set4_grown w3 g (j * 5) (mkR M)) (fun jj hjj => by cases hjj; exact ⟨hgB, H4.out⟩)
      have HD : Hid (EntsD _ _ _ _ _) := hD
      have HB4 : Hid (Mid _ _ _ _) := hb4
      have HMK2 : Hid ((done ++ [⟨seqK m e.runes.length, mkR M⟩]) ++ markEs (es.drop (j + 1)) (M + 1 + 1 + 1 + 1) = markEs es m0) := by
        show _ = _
        rw [← HMK.out, HDR.out, HM.out]
        simp [markEs]
      have HEND2 : Hid (endM (es.drop (j + 1)) (M + 1 + 1 + 1 + 1) = endM es m0) := by
        show _ = _
        rw [← HEND.out, HDR.out, HM.out]
        rfl
      have HBD : Hid (M + 1 + 1 + 1 + 1 ≤ endM es m0) := by show _ ≤ _; have := HM.out; omega
      have HDL : Hid ((done ++ [(⟨seqK m e.runes.length, mkR M⟩ : Ent)]).length = j + 1) := by show _ = _; simp [hdl]
      clear MK k1 at3 hD hset hb3 hb4 HMK HEND HM HX HE HDR HLEN HAT H1 H2 H3 H4 H5 HXL HI i3 g3 a0 hdl
      go_wp2
      exact ⟨⟨j + 1, M + 1 + 1 + 1 + 1, _, hlt, by go_num, rfl, by omega, HBD.out, HDL.out, HD.out, HMK2.out, HEND2.out, HB4.out⟩, by simp [intOf]; omega⟩
    · have hjz : j = es.length := by omega
      subst hjz
      have e1 : es.drop es.length = [] := List.drop_length
      have HF : Hid (m = endM es m0) := by show _ = _; rw [← HEND.out, e1]; rfl
      have HG : Hid (done = markEs es m0) := by show _ = _; rw [← HMK.out, e1]; simp [markEs]
      rw [e1, List.append_nil] at hED
      clear HMK HEND e1
      go_wp2
      go_ret
      rw [← HF.out, ← HG.out]
      exact ⟨rfl, hED, hbw⟩

theorem markEs1_any {w : World} {B T : Nat} {v : Value} {es : List Ent} {m0 : Int} (hm0 : 0 ≤ m0) (hm1 : endM es m0 ≤ 1073741824) (hz : es.length ≤ 1048576) (hE : EntsD w B T v es) :
    Calls Tryz.prog 24 #[v, .int .i64 m0] w fun e w' => e = .returned (.int .i64 (endM es m0)) ∧ EntsD w' B T v (markEs es m0) ∧ Mid B T w w' := by
  rcases hE.ents.form with ⟨rfl, rfl⟩ | ⟨g, cap, rfl, _, _, _, _⟩
  · refine (markEs_none w _ _ m0).mono ?_
    rintro e w' ⟨rfl, rfl⟩
    exact ⟨rfl, hE, Mid.refl _ _ _⟩
  · exact markEs1_row w B T g cap es m0 hm0 hm1 hz hE

set_option maxRecDepth 100000 in
set_option maxHeartbeats 1000000 in
theorem markRules1_any {w : World} {B T : Nat} {v : Value} {es : List Ent} {m0 : Int} (sh : Bool) (lv : Int) (hm0 : 0 ≤ m0) (hm1 : endM es m0 ≤ 1073741824) (hz : es.length ≤ 1048576) (hE : EntsD w B T v es) :
    Calls Tryz.prog 13 #[.agg #[v, .bool sh, .int .i64 lv], .int .i64 m0] w fun e w' => e = .returned (.int .i64 (endM es m0)) ∧ EntsD w' B T v (markEs es m0) ∧ Mid B T w w' := by
  obtain ⟨xa, xn, xc, rfl⟩ : ∃ xa xn xc, v = .slice xa xn xc := by
    rcases hE.ents.form with ⟨rfl, _⟩ | ⟨_, _, rfl, _, _, _, _⟩
    · exact ⟨_, _, _, rfl⟩
    · exact ⟨_, _, _, rfl⟩
  have hb := (Below.refl w.heap.size w).alloc (Nat.le_refl _) (.cells #[.slice xa xn xc, .bool sh, .int .i64 lv] 33)
  have M := markEs1_any (m0 := m0) hm0 hm1 hz (hE.below hb)
  have HB : Hid (Mid B T _ _) := Mid.of hb
  clear hb hE
  go_enter Tryz.func13, Tryz.ntmps13
  go_wp2_with fail
  refine M.mono ?_
  rintro e w3 ⟨rfl, i3, b3⟩
  clear M
  go_wp2
  go_ret
  exact ⟨rfl, i3, HB.out.trans b3⟩

end Go.Proofs.YtanfebccenfffahGreatDoor

namespace Go.Proofs.YtanfebccenfffahGreatDoor
open Go.RowKit

/-- A block and what it holds. -/
def Blk (w : World) (g : Nat) (cs : Array Value) (t : TypeId) : Prop := w.heap[g]? = some (.cells cs t)
theorem Blk.below {w w' : World} {g : Nat} {cs : Array Value} {t : TypeId} (h : Blk w g cs t) (hb : Below w.heap.size w w') : Blk w' g cs t := by
  unfold Blk
  rw [hb.block g (Array.getElem?_eq_some_iff.1 h).1]; exact h
theorem Blk.three {w : World} {g : Nat} {x y z : Value} {t : TypeId} (h : Blk w g #[x, y, z] t) : w.cell? ⟨g, 0, none⟩ = some x ∧ w.cell? ⟨g, 1, none⟩ = some y ∧ w.cell? ⟨g, 2, none⟩ = some z :=
  ⟨cell_of_row _ _ 0 _ _ _ h, cell_of_row _ _ 1 _ _ _ h, cell_of_row _ _ 2 _ _ _ h⟩
theorem Blk.lt {w : World} {g : Nat} {cs : Array Value} {t : TypeId} (h : Blk w g cs t) : g < w.heap.size := (Array.getElem?_eq_some_iff.1 h).1

theorem Ents.slice {w : World} {B : Nat} {v : Value} {es : List Ent} (h : Ents w B v es) : ∃ a n c, v = .slice a n c := by
  rcases h.form with ⟨rfl, _⟩ | ⟨_, _, rfl, _, _, _, _⟩
  · exact ⟨_, _, _, rfl⟩
  · exact ⟨_, _, _, rfl⟩

/-- What stands in the last region: the two boxes. -/
theorem keep6 {w0 w1 w2 : World} {g g' : Nat} {x y z x' y' z' : Value} (hg : g < w0.heap.size) (hg' : g' < w0.heap.size) (hb : Below w1.heap.size w1 w2)
    (h : w1.cell? ⟨g, 0, none⟩ = some x ∧ w1.cell? ⟨g, 1, none⟩ = some y ∧ w1.cell? ⟨g, 2, none⟩ = some z ∧ w1.cell? ⟨g', 0, none⟩ = some x' ∧ w1.cell? ⟨g', 1, none⟩ = some y' ∧ w1.cell? ⟨g', 2, none⟩ = some z' ∧ Below w0.heap.size w0 w1) :
    w2.cell? ⟨g, 0, none⟩ = some x ∧ w2.cell? ⟨g, 1, none⟩ = some y ∧ w2.cell? ⟨g, 2, none⟩ = some z ∧ w2.cell? ⟨g', 0, none⟩ = some x' ∧ w2.cell? ⟨g', 1, none⟩ = some y' ∧ w2.cell? ⟨g', 2, none⟩ = some z' ∧ Below w0.heap.size w0 w2 := by
  obtain ⟨a0, a1, a2, b0, b1, b2, h3⟩ := h
  have q1 : g < w1.heap.size := Nat.lt_of_lt_of_le hg h3.size
  have q2 : g' < w1.heap.size := Nat.lt_of_lt_of_le hg' h3.size
  exact ⟨by rw [hb.cell q1]; exact a0, by rw [hb.cell q1]; exact a1, by rw [hb.cell q1]; exact a2, by rw [hb.cell q2]; exact b0, by rw [hb.cell q2]; exact b1, by rw [hb.cell q2]; exact b2, h3.trans (hb.mono h3.size)⟩
end Go.Proofs.YtanfebccenfffahGreatDoor

namespace Go.Proofs.YtanfebccenfffahGreatDoor
open Go.RowKit

theorem Blk.mid {w w' : World} {g B T : Nat} {cs : Array Value} {t : TypeId} (h : Blk w g cs t) (hm : Mid B T w w') (hg : g < B ∨ T ≤ g) : Blk w' g cs t := by
  unfold Blk
  rw [hm.block g (Array.getElem?_eq_some_iff.1 h).1 hg]; exact h
end Go.Proofs.YtanfebccenfffahGreatDoor

namespace Go.Proofs.YtanfebccenfffahGreatDoor
open Go.ChangeShapes Go.WideShapes Go.ChangeAt Go.WideMaps Go.WideElems Go.RowKit

/-- A list of strings handed in. -/
def ArgStrs (w : World) (a : Option Addr) (len cap : Nat) (ss : List ByteArray) : Prop :=
  ss.length = len ∧ len ≤ cap ∧ cap ≤ maxLen ∧ (∀ s ∈ ss, s.size ≤ maxLen) ∧ (len = 0 ∨ ∃ b o, a = some ⟨b, o, none⟩ ∧ ∀ (k : Nat) (x : ByteArray), ss[k]? = some x → w.cell? ⟨b, o + k, none⟩ = some (.string x))

theorem spot_none2 {w : World} {a : Addr} {v : Value} (h : w.cell? a = some v) : a.spot = none := by
  unfold World.cell? at h
  split at h
  · cases hs : a.spot with
    | none => rfl
    | some x => simp [hs] at h
  · simp at h

section
variable {H : Type} {enc : TypeId × Value → H} {w : World} {base : Nat}

theorem open_strings4 {n : Nat} {a : Option Addr} {len cap : Nat} {x : DataW H × List MemPlace} (h : DataW.trod enc Tryz.prog w base (fun _ => true) true n 25 [.slice a len cap] = some x) : ∃ ss, ArgStrs w a len cap ss := by
  rcases open_strings Tryz.underlying25 Tryz.underlying9 (by kernel_rfl) h with ⟨hcs, _⟩ | ⟨a', len', cap', ss, hcs, _, hl, hm, hss, _, hx, hz⟩
  · cases hcs
    exact ⟨[], rfl, Nat.le_refl _, Nat.zero_le _, by simp, .inl rfl⟩
  · cases hcs
    simp only [if_true] at hss
    refine ⟨ss.take len, by rw [List.length_take]; omega, hl, hm, fun s hs => hz s (List.mem_of_mem_take hs), ?_⟩
    by_cases h0 : len = 0
    · exact .inl h0
    · right
      have hsp : a'.spot = none := by
        have := spot_none2 (hx 0 (by omega))
        simpa [Addr.add] using this
      obtain ⟨b, o, sp⟩ := a'
      simp at hsp
      subst hsp
      refine ⟨b, o, rfl, fun k y hy => ?_⟩
      rw [List.getElem?_take] at hy
      split at hy
      · have hk := (List.getElem?_eq_some_iff.1 hy).1
        have h2 := hx k hk
        have e1 : (⟨b, o, none⟩ : Addr).add k = ⟨b, o + k, none⟩ := by
          unfold Addr.add
          split
          · rename_i hk0; subst hk0; rfl
          · rfl
        rw [e1] at h2
        rw [h2, List.getD, hy]
        rfl
      · cases hy
end

def szT : List ByteArray → Int → Int
  | [], left => left
  | s :: ss, left => if left - (s.size : Int) < 0 then -1 else szT ss (left - (s.size : Int))

def szSA (ss : List ByteArray) (left : Int) : Int := if left - (ss.length : Int) < 0 then -1 else szT ss (left - (ss.length : Int))

theorem szT_bd : ∀ (ss : List ByteArray) (left : Int), 0 ≤ left → 0 ≤ szT ss left → ∀ s ∈ ss, (s.size : Int) ≤ left
  | [], _, _, _ => fun e he => by simp at he
  | x :: ss, left, h0, h => fun e he => by
    unfold szT at h
    split at h
    · omega
    · rcases List.mem_cons.1 he with rfl | he
      · omega
      · have := szT_bd ss _ (by omega) h e he
        omega

theorem szSA_bd {ss : List ByteArray} {left : Int} (h : 0 ≤ szSA ss left) : (ss.length : Int) ≤ left ∧ ∀ s ∈ ss, (s.size : Int) ≤ left := by
  unfold szSA at h
  split at h
  · omega
  · refine ⟨by omega, fun e he => ?_⟩
    have := szT_bd ss _ (by omega) h e he
    omega

theorem str_drop {ss : List ByteArray} {k : Nat} {x : ByteArray} (h : ss[k]? = some x) : ss.drop k = x :: ss.drop (k + 1) := by
  obtain ⟨hk, rfl⟩ := List.getElem?_eq_some_iff.1 h
  exact List.drop_eq_getElem_cons hk

theorem cell_lt2 {w : World} {b o : Nat} {v : Value} (h : w.cell? ⟨b, o, none⟩ = some v) : b < w.heap.size := by
  apply Classical.byContradiction
  intro hn
  have : w.heap[b]? = none := by simp; omega
  simp [World.cell?, this] at h

set_option maxRecDepth 100000 in
set_option maxHeartbeats 2000000 in
theorem szStrs_any (w w1 : World) (a : Option Addr) (len cap : Nat) (ss : List ByteArray) (left : Int) (h0 : 0 ≤ left) (h1 : left ≤ 1048576) (hA : ArgStrs w a len cap ss) (hb : Below w.heap.size w w1) :
    Calls Tryz.prog 5 #[.slice a len cap, .int .i64 left] w1 fun e w' => e = .returned (.int .i64 (szSA ss left)) ∧ w' = w1 := by
  obtain ⟨hlen, hlc, hcm, hsz, hA⟩ := hA
  unfold maxLen at hcm hsz
  by_cases hneg : left - (len : Int) < 0
  · have HA : Hid (szSA ss left = -1) := by show _ = _; unfold szSA; rw [hlen, if_pos hneg]
    clear hA
    go_enter Tryz.func5, Tryz.ntmps5
    go_wp2
    go_ret
    rw [HA.out]
    exact ⟨rfl, rfl⟩
  · have HA : Hid (szSA ss left = szT ss (left - (len : Int))) := by show _ = _; unfold szSA; rw [hlen, if_neg hneg]
    subst hlen
    obtain ⟨ans, HANS⟩ : ∃ ans, Hid (szT ss (left - (ss.length : Int)) = ans) := ⟨_, rfl⟩
    rw [HA.out, HANS.out]
    go_enter Tryz.func5, Tryz.ntmps5
    go_wp2
    go_loop [1, 5] (fun lv i => ∃ (k : Nat) (lf : Int), k ≤ ss.length ∧ i = .int .i64 k ∧ lv = .int .i64 lf ∧ 0 ≤ lf ∧ lf ≤ 1048576 ∧ szT (ss.drop k) lf = ans) (fun _ i => ss.length - (intOf i).toNat)
    case atStart => exact ⟨0, _, Nat.zero_le _, rfl, rfl, by omega, by omega, by rw [List.drop_zero]; exact HANS.out⟩
    case round =>
      obtain ⟨k, lf, hk, rfl, rfl, hf0, hf1, hR⟩ := hrel
      have HR : Hid _ := hR
      clear hR
      by_cases hlt : k < ss.length
      · obtain ⟨x, hx⟩ : ∃ x, ss[k]? = some x := ⟨_, List.getElem?_eq_getElem hlt⟩
        obtain ⟨b, o, rfl, hE⟩ := hA.resolve_left (by omega)
        have c0 := hE k x hx
        have a0 : w1.cell? ⟨b, o + k, none⟩ = some (.string x) := by rw [hb.cell (cell_lt2 c0)]; exact c0
        have hxs := hsz x (List.mem_of_getElem? hx)
        have hk8 : (k : Int) < (ss.length : Int) := by omega
        have HR2 : Hid ((if lf - (x.size : Int) < 0 then -1 else szT (ss.drop (k + 1)) (lf - (x.size : Int))) = ans) := by
          show _ = _
          rw [← HR.out, str_drop hx]
          rfl
        clear hE hx c0 HR hsz
        by_cases hs : lf - (x.size : Int) < 0
        · have HF : Hid (-1 = ans) := by show _ = _; rw [← HR2.out, if_pos hs]
          clear HR2
          go_wp2
          go_ret
          rw [← HF.out]
          exact ⟨rfl, rfl⟩
        · have HF : Hid (szT (ss.drop (k + 1)) (lf - (x.size : Int)) = ans) := by show _ = _; rw [← HR2.out, if_neg hs]
          clear HR2
          go_wp2
          exact ⟨⟨k + 1, _, hlt, by go_num, rfl, by omega, by omega, HF.out⟩, by simp [intOf]; omega⟩
      · have hk3 : k = ss.length := by omega
        subst hk3
        have HF : Hid (lf = ans) := by show _ = _; rw [← HR.out, List.drop_length]; rfl
        clear HR hA hsz
        go_wp2
        go_ret
        rw [← HF.out]
        exact ⟨rfl, rfl⟩

def fillS (ss : List ByteArray) (k : Nat) : List ByteArray := ss.take k ++ List.replicate (ss.length - k) ⟨#[]⟩

theorem fillS_len (ss : List ByteArray) (k : Nat) (h : k ≤ ss.length) : (fillS ss k).length = ss.length := by
  unfold fillS
  rw [List.length_append, List.length_take, List.length_replicate]; omega

theorem fillS_set {ss : List ByteArray} {k : Nat} {e : ByteArray} (h : ss[k]? = some e) : (fillS ss k).set k e = fillS ss (k + 1) := by
  have hk := (List.getElem?_eq_some_iff.1 h).1
  unfold fillS
  rw [List.set_append_right _ _ (by simp; omega), List.length_take, show k - min k ss.length = 0 by omega, show ss.length - k = (ss.length - (k + 1)) + 1 by omega, List.replicate_succ, List.set_cons_zero, List.take_add_one, h]
  simp

theorem fillS_all (ss : List ByteArray) : fillS ss ss.length = ss := by simp [fillS]

theorem made_strs (n : Nat) : (madeCells (Value.string ⟨#[]⟩).cells (n * 1)).toList = (List.replicate n (⟨#[]⟩ : ByteArray)).map Value.string := by
  have h := toList_madeCells_one (Value.string ⟨#[]⟩) n
  simpa [Value.cells] using h

set_option maxRecDepth 100000 in
set_option maxHeartbeats 2000000 in
theorem toStrs_any (w0 w : World) (a : Option Addr) (len cap : Nat) (ss : List ByteArray) (hA : ArgStrs w0 a len cap ss) (hb : Below w0.heap.size w0 w) (hm : len ≤ 1048576) :
    Calls Tryz.prog 8 #[.slice a len cap] w fun e w' => ∃ g, e = .returned (.slice (some ⟨g, 0, none⟩) len len) ∧ Strs w' w.heap.size (.slice (some ⟨g, 0, none⟩) len len) ss ∧ Below w.heap.size w w' := by
  obtain ⟨hlen, hlc, hcm, _, hA⟩ := hA
  subst hlen
  obtain ⟨i0, hi, hz0, hz1, hz2⟩ := info_parts info_str
  go_enter Tryz.func8, Tryz.ntmps8
  go_wp2_with (at_make; refine wpList_make_full _ rfl _ _ 25 rfl w.heap.size 9 i0 (.string ⟨#[]⟩) 1 Tryz.underlying25 hi hz0 hz1 .i64 .i64 _ _ ss.length rfl rfl rfl rfl (by rw [hz2]; omega) (by unfold maxLen; omega) (Nat.le_refl _) ?_; intro w1 hown hgr)
  have hE1 : w1.ownsRow w.heap.size 9 1 (.slice (some ⟨w.heap.size, 0, none⟩) ss.length ss.length) ss.length ((fillS ss 0).map Value.string) := by
    rw [made_strs] at hown
    simpa [fillS] using hown
  have hb1 : Below w.heap.size w w1 := Below.grown (Below.refl _ _) hgr (Nat.le_refl _) (fun j hj => by cases hj)
  clear hown hgr
  go_loopw [4] (fun i wr => ∃ k : Nat, k ≤ ss.length ∧ i = .int .i64 k ∧ wr.ownsRow w.heap.size 9 1 (.slice (some ⟨w.heap.size, 0, none⟩) ss.length ss.length) ss.length ((fillS ss k).map Value.string) ∧ Below w.heap.size w wr) (fun i _ => ss.length - (intOf i).toNat)
  case atStart => exact ⟨0, Nat.zero_le _, rfl, hE1, hb1⟩
  case round =>
    clear hE1 hb1
    obtain ⟨k, hk, rfl, hown, hbr⟩ := hrel
    by_cases hlt : k < ss.length
    · obtain ⟨x, hx⟩ : ∃ x, ss[k]? = some x := ⟨_, List.getElem?_eq_getElem hlt⟩
      obtain ⟨b, o, rfl, hE⟩ := hA.resolve_left (by omega)
      have c0 := hE k x hx
      have a0 : wr.cell? ⟨b, o + k, none⟩ = some (.string x) := by rw [(hb.trans (hbr.mono hb.size)).cell (cell_lt2 c0)]; exact c0
      have hk8 : (k : Int) < (ss.length : Int) := by omega
      have c1 := hown.cellAt k (by omega)
      have hm2 : ((fillS ss k).map Value.string)[k]? = some (.string ((fillS ss k)[k]?.getD ⟨#[]⟩)) := by
        have := fillS_len ss k hk
        simp [this, hlt]
      rw [hm2] at c1
      have c2 := hown.frozenAt k
      have hst := hown.stored k (.string x)
      have e1 : ((fillS ss k).map Value.string).set k (.string x) = (fillS ss (k + 1)).map Value.string := by rw [← fillS_set hx, List.map_set]
      rw [e1] at hst
      have HST : Hid _ := hst
      clear hst hm2 hE hx c0 e1 hown
      go_wp2
      exact ⟨⟨k + 1, by omega, by go_num, HST.out.1, Below.grown hbr HST.out.2 hbr.size (fun j hj => by cases hj; exact Nat.le_refl _)⟩, by simp [intOf]; omega⟩
    · have hkz : k = ss.length := by omega
      subst hkz
      rw [fillS_all] at hown
      clear hA
      go_wp2
      go_ret
      exact ⟨_, rfl, hown, hbr⟩
end Go.Proofs.YtanfebccenfffahGreatDoor

namespace Go.Proofs.YtanfebccenfffahGreatDoor
open Go.RowKit

theorem row_mid {w w' : World} {B T B' n k : Nat} {t : TypeId} {v : Value} {l : List Value} (h : w.ownsRow B' t k v n l) (hm : Mid B T w w') (ha : ∀ g, v.ownBlock = some g → g < B ∨ T ≤ g) : w'.ownsRow B' t k v n l := by
  refine ⟨h.1, ?_⟩
  rcases h.2 with h2 | ⟨g, cap, cur, h1, h2, h3, h4⟩
  · exact .inl h2
  · refine .inr ⟨g, cap, cur, h1, h2, ?_, h4⟩
    rw [hm.block g (Array.getElem?_eq_some_iff.1 h3).1 (ha g (by rw [h1]; rfl))]; exact h3

theorem rows_apart {w w' : World} {B B' n n' k k' : Nat} {t t' : TypeId} {v v' : Value} {l l' : List Value} (h : w.ownsRow B t k v n l) (h' : w'.ownsRow B' t' k' v' n' l') (hB : w.heap.size ≤ B') : v.ownBlock = none ∨ v.ownBlock ≠ v'.ownBlock := by
  cases c : v.ownBlock with
  | none => exact .inl rfl
  | some j =>
    refine .inr fun e => ?_
    have l1 := (World.ownsRow.lt h j c).2
    have l2 := (World.ownsRow.lt h' j e.symm).1
    omega

theorem apart_symm {v v' : Value} (h : v.ownBlock = none ∨ v.ownBlock ≠ v'.ownBlock) : v'.ownBlock = none ∨ v'.ownBlock ≠ v.ownBlock := by
  cases c : v'.ownBlock with
  | none => exact .inl rfl
  | some j =>
    refine .inr fun e => ?_
    rcases h with h | h
    · rw [h] at e; cases e
    · exact h (by rw [c]; exact e.symm)

theorem szEs_le : ∀ (es : List Ent) (left : Int), 0 ≤ left → szEs es left ≤ left
  | [], _, _ => Int.le_refl _
  | e :: es, left, h => by
    unfold szEs
    split
    · omega
    · rename_i c
      have hb := szL_bd c
      rw [hb.1]
      have := szEs_le es (left - (e.runes.length : Int)) hb.2
      omega

theorem szA_le (es : List Ent) (left : Int) (h : 0 ≤ left) : szA es left ≤ left := by
  unfold szA
  split
  · omega
  · have := szEs_le es (left - (es.length : Int)) (by omega)
    omega

set_option maxRecDepth 100000 in
set_option maxHeartbeats 8000000 in
theorem groupTexts_walk (w : World) (a : Option Addr) (len cap : Nat) (es : List Ent) (sh : Bool) (lv : Int) (al : Option Addr) (ln lc : Nat) (ss : List ByteArray) (hA : ArgEnts w a len cap es) (hS : ArgStrs w al ln lc ss)
    (I : ∀ (u : World) (B B' : Nat) (v vl : Value), Below w.heap.size w u → Ents u B v es → (∀ e ∈ es, e.runes.length ≤ 1048576) → Strs u B' vl ss → (∀ s ∈ ss, s.size ≤ 1048576) → ss.length ≤ 1048576 → Calls Tryz.prog 9 #[.agg #[v, .bool sh, .int .i64 lv], vl] u fun e w' => ∃ v' vs, e = .returned (.tuple #[v', .bool (okS es lv ss)]) ∧ Nest w' u.heap.size w'.heap.size v' (grpS es sh lv ss) vs ∧ Below u.heap.size u w') :
    Calls Tryz.prog 3 #[.agg #[.slice a len cap, .bool sh, .int .i64 lv], .slice al ln lc] w fun e w' => e = .returned (.bool true) ∧ Below w.heap.size w w' := by
  have hb1 := (Below.refl w.heap.size w).alloc (Nat.le_refl _) (.cells #[.slice a len cap, .bool sh, .int .i64 lv] 24)
  have hx1 : Blk (w.alloc (.cells #[.slice a len cap, .bool sh, .int .i64 lv] 24)) w.heap.size #[.slice a len cap, .bool sh, .int .i64 lv] 24 := heap_alloc_new _ _
  have S := szRules_any w _ a len cap es sh lv 1048576 (by omega) (by omega) hA hb1
  have HA : Hid (ArgEnts w a len cap es) := hA
  have HSA : Hid (ArgStrs w al ln lc ss) := hS
  have HI : Hid _ := I
  have HB1 : Hid (Below _ _ _) := hb1
  have HX1 : Hid (Blk _ _ _ _) := hx1
  have hszle := szA_le es 1048576 (by omega)
  clear hA I hb1 hx1 hS
  by_cases hneg : szA es 1048576 < 0
  · generalize szA es 1048576 = sz at *
    go_enter Tryz.func3, Tryz.ntmps3
    go_wp2_with fail
    refine S.mono ?_
    rintro e w2 ⟨rfl, b2⟩
    clear S
    go_wp2
    go_ret
    exact ⟨rfl, HB1.out.trans (b2.mono HB1.out.size)⟩
  have hbd := szA_bd (es := es) (left := 1048576) (by omega)
  have hem := endM_szA (es := es) (m := 1) (left := 1048576) (by omega)
  have hle : len ≤ 1048576 := by have := HA.out.1; omega
  have HR : Hid (∀ e ∈ es, e.runes.length ≤ 1048576) := fun e he => by have := hbd.2 e he; omega
  have hel : es.length ≤ 1048576 := by omega
  have hpos := endM_ge es 1
  obtain ⟨en, HEN⟩ : ∃ en : Nat, Hid (endM es 1 = (en : Int)) := ⟨(endM es 1).toNat, by show _ = _; omega⟩
  rw [HEN.out] at hem hpos
  clear hbd
  generalize szA es 1048576 = sz at *
  have SS := fun (u : World) (hu : Below w.heap.size w u) => szStrs_any w u al ln lc ss sz (by omega) hszle HSA.out hu
  by_cases hneg2 : szSA ss sz < 0
  · generalize szSA ss sz = sz2 at *
    go_enter Tryz.func3, Tryz.ntmps3
    go_wp2_with fail
    refine S.mono ?_
    rintro e w2 ⟨rfl, b2⟩
    have hb2 := HB1.out.trans (b2.mono HB1.out.size)
    clear S b2
    go_wp2_with fail
    refine (SS _ hb2).mono ?_
    rintro e w3 ⟨rfl, hw3⟩
    obtain rfl : w2 = w3 := hw3.symm
    clear SS
    go_wp2
    go_ret
    exact ⟨rfl, hb2⟩
  · have hbd2 := szSA_bd (ss := ss) (left := sz) (by omega)
    have hln : ln ≤ 1048576 := by have := HSA.out.1; omega
    have hsl : ss.length ≤ 1048576 := by omega
    have HSZ : Hid (∀ s ∈ ss, s.size ≤ 1048576) := fun s hs => by have := hbd2.2 s hs; omega
    clear hbd2
    generalize szSA ss sz = sz2 at *
    have T := fun (u : World) (hu : Below w.heap.size w u) => toRules_any w u a len cap es sh lv HA.out hu hle HR.out
    have TD := fun (u : World) (hu : Below w.heap.size w u) => toRulesD_any w u a len cap es sh lv HA.out hu hle HR.out
    have TS := fun (u : World) (hu : Below w.heap.size w u) => toStrs_any w u al ln lc ss HSA.out hu hln
    have A0 := fun (u : World) (B B' : Nat) (v vl : Value) (h : Ents u B v es) (h' : Strs u B' vl ss) => specGrp_any (sh := sh) (lv := lv) ss h HR.out h' HSZ.out hsl
    have I0 := fun (u : World) (B B' : Nat) (v vl : Value) (hu : Below w.heap.size w u) (h : Ents u B v es) (h' : Strs u B' vl ss) => HI.out u B B' v vl hu h HR.out h' HSZ.out hsl
    have hll := grpS_len es sh lv ss
    have htt := grpS_tot es sh lv ss
    have HZZ : Hid (∀ g ∈ grpS es sh lv ss, g.length ≤ 1048576) := fun g hg => by have := tot_mem hg; omega
    generalize grpS es sh lv ss = rs at *
    generalize okS es lv ss = ok at *
    have hlns : ss.length = ln := HSA.out.1
    have HLNS : Hid (ss.length = ln) := hlns
    have HA0 : Hid _ := A0
    have HI0 : Hid _ := I0
    have HTD : Hid _ := TD
    clear A0 I0 HI TD hlns
    go_enter Tryz.func3, Tryz.ntmps3
    go_wp2_with fail
    refine S.mono ?_
    rintro e w2 ⟨rfl, b2⟩
    clear S
    have HX2 : Hid (Blk _ _ _ _) := HX1.out.below b2
    have HB2 : Hid (Below _ _ _) := HB1.out.trans (b2.mono HB1.out.size)
    clear HX1 HB1 b2
    go_wp2_with fail
    refine (SS _ HB2.out).mono ?_
    rintro e w2' ⟨rfl, hw2⟩
    obtain rfl : w2 = w2' := hw2.symm
    obtain ⟨p0, p1, p2⟩ := HX2.out.three
    clear SS
    go_wp2_with fail
    refine (T _ HB2.out).mono ?_
    rintro e w3 ⟨g3, rfl, i3, b3⟩
    have HX3 : Hid (Blk _ _ _ _) := HX2.out.below b3
    have HB3 : Hid (Below _ _ _) := HB2.out.trans (b3.mono HB2.out.size)
    have HI3 : Hid (Ents _ _ _ _) := i3
    clear p0 p1 p2 HX2 HB2 b3 i3
    go_wp2_with fail
    refine (TS _ HB3.out).mono ?_
    rintro e w4 ⟨g4, rfl, s4, b4⟩
    have HX4 : Hid (Blk _ _ _ _) := HX3.out.below b4
    have HB4 : Hid (Below _ _ _) := HB3.out.trans (b4.mono HB3.out.size)
    have A := HA0.out _ _ _ _ _ (HI3.out.below b4) s4
    clear HX3 HB3 HI3 b4 s4 HA0
    go_wp2_with fail
    refine A.mono ?_
    rintro e w5 ⟨v5, vs5, rfl, r5, b5⟩
    have HX5 : Hid (Blk _ _ _ _) := HX4.out.below b5
    have HB5 : Hid (Below _ _ _) := HB4.out.trans (b5.mono HB4.out.size)
    have H55 : Hid (Nest w5 w4.heap.size w5.heap.size v5 rs vs5) := r5
    have HXL : Hid (w.heap.size < w5.heap.size) := HX5.out.lt
    obtain ⟨p0, p1, p2⟩ := HX5.out.three
    clear A HX4 HB4 b5 r5
    go_wp2_with fail
    refine (HTD.out _ HB5.out).mono ?_
    rintro e w6 ⟨g6, rfl, d6, b6⟩
    have b67 := (Below.refl w6.heap.size w6).alloc (Nat.le_refl _) (.cells #[.slice (some ⟨g6, 0, none⟩) len len, .bool sh, .int .i64 lv] 33)
    have HX7 : Hid (Blk _ _ _ _) := (HX5.out.below b6).below b67
    have HY7 : Hid (Blk (w6.alloc (.cells #[.slice (some ⟨g6, 0, none⟩) len len, .bool sh, .int .i64 lv] 33)) w6.heap.size #[.slice (some ⟨g6, 0, none⟩) len len, .bool sh, .int .i64 lv] 33) := heap_alloc_new _ _
    have H57 : Hid (Below _ _ _) := b6.trans (b67.mono b6.size)
    have HB6 := HB5.out.trans (b6.mono HB5.out.size)
    have HB7 : Hid (Below _ _ _) := HB6.trans (b67.mono HB6.size)
    have D7 : Hid (EntsD _ _ _ _ _) := d6.below b67
    have HS7 : Hid (w6.heap.size < (w6.alloc (.cells #[.slice (some ⟨g6, 0, none⟩) len len, .bool sh, .int .i64 lv] 33)).heap.size) := by show _ < _; simp
    have HS56 : Hid (w5.heap.size ≤ w6.heap.size) := b6.size
    clear p0 p1 p2 HX5 b6 b67 d6 HB6 HTD
    go_wp2_with fail
    refine (TS _ HB7.out).mono ?_
    rintro e w8 ⟨g8, rfl, s8, b8⟩
    have HX8 : Hid (Blk _ _ _ _) := HX7.out.below b8
    have HY8 : Hid (Blk _ _ _ _) := HY7.out.below b8
    have HB8 : Hid (Below _ _ _) := HB7.out.trans (b8.mono HB7.out.size)
    have D8 : Hid (EntsD _ _ _ _ _) := D7.out.below b8
    have H58 : Hid (Below _ _ _) := H57.out.trans (b8.mono H57.out.size)
    have H88 : Hid (Strs w8 _ (.slice (some ⟨g8, 0, none⟩) ln ln) ss) := s8
    have G := HI0.out _ _ _ _ _ HB8.out D8.out.ents s8
    have HA8 : Hid (w6.heap.size < g8) := by show _ < _; have := (World.ownsRow.lt s8 g8 rfl).1; have := HS7.out; omega
    obtain ⟨q0, q1, q2⟩ := HY8.out.three
    clear HX7 HY7 HB7 D7 H57 b8 s8
    go_wp2_with fail
    refine G.mono ?_
    rintro e w9 ⟨v9, vs9, rfl, r9, b9⟩
    have HX9 : Hid (Blk _ _ _ _) := HX8.out.below b9
    have HY9 : Hid (Blk _ _ _ _) := HY8.out.below b9
    have HB9 : Hid (Below _ _ _) := HB8.out.trans (b9.mono HB8.out.size)
    have D9 : Hid (EntsD _ _ _ _ _) := D8.out.below b9
    have H59 : Hid (Below _ _ _) := H58.out.trans (b9.mono H58.out.size)
    have H89 : Hid (Strs w9 _ (.slice (some ⟨g8, 0, none⟩) ln ln) ss) := H88.out.below b9
    have H99 : Hid (Nest w9 w8.heap.size w9.heap.size v9 rs vs9) := r9
    have HLT : Hid (w5.heap.size ≤ w8.heap.size ∧ w.heap.size < w8.heap.size ∧ w6.heap.size ≤ w8.heap.size ∧ g8 < w8.heap.size ∧ w5.heap.size ≤ g8 ∧ w8.heap.size ≤ w9.heap.size) := by
      have := H58.out.size; have := HXL.out; have := HS56.out; have := HA8.out; have := (World.ownsRow.lt H88.out g8 rfl).2; have := b9.size
      exact ⟨by omega, by omega, by omega, by omega, by omega, by omega⟩
    have E9 := eqSS_any r9 (H55.out.below H59.out) (by omega) HZZ.out
    clear G HX8 HY8 HB8 D8 H58 H88 b9 r9 q0 q1 q2
    go_wp2_with fail
    refine E9.mono ?_
    rintro e w10 ⟨rfl, nqb10, hqb10⟩
    have b10 : Below w9.heap.size w9 w10 := by rw [hqb10]; exact below_drewN (Below.refl _ _) nqb10
    clear hqb10
    have hx10 := HX9.out.below b10
    have hy10 := HY9.out.below b10
    have HB10 : Hid (Below _ _ _) := HB9.out.trans (b10.mono HB9.out.size)
    have D10 : Hid (EntsD _ _ _ _ _) := D9.out.below b10
    have H510 : Hid (Below _ _ _) := H59.out.trans (b10.mono H59.out.size)
    have H810 : Hid (Strs w10 _ (.slice (some ⟨g8, 0, none⟩) ln ln) ss) := H89.out.below b10
    have H910 : Hid (Nest w10 w8.heap.size w9.heap.size v9 rs vs9) := H99.out.below b10
    obtain ⟨p0, p1, p2⟩ := hx10.three
    obtain ⟨q0, q1, q2⟩ := hy10.three
    have hgx := hx10.lt
    have hgy := hy10.lt
    have HX10 : Hid (Blk _ _ _ _) := hx10
    have HY10 : Hid (Blk _ _ _ _) := hy10
    have hS : w10.cell? ⟨w.heap.size, 0, none⟩ = some (.slice a len cap) ∧ w10.cell? ⟨w.heap.size, 1, none⟩ = some (.bool sh) ∧ w10.cell? ⟨w.heap.size, 2, none⟩ = some (.int .i64 lv) ∧ w10.cell? ⟨w6.heap.size, 0, none⟩ = some (.slice (some ⟨g6, 0, none⟩) len len) ∧ w10.cell? ⟨w6.heap.size, 1, none⟩ = some (.bool sh) ∧ w10.cell? ⟨w6.heap.size, 2, none⟩ = some (.int .i64 lv) ∧ Below w10.heap.size w10 w10 := ⟨p0, p1, p2, q0, q1, q2, Below.refl _ _⟩
    have hS2 := keep6 hgx hgy ((Below.refl w10.heap.size w10).drew) hS
    have K := fun (u1 u2 : World) (hb : Below u1.heap.size u1 u2) (hu : u1.cell? ⟨w.heap.size, 0, none⟩ = some (.slice a len cap) ∧ u1.cell? ⟨w.heap.size, 1, none⟩ = some (.bool sh) ∧ u1.cell? ⟨w.heap.size, 2, none⟩ = some (.int .i64 lv) ∧ u1.cell? ⟨w6.heap.size, 0, none⟩ = some (.slice (some ⟨g6, 0, none⟩) len len) ∧ u1.cell? ⟨w6.heap.size, 1, none⟩ = some (.bool sh) ∧ u1.cell? ⟨w6.heap.size, 2, none⟩ = some (.int .i64 lv) ∧ Below w10.heap.size w10 u1) => keep6 hgx hgy hb hu
    have T2 := fun (u : World) (hu : u.cell? ⟨w.heap.size, 0, none⟩ = some (.slice a len cap) ∧ u.cell? ⟨w.heap.size, 1, none⟩ = some (.bool sh) ∧ u.cell? ⟨w.heap.size, 2, none⟩ = some (.int .i64 lv) ∧ u.cell? ⟨w6.heap.size, 0, none⟩ = some (.slice (some ⟨g6, 0, none⟩) len len) ∧ u.cell? ⟨w6.heap.size, 1, none⟩ = some (.bool sh) ∧ u.cell? ⟨w6.heap.size, 2, none⟩ = some (.int .i64 lv) ∧ Below w10.heap.size w10 u) => T u (HB10.out.trans (hu.2.2.2.2.2.2.mono HB10.out.size))
    have EQ := fun (u : World) (B : Nat) (g : Nat) (hu : u.cell? ⟨w.heap.size, 0, none⟩ = some (.slice a len cap) ∧ u.cell? ⟨w.heap.size, 1, none⟩ = some (.bool sh) ∧ u.cell? ⟨w.heap.size, 2, none⟩ = some (.int .i64 lv) ∧ u.cell? ⟨w6.heap.size, 0, none⟩ = some (.slice (some ⟨g6, 0, none⟩) len len) ∧ u.cell? ⟨w6.heap.size, 1, none⟩ = some (.bool sh) ∧ u.cell? ⟨w6.heap.size, 2, none⟩ = some (.int .i64 lv) ∧ Below w10.heap.size w10 u) (he : Ents u B (.slice (some ⟨g, 0, none⟩) len len) es) => eqRules_same sh lv hel (D10.out.ents.below hu.2.2.2.2.2.2) he
    have HT : Hid _ := T
    clear E9 HX9 HY9 HB9 D9 H59 H89 H99 b10 hx10 hy10 T p0 p1 p2 q0 q1 q2
    go_wp2_with fail
    go_region_held (fun u => u.cell? ⟨w.heap.size, 0, none⟩ = some (.slice a len cap) ∧ u.cell? ⟨w.heap.size, 1, none⟩ = some (.bool sh) ∧ u.cell? ⟨w.heap.size, 2, none⟩ = some (.int .i64 lv) ∧ u.cell? ⟨w6.heap.size, 0, none⟩ = some (.slice (some ⟨g6, 0, none⟩) len len) ∧ u.cell? ⟨w6.heap.size, 1, none⟩ = some (.bool sh) ∧ u.cell? ⟨w6.heap.size, 2, none⟩ = some (.int .i64 lv) ∧ Below w10.heap.size w10 u)
      (first | exact hS2 | exact K _ _ (by assumption) (by assumption))
      (first | (go_at_call 7; refine (T2 _ (by assumption)).mono ?_; rintro e w' ⟨g, rfl, hEn, hbw⟩) | (go_at_call 11; refine (EQ _ _ _ (by assumption) (by assumption)).mono ?_; rintro e w' ⟨rfl, hbw⟩))
    all_goals
      have hE := (show w'.cell? ⟨w.heap.size, 0, none⟩ = _ ∧ _ ∧ _ ∧ _ ∧ _ ∧ _ ∧ Below w10.heap.size w10 w' by assumption).2.2.2.2.2.2
      clear hS hS2 EQ K T2
      have HX11 : Hid (Blk _ _ _ _) := HX10.out.below hE
      have HY11 : Hid (Blk _ _ _ _) := HY10.out.below hE
      have HB11 : Hid (Below _ _ _) := HB10.out.trans (hE.mono HB10.out.size)
      have D11 : Hid (EntsD _ _ _ _ _) := D10.out.below hE
      have H511 : Hid (Below _ _ _) := H510.out.trans (hE.mono H510.out.size)
      have H811 : Hid (Strs w' _ (.slice (some ⟨g8, 0, none⟩) ln ln) ss) := H810.out.below hE
      have H911 : Hid (Nest w' w8.heap.size w9.heap.size v9 rs vs9) := H910.out.below hE
      clear HX10 HY10 HB10 D10 H510 H810 H910 hE
      go_wp2_with fail
      refine (TS _ HB11.out).mono ?_
      rintro e w12 ⟨g12, rfl, s12, b12⟩
      have E12 := eqStr_any hsl (H811.out.below b12) s12
      have HB12 : Hid (Below _ _ _) := HB11.out.trans (b12.mono HB11.out.size)
      have H512 : Hid (Below _ _ _) := H511.out.trans (b12.mono H511.out.size)
      have HX12 : Hid (Blk _ _ _ _) := HX11.out.below b12
      have HY12 : Hid (Blk _ _ _ _) := HY11.out.below b12
      have D12 : Hid (EntsD _ _ _ _ _) := D11.out.below b12
      have H812 : Hid (Strs w12 _ (.slice (some ⟨g8, 0, none⟩) ln ln) ss) := H811.out.below b12
      have H912 : Hid (Nest w12 w8.heap.size w9.heap.size v9 rs vs9) := H911.out.below b12
      clear HX11 HY11 HB11 D11 H511 H811 H911 b12 s12
      go_wp2_with fail
      refine E12.mono ?_
      rintro e w13 ⟨rfl, nqb13, hqb13⟩
      have b13 : Below w12.heap.size w12 w13 := by rw [hqb13]; exact below_drewN (Below.refl _ _) nqb13
      clear hqb13
      have HB13 : Hid (Below _ _ _) := HB12.out.trans (b13.mono HB12.out.size)
      have H513 : Hid (Below _ _ _) := H512.out.trans (b13.mono H512.out.size)
      have HX13 : Hid (Blk _ _ _ _) := HX12.out.below b13
      have HY13 : Hid (Blk _ _ _ _) := HY12.out.below b13
      have D13 : Hid (EntsD _ _ _ _ _) := D12.out.below b13
      have H813 : Hid (Strs w13 _ (.slice (some ⟨g8, 0, none⟩) ln ln) ss) := H812.out.below b13
      have H913 : Hid (Nest w13 w8.heap.size w9.heap.size v9 rs vs9) := H912.out.below b13
      have M13 := markRules1_any (m0 := 1) sh lv (by omega) (by rw [HEN.out]; omega) hel D13.out
      rw [HEN.out] at M13
      obtain ⟨q0, q1, q2⟩ := HY13.out.three
      clear E12 HX12 HY12 HB12 D12 H512 H812 H912 b13
      go_wp2_with fail
      refine M13.mono ?_
      rintro e w14 ⟨rfl, _, m14⟩
      have b14 := m14.below H513.out.size
      have HX14 : Hid (Blk _ _ _ _) := HX13.out.mid m14 (.inl HXL.out)
      have HB14 : Hid (Below _ _ _) := HB13.out.trans (b14.mono HB5.out.size)
      have H514 : Hid (Nest w14 w4.heap.size w5.heap.size v5 rs vs5) := (H55.out.below H513.out).mid m14 (.inl (Nat.le_refl _))
      have H814 : Hid (Strs w14 _ (.slice (some ⟨g8, 0, none⟩) ln ln) ss) := row_mid H813.out m14 (fun g hg => .inr (by have : g = g8 := (Option.some.inj hg).symm; have := HA8.out; omega))
      have H914 : Hid (Nest w14 w8.heap.size w9.heap.size v9 rs vs9) := H913.out.mid m14 (.inr HLT.out.2.2.1)
      have MS := markT_any (m := en) (by omega) (by omega) hsl H814.out
      rw [HLNS.out] at MS
      clear M13 HX13 HY13 HB13 D13 H513 H813 H913 m14 b14 q0 q1 q2
      go_wp2_with fail
      refine MS.mono ?_
      rintro e w15 ⟨rfl, _, g15⟩
      have HX15 : Hid (Blk w15 w.heap.size #[.slice a len cap, .bool sh, .int .i64 lv] 24) := by
        show w15.heap[w.heap.size]? = _
        rw [g15.block w.heap.size HX14.out.lt (fun c => by have : w.heap.size = g8 := Option.some.inj c; have := HA8.out; have := HXL.out; have := HS56.out; omega)]
        exact HX14.out
      have HB15 : Hid (Below w.heap.size w w15) := Below.grown HB14.out g15 HB14.out.size (fun g hg => by have : g = g8 := (Option.some.inj hg).symm; have := HA8.out; have := HXL.out; have := HS56.out; omega)
      have H515 : Hid (Nest w15 w4.heap.size w5.heap.size v5 rs vs5) := H514.out.grown g15 (fun g hg => .inr (by have : g8 = g := Option.some.inj hg; have := HLT.out; omega))
      have H915 : Hid (Nest w15 w8.heap.size w9.heap.size v9 rs vs9) := H914.out.grown g15 (fun g hg => .inl (by have : g8 = g := Option.some.inj hg; have := HLT.out; omega))
      have E15 := eqSS_any H915.out H515.out (by omega) HZZ.out
      have hk8 : ¬ (((en + ln : Nat) : Int) < 0) := by omega
      have hk9 : decide (((en + ln : Nat) : Int) < 0) = false := decide_eq_false hk8
      obtain ⟨kq, HKQ⟩ : ∃ kq : Int, Hid (((en + ln : Nat) : Int) = kq) := ⟨_, rfl⟩
      rw [HKQ.out] at hk8 hk9
      rw [HKQ.out]
      clear MS HX14 HB14 H514 H814 H914 g15 HKQ
      go_wp2_with fail
      refine E15.mono ?_
      rintro e w16 ⟨rfl, nqb16, hqb16⟩
      have b16 : Below w15.heap.size w15 w16 := by rw [hqb16]; exact below_drewN (Below.refl _ _) nqb16
      clear hqb16
      have HX16 : Hid (Blk _ _ _ _) := HX15.out.below b16
      have HB16 : Hid (Below _ _ _) := HB15.out.trans (b16.mono HB15.out.size)
      have H516 : Hid (Nest w16 w4.heap.size w5.heap.size v5 rs vs5) := H515.out.below b16
      have H916 : Hid (Nest w16 w8.heap.size w9.heap.size v9 rs vs9) := H915.out.below b16
      have hs16 : w9.heap.size ≤ w16.heap.size := H916.out.top
      have M16 := markSS_any (m := 1) (by omega) (by omega) (by omega) H916.out
      clear E15 HX15 HB15 H515 H915 b16
      go_wp2_with fail
      refine M16.mono ?_
      rintro e w17 ⟨rfl, r17, g17⟩
      have HX17 : Hid (Blk w17 w.heap.size #[.slice a len cap, .bool sh, .int .i64 lv] 24) := by
        show w17.heap[w.heap.size]? = _
        rw [g17.block w.heap.size HX16.out.lt (.inl HLT.out.2.1)]
        exact HX16.out
      have HB17 : Hid (Below w.heap.size w w17) := HB16.out.trans ((g17.below (by have := HLT.out; omega)).mono (by have := HLT.out; omega))
      have H517 : Hid (Nest w17 w4.heap.size w5.heap.size v5 rs vs5) := H516.out.mid g17 (.inl HLT.out.1)
      have H917 : Hid (Nest w17 w8.heap.size w9.heap.size v9 (mkU rs 1 rs.length) vs9) := r17
      have L17 := heldSS_any (m := 1) (by omega) (by omega) (by omega) r17
      obtain ⟨mq, HMQ⟩ : ∃ mq : Nat, Hid (1 + totL rs = mq) := ⟨_, rfl⟩
      rw [HMQ.out] at L17
      rw [HMQ.out]
      have hm8 : ¬ ((mq : Int) < 0) := by omega
      clear M16 HX16 HB16 H516 H916 r17 g17
      go_wp2_with fail
      refine L17.mono ?_
      rintro e w18 ⟨rfl, b18⟩
      have HX18 : Hid (Blk _ _ _ _) := HX17.out.below b18
      have HB18 : Hid (Below _ _ _) := HB17.out.trans (b18.mono HB17.out.size)
      have H518 : Hid (Nest w18 w4.heap.size w5.heap.size v5 rs vs5) := H517.out.below b18
      have H918 : Hid (Nest w18 w8.heap.size w9.heap.size v9 (mkU rs 1 rs.length) vs9) := H917.out.below b18
      obtain ⟨p0, p1, p2⟩ := HX18.out.three
      clear L17 HX17 HB17 H517 H917 b18
      go_wp2_with fail
      refine (HT.out _ HB18.out).mono ?_
      rintro e w19 ⟨g19, rfl, i19, b19⟩
      have HB19 : Hid (Below _ _ _) := HB18.out.trans (b19.mono HB18.out.size)
      have H519 : Hid (Nest w19 w4.heap.size w5.heap.size v5 rs vs5) := H518.out.below b19
      have H919 : Hid (Nest w19 w8.heap.size w9.heap.size v9 (mkU rs 1 rs.length) vs9) := H918.out.below b19
      have HI19 : Hid (Ents _ _ _ _) := i19
      clear p0 p1 p2 HX18 HB18 H518 H918 b19 i19 HT
      go_wp2_with fail
      refine (TS _ HB19.out).mono ?_
      rintro e w20 ⟨g20, rfl, s20, b20⟩
      have HB20 : Hid (Below _ _ _) := HB19.out.trans (b20.mono HB19.out.size)
      have H520 : Hid (Nest w20 w4.heap.size w5.heap.size v5 rs vs5) := H519.out.below b20
      have H920 : Hid (Nest w20 w8.heap.size w9.heap.size v9 (mkU rs 1 rs.length) vs9) := H919.out.below b20
      have G20 := HI0.out _ _ _ _ _ HB20.out (HI19.out.below b20) s20
      clear HB19 H519 H919 HI19 b20 s20 HI0 TS
      go_wp2_with fail
      refine G20.mono ?_
      rintro e w21 ⟨v21, vs21, rfl, r21, b21⟩
      have HB21 : Hid (Below _ _ _) := HB20.out.trans (b21.mono HB20.out.size)
      have H521 : Hid (Nest w21 w4.heap.size w5.heap.size v5 rs vs5) := H520.out.below b21
      have H921 : Hid (Nest w21 w8.heap.size w9.heap.size v9 (mkU rs 1 rs.length) vs9) := H920.out.below b21
      have E21 := eqSS_any r21 H521.out (by omega) HZZ.out
      clear G20 HB20 H520 H920 r21 b21
      go_wp2_with fail
      refine E21.mono ?_
      rintro e w22 ⟨rfl, nqb22, hqb22⟩
      have b22 : Below w21.heap.size w21 w22 := by rw [hqb22]; exact below_drewN (Below.refl _ _) nqb22
      clear hqb22
      have HB22 : Hid (Below _ _ _) := HB21.out.trans (b22.mono HB21.out.size)
      have L22 := heldSS_any (m := 1) (by omega) (by omega) (by omega) (H921.out.below b22)
      rw [HMQ.out] at L22
      clear E21 HB21 H521 H921 b22 HMQ
      go_wp2_with fail
      refine L22.mono ?_
      rintro e w23 ⟨rfl, b23⟩
      clear L22
      go_wp2
      go_ret
      exact ⟨rfl, HB22.out.trans (b23.mono HB22.out.size)⟩
end Go.Proofs.YtanfebccenfffahGreatDoor
