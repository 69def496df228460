/- Texts of mine laid together: ToRD, EqEl, EqRules, MarkR1, BlkC, Blk, MarkT, HeldT, AStrs. -/
import Derived.Test.YtanfebccenfffagGreatDoorMT8
import Derived.Test.YtanfebccenfffagGreatDoorEl
import Derived.BigQuiet
import Derived.Deep.QuietTactic
import Derived.Deep.RegionHeld
import Derived.Test.YtanfebccenfffagGreatDoorEnts
import Derived.Deep.RegionHeldLaw
import Derived.Test.YtanfebccenfffagGreatDoorMT7
import Derived.Test.YtanfebccenfffagGreatDoorStrs
import Derived.Laws.IdiomStrings
import Derived.WalkKit
import Derived.ProofKit
import Derived.OpenShut
import Derived.LaidMore
import Derived.Laws.OwnMore
import Derived.OwnWalk
import Derived.SliceStrings
namespace Go.Proofs.YtanfebccenfffagGreatDoor
open Go.RowKit

theorem entsD_made {w : World} {B : Nat} {v : Value} {n : Nat} (h : w.ownsRow B 82 5 v n (madeCells zCells (n * 5)).toList) : EntsD w B w.heap.size v (List.replicate n zEnt) := by
  refine ⟨List.replicate n (.slice none 0 0), by simp, ?_, fun k e he => ?_, fun i j x y _ hx _ => ?_, fun g hg => (World.ownsRow.lt h g hg).2, fun i x g hx hg => ?_⟩
  · rw [← made_ents, List.length_replicate]; exact h
  · have hk := (List.getElem?_eq_some_iff.1 he).1
    rw [List.length_replicate] at hk
    refine ⟨.slice none 0 0, by simp [hk], ?_⟩
    have : e = zEnt := by simp [hk] at he; exact he.symm
    subst this
    exact ⟨rfl, .inl ⟨rfl, rfl⟩⟩
  · have := (List.mem_replicate.1 (List.mem_of_getElem? hx)).2
    subst this
    exact .inl rfl
  · have := (List.mem_replicate.1 (List.mem_of_getElem? hx)).2
    subst this
    cases hg

theorem EntsD.high {w : World} {B T T' : Nat} {v : Value} {es : List Ent} (h : EntsD w B T v es) (hT : T ≤ T') : EntsD w B T' v es := by
  obtain ⟨xs, hl, h1, h2, h3, h4, h5⟩ := h
  exact ⟨xs, hl, h1, h2, h3, fun g hg => Nat.lt_of_lt_of_le (h4 g hg) hT, fun i x g hx hg => Nat.lt_of_lt_of_le (h5 i x g hx hg) hT⟩

theorem EntsD.low {w : World} {B B' T : Nat} {v : Value} {es : List Ent} (h : EntsD w B' T v es) (hB : B ≤ B') : EntsD w B T v es := by
  obtain ⟨xs, hl, h1, h2, h3, h4, h5⟩ := h
  refine ⟨xs, hl, ⟨h1.1, ?_⟩, fun k e he => ?_, h3, h4, h5⟩
  · rcases h1.2 with h | ⟨g, cap, cur, a, b, c⟩
    · exact .inl h
    · exact .inr ⟨g, cap, cur, a, Nat.le_trans hB b, c⟩
  · obtain ⟨x, hx, hI⟩ := h2 k e he
    exact ⟨x, hx, ints_low2 hI hB⟩

theorem EntsD.grown {u u' : World} {B T b : Nat} {v : Value} {es : List Ent} (h : EntsD u B T v es) (hg : u.grownBy u' (some b)) (hb : b < B) : EntsD u' B T v es := by
  obtain ⟨xs, hl, h1, h2, h3, h4, h5⟩ := h
  refine ⟨xs, hl, World.ownsRow.kept h1 hg ?_, fun k e he => ?_, h3, h4, h5⟩
  · cases e : v.ownBlock with
    | none => exact .inl rfl
    | some g => exact .inr fun c => by have := (World.ownsRow.lt h1 g e).1; cases c; omega
  · obtain ⟨x, hx, hI⟩ := h2 k e he
    exact ⟨x, hx, hI.away hg hb⟩

/-- An entry laid anew at its place, its list in a block of its own. -/
theorem EntsD.setAt {u : World} {B C T g cap n k : Nat} {es : List Ent} {x : Value} {e : Ent} (h : EntsD u B T (.slice (some ⟨g, 0, none⟩) n cap) es) (hn : es.length = n) (hk : k < n) (hI : Ints u C x e.runes) (hB : B ≤ C) (hC : T ≤ u.heap.size) (hTC : T ≤ C := by omega) :
    EntsD (set5 u g (k * 5) x e.el) B (set5 u g (k * 5) x e.el).heap.size (.slice (some ⟨g, 0, none⟩) n cap) (es.set k e) := by
  subst hn
  obtain ⟨xs, hl, h1, h2, h3, h4, h5⟩ := h
  have s1 := h1.stored (k * 5) x
  have s2 := s1.1.stored (k * 5 + 1) (.int .i64 e.el.first)
  have s3 := s2.1.stored (k * 5 + 2) (.int .i64 e.el.second)
  have s4 := s3.1.stored (k * 5 + 3) (.int .i64 e.el.third)
  have s5 := s4.1.stored (k * 5 + 4) (.bool e.el.varies)
  have hg := set5_grown u g (k * 5) x e.el
  have hsz := hg.size
  have hIB := ints_low2 hI hB
  have away : ∀ (j : Nat) (y : Value), j ≠ k → xs[j]? = some y → y.ownBlock = none ∨ y.ownBlock ≠ x.ownBlock := fun j y _ hy => by
    cases c : y.ownBlock with
    | none => exact .inl rfl
    | some b =>
      refine .inr fun e' => ?_
      have l1 := h5 j y b hy c
      have l2 := (World.ownsRow.lt hI b e'.symm).1
      omega
  refine ⟨xs.set k x, by simp [hl], ?_, fun j y hy => ?_, fun i j y z hij hy hz => ?_, fun b hb => ?_, fun i y b hy hb => ?_⟩
  · rw [entAll_set xs es k x e hl hk, List.length_set]
    exact s5.1
  · by_cases c : j = k
    · subst c
      rw [List.getElem?_set_self (by omega)] at hy
      cases hy
      exact ⟨x, by rw [List.getElem?_set_self (by omega)], World.ownsRow.kept hIB hg (own_type hIB h1 (by decide))⟩
    · rw [List.getElem?_set_ne (by omega)] at hy
      obtain ⟨z, hz, hzi⟩ := h2 j y hy
      exact ⟨z, by rw [List.getElem?_set_ne (by omega)]; exact hz, World.ownsRow.kept hzi hg (own_type hzi h1 (by decide))⟩
  · by_cases ci : i = k
    · subst ci
      rw [List.getElem?_set_self (by omega)] at hy
      cases hy
      rw [List.getElem?_set_ne hij] at hz
      rcases away j z (fun c => hij c.symm) hz with c | c
      · cases c2 : x.ownBlock with
        | none => exact .inl rfl
        | some b => exact .inr fun e' => by rw [c] at e'; cases e'
      · exact .inr fun e' => c e'.symm
    · rw [List.getElem?_set_ne (fun c => ci c.symm)] at hy
      by_cases cj : j = k
      · subst cj
        rw [List.getElem?_set_self (by omega)] at hz
        cases hz
        exact away i y ci hy
      · rw [List.getElem?_set_ne (fun c => cj c.symm)] at hz
        exact h3 i j y z hij hy hz
  · exact Nat.lt_of_lt_of_le (World.ownsRow.lt h1 b hb).2 hsz
  · by_cases ci : i = k
    · subst ci
      rw [List.getElem?_set_self (by omega)] at hy
      cases hy
      exact Nat.lt_of_lt_of_le (World.ownsRow.lt hI b hb).2 hsz
    · rw [List.getElem?_set_ne (fun c => ci c.symm)] at hy
      exact Nat.lt_of_lt_of_le (h5 i y b hy hb) (Nat.le_trans hC hsz)

def TDRel (w : World) (es : List Ent) (i : Value) (wr : World) : Prop :=
  ∃ k : Nat, k ≤ es.length ∧ i = .int .i64 k ∧ EntsD wr w.heap.size wr.heap.size (.slice (some ⟨w.heap.size, 0, none⟩) es.length es.length) (fillE es k) ∧ Below w.heap.size w wr

set_option maxRecDepth 100000 in
set_option maxHeartbeats 2000000 in
theorem toEntsD_any (w0 w : World) (a : Option Addr) (len cap : Nat) (es : List Ent) (hA : ArgEnts w0 a len cap es) (hb : Below w0.heap.size w0 w) (hm : len ≤ 1048576) (hr : ∀ e ∈ es, e.runes.length ≤ 1048576) :
    Calls Tryz.prog 24 #[.slice a len cap] w fun e w' => ∃ g, e = .returned (.slice (some ⟨g, 0, none⟩) len len) ∧ EntsD w' w.heap.size w'.heap.size (.slice (some ⟨g, 0, none⟩) len len) es ∧ Below w.heap.size w w' := by
  obtain ⟨hlen, hlc, hcm, hA⟩ := hA
  subst hlen
  obtain ⟨i0, hi, hz0, hz1, hz2⟩ := info_parts info_ent
  go_enter Tryz.func24, Tryz.ntmps24
  go_wp2_with (at_make; refine wpList_make_full _ rfl _ _ 30 rfl w.heap.size 82 i0 _ 5 Tryz.underlying30 hi hz0 hz1 .i64 .i64 _ _ es.length rfl rfl rfl rfl (by rw [hz2]; omega) (by unfold maxLen; omega) (Nat.le_refl _) ?_; intro w1 hown hgr)
  have hE1 : EntsD w1 w.heap.size w1.heap.size (.slice (some ⟨w.heap.size, 0, none⟩) es.length es.length) (fillE es 0) := by
    have := entsD_made hown
    simpa [fillE] using this
  have hb1 : Below w.heap.size w w1 := Below.grown (Below.refl _ _) hgr (Nat.le_refl _) (fun j hj => by cases hj)
  clear hown hgr
  go_loopw [4] (fun i wr => TDRel w es i wr) (fun i _ => es.length - (intOf i).toNat)
  case atStart => exact ⟨0, Nat.zero_le _, rfl, hE1, hb1⟩
  case round =>
    clear hE1 hb1
    obtain ⟨k, hk, rfl, hE, hbr⟩ := hrel
    by_cases hlt : k < es.length
    · obtain ⟨e, he⟩ : ∃ e, es[k]? = some e := ⟨_, List.getElem?_eq_getElem hlt⟩
      obtain ⟨b, o, rfl, hAE⟩ := hA.resolve_left (by omega)
      obtain ⟨ra, rl, rc, zs, hro, e1, e2, a0, a1, a2, a3, a4⟩ := (hAE k e he).below (hb.trans (hbr.mono hb.size))
      have hk8 : (k : Int) < (es.length : Int) := by omega
      have T := toEntry_any w0 wr ra rl rc zs e.el.first e.el.second e.el.third e.el.varies hro (hb.trans (hbr.mono hb.size)) (by have := hr e (List.mem_of_getElem? he); omega)
      rw [← e1] at T
      have HE : Hid (EntsD _ _ _ _ _) := hE
      have HG : Hid (es[k]? = some e) := he
      clear hAE he hro e1 e2 hr hE
      go_wp2_with fail
      refine T.mono ?_
      rintro e' w3 ⟨x, rfl, i3, b3⟩
      obtain ⟨xa, xn, xc, rfl⟩ : ∃ xa xn xc, x = .slice xa xn xc := by
        rcases i3.form with ⟨rfl, _⟩ | ⟨_, _, rfl, _, _⟩
        · exact ⟨_, _, _, rfl⟩
        · exact ⟨_, _, _, rfl⟩
      have hE3 := HE.out.below b3
      have hfl := fillE_len es k hk
      have hset := hE3.setAt (k := k) (x := .slice xa xn xc) (e := e) hfl hlt i3 hbr.size b3.size
      rw [fillE_set HG.out] at hset
      have HS : Hid (EntsD _ _ _ _ _) := hset
      have HB : Hid (Below _ _ _) := grown_ge (hbr.trans (b3.mono hbr.size)) (set5_grown w3 w.heap.size (k * 5) (.slice xa xn xc) e.el) (Nat.le_refl _)
      obtain ⟨xs, hxl, h1, _⟩ := hE3.ents
      rw [hfl] at h1
      obtain ⟨y, hy⟩ : ∃ y, (fillE es k)[k]? = some y := ⟨_, List.getElem?_eq_getElem (by omega)⟩
      have hE3' : Ents w3 w.heap.size (.slice (some ⟨w.heap.size, 0, none⟩) (fillE es k).length es.length) (fillE es k) := by rw [hfl]; exact (HE.out.below b3).ents
      obtain ⟨z, _, c0, c1, c2, c3, c4⟩ := hE3'.cells k y hy
      have f0 := h1.frozenAt (k * 5)
      have f1 := h1.frozenAt (k * 5 + 1)
      have f2 := h1.frozenAt (k * 5 + 2)
      have f3 := h1.frozenAt (k * 5 + 3)
      have f4 := h1.frozenAt (k * 5 + 4)
      clear T a0 a1 a2 a3 a4 HE HG hset hxl h1 hy hE3' b3 i3 hfl
      go_wp2
      exact ⟨⟨k + 1, hlt, by go_num, HS.out, HB.out⟩, by simp [intOf]; omega⟩
    · have hk3 : k = es.length := by omega
      subst hk3
      rw [fillE_all] at hE
      clear hA hr
      go_wp2
      go_ret
      exact ⟨_, rfl, hE, hbr⟩

set_option maxRecDepth 100000 in
set_option maxHeartbeats 2000000 in
theorem toRulesD_any (w0 w : World) (a : Option Addr) (len cap : Nat) (es : List Ent) (sh : Bool) (lv : Int) (hA : ArgEnts w0 a len cap es) (hb : Below w0.heap.size w0 w) (hm : len ≤ 1048576) (hr : ∀ e ∈ es, e.runes.length ≤ 1048576) :
    Calls Tryz.prog 8 #[.agg #[.slice a len cap, .bool sh, .int .i64 lv]] w fun e w' => ∃ g, e = .returned (.agg #[.slice (some ⟨g, 0, none⟩) len len, .bool sh, .int .i64 lv]) ∧ EntsD w' w.heap.size w'.heap.size (.slice (some ⟨g, 0, none⟩) len len) es ∧ Below w.heap.size w w' := by
  have hb3 := (((Below.refl w.heap.size w).alloc (Nat.le_refl _) (.cells #[.slice a len cap, .bool sh, .int .i64 lv] 24)).alloc (by simp) (.cells #[.slice none 0 0, .bool false, .int .i64 0] 32)).alloc (by simp; omega) (.cells #[.slice none 0 0, .bool false, .int .i64 0] 32)
  have T := toEntsD_any w0 _ a len cap es hA (hb.trans (hb3.mono hb.size)) hm hr
  have HX : Hid (TR _ _ _ _ _ _ _ _) := alloc3_heap w (.cells #[.slice a len cap, .bool sh, .int .i64 lv] 24) (.cells #[.slice none 0 0, .bool false, .int .i64 0] 32) (.cells #[.slice none 0 0, .bool false, .int .i64 0] 32)
  have HB : Hid (Below _ _ _) := hb3
  clear hb3 hb hA hr
  go_enter Tryz.func8, Tryz.ntmps8
  go_wp2_with fail
  refine T.mono ?_
  rintro e w3 ⟨g, rfl, i3, b3⟩
  have hx3 := HX.out.below b3
  have HI3 : Hid (EntsD w3 (w.heap.size + 1 + 1 + 1) w3.heap.size (.slice (some ⟨g, 0, none⟩) len len) es) := by show EntsD _ _ _ _ _; simpa using i3
  have HC3 : Hid (Below _ _ _) := HB.out.trans (b3.mono HB.out.size)
  obtain ⟨⟨l1, l2, l3⟩, ⟨a0, a1, a2⟩, ⟨q0, q1, q2, qf⟩, ⟨p0, p1, p2, pf⟩⟩ := hx3.facts
  clear T HX HB b3 i3 hx3
  go_wp2
  refine bodyPost_ret (v := .agg #[.slice (some ⟨g, 0, none⟩) len len, .bool sh, .int .i64 lv]) ?_ rfl ⟨_, rfl, ?_, ?_⟩
  · rw [results_cell1 rfl]
    go_simp
  · refine EntsD.low (B' := w.heap.size + 1 + 1 + 1) ?_ (by omega)
    refine EntsD.high (T := w3.heap.size) ?_ (by simp [World.setCell])
    iterate 6 (refine EntsD.grown ?_ (setCell_grown _ _ _ _) (by omega))
    exact HI3.out
  · iterate 6 (refine grown_ge ?_ (setCell_grown _ _ _ _) (by omega))
    exact HC3.out
end Go.Proofs.YtanfebccenfffagGreatDoor

namespace Go.Proofs.YtanfebccenfffagGreatDoor
open Go.RowKit

set_option maxRecDepth 100000 in
set_option maxHeartbeats 1000000 in
theorem eqElem_same (w : World) (a b c : Int) (d : Bool) : Calls Tryz.prog 78 #[.agg #[.int .i64 a, .int .i64 b, .int .i64 c, .bool d], .agg #[.int .i64 a, .int .i64 b, .int .i64 c, .bool d]] w fun e w' => e = .returned (.bool true) ∧ Below w.heap.size w w' := by
  go_enter Tryz.func78, Tryz.ntmps78
  go_wp2
  go_ret
  exact ⟨rfl, ((Below.refl _ _).alloc (Nat.le_refl _) _).alloc (by simp) _⟩
end Go.Proofs.YtanfebccenfffagGreatDoor

namespace Go.Proofs.YtanfebccenfffagGreatDoor
open Go.RowKit

set_option maxRecDepth 100000 in
set_option maxHeartbeats 2000000 in
theorem eqEnt_same {w : World} {B B' : Nat} {x y : Value} {l : List Int} (f s t : Int) (v : Bool) (hx : Ints w B x l) (hy : Ints w B' y l) :
    Calls Tryz.prog 54 #[.agg #[x, .int .i64 f, .int .i64 s, .int .i64 t, .bool v], .agg #[y, .int .i64 f, .int .i64 s, .int .i64 t, .bool v]] w fun e w' => e = .returned (.bool true) ∧ Below w.heap.size w w' := by
  obtain ⟨xa, xn, xc, rfl⟩ : ∃ xa xn xc, x = .slice xa xn xc := by
    rcases hx.form with ⟨rfl, _⟩ | ⟨_, _, rfl, _, _⟩
    · exact ⟨_, _, _, rfl⟩
    · exact ⟨_, _, _, rfl⟩
  obtain ⟨ya, yn, yc, rfl⟩ : ∃ ya yn yc, y = .slice ya yn yc := by
    rcases hy.form with ⟨rfl, _⟩ | ⟨_, _, rfl, _, _⟩
    · exact ⟨_, _, _, rfl⟩
    · exact ⟨_, _, _, rfl⟩
  have hb := ((Below.refl w.heap.size w).alloc (Nat.le_refl _) (.cells #[.slice xa xn xc, .int .i64 f, .int .i64 s, .int .i64 t, .bool v] 82)).alloc (by simp) (.cells #[.slice ya yn yc, .int .i64 f, .int .i64 s, .int .i64 t, .bool v] 82)
  have Q := eq_any (hx.below hb) (hy.below hb)
  have E := fun u => eqElem_same u f s t v
  have HB : Hid (Below _ _ _) := hb
  clear hb hx hy
  go_enter Tryz.func54, Tryz.ntmps54
  go_wp2_with fail
  refine Q.mono ?_
  rintro e w3 ⟨rfl, n3, rfl⟩
  clear Q
  go_wp2_with fail
  refine (E _).mono ?_
  rintro e w4 ⟨rfl, b4⟩
  have h3 := below_drewN HB.out n3
  clear E
  go_wp2
  go_ret
  exact ⟨rfl, h3.trans (b4.mono h3.size)⟩

set_option maxRecDepth 100000 in
set_option maxHeartbeats 1000000 in
theorem eqEs_none (w : World) (a b : Option Addr) (c d : Nat) : Calls Tryz.prog 30 #[.slice a 0 c, .slice b 0 d] w fun e w' => e = .returned (.bool true) ∧ Below w.heap.size w w' := by
  go_enter Tryz.func30, Tryz.ntmps30
  go_wp2
  go_loopw [5] (fun i wr => i = .int .i64 0 ∧ wr = w) (fun _ _ => 0)
  case atStart => exact ⟨rfl, rfl⟩
  case round =>
    obtain ⟨rfl, rfl⟩ := hrel
    go_wp2
    go_ret
    exact ⟨rfl, Below.refl _ _⟩

theorem keep10 {w0 w1 w2 : World} {g g' k xn xc yn yc : Nat} {xa ya : Option Addr} {e : Ent} (hg : g < w0.heap.size) (hg' : g' < w0.heap.size) (hb : Below w1.heap.size w1 w2)
    (h : w1.cell? ⟨g, k * 5, none⟩ = some (.slice xa xn xc) ∧ w1.cell? ⟨g, k * 5 + 1, none⟩ = some (.int .i64 e.el.first) ∧ w1.cell? ⟨g, k * 5 + 2, none⟩ = some (.int .i64 e.el.second) ∧ w1.cell? ⟨g, k * 5 + 3, none⟩ = some (.int .i64 e.el.third) ∧ w1.cell? ⟨g, k * 5 + 4, none⟩ = some (.bool e.el.varies) ∧ w1.cell? ⟨g', k * 5, none⟩ = some (.slice ya yn yc) ∧ w1.cell? ⟨g', k * 5 + 1, none⟩ = some (.int .i64 e.el.first) ∧ w1.cell? ⟨g', k * 5 + 2, none⟩ = some (.int .i64 e.el.second) ∧ w1.cell? ⟨g', k * 5 + 3, none⟩ = some (.int .i64 e.el.third) ∧ w1.cell? ⟨g', k * 5 + 4, none⟩ = some (.bool e.el.varies) ∧ Below w0.heap.size w0 w1) :
    w2.cell? ⟨g, k * 5, none⟩ = some (.slice xa xn xc) ∧ w2.cell? ⟨g, k * 5 + 1, none⟩ = some (.int .i64 e.el.first) ∧ w2.cell? ⟨g, k * 5 + 2, none⟩ = some (.int .i64 e.el.second) ∧ w2.cell? ⟨g, k * 5 + 3, none⟩ = some (.int .i64 e.el.third) ∧ w2.cell? ⟨g, k * 5 + 4, none⟩ = some (.bool e.el.varies) ∧ w2.cell? ⟨g', k * 5, none⟩ = some (.slice ya yn yc) ∧ w2.cell? ⟨g', k * 5 + 1, none⟩ = some (.int .i64 e.el.first) ∧ w2.cell? ⟨g', k * 5 + 2, none⟩ = some (.int .i64 e.el.second) ∧ w2.cell? ⟨g', k * 5 + 3, none⟩ = some (.int .i64 e.el.third) ∧ w2.cell? ⟨g', k * 5 + 4, none⟩ = some (.bool e.el.varies) ∧ Below w0.heap.size w0 w2 := by
  obtain ⟨a0, a1, a2, a3, a4, b0, b1, b2, b3, b4, h3⟩ := h
  have q1 : g < w1.heap.size := Nat.lt_of_lt_of_le hg h3.size
  have q2 : g' < w1.heap.size := Nat.lt_of_lt_of_le hg' h3.size
  exact ⟨by rw [hb.cell q1]; exact a0, by rw [hb.cell q1]; exact a1, by rw [hb.cell q1]; exact a2, by rw [hb.cell q1]; exact a3, by rw [hb.cell q1]; exact a4, by rw [hb.cell q2]; exact b0, by rw [hb.cell q2]; exact b1, by rw [hb.cell q2]; exact b2, by rw [hb.cell q2]; exact b3, by rw [hb.cell q2]; exact b4, h3.trans (hb.mono h3.size)⟩

def EsRel (w : World) (n : Nat) (i : Value) (wr : World) : Prop := ∃ k : Nat, k ≤ n ∧ i = .int .i64 k ∧ Below w.heap.size w wr

set_option maxRecDepth 100000 in
set_option maxHeartbeats 4000000 in
theorem eqEs_row (w0 : World) (B B' g g' cap cap' : Nat) (es : List Ent) (hz : es.length ≤ 1048576) (h1 : Ents w0 B (.slice (some ⟨g, 0, none⟩) es.length cap) es) (h2 : Ents w0 B' (.slice (some ⟨g', 0, none⟩) es.length cap') es) :
    Calls Tryz.prog 30 #[.slice (some ⟨g, 0, none⟩) es.length cap, .slice (some ⟨g', 0, none⟩) es.length cap'] w0 fun e w' => e = .returned (.bool true) ∧ Below w0.heap.size w0 w' := by
  have hg : g < w0.heap.size := by
    obtain ⟨xs, _, h3, _⟩ := h1
    exact (World.ownsRow.lt h3 g rfl).2
  have hg' : g' < w0.heap.size := by
    obtain ⟨xs, _, h3, _⟩ := h2
    exact (World.ownsRow.lt h3 g' rfl).2
  go_enter Tryz.func30, Tryz.ntmps30
  go_wp2
  go_loopw [5] (fun i wr => EsRel w0 es.length i wr) (fun i _ => es.length - (intOf i).toNat)
  case atStart => exact ⟨0, Nat.zero_le _, rfl, Below.refl _ _⟩
  case round =>
    obtain ⟨k, hk, rfl, hb⟩ := hrel
    by_cases hlt : k < es.length
    · obtain ⟨e, he⟩ : ∃ e, es[k]? = some e := ⟨_, List.getElem?_eq_getElem hlt⟩
      obtain ⟨x, hI, a0, a1, a2, a3, a4⟩ := h1.cells k e he
      obtain ⟨y, hJ, b0, b1, b2, b3, b4⟩ := h2.cells k e he
      obtain ⟨xa, xn, xc, rfl⟩ : ∃ xa xn xc, x = .slice xa xn xc := by
        rcases hI.form with ⟨rfl, _⟩ | ⟨_, _, rfl, _, _⟩
        · exact ⟨_, _, _, rfl⟩
        · exact ⟨_, _, _, rfl⟩
      obtain ⟨ya, yn, yc, rfl⟩ : ∃ ya yn yc, y = .slice ya yn yc := by
        rcases hJ.form with ⟨rfl, _⟩ | ⟨_, _, rfl, _, _⟩
        · exact ⟨_, _, _, rfl⟩
        · exact ⟨_, _, _, rfl⟩
      have hk8 : (k : Int) < (es.length : Int) := by omega
      have hS0 : w0.cell? ⟨g, k * 5, none⟩ = some (.slice xa xn xc) ∧ w0.cell? ⟨g, k * 5 + 1, none⟩ = some (.int .i64 e.el.first) ∧ w0.cell? ⟨g, k * 5 + 2, none⟩ = some (.int .i64 e.el.second) ∧ w0.cell? ⟨g, k * 5 + 3, none⟩ = some (.int .i64 e.el.third) ∧ w0.cell? ⟨g, k * 5 + 4, none⟩ = some (.bool e.el.varies) ∧ w0.cell? ⟨g', k * 5, none⟩ = some (.slice ya yn yc) ∧ w0.cell? ⟨g', k * 5 + 1, none⟩ = some (.int .i64 e.el.first) ∧ w0.cell? ⟨g', k * 5 + 2, none⟩ = some (.int .i64 e.el.second) ∧ w0.cell? ⟨g', k * 5 + 3, none⟩ = some (.int .i64 e.el.third) ∧ w0.cell? ⟨g', k * 5 + 4, none⟩ = some (.bool e.el.varies) ∧ Below w0.heap.size w0 w0 := ⟨a0, a1, a2, a3, a4, b0, b1, b2, b3, b4, Below.refl _ _⟩
      have hS := keep10 hg hg' hb hS0
      have hS2 := keep10 hg hg' ((Below.refl wr.heap.size wr).drew) hS
      have EQ := fun (u : World) (hu : u.cell? ⟨g, k * 5, none⟩ = some (.slice xa xn xc) ∧ u.cell? ⟨g, k * 5 + 1, none⟩ = some (.int .i64 e.el.first) ∧ u.cell? ⟨g, k * 5 + 2, none⟩ = some (.int .i64 e.el.second) ∧ u.cell? ⟨g, k * 5 + 3, none⟩ = some (.int .i64 e.el.third) ∧ u.cell? ⟨g, k * 5 + 4, none⟩ = some (.bool e.el.varies) ∧ u.cell? ⟨g', k * 5, none⟩ = some (.slice ya yn yc) ∧ u.cell? ⟨g', k * 5 + 1, none⟩ = some (.int .i64 e.el.first) ∧ u.cell? ⟨g', k * 5 + 2, none⟩ = some (.int .i64 e.el.second) ∧ u.cell? ⟨g', k * 5 + 3, none⟩ = some (.int .i64 e.el.third) ∧ u.cell? ⟨g', k * 5 + 4, none⟩ = some (.bool e.el.varies) ∧ Below w0.heap.size w0 u) => eqEnt_same e.el.first e.el.second e.el.third e.el.varies (hI.below hu.2.2.2.2.2.2.2.2.2.2) (hJ.below hu.2.2.2.2.2.2.2.2.2.2)
      have K := fun (u1 u2 : World) (hb : Below u1.heap.size u1 u2) (hu : u1.cell? ⟨g, k * 5, none⟩ = some (.slice xa xn xc) ∧ u1.cell? ⟨g, k * 5 + 1, none⟩ = some (.int .i64 e.el.first) ∧ u1.cell? ⟨g, k * 5 + 2, none⟩ = some (.int .i64 e.el.second) ∧ u1.cell? ⟨g, k * 5 + 3, none⟩ = some (.int .i64 e.el.third) ∧ u1.cell? ⟨g, k * 5 + 4, none⟩ = some (.bool e.el.varies) ∧ u1.cell? ⟨g', k * 5, none⟩ = some (.slice ya yn yc) ∧ u1.cell? ⟨g', k * 5 + 1, none⟩ = some (.int .i64 e.el.first) ∧ u1.cell? ⟨g', k * 5 + 2, none⟩ = some (.int .i64 e.el.second) ∧ u1.cell? ⟨g', k * 5 + 3, none⟩ = some (.int .i64 e.el.third) ∧ u1.cell? ⟨g', k * 5 + 4, none⟩ = some (.bool e.el.varies) ∧ Below w0.heap.size w0 u1) => keep10 hg hg' hb hu
      clear he h1 h2 a0 a1 a2 a3 a4 b0 b1 b2 b3 b4 hI hJ hS0
      go_wp2_with fail
      go_region_held (fun u => u.cell? ⟨g, k * 5, none⟩ = some (.slice xa xn xc) ∧ u.cell? ⟨g, k * 5 + 1, none⟩ = some (.int .i64 e.el.first) ∧ u.cell? ⟨g, k * 5 + 2, none⟩ = some (.int .i64 e.el.second) ∧ u.cell? ⟨g, k * 5 + 3, none⟩ = some (.int .i64 e.el.third) ∧ u.cell? ⟨g, k * 5 + 4, none⟩ = some (.bool e.el.varies) ∧ u.cell? ⟨g', k * 5, none⟩ = some (.slice ya yn yc) ∧ u.cell? ⟨g', k * 5 + 1, none⟩ = some (.int .i64 e.el.first) ∧ u.cell? ⟨g', k * 5 + 2, none⟩ = some (.int .i64 e.el.second) ∧ u.cell? ⟨g', k * 5 + 3, none⟩ = some (.int .i64 e.el.third) ∧ u.cell? ⟨g', k * 5 + 4, none⟩ = some (.bool e.el.varies) ∧ Below w0.heap.size w0 u)
        (first | exact hS2 | exact K _ _ (by assumption) (by assumption))
        (first | (go_at_call 54; refine (EQ _ (by assumption)).mono ?_; rintro e w' ⟨rfl, hbw⟩))
      all_goals
        have hE := (show w'.cell? ⟨g, k * 5, none⟩ = _ ∧ _ ∧ _ ∧ _ ∧ _ ∧ _ ∧ _ ∧ _ ∧ _ ∧ _ ∧ Below w0.heap.size w0 w' by assumption).2.2.2.2.2.2.2.2.2.2
        clear hS hS2 EQ K
        go_wp2
        exact ⟨⟨k + 1, by omega, by go_num, hE⟩, by simp [intOf]; omega⟩
    · go_wp2
      go_ret
      exact ⟨rfl, hb⟩

theorem eqEs_any {w : World} {B B' : Nat} {a b : Value} {es : List Ent} (hz : es.length ≤ 1048576) (ha : Ents w B a es) (hb : Ents w B' b es) :
    Calls Tryz.prog 30 #[a, b] w fun e w' => e = .returned (.bool true) ∧ Below w.heap.size w w' := by
  rcases ha.form with ⟨rfl, rfl⟩ | ⟨g, cap, rfl, h1, h2, _, _⟩
  · rcases hb.form with ⟨rfl, _⟩ | ⟨g', cap', rfl, _, _, _, _⟩
    · exact eqEs_none w _ _ _ _
    · exact eqEs_none w _ _ _ _
  · rcases hb.form with ⟨rfl, rfl⟩ | ⟨g', cap', rfl, _, _, _, _⟩
    · exact eqEs_none w _ _ _ _
    · exact eqEs_row w B B' g g' cap cap' es hz ha hb

set_option maxRecDepth 100000 in
set_option maxHeartbeats 2000000 in
theorem eqRules_same {w : World} {B B' : Nat} {a b : Value} {es : List Ent} (sh : Bool) (lv : Int) (hz : es.length ≤ 1048576) (ha : Ents w B a es) (hb : Ents w B' b es) :
    Calls Tryz.prog 12 #[.agg #[a, .bool sh, .int .i64 lv], .agg #[b, .bool sh, .int .i64 lv]] w fun e w' => e = .returned (.bool true) ∧ Below w.heap.size w w' := by
  obtain ⟨xa, xn, xc, rfl⟩ : ∃ xa xn xc, a = .slice xa xn xc := by
    rcases ha.form with ⟨rfl, _⟩ | ⟨_, _, rfl, _, _, _, _⟩
    · exact ⟨_, _, _, rfl⟩
    · exact ⟨_, _, _, rfl⟩
  obtain ⟨ya, yn, yc, rfl⟩ : ∃ ya yn yc, b = .slice ya yn yc := by
    rcases hb.form with ⟨rfl, _⟩ | ⟨_, _, rfl, _, _, _, _⟩
    · exact ⟨_, _, _, rfl⟩
    · exact ⟨_, _, _, rfl⟩
  have hw := ((Below.refl w.heap.size w).alloc (Nat.le_refl _) (.cells #[.slice xa xn xc, .bool sh, .int .i64 lv] 32)).alloc (by simp) (.cells #[.slice ya yn yc, .bool sh, .int .i64 lv] 32)
  have Q := eqEs_any hz (ha.below hw) (hb.below hw)
  have HX : Hid (_ ∧ _) := And.intro (show ((w.alloc (.cells #[.slice xa xn xc, .bool sh, .int .i64 lv] 32)).alloc (.cells #[.slice ya yn yc, .bool sh, .int .i64 lv] 32)).heap[w.heap.size]? = some (.cells #[.slice xa xn xc, .bool sh, .int .i64 lv] 32) by rw [Below.heap_alloc _ _ _ (by simp)]; exact heap_alloc_new w _) (heap_alloc2_new w (.cells #[.slice xa xn xc, .bool sh, .int .i64 lv] 32) (.cells #[.slice ya yn yc, .bool sh, .int .i64 lv] 32))
  have HB : Hid (Below _ _ _) := hw
  clear hw ha hb
  go_enter Tryz.func12, Tryz.ntmps12
  go_wp2_with fail
  refine Q.mono ?_
  rintro e w3 ⟨rfl, b3⟩
  have k1 : w3.heap[w.heap.size]? = some (.cells #[.slice xa xn xc, .bool sh, .int .i64 lv] 32) := by rw [b3.block _ (by simp; omega)]; exact HX.out.1
  have k2 : w3.heap[w.heap.size + 1]? = some (.cells #[.slice ya yn yc, .bool sh, .int .i64 lv] 32) := by rw [b3.block _ (by simp)]; exact HX.out.2
  have c1 := cell_of_row _ _ 1 _ _ _ k1
  have c2 := cell_of_row _ _ 2 _ _ _ k1
  have d1 := cell_of_row _ _ 1 _ _ _ k2
  have d2 := cell_of_row _ _ 2 _ _ _ k2
  have HC : Hid (Below _ _ _) := HB.out.trans (b3.mono HB.out.size)
  clear Q k1 k2 HX HB b3
  go_wp2
  go_ret
  exact ⟨rfl, HC.out⟩
end Go.Proofs.YtanfebccenfffagGreatDoor

namespace Go.Proofs.YtanfebccenfffagGreatDoor
open Go.RowKit

theorem endM_ge : ∀ (es : List Ent) (m : Int), m ≤ endM es m
  | [], _ => Int.le_refl _
  | e :: es, m => by
    have := endM_ge es (m + (e.runes.length : Int) + 1 + 1 + 1 + 1)
    unfold endM
    omega

theorem endM_szEs : ∀ (es : List Ent) (m left : Int), 0 ≤ left → 0 ≤ szEs es left → endM es m ≤ m + left + 4 * (es.length : Int)
  | [], m, left, h0, _ => by unfold endM; simp; omega
  | e :: es, m, left, h0, h => by
    unfold szEs at h
    split at h
    · omega
    · rename_i c
      have hb := szL_bd c
      rw [hb.1] at h
      have := endM_szEs es (m + (e.runes.length : Int) + 1 + 1 + 1 + 1) (left - (e.runes.length : Int)) hb.2 h
      unfold endM
      rw [List.length_cons]
      omega

theorem endM_szA {es : List Ent} {m left : Int} (h : 0 ≤ szA es left) : endM es m ≤ m + left + 4 * (es.length : Int) := by
  unfold szA at h
  split at h
  · omega
  · have := endM_szEs es m (left - (es.length : Int)) (by omega) h
    omega

def MRel1 (w : World) (B T : Nat) (v : Value) (es : List Ent) (m0 : Int) (kv i : Value) (wr : World) : Prop :=
  ∃ (j : Nat) (m : Int) (done : List Ent), j ≤ es.length ∧ i = .int .i64 j ∧ kv = .int .i64 m ∧ 0 ≤ m ∧ m ≤ endM es m0 ∧ done.length = j ∧ EntsD wr B T v (done ++ es.drop j) ∧
    done ++ markEs (es.drop j) m = markEs es m0 ∧ endM (es.drop j) m = endM es m0 ∧ Mid B T w wr

set_option maxRecDepth 100000 in
set_option maxHeartbeats 4000000 in
theorem markEs1_row (w : World) (B T g cap : Nat) (es : List Ent) (m0 : Int) (hm0 : 0 ≤ m0) (hm1 : endM es m0 ≤ 1073741824) (hz : es.length ≤ 1048576) (hE : EntsD w B T (.slice (some ⟨g, 0, none⟩) es.length cap) es) :
    Calls Tryz.prog 31 #[.slice (some ⟨g, 0, none⟩) es.length cap, .int .i64 m0] w fun e w' => e = .returned (.int .i64 (endM es m0)) ∧ EntsD w' B T (.slice (some ⟨g, 0, none⟩) es.length cap) (markEs es m0) ∧ Mid B T w w' := by
  go_enter Tryz.func31, Tryz.ntmps31
  go_wp2
  go_loopw [1, 5] (fun kv i wr => MRel1 w B T (.slice (some ⟨g, 0, none⟩) es.length cap) es m0 kv i wr) (fun _ i _ => es.length - (intOf i).toNat)
  case atStart => exact ⟨0, m0, [], Nat.zero_le _, rfl, rfl, hm0, endM_ge _ _, rfl, by simpa using hE, by simp, by simp, Mid.refl _ _ _⟩
  case round =>
    clear hE
    obtain ⟨j, m, done, hj, rfl, rfl, hmm0, hmm1, hdl, hED, hmk, hend, hbw⟩ := hrel
    have HMK : Hid _ := hmk
    have HEND : Hid _ := hend
    clear hmk hend
    by_cases hlt : j < es.length
    · obtain ⟨e, he⟩ : ∃ e, es[j]? = some e := ⟨_, List.getElem?_eq_getElem hlt⟩
      have hdr := ents_drop he
      have hge : m + (e.runes.length : Int) + 1 + 1 + 1 + 1 ≤ endM es m0 := by
        rw [← HEND.out, hdr]
        exact endM_ge _ _
      have hlen : (done ++ es.drop j).length = es.length := by rw [List.length_append, hdl, List.length_drop]; omega
      have hat : (done ++ es.drop j)[j]? = some e := by rw [List.getElem?_append_right (by omega), hdl, Nat.sub_self, hdr]; rfl
      obtain ⟨xs, hxl, h1, h2, h3, h4, h5⟩ := hED
      obtain ⟨x, hx, hI⟩ := h2 j e hat
      rw [hlen] at h1
      obtain ⟨xa, xn, xc, rfl⟩ : ∃ xa xn xc, x = .slice xa xn xc := by
        rcases hI.form with ⟨rfl, _⟩ | ⟨_, _, rfl, _, _⟩
        · exact ⟨_, _, _, rfl⟩
        · exact ⟨_, _, _, rfl⟩
      have at' : ∀ i, i < 5 → wr.cell? ⟨g, j * 5 + i, none⟩ = (entC (.slice xa xn xc) e.el)[i]? := fun i hi => by
        rw [World.ownsRow.cellAt h1 (j * 5 + i) (by omega), entAll_at xs _ j i _ e hx hat hi]
      have a0 : wr.cell? ⟨g, j * 5, none⟩ = some (.slice xa xn xc) := at' 0 (by omega)
      have hj8 : (j : Int) < (es.length : Int) := by omega
      have MK := markK_any (m := m) hmm0 (by omega) (by omega) hI
      obtain ⟨M, hM⟩ : ∃ M, M = m + (e.runes.length : Int) := ⟨_, rfl⟩
      rw [← hM] at MK
      have hMb : 0 ≤ M ∧ M ≤ 1073741824 := by omega
      obtain ⟨hMb0, hMb1⟩ := hMb
      have HM : Hid _ := hM
      have HX : Hid _ := hx
      have HE : Hid _ := he
      have HDR : Hid _ := hdr
      have HLEN : Hid _ := hlen
      have HAT : Hid _ := hat
      have H1 : Hid _ := h1
      have H2 : Hid _ := h2
      have H3 : Hid _ := h3
      have H4 : Hid (g < T) := h4 g rfl
      have H5 : Hid _ := h5
      have HXL : Hid _ := hxl
      have HI : Hid (Ints _ _ _ _) := hI
      clear hM hx he hdr hlen hat h1 h2 h3 h4 h5 hxl hI at'
      go_wp2_with fail
      refine MK.mono ?_
      rintro e' w3 ⟨rfl, i3, g3⟩
      have k1 := World.ownsRow.kept H1.out g3 (own_type H1.out HI.out (by decide))
      have at3 : ∀ i, i < 5 → w3.cell? ⟨g, j * 5 + i, none⟩ = (entC (.slice xa xn xc) e.el)[i]? := fun i hi => by
        rw [World.ownsRow.cellAt k1 (j * 5 + i) (by omega), entAll_at xs _ j i _ e HX.out HAT.out hi]
      have c1 : w3.cell? ⟨g, j * 5 + 1, none⟩ = some (.int .i64 e.el.first) := at3 1 (by omega)
      have c2 : w3.cell? ⟨g, j * 5 + 2, none⟩ = some (.int .i64 e.el.second) := at3 2 (by omega)
      have c3 : w3.cell? ⟨g, j * 5 + 3, none⟩ = some (.int .i64 e.el.third) := at3 3 (by omega)
      have c4 : w3.cell? ⟨g, j * 5 + 4, none⟩ = some (.bool e.el.varies) := at3 4 (by omega)
      have f1 := k1.frozenAt (j * 5 + 1)
      have f2 := k1.frozenAt (j * 5 + 2)
      have f3 := k1.frozenAt (j * 5 + 3)
      have f4 := k1.frozenAt (j * 5 + 4)
      have hD := entsD_mark (el := mkR M) HLEN.out HXL.out H1.out H2.out H3.out H4.out H5.out hlt HX.out (.inr ⟨_, HI.out⟩) i3 g3
      have hset : (done ++ es.drop j).set j ⟨seqK m e.runes.length, mkR M⟩ = (done ++ [⟨seqK m e.runes.length, mkR M⟩]) ++ es.drop (j + 1) := by
        rw [List.set_append_right _ _ (by omega), hdl, Nat.sub_self, HDR.out, List.set_cons_zero]; simp
      rw [hset] at hD
      have hgB := (World.ownsRow.lt H1.out g rfl).1
      have hb3 : Mid B T w w3 := hbw.grown g3 (fun jj hjj => ⟨(World.ownsRow.lt HI.out jj hjj).1, H5.out j _ jj HX.out hjj⟩)
      have hb4 : Mid B T w (set4 w3 g (j * 5) (mkR M)) := hb3.grown (set4_grown w3 g (j * 5) (mkR M)) (fun jj hjj => by cases hjj; exact ⟨hgB, H4.out⟩)
      have HD : Hid (EntsD _ _ _ _ _) := hD
      have HB4 : Hid (Mid _ _ _ _) := hb4
      have HMK2 : Hid ((done ++ [⟨seqK m e.runes.length, mkR M⟩]) ++ markEs (es.drop (j + 1)) (M + 1 + 1 + 1 + 1) = markEs es m0) := by
        show _ = _
        rw [← HMK.out, HDR.out, HM.out]
        simp [markEs]
      have HEND2 : Hid (endM (es.drop (j + 1)) (M + 1 + 1 + 1 + 1) = endM es m0) := by
        show _ = _
        rw [← HEND.out, HDR.out, HM.out]
        rfl
      have HBD : Hid (M + 1 + 1 + 1 + 1 ≤ endM es m0) := by show _ ≤ _; have := HM.out; omega
      have HDL : Hid ((done ++ [(⟨seqK m e.runes.length, mkR M⟩ : Ent)]).length = j + 1) := by show _ = _; simp [hdl]
      clear MK k1 at3 hD hset hb3 hb4 HMK HEND HM HX HE HDR HLEN HAT H1 H2 H3 H4 H5 HXL HI i3 g3 a0 hdl
      go_wp2
      exact ⟨⟨j + 1, M + 1 + 1 + 1 + 1, _, hlt, by go_num, rfl, by omega, HBD.out, HDL.out, HD.out, HMK2.out, HEND2.out, HB4.out⟩, by simp [intOf]; omega⟩
    · have hjz : j = es.length := by omega
      subst hjz
      have e1 : es.drop es.length = [] := List.drop_length
      have HF : Hid (m = endM es m0) := by show _ = _; rw [← HEND.out, e1]; rfl
      have HG : Hid (done = markEs es m0) := by show _ = _; rw [← HMK.out, e1]; simp [markEs]
      rw [e1, List.append_nil] at hED
      clear HMK HEND e1
      go_wp2
      go_ret
      rw [← HF.out, ← HG.out]
      exact ⟨rfl, hED, hbw⟩

theorem markEs1_any {w : World} {B T : Nat} {v : Value} {es : List Ent} {m0 : Int} (hm0 : 0 ≤ m0) (hm1 : endM es m0 ≤ 1073741824) (hz : es.length ≤ 1048576) (hE : EntsD w B T v es) :
    Calls Tryz.prog 31 #[v, .int .i64 m0] w fun e w' => e = .returned (.int .i64 (endM es m0)) ∧ EntsD w' B T v (markEs es m0) ∧ Mid B T w w' := by
  rcases hE.ents.form with ⟨rfl, rfl⟩ | ⟨g, cap, rfl, _, _, _, _⟩
  · refine (markEs_none w _ _ m0).mono ?_
    rintro e w' ⟨rfl, rfl⟩
    exact ⟨rfl, hE, Mid.refl _ _ _⟩
  · exact markEs1_row w B T g cap es m0 hm0 hm1 hz hE

set_option maxRecDepth 100000 in
set_option maxHeartbeats 1000000 in
theorem markRules1_any {w : World} {B T : Nat} {v : Value} {es : List Ent} {m0 : Int} (sh : Bool) (lv : Int) (hm0 : 0 ≤ m0) (hm1 : endM es m0 ≤ 1073741824) (hz : es.length ≤ 1048576) (hE : EntsD w B T v es) :
    Calls Tryz.prog 13 #[.agg #[v, .bool sh, .int .i64 lv], .int .i64 m0] w fun e w' => e = .returned (.int .i64 (endM es m0)) ∧ EntsD w' B T v (markEs es m0) ∧ Mid B T w w' := by
  obtain ⟨xa, xn, xc, rfl⟩ : ∃ xa xn xc, v = .slice xa xn xc := by
    rcases hE.ents.form with ⟨rfl, _⟩ | ⟨_, _, rfl, _, _, _, _⟩
    · exact ⟨_, _, _, rfl⟩
    · exact ⟨_, _, _, rfl⟩
  have hb := (Below.refl w.heap.size w).alloc (Nat.le_refl _) (.cells #[.slice xa xn xc, .bool sh, .int .i64 lv] 32)
  have M := markEs1_any (m0 := m0) hm0 hm1 hz (hE.below hb)
  have HB : Hid (Mid B T _ _) := Mid.of hb
  clear hb hE
  go_enter Tryz.func13, Tryz.ntmps13
  go_wp2_with fail
  refine M.mono ?_
  rintro e w3 ⟨rfl, i3, b3⟩
  clear M
  go_wp2
  go_ret
  exact ⟨rfl, i3, HB.out.trans b3⟩

end Go.Proofs.YtanfebccenfffagGreatDoor

namespace Go.Proofs.YtanfebccenfffagGreatDoor
open Go.RowKit

/-- A block and what it holds. -/
def Blk (w : World) (g : Nat) (cs : Array Value) (t : TypeId) : Prop := w.heap[g]? = some (.cells cs t)
theorem Blk.below {w w' : World} {g : Nat} {cs : Array Value} {t : TypeId} (h : Blk w g cs t) (hb : Below w.heap.size w w') : Blk w' g cs t := by
  unfold Blk
  rw [hb.block g (Array.getElem?_eq_some_iff.1 h).1]; exact h
theorem Blk.three {w : World} {g : Nat} {x y z : Value} {t : TypeId} (h : Blk w g #[x, y, z] t) : w.cell? ⟨g, 0, none⟩ = some x ∧ w.cell? ⟨g, 1, none⟩ = some y ∧ w.cell? ⟨g, 2, none⟩ = some z :=
  ⟨cell_of_row _ _ 0 _ _ _ h, cell_of_row _ _ 1 _ _ _ h, cell_of_row _ _ 2 _ _ _ h⟩
theorem Blk.lt {w : World} {g : Nat} {cs : Array Value} {t : TypeId} (h : Blk w g cs t) : g < w.heap.size := (Array.getElem?_eq_some_iff.1 h).1

theorem Ents.slice {w : World} {B : Nat} {v : Value} {es : List Ent} (h : Ents w B v es) : ∃ a n c, v = .slice a n c := by
  rcases h.form with ⟨rfl, _⟩ | ⟨_, _, rfl, _, _, _, _⟩
  · exact ⟨_, _, _, rfl⟩
  · exact ⟨_, _, _, rfl⟩

/-- What stands in the last region: the two boxes. -/
theorem keep6 {w0 w1 w2 : World} {g g' : Nat} {x y z x' y' z' : Value} (hg : g < w0.heap.size) (hg' : g' < w0.heap.size) (hb : Below w1.heap.size w1 w2)
    (h : w1.cell? ⟨g, 0, none⟩ = some x ∧ w1.cell? ⟨g, 1, none⟩ = some y ∧ w1.cell? ⟨g, 2, none⟩ = some z ∧ w1.cell? ⟨g', 0, none⟩ = some x' ∧ w1.cell? ⟨g', 1, none⟩ = some y' ∧ w1.cell? ⟨g', 2, none⟩ = some z' ∧ Below w0.heap.size w0 w1) :
    w2.cell? ⟨g, 0, none⟩ = some x ∧ w2.cell? ⟨g, 1, none⟩ = some y ∧ w2.cell? ⟨g, 2, none⟩ = some z ∧ w2.cell? ⟨g', 0, none⟩ = some x' ∧ w2.cell? ⟨g', 1, none⟩ = some y' ∧ w2.cell? ⟨g', 2, none⟩ = some z' ∧ Below w0.heap.size w0 w2 := by
  obtain ⟨a0, a1, a2, b0, b1, b2, h3⟩ := h
  have q1 : g < w1.heap.size := Nat.lt_of_lt_of_le hg h3.size
  have q2 : g' < w1.heap.size := Nat.lt_of_lt_of_le hg' h3.size
  exact ⟨by rw [hb.cell q1]; exact a0, by rw [hb.cell q1]; exact a1, by rw [hb.cell q1]; exact a2, by rw [hb.cell q2]; exact b0, by rw [hb.cell q2]; exact b1, by rw [hb.cell q2]; exact b2, h3.trans (hb.mono h3.size)⟩
end Go.Proofs.YtanfebccenfffagGreatDoor

namespace Go.Proofs.YtanfebccenfffagGreatDoor
open Go.RowKit

theorem Blk.mid {w w' : World} {g B T : Nat} {cs : Array Value} {t : TypeId} (h : Blk w g cs t) (hm : Mid B T w w') (hg : g < B ∨ T ≤ g) : Blk w' g cs t := by
  unfold Blk
  rw [hm.block g (Array.getElem?_eq_some_iff.1 h).1 hg]; exact h
end Go.Proofs.YtanfebccenfffagGreatDoor

namespace Go.Proofs.YtanfebccenfffagGreatDoor
open Go.RowKit

/-- The last digit of a number, as a text. -/
def dgB (j : Nat) : ByteArray := ⟨#[UInt8.ofNat (48 + j % 10)]⟩

/-- The decimal digits of k ahead of a text. -/
def digs : Nat → Nat → ByteArray → ByteArray
  | 0, _, out => out
  | f + 1, k, out => if k = 0 then out else digs f (k / 10) (dgB k ++ out)

/-- The text of a mark. -/
def mtx (k : Nat) : ByteArray := if k = 0 then ⟨#[109, 48]⟩ else ⟨#[109]⟩ ++ digs k k ⟨#[]⟩

theorem run_conv1 (w : World) (j : Nat) : (convert 95 9 (.slice (some ⟨w.heap.size, 0, none⟩) 1 1)).run Tryz.prog (w.alloc (.cells #[.int .u8 (48 + (j : Int) % 10)] 5)) = .ok (.string (dgB j)) (w.alloc (.cells #[.int .u8 (48 + (j : Int) % 10)] 5)) := by
  have h1 : (UInt8.ofNat (48 + j % 10)).toNat = 48 + j % 10 := by rw [UInt8.toNat_ofNat']; omega
  refine run_convert_bytes_back _ 95 9 5 ⟨w.heap.size, 0, none⟩ 1 [UInt8.ofNat (48 + j % 10)] Tryz.underlying95 Tryz.underlying5 Tryz.underlying9 (fun i hi => ?_)
  have hi0 : i = 0 := by simp at hi; exact hi
  subst hi0
  have e : (([UInt8.ofNat (48 + j % 10)][0]).toNat : Int) = 48 + (j : Int) % 10 := by show ((UInt8.ofNat (48 + j % 10)).toNat : Int) = _; rw [h1]; omega
  rw [e]
  simp [Addr.add]

set_option maxRecDepth 100000 in
set_option maxHeartbeats 1000000 in
theorem markText_pos (k : Nat) (w : World) (hk : 0 < k) (hk2 : k ≤ 1099511627776) : Calls Tryz.prog 32 #[.int .i64 (k : Int)] w fun e w' => e = .returned (.string (mtx k)) ∧ Below w.heap.size w w' := by
  have h1 : ¬ (k : Int) ≤ 0 := by omega
  go_enter Tryz.func32, Tryz.ntmps32
  go_wp2
  go_loopw [0, 3] (fun kv ov wr => ∃ (j f : Nat) (out : ByteArray), kv = .int .i64 j ∧ ov = .string out ∧ j ≤ k ∧ j ≤ f ∧ out.size + f ≤ k ∧ digs f j out = digs k k ⟨#[]⟩ ∧ Below w.heap.size w wr) (fun kv _ _ => (intOf kv).toNat)
  case atStart => exact ⟨k, k, ⟨#[]⟩, rfl, rfl, Nat.le_refl _, Nat.le_refl _, by simp [ByteArray.size], rfl, Below.refl _ _⟩
  case round =>
    obtain ⟨j, f, out, rfl, rfl, hj, hf, hs, hd, hb⟩ := hrel
    have HD : Hid _ := hd
    clear hd
    by_cases h0 : 0 < j
    · have h0' : (0 : Int) < (j : Int) := by omega
      obtain ⟨f', rfl⟩ : ∃ f', f = f' + 1 := ⟨f - 1, by omega⟩
      have HN : Hid (digs f' (j / 10) (dgB j ++ out) = digs k k ⟨#[]⟩) := by
        show _ = _
        rw [← HD.out, digs, if_neg (by omega)]
      have CV := run_conv1 wr j
      have hdz : (dgB j).size = 1 := rfl
      have hos : out.size ≤ 1099511627776 := by omega
      have hsz : (dgB j ++ out).size = 1 + out.size := by rw [ByteArray.size_append]; rfl
      have HSZ : Hid _ := hsz
      clear HD hsz
      go_wp2
      exact ⟨⟨j / 10, f', _, by go_num, rfl, by omega, by omega, by rw [HSZ.out]; omega, HN.out, hb.alloc hb.size _⟩, by simp [intOf]; omega⟩
    · have hj0 : j = 0 := by omega
      subst hj0
      have HF : Hid (digs k k ⟨#[]⟩ = out) := by
        show _ = _
        rw [← HD.out]
        cases f with
        | zero => rfl
        | succ f => rw [digs, if_pos rfl]
      have HM : Hid (mtx k = ⟨#[109]⟩ ++ out) := by show _ = _; unfold mtx; rw [if_neg (by omega), HF.out]
      clear HD HF
      go_wp2
      go_ret
      rw [HM.out]
      exact ⟨rfl, hb⟩

theorem Strs.slice {w : World} {B : Nat} {v : Value} {ss : List ByteArray} (h : Strs w B v ss) : ∃ a c, v = .slice a ss.length c := by
  rcases h.form with ⟨rfl, rfl⟩ | ⟨g, cap, rfl, _, _⟩
  · exact ⟨_, _, rfl⟩
  · exact ⟨_, _, rfl⟩

set_option maxRecDepth 100000 in
set_option maxHeartbeats 1000000 in
theorem eqStr_none (w : World) (a b : Option Addr) (c d : Nat) : Calls Tryz.prog 11 #[.slice a 0 c, .slice b 0 d] w fun e w' => e = .returned (.bool true) ∧ ∃ n, w' = w.drewN n := by
  go_enter Tryz.func11, Tryz.ntmps11
  go_wp2
  go_loopw [5] (fun i wr => i = .int .i64 0 ∧ wr = w) (fun _ _ => 0)
  case atStart => exact ⟨rfl, rfl⟩
  case round =>
    obtain ⟨rfl, rfl⟩ := hrel
    go_wp2
    go_ret
    exact ⟨rfl, 0, rfl⟩

set_option maxRecDepth 100000 in
set_option maxHeartbeats 1000000 in
theorem eqStr_row (w : World) (B B' g g' cap cap' : Nat) (ss : List ByteArray) (hz : ss.length ≤ 1048576) (h1 : Strs w B (.slice (some ⟨g, 0, none⟩) ss.length cap) ss) (h2 : Strs w B' (.slice (some ⟨g', 0, none⟩) ss.length cap') ss) :
    Calls Tryz.prog 11 #[.slice (some ⟨g, 0, none⟩) ss.length cap, .slice (some ⟨g', 0, none⟩) ss.length cap'] w fun e w' => e = .returned (.bool true) ∧ ∃ n, w' = w.drewN n := by
  go_enter Tryz.func11, Tryz.ntmps11
  go_wp2
  go_loopw [5] (fun i wr => ∃ k nq : Nat, k ≤ ss.length ∧ i = .int .i64 k ∧ wr = w.drewN nq) (fun i _ => ss.length - (intOf i).toNat)
  case atStart => exact ⟨0, 0, Nat.zero_le _, rfl, rfl⟩
  case round =>
    obtain ⟨k, nq, hk, rfl, rfl⟩ := hrel
    by_cases hlt : k < ss.length
    · obtain ⟨x, hx⟩ : ∃ x, ss[k]? = some x := ⟨_, List.getElem?_eq_getElem hlt⟩
      have a1 := h1.cell k x hx
      have a2 := h2.cell k x hx
      have hk8 : (k : Int) < (ss.length : Int) := by omega
      clear h1 h2 hx
      go_wp2
      go_quiet (fail)
      go_wp2
      exact ⟨⟨k + 1, _, by omega, by go_num, rfl⟩, by simp [intOf]; omega⟩
    · clear h1 h2
      go_wp2
      go_ret
      exact ⟨rfl, _, rfl⟩

theorem eqStr_any {w : World} {B B' : Nat} {a b : Value} {ss : List ByteArray} (hz : ss.length ≤ 1048576) (ha : Strs w B a ss) (hb : Strs w B' b ss) :
    Calls Tryz.prog 11 #[a, b] w fun e w' => e = .returned (.bool true) ∧ ∃ n, w' = w.drewN n := by
  rcases ha.form with ⟨rfl, rfl⟩ | ⟨g, cap, rfl, _, _⟩
  · rcases hb.form with ⟨rfl, _⟩ | ⟨g', cap', rfl, _, _⟩
    · exact eqStr_none w _ _ _ _
    · exact eqStr_none w _ _ _ _
  · rcases hb.form with ⟨rfl, rfl⟩ | ⟨g', cap', rfl, _, _⟩
    · exact eqStr_none w _ _ _ _
    · exact eqStr_row w B B' g g' cap cap' ss hz ha hb

/-- The texts of the marks from m on. -/
def seqT (m n : Nat) : List ByteArray := (List.range n).map fun j => mtx (m + j)

theorem seqT_len (m n : Nat) : (seqT m n).length = n := by simp [seqT]
theorem seqT_at (m n j : Nat) (h : j < n) : (seqT m n)[j]? = some (mtx (m + j)) := by simp [seqT, h]

/-- The row behind k marks. -/
def mkT (ss : List ByteArray) (m : Nat) : Nat → List ByteArray
  | 0 => ss
  | k + 1 => (mkT ss m k).set k (mtx (m + k))

theorem mkT_len (ss : List ByteArray) (m k : Nat) : (mkT ss m k).length = ss.length := by
  induction k with
  | zero => rfl
  | succ k ih => simp [mkT, ih]

theorem mkT_at (ss : List ByteArray) (m k j : Nat) (hj : j < k) (hl : j < ss.length) : (mkT ss m k)[j]? = some (mtx (m + j)) := by
  induction k with
  | zero => omega
  | succ k ih =>
    simp only [mkT, List.getElem?_set, mkT_len]
    by_cases e : k = j
    · subst e; simp [hl]
    · rw [if_neg e]; exact ih (by omega)

theorem mkT_all (ss : List ByteArray) (m : Nat) : mkT ss m ss.length = seqT m ss.length := by
  apply List.ext_getElem?
  intro j
  by_cases h : j < ss.length
  · rw [mkT_at ss m _ j h h, seqT_at m _ j h]
  · rw [List.getElem?_eq_none (by rw [mkT_len]; omega), List.getElem?_eq_none (by rw [seqT_len]; omega)]

theorem mkT_map (ss : List ByteArray) (m k : Nat) : ((mkT ss m k).map Value.string).set k (.string (mtx (m + k))) = (mkT ss m (k + 1)).map Value.string := by
  simp [mkT, List.map_set]

set_option maxRecDepth 100000 in
set_option maxHeartbeats 1000000 in
theorem markT_none (w : World) (a : Option Addr) (c : Nat) (m : Int) : Calls Tryz.prog 14 #[.slice a 0 c, .int .i64 m] w fun e w' => e = .returned (.int .i64 m) ∧ w' = w := by
  go_enter Tryz.func14, Tryz.ntmps14
  go_wp2
  go_loop [1, 5] (fun k i => k = .int .i64 m ∧ i = .int .i64 0) (fun _ _ => 0)
  case atStart => exact ⟨rfl, rfl⟩
  case round =>
    obtain ⟨rfl, rfl⟩ := hrel
    go_wp2
    go_ret
    exact ⟨rfl, rfl⟩

def MTRel (w : World) (B g cap : Nat) (ss : List ByteArray) (m : Nat) (mv i : Value) (wr : World) : Prop :=
  ∃ k : Nat, k ≤ ss.length ∧ i = .int .i64 k ∧ mv = .int .i64 ((m + k : Nat) : Int) ∧ wr.ownsRow B 9 1 (.slice (some ⟨g, 0, none⟩) ss.length cap) ss.length ((mkT ss m k).map Value.string) ∧ w.grownBy wr (some g)

set_option maxRecDepth 100000 in
set_option maxHeartbeats 1000000 in
theorem markT_row (w : World) (B g cap : Nat) (ss : List ByteArray) (m : Nat) (hm0 : 0 < m) (hm1 : m ≤ 1073741824) (hz : ss.length ≤ 1048576) (hI : w.ownsRow B 9 1 (.slice (some ⟨g, 0, none⟩) ss.length cap) ss.length (ss.map Value.string)) :
    Calls Tryz.prog 14 #[.slice (some ⟨g, 0, none⟩) ss.length cap, .int .i64 (m : Int)] w fun e w' => e = .returned (.int .i64 ((m + ss.length : Nat) : Int)) ∧ w'.ownsRow B 9 1 (.slice (some ⟨g, 0, none⟩) ss.length cap) ss.length ((mkT ss m ss.length).map Value.string) ∧ w.grownBy w' (some g) := by
  go_enter Tryz.func14, Tryz.ntmps14
  go_wp2
  go_loopw [1, 5] (fun mv i wr => MTRel w B g cap ss m mv i wr) (fun _ i _ => ss.length - (intOf i).toNat)
  case atStart => exact ⟨0, Nat.zero_le _, rfl, by simp, hI, World.grownBy.refl _ _⟩
  case round =>
    clear hI
    obtain ⟨k, hk, rfl, rfl, hown, hg⟩ := hrel
    by_cases hlt : k < ss.length
    · have hk8 : (k : Int) < (ss.length : Int) := by omega
      have MT := fun w => markText_pos (m + k) w (by omega) (by omega)
      obtain ⟨M, hM⟩ : ∃ M, M = m + k := ⟨_, rfl⟩
      have HW : Hid _ := hown
      rw [← hM] at MT
      rw [← hM]
      have HM : Hid _ := hM
      clear hM hown
      go_wp2_with fail
      refine (MT _).mono ?_
      rintro e w2 ⟨rfl, b2⟩
      have h2 := World.ownsRow.kept HW.out (row := none) ⟨b2.os, b2.tape, b2.output, b2.size, fun k hk _ => b2.block k hk⟩ (by simp [Value.ownBlock])
      have c1 := h2.cellAt k (by omega)
      have hm : ((mkT ss m k).map Value.string)[k]? = some (.string ((mkT ss m k)[k]?.getD ⟨#[]⟩)) := by
        have := mkT_len ss m k
        simp [this, hlt]
      rw [hm] at c1
      have c2 := h2.frozenAt k
      have hst := h2.stored k (.string (mtx (m + k)))
      rw [mkT_map] at hst
      rw [← HM.out] at hst
      have HST : Hid _ := hst
      have HG : Hid (w.grownBy w2 (some g)) := hg.trans ⟨b2.os, b2.tape, b2.output, b2.size, fun k hk _ => b2.block k hk⟩
      have hMb : M ≤ 2000000000 := by have := HM.out; omega
      clear hst hm h2 MT HW b2
      go_wp2
      exact ⟨⟨k + 1, by omega, by go_num, by rw [show m + (k + 1) = M + 1 by have := HM.out; omega]; go_num, HST.out.1, HG.out.trans HST.out.2⟩, by simp [intOf]; omega⟩
    · have hkz : k = ss.length := by omega
      subst hkz
      go_wp2
      go_ret
      exact ⟨rfl, hown, hg⟩

theorem markT_any {w : World} {B : Nat} {v : Value} {ss : List ByteArray} {m : Nat} (hm0 : 0 < m) (hm1 : m ≤ 1073741824) (hz : ss.length ≤ 1048576) (hI : Strs w B v ss) :
    Calls Tryz.prog 14 #[v, .int .i64 (m : Int)] w fun e w' => e = .returned (.int .i64 ((m + ss.length : Nat) : Int)) ∧ Strs w' B v (seqT m ss.length) ∧ w.grownBy w' v.ownBlock := by
  rcases hI.form with ⟨rfl, rfl⟩ | ⟨g, cap, rfl, _, _⟩
  · refine (markT_none w _ _ m).mono ?_
    rintro e w' ⟨rfl, rfl⟩
    exact ⟨by simp, hI, World.grownBy.refl _ _⟩
  · refine (markT_row w B g cap ss m hm0 hm1 hz hI).mono ?_
    rintro e w' ⟨rfl, h3, h4⟩
    refine ⟨rfl, ?_, h4⟩
    unfold Strs
    rw [seqT_len, ← mkT_all]
    exact h3
end Go.Proofs.YtanfebccenfffagGreatDoor

namespace Go.Proofs.YtanfebccenfffagGreatDoor
open Go.RowKit

set_option maxRecDepth 100000 in
set_option maxHeartbeats 1000000 in
theorem heldT_none (w : World) (a : Option Addr) (c : Nat) (m : Int) : Calls Tryz.prog 15 #[.slice a 0 c, .int .i64 m] w fun e w' => e = .returned (.int .i64 m) ∧ Below w.heap.size w w' := by
  go_enter Tryz.func15, Tryz.ntmps15
  go_wp2
  go_loop [1, 5] (fun k i => k = .int .i64 m ∧ i = .int .i64 0) (fun _ _ => 0)
  case atStart => exact ⟨rfl, rfl⟩
  case round =>
    obtain ⟨rfl, rfl⟩ := hrel
    go_wp2
    go_ret
    exact ⟨rfl, Below.refl _ _⟩

theorem keep1 {w0 w1 w2 : World} {g k : Nat} {x : Value} (hg : g < w0.heap.size) (hb : Below w1.heap.size w1 w2) (h : w1.cell? ⟨g, k, none⟩ = some x ∧ Below w0.heap.size w0 w1) : w2.cell? ⟨g, k, none⟩ = some x ∧ Below w0.heap.size w0 w2 :=
  ⟨by rw [hb.cell (Nat.lt_of_lt_of_le hg h.2.size)]; exact h.1, h.2.trans (hb.mono h.2.size)⟩

set_option maxRecDepth 100000 in
set_option maxHeartbeats 2000000 in
theorem heldT_row (w : World) (B g cap n m : Nat) (hm0 : 0 < m) (hm1 : m ≤ 1073741824) (hz : n ≤ 1048576) (hI : Strs w B (.slice (some ⟨g, 0, none⟩) (seqT m n).length cap) (seqT m n)) :
    Calls Tryz.prog 15 #[.slice (some ⟨g, 0, none⟩) n cap, .int .i64 (m : Int)] w fun e w' => e = .returned (.int .i64 ((m + n : Nat) : Int)) ∧ Below w.heap.size w w' := by
  have hg := (World.ownsRow.lt hI g rfl).2
  go_enter Tryz.func15, Tryz.ntmps15
  go_wp2
  go_loopw [1, 5] (fun mv i wr => ∃ k : Nat, k ≤ n ∧ i = .int .i64 k ∧ mv = .int .i64 ((m + k : Nat) : Int) ∧ Below w.heap.size w wr) (fun _ i _ => n - (intOf i).toNat)
  case atStart => exact ⟨0, Nat.zero_le _, rfl, by simp, Below.refl _ _⟩
  case round =>
    obtain ⟨k, hk, rfl, rfl, hb⟩ := hrel
    by_cases hlt : k < n
    · have hk8 : (k : Int) < (n : Int) := by omega
      have c0 := hI.cell k _ (seqT_at m n k hlt)
      obtain ⟨M, hM⟩ : ∃ M, M = m + k := ⟨_, rfl⟩
      rw [← hM] at c0
      rw [← hM]
      have MT := fun w => markText_pos M w (by omega) (by omega)
      have hS0 : w.cell? ⟨g, k, none⟩ = some (.string (mtx M)) ∧ Below w.heap.size w w := ⟨c0, Below.refl _ _⟩
      have hS := keep1 hg hb hS0
      have hS2 := keep1 hg ((Below.refl wr.heap.size wr).drew) hS
      have K := fun (u1 u2 : World) (hb : Below u1.heap.size u1 u2) (hu : u1.cell? ⟨g, k, none⟩ = some (.string (mtx M)) ∧ Below w.heap.size w u1) => keep1 hg hb hu
      have HM : Hid _ := hM
      have hMb : M ≤ 2000000000 := by omega
      clear hM hI c0 hS0
      go_wp2_with fail
      go_region_held (fun u => u.cell? ⟨g, k, none⟩ = some (.string (mtx M)) ∧ Below w.heap.size w u)
        (first | exact hS2 | exact K _ _ (by assumption) (by assumption))
        (first | (go_at_call 32; refine (MT _).mono ?_; rintro e w' ⟨rfl, hbw⟩))
      all_goals
        have hE := (show w'.cell? ⟨g, k, none⟩ = _ ∧ Below w.heap.size w w' by assumption).2
        clear hS hS2 K MT
        go_wp2
        exact ⟨⟨k + 1, by omega, by go_num, by rw [show m + (k + 1) = M + 1 by have := HM.out; omega]; go_num, hE⟩, by simp [intOf]; omega⟩
    · have hkz : k = n := by omega
      subst hkz
      go_wp2
      go_ret
      exact ⟨rfl, hb⟩

theorem heldT_any {w : World} {B : Nat} {v : Value} {n m : Nat} (hm0 : 0 < m) (hm1 : m ≤ 1073741824) (hz : n ≤ 1048576) (hI : Strs w B v (seqT m n)) :
    Calls Tryz.prog 15 #[v, .int .i64 (m : Int)] w fun e w' => e = .returned (.int .i64 ((m + n : Nat) : Int)) ∧ Below w.heap.size w w' := by
  have hl := seqT_len m n
  rcases hI.form with ⟨rfl, h⟩ | ⟨g, cap, rfl, _, _⟩
  · rw [h] at hl
    have : n = 0 := by simpa using hl.symm
    subst this
    exact heldT_none w none 0 m
  · have := heldT_row w B g cap n m hm0 hm1 hz hI
    rw [hl]
    exact this
end Go.Proofs.YtanfebccenfffagGreatDoor

namespace Go.Proofs.YtanfebccenfffagGreatDoor
open Go.ChangeShapes Go.WideShapes Go.ChangeAt Go.WideMaps Go.WideElems Go.RowKit

/-- A list of strings handed in. -/
def ArgStrs (w : World) (a : Option Addr) (len cap : Nat) (ss : List ByteArray) : Prop :=
  ss.length = len ∧ len ≤ cap ∧ cap ≤ maxLen ∧ (∀ s ∈ ss, s.size ≤ maxLen) ∧ (len = 0 ∨ ∃ b o, a = some ⟨b, o, none⟩ ∧ ∀ (k : Nat) (x : ByteArray), ss[k]? = some x → w.cell? ⟨b, o + k, none⟩ = some (.string x))

theorem spot_none2 {w : World} {a : Addr} {v : Value} (h : w.cell? a = some v) : a.spot = none := by
  unfold World.cell? at h
  split at h
  · cases hs : a.spot with
    | none => rfl
    | some x => simp [hs] at h
  · simp at h

section
variable {H : Type} {enc : TypeId × Value → H} {w : World} {base : Nat}

theorem open_strings4 {n : Nat} {a : Option Addr} {len cap : Nat} {x : DataW H × List MemPlace} (h : DataW.trod enc Tryz.prog w base (fun _ => true) true n 25 [.slice a len cap] = some x) : ∃ ss, ArgStrs w a len cap ss := by
  rcases open_strings Tryz.underlying25 Tryz.underlying9 (by kernel_rfl) h with ⟨hcs, _⟩ | ⟨a', len', cap', ss, hcs, _, hl, hm, hss, _, hx, hz⟩
  · cases hcs
    exact ⟨[], rfl, Nat.le_refl _, Nat.zero_le _, by simp, .inl rfl⟩
  · cases hcs
    simp only [if_true] at hss
    refine ⟨ss.take len, by rw [List.length_take]; omega, hl, hm, fun s hs => hz s (List.mem_of_mem_take hs), ?_⟩
    by_cases h0 : len = 0
    · exact .inl h0
    · right
      have hsp : a'.spot = none := by
        have := spot_none2 (hx 0 (by omega))
        simpa [Addr.add] using this
      obtain ⟨b, o, sp⟩ := a'
      simp at hsp
      subst hsp
      refine ⟨b, o, rfl, fun k y hy => ?_⟩
      rw [List.getElem?_take] at hy
      split at hy
      · have hk := (List.getElem?_eq_some_iff.1 hy).1
        have h2 := hx k hk
        have e1 : (⟨b, o, none⟩ : Addr).add k = ⟨b, o + k, none⟩ := by
          unfold Addr.add
          split
          · rename_i hk0; subst hk0; rfl
          · rfl
        rw [e1] at h2
        rw [h2, List.getD, hy]
        rfl
      · cases hy
end

def szT : List ByteArray → Int → Int
  | [], left => left
  | s :: ss, left => if left - (s.size : Int) < 0 then -1 else szT ss (left - (s.size : Int))

def szSA (ss : List ByteArray) (left : Int) : Int := if left - (ss.length : Int) < 0 then -1 else szT ss (left - (ss.length : Int))

theorem szT_bd : ∀ (ss : List ByteArray) (left : Int), 0 ≤ left → 0 ≤ szT ss left → ∀ s ∈ ss, (s.size : Int) ≤ left
  | [], _, _, _ => fun e he => by simp at he
  | x :: ss, left, h0, h => fun e he => by
    unfold szT at h
    split at h
    · omega
    · rcases List.mem_cons.1 he with rfl | he
      · omega
      · have := szT_bd ss _ (by omega) h e he
        omega

theorem szSA_bd {ss : List ByteArray} {left : Int} (h : 0 ≤ szSA ss left) : (ss.length : Int) ≤ left ∧ ∀ s ∈ ss, (s.size : Int) ≤ left := by
  unfold szSA at h
  split at h
  · omega
  · refine ⟨by omega, fun e he => ?_⟩
    have := szT_bd ss _ (by omega) h e he
    omega

theorem str_drop {ss : List ByteArray} {k : Nat} {x : ByteArray} (h : ss[k]? = some x) : ss.drop k = x :: ss.drop (k + 1) := by
  obtain ⟨hk, rfl⟩ := List.getElem?_eq_some_iff.1 h
  exact List.drop_eq_getElem_cons hk

theorem cell_lt2 {w : World} {b o : Nat} {v : Value} (h : w.cell? ⟨b, o, none⟩ = some v) : b < w.heap.size := by
  apply Classical.byContradiction
  intro hn
  have : w.heap[b]? = none := by simp; omega
  simp [World.cell?, this] at h

set_option maxRecDepth 100000 in
set_option maxHeartbeats 2000000 in
theorem szStrs_any (w w1 : World) (a : Option Addr) (len cap : Nat) (ss : List ByteArray) (left : Int) (h0 : 0 ≤ left) (h1 : left ≤ 1048576) (hA : ArgStrs w a len cap ss) (hb : Below w.heap.size w w1) :
    Calls Tryz.prog 6 #[.slice a len cap, .int .i64 left] w1 fun e w' => e = .returned (.int .i64 (szSA ss left)) ∧ w' = w1 := by
  obtain ⟨hlen, hlc, hcm, hsz, hA⟩ := hA
  unfold maxLen at hcm hsz
  by_cases hneg : left - (len : Int) < 0
  · have HA : Hid (szSA ss left = -1) := by show _ = _; unfold szSA; rw [hlen, if_pos hneg]
    clear hA
    go_enter Tryz.func6, Tryz.ntmps6
    go_wp2
    go_ret
    rw [HA.out]
    exact ⟨rfl, rfl⟩
  · have HA : Hid (szSA ss left = szT ss (left - (len : Int))) := by show _ = _; unfold szSA; rw [hlen, if_neg hneg]
    subst hlen
    obtain ⟨ans, HANS⟩ : ∃ ans, Hid (szT ss (left - (ss.length : Int)) = ans) := ⟨_, rfl⟩
    rw [HA.out, HANS.out]
    go_enter Tryz.func6, Tryz.ntmps6
    go_wp2
    go_loop [1, 5] (fun lv i => ∃ (k : Nat) (lf : Int), k ≤ ss.length ∧ i = .int .i64 k ∧ lv = .int .i64 lf ∧ 0 ≤ lf ∧ lf ≤ 1048576 ∧ szT (ss.drop k) lf = ans) (fun _ i => ss.length - (intOf i).toNat)
    case atStart => exact ⟨0, _, Nat.zero_le _, rfl, rfl, by omega, by omega, by rw [List.drop_zero]; exact HANS.out⟩
    case round =>
      obtain ⟨k, lf, hk, rfl, rfl, hf0, hf1, hR⟩ := hrel
      have HR : Hid _ := hR
      clear hR
      by_cases hlt : k < ss.length
      · obtain ⟨x, hx⟩ : ∃ x, ss[k]? = some x := ⟨_, List.getElem?_eq_getElem hlt⟩
        obtain ⟨b, o, rfl, hE⟩ := hA.resolve_left (by omega)
        have c0 := hE k x hx
        have a0 : w1.cell? ⟨b, o + k, none⟩ = some (.string x) := by rw [hb.cell (cell_lt2 c0)]; exact c0
        have hxs := hsz x (List.mem_of_getElem? hx)
        have hk8 : (k : Int) < (ss.length : Int) := by omega
        have HR2 : Hid ((if lf - (x.size : Int) < 0 then -1 else szT (ss.drop (k + 1)) (lf - (x.size : Int))) = ans) := by
          show _ = _
          rw [← HR.out, str_drop hx]
          rfl
        clear hE hx c0 HR hsz
        by_cases hs : lf - (x.size : Int) < 0
        · have HF : Hid (-1 = ans) := by show _ = _; rw [← HR2.out, if_pos hs]
          clear HR2
          go_wp2
          go_ret
          rw [← HF.out]
          exact ⟨rfl, rfl⟩
        · have HF : Hid (szT (ss.drop (k + 1)) (lf - (x.size : Int)) = ans) := by show _ = _; rw [← HR2.out, if_neg hs]
          clear HR2
          go_wp2
          exact ⟨⟨k + 1, _, hlt, by go_num, rfl, by omega, by omega, HF.out⟩, by simp [intOf]; omega⟩
      · have hk3 : k = ss.length := by omega
        subst hk3
        have HF : Hid (lf = ans) := by show _ = _; rw [← HR.out, List.drop_length]; rfl
        clear HR hA hsz
        go_wp2
        go_ret
        rw [← HF.out]
        exact ⟨rfl, rfl⟩

def fillS (ss : List ByteArray) (k : Nat) : List ByteArray := ss.take k ++ List.replicate (ss.length - k) ⟨#[]⟩

theorem fillS_len (ss : List ByteArray) (k : Nat) (h : k ≤ ss.length) : (fillS ss k).length = ss.length := by
  unfold fillS
  rw [List.length_append, List.length_take, List.length_replicate]; omega

theorem fillS_set {ss : List ByteArray} {k : Nat} {e : ByteArray} (h : ss[k]? = some e) : (fillS ss k).set k e = fillS ss (k + 1) := by
  have hk := (List.getElem?_eq_some_iff.1 h).1
  unfold fillS
  rw [List.set_append_right _ _ (by simp; omega), List.length_take, show k - min k ss.length = 0 by omega, show ss.length - k = (ss.length - (k + 1)) + 1 by omega, List.replicate_succ, List.set_cons_zero, List.take_add_one, h]
  simp

theorem fillS_all (ss : List ByteArray) : fillS ss ss.length = ss := by simp [fillS]

theorem made_strs (n : Nat) : (madeCells (Value.string ⟨#[]⟩).cells (n * 1)).toList = (List.replicate n (⟨#[]⟩ : ByteArray)).map Value.string := by
  have h := toList_madeCells_one (Value.string ⟨#[]⟩) n
  simpa [Value.cells] using h

set_option maxRecDepth 100000 in
set_option maxHeartbeats 2000000 in
theorem toStrs_any (w0 w : World) (a : Option Addr) (len cap : Nat) (ss : List ByteArray) (hA : ArgStrs w0 a len cap ss) (hb : Below w0.heap.size w0 w) (hm : len ≤ 1048576) :
    Calls Tryz.prog 9 #[.slice a len cap] w fun e w' => ∃ g, e = .returned (.slice (some ⟨g, 0, none⟩) len len) ∧ Strs w' w.heap.size (.slice (some ⟨g, 0, none⟩) len len) ss ∧ Below w.heap.size w w' := by
  obtain ⟨hlen, hlc, hcm, _, hA⟩ := hA
  subst hlen
  obtain ⟨i0, hi, hz0, hz1, hz2⟩ := info_parts info_str
  go_enter Tryz.func9, Tryz.ntmps9
  go_wp2_with (at_make; refine wpList_make_full _ rfl _ _ 25 rfl w.heap.size 9 i0 (.string ⟨#[]⟩) 1 Tryz.underlying25 hi hz0 hz1 .i64 .i64 _ _ ss.length rfl rfl rfl rfl (by rw [hz2]; omega) (by unfold maxLen; omega) (Nat.le_refl _) ?_; intro w1 hown hgr)
  have hE1 : w1.ownsRow w.heap.size 9 1 (.slice (some ⟨w.heap.size, 0, none⟩) ss.length ss.length) ss.length ((fillS ss 0).map Value.string) := by
    rw [made_strs] at hown
    simpa [fillS] using hown
  have hb1 : Below w.heap.size w w1 := Below.grown (Below.refl _ _) hgr (Nat.le_refl _) (fun j hj => by cases hj)
  clear hown hgr
  go_loopw [4] (fun i wr => ∃ k : Nat, k ≤ ss.length ∧ i = .int .i64 k ∧ wr.ownsRow w.heap.size 9 1 (.slice (some ⟨w.heap.size, 0, none⟩) ss.length ss.length) ss.length ((fillS ss k).map Value.string) ∧ Below w.heap.size w wr) (fun i _ => ss.length - (intOf i).toNat)
  case atStart => exact ⟨0, Nat.zero_le _, rfl, hE1, hb1⟩
  case round =>
    clear hE1 hb1
    obtain ⟨k, hk, rfl, hown, hbr⟩ := hrel
    by_cases hlt : k < ss.length
    · obtain ⟨x, hx⟩ : ∃ x, ss[k]? = some x := ⟨_, List.getElem?_eq_getElem hlt⟩
      obtain ⟨b, o, rfl, hE⟩ := hA.resolve_left (by omega)
      have c0 := hE k x hx
      have a0 : wr.cell? ⟨b, o + k, none⟩ = some (.string x) := by rw [(hb.trans (hbr.mono hb.size)).cell (cell_lt2 c0)]; exact c0
      have hk8 : (k : Int) < (ss.length : Int) := by omega
      have c1 := hown.cellAt k (by omega)
      have hm2 : ((fillS ss k).map Value.string)[k]? = some (.string ((fillS ss k)[k]?.getD ⟨#[]⟩)) := by
        have := fillS_len ss k hk
        simp [this, hlt]
      rw [hm2] at c1
      have c2 := hown.frozenAt k
      have hst := hown.stored k (.string x)
      have e1 : ((fillS ss k).map Value.string).set k (.string x) = (fillS ss (k + 1)).map Value.string := by rw [← fillS_set hx, List.map_set]
      rw [e1] at hst
      have HST : Hid _ := hst
      clear hst hm2 hE hx c0 e1 hown
      go_wp2
      exact ⟨⟨k + 1, by omega, by go_num, HST.out.1, Below.grown hbr HST.out.2 hbr.size (fun j hj => by cases hj; exact Nat.le_refl _)⟩, by simp [intOf]; omega⟩
    · have hkz : k = ss.length := by omega
      subst hkz
      rw [fillS_all] at hown
      clear hA
      go_wp2
      go_ret
      exact ⟨_, rfl, hown, hbr⟩
end Go.Proofs.YtanfebccenfffagGreatDoor
