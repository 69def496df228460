/- Texts of mine laid together: IGrow, IShort0, IConcat, IFirst2. -/
import Derived.Test.YtinjldagfhbioaaGreatDoorMD5
import Derived.Deep.RegionWith
import Derived.Deep.RegionLaw
import Derived.Deep.AppendLies
import Derived.Test.YtinjldagfhbioaaGreatDoorMD4
namespace Go.Proofs.YtinjldagfhbioaaGreatDoor
open Go.RowKit

def restLen (b : Nat) (w : World) : Nat := match w.cell? ⟨b, 4, none⟩ with
  | some v => sliceLen v
  | none => 0

theorem RestS.len {w : World} {B : Nat} {v : Value} {l : List Int} (h : RestS w B v l) : ∃ a c, v = .slice a l.length c := by
  rcases h with ⟨rfl, rfl⟩ | ⟨g, _, _, f, c, cs, rfl, _⟩
  · exact ⟨_, _, rfl⟩
  · exact ⟨_, _, rfl⟩

theorem Str.restLen {wb w : World} {b : Nat} {ve vs vr : Value} {sh : Bool} {lv : Int} {st rest : List Int} (h : Str wb w b ve sh lv vs vr st rest) : restLen b w = rest.length := by
  unfold Go.Proofs.YtinjldagfhbioaaGreatDoor.restLen
  rw [h.cells.2.2.2.2.1]
  obtain ⟨a, c, rfl⟩ := h.2.2.2.1.len
  rfl

theorem firstsE_len (sh : Bool) (els : List El) : (firstsE sh els).length ≤ els.length := by
  unfold firstsE
  induction els with
  | nil => exact Nat.le_refl _
  | cons e els ih =>
    rw [List.flatMap_cons, List.length_append, List.length_cons]
    have : (ifNot (fw sh e)).length ≤ 1 := by
      unfold ifNot
      split <;> simp
    omega

def GrRel (wb : World) (b : Nat) (ve : Value) (sh : Bool) (lv : Int) (es : List Ent) (goal : List Int × List Int) (wr : World) : Prop :=
  ∃ f vs vr st rest, Str wb wr b ve sh lv vs vr st rest ∧ rest.length ≤ f ∧ f ≤ 3000 ∧ st.length + 2 * rest.length ≤ 1000000 ∧ (∀ x ∈ rest, goodB x = true) ∧ (st ++ (setF es sh f rest).1, (setF es sh f rest).2) = goal

set_option maxRecDepth 100000 in
set_option maxHeartbeats 8000000 in
theorem grow_any {wb w : World} {B b gx fx cx : Nat} {ve vs vr : Value} {es : List Ent} {sh : Bool} {lv : Int} {st rest pc : List Int} (hE : Ents wb B ve es) (hne : es.length ≤ 1048576) (hr : ∀ e ∈ es, e.runes.length ≤ 1048576) (ht : Tabs3 wb)
    (hS : Str wb w b ve sh lv vs vr st rest) (hgx : gx < w.heap.size) (hc : ∀ j y, pc[j]? = some y → w.cell? ⟨gx, fx + j, none⟩ = some (.int .i64 y)) (hl : rest.length + pc.length ≤ 3000) (hN : st.length + 2 * (rest.length + pc.length) ≤ 1000000)
    (hg1 : ∀ x ∈ rest, goodB x = true) (hg2 : ∀ x ∈ pc, goodB x = true) :
    Calls Tryz.prog 58 #[.pointer (some ⟨b, 0, none⟩), .slice (some ⟨gx, fx, none⟩) pc.length cx] w fun e w' => e = .returned (.tuple #[]) ∧ ∃ vs' vr', Str wb w' b ve sh lv vs' vr' (growS es sh st rest pc).1 (growS es sh st rest pc).2 := by
  obtain ⟨goal, HG⟩ : ∃ goal, Hid (growS es sh st rest pc = goal) := ⟨_, rfl⟩
  rw [HG.out]
  have HE : Hid (Ents _ _ _ _) := hE
  have HT : Hid (Tabs3 _) := ht
  have HS : Hid (Str _ _ _ _ _ _ _ _ _ _) := hS
  obtain ⟨c0, c1, c2, c3, c4, fz⟩ := hS.cells
  have hR := hS.2.2.2.1
  have hbs := hS.2.2.2.2.2.size
  have hbl : b < w.heap.size := (Array.getElem?_eq_some_iff.1 hS.2.1).1
  have HNB : Hid (some b ≠ vr.ownBlock) := rest_ne hR hS.2.1
  have HFZ : Hid (∀ j, w.frozen? ⟨b, j, none⟩ = false) := fz
  clear hE ht hS
  go_enter Tryz.func58, Tryz.ntmps58
  go_wp2_with (at_builtin; refine append_mid rfl _ _ rfl wb.heap.size vr rest pc gx fx cx hgx rfl rfl hR hc (by omega) hbs ?_)
  intro v1 w1 r1 g1 n1
  obtain ⟨a1, k1, rfl⟩ : ∃ a k, v1 = .slice a (rest.length + pc.length) k := by
    have := r1.len
    rwa [List.length_append] at this
  have d4 : w1.cell? ⟨b, 4, none⟩ = some vr := (World.cell?_of_block (g1.block b hbl HNB.out)).trans c4
  have f4 : w1.frozen? ⟨b, 4, none⟩ = false := by
    have := HFZ.out 4
    unfold World.frozen? at this ⊢
    rw [g1.block b hbl HNB.out]
    exact this
  have HS1 : Hid (Str wb (w1.setCell ⟨b, 4, none⟩ (.slice a1 (rest.length + pc.length) k1)) b ve sh lv vs (.slice a1 (rest.length + pc.length) k1) st (rest ++ pc)) := HS.out.rest r1 g1 n1
  have HG1 : Hid (∀ x ∈ rest ++ pc, goodB x = true) := fun x hx => by
    rcases List.mem_append.1 hx with h | h
    · exact hg1 x h
    · exact hg2 x h
  clear c0 c1 c2 c3 c4 fz hR hbs HNB HFZ HS g1 n1 r1 hgx hc hg1 hg2
  go_wp2_with fail
  go_loopw [4] (fun _ wr => GrRel wb b ve sh lv es goal wr) (fun _ wr => restLen b wr)
  case atStart => exact ⟨(rest ++ pc).length, vs, _, st, rest ++ pc, HS1.out, Nat.le_refl _, by rw [List.length_append]; exact hl, by rw [List.length_append]; exact hN, HG1.out, HG.out⟩
  case round =>
    clear HS1 HG1 HG d4 f4
    obtain ⟨f, vs1, vr1, st1, rest1, hS, hf, hf3, hN1, hgd, hgo⟩ := hrel
    have hrl := hS.restLen
    obtain ⟨ra, rc, hvr⟩ := hS.2.2.2.1.len
    subst hvr
    obtain ⟨c0, c1, c2, c3, c4, fz⟩ := hS.cells
    have hbl : b < wr.heap.size := (Array.getElem?_eq_some_iff.1 hS.2.1).1
    by_cases h4 : 4 ≤ rest1.length
    · have h48 : (4 : Int) ≤ (rest1.length : Int) := by omega
      obtain ⟨g, hgB, hob, fo, c, cs, hv, h42, h43, h46, h44, h45⟩ : ∃ g, wb.heap.size ≤ g ∧ (Value.slice ra rest1.length rc).ownBlock = some g ∧ MidS wr g (.slice ra rest1.length rc) rest1 := by
        rcases hS.2.2.2.1 with ⟨_, q⟩ | q
        · rw [q] at h4; simp at h4
        · exact q
      obtain ⟨rfl, _, rfl⟩ := Value.slice.inj hv
      have hgl : g < wr.heap.size := (Array.getElem?_eq_some_iff.1 h44).1
      have hbr := hS.2.2.2.2.2
      have TR := fun (u : World) (hu : Below wr.heap.size wr u) => takeRun_rowS u wb B g fo rc cs ve es rest1 (hbr.trans (hu.mono hbr.size)) HE.out hne hr HT.out hgB (by omega) (by omega) h42 h43 h46 ((hu.block g hgl).trans h44) (fun j x hx => (hu.cell hgl).trans (h45 j x hx))
      have HS : Hid (Str _ _ _ _ _ _ _ _ _ _) := hS
      obtain ⟨f', rfl⟩ : ∃ f', f = f' + 1 := ⟨f - 1, by omega⟩
      have HGO : Hid ((st1 ++ firstsE sh (elsOf es (take4 es rest1).1)) ++ (setF es sh f' (take4 es rest1).2).1 = goal.1 ∧ (setF es sh f' (take4 es rest1).2).2 = goal.2) := by
        show _ ∧ _
        rw [← hgo, setF, if_pos h4, List.append_assoc]
        exact ⟨rfl, rfl⟩
      obtain ⟨k1', k2', k3', k4', k5'⟩ := take4_kept (es := es) (l := rest1) (by omega)
      have HK4 : Hid (∀ x ∈ (take4 es rest1).1, goodB x = true) := fun x hx => hgd x (k4' x hx)
      have HK5 : Hid (∀ x ∈ (take4 es rest1).2, goodB x = true) := fun x hx => hgd x (k5' x hx)
      have hel := elsOf_len es (take4 es rest1).1
      clear k3' k4' k5'
      have HNB : Hid (some b ≠ some g) := by have := rest_ne hS.2.2.2.1 hS.2.1; rw [hob] at this; exact this
      have HFZ : Hid (∀ j, wr.frozen? ⟨b, j, none⟩ = false) := fz
      clear hS hgo hgd h44 h45 hv hob fz
      go_wp2_with fail
      go_region_with (go_at_call 78; refine (TR _ (by repeat (first | exact Below.refl _ _ | refine Below.drew ?_))).mono ?_; rintro e w2 ⟨vq, vm, rfl, i2, m2, b2, g2⟩; have d4 : w2.cell? ⟨b, 4, none⟩ = some _ := (World.cell?_of_block (g2.block b hbl HNB.out)).trans c4; have f4 : w2.frozen? ⟨b, 4, none⟩ = false := (World.grownBy.frozen_far g2 ⟨b, 4, none⟩ hbl HNB.out).trans (HFZ.out 4); obtain ⟨fm, km, rfl⟩ : ∃ f k, vm = .slice (some ⟨g, f, none⟩) (take4 es rest1).2.length k := (by obtain ⟨f2, k2, cs2, rfl, _⟩ := m2; exact ⟨_, _, rfl⟩))
      all_goals
        have g2' : wr.grownBy w2 (some g) := ⟨g2.os, g2.tape, g2.output, g2.size, fun k hk h => g2.block k hk h⟩
        have i2' : Ints w2 wr.heap.size vq (take4 es rest1).1 := i2
        generalize (take4 es rest1).1 = run at *
        generalize (take4 es rest1).2 = rest2 at *
        have HS3 : Hid (Str wb (w2.setCell ⟨b, 4, none⟩ (.slice (some ⟨g, fm, none⟩) rest2.length km)) b ve sh lv vs1 (.slice (some ⟨g, fm, none⟩) rest2.length km) st1 rest2) := HS.out.rest (.inr ⟨g, hgB, rfl, m2⟩) g2' (fun j hj => .inl hj)
        have i3 : Ints (w2.setCell ⟨b, 4, none⟩ (.slice (some ⟨g, fm, none⟩) rest2.length km)) wr.heap.size vq run := World.ownsRow.kept i2' (setCells_grown w2 0 b 4 [_]) (by
          cases hv : vq.ownBlock with
          | none => exact .inl rfl
          | some j => exact .inr fun c => by have := (World.ownsRow.lt i2' j hv).1; have := Option.some.inj c; omega)
        obtain ⟨w3, HW3⟩ : ∃ w3, Hid (w3 = w2.setCell ⟨b, 4, none⟩ (.slice (some ⟨g, fm, none⟩) rest2.length km)) := ⟨_, rfl⟩
        rw [← HW3.out] at HS3 i3
        have hb3 := HS3.out.2.2.2.2.2
        have EO := elemsOf_any (HE.out.below hb3) hne hr (HT.out.below hb3) i3 k2' HK4.out
        obtain ⟨e0, e1, e2, e3, e4, ef⟩ := HS3.out.cells
        have hbl3 : b < w3.heap.size := (Array.getElem?_eq_some_iff.1 HS3.out.2.1).1
        clear TR g2 g2' i2 i2' i3 m2 b2 d4 f4 c0 c1 c2 c3 c4 HFZ HNB HS hb3 HK4 HE HT
        rw [← HW3.out]
        clear HW3
        go_wp2_with fail
        refine EO.mono ?_
        rintro e w4 ⟨v4, rfl, el4, b4⟩
        have HS4 : Hid (Str _ _ _ _ _ _ _ _ _ _) := HS3.out.below b4
        have AL := fun (u : World) (hu : Below w4.heap.size w4 u) => alone_any sh (by omega) (el4.below hu)
        clear EO e0 e1 e2 e3 e4 ef
        obtain ⟨e0, e1, e2, e3, e4, ef⟩ := HS4.out.cells
        have hbl4 : b < w4.heap.size := (Array.getElem?_eq_some_iff.1 HS4.out.2.1).1
        have hfl : (firstsE sh (elsOf es run)).length ≤ 2 := Nat.le_trans (firstsE_len sh _) hel
        clear HS3 hbl3 b4 el4 ef
        go_wp2_with fail
        go_region_law
          (first
            | (refine step_append_at rfl (.tmp 48) (.tmp 55) rfl wb.heap.size vs1 v5 st1 (firstsE sh (elsOf es run)) rfl rfl (by first | exact S5.2.2.1 | exact S5.2.2.1.below ((Below.refl _ _).drew)) (by first | exact i5.rowAt | exact (i5.below ((Below.refl _ _).drew)).rowAt) (by omega) (by have := S5.2.2.2.2.2.size; exact this) ?_; intro v6 w6 i6 g6 n6; have g6' : w5.grownBy w6 vs1.ownBlock := ⟨g6.os, g6.tape, g6.output, g6.size, fun k hk h => g6.block k hk h⟩; have S6 := S5.settled i6 g6' n6; have d3 : w6.cell? ⟨b, 3, none⟩ = some vs1 := (World.cell?_of_block (g6'.block b hbl5 (ints_neS S5.2.2.1 S5.2.1))).trans p3; have f3 : w6.frozen? ⟨b, 3, none⟩ = false := (World.grownBy.frozen_far g6' ⟨b, 3, none⟩ hbl5 (ints_neS S5.2.2.1 S5.2.1)).trans (pf 3); obtain ⟨a6, k6, hv6⟩ := ints_form i6; subst hv6)
            | (go_simp; go_at_call 80; refine (AL _ (by repeat (first | with_reducible exact Below.refl _ _ | with_reducible refine Below.drew ?_))).mono ?_; rintro e w5 ⟨v5, rfl, i5, b5⟩; have S5 : Str wb w5 b ve sh lv vs1 (.slice (some ⟨g, fm, none⟩) rest2.length km) st1 rest2 := HS4.out.below (by first | exact b5 | exact ((Below.refl _ _).drew).trans b5); obtain ⟨p0, p1, p2, p3, p4, pf⟩ := S5.cells; have hbl5 : b < w5.heap.size := (Array.getElem?_eq_some_iff.1 S5.2.1).1))
        all_goals
          rw [List.length_append] at S6
          have HS6 : Hid (Str _ _ _ _ _ _ _ _ _ _) := S6
          clear S6 S5 i5 b5 i6 g6 g6' n6 p0 p1 p2 p3 p4 pf
          go_wp2
          refine ⟨⟨f', _, _, _, rest2, HS6.out, by omega, by omega, by rw [List.length_append]; omega, HK5.out, Prod.ext HGO.out.1 HGO.out.2⟩, ?_⟩
          show restLen b _ < restLen b wr
          rw [hrl, HS6.out.restLen]
          omega
    · have hlt : ¬ (4 : Int) ≤ (rest1.length : Int) := by omega
      have hgoal : goal = (st1, rest1) := by
        rw [← hgo]
        cases f with
        | zero => simp [setF]
        | succ f => simp [setF, h4]
      subst hgoal
      have HS : Hid (Str _ _ _ _ _ _ _ _ _ _) := hS
      clear hS hgo hgd
      go_wp2
      go_end0
      exact ⟨rfl, _, _, HS.out⟩
end Go.Proofs.YtinjldagfhbioaaGreatDoor

namespace Go.Proofs.YtinjldagfhbioaaGreatDoor
open Go.RowKit

theorem setF_bd (es : List Ent) (sh : Bool) : ∀ (f : Nat) (l : List Int), (setF es sh f l).1.length + 2 * (setF es sh f l).2.length ≤ 2 * l.length ∧ (∀ x ∈ (setF es sh f l).2, x ∈ l) ∧ ∀ y ∈ (setF es sh f l).1, ∃ run, (∀ x ∈ run, x ∈ l) ∧ y ∈ firstsE sh (elsOf es run) := by
  intro f
  induction f with
  | zero => intro l; exact ⟨by show 0 + 2 * l.length ≤ _; omega, fun x hx => hx, fun y hy => by cases hy⟩
  | succ f ih =>
    intro l
    rw [setF]
    split
    · obtain ⟨a1, a2, _, a4, a5⟩ := take4_kept (es := es) (l := l) (by omega)
      obtain ⟨b1, b2, b3⟩ := ih (take4 es l).2
      have hl := Nat.le_trans (firstsE_len sh (elsOf es (take4 es l).1)) (elsOf_len es (take4 es l).1)
      refine ⟨?_, fun x hx => a5 x (b2 x hx), fun y hy => ?_⟩
      · show (firstsE sh (elsOf es (take4 es l).1) ++ (setF es sh f (take4 es l).2).1).length + 2 * (setF es sh f (take4 es l).2).2.length ≤ _
        rw [List.length_append]
        omega
      · rcases List.mem_append.1 hy with h | h
        · exact ⟨_, a4, h⟩
        · obtain ⟨run, q1, q2⟩ := b3 y h
          exact ⟨run, fun x hx => a5 x (q1 x hx), q2⟩
    · exact ⟨by show 0 + 2 * l.length ≤ _; omega, fun x hx => hx, fun y hy => by cases hy⟩

theorem growS_bd {es : List Ent} {sh : Bool} {st rest p : List Int} (hr : ∀ x ∈ rest, goodB x = true) (hp : ∀ x ∈ p, goodB x = true) (hw : ∀ run, (∀ x ∈ run, goodB x = true) → ∀ y ∈ firstsE sh (elsOf es run), 1 ≤ y ∧ y ≤ 65535) (hs : ∀ y ∈ st, 1 ≤ y ∧ y ≤ 65535) :
    (growS es sh st rest p).1.length + 2 * (growS es sh st rest p).2.length ≤ st.length + 2 * (rest.length + p.length) ∧ (∀ x ∈ (growS es sh st rest p).2, goodB x = true) ∧ ∀ y ∈ (growS es sh st rest p).1, 1 ≤ y ∧ y ≤ 65535 := by
  obtain ⟨a1, a2, a3⟩ := setF_bd es sh (rest ++ p).length (rest ++ p)
  have hrp : ∀ x ∈ rest ++ p, goodB x = true := fun x hx => by
    rcases List.mem_append.1 hx with h | h
    · exact hr x h
    · exact hp x h
  unfold growS
  refine ⟨?_, fun x hx => hrp x (a2 x hx), fun y hy => ?_⟩
  · have hl : (rest ++ p).length = rest.length + p.length := List.length_append
    show (st ++ (setF es sh (rest ++ p).length (rest ++ p)).1).length + 2 * (setF es sh (rest ++ p).length (rest ++ p)).2.length ≤ _
    generalize setF es sh (rest ++ p).length (rest ++ p) = q at *
    rw [List.length_append]
    omega
  · rcases List.mem_append.1 hy with h | h
    · exact hs y h
    · obtain ⟨run, q1, q2⟩ := a3 y h
      exact hw run (fun x hx => hrp x (q1 x hx)) y q2

/-- Pieces as they lie in memory, each of them with an address. -/
def Pcs (w : World) (v : Value) (pc : Nat → List Int) (n : Nat) : Prop :=
  ∃ a c, v = .slice a n c ∧ ∀ i, i < n → ∃ g gx fx cx, a = some ⟨g, 0, none⟩ ∧ g < w.heap.size ∧ w.cell? ⟨g, i, none⟩ = some (.slice (some ⟨gx, fx, none⟩) (pc i).length cx) ∧ gx < w.heap.size ∧ ∀ j y, (pc i)[j]? = some y → w.cell? ⟨gx, fx + j, none⟩ = some (.int .i64 y)

theorem Pcs.below {w w' : World} {v : Value} {pc : Nat → List Int} {n : Nat} (h : Pcs w v pc n) (hb : Below w.heap.size w w') : Pcs w' v pc n := by
  obtain ⟨a, c, h1, h2⟩ := h
  refine ⟨a, c, h1, fun i hi => ?_⟩
  obtain ⟨g, gx, fx, cx, q1, q2, q3, q4, q5⟩ := h2 i hi
  exact ⟨g, gx, fx, cx, q1, Nat.lt_of_lt_of_le q2 hb.size, (hb.cell q2).trans q3, Nat.lt_of_lt_of_le q4 hb.size, fun j y hy => (hb.cell q4).trans (q5 j y hy)⟩
end Go.Proofs.YtinjldagfhbioaaGreatDoor

namespace Go.Proofs.YtinjldagfhbioaaGreatDoor
open Go.RowKit

theorem rowAt_form {w : World} {v : Value} {l : List Int} (h : RowAt w v l) : ∃ a c, v = .slice a l.length c := by
  rcases h with ⟨a, c, rfl, rfl⟩ | ⟨g, f, c, rfl, _⟩
  · exact ⟨_, _, rfl⟩
  · exact ⟨_, _, rfl⟩

set_option maxRecDepth 100000 in
set_option maxHeartbeats 1000000 in
/-- slices.Grow of nothing, whatever the number. -/
theorem grow_none (w : World) (n : Nat) (hn : n ≤ 1048576) :
    Calls Tryz.prog 97 #[.slice none 0 0, .int .i64 n] w fun e w' => ∃ v, e = .returned v ∧ Ints w' w.heap.size v [] ∧ Below w.heap.size w w' := by
  by_cases h0 : 0 < n
  · exact grow_nil w n h0 hn
  · obtain rfl : n = 0 := by omega
    go_enter Tryz.func97, Tryz.ntmps97
    go_wp2
    go_ret
    exact ⟨_, rfl, ⟨rfl, .inl ⟨rfl, rfl⟩⟩, Below.refl _ _⟩

set_option maxRecDepth 100000 in
set_option maxHeartbeats 2000000 in
theorem concat_any (w : World) (tb : Nat) (x1 x2 : Value) (l1 l2 : List Int) (hh : w.heap[tb]? = some (.cells #[x1, x2] 35)) (hl1 : l1.length ≤ 4000) (hl2 : l2.length ≤ 4000) (hr1 : RowAt w x1 l1) (hr2 : RowAt w x2 l2) :
    Calls Tryz.prog 82 #[.slice (some ⟨tb, 0, none⟩) 2 2] w fun e w' => ∃ v, e = .returned v ∧ Ints w' w.heap.size v (l1 ++ l2) ∧ Below w.heap.size w w' := by
  have q0 := cell_of_row _ _ 0 _ _ _ hh
  have q1 := cell_of_row _ _ 1 _ _ _ hh
  have hhl : tb < w.heap.size := (Array.getElem?_eq_some_iff.1 hh).1
  have HR1 : Hid (RowAt w x1 l1) := hr1
  have HR2 : Hid (RowAt w x2 l2) := hr2
  obtain ⟨a1, c1, rfl⟩ := rowAt_form hr1
  obtain ⟨a2, c2, rfl⟩ := rowAt_form hr2
  have G := fun u => grow_none u (l1.length + l2.length) (by omega)
  rw [show ((l1.length + l2.length : Nat) : Int) = (l1.length : Int) + (l2.length : Int) by omega] at G
  clear hr1 hr2 hh
  go_enter Tryz.func82, Tryz.ntmps82
  go_wp2
  go_loop [3, 11] (fun s i => (s = .int .i64 0 ∧ i = .int .i64 0) ∨ (s = .int .i64 (l1.length : Int) ∧ i = .int .i64 1) ∨ (s = .int .i64 ((l1.length : Int) + (l2.length : Int)) ∧ i = .int .i64 2)) (fun _ i => 2 - (intOf i).toNat)
  case atStart => exact .inl ⟨rfl, rfl⟩
  case round =>
    rcases hrel with ⟨rfl, rfl⟩ | ⟨rfl, rfl⟩ | ⟨rfl, rfl⟩
    · go_wp2
      exact ⟨.inr (.inl ⟨by go_num, rfl⟩), by simp [intOf]⟩
    · go_wp2
      exact ⟨.inr (.inr ⟨by go_num, rfl⟩), by simp [intOf]⟩
    · go_wp2_with fail
      refine (G _).mono ?_
      rintro e w1 ⟨v1, rfl, i1, b1⟩
      clear G
      have r0 : w1.cell? ⟨tb, 0, none⟩ = _ := (b1.cell hhl).trans q0
      have r1 : w1.cell? ⟨tb, 1, none⟩ = _ := (b1.cell hhl).trans q1
      go_wp2_with fail
      go_loopw [6, 27] (fun v i wr => (i = .int .i64 0 ∧ Ints wr w.heap.size v [] ∧ Below w.heap.size w wr) ∨ (i = .int .i64 1 ∧ Ints wr w.heap.size v l1 ∧ Below w.heap.size w wr) ∨ (i = .int .i64 2 ∧ Ints wr w.heap.size v (l1 ++ l2) ∧ Below w.heap.size w wr)) (fun _ i _ => 2 - (intOf i).toNat)
      case atStart => exact .inl ⟨rfl, i1, b1⟩
      case round =>
        clear i1 b1 r0 r1
        rcases hrel with ⟨rfl, i2, b2⟩ | ⟨rfl, i2, b2⟩ | ⟨rfl, i2, b2⟩
        · have r0 : wr.cell? ⟨tb, 0, none⟩ = _ := (b2.cell hhl).trans q0
          have hsz := b2.size
          go_wp2_with (at_builtin; refine append_ints rfl _ _ rfl w.heap.size _ (.slice a1 l1.length c1) [] l1 rfl rfl i2 (HR1.out.below b2) (by simp; omega) hsz ?_)
          intro v3 w3 ho3 hg3
          have b3 : Below w.heap.size w w3 := Below.grown b2 hg3 b2.size (fun j hj => (World.ownsRow.lt i2 j hj).1)
          have I3 : Hid (Ints w3 w.heap.size v3 l1) := ho3
          have B3 : Hid (Below _ _ _) := b3
          clear ho3 hg3 b3 i2 b2 r0
          go_wp2
          exact ⟨.inr (.inl ⟨rfl, I3.out, B3.out⟩), by simp [intOf]⟩
        · have r1 : wr.cell? ⟨tb, 1, none⟩ = _ := (b2.cell hhl).trans q1
          have hsz := b2.size
          go_wp2_with (at_builtin; refine append_ints rfl _ _ rfl w.heap.size _ (.slice a2 l2.length c2) l1 l2 rfl rfl i2 (HR2.out.below b2) (by omega) hsz ?_)
          intro v3 w3 ho3 hg3
          have b3 : Below w.heap.size w w3 := Below.grown b2 hg3 b2.size (fun j hj => (World.ownsRow.lt i2 j hj).1)
          have I3 : Hid (Ints w3 w.heap.size v3 (l1 ++ l2)) := ho3
          have B3 : Hid (Below _ _ _) := b3
          clear ho3 hg3 b3 i2 b2 r1
          go_wp2
          exact ⟨.inr (.inr ⟨rfl, I3.out, B3.out⟩), by simp [intOf]⟩
        · have I3 : Hid (Ints _ _ _ _) := i2
          have B3 : Hid (Below _ _ _) := b2
          clear i2 b2
          go_wp2
          go_ret
          exact ⟨_, rfl, I3.out, B3.out⟩
end Go.Proofs.YtinjldagfhbioaaGreatDoor

namespace Go.Proofs.YtinjldagfhbioaaGreatDoor
open Go.RowKit

set_option maxRecDepth 100000 in
set_option maxHeartbeats 1000000 in
theorem clone_rest {w : World} {B : Nat} {v : Value} {l : List Int} (h : RestS w B v l) (hl : l.length ≤ 4000) :
    Calls Tryz.prog 81 #[v] w fun e w' => ∃ v', e = .returned v' ∧ Ints w' w.heap.size v' l ∧ Below w.heap.size w w' := by
  rcases h with ⟨rfl, rfl⟩ | ⟨g, _, _, f, c, cs, rfl, _, _, _, _, h5⟩
  · have hq : ∀ u : World, (binOp .eql 35 (.slice none 0 0) (.slice none 0 0)).run Tryz.prog u = .ok (.bool true) u := fun _ => by kernel_rfl
    go_enter Tryz.func81, Tryz.ntmps81
    go_wp2
    go_ret
    exact ⟨_, rfl, ⟨rfl, .inl ⟨rfl, rfl⟩⟩, Below.refl _ _⟩
  · exact clone_at w g f c l (by omega) h5
theorem firstsE_len2 (sh : Bool) (els : List El) : (firstsE sh els).length ≤ els.length := by
  unfold firstsE
  induction els with
  | nil => exact Nat.le_refl _
  | cons e els ih =>
    rw [List.flatMap_cons, List.length_append, List.length_cons]
    have : (ifNot (fw sh e)).length ≤ 1 := by
      unfold ifNot
      split <;> simp
    omega

set_option maxRecDepth 100000 in
set_option maxHeartbeats 8000000 in
theorem firsts_any {wb w : World} {B b : Nat} {ve vs vr : Value} {es : List Ent} {sh : Bool} {lv : Int} {st rest : List Int} (hE : Ents wb B ve es) (hne : es.length ≤ 1048576) (hr : ∀ e ∈ es, e.runes.length ≤ 1048576) (ht : Tabs3 wb)
    (hS : Str wb w b ve sh lv vs vr st rest) (hst : st.length ≤ 4000) (hlen : rest.length ≤ 200) (hgood : ∀ x ∈ rest, goodB x = true) :
    Calls Tryz.prog 59 #[.pointer (some ⟨b, 0, none⟩)] w fun e w' => ∃ v, e = .returned v ∧ Ints w' w.heap.size v (st ++ firstsB es sh rest) ∧ Below w.heap.size w w' := by
  obtain ⟨sa, sc, rfl⟩ := ints_form hS.2.2.1
  obtain ⟨c0, c1, c2, c3, c4, fz⟩ := hS.cells
  have hbw := hS.2.2.2.2.2
  have HE : Hid (Ents w B ve es) := hE.below hbw
  have HT : Hid (Tabs3 w) := ht.below hbw
  have hbl : b < w.heap.size := (Array.getElem?_eq_some_iff.1 hS.2.1).1
  have HS : Hid (Str _ _ _ _ _ _ _ _ _ _) := hS
  have CL := fun (u : World) (hu : Below w.heap.size w u) => clone_rest (HS.out.2.2.2.1.below hu) (by omega)
  have hel := elems4_len es rest
  have hfl := firstsE_len2 sh (elems4 es rest)
  rw [firstsB_eq]
  have ER := fun (u : World) (v : Value) (hu : Below w.heap.size w u) (hI : Ints u w.heap.size v rest) => elemsRn_any hu HE.out hne hr HT.out hI hlen hgood
  clear hE ht hS hbw fz hgood
  go_enter Tryz.func59, Tryz.ntmps59
  go_upto_region 1 with fail
  go_cut [3] from 4 to 14 (fun v3 wx => Elems wx w.heap.size v3 (elems4 es rest) ∧ Below w.heap.size w wx)
  case first =>
   go_region_law
    (first
      | (go_simp; go_at_call 81; refine (CL _ (by repeat (first | with_reducible exact Below.refl _ _ | with_reducible refine Below.drew ?_))).mono ?_; rintro e w1 ⟨v1, rfl, i1, b1⟩; have b1' : Below w.heap.size w w1 := (by first | exact b1 | exact ((Below.refl _ _).drew).trans b1); have d0 : w1.cell? ⟨b, 0, none⟩ = some ve := (b1'.cell hbl).trans c0)
      | (go_simp; go_at_call 68; refine (ER _ _ (by repeat (first | with_reducible exact b1' | with_reducible refine Below.drew ?_)) (by first | exact i1 | exact i1.below ((Below.refl _ _).drew))).mono ?_; rintro e w2 ⟨v2, rfl, e2, b2⟩))
   all_goals
    have hK : Elems w2 w.heap.size v2 (elems4 es rest) ∧ Below w.heap.size w w2 := ⟨e2, b2⟩
    clear e2 b2 i1 b1 b1' d0 CL ER
    go_wp2_with fail
    go_meet
    case rel => exact hK
  case rest =>
    obtain ⟨e3, b3⟩ := hcut
    clear CL ER c0 c1 c2 c3 c4
    have HS3 : Hid (Str _ _ _ _ _ _ _ _ _ _) := HS.out.below b3
    obtain ⟨c0, c1, c2, c3, c4, fz⟩ := HS3.out.cells
    have hbl3 : b < wc.heap.size := (Array.getElem?_eq_some_iff.1 HS3.out.2.1).1
    have AL := fun (u : World) (hu : Below wc.heap.size wc u) => alone_any sh (by omega) (e3.below hu)
    clear HS HE HT fz
    go_wp2_with fail
    go_region_law
      (first
        | (go_simp; go_at_call 80; refine (AL _ (by repeat (first | with_reducible exact Below.refl _ _ | with_reducible refine Below.drew ?_))).mono ?_; rintro e w5 ⟨v5, rfl, i5, b5⟩; have b5' : Below wc.heap.size wc w5 := (by first | exact b5 | exact ((Below.refl _ _).drew).trans b5); have p3 : w5.cell? ⟨b, 3, none⟩ = some (.slice sa st.length sc) := (b5'.cell hbl3).trans c3; have R1 : RowAt w5 (.slice sa st.length sc) st := (HS3.out.2.2.1.below b5').rowAt; have R2 : RowAt w5 v5 (firstsE sh (elems4 es rest)) := i5.rowAt; obtain ⟨a5, k5, hv5⟩ := ints_form i5; subst hv5)
        | (go_simp; go_at_call 82; refine (concat_any _ w5.heap.size _ _ st (firstsE sh (elems4 es rest)) (heap_alloc_new w5 _) hst (by omega) (R1.below ((Below.refl _ _).alloc (Nat.le_refl _) _)) (R2.below ((Below.refl _ _).alloc (Nat.le_refl _) _))).mono ?_; rintro e w6 ⟨v6, rfl, i6, b6⟩))
    all_goals
      have bw5 : Below w.heap.size w w5 := b3.trans (b5'.mono b3.size)
      have hK : Ints w6 w.heap.size v6 (st ++ firstsE sh (elems4 es rest)) ∧ Below w.heap.size w w6 := by
        first
          | exact ⟨low_ints i6 (bw5.alloc bw5.size _).size, (bw5.alloc bw5.size _).trans (b6.mono (bw5.alloc bw5.size _).size)⟩
          | exact ⟨low_ints i6 (bw5.alloc bw5.size _).drew.size, (bw5.alloc bw5.size _).drew.trans (b6.mono (bw5.alloc bw5.size _).drew.size)⟩
          | exact ⟨low_ints i6 (bw5.drew.alloc bw5.drew.size _).size, (bw5.drew.alloc bw5.drew.size _).trans (b6.mono (bw5.drew.alloc bw5.drew.size _).size)⟩
          | exact ⟨low_ints i6 (bw5.drew.alloc bw5.drew.size _).drew.size, (bw5.drew.alloc bw5.drew.size _).drew.trans (b6.mono (bw5.drew.alloc bw5.drew.size _).drew.size)⟩
      have HK : Hid (_ ∧ _) := hK
      clear hK bw5 i6 b6 i5 b5 b5' R1 R2 p3
      go_wp2
      go_ret
      exact ⟨_, rfl, HK.out.1, HK.out.2⟩
end Go.Proofs.YtinjldagfhbioaaGreatDoor
