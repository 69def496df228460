/- The blocks that the specification's ReadRules works in: the answer's, the rules', the last elem's. -/
import Derived.Test.YtakfnmhokijcoaaGreatDoorRd
import Derived.Test.YtakfnmhokijcoaaGreatDoorEntK
namespace Go.Proofs.YtakfnmhokijcoaaGreatDoor
open Go.RowKit

structure RB (u : World) (b2 br bl : Nat) (vE : Value) (sh : Bool) (lv : Int) (e : El) : Prop where
  lt : b2 < br ∧ br < bl ∧ bl < u.heap.size
  res : u.cell? ⟨b2, 0, none⟩ = some (.slice none 0 0) ∧ u.cell? ⟨b2, 1, none⟩ = some (.bool false) ∧ u.cell? ⟨b2, 2, none⟩ = some (.int .i64 0)
  rules : u.cell? ⟨br, 0, none⟩ = some vE ∧ u.cell? ⟨br, 1, none⟩ = some (.bool sh) ∧ u.cell? ⟨br, 2, none⟩ = some (.int .i64 lv)
  last : u.cell? ⟨bl, 0, none⟩ = some (.int .i64 e.first) ∧ u.cell? ⟨bl, 1, none⟩ = some (.int .i64 e.second) ∧ u.cell? ⟨bl, 2, none⟩ = some (.int .i64 e.third) ∧ u.cell? ⟨bl, 3, none⟩ = some (.bool e.varies)
  free : (∀ j, u.frozen? ⟨b2, j, none⟩ = false) ∧ (∀ j, u.frozen? ⟨br, j, none⟩ = false) ∧ ∀ j, u.frozen? ⟨bl, j, none⟩ = false

theorem RB.upTo {u u' : World} {b2 br bl B : Nat} {vE : Value} {sh : Bool} {lv : Int} {e : El} (h : RB u b2 br bl vE sh lv e) (hb : Below B u u') (hB : bl < B) : RB u' b2 br bl vE sh lv e := by
  obtain ⟨⟨l1, l2, l3⟩, ⟨a0, a1, a2⟩, ⟨r0, r1, r2⟩, ⟨e0, e1, e2, e3⟩, f0, f1, f2⟩ := h
  have k2 : b2 < B := by omega
  have kr : br < B := by omega
  exact ⟨⟨l1, l2, Nat.lt_of_lt_of_le l3 hb.size⟩, ⟨by rw [hb.cell k2]; exact a0, by rw [hb.cell k2]; exact a1, by rw [hb.cell k2]; exact a2⟩, ⟨by rw [hb.cell kr]; exact r0, by rw [hb.cell kr]; exact r1, by rw [hb.cell kr]; exact r2⟩,
    ⟨by rw [hb.cell hB]; exact e0, by rw [hb.cell hB]; exact e1, by rw [hb.cell hB]; exact e2, by rw [hb.cell hB]; exact e3⟩, fun j => by rw [hb.frozen (p := ⟨b2, j, none⟩) k2]; exact f0 j, fun j => by rw [hb.frozen (p := ⟨br, j, none⟩) kr]; exact f1 j, fun j => by rw [hb.frozen (p := ⟨bl, j, none⟩) hB]; exact f2 j⟩

theorem RB.below {u u' : World} {b2 br bl : Nat} {vE : Value} {sh : Bool} {lv : Int} {e : El} (h : RB u b2 br bl vE sh lv e) (hb : Below u.heap.size u u') : RB u' b2 br bl vE sh lv e := h.upTo hb h.lt.2.2

theorem RB.setE {u : World} {b2 br bl : Nat} {vE : Value} {sh : Bool} {lv : Int} {e : El} (h : RB u b2 br bl vE sh lv e) (v : Value) : RB (u.setCell ⟨br, 0, none⟩ v) b2 br bl v sh lv e := by
  obtain ⟨⟨l1, l2, l3⟩, ⟨a0, a1, a2⟩, ⟨r0, r1, r2⟩, ⟨e0, e1, e2, e3⟩, f0, f1, f2⟩ := h
  exact ⟨⟨l1, l2, by simpa using l3⟩, ⟨by rw [cs_ne (by omega)]; exact a0, by rw [cs_ne (by omega)]; exact a1, by rw [cs_ne (by omega)]; exact a2⟩,
    ⟨cs_eq r0, by rw [cs_ne (by omega)]; exact r1, by rw [cs_ne (by omega)]; exact r2⟩,
    ⟨by rw [cs_ne (by omega)]; exact e0, by rw [cs_ne (by omega)]; exact e1, by rw [cs_ne (by omega)]; exact e2, by rw [cs_ne (by omega)]; exact e3⟩,
    fun j => by rw [World.frozen?_setCell]; exact f0 j, fun j => by rw [World.frozen?_setCell]; exact f1 j, fun j => by rw [World.frozen?_setCell]; exact f2 j⟩

theorem RB.setSh {u : World} {b2 br bl : Nat} {vE : Value} {sh : Bool} {lv : Int} {e : El} (h : RB u b2 br bl vE sh lv e) (b : Bool) : RB (u.setCell ⟨br, 1, none⟩ (.bool b)) b2 br bl vE b lv e := by
  obtain ⟨⟨l1, l2, l3⟩, ⟨a0, a1, a2⟩, ⟨r0, r1, r2⟩, ⟨e0, e1, e2, e3⟩, f0, f1, f2⟩ := h
  exact ⟨⟨l1, l2, by simpa using l3⟩, ⟨by rw [cs_ne (by omega)]; exact a0, by rw [cs_ne (by omega)]; exact a1, by rw [cs_ne (by omega)]; exact a2⟩,
    ⟨by rw [cs_ne (by omega)]; exact r0, cs_eq r1, by rw [cs_ne (by omega)]; exact r2⟩,
    ⟨by rw [cs_ne (by omega)]; exact e0, by rw [cs_ne (by omega)]; exact e1, by rw [cs_ne (by omega)]; exact e2, by rw [cs_ne (by omega)]; exact e3⟩,
    fun j => by rw [World.frozen?_setCell]; exact f0 j, fun j => by rw [World.frozen?_setCell]; exact f1 j, fun j => by rw [World.frozen?_setCell]; exact f2 j⟩

theorem RB.setLv {u : World} {b2 br bl : Nat} {vE : Value} {sh : Bool} {lv : Int} {e : El} (h : RB u b2 br bl vE sh lv e) (n : Int) : RB (u.setCell ⟨br, 2, none⟩ (.int .i64 n)) b2 br bl vE sh n e := by
  obtain ⟨⟨l1, l2, l3⟩, ⟨a0, a1, a2⟩, ⟨r0, r1, r2⟩, ⟨e0, e1, e2, e3⟩, f0, f1, f2⟩ := h
  exact ⟨⟨l1, l2, by simpa using l3⟩, ⟨by rw [cs_ne (by omega)]; exact a0, by rw [cs_ne (by omega)]; exact a1, by rw [cs_ne (by omega)]; exact a2⟩,
    ⟨by rw [cs_ne (by omega)]; exact r0, by rw [cs_ne (by omega)]; exact r1, cs_eq r2⟩,
    ⟨by rw [cs_ne (by omega)]; exact e0, by rw [cs_ne (by omega)]; exact e1, by rw [cs_ne (by omega)]; exact e2, by rw [cs_ne (by omega)]; exact e3⟩,
    fun j => by rw [World.frozen?_setCell]; exact f0 j, fun j => by rw [World.frozen?_setCell]; exact f1 j, fun j => by rw [World.frozen?_setCell]; exact f2 j⟩

theorem RB.setLast {u : World} {b2 br bl : Nat} {vE : Value} {sh : Bool} {lv : Int} {e : El} (h : RB u b2 br bl vE sh lv e) (x : El) : RB (setEl u bl x) b2 br bl vE sh lv x := by
  obtain ⟨⟨l1, l2, l3⟩, ⟨a0, a1, a2⟩, ⟨r0, r1, r2⟩, ⟨e0, e1, e2, e3⟩, f0, f1, f2⟩ := h
  refine ⟨⟨l1, l2, by unfold setEl; simpa using l3⟩, ⟨by rw [setEl_far (by omega)]; exact a0, by rw [setEl_far (by omega)]; exact a1, by rw [setEl_far (by omega)]; exact a2⟩,
    ⟨by rw [setEl_far (by omega)]; exact r0, by rw [setEl_far (by omega)]; exact r1, by rw [setEl_far (by omega)]; exact r2⟩, ?_,
    fun j => by unfold setEl; simpa using f0 j, fun j => by unfold setEl; simpa using f1 j, fun j => by unfold setEl; simpa using f2 j⟩
  unfold setEl
  have k1 : (u.setCell ⟨bl, 0, none⟩ (.int .i64 x.first)).cell? ⟨bl, 1, none⟩ = some (.int .i64 e.second) := by rw [cs_ne (by omega)]; exact e1
  have k2 : ((u.setCell ⟨bl, 0, none⟩ (.int .i64 x.first)).setCell ⟨bl, 1, none⟩ (.int .i64 x.second)).cell? ⟨bl, 2, none⟩ = some (.int .i64 e.third) := by rw [cs_ne (by omega), cs_ne (by omega)]; exact e2
  have k3 : (((u.setCell ⟨bl, 0, none⟩ (.int .i64 x.first)).setCell ⟨bl, 1, none⟩ (.int .i64 x.second)).setCell ⟨bl, 2, none⟩ (.int .i64 x.third)).cell? ⟨bl, 3, none⟩ = some (.bool e.varies) := by rw [cs_ne (by omega), cs_ne (by omega), cs_ne (by omega)]; exact e3
  refine ⟨?_, ?_, ?_, ?_⟩
  · rw [cs_ne (by omega), cs_ne (by omega), cs_ne (by omega)]
    exact cs_eq e0
  · rw [cs_ne (by omega), cs_ne (by omega)]
    exact cs_eq k1
  · rw [cs_ne (by omega)]
    exact cs_eq k2
  · exact cs_eq k3

theorem Strs.grown {u u' : World} {B : Nat} {row : Option Nat} {v : Value} {ss : List ByteArray} (h : Strs u B v ss) (hg : u.grownBy u' row) (hb : ∀ g b, v.ownBlock = some g → row = some b → g ≠ b) : Strs u' B v ss :=
  World.ownsRow.kept h hg (by
    cases e : v.ownBlock with
    | none => exact .inl rfl
    | some g => exact .inr fun c => hb g g e c.symm rfl)

/-- The state in memory. -/
structure StM (w u : World) (ws : List ByteArray) (vw : Value) (br bl : Nat) (st : RS) (vE : Value) : Prop where
  rb : RB u w.heap.size br bl vE st.sh st.lv st.last
  en : Ents u (bl + 1) vE st.es
  sr : Strs u (w.heap.size + 1) vw ws
  vl : ∀ g, vw.ownBlock = some g → g < br
  be : Below w.heap.size w u

theorem StM.step {w u u' : World} {ws : List ByteArray} {vw : Value} {br bl : Nat} {st : RS} {vE : Value} (h : StM w u ws vw br bl st vE) (hb : Below u.heap.size u u') : StM w u' ws vw br bl st vE :=
  ⟨h.rb.below hb, h.en.below hb, h.sr.below hb, h.vl, h.be.trans (hb.mono h.be.size)⟩

theorem StM.setSh {w u : World} {ws : List ByteArray} {vw : Value} {br bl : Nat} {st : RS} {vE : Value} (h : StM w u ws vw br bl st vE) (b : Bool) : StM w (u.setCell ⟨br, 1, none⟩ (.bool b)) ws vw br bl { st with sh := b } vE := by
  have hl := h.rb.lt
  exact ⟨h.rb.setSh b, h.en.grown (setCell_grown u br 1 _) (by omega), h.sr.grown (setCell_grown u br 1 _) (fun g b' h1 h2 => by cases h2; have := h.vl g h1; omega), h.vl, h.be.setCell (Nat.le_of_lt hl.1) _⟩

theorem StM.setLv {w u : World} {ws : List ByteArray} {vw : Value} {br bl : Nat} {st : RS} {vE : Value} (h : StM w u ws vw br bl st vE) (n : Int) : StM w (u.setCell ⟨br, 2, none⟩ (.int .i64 n)) ws vw br bl { st with lv := n } vE := by
  have hl := h.rb.lt
  exact ⟨h.rb.setLv n, h.en.grown (setCell_grown u br 2 _) (by omega), h.sr.grown (setCell_grown u br 2 _) (fun g b' h1 h2 => by cases h2; have := h.vl g h1; omega), h.vl, h.be.setCell (Nat.le_of_lt hl.1) _⟩

theorem StM.setLast {w u : World} {ws : List ByteArray} {vw : Value} {br bl : Nat} {st : RS} {vE : Value} (h : StM w u ws vw br bl st vE) (x : El) (r : Bool) : StM w (setEl u bl x) ws vw br bl { st with last := x, reset := r } vE := by
  have hl := h.rb.lt
  exact ⟨h.rb.setLast x, h.en.grown (setEl_grown u bl x) (by omega), h.sr.grown (setEl_grown u bl x) (fun g b' h1 h2 => by cases h2; have := h.vl g h1; omega), h.vl, below_setEl h.be (by omega) x⟩

theorem behind_any {w : World} {B : Nat} {v : Value} {st : RS} {sh : Bool} {lv : Int} {n : Nat} (hE : Ents w B v st.es) (hi : RInv st) (h : n = 1 ∨ n = 2 ∨ n = 3) :
    Calls Tryz.prog 22 #[.agg #[v, .bool sh, .int .i64 lv], .agg #[.int .i64 st.last.first, .int .i64 st.last.second, .int .i64 st.last.third, .bool st.last.varies], .int .i64 (n : Int)] w fun x w' => x = .returned (elV (behindE st.es st.last n)) ∧ Below w.heap.size w w' := by
  obtain ⟨h1, h2, h3⟩ := rulesOk_whole hi.good
  rcases h with rfl | rfl | rfl
  · exact behind1_any hE (by omega) (fun e he => (h3 e he).2.1.2) hi.f0 hi.f1
  · exact behind2_any hE h1 (fun e he => (h3 e he).2.2.1.2) hi.s0 hi.s1
  · exact behind3_any hE h1 (fun e he => (h3 e he).2.2.2.1.2) hi.t0 hi.t1

/-- An entry put behind, the rules' block told of it. -/
theorem StM.put {w u u' : World} {ws : List ByteArray} {vw : Value} {br bl g cap : Nat} {st : RS} {vE vl : Value} {l : List Int} {xs : List Value} (h : StM w u ws vw br bl st vE) (hl : xs.length = st.es.length)
    (h2 : ∀ (k : Nat) (e : Ent), st.es[k]? = some e → ∃ x, xs[k]? = some x ∧ Ints u (bl + 1) x e.runes) (hI : Ints u (bl + 1) vl l)
    (h1 : u.ownsRow (bl + 1) 52 5 vE st.es.length (entAll xs st.es)) (hg : u.grownBy u' vE.ownBlock)
    (ho : u'.ownsRow (bl + 1) 52 5 (.slice (some ⟨g, 0, none⟩) (st.es.length + 1) cap) (st.es.length + 1) (entAll xs st.es ++ entC vl st.last)) :
    StM w (u'.setCell ⟨br, 0, none⟩ (.slice (some ⟨g, 0, none⟩) (st.es.length + 1) cap)) ws vw br bl { st with es := st.es ++ [⟨l, st.last⟩] } (.slice (some ⟨g, 0, none⟩) (st.es.length + 1) cap) := by
  have hlt := h.rb.lt
  have hrow : ∀ j, vE.ownBlock = some j → bl + 1 ≤ j := fun j hj => (World.ownsRow.lt h1 j hj).1
  have hb1 : Below (bl + 1) u u' := Below.grown (Below.refl (bl + 1) u) hg (by omega) hrow
  have hE : Ents u' (bl + 1) (.slice (some ⟨g, 0, none⟩) (st.es.length + 1) cap) (st.es ++ [⟨l, st.last⟩]) := Ents.snoc (e := ⟨l, st.last⟩) hl h2 hI h1 hg ho
  refine ⟨(h.rb.upTo hb1 (Nat.lt_succ_self _)).setE _, hE.grown (setCell_grown u' br 0 _) (by omega), (h.sr.grown hg (fun g b h3 h4 => by have := h.vl g h3; have := hrow b h4; omega)).grown (setCell_grown u' br 0 _) (fun g b' h1 h2 => by cases h2; have := h.vl g h1; omega), h.vl, ?_⟩
  exact (Below.grown h.be hg h.be.size (fun j hj => by have := hrow j hj; omega)).setCell (Nat.le_of_lt hlt.1) _
end Go.Proofs.YtakfnmhokijcoaaGreatDoor
