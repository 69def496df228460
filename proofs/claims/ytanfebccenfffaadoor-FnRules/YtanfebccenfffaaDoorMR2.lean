/- Texts of mine laid together: RdBd, EntsSet, EntsDM, PIs, Laid, IPair, IApart. -/
import Derived.Test.YtanfebccenfffaaDoorMR1
import Derived.Test.YtanfebccenfffaaDoorEntK
import Derived.Test.YtanfebccenfffaaDoorSD
import Derived.Test.YtanfebccenfffaaDoorRows
import Derived.OpenShut
import Derived.LaidLaws
import Derived.Stop.LaidErr
import Derived.WalkKit
import Derived.OpenVars
import Derived.Test.YtanfebccenfffaaDoorNorm2
import Derived.Test.YtanfebccenfffaaDoorClass
import Derived.Deep.WholeRow
import Derived.Test.YtanfebccenfffaaDoorApart2
namespace Go.Proofs.YtanfebccenfffaaDoor
open Go.RowKit

theorem readW_inv : ∀ (n : Nat) (ws : List ByteArray), ws.length ≤ n → ∀ st st', RInv st → readW ws st = .ok st' → RInv st' := by
  intro n
  induction n with
  | zero =>
    intro ws hn st st' hi h
    have : ws = [] := List.eq_nil_of_length_eq_zero (by omega)
    subst this
    rw [readW_nil] at h
    cases h
    exact hi
  | succ n ih =>
    intro ws hn st st' hi h
    cases ws with
    | nil => rw [readW_nil] at h; cases h; exact hi
    | cons x ws =>
      have hn' : ws.length ≤ n := by simpa using hn
      cases c1 : (x.toList == wShift)
      · cases c2 : (x.toList == wLevels)
        · cases c3 : levOf x with
          | none => rw [readW_none c1 c2 c3] at h; cases h
          | some lev => cases ws with
            | nil => rw [readW_one0 c1 c2 c3] at h; cases h
            | cons y ws =>
              by_cases h4 : 200 < y.size
              · rw [readW_onel c1 c2 c3 h4] at h; cases h
              · cases h5 : putIn st lev (nD (Dec.decT y.size y).1) with
                | error c => rw [readW_onee c1 c2 c3 h4 h5] at h; cases h
                | ok st2 =>
                  rw [readW_onek c1 c2 c3 h4 h5] at h
                  exact ih ws (by simp at hn'; omega) st2 st' (putIn_inv hi h5) h
        · cases ws with
          | nil => rw [readW_lev0 c1 c2] at h; cases h
          | cons y ws =>
            cases c3 : levN y with
            | none => rw [readW_levn c1 c2 c3] at h; cases h
            | some n4 =>
              rw [readW_levs c1 c2 c3] at h
              have hb : 1 ≤ n4 ∧ n4 ≤ 4 := by
                unfold levN at c3
                split at c3
                · cases c3; omega
                · cases c3
              exact ih ws (by simp at hn'; omega) { st with lv := n4 } st' ⟨rulesOk_lv hi.good hb, hi.f0, hi.f1, hi.s0, hi.s1, hi.t0, hi.t1⟩ h
      · rw [readW_shift c1] at h
        exact ih ws hn' { st with sh := true } st' ⟨hi.good, hi.f0, hi.f1, hi.s0, hi.s1, hi.t0, hi.t1⟩ h

theorem readA_bd (s : ByteArray) : (readA s).es.length ≤ 40 ∧ ∀ e ∈ (readA s).es, e.runes.length ≤ 4 := by
  unfold readA
  split
  · exact ⟨by simp, by simp⟩
  · cases h : readW (words s) rs0 with
    | error c => exact ⟨by simp [raOf], by simp [raOf]⟩
    | ok st =>
      have hi := readW_inv _ _ (Nat.le_refl _) rs0 st rinv0 h
      have hp := rulesOk_whole hi.good
      exact ⟨hp.1, fun e he => runesOk_len (hp.2.2 e he).1⟩
end Go.Proofs.YtanfebccenfffaaDoor

namespace Go.Proofs.YtanfebccenfffaaDoor
open Go.RowKit

theorem entAll_set (xs : List Value) (es : List Ent) (k : Nat) (x : Value) (e : Ent) (h : xs.length = es.length) (hk : k < es.length) :
    entAll (xs.set k x) (es.set k e) = (((((entAll xs es).set (k * 5) x).set (k * 5 + 1) (.int .i64 e.el.first)).set (k * 5 + 2) (.int .i64 e.el.second)).set (k * 5 + 3) (.int .i64 e.el.third)).set (k * 5 + 4) (.bool e.el.varies) := by
  induction es generalizing xs k with
  | nil => simp at hk
  | cons e' es ih => cases xs with
    | nil => simp at h
    | cons y ys =>
      cases k with
      | zero => rfl
      | succ k =>
        have hk' : k < es.length := by simpa using hk
        show entC y e'.el ++ entAll (ys.set k x) (es.set k e) = (((((entC y e'.el ++ entAll ys es).set ((k + 1) * 5) _).set ((k + 1) * 5 + 1) _).set ((k + 1) * 5 + 2) _).set ((k + 1) * 5 + 3) _).set ((k + 1) * 5 + 4) _
        rw [ih ys k (by simpa using h) hk', List.set_append_right _ _ (by show 5 ≤ _; omega), List.set_append_right _ _ (by show 5 ≤ _; omega), List.set_append_right _ _ (by show 5 ≤ _; omega), List.set_append_right _ _ (by show 5 ≤ _; omega), List.set_append_right _ _ (by show 5 ≤ _; omega)]
        have q0 : (k + 1) * 5 - (entC y e'.el).length = k * 5 := by show (k + 1) * 5 - 5 = _; omega
        have q1 : (k + 1) * 5 + 1 - (entC y e'.el).length = k * 5 + 1 := by show (k + 1) * 5 + 1 - 5 = _; omega
        have q2 : (k + 1) * 5 + 2 - (entC y e'.el).length = k * 5 + 2 := by show (k + 1) * 5 + 2 - 5 = _; omega
        have q3 : (k + 1) * 5 + 3 - (entC y e'.el).length = k * 5 + 3 := by show (k + 1) * 5 + 3 - 5 = _; omega
        have q4 : (k + 1) * 5 + 4 - (entC y e'.el).length = k * 5 + 4 := by show (k + 1) * 5 + 4 - 5 = _; omega
        rw [q0, q1, q2, q3, q4]

/-- The five cells of an entry laid into a block. -/
def set5 (u : World) (g p : Nat) (x : Value) (e : El) : World := ((((u.setCell ⟨g, p, none⟩ x).setCell ⟨g, p + 1, none⟩ (.int .i64 e.first)).setCell ⟨g, p + 2, none⟩ (.int .i64 e.second)).setCell ⟨g, p + 3, none⟩ (.int .i64 e.third)).setCell ⟨g, p + 4, none⟩ (.bool e.varies)

theorem set5_grown (u : World) (g p : Nat) (x : Value) (e : El) : u.grownBy (set5 u g p x e) (some g) :=
  ((((setCell_grown u g p _).trans (setCell_grown _ g (p + 1) _)).trans (setCell_grown _ g (p + 2) _)).trans (setCell_grown _ g (p + 3) _)).trans (setCell_grown _ g (p + 4) _)

/-- An entry laid anew at its place. -/
theorem Ents.setAt {u : World} {B g cap n k : Nat} {es : List Ent} {x : Value} {e : Ent} (h : Ents u B (.slice (some ⟨g, 0, none⟩) n cap) es) (hn : es.length = n) (hk : k < n) (hI : Ints u B x e.runes) :
    Ents (set5 u g (k * 5) x e.el) B (.slice (some ⟨g, 0, none⟩) n cap) (es.set k e) := by
  subst hn
  obtain ⟨xs, hl, h1, h2⟩ := h
  have s1 := h1.stored (k * 5) x
  have s2 := s1.1.stored (k * 5 + 1) (.int .i64 e.el.first)
  have s3 := s2.1.stored (k * 5 + 2) (.int .i64 e.el.second)
  have s4 := s3.1.stored (k * 5 + 3) (.int .i64 e.el.third)
  have s5 := s4.1.stored (k * 5 + 4) (.bool e.el.varies)
  have hg := set5_grown u g (k * 5) x e.el
  refine ⟨xs.set k x, by simp [hl], ?_, fun j y hy => ?_⟩
  · rw [entAll_set xs es k x e hl hk, List.length_set]
    exact s5.1
  · by_cases c : j = k
    · subst c
      rw [List.getElem?_set_self (by omega)] at hy
      cases hy
      exact ⟨x, by rw [List.getElem?_set_self (by omega)], World.ownsRow.kept hI hg (own_type hI h1 (by decide))⟩
    · rw [List.getElem?_set_ne (by omega)] at hy
      obtain ⟨z, hz, hzi⟩ := h2 j y hy
      exact ⟨z, by rw [List.getElem?_set_ne (by omega)]; exact hz, World.ownsRow.kept hzi hg (own_type hzi h1 (by decide))⟩
end Go.Proofs.YtanfebccenfffaaDoor

namespace Go.Proofs.YtanfebccenfffaaDoor
open Go.RowKit

/-- A row of entries of the call's own, no two of whose lists share a block; all its blocks lie ahead of T. -/
def EntsD (w : World) (B T : Nat) (v : Value) (es : List Ent) : Prop :=
  ∃ xs : List Value, xs.length = es.length ∧ w.ownsRow B 46 5 v es.length (entAll xs es) ∧ (∀ (k : Nat) (e : Ent), es[k]? = some e → ∃ x, xs[k]? = some x ∧ Ints w B x e.runes) ∧
    (∀ (i j : Nat) (x y : Value), i ≠ j → xs[i]? = some x → xs[j]? = some y → x.ownBlock = none ∨ x.ownBlock ≠ y.ownBlock) ∧
    (∀ g, v.ownBlock = some g → g < T) ∧ ∀ (i : Nat) (x : Value) (g : Nat), xs[i]? = some x → x.ownBlock = some g → g < T

theorem EntsD.ents {w : World} {B T : Nat} {v : Value} {es : List Ent} (h : EntsD w B T v es) : Ents w B v es := by
  obtain ⟨xs, hl, h1, h2, _⟩ := h
  exact ⟨xs, hl, h1, h2⟩

theorem EntsD.nil (w : World) (B T : Nat) : EntsD w B T (.slice none 0 0) [] := ⟨[], rfl, ⟨rfl, .inl ⟨rfl, rfl⟩⟩, fun k e h => by simp at h, fun i j x y _ h => by simp at h, (fun g h => by simp [Value.ownBlock] at h), (fun i x g h => by simp at h)⟩

theorem EntsD.below {w w' : World} {B T : Nat} {v : Value} {es : List Ent} (h : EntsD w B T v es) (hb : Below w.heap.size w w') : EntsD w' B T v es := by
  obtain ⟨xs, hl, h1, h2, h3, h4, h5⟩ := h
  refine ⟨xs, hl, World.ownsRow.kept h1 (row := none) ⟨hb.os, hb.tape, hb.output, hb.size, fun k hk _ => hb.block k hk⟩ (by cases h : v.ownBlock <;> simp), fun k e he => ?_, h3, h4, h5⟩
  obtain ⟨x, hx, hI⟩ := h2 k e he
  exact ⟨x, hx, hI.below hb⟩

/-- What lies ahead of B or from T on has not turned. -/
structure Mid (B T : Nat) (w w' : World) : Prop where
  os : w'.os = w.os
  tape : w'.tape = w.tape
  output : w'.output = w.output
  size : w.heap.size ≤ w'.heap.size
  block : ∀ b, b < w.heap.size → (b < B ∨ T ≤ b) → w'.heap[b]? = w.heap[b]?

theorem Mid.refl (B T : Nat) (w : World) : Mid B T w w := ⟨rfl, rfl, rfl, Nat.le_refl _, fun _ _ _ => rfl⟩

theorem Mid.grown {B T : Nat} {w u u' : World} {row : Option Nat} (h : Mid B T w u) (hg : u.grownBy u' row) (hr : ∀ g, row = some g → B ≤ g ∧ g < T) : Mid B T w u' := by
  refine ⟨hg.os.trans h.os, hg.tape.trans h.tape, hg.output.trans h.output, Nat.le_trans h.size hg.size, fun b hb hbt => ?_⟩
  rw [hg.block b (Nat.lt_of_lt_of_le hb h.size) (fun e => by have := hr b e.symm; omega)]
  exact h.block b hb hbt

theorem Mid.trans {B T : Nat} {w u u' : World} (h : Mid B T w u) (h' : Mid B T u u') : Mid B T w u' :=
  ⟨h'.os.trans h.os, h'.tape.trans h.tape, h'.output.trans h.output, Nat.le_trans h.size h'.size, fun b hb hbt => by rw [h'.block b (Nat.lt_of_lt_of_le hb h.size) hbt]; exact h.block b hb hbt⟩

theorem Mid.of {B T : Nat} {w w' : World} (hb : Below w.heap.size w w') : Mid B T w w' := ⟨hb.os, hb.tape, hb.output, hb.size, fun b h _ => hb.block b h⟩

theorem Mid.below {B T : Nat} {w w' : World} (h : Mid B T w w') (hB : B ≤ w.heap.size) : Below B w w' := ⟨h.os, h.tape, h.output, h.size, fun b hb => h.block b (Nat.lt_of_lt_of_le hb hB) (.inl hb)⟩
end Go.Proofs.YtanfebccenfffaaDoor

namespace Go.Proofs.YtanfebccenfffaaDoor

theorem nD_len200 {zs : List Int} (h : okR zs = true) : (nD zs).length ≤ 1800 := by
  have h6 := (okR_true h).1
  have h7 := apD_len zs
  rw [nD_len]; omega

/-- What IsNormalD tells of a list. -/
def isD (zs : List Int) : Bool := okR zs && decide (nD zs = zs)
/-- What SameRunes tells of two. -/
def sameD (zs ys : List Int) : Bool := okR zs && okR ys && decide (nD zs = nD ys)
end Go.Proofs.YtanfebccenfffaaDoor

namespace Go.Proofs.YtanfebccenfffaaDoor
open Go.RowKit

def rowsD {H : Type} (rows : List (List Int)) : DataW H := .agg (rows.map fun row => .agg (row.map fun z => .lit (.int .i64 z)))

theorem cells_rows {H : Type} {enc : TypeId × Value → H} {P : Program} {w : World} {base : Nat} {sp : Nat → Bool} {held : Bool} {fuel : Nat} {t e ti : TypeId} {n m : Nat} {fs : Array Field} {cs : List Value} {rows : List (List Int)} {p : List MemPlace}
    (ht : P.underlying t = some (.array n e)) (he : P.underlying e = some (.struct fs)) (hce : P.cellsOf e = m) (hfs : fs.size = m)
    (hf : ∀ (j : Nat) (f : Field), fs[j]? = some f → f.offset = j ∧ f.type = ti) (hti : P.underlying ti = some (.int .i64)) (hci : P.cellsOf ti = 1)
    (h : DataW.trod enc P w base sp held fuel t cs = some (rowsD rows, p)) :
    cs.length = P.cellsOf t ∧ ∀ (i : Nat) (row : List Int) (j : Nat) (z : Int), rows[i]? = some row → row[j]? = some z → cs[i * m + j]? = some (.int .i64 z) := by
  obtain ⟨xs, m1, -, hx, hcl, hxl, hel⟩ := DataW.trod_array ht h
  refine ⟨hcl, ?_⟩
  intro i row j z hi hj
  have hx1 : rows.map (fun row => (DataW.agg (row.map fun z => .lit (.int .i64 z)) : DataW H)) = xs.map (·.1) := by
    have := congrArg Prod.fst hx
    simpa [rowsD] using this
  have h1 : (xs.map (·.1))[i]? = some (DataW.agg (row.map fun z => .lit (.int .i64 z))) := by rw [← hx1]; simp [hi]
  rw [List.getElem?_map, Option.map_eq_some_iff] at h1
  obtain ⟨x, hxi, hx2⟩ := h1
  have hlt := (List.getElem?_eq_some_iff.1 hxi).1
  have h2 := hel i (by omega)
  rw [hxi] at h2
  obtain ⟨ys, n1, -, hy, -, hyl, hfl⟩ := DataW.trod_struct he h2
  have hy1 : row.map (fun z => (DataW.lit (.int .i64 z) : DataW H)) = ys.map (·.1) := by
    have := congrArg Prod.fst hy
    rw [hx2] at this
    simpa using this
  have h3 : (ys.map (·.1))[j]? = some (DataW.lit (.int .i64 z)) := by rw [← hy1]; simp [hj]
  rw [List.getElem?_map, Option.map_eq_some_iff] at h3
  obtain ⟨y, hyj, hy2⟩ := h3
  have hjl := (List.getElem?_eq_some_iff.1 hyj).1
  obtain ⟨f, hfj⟩ : ∃ f, fs[j]? = some f := ⟨fs[j]'(by omega), by simp⟩
  obtain ⟨o1, o2⟩ := hf j f hfj
  have h4 := hfl j f hfj
  rw [hyj, o1, o2, hci] at h4
  obtain ⟨k, e1, e2, _⟩ := DataW.trod_int hti h4
  have e3 : k = z := by rw [e2] at hy2; simpa using hy2
  subst e3
  have := congrArg (·[0]?) e1
  simp only [List.getElem?_take, List.getElem?_drop, hce] at this
  rw [if_pos (by omega), if_pos (by omega)] at this
  simpa using this

/-- The variable's block holds these integers. -/
def Held (w : World) (g : Nat) (zs : List Int) : Prop := ∃ t fr, w.heap[g]? = some (.cells (zs.map (Value.int .i64)).toArray t fr)

theorem Held.lt {w : World} {g : Nat} {zs : List Int} (h : Held w g zs) : g < w.heap.size := by
  obtain ⟨t, fr, h⟩ := h
  exact (Array.getElem?_eq_some_iff.1 h).1

theorem Held.below {w w' : World} {g B : Nat} {zs : List Int} (h : Held w g zs) (hb : Below B w w') (hg : g < B) : Held w' g zs := by
  obtain ⟨t, fr, h⟩ := h
  exact ⟨t, fr, by rw [hb.block g hg]; exact h⟩

theorem Held.drew {w : World} {g : Nat} {zs : List Int} (h : Held w g zs) : Held w.drew g zs := h

theorem held_of_head {P : Program} {W : World} {name : String} {rows : List (List Int)} {flat : List Int} {rest : List (String × DataW Unit)} {g : Nat} {t e ti : TypeId} {n m : Nat} {fs : Array Field}
    (hg : P.globalNamed name = some g) (hty : (P.globals[g]?).map (·.type) = some t) (ht : P.underlying t = some (.array n e)) (he : P.underlying e = some (.struct fs)) (hce : P.cellsOf e = m) (hfs : fs.size = m)
    (hf : ∀ (j : Nat) (f : Field), fs[j]? = some f → f.offset = j ∧ f.type = ti) (hti : P.underlying ti = some (.int .i64)) (hci : P.cellsOf ti = 1)
    (hct : P.cellsOf t = flat.length) (hfl : ∀ i ∈ List.range flat.length, ((rows[i / m]?).bind (·[i % m]?)) = flat[i]?)
    (h : laidMet P ((name, rowsD rows) :: rest) W) : Held W g flat := by
  obtain ⟨ps, ⟨g', t', cs, fuel, p, q, hg', ht', hvar, hd, _, _⟩, _⟩ := h
  obtain rfl := Option.some.inj (hg.symm.trans hg')
  obtain rfl := Option.some.inj (hty.symm.trans ht')
  obtain ⟨hl, h1⟩ := cells_rows ht he hce hfs hf hti hci hd
  have hcs : cs = (flat.map (Value.int .i64)).toArray := by
    apply Array.ext'
    simp only
    apply List.ext_getElem?
    intro i
    by_cases hi : i < flat.length
    · have h2 := hfl i (by simpa using hi)
      rw [List.getElem?_eq_getElem hi] at h2
      obtain ⟨row, hr, hz⟩ := Option.bind_eq_some_iff.1 h2
      have := h1 (i / m) row (i % m) _ hr hz
      rw [show i / m * m + i % m = i by rw [Nat.mul_comm]; exact Nat.div_add_mod i m] at this
      rw [this]; simp [hi]
    · rw [List.getElem?_eq_none (by omega), List.getElem?_eq_none (by simp; omega)]
  unfold World.var? at hvar
  rw [hg] at hvar
  simp only [Option.bind_some] at hvar
  split at hvar
  · rename_i c t fr hb
    cases hvar
    exact ⟨t, fr, by rw [hb, hcs]⟩
  · cases hvar

def marksT : List (List Int) := [[824, 1], [807, 202], [808, 202], [803, 220], [817, 220], [768, 230], [769, 230], [770, 230], [771, 230], [772, 230], [774, 230], [775, 230], [776, 230], [778, 230], [780, 230]]
def marksF : List Int := marksT.flatten

theorem trodVars_len {H : Type} {enc : TypeId × Value → H} {P : Program} {w : World} {sp : Nat → Bool} : ∀ {ns : List String} {gs : List (DataW H)} {ps : List MemPlace}, DataW.TrodVars enc P w sp ns gs ps → gs.length = ns.length
  | [], [], _, _ => rfl
  | [], _ :: _, _, h => h.elim
  | _ :: _, [], _, h => h.elim
  | _ :: _, _ :: _, _, h => by
    obtain ⟨_, _, _, _, _, _, _, _, _, _, hs, _⟩ := h
    simp [trodVars_len hs]

/-- The program's table of capital letters. -/
def capT : List (List Int) := [[192, 65, 768], [193, 65, 769], [194, 65, 770], [195, 65, 771], [196, 65, 776], [197, 65, 778], [199, 67, 807], [200, 69, 768], [201, 69, 769], [202, 69, 770], [203, 69, 776], [204, 73, 768], [205, 73, 769], [206, 73, 770], [207, 73, 776], [209, 78, 771], [210, 79, 768], [211, 79, 769], [212, 79, 770], [213, 79, 771], [214, 79, 776], [217, 85, 768], [218, 85, 769], [219, 85, 770], [220, 85, 776], [221, 89, 769]]
def capF : List Int := capT.flatten
def othT : List (List Int) := [[255, 121, 776], [7844, 194, 769], [7845, 226, 769], [7779, 115, 803], [7785, 7779, 775]]
def othF : List Int := othT.flatten

theorem gMarks : Tryd.prog.globalNamed "loop.example/g00158/impl.marks" = some 2 := by kernel_rfl
theorem tMarks : (Tryd.prog.globals[2]?).map (·.type) = some 103 := by kernel_rfl
theorem gCap : Tryd.prog.globalNamed "loop.example/g00158/impl.capitalPairs" = some 0 := by kernel_rfl
theorem tCap : (Tryd.prog.globals[0]?).map (·.type) = some 83 := by kernel_rfl
theorem gOth : Tryd.prog.globalNamed "loop.example/g00158/impl.otherPairs" = some 1 := by kernel_rfl
theorem tOth : (Tryd.prog.globals[1]?).map (·.type) = some 85 := by kernel_rfl

theorem marks_held {W : World} {rest : List (String × DataW Unit)} (h : laidMet Tryd.prog (("loop.example/g00158/impl.marks", Rows.laid_loop_example_g00158_impl_marks) :: rest) W) : Held W 2 marksF :=
  held_of_head (rows := marksT) (m := 2) (ti := 3) gMarks tMarks Tryd.underlying103 Tryd.underlying102 (by kernel_rfl) rfl
    (by intro j f h; rcases j with _ | _ | j <;> simp at h <;> (subst h; exact ⟨rfl, rfl⟩)) Tryd.underlying3 (by kernel_rfl) (by kernel_rfl) (by decide) h
theorem cap_held {W : World} {rest : List (String × DataW Unit)} (h : laidMet Tryd.prog (("loop.example/g00158/impl.capitalPairs", Rows.laid_loop_example_g00158_impl_capitalPairs) :: rest) W) : Held W 0 capF :=
  held_of_head (rows := capT) (m := 3) (ti := 3) gCap tCap Tryd.underlying83 Tryd.underlying82 (by kernel_rfl) rfl
    (by intro j f h; rcases j with _ | _ | _ | j <;> simp at h <;> (subst h; exact ⟨rfl, rfl⟩)) Tryd.underlying3 (by kernel_rfl) (by kernel_rfl) (by decide) h
theorem oth_held {W : World} {rest : List (String × DataW Unit)} (h : laidMet Tryd.prog (("loop.example/g00158/impl.otherPairs", Rows.laid_loop_example_g00158_impl_otherPairs) :: rest) W) : Held W 1 othF :=
  held_of_head (rows := othT) (m := 3) (ti := 3) gOth tOth Tryd.underlying85 Tryd.underlying82 (by kernel_rfl) rfl
    (by intro j f h; rcases j with _ | _ | _ | j <;> simp at h <;> (subst h; exact ⟨rfl, rfl⟩)) Tryd.underlying3 (by kernel_rfl) (by kernel_rfl) (by decide) h
end Go.Proofs.YtanfebccenfffaaDoor

namespace Go.Proofs.YtanfebccenfffaaDoor
open Go.RowKit

def capA : Array Value := (capF.map (Value.int .i64)).toArray
def othA : Array Value := (othF.map (Value.int .i64)).toArray

/-- A pair as a value. -/
def pv (t : List Int) : Value := .agg #[.int .i64 (at0 t 0), .int .i64 (at0 t 1), .int .i64 (at0 t 2)]

theorem cap_index (k : Nat) (hk : k < 26) (w : World) : (Instr.index 83 (.agg capA) (.int .i64 k)).run Tryd.prog w = .ok (.agg #[.int .i64 (at0 (capT.getD k []) 0), .int .i64 (at0 (capT.getD k []) 1), .int .i64 (at0 (capT.getD k []) 2)]) w := by
  iterate 26 (rcases k with _ | k; · kernel_rfl)
  omega

theorem oth_index (k : Nat) (hk : k < 5) (w : World) : (Instr.index 85 (.agg othA) (.int .i64 k)).run Tryd.prog w = .ok (.agg #[.int .i64 (at0 (othT.getD k []) 0), .int .i64 (at0 (othT.getD k []) 1), .int .i64 (at0 (othT.getD k []) 2)]) w := by
  iterate 5 (rcases k with _ | k; · kernel_rfl)
  omega

theorem tabI_cap : ∀ k ∈ List.range 26, tabI[2 * k]? = some [at0 (capT.getD k []) 0, at0 (capT.getD k []) 1, at0 (capT.getD k []) 2] ∧ tabI[2 * k + 1]? = some [at0 (capT.getD k []) 0 + 32, at0 (capT.getD k []) 1 + 32, at0 (capT.getD k []) 2] := by decide +kernel
theorem tabI_oth : ∀ k ∈ List.range 5, tabI[52 + k]? = some [at0 (othT.getD k []) 0, at0 (othT.getD k []) 1, at0 (othT.getD k []) 2] := by decide +kernel
theorem cap_bound : ∀ k ∈ List.range 26, (0 ≤ at0 (capT.getD k []) 0 ∧ at0 (capT.getD k []) 0 ≤ 300) ∧ 0 ≤ at0 (capT.getD k []) 1 ∧ at0 (capT.getD k []) 1 ≤ 300 := by decide +kernel
theorem tabI_len : tabI.length = 57 := by decide +kernel

/-- No row ahead of place k is the one looked for. -/
def NoneI (p : List Int → Bool) (k : Nat) : Prop := ∀ j t, j < k → tabI[j]? = some t → p t = false

theorem NoneI.succ {p : List Int → Bool} {k : Nat} {t : List Int} (h : NoneI p k) (ht : tabI[k]? = some t) (hp : p t = false) : NoneI p (k + 1) := by
  intro j u hj hu
  by_cases e : j = k
  · subst e; rw [ht] at hu; cases hu; exact hp
  · exact h j u (by omega) hu

theorem findI_at {p : List Int → Bool} {k : Nat} {t : List Int} (h : NoneI p k) (ht : tabI[k]? = some t) (hp : p t = true) : tabI.find? p = some t := by
  rw [List.find?_eq_some_iff_getElem]
  obtain ⟨hk, e⟩ := List.getElem?_eq_some_iff.1 ht
  refine ⟨hp, k, hk, e, fun j hj => ?_⟩
  have := h j tabI[j] hj (List.getElem?_eq_getElem (by omega))
  simpa using this

theorem findI_no {p : List Int → Bool} {k : Nat} (h : NoneI p k) (hk : 57 ≤ k) : tabI.find? p = none := by
  rw [List.find?_eq_none]
  intro t ht
  obtain ⟨j, hj⟩ := List.mem_iff_getElem?.1 ht
  have h1 := (List.getElem?_eq_some_iff.1 hj).1
  have h2 := tabI_len
  simpa using h j t (by omega) hj

set_option maxRecDepth 100000 in
set_option maxHeartbeats 1000000 in
theorem small_any (w : World) (a b c : Int) (ha : 0 ≤ a ∧ a ≤ 300) (hb : 0 ≤ b ∧ b ≤ 300) :
    Calls Tryd.prog 68 #[.agg #[.int .i64 a, .int .i64 b, .int .i64 c]] w fun e w' => e = .returned (.agg #[.int .i64 (a + 32), .int .i64 (b + 32), .int .i64 c]) ∧ Below w.heap.size w w' := by
  have hw1 : IntKind.i64.wrap (a + 32) = a + 32 := by rw [IntKind.wrap_i64]; omega
  have hw2 : IntKind.i64.wrap (b + 32) = b + 32 := by rw [IntKind.wrap_i64]; omega
  go_enter Tryd.func68, Tryd.ntmps68
  go_wp2
  refine bodyPost_ret (v := .agg #[.int .i64 (a + 32), .int .i64 (b + 32), .int .i64 c]) ?_ rfl ⟨rfl, ((Below.refl _ _).alloc (Nat.le_refl _) _).alloc (by simp) _⟩
  exact results_cell_row rfl _ _ (w.heap.size + 1) 82 _ (0, 0) _ rfl (heap_alloc2_new _ _ _) Tryd.underlying82 rfl (by kernel_rfl)

def pairRes (o : Option (List Int)) : Value := .tuple #[pv (o.getD []), .bool o.isSome]

theorem ret_p {o : Option (List Int)} {a b c : Int} (h : o = some [a, b, c]) : Ending.returned (.tuple #[.agg #[.int .i64 a, .int .i64 b, .int .i64 c], .bool true]) = .returned (pairRes o) := by rw [h]; rfl
theorem ret_p0 {o : Option (List Int)} (h : o = none) : Ending.returned (.tuple #[.agg #[.int .i64 0, .int .i64 0, .int .i64 0], .bool false]) = .returned (pairRes o) := by rw [h]; rfl

/-- The block of the result stands, still zero. -/
def Res0 (w wr : World) : Prop := wr.heap[w.heap.size]? = some (.cells #[.int .i64 0, .int .i64 0, .int .i64 0] 82)

theorem Res0.facts {w wr : World} (h : Res0 w wr) : w.heap.size < wr.heap.size ∧ wr.cell? ⟨w.heap.size, 0, none⟩ = some (.int .i64 0) ∧ wr.cell? ⟨w.heap.size, 1, none⟩ = some (.int .i64 0) ∧ wr.cell? ⟨w.heap.size, 2, none⟩ = some (.int .i64 0) ∧ ∀ j, wr.frozen? ⟨w.heap.size, j, none⟩ = false :=
  ⟨(Array.getElem?_eq_some_iff.1 h).1, by simp [World.cell?, show wr.heap[w.heap.size]? = _ from h], by simp [World.cell?, show wr.heap[w.heap.size]? = _ from h], by simp [World.cell?, show wr.heap[w.heap.size]? = _ from h], fun j => by simp [World.frozen?, show wr.heap[w.heap.size]? = _ from h]⟩

theorem Res0.alloc {w wr : World} (h : Res0 w wr) (o : Obj) : Res0 w (wr.alloc o) := by
  unfold Res0
  rw [Below.heap_alloc _ _ _ h.facts.1]; exact h

theorem Res0.below {w wr w' : World} (h : Res0 w wr) {B : Nat} (hb : Below B wr w') (hB : wr.heap.size ≤ B) : Res0 w w' := by
  unfold Res0
  rw [hb.block _ (Nat.lt_of_lt_of_le h.facts.1 hB)]; exact h

theorem below_res {w wr : World} (h : Below w.heap.size w wr) (x y z : Value) : Below w.heap.size w (((wr.setCell ⟨w.heap.size, 0, none⟩ x).setCell ⟨w.heap.size, 1, none⟩ y).setCell ⟨w.heap.size, 2, none⟩ z) :=
  ((h.setCell (Nat.le_refl _) _).setCell (Nat.le_refl _) _).setCell (Nat.le_refl _) _

def PRel (n : Nat) (w : World) (p : List Int → Bool) (m o : Nat) (i : Value) (wr : World) : Prop :=
  ∃ k : Nat, k ≤ n ∧ i = .int .i64 k ∧ NoneI p (o + m * k) ∧ Below w.heap.size w wr ∧ Res0 w wr

set_option maxRecDepth 100000 in
set_option maxHeartbeats 2000000 in
theorem implPair_any (r : Int) (w : World) (hc : Held w 0 capF) (ho : Held w 1 othF) :
    Calls Tryd.prog 93 #[.int .i64 r] w fun e w' => e = .returned (pairRes (tabI.find? (fun t => at0 t 0 == r))) ∧ Below w.heap.size w w' := by
  obtain ⟨t, fr, hh0⟩ := hc
  have hlt1 := ho.lt
  have HO : Hid (Held w 1 othF) := ho
  have hh : (w.alloc (.cells #[.int .i64 0, .int .i64 0, .int .i64 0] 82)).heap[0]? = some (.cells capA t fr) := by
    rw [Below.heap_alloc _ _ _ ((Array.getElem?_eq_some_iff.1 hh0).1)]; exact hh0
  clear hh0 ho
  go_enter Tryd.func93, Tryd.ntmps93
  go_wp2_with (refine wpList_load_row rfl 83 (.global 0) rfl 0 rfl t capA fr _ hh Tryd.underlying83 rfl (by kernel_rfl) ?_)
  clear hh
  go_loopw [10] (fun i wr => PRel 26 w (fun t => at0 t 0 == r) 2 0 i wr) (fun i _ => 26 - (intOf i).toNat)
  case atStart => exact ⟨0, Nat.zero_le _, rfl, fun j t hj => by omega, (Below.refl _ _).alloc (Nat.le_refl _) _, heap_alloc_new w _⟩
  case round =>
    obtain ⟨k, hk, rfl, HN0, hb, hres⟩ := hrel
    have HN : Hid (NoneI (fun t => at0 t 0 == r) (0 + 2 * k)) := HN0
    clear HN0
    obtain ⟨hn0, c0, c1, c2, f0⟩ := hres.facts
    by_cases hlt : k < 26
    · have hi := fun w => cap_index k hlt w
      have HT := tabI_cap k (by simpa using hlt)
      obtain ⟨b1, b2⟩ := cap_bound k (by simpa using hlt)
      generalize at0 (capT.getD k []) 0 = a at *
      generalize at0 (capT.getD k []) 1 = b at *
      generalize at0 (capT.getD k []) 2 = c at *
      have hk8 : (k : Int) < 26 := by omega
      by_cases e : a = r
      · subst e
        have HF : Hid (tabI.find? (fun t => at0 t 0 == a) = some [a, b, c]) := findI_at HN.out (by rw [Nat.zero_add]; exact HT.1) (by simp [at0])
        clear HN HT hres
        go_wp2
        (try simp only [Exit.inBlock, Exit.then])
        refine bodyPost_ret (v := .tuple #[.agg #[.int .i64 a, .int .i64 b, .int .i64 c], .bool true]) ?_ rfl ⟨ret_p HF.out, (below_res hb _ _ _).alloc (below_res hb _ _ _).size _⟩
        rw [results_cell_tmp rfl]
        go_simp
      · have e2 : (a == r) = false := by simpa using e
        have SM := fun w => small_any w a b c b1 b2
        have HN1 := HN.out.succ (t := [a, b, c]) (by rw [Nat.zero_add]; exact HT.1) (by simpa [at0] using e)
        have HT2 := HT.2
        clear HN HT e c0 c1 c2 f0
        go_wp2_with fail
        refine (SM _).mono ?_
        rintro e w1 ⟨rfl, hb1⟩
        have hres1 := (hres.alloc (.cells #[.int .i64 a, .int .i64 b, .int .i64 c] 82)).below hb1 (Nat.le_refl _)
        have hbb : Below w.heap.size w w1 := (hb.alloc hb.size _).trans (hb1.mono (hb.alloc hb.size _).size)
        obtain ⟨hn1, c0, c1, c2, f0⟩ := hres1.facts
        clear SM hb1 hb hres hn0
        by_cases e : a + 32 = r
        · have HF : Hid (tabI.find? (fun t => at0 t 0 == r) = some [a + 32, b + 32, c]) := findI_at HN1 (by rw [Nat.zero_add]; exact HT2) (by simp [at0, e])
          clear HN1 HT2 hres1
          have e3 : (a + 32 == r) = true := by simpa using e
          clear e
          go_wp2
          (try simp only [Exit.inBlock, Exit.then])
          refine bodyPost_ret (v := .tuple #[.agg #[.int .i64 (a + 32), .int .i64 (b + 32), .int .i64 c], .bool true]) ?_ rfl ⟨ret_p HF.out, (below_res hbb _ _ _).alloc (below_res hbb _ _ _).size _⟩
          rw [results_cell_tmp rfl]
          go_simp
        · have e3 : (a + 32 == r) = false := by simpa using e
          have HN2 := HN1.succ (t := [a + 32, b + 32, c]) (by rw [Nat.zero_add]; exact HT2) (by simpa [at0] using e)
          have HP : Hid (PRel 26 w (fun t => at0 t 0 == r) 2 0 (.int .i64 ((k : Int) + 1)) (w1.alloc (.cells #[.int .i64 (a + 32), .int .i64 (b + 32), .int .i64 c] 82))) :=
            ⟨k + 1, by omega, by go_num, by rw [show 0 + 2 * (k + 1) = 0 + 2 * k + 1 + 1 by omega]; exact HN2, hbb.alloc hbb.size _, hres1.alloc _⟩
          clear HN1 HT2 hres1 HN2 e
          go_wp2
          exact ⟨HP.out, by simp [intOf]; omega⟩
    · have hk26 : k = 26 := by omega
      subst hk26
      obtain ⟨t2, fr2, hh0⟩ := HO.out.below hb hlt1
      have hh : wr.heap[1]? = some (.cells othA t2 fr2) := hh0
      clear hh0 HO c0 c1 c2 f0
      go_wp2_with (refine wpList_load_row rfl 85 (.global 1) rfl 1 rfl t2 othA fr2 _ hh Tryd.underlying85 rfl (by kernel_rfl) ?_)
      clear hh
      go_loopw [27] (fun i wr => PRel 5 w (fun t => at0 t 0 == r) 1 52 i wr) (fun i _ => 5 - (intOf i).toNat)
      case atStart => exact ⟨0, Nat.zero_le _, rfl, HN.out, hb, hres⟩
      case round =>
        clear hb hres hn0 HN
        obtain ⟨k, hk, rfl, HN0, hb, hres⟩ := hrel
        have HN : Hid (NoneI (fun t => at0 t 0 == r) (52 + 1 * k)) := HN0
        clear HN0
        obtain ⟨hn0, c0, c1, c2, f0⟩ := hres.facts
        by_cases hlt : k < 5
        · have hi := fun w => oth_index k hlt w
          have HT := tabI_oth k (by simpa using hlt)
          generalize at0 (othT.getD k []) 0 = a at *
          generalize at0 (othT.getD k []) 1 = b at *
          generalize at0 (othT.getD k []) 2 = c at *
          have hk8 : (k : Int) < 5 := by omega
          by_cases e : a = r
          · subst e
            have HF : Hid (tabI.find? (fun t => at0 t 0 == a) = some [a, b, c]) := findI_at HN.out (by rw [Nat.one_mul]; exact HT) (by simp [at0])
            clear HN HT hres
            go_wp2
            (try simp only [Exit.inBlock, Exit.then])
            refine bodyPost_ret (v := .tuple #[.agg #[.int .i64 a, .int .i64 b, .int .i64 c], .bool true]) ?_ rfl ⟨ret_p HF.out, (below_res hb _ _ _).alloc (below_res hb _ _ _).size _⟩
            rw [results_cell_tmp rfl]
            go_simp
          · have e2 : (a == r) = false := by simpa using e
            have HN1 := HN.out.succ (t := [a, b, c]) (by rw [Nat.one_mul]; exact HT) (by simpa [at0] using e)
            have HP : Hid (PRel 5 w (fun t => at0 t 0 == r) 1 52 (.int .i64 ((k : Int) + 1)) (wr.alloc (.cells #[.int .i64 a, .int .i64 b, .int .i64 c] 82))) :=
              ⟨k + 1, by omega, by go_num, by rw [show 52 + 1 * (k + 1) = 52 + 1 * k + 1 by omega]; exact HN1, hb.alloc hb.size _, hres.alloc _⟩
            clear HN HT e HN1 hres
            go_wp2
            exact ⟨HP.out, by simp [intOf]; omega⟩
        · have HF : Hid (tabI.find? (fun t => at0 t 0 == r) = none) := findI_no HN.out (by omega)
          clear HN hres
          go_wp2
          (try simp only [Exit.inBlock, Exit.then])
          refine bodyPost_ret (v := .tuple #[.agg #[.int .i64 0, .int .i64 0, .int .i64 0], .bool false]) ?_ rfl ⟨ret_p0 HF.out, ?_⟩
          · rw [results_cell_tmp rfl]
            go_simp
          · first | exact below_res hb _ _ _ | exact hb
end Go.Proofs.YtanfebccenfffaaDoor

namespace Go.Proofs.YtanfebccenfffaaDoor
open Go.RowKit

theorem lit_ints2 (w : World) (o : Obj) (zs : List Int) (n B : Nat) (hn : zs.length = n) (hz : n ≤ maxLen) (cs : Array Value) (hcs : cs = (zs.map (Value.int .i64)).toArray) (hB : B ≤ w.heap.size) : Ints ((w.alloc o).alloc (.cells cs 3)) B (.slice (some ⟨w.heap.size + 1, 0, none⟩) n n) zs := by
  subst hn
  exact ints_block zs hcs (heap_alloc2_new w o _) (by omega) hz

set_option maxRecDepth 100000 in
set_option maxHeartbeats 2000000 in
theorem sylApart_any (w : World) (r : Int) (h1 : 44032 ≤ r) (h2 : r ≤ 55203) :
    Calls Tryd.prog 92 #[.int .i64 (r - 44032)] w fun e w' => ∃ v, e = .returned v ∧ Ints w' w.heap.size v (apart r) ∧ Below w.heap.size w w' := by
  have ha := syl_apart h1 h2
  obtain ⟨s, hs⟩ : ∃ s, r - 44032 = s := ⟨_, rfl⟩
  have h0 : 0 ≤ s := by omega
  have h3 : s ≤ 11171 := by omega
  rw [hs] at ha ⊢
  by_cases c : 0 < s % 28
  · have HA : Hid (apart r = [4352 + s / 588, 4449 + s % 588 / 28, 4519 + s % 28]) := by show _ = _; rw [ha, if_pos c]; rfl
    have c2 : (s % 28 == 0) = false := by simp; omega
    clear ha hs
    go_enter Tryd.func92, Tryd.ntmps92
    go_wp2
    go_ret
    rw [HA.out]
    exact ⟨_, rfl, lit_ints w _ 3 rfl (by unfold maxLen; omega) _ rfl, (Below.refl _ _).alloc (Nat.le_refl _) _⟩
  · have HA : Hid (apart r = [4352 + s / 588, 4449 + s % 588 / 28]) := by show _ = _; rw [ha, if_neg c]; rfl
    have c2 : (s % 28 == 0) = true := by simp; omega
    clear ha hs
    go_enter Tryd.func92, Tryd.ntmps92
    go_wp2
    go_ret
    rw [HA.out]
    exact ⟨_, rfl, lit_ints w _ 2 rfl (by unfold maxLen; omega) _ rfl, (Below.refl _ _).alloc (Nat.le_refl _) _⟩

/-- What the program's ApartOf answers: nothing of what is no rune. -/
def apartG (r : Int) : List Int := if goodB r = true then apart r else []

set_option maxRecDepth 100000 in
set_option maxHeartbeats 2000000 in
theorem implApart_any (r : Int) (w : World) (hc : Held w 0 capF) (ho : Held w 1 othF) :
    Calls Tryd.prog 82 #[.int .i64 r] w fun e w' => ∃ v, e = .returned v ∧ Ints w' w.heap.size v (apartG r) ∧ Below w.heap.size w w' := by
  unfold apartG
  cases hg : goodB r
  · have P := fun w => implGood_no r hg w
    rw [if_neg (by simp)]
    clear hg
    go_enter Tryd.func82, Tryd.ntmps82
    go_wp2_with (go_at_call 62; refine (P _).mono ?_; rintro e w1 ⟨rfl, rfl⟩)
    go_ret
    exact ⟨_, rfl, ⟨rfl, .inl ⟨rfl, rfl⟩⟩, Below.refl _ _⟩
  · have P := fun w => implGood_yes r hg w
    rw [if_pos rfl]
    have hgr := goodB_true hg
    clear hg
    by_cases e1 : r = 8491
    · subst e1
      have ha : apart 8491 = [197] := by decide
      rw [ha]
      go_enter Tryd.func82, Tryd.ntmps82
      go_wp2_with (go_at_call 62; refine (P _).mono ?_; rintro e w1 ⟨rfl, rfl⟩)
      go_ret
      exact ⟨_, rfl, lit_ints _ [197] 1 rfl (by unfold maxLen; omega) _ rfl, (Below.refl _ _).alloc (Nat.le_refl _) _⟩
    · have e1' : (r == 8491) = false := by simpa using e1
      by_cases e2 : 44032 ≤ r ∧ r ≤ 55203
      · obtain ⟨s1, s2⟩ := e2
        have SA := fun w => sylApart_any w r s1 s2
        clear hc ho hgr e1
        go_enter Tryd.func82, Tryd.ntmps82
        go_wp2_with fail
        refine (P _).mono ?_
        rintro e w1 ⟨rfl, rfl⟩
        go_wp2_with fail
        refine (SA _).mono ?_
        rintro e w2 ⟨v, rfl, hI, hb⟩
        go_wp2
        go_ret
        exact ⟨_, rfl, hI, hb⟩
      · have PR := fun w hc ho => implPair_any r w hc ho
        have HA : Hid (apart r = match tabI.find? (fun t => at0 t 0 == r) with | some t => [at0 t 1, at0 t 2] | none => [r]) := by
          show _ = _
          rw [tabI_whole]; unfold apart; rw [if_neg e1, if_neg e2]; rfl
        have e3 : (decide (44032 ≤ r) && decide (r ≤ 55203)) = false := by
          cases h : (decide (44032 ≤ r) && decide (r ≤ 55203)) with
          | false => rfl
          | true => simp at h; exact absurd h e2
        generalize tabI.find? (fun t => at0 t 0 == r) = o at *
        have fin : ∀ {w1 : World}, Held w1 0 capF → Held w1 1 othF → Hid (Calls Tryd.prog 93 #[.int .i64 r] w1 fun e w' => e = .returned (pairRes o) ∧ Below w1.heap.size w1 w') := fun a b => PR _ a b
        clear PR e1 hgr
        by_cases q : 44032 ≤ r
        · have q2 : ¬ r ≤ 55203 := fun h => e2 ⟨q, h⟩
          clear e2 e3
          go_enter Tryd.func82, Tryd.ntmps82
          go_wp2_with fail
          refine (P _).mono ?_
          rintro e w1 ⟨rfl, rfl⟩
          go_wp2_with fail
          refine ((fin hc ho).out).mono ?_
          rintro e w2 ⟨rfl, hb⟩
          cases o with
          | none =>
            simp only [pairRes, pv, Option.getD, Option.isSome]
            go_wp2
            go_ret
            rw [HA.out]
            exact ⟨_, rfl, lit_ints2 _ _ [r] 1 _ rfl (by unfold maxLen; omega) _ rfl hb.size, ((hb.alloc hb.size _).alloc (hb.alloc hb.size _).size _)⟩
          | some t =>
            simp only [pairRes, pv, Option.getD, Option.isSome]
            go_wp2
            go_ret
            rw [HA.out]
            exact ⟨_, rfl, lit_ints2 _ _ [at0 t 1, at0 t 2] 2 _ rfl (by unfold maxLen; omega) _ rfl hb.size, ((hb.alloc hb.size _).alloc (hb.alloc hb.size _).size _)⟩
        · clear e2 e3
          go_enter Tryd.func82, Tryd.ntmps82
          go_wp2_with fail
          refine (P _).mono ?_
          rintro e w1 ⟨rfl, rfl⟩
          go_wp2_with fail
          refine ((fin hc ho).out).mono ?_
          rintro e w2 ⟨rfl, hb⟩
          cases o with
          | none =>
            simp only [pairRes, pv, Option.getD, Option.isSome]
            go_wp2
            go_ret
            rw [HA.out]
            exact ⟨_, rfl, lit_ints2 _ _ [r] 1 _ rfl (by unfold maxLen; omega) _ rfl hb.size, ((hb.alloc hb.size _).alloc (hb.alloc hb.size _).size _)⟩
          | some t =>
            simp only [pairRes, pv, Option.getD, Option.isSome]
            go_wp2
            go_ret
            rw [HA.out]
            exact ⟨_, rfl, lit_ints2 _ _ [at0 t 1, at0 t 2] 2 _ rfl (by unfold maxLen; omega) _ rfl hb.size, ((hb.alloc hb.size _).alloc (hb.alloc hb.size _).size _)⟩
end Go.Proofs.YtanfebccenfffaaDoor
