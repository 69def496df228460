/- Texts of mine laid together: Grown1, PIs, Laid, IPair, IApart, IClass, ISort, ISort2, IGoods, INorm. -/
import Derived.Test.YtanfebccenfffaaGreatDoorInts
import Derived.Test.YtanfebccenfffaaGreatDoorSD
import Derived.Test.YtanfebccenfffaaGreatDoorRows
import Derived.OpenShut
import Derived.LaidLaws
import Derived.Stop.LaidErr
import Derived.WalkKit
import Derived.OpenVars
import Derived.Test.YtanfebccenfffaaGreatDoorNorm2
import Derived.Test.YtanfebccenfffaaGreatDoorClass
import Derived.Deep.WholeRow
import Derived.Test.YtanfebccenfffaaGreatDoorApart2
import Derived.Test.YtanfebccenfffaaGreatDoorSort2
import Derived.Deep.RegionHeld
namespace Go.Proofs.YtanfebccenfffaaGreatDoor
open Go.RowKit

theorem setCell_grown (u : World) (b o : Nat) (x : Value) : u.grownBy (u.setCell ⟨b, o, none⟩ x) (some b) := by
  refine ⟨rfl, rfl, rfl, by simp, fun k hk hne => ?_⟩
  have h : b ≠ k := fun e => hne (by rw [e])
  simp [World.setCell, Array.getElem?_modify, h]

theorem grown_ge {w u u' : World} {b : Nat} (h : Below w.heap.size w u) (hg : u.grownBy u' (some b)) (hb : w.heap.size ≤ b) : Below w.heap.size w u' := Below.grown h hg h.size (fun j hj => by cases hj; exact hb)
end Go.Proofs.YtanfebccenfffaaGreatDoor

namespace Go.Proofs.YtanfebccenfffaaGreatDoor

theorem nD_len200 {zs : List Int} (h : okR zs = true) : (nD zs).length ≤ 1800 := by
  have h6 := (okR_true h).1
  have h7 := apD_len zs
  rw [nD_len]; omega

/-- What IsNormalD tells of a list. -/
def isD (zs : List Int) : Bool := okR zs && decide (nD zs = zs)
/-- What SameRunes tells of two. -/
def sameD (zs ys : List Int) : Bool := okR zs && okR ys && decide (nD zs = nD ys)
end Go.Proofs.YtanfebccenfffaaGreatDoor

namespace Go.Proofs.YtanfebccenfffaaGreatDoor
open Go.RowKit

def rowsD {H : Type} (rows : List (List Int)) : DataW H := .agg (rows.map fun row => .agg (row.map fun z => .lit (.int .i64 z)))

theorem cells_rows {H : Type} {enc : TypeId × Value → H} {P : Program} {w : World} {base : Nat} {sp : Nat → Bool} {held : Bool} {fuel : Nat} {t e ti : TypeId} {n m : Nat} {fs : Array Field} {cs : List Value} {rows : List (List Int)} {p : List MemPlace}
    (ht : P.underlying t = some (.array n e)) (he : P.underlying e = some (.struct fs)) (hce : P.cellsOf e = m) (hfs : fs.size = m)
    (hf : ∀ (j : Nat) (f : Field), fs[j]? = some f → f.offset = j ∧ f.type = ti) (hti : P.underlying ti = some (.int .i64)) (hci : P.cellsOf ti = 1)
    (h : DataW.trod enc P w base sp held fuel t cs = some (rowsD rows, p)) :
    cs.length = P.cellsOf t ∧ ∀ (i : Nat) (row : List Int) (j : Nat) (z : Int), rows[i]? = some row → row[j]? = some z → cs[i * m + j]? = some (.int .i64 z) := by
  obtain ⟨xs, m1, -, hx, hcl, hxl, hel⟩ := DataW.trod_array ht h
  refine ⟨hcl, ?_⟩
  intro i row j z hi hj
  have hx1 : rows.map (fun row => (DataW.agg (row.map fun z => .lit (.int .i64 z)) : DataW H)) = xs.map (·.1) := by
    have := congrArg Prod.fst hx
    simpa [rowsD] using this
  have h1 : (xs.map (·.1))[i]? = some (DataW.agg (row.map fun z => .lit (.int .i64 z))) := by rw [← hx1]; simp [hi]
  rw [List.getElem?_map, Option.map_eq_some_iff] at h1
  obtain ⟨x, hxi, hx2⟩ := h1
  have hlt := (List.getElem?_eq_some_iff.1 hxi).1
  have h2 := hel i (by omega)
  rw [hxi] at h2
  obtain ⟨ys, n1, -, hy, -, hyl, hfl⟩ := DataW.trod_struct he h2
  have hy1 : row.map (fun z => (DataW.lit (.int .i64 z) : DataW H)) = ys.map (·.1) := by
    have := congrArg Prod.fst hy
    rw [hx2] at this
    simpa using this
  have h3 : (ys.map (·.1))[j]? = some (DataW.lit (.int .i64 z)) := by rw [← hy1]; simp [hj]
  rw [List.getElem?_map, Option.map_eq_some_iff] at h3
  obtain ⟨y, hyj, hy2⟩ := h3
  have hjl := (List.getElem?_eq_some_iff.1 hyj).1
  obtain ⟨f, hfj⟩ : ∃ f, fs[j]? = some f := ⟨fs[j]'(by omega), by simp⟩
  obtain ⟨o1, o2⟩ := hf j f hfj
  have h4 := hfl j f hfj
  rw [hyj, o1, o2, hci] at h4
  obtain ⟨k, e1, e2, _⟩ := DataW.trod_int hti h4
  have e3 : k = z := by rw [e2] at hy2; simpa using hy2
  subst e3
  have := congrArg (·[0]?) e1
  simp only [List.getElem?_take, List.getElem?_drop, hce] at this
  rw [if_pos (by omega), if_pos (by omega)] at this
  simpa using this

/-- The variable's block holds these integers. -/
def Held (w : World) (g : Nat) (zs : List Int) : Prop := ∃ t fr, w.heap[g]? = some (.cells (zs.map (Value.int .i64)).toArray t fr)

theorem Held.lt {w : World} {g : Nat} {zs : List Int} (h : Held w g zs) : g < w.heap.size := by
  obtain ⟨t, fr, h⟩ := h
  exact (Array.getElem?_eq_some_iff.1 h).1

theorem Held.below {w w' : World} {g B : Nat} {zs : List Int} (h : Held w g zs) (hb : Below B w w') (hg : g < B) : Held w' g zs := by
  obtain ⟨t, fr, h⟩ := h
  exact ⟨t, fr, by rw [hb.block g hg]; exact h⟩

theorem Held.drew {w : World} {g : Nat} {zs : List Int} (h : Held w g zs) : Held w.drew g zs := h

theorem held_of_head {P : Program} {W : World} {name : String} {rows : List (List Int)} {flat : List Int} {rest : List (String × DataW Unit)} {g : Nat} {t e ti : TypeId} {n m : Nat} {fs : Array Field}
    (hg : P.globalNamed name = some g) (hty : (P.globals[g]?).map (·.type) = some t) (ht : P.underlying t = some (.array n e)) (he : P.underlying e = some (.struct fs)) (hce : P.cellsOf e = m) (hfs : fs.size = m)
    (hf : ∀ (j : Nat) (f : Field), fs[j]? = some f → f.offset = j ∧ f.type = ti) (hti : P.underlying ti = some (.int .i64)) (hci : P.cellsOf ti = 1)
    (hct : P.cellsOf t = flat.length) (hfl : ∀ i ∈ List.range flat.length, ((rows[i / m]?).bind (·[i % m]?)) = flat[i]?)
    (h : laidMet P ((name, rowsD rows) :: rest) W) : Held W g flat := by
  obtain ⟨ps, ⟨g', t', cs, fuel, p, q, hg', ht', hvar, hd, _, _⟩, _⟩ := h
  obtain rfl := Option.some.inj (hg.symm.trans hg')
  obtain rfl := Option.some.inj (hty.symm.trans ht')
  obtain ⟨hl, h1⟩ := cells_rows ht he hce hfs hf hti hci hd
  have hcs : cs = (flat.map (Value.int .i64)).toArray := by
    apply Array.ext'
    simp only
    apply List.ext_getElem?
    intro i
    by_cases hi : i < flat.length
    · have h2 := hfl i (by simpa using hi)
      rw [List.getElem?_eq_getElem hi] at h2
      obtain ⟨row, hr, hz⟩ := Option.bind_eq_some_iff.1 h2
      have := h1 (i / m) row (i % m) _ hr hz
      rw [show i / m * m + i % m = i by rw [Nat.mul_comm]; exact Nat.div_add_mod i m] at this
      rw [this]; simp [hi]
    · rw [List.getElem?_eq_none (by omega), List.getElem?_eq_none (by simp; omega)]
  unfold World.var? at hvar
  rw [hg] at hvar
  simp only [Option.bind_some] at hvar
  split at hvar
  · rename_i c t fr hb
    cases hvar
    exact ⟨t, fr, by rw [hb, hcs]⟩
  · cases hvar

def marksT : List (List Int) := [[824, 1], [807, 202], [808, 202], [803, 220], [817, 220], [768, 230], [769, 230], [770, 230], [771, 230], [772, 230], [774, 230], [775, 230], [776, 230], [778, 230], [780, 230]]
def marksF : List Int := marksT.flatten

theorem trodVars_len {H : Type} {enc : TypeId × Value → H} {P : Program} {w : World} {sp : Nat → Bool} : ∀ {ns : List String} {gs : List (DataW H)} {ps : List MemPlace}, DataW.TrodVars enc P w sp ns gs ps → gs.length = ns.length
  | [], [], _, _ => rfl
  | [], _ :: _, _, h => h.elim
  | _ :: _, [], _, h => h.elim
  | _ :: _, _ :: _, _, h => by
    obtain ⟨_, _, _, _, _, _, _, _, _, _, hs, _⟩ := h
    simp [trodVars_len hs]

/-- The program's table of capital letters. -/
def capT : List (List Int) := [[192, 65, 768], [193, 65, 769], [194, 65, 770], [195, 65, 771], [196, 65, 776], [197, 65, 778], [199, 67, 807], [200, 69, 768], [201, 69, 769], [202, 69, 770], [203, 69, 776], [204, 73, 768], [205, 73, 769], [206, 73, 770], [207, 73, 776], [209, 78, 771], [210, 79, 768], [211, 79, 769], [212, 79, 770], [213, 79, 771], [214, 79, 776], [217, 85, 768], [218, 85, 769], [219, 85, 770], [220, 85, 776], [221, 89, 769]]
def capF : List Int := capT.flatten
def othT : List (List Int) := [[255, 121, 776], [7844, 194, 769], [7845, 226, 769], [7779, 115, 803], [7785, 7779, 775]]
def othF : List Int := othT.flatten

theorem gMarks : Tryz.prog.globalNamed "loop.example/g00158/impl.marks" = some 0 := by kernel_rfl
theorem tMarks : (Tryz.prog.globals[0]?).map (·.type) = some 145 := by kernel_rfl
theorem gCap : Tryz.prog.globalNamed "loop.example/g00158/impl.capitalPairs" = some 2 := by kernel_rfl
theorem tCap : (Tryz.prog.globals[2]?).map (·.type) = some 155 := by kernel_rfl
theorem gOth : Tryz.prog.globalNamed "loop.example/g00158/impl.otherPairs" = some 3 := by kernel_rfl
theorem tOth : (Tryz.prog.globals[3]?).map (·.type) = some 157 := by kernel_rfl

theorem marks_held {W : World} {rest : List (String × DataW Unit)} (h : laidMet Tryz.prog (("loop.example/g00158/impl.marks", Rows.laid_loop_example_g00158_impl_marks) :: rest) W) : Held W 0 marksF :=
  held_of_head (rows := marksT) (m := 2) (ti := 3) gMarks tMarks Tryz.underlying145 Tryz.underlying144 (by kernel_rfl) rfl
    (by intro j f h; rcases j with _ | _ | j <;> simp at h <;> (subst h; exact ⟨rfl, rfl⟩)) Tryz.underlying3 (by kernel_rfl) (by kernel_rfl) (by decide) h
theorem cap_held {W : World} {rest : List (String × DataW Unit)} (h : laidMet Tryz.prog (("loop.example/g00158/impl.capitalPairs", Rows.laid_loop_example_g00158_impl_capitalPairs) :: rest) W) : Held W 2 capF :=
  held_of_head (rows := capT) (m := 3) (ti := 3) gCap tCap Tryz.underlying155 Tryz.underlying152 (by kernel_rfl) rfl
    (by intro j f h; rcases j with _ | _ | _ | j <;> simp at h <;> (subst h; exact ⟨rfl, rfl⟩)) Tryz.underlying3 (by kernel_rfl) (by kernel_rfl) (by decide) h
theorem oth_held {W : World} {rest : List (String × DataW Unit)} (h : laidMet Tryz.prog (("loop.example/g00158/impl.otherPairs", Rows.laid_loop_example_g00158_impl_otherPairs) :: rest) W) : Held W 3 othF :=
  held_of_head (rows := othT) (m := 3) (ti := 3) gOth tOth Tryz.underlying157 Tryz.underlying152 (by kernel_rfl) rfl
    (by intro j f h; rcases j with _ | _ | _ | j <;> simp at h <;> (subst h; exact ⟨rfl, rfl⟩)) Tryz.underlying3 (by kernel_rfl) (by kernel_rfl) (by decide) h
end Go.Proofs.YtanfebccenfffaaGreatDoor

namespace Go.Proofs.YtanfebccenfffaaGreatDoor
open Go.RowKit

def capA : Array Value := (capF.map (Value.int .i64)).toArray
def othA : Array Value := (othF.map (Value.int .i64)).toArray

/-- A pair as a value. -/
def pv (t : List Int) : Value := .agg #[.int .i64 (at0 t 0), .int .i64 (at0 t 1), .int .i64 (at0 t 2)]

theorem cap_index (k : Nat) (hk : k < 26) (w : World) : (Instr.index 155 (.agg capA) (.int .i64 k)).run Tryz.prog w = .ok (.agg #[.int .i64 (at0 (capT.getD k []) 0), .int .i64 (at0 (capT.getD k []) 1), .int .i64 (at0 (capT.getD k []) 2)]) w := by
  iterate 26 (rcases k with _ | k; · kernel_rfl)
  omega

theorem oth_index (k : Nat) (hk : k < 5) (w : World) : (Instr.index 157 (.agg othA) (.int .i64 k)).run Tryz.prog w = .ok (.agg #[.int .i64 (at0 (othT.getD k []) 0), .int .i64 (at0 (othT.getD k []) 1), .int .i64 (at0 (othT.getD k []) 2)]) w := by
  iterate 5 (rcases k with _ | k; · kernel_rfl)
  omega

theorem tabI_cap : ∀ k ∈ List.range 26, tabI[2 * k]? = some [at0 (capT.getD k []) 0, at0 (capT.getD k []) 1, at0 (capT.getD k []) 2] ∧ tabI[2 * k + 1]? = some [at0 (capT.getD k []) 0 + 32, at0 (capT.getD k []) 1 + 32, at0 (capT.getD k []) 2] := by decide +kernel
theorem tabI_oth : ∀ k ∈ List.range 5, tabI[52 + k]? = some [at0 (othT.getD k []) 0, at0 (othT.getD k []) 1, at0 (othT.getD k []) 2] := by decide +kernel
theorem cap_bound : ∀ k ∈ List.range 26, (0 ≤ at0 (capT.getD k []) 0 ∧ at0 (capT.getD k []) 0 ≤ 300) ∧ 0 ≤ at0 (capT.getD k []) 1 ∧ at0 (capT.getD k []) 1 ≤ 300 := by decide +kernel
theorem tabI_len : tabI.length = 57 := by decide +kernel

/-- No row ahead of place k is the one looked for. -/
def NoneI (p : List Int → Bool) (k : Nat) : Prop := ∀ j t, j < k → tabI[j]? = some t → p t = false

theorem NoneI.succ {p : List Int → Bool} {k : Nat} {t : List Int} (h : NoneI p k) (ht : tabI[k]? = some t) (hp : p t = false) : NoneI p (k + 1) := by
  intro j u hj hu
  by_cases e : j = k
  · subst e; rw [ht] at hu; cases hu; exact hp
  · exact h j u (by omega) hu

theorem findI_at {p : List Int → Bool} {k : Nat} {t : List Int} (h : NoneI p k) (ht : tabI[k]? = some t) (hp : p t = true) : tabI.find? p = some t := by
  rw [List.find?_eq_some_iff_getElem]
  obtain ⟨hk, e⟩ := List.getElem?_eq_some_iff.1 ht
  refine ⟨hp, k, hk, e, fun j hj => ?_⟩
  have := h j tabI[j] hj (List.getElem?_eq_getElem (by omega))
  simpa using this

theorem findI_no {p : List Int → Bool} {k : Nat} (h : NoneI p k) (hk : 57 ≤ k) : tabI.find? p = none := by
  rw [List.find?_eq_none]
  intro t ht
  obtain ⟨j, hj⟩ := List.mem_iff_getElem?.1 ht
  have h1 := (List.getElem?_eq_some_iff.1 hj).1
  have h2 := tabI_len
  simpa using h j t (by omega) hj

set_option maxRecDepth 100000 in
set_option maxHeartbeats 1000000 in
theorem small_any (w : World) (a b c : Int) (ha : 0 ≤ a ∧ a ≤ 300) (hb : 0 ≤ b ∧ b ≤ 300) :
    Calls Tryz.prog 120 #[.agg #[.int .i64 a, .int .i64 b, .int .i64 c]] w fun e w' => e = .returned (.agg #[.int .i64 (a + 32), .int .i64 (b + 32), .int .i64 c]) ∧ Below w.heap.size w w' := by
  have hw1 : IntKind.i64.wrap (a + 32) = a + 32 := by rw [IntKind.wrap_i64]; omega
  have hw2 : IntKind.i64.wrap (b + 32) = b + 32 := by rw [IntKind.wrap_i64]; omega
  go_enter Tryz.func120, Tryz.ntmps120
  go_wp2
  refine bodyPost_ret (v := .agg #[.int .i64 (a + 32), .int .i64 (b + 32), .int .i64 c]) ?_ rfl ⟨rfl, ((Below.refl _ _).alloc (Nat.le_refl _) _).alloc (by simp) _⟩
  exact results_cell_row rfl _ _ (w.heap.size + 1) 152 _ (0, 0) _ rfl (heap_alloc2_new _ _ _) Tryz.underlying152 rfl (by kernel_rfl)

def pairRes (o : Option (List Int)) : Value := .tuple #[pv (o.getD []), .bool o.isSome]

theorem ret_p {o : Option (List Int)} {a b c : Int} (h : o = some [a, b, c]) : Ending.returned (.tuple #[.agg #[.int .i64 a, .int .i64 b, .int .i64 c], .bool true]) = .returned (pairRes o) := by rw [h]; rfl
theorem ret_p0 {o : Option (List Int)} (h : o = none) : Ending.returned (.tuple #[.agg #[.int .i64 0, .int .i64 0, .int .i64 0], .bool false]) = .returned (pairRes o) := by rw [h]; rfl

/-- The block of the result stands, still zero. -/
def Res0 (w wr : World) : Prop := wr.heap[w.heap.size]? = some (.cells #[.int .i64 0, .int .i64 0, .int .i64 0] 152)

theorem Res0.facts {w wr : World} (h : Res0 w wr) : w.heap.size < wr.heap.size ∧ wr.cell? ⟨w.heap.size, 0, none⟩ = some (.int .i64 0) ∧ wr.cell? ⟨w.heap.size, 1, none⟩ = some (.int .i64 0) ∧ wr.cell? ⟨w.heap.size, 2, none⟩ = some (.int .i64 0) ∧ ∀ j, wr.frozen? ⟨w.heap.size, j, none⟩ = false :=
  ⟨(Array.getElem?_eq_some_iff.1 h).1, by simp [World.cell?, show wr.heap[w.heap.size]? = _ from h], by simp [World.cell?, show wr.heap[w.heap.size]? = _ from h], by simp [World.cell?, show wr.heap[w.heap.size]? = _ from h], fun j => by simp [World.frozen?, show wr.heap[w.heap.size]? = _ from h]⟩

theorem Res0.alloc {w wr : World} (h : Res0 w wr) (o : Obj) : Res0 w (wr.alloc o) := by
  unfold Res0
  rw [Below.heap_alloc _ _ _ h.facts.1]; exact h

theorem Res0.below {w wr w' : World} (h : Res0 w wr) {B : Nat} (hb : Below B wr w') (hB : wr.heap.size ≤ B) : Res0 w w' := by
  unfold Res0
  rw [hb.block _ (Nat.lt_of_lt_of_le h.facts.1 hB)]; exact h

theorem below_res {w wr : World} (h : Below w.heap.size w wr) (x y z : Value) : Below w.heap.size w (((wr.setCell ⟨w.heap.size, 0, none⟩ x).setCell ⟨w.heap.size, 1, none⟩ y).setCell ⟨w.heap.size, 2, none⟩ z) :=
  ((h.setCell (Nat.le_refl _) _).setCell (Nat.le_refl _) _).setCell (Nat.le_refl _) _

def PRel (n : Nat) (w : World) (p : List Int → Bool) (m o : Nat) (i : Value) (wr : World) : Prop :=
  ∃ k : Nat, k ≤ n ∧ i = .int .i64 k ∧ NoneI p (o + m * k) ∧ Below w.heap.size w wr ∧ Res0 w wr

set_option maxRecDepth 100000 in
set_option maxHeartbeats 2000000 in
theorem implPair_any (r : Int) (w : World) (hc : Held w 2 capF) (ho : Held w 3 othF) :
    Calls Tryz.prog 118 #[.int .i64 r] w fun e w' => e = .returned (pairRes (tabI.find? (fun t => at0 t 0 == r))) ∧ Below w.heap.size w w' := by
  obtain ⟨t, fr, hh0⟩ := hc
  have hlt1 := ho.lt
  have HO : Hid (Held w 3 othF) := ho
  have hh : (w.alloc (.cells #[.int .i64 0, .int .i64 0, .int .i64 0] 152)).heap[2]? = some (.cells capA t fr) := by
    rw [Below.heap_alloc _ _ _ ((Array.getElem?_eq_some_iff.1 hh0).1)]; exact hh0
  clear hh0 ho
  go_enter Tryz.func118, Tryz.ntmps118
  go_wp2_with (refine wpList_load_row rfl 155 (.global 2) rfl 2 rfl t capA fr _ hh Tryz.underlying155 rfl (by kernel_rfl) ?_)
  clear hh
  go_loopw [10] (fun i wr => PRel 26 w (fun t => at0 t 0 == r) 2 0 i wr) (fun i _ => 26 - (intOf i).toNat)
  case atStart => exact ⟨0, Nat.zero_le _, rfl, fun j t hj => by omega, (Below.refl _ _).alloc (Nat.le_refl _) _, heap_alloc_new w _⟩
  case round =>
    obtain ⟨k, hk, rfl, HN0, hb, hres⟩ := hrel
    have HN : Hid (NoneI (fun t => at0 t 0 == r) (0 + 2 * k)) := HN0
    clear HN0
    obtain ⟨hn0, c0, c1, c2, f0⟩ := hres.facts
    by_cases hlt : k < 26
    · have hi := fun w => cap_index k hlt w
      have HT := tabI_cap k (by simpa using hlt)
      obtain ⟨b1, b2⟩ := cap_bound k (by simpa using hlt)
      generalize at0 (capT.getD k []) 0 = a at *
      generalize at0 (capT.getD k []) 1 = b at *
      generalize at0 (capT.getD k []) 2 = c at *
      have hk8 : (k : Int) < 26 := by omega
      by_cases e : a = r
      · subst e
        have HF : Hid (tabI.find? (fun t => at0 t 0 == a) = some [a, b, c]) := findI_at HN.out (by rw [Nat.zero_add]; exact HT.1) (by simp [at0])
        clear HN HT hres
        go_wp2
        (try simp only [Exit.inBlock, Exit.then])
        refine bodyPost_ret (v := .tuple #[.agg #[.int .i64 a, .int .i64 b, .int .i64 c], .bool true]) ?_ rfl ⟨ret_p HF.out, (below_res hb _ _ _).alloc (below_res hb _ _ _).size _⟩
        rw [results_cell_tmp rfl]
        go_simp
      · have e2 : (a == r) = false := by simpa using e
        have SM := fun w => small_any w a b c b1 b2
        have HN1 := HN.out.succ (t := [a, b, c]) (by rw [Nat.zero_add]; exact HT.1) (by simpa [at0] using e)
        have HT2 := HT.2
        clear HN HT e c0 c1 c2 f0
        go_wp2_with fail
        refine (SM _).mono ?_
        rintro e w1 ⟨rfl, hb1⟩
        have hres1 := (hres.alloc (.cells #[.int .i64 a, .int .i64 b, .int .i64 c] 152)).below hb1 (Nat.le_refl _)
        have hbb : Below w.heap.size w w1 := (hb.alloc hb.size _).trans (hb1.mono (hb.alloc hb.size _).size)
        obtain ⟨hn1, c0, c1, c2, f0⟩ := hres1.facts
        clear SM hb1 hb hres hn0
        by_cases e : a + 32 = r
        · have HF : Hid (tabI.find? (fun t => at0 t 0 == r) = some [a + 32, b + 32, c]) := findI_at HN1 (by rw [Nat.zero_add]; exact HT2) (by simp [at0, e])
          clear HN1 HT2 hres1
          have e3 : (a + 32 == r) = true := by simpa using e
          clear e
          go_wp2
          (try simp only [Exit.inBlock, Exit.then])
          refine bodyPost_ret (v := .tuple #[.agg #[.int .i64 (a + 32), .int .i64 (b + 32), .int .i64 c], .bool true]) ?_ rfl ⟨ret_p HF.out, (below_res hbb _ _ _).alloc (below_res hbb _ _ _).size _⟩
          rw [results_cell_tmp rfl]
          go_simp
        · have e3 : (a + 32 == r) = false := by simpa using e
          have HN2 := HN1.succ (t := [a + 32, b + 32, c]) (by rw [Nat.zero_add]; exact HT2) (by simpa [at0] using e)
          have HP : Hid (PRel 26 w (fun t => at0 t 0 == r) 2 0 (.int .i64 ((k : Int) + 1)) (w1.alloc (.cells #[.int .i64 (a + 32), .int .i64 (b + 32), .int .i64 c] 152))) :=
            ⟨k + 1, by omega, by go_num, by rw [show 0 + 2 * (k + 1) = 0 + 2 * k + 1 + 1 by omega]; exact HN2, hbb.alloc hbb.size _, hres1.alloc _⟩
          clear HN1 HT2 hres1 HN2 e
          go_wp2
          exact ⟨HP.out, by simp [intOf]; omega⟩
    · have hk26 : k = 26 := by omega
      subst hk26
      obtain ⟨t2, fr2, hh0⟩ := HO.out.below hb hlt1
      have hh : wr.heap[3]? = some (.cells othA t2 fr2) := hh0
      clear hh0 HO c0 c1 c2 f0
      go_wp2_with (refine wpList_load_row rfl 157 (.global 3) rfl 3 rfl t2 othA fr2 _ hh Tryz.underlying157 rfl (by kernel_rfl) ?_)
      clear hh
      go_loopw [27] (fun i wr => PRel 5 w (fun t => at0 t 0 == r) 1 52 i wr) (fun i _ => 5 - (intOf i).toNat)
      case atStart => exact ⟨0, Nat.zero_le _, rfl, HN.out, hb, hres⟩
      case round =>
        clear hb hres hn0 HN
        obtain ⟨k, hk, rfl, HN0, hb, hres⟩ := hrel
        have HN : Hid (NoneI (fun t => at0 t 0 == r) (52 + 1 * k)) := HN0
        clear HN0
        obtain ⟨hn0, c0, c1, c2, f0⟩ := hres.facts
        by_cases hlt : k < 5
        · have hi := fun w => oth_index k hlt w
          have HT := tabI_oth k (by simpa using hlt)
          generalize at0 (othT.getD k []) 0 = a at *
          generalize at0 (othT.getD k []) 1 = b at *
          generalize at0 (othT.getD k []) 2 = c at *
          have hk8 : (k : Int) < 5 := by omega
          by_cases e : a = r
          · subst e
            have HF : Hid (tabI.find? (fun t => at0 t 0 == a) = some [a, b, c]) := findI_at HN.out (by rw [Nat.one_mul]; exact HT) (by simp [at0])
            clear HN HT hres
            go_wp2
            (try simp only [Exit.inBlock, Exit.then])
            refine bodyPost_ret (v := .tuple #[.agg #[.int .i64 a, .int .i64 b, .int .i64 c], .bool true]) ?_ rfl ⟨ret_p HF.out, (below_res hb _ _ _).alloc (below_res hb _ _ _).size _⟩
            rw [results_cell_tmp rfl]
            go_simp
          · have e2 : (a == r) = false := by simpa using e
            have HN1 := HN.out.succ (t := [a, b, c]) (by rw [Nat.one_mul]; exact HT) (by simpa [at0] using e)
            have HP : Hid (PRel 5 w (fun t => at0 t 0 == r) 1 52 (.int .i64 ((k : Int) + 1)) (wr.alloc (.cells #[.int .i64 a, .int .i64 b, .int .i64 c] 152))) :=
              ⟨k + 1, by omega, by go_num, by rw [show 52 + 1 * (k + 1) = 52 + 1 * k + 1 by omega]; exact HN1, hb.alloc hb.size _, hres.alloc _⟩
            clear HN HT e HN1 hres
            go_wp2
            exact ⟨HP.out, by simp [intOf]; omega⟩
        · have HF : Hid (tabI.find? (fun t => at0 t 0 == r) = none) := findI_no HN.out (by omega)
          clear HN hres
          go_wp2
          (try simp only [Exit.inBlock, Exit.then])
          refine bodyPost_ret (v := .tuple #[.agg #[.int .i64 0, .int .i64 0, .int .i64 0], .bool false]) ?_ rfl ⟨ret_p0 HF.out, ?_⟩
          · rw [results_cell_tmp rfl]
            go_simp
          · first | exact below_res hb _ _ _ | exact hb
end Go.Proofs.YtanfebccenfffaaGreatDoor

namespace Go.Proofs.YtanfebccenfffaaGreatDoor
open Go.RowKit

theorem lit_ints2 (w : World) (o : Obj) (zs : List Int) (n B : Nat) (hn : zs.length = n) (hz : n ≤ maxLen) (cs : Array Value) (hcs : cs = (zs.map (Value.int .i64)).toArray) (hB : B ≤ w.heap.size) : Ints ((w.alloc o).alloc (.cells cs 3)) B (.slice (some ⟨w.heap.size + 1, 0, none⟩) n n) zs := by
  subst hn
  exact ints_block zs hcs (heap_alloc2_new w o _) (by omega) hz

set_option maxRecDepth 100000 in
set_option maxHeartbeats 2000000 in
theorem sylApart_any (w : World) (r : Int) (h1 : 44032 ≤ r) (h2 : r ≤ 55203) :
    Calls Tryz.prog 117 #[.int .i64 (r - 44032)] w fun e w' => ∃ v, e = .returned v ∧ Ints w' w.heap.size v (apart r) ∧ Below w.heap.size w w' := by
  have ha := syl_apart h1 h2
  obtain ⟨s, hs⟩ : ∃ s, r - 44032 = s := ⟨_, rfl⟩
  have h0 : 0 ≤ s := by omega
  have h3 : s ≤ 11171 := by omega
  rw [hs] at ha ⊢
  by_cases c : 0 < s % 28
  · have HA : Hid (apart r = [4352 + s / 588, 4449 + s % 588 / 28, 4519 + s % 28]) := by show _ = _; rw [ha, if_pos c]; rfl
    have c2 : (s % 28 == 0) = false := by simp; omega
    clear ha hs
    go_enter Tryz.func117, Tryz.ntmps117
    go_wp2
    go_ret
    rw [HA.out]
    exact ⟨_, rfl, lit_ints w _ 3 rfl (by unfold maxLen; omega) _ rfl, (Below.refl _ _).alloc (Nat.le_refl _) _⟩
  · have HA : Hid (apart r = [4352 + s / 588, 4449 + s % 588 / 28]) := by show _ = _; rw [ha, if_neg c]; rfl
    have c2 : (s % 28 == 0) = true := by simp; omega
    clear ha hs
    go_enter Tryz.func117, Tryz.ntmps117
    go_wp2
    go_ret
    rw [HA.out]
    exact ⟨_, rfl, lit_ints w _ 2 rfl (by unfold maxLen; omega) _ rfl, (Below.refl _ _).alloc (Nat.le_refl _) _⟩

/-- What the program's ApartOf answers: nothing of what is no rune. -/
def apartG (r : Int) : List Int := if goodB r = true then apart r else []

set_option maxRecDepth 100000 in
set_option maxHeartbeats 2000000 in
theorem implApart_any (r : Int) (w : World) (hc : Held w 2 capF) (ho : Held w 3 othF) :
    Calls Tryz.prog 109 #[.int .i64 r] w fun e w' => ∃ v, e = .returned v ∧ Ints w' w.heap.size v (apartG r) ∧ Below w.heap.size w w' := by
  unfold apartG
  cases hg : goodB r
  · have P := fun w => implGood_no r hg w
    rw [if_neg (by simp)]
    clear hg
    go_enter Tryz.func109, Tryz.ntmps109
    go_wp2_with (go_at_call 108; refine (P _).mono ?_; rintro e w1 ⟨rfl, rfl⟩)
    go_ret
    exact ⟨_, rfl, ⟨rfl, .inl ⟨rfl, rfl⟩⟩, Below.refl _ _⟩
  · have P := fun w => implGood_yes r hg w
    rw [if_pos rfl]
    have hgr := goodB_true hg
    clear hg
    by_cases e1 : r = 8491
    · subst e1
      have ha : apart 8491 = [197] := by decide
      rw [ha]
      go_enter Tryz.func109, Tryz.ntmps109
      go_wp2_with (go_at_call 108; refine (P _).mono ?_; rintro e w1 ⟨rfl, rfl⟩)
      go_ret
      exact ⟨_, rfl, lit_ints _ [197] 1 rfl (by unfold maxLen; omega) _ rfl, (Below.refl _ _).alloc (Nat.le_refl _) _⟩
    · have e1' : (r == 8491) = false := by simpa using e1
      by_cases e2 : 44032 ≤ r ∧ r ≤ 55203
      · obtain ⟨s1, s2⟩ := e2
        have SA := fun w => sylApart_any w r s1 s2
        clear hc ho hgr e1
        go_enter Tryz.func109, Tryz.ntmps109
        go_wp2_with fail
        refine (P _).mono ?_
        rintro e w1 ⟨rfl, rfl⟩
        go_wp2_with fail
        refine (SA _).mono ?_
        rintro e w2 ⟨v, rfl, hI, hb⟩
        go_wp2
        go_ret
        exact ⟨_, rfl, hI, hb⟩
      · have PR := fun w hc ho => implPair_any r w hc ho
        have HA : Hid (apart r = match tabI.find? (fun t => at0 t 0 == r) with | some t => [at0 t 1, at0 t 2] | none => [r]) := by
          show _ = _
          rw [tabI_whole]; unfold apart; rw [if_neg e1, if_neg e2]; rfl
        have e3 : (decide (44032 ≤ r) && decide (r ≤ 55203)) = false := by
          cases h : (decide (44032 ≤ r) && decide (r ≤ 55203)) with
          | false => rfl
          | true => simp at h; exact absurd h e2
        generalize tabI.find? (fun t => at0 t 0 == r) = o at *
        have fin : ∀ {w1 : World}, Held w1 2 capF → Held w1 3 othF → Hid (Calls Tryz.prog 118 #[.int .i64 r] w1 fun e w' => e = .returned (pairRes o) ∧ Below w1.heap.size w1 w') := fun a b => PR _ a b
        clear PR e1 hgr
        by_cases q : 44032 ≤ r
        · have q2 : ¬ r ≤ 55203 := fun h => e2 ⟨q, h⟩
          clear e2 e3
          go_enter Tryz.func109, Tryz.ntmps109
          go_wp2_with fail
          refine (P _).mono ?_
          rintro e w1 ⟨rfl, rfl⟩
          go_wp2_with fail
          refine ((fin hc ho).out).mono ?_
          rintro e w2 ⟨rfl, hb⟩
          cases o with
          | none =>
            simp only [pairRes, pv, Option.getD, Option.isSome]
            go_wp2
            go_ret
            rw [HA.out]
            exact ⟨_, rfl, lit_ints2 _ _ [r] 1 _ rfl (by unfold maxLen; omega) _ rfl hb.size, ((hb.alloc hb.size _).alloc (hb.alloc hb.size _).size _)⟩
          | some t =>
            simp only [pairRes, pv, Option.getD, Option.isSome]
            go_wp2
            go_ret
            rw [HA.out]
            exact ⟨_, rfl, lit_ints2 _ _ [at0 t 1, at0 t 2] 2 _ rfl (by unfold maxLen; omega) _ rfl hb.size, ((hb.alloc hb.size _).alloc (hb.alloc hb.size _).size _)⟩
        · clear e2 e3
          go_enter Tryz.func109, Tryz.ntmps109
          go_wp2_with fail
          refine (P _).mono ?_
          rintro e w1 ⟨rfl, rfl⟩
          go_wp2_with fail
          refine ((fin hc ho).out).mono ?_
          rintro e w2 ⟨rfl, hb⟩
          cases o with
          | none =>
            simp only [pairRes, pv, Option.getD, Option.isSome]
            go_wp2
            go_ret
            rw [HA.out]
            exact ⟨_, rfl, lit_ints2 _ _ [r] 1 _ rfl (by unfold maxLen; omega) _ rfl hb.size, ((hb.alloc hb.size _).alloc (hb.alloc hb.size _).size _)⟩
          | some t =>
            simp only [pairRes, pv, Option.getD, Option.isSome]
            go_wp2
            go_ret
            rw [HA.out]
            exact ⟨_, rfl, lit_ints2 _ _ [at0 t 1, at0 t 2] 2 _ rfl (by unfold maxLen; omega) _ rfl hb.size, ((hb.alloc hb.size _).alloc (hb.alloc hb.size _).size _)⟩
end Go.Proofs.YtanfebccenfffaaGreatDoor

namespace Go.Proofs.YtanfebccenfffaaGreatDoor
open Go.RowKit

def marksA : Array Value := (marksF.map (Value.int .i64)).toArray

theorem marks_index (k : Nat) (hk : k < 15) (w : World) : (Instr.index 145 (.agg marksA) (.int .i64 k)).run Tryz.prog w = .ok (.agg #[.int .i64 (at0 (marksT.getD k []) 0), .int .i64 (at0 (marksT.getD k []) 1)]) w := by
  iterate 15 (rcases k with _ | k; · kernel_rfl)
  omega

theorem marks_hit : ∀ t ∈ marksT, cls (at0 t 0) = at0 t 1 := by decide
theorem marks_none {r : Int} (h : ∀ t ∈ marksT, at0 t 0 ≠ r) : cls r = 0 := by
  simp [marksT, at0] at h
  unfold cls
  repeat' split
  all_goals omega

def NoMark (r : Int) (k : Nat) : Prop := ∀ j, j < k → at0 (marksT.getD j []) 0 ≠ r

set_option maxRecDepth 100000 in
set_option maxHeartbeats 2000000 in
theorem implClass_any (r : Int) (w : World) (hm : Held w 0 marksF) : Calls Tryz.prog 103 #[.int .i64 r] w fun e w' => e = .returned (.int .i64 (cls r)) ∧ Below w.heap.size w w' := by
  obtain ⟨t, fr, hh0⟩ := hm
  have hh : w.heap[0]? = some (.cells marksA t fr) := hh0
  clear hh0
  go_enter Tryz.func103, Tryz.ntmps103
  go_wp2_with (refine wpList_load_row rfl 145 (.global 0) rfl 0 rfl t marksA fr _ hh Tryz.underlying145 rfl (by kernel_rfl) ?_)
  clear hh
  go_loopw [6] (fun i wr => ∃ k : Nat, k ≤ 15 ∧ i = .int .i64 k ∧ Hid (NoMark r k) ∧ Below w.heap.size w wr) (fun i _ => 15 - (intOf i).toNat)
  case atStart => exact ⟨0, Nat.zero_le _, rfl, fun j hj => by omega, Below.refl _ _⟩
  case round =>
    obtain ⟨k, hk, rfl, HN, hb⟩ := hrel
    by_cases hlt : k < 15
    · have hi := fun w => marks_index k hlt w
      have ht : marksT.getD k [] ∈ marksT := by
        rw [List.getD_eq_getElem?_getD, List.getElem?_eq_getElem (show k < marksT.length from hlt)]; exact List.getElem_mem _
      have HH : Hid (cls (at0 (marksT.getD k []) 0) = at0 (marksT.getD k []) 1) := marks_hit _ ht
      have HK : Hid (at0 (marksT.getD k []) 0 ≠ r → NoMark r (k + 1)) := fun h j hj => by
        by_cases e : j = k
        · subst e; exact h
        · exact HN.out j (by omega)
      clear HN ht
      generalize at0 (marksT.getD k []) 0 = a at *
      generalize at0 (marksT.getD k []) 1 = b at *
      have hk8 : (k : Int) < 15 := by omega
      by_cases e : a = r
      · subst e
        go_wp2
        go_ret
        exact ⟨ret_i HH.out.symm, hb.alloc hb.size _⟩
      · have e2 : (a == r) = false := by simpa using e
        have HN2 : Hid (NoMark r (k + 1)) := HK.out e
        clear e HK
        go_wp2
        exact ⟨⟨k + 1, by omega, by go_num, HN2, hb.alloc hb.size _⟩, by simp [intOf]; omega⟩
    · have HC : Hid (cls r = 0) := marks_none fun t ht => by
        obtain ⟨j, hj⟩ := List.mem_iff_getElem?.1 ht
        have h1 := (List.getElem?_eq_some_iff.1 hj).1
        have h2 : marksT.length = 15 := rfl
        have := HN.out j (by omega)
        rw [List.getD_eq_getElem?_getD, hj] at this
        exact this
      clear HN
      go_wp2
      go_ret
      exact ⟨ret_i HC.out.symm, hb⟩
end Go.Proofs.YtanfebccenfffaaGreatDoor

namespace Go.Proofs.YtanfebccenfffaaGreatDoor
open Go.RowKit

/-- A row of integers of the call's own, its block and its capacity told. -/
def Own (w : World) (B g cap n : Nat) (l : List Int) : Prop := w.ownsRow B 3 1 (.slice (some ⟨g, 0, none⟩) n cap) n (l.map (Value.int .i64))

theorem Own.len {w : World} {B g cap n : Nat} {l : List Int} (h : Own w B g cap n l) : l.length = n := by simpa using h.1

theorem Own.cell {w : World} {B g cap n : Nat} {l : List Int} (h : Own w B g cap n l) (j : Nat) (hj : j < n) : w.cell? ⟨g, j, none⟩ = some (.int .i64 (at0 l j)) := by
  have h1 := World.ownsRow.cellAt h j (by omega)
  rw [h1]
  have := h.len
  simp [at0, show j < l.length by omega]

theorem below_grownBy {w w' : World} (hb : Below w.heap.size w w') (row : Option Nat) : w.grownBy w' row := ⟨hb.os, hb.tape, hb.output, hb.size, fun k hk _ => hb.block k hk⟩

theorem grown_refl (w : World) (row : Option Nat) : w.grownBy w row := ⟨rfl, rfl, rfl, Nat.le_refl _, fun _ _ _ => rfl⟩

theorem Own.below {w w' : World} {B g cap n : Nat} {l : List Int} (h : Own w B g cap n l) (hb : Below w.heap.size w w') : Own w' B g cap n l :=
  World.ownsRow.kept h (row := none) (below_grownBy hb none) (by cases hx : (Value.slice (some ⟨g, 0, none⟩) n cap).ownBlock <;> simp)

theorem held_grown {w w' : World} {g h : Nat} {zs : List Int} (hh : Held w h zs) (hg : w.grownBy w' (some g)) (hne : h ≠ g) : Held w' h zs := by
  obtain ⟨t, fr, e⟩ := hh
  refine ⟨t, fr, ?_⟩
  rw [hg.block h ((Array.getElem?_eq_some_iff.1 e).1) (fun e => hne (Option.some.inj e))]
  exact e

/-- What stands in every world of a round's test. -/
def SH (w : World) (B g cap n : Nat) (l : List Int) (w' : World) : Prop := Own w' B g cap n l ∧ w.grownBy w' (some g) ∧ Held w' 0 marksF

theorem SH.below {w w1 w2 : World} {B g cap n : Nat} {l : List Int} (hb : Below w1.heap.size w1 w2) (h : SH w B g cap n l w1) : SH w B g cap n l w2 :=
  ⟨h.1.below hb, h.2.1.trans (below_grownBy hb _), h.2.2.below hb h.2.2.lt⟩
theorem SH.drew {w w1 : World} {B g cap n : Nat} {l : List Int} (h : SH w B g cap n l w1) : SH w B g cap n l w1.drew := h.below ((Below.refl _ _).drew)

theorem SH.cell {w w1 : World} {B g cap n : Nat} {l : List Int} (h : SH w B g cap n l w1) (j : Nat) (hj : j < n) : w1.cell? ⟨g, j, none⟩ = some (.int .i64 (at0 l j)) := h.1.cell j hj

theorem keepS {w w1 w2 : World} {B g cap n i j : Nat} {l : List Int} (hi : i < n) (hj : j < n) (hb : Below w1.heap.size w1 w2) (h : w1.cell? ⟨g, i, none⟩ = some (.int .i64 (at0 l i)) ∧ w1.cell? ⟨g, j, none⟩ = some (.int .i64 (at0 l j)) ∧ SH w B g cap n l w1) :
    w2.cell? ⟨g, i, none⟩ = some (.int .i64 (at0 l i)) ∧ w2.cell? ⟨g, j, none⟩ = some (.int .i64 (at0 l j)) ∧ SH w B g cap n l w2 :=
  ⟨(h.2.2.below hb).cell i hi, (h.2.2.below hb).cell j hj, h.2.2.below hb⟩

theorem sh_swap {w w1 : World} {B g cap n : Nat} {l : List Int} (hB : 0 < B) (h : SH w B g cap n l w1) (i j : Nat) :
    SH w B g cap n ((l.set i (at0 l j)).set j (at0 l i)) ((w1.setCell ⟨g, i, none⟩ (.int .i64 (at0 l j))).setCell ⟨g, j, none⟩ (.int .i64 (at0 l i))) := by
  have h1 := World.ownsRow.stored h.1 i (.int .i64 (at0 l j))
  have h2 := World.ownsRow.stored h1.1 j (.int .i64 (at0 l i))
  have e3 : ((l.map (Value.int .i64)).set i (.int .i64 (at0 l j))).set j (.int .i64 (at0 l i)) = ((l.set i (at0 l j)).set j (at0 l i)).map (Value.int .i64) := by simp [List.map_set]
  have h3 := h2.1
  rw [e3] at h3
  have hg := h1.2.trans h2.2
  have hne : 0 ≠ g := fun e => by
    have := (World.ownsRow.lt h.1 g rfl).1
    omega
  exact ⟨h3, h.2.1.trans hg, held_grown h.2.2 hg hne⟩

def SOut (w : World) (B g cap n f m : Nat) (l : List Int) (i : Value) (wr : World) : Prop := ∃ k : Nat, k ≤ m ∧ i = .int .i64 k ∧ SH w B g cap n (srtX f l k) wr
def SIn (w : World) (B g cap n f m : Nat) (goal : List Int) (i : Value) (wr : World) : Prop := ∃ (j : Nat) (l : List Int), j < m ∧ i = .int .i64 j ∧ SH w B g cap n l wr ∧ bubX f l j = goal

set_option maxRecDepth 100000 in
set_option maxHeartbeats 4000000 in
theorem sortBy_any (w : World) (B g cap n f m c : Nat) (l : List Int) (hown : Own w B g cap n l) (hB : 0 < B) (hf : f + m ≤ n) (hn : n ≤ 1048576) (hm : Held w 0 marksF) :
    Calls Tryz.prog 110 #[.slice (some ⟨g, f, none⟩) m c, .func (.func 103) #[] #[]] w fun e w' => e = .returned (.tuple #[]) ∧ SH w B g cap n (srtX f l m) w' := by
  go_enter Tryz.func110, Tryz.ntmps110
  go_wp2
  go_loopw [8] (fun i wr => SOut w B g cap n f m l i wr) (fun i _ => m - (intOf i).toNat)
  case atStart => exact ⟨0, Nat.zero_le _, rfl, hown, grown_refl _ _, hm⟩
  case round =>
    clear hown hm
    obtain ⟨k, hk, rfl, hsh⟩ := hrel
    by_cases hlt : k < m
    · go_wp2_with fail
      go_loopw [5] (fun i wr => SIn w B g cap n f m (srtX f l (k + 1)) i wr) (fun i _ => (intOf i).toNat)
      case atStart => exact ⟨k, srtX f l k, hlt, rfl, hsh, rfl⟩
      case round =>
        clear hsh
        obtain ⟨j, l1, hj, rfl, hsh, hgoal⟩ := hrel
        have HG : Hid _ := hgoal
        clear hgoal
        cases j with
        | zero =>
          go_wp2
          go_quiet (fail)
          go_wp2
          have he : l1 = srtX f l (k + 1) := HG.out
          subst he
          exact ⟨⟨k + 1, by omega, by go_num, hsh.below (below_drewN (Below.refl _ _) _)⟩, by simp [intOf]; omega⟩
        | succ p =>
          have hp1 : f + p < n := by omega
          have hp2 : f + (p + 1) < n := by omega
          have hq3 : p < m := by omega
          have hw1 : IntKind.i64.wrap ((p : Int) + 1 - 1) = (p : Int) := by rw [IntKind.wrap_i64]; omega
          have hw2 : IntKind.i64.wrap (((p + 1 : Nat) : Int) - 1) = (p : Int) := by rw [IntKind.wrap_i64]; omega
          have hw3 : IntKind.i64.wrap (p : Int) = (p : Int) := by rw [IntKind.wrap_i64]; omega
          have hq1 : (p : Int) < (m : Int) := by omega
          have hq2 : (p : Int) + 1 < (m : Int) := by omega
          have hS : wr.cell? ⟨g, f + p, none⟩ = some (.int .i64 (at0 l1 (f + p))) ∧ wr.cell? ⟨g, f + (p + 1), none⟩ = some (.int .i64 (at0 l1 (f + (p + 1)))) ∧ SH w B g cap n l1 wr := ⟨hsh.cell _ hp1, hsh.cell _ hp2, hsh⟩
          have hS2 := keepS hp1 hp2 ((Below.refl wr.heap.size wr).drew) hS
          go_wp2_with fail
          go_region_held (fun w' => w'.cell? ⟨g, f + p, none⟩ = some (.int .i64 (at0 l1 (f + p))) ∧ w'.cell? ⟨g, f + (p + 1), none⟩ = some (.int .i64 (at0 l1 (f + (p + 1)))) ∧ SH w B g cap n l1 w')
            (first | exact hS2 | exact keepS hp1 hp2 (by assumption) (by assumption) | exact keepS hp1 hp2 (by assumption) ⟨by assumption, by assumption, by assumption⟩)
            (first | (go_at_call 103; refine (implClass_any _ _ ?_).mono ?_; (first | exact (show SH w B g cap n l1 _ by assumption).2.2 | exact (show _ ∧ _ ∧ SH w B g cap n l1 _ by assumption).2.2.2.2); rintro e w' ⟨rfl, hbw⟩))
          all_goals
            have hE : SH w B g cap n l1 w' := (show w'.cell? ⟨g, f + p, none⟩ = _ ∧ _ ∧ SH w B g cap n l1 w' by assumption).2.2
            clear hS hS2 hsh
            by_cases cc : cls (at0 l1 (f + (p + 1))) < cls (at0 l1 (f + p))
            · have HG2 : Hid (bubX f ((l1.set (f + p) (at0 l1 (f + (p + 1)))).set (f + (p + 1)) (at0 l1 (f + p))) p = srtX f l (k + 1)) := (bubX_go f l1 p cc).symm.trans HG.out
              have HW := sh_swap hB hE (f + p) (f + (p + 1))
              have e1 := hE.cell _ hp1
              have e2 := hE.cell _ hp2
              have f1 := World.ownsRow.frozenAt hE.1 (f + p)
              have f2 := World.ownsRow.frozenAt hE.1 (f + (p + 1))
              clear HG hE
              go_wp2_with fail
              go_region
              all_goals go_wp2
              all_goals exact ⟨⟨p, _, by omega, rfl, SH.drew HW, HG2.out⟩, by simp [intOf]⟩
            · have he : l1 = srtX f l (k + 1) := (bubX_stop f l1 p cc).symm.trans HG.out
              clear HG
              go_wp2
              subst he
              exact ⟨⟨k + 1, by omega, by go_num, hE⟩, by simp [intOf]; omega⟩
    · have hkm : k = m := by omega
      subst hkm
      go_wp2
      go_end0
      exact ⟨rfl, hsh⟩

theorem SH.from {w w1 w2 : World} {B g cap n : Nat} {l l' : List Int} (h : SH w B g cap n l w1) (k : SH w1 B g cap n l' w2) : SH w B g cap n l' w2 := ⟨k.1, h.2.1.trans k.2.1, k.2.2⟩

set_option maxRecDepth 100000 in
set_option maxHeartbeats 1000000 in
theorem sortBy_none (w : World) (a : Option Addr) (c : Nat) : Calls Tryz.prog 110 #[.slice a 0 c, .func (.func 103) #[] #[]] w fun e w' => e = .returned (.tuple #[]) ∧ w' = w := by
  go_enter Tryz.func110, Tryz.ntmps110
  go_wp2
  go_loop [8] (fun i => i = .int .i64 0) (fun _ => 0)
  case atStart => rfl
  case round =>
    subst hrel
    go_wp2
    go_end0
    exact ⟨rfl, rfl⟩

set_option maxRecDepth 100000 in
set_option maxHeartbeats 1000000 in
theorem sortRuns_nil (w : World) : Calls Tryz.prog 101 #[.slice none 0 0] w fun e w' => e = .returned (.tuple #[]) ∧ w' = w := by
  have SB := fun w a c => sortBy_none w a c
  go_enter Tryz.func101, Tryz.ntmps101
  go_wp2
  go_loop [2, 7] (fun f i => f = .int .i64 0 ∧ i = .int .i64 0) (fun _ _ => 0)
  case atStart => exact ⟨rfl, rfl⟩
  case round =>
    obtain ⟨rfl, rfl⟩ := hrel
    go_wp2_with (go_at_call 110; refine (SB _ _ _).mono ?_; rintro e w1 ⟨rfl, rfl⟩)
    go_end0
    exact ⟨rfl, rfl⟩
end Go.Proofs.YtanfebccenfffaaGreatDoor

namespace Go.Proofs.YtanfebccenfffaaGreatDoor
open Go.RowKit

def RRel (w : World) (B g cap n : Nat) (zs : List Int) (fv i : Value) (wr : World) : Prop :=
  ∃ f a : Nat, f ≤ a ∧ a ≤ n ∧ fv = .int .i64 f ∧ i = .int .i64 a ∧ SH w B g cap n (srt zs f) wr ∧ (∀ j, f ≤ j → j < a → 0 < cls (at0 zs j)) ∧ (f = 0 ∨ cls (at0 (srt zs f) (f - 1)) = 0)

set_option maxRecDepth 100000 in
set_option maxHeartbeats 4000000 in
theorem sortRuns_any (w : World) (B g cap n : Nat) (zs : List Int) (hown : Own w B g cap n zs) (hB : 0 < B) (hn : n ≤ 1048576) (hm : Held w 0 marksF) :
    Calls Tryz.prog 101 #[.slice (some ⟨g, 0, none⟩) n cap] w fun e w' => e = .returned (.tuple #[]) ∧ SH w B g cap n (sortM zs) w' := by
  have hlen : zs.length = n := hown.len
  have hcap : n ≤ cap ∧ cap ≤ maxLen := by
    rcases hown.2 with ⟨h, _⟩ | ⟨g', cap', cur, h, _, _, h2, h3, _⟩
    · cases h
    · injection h with _ _ h4; subst h4; exact ⟨h2, h3⟩
  obtain ⟨hc1, hc2⟩ := hcap
  unfold maxLen at hc2
  go_enter Tryz.func101, Tryz.ntmps101
  go_wp2
  go_loopw [2, 7] (fun fv i wr => RRel w B g cap n zs fv i wr) (fun _ i _ => n - (intOf i).toNat)
  case atStart => exact ⟨0, 0, Nat.le_refl _, Nat.zero_le _, rfl, rfl, ⟨hown, grown_refl _ _, hm⟩, fun j _ hj => by omega, .inl rfl⟩
  case round =>
    clear hown hm
    obtain ⟨f, a, hfa, han, rfl, rfl, hsh, HM0, HP0⟩ := hrel
    have HM : Hid _ := HM0
    have HP : Hid (f = 0 ∨ cls (at0 (srt zs f) (f - 1)) = 0) := HP0
    clear HM0 HP0
    by_cases hlt : a < n
    · have c0 := hsh.cell a hlt
      rw [srt_above zs f a hfa] at c0
      have CC := implClass_any (at0 zs a) wr hsh.2.2
      generalize hx : at0 zs a = x at *
      have ha8 : (a : Int) < (n : Int) := by omega
      go_wp2_with fail
      refine CC.mono ?_
      rintro e w1 ⟨rfl, hb1⟩
      have hs1 := hsh.below hb1
      clear CC c0
      by_cases e : cls x = 0
      · have e' : (cls x == 0) = true := by simpa using e
        have SB := sortBy_any w1 B g cap n f (a - f) (cap - f) (srt zs f) hs1.1 hB (by omega) hn hs1.2.2
        have hf8 : (f : Int) ≤ (a : Int) := by omega
        have ha9 : (a : Int) ≤ (cap : Int) := by omega
        have HS := srtX_srt (f := f) (a - f) zs (by omega) HP.out (fun j h1 h2 => HM.out j h1 (by omega))
        rw [show f + (a - f) = a by omega] at HS
        have HN : Hid (srtX f (srt zs f) (a - f) = srt zs (a + 1)) := by
          show _ = _
          rw [HS.1, srt_starter zs a (by rw [hx]; exact e)]
        have HQ : Hid (a + 1 = 0 ∨ cls (at0 (srt zs (a + 1)) (a + 1 - 1)) = 0) := by
          refine .inr ?_
          rw [srt_starter zs a (by rw [hx]; exact e), Nat.add_sub_cancel, srt_above zs a a (Nat.le_refl _), hx]; exact e
        clear hsh HS HM HP e hx
        go_wp2_with fail
        refine SB.mono ?_
        rintro e w2 ⟨rfl, hs2⟩
        rw [HN.out] at hs2
        have hs3 := hs1.from hs2
        clear SB HN hs1 hs2 hb1
        go_wp2
        exact ⟨⟨a + 1, a + 1, Nat.le_refl _, by omega, by go_num, by go_num, hs3, fun j h1 h2 => by omega, HQ.out⟩, by simp [intOf]; omega⟩
      · have e' : (cls x == 0) = false := by simpa using e
        have HM2 : Hid (∀ j, f ≤ j → j < a + 1 → 0 < cls (at0 zs j)) := fun j h1 h2 => by
          by_cases ej : j = a
          · subst ej; rw [hx]; have := (cls_range x).1; omega
          · exact HM.out j h1 (by omega)
        clear hsh HM e hx hb1
        go_wp2
        exact ⟨⟨f, a + 1, by omega, by omega, by go_num, by go_num, hs1, HM2.out, HP.out⟩, by simp [intOf]; omega⟩
    · have han2 : a = n := by omega
      subst han2
      have SB := sortBy_any wr B g cap a f (a - f) (cap - f) (srt zs f) hsh.1 hB (by omega) hn hsh.2.2
      have HS := srtX_srt (f := f) (a - f) zs (by omega) HP.out (fun j h1 h2 => HM.out j h1 (by omega))
      rw [show f + (a - f) = a by omega] at HS
      have HN : Hid (srtX f (srt zs f) (a - f) = sortM zs) := by
        show _ = _
        rw [HS.1, sortM, hlen]
      have hf8 : (f : Int) ≤ (a : Int) := by omega
      by_cases hcf : cap = f
      · have haf : a = f := by omega
        have HE : Hid (srt zs f = sortM zs) := by
          show _ = _
          rw [sortM, hlen, haf]
        clear HS HM HP SB HN
        subst haf
        subst hcf
        have SB0 := sortBy_none wr (some ⟨g, 0, none⟩) 0
        go_wp2_with fail
        refine SB0.mono ?_
        rintro e w2 ⟨rfl, rfl⟩
        rw [HE.out] at hsh
        clear SB0 HE
        go_wp2
        go_end0
        exact ⟨rfl, hsh⟩
      · clear HS HM HP
        go_wp2_with fail
        refine SB.mono ?_
        rintro e w2 ⟨rfl, hs2⟩
        rw [HN.out] at hs2
        have hs3 := hsh.from hs2
        clear SB HN hsh hs2
        go_wp2
        go_end0
        exact ⟨rfl, hs3⟩
end Go.Proofs.YtanfebccenfffaaGreatDoor

namespace Go.Proofs.YtanfebccenfffaaGreatDoor
open Go.RowKit

theorem okR_long {zs : List Int} (h : 200 < zs.length) : okR zs = false := decide_eq_false fun c => by omega
theorem okR_bad {zs : List Int} {x : Int} (hx : x ∈ zs) (h : goodB x = false) : okR zs = false := decide_eq_false fun c => by
  have := c.2 x hx
  rw [h] at this; cases this

set_option maxRecDepth 100000 in
set_option maxHeartbeats 1000000 in
theorem goods_none (w : World) (a : Option Addr) (c : Nat) : Calls Tryz.prog 99 #[.slice a 0 c] w fun e w' => e = .returned (.bool true) ∧ w' = w := by
  go_enter Tryz.func99, Tryz.ntmps99
  go_wp2
  go_loop [10] (fun i => i = .int .i64 0) (fun _ => 0)
  case atStart => rfl
  case round =>
    subst hrel
    go_wp2
    go_ret
    exact ⟨rfl, rfl⟩

set_option maxRecDepth 100000 in
set_option maxHeartbeats 1000000 in
theorem goods_long (w : World) (a : Option Addr) (n c : Nat) (h : 200 < n) : Calls Tryz.prog 99 #[.slice a n c] w fun e w' => e = .returned (.bool false) ∧ w' = w := by
  have h2 : (200 : Int) < (n : Int) := by omega
  go_enter Tryz.func99, Tryz.ntmps99
  go_wp2
  go_ret
  exact ⟨rfl, rfl⟩

set_option maxRecDepth 100000 in
set_option maxHeartbeats 1000000 in
theorem goods_row (w : World) (g cap : Nat) (zs : List Int) (hz : zs.length ≤ 200)
    (hc : ∀ j, j < zs.length → w.cell? ⟨g, j, none⟩ = some (.int .i64 (zs[j]?.getD 0))) :
    Calls Tryz.prog 99 #[.slice (some ⟨g, 0, none⟩) zs.length cap] w fun e w' => e = .returned (.bool (okR zs)) ∧ w' = w := by
  have hz2 : ¬ (200 : Int) < (zs.length : Int) := by omega
  go_enter Tryz.func99, Tryz.ntmps99
  go_wp2
  go_loop [10] (fun i => ∃ k : Nat, k ≤ zs.length ∧ i = .int .i64 k ∧ Hid (UpTo zs k)) (fun i => zs.length - (intOf i).toNat)
  case atStart => exact ⟨0, Nat.zero_le _, rfl, fun j x hj => by omega⟩
  case round =>
    obtain ⟨k, hk, rfl, HG⟩ := hrel
    by_cases hlt : k < zs.length
    · obtain ⟨x, hx⟩ : ∃ x, zs[k]? = some x := ⟨_, List.getElem?_eq_getElem hlt⟩
      have c0 := hc k hlt
      rw [hx] at c0
      have c1 : w.cell? ⟨g, k, none⟩ = some (.int .i64 x) := c0
      cases hgx : goodB x
      · have P := fun w => implGood_no x hgx w
        have HN : Hid (false = okR zs) := (okR_bad (List.mem_of_getElem? hx) hgx).symm
        clear hc c0 hx hgx
        go_wp2_with (go_at_call 108; refine (P _).mono ?_; rintro e w1 ⟨rfl, rfl⟩)
        go_ret
        exact ⟨ret_b HN.out, rfl⟩
      · have P := fun w => implGood_yes x hgx w
        have HG2 : Hid (UpTo zs (k + 1)) := HG.out.succ hx hgx
        clear hc c0 hx hgx
        go_wp2_with (go_at_call 108; refine (P _).mono ?_; rintro e w1 ⟨rfl, rfl⟩)
        exact ⟨⟨k + 1, by omega, by go_num, HG2⟩, by simp [intOf]; omega⟩
    · have HA := HG.out.all hlt
      have HY : Hid (true = okR zs) := (decide_eq_true (⟨hz, HA⟩ : zs.length ≤ 200 ∧ ∀ x ∈ zs, goodB x = true)).symm
      clear hc HA
      go_wp2
      go_ret
      exact ⟨ret_b HY.out, rfl⟩

theorem goods_any {w : World} {B : Nat} {v : Value} {zs : List Int} (hI : Ints w B v zs) :
    Calls Tryz.prog 99 #[v] w fun e w' => e = .returned (.bool (okR zs)) ∧ w' = w := by
  rcases hI.form with ⟨rfl, rfl⟩ | ⟨g, cap, rfl, h1, h2⟩
  · have : okR [] = true := decide_eq_true ⟨by simp, by simp⟩
    rw [this]
    exact goods_none w _ _
  · by_cases h : zs.length ≤ 200
    · exact goods_row w g cap zs h (fun j hj => hI.cell j hj)
    · rw [okR_long (by omega)]
      exact goods_long w _ _ _ (by omega)

end Go.Proofs.YtanfebccenfffaaGreatDoor

namespace Go.Proofs.YtanfebccenfffaaGreatDoor
open Go.RowKit

theorem grown_trans2 {w wr w2 : World} {row row2 : Option Nat} (h : w.grownBy wr row) (h2 : wr.grownBy w2 row2) (hr : row2 = row ∨ ∀ g, row2 = some g → w.heap.size ≤ g) : w.grownBy w2 row := by
  refine ⟨h2.os.trans h.os, h2.tape.trans h.tape, h2.output.trans h.output, Nat.le_trans h.size h2.size, fun k hk hne => ?_⟩
  rw [h2.block k (Nat.lt_of_lt_of_le hk h.size) ?_]
  · exact h.block k hk hne
  · rcases hr with rfl | hr
    · exact hne
    · intro e
      have := hr k e.symm
      omega

theorem held_grown2 {w w' : World} {h : Nat} {row : Option Nat} {zs : List Int} (hh : Held w h zs) (hg : w.grownBy w' row) (hne : row ≠ some h) : Held w' h zs := by
  obtain ⟨t, fr, e⟩ := hh
  refine ⟨t, fr, ?_⟩
  rw [hg.block h ((Array.getElem?_eq_some_iff.1 e).1) (fun c => hne c.symm)]
  exact e

/-- The list put behind l: only l's own block may have turned, and what comes back lies there or in a new one. -/
def ApPost (w : World) (B : Nat) (l : Value) (acc : List Int) (v : Value) (w' : World) : Prop := Ints w' B v acc ∧ w.grownBy w' l.ownBlock ∧ (v.ownBlock = l.ownBlock ∨ ∀ g, v.ownBlock = some g → w.heap.size ≤ g)

def Tabs (w : World) : Prop := Held w 2 capF ∧ Held w 3 othF

theorem Tabs.below {w w' : World} (h : Tabs w) (hb : Below w.heap.size w w') : Tabs w' := ⟨h.1.below hb h.1.lt, h.2.below hb h.2.lt⟩

theorem own_ne {w : World} {B h : Nat} {l : Value} {acc : List Int} (hI : Ints w B l acc) (hB : h < B) : l.ownBlock ≠ some h := fun e => by
  have := (World.ownsRow.lt hI h e).1
  omega

set_option maxRecDepth 100000 in
set_option maxHeartbeats 2000000 in
theorem app_leaf (n : Nat) (r : Int) (w : World) (B : Nat) (l : Value) (acc : List Int) (h : apart r = [r]) (hg : goodB r = true) (hI : Ints w B l acc) (ha : acc.length ≤ 4000) (hB : B ≤ w.heap.size) (ht : Tabs w) :
    Calls Tryz.prog 100 #[l, .int .i64 r] w fun e w' => ∃ v, e = .returned v ∧ ApPost w B l (acc ++ full n r) v w' := by
  obtain ⟨i0, hi, hzz, hz1, hz2⟩ := info_parts info_int
  have A := implApart_any r w ht.1 ht.2
  rw [show apartG r = [r] by unfold apartG; rw [if_pos hg, h]] at A
  rw [full_leaf h]
  clear h hg ht
  go_enter Tryz.func100, Tryz.ntmps100
  go_wp2_with fail
  refine A.mono ?_
  rintro e w1 ⟨v, rfl, hIp, hb⟩
  obtain ⟨g, cap, rfl⟩ := ints_some hIp (by simp)
  have c0 := ints_at0 hIp 0 r rfl
  simp only [List.length_cons, List.length_nil] at hIp
  have hI1 := hI.below hb
  have hown0 : w1.ownsRow B 3 1 l acc.length (acc.map (Value.int .i64)) := hI1
  have hsz := hb.size
  clear A
  go_wp2_with (at_builtin; refine wpList_append_lies _ rfl _ _ 32 rfl B 3 i0 (.int .i64 0) 1 8 Tryz.underlying32 hi hzz hz1 hz2 rfl (by decide) _ _ _ rfl (hown0.alloc _) ⟨_, 0, none⟩ 1 1 [.int .i64 r] rfl rfl (cell_one_new _ _ _) (fun x hx => by simp at hx; subst hx; rfl) (by omega) (by unfold maxLen; omega) (by omega) (by simp; omega) (w1.heap.size + 1) (by simp) ?_; intro g' cap' w2 hown hgr hgg hlt')
  go_ret
  refine ⟨_, rfl, Ints.snoc hown, ?_, ?_⟩
  · exact (below_grownBy (hb.alloc hb.size _) _).trans hgr
  · rcases hgg with e | e
    · exact .inl e.symm
    · refine .inr fun k hk => ?_
      have : g' = k := Option.some.inj hk
      omega

def ARel (w : World) (B : Nat) (l : Value) (acc : List Int) (gp cp : Nat) (f : Int → List Int) (ls : List Int) (lv i : Value) (wr : World) : Prop :=
  ∃ k : Nat, k ≤ ls.length ∧ i = .int .i64 k ∧ ApPost w B l (acc ++ (ls.take k).flatMap f) lv wr ∧ Ints wr w.heap.size (.slice (some ⟨gp, 0, none⟩) ls.length cp) ls ∧ lv.ownBlock ≠ some gp ∧ Tabs wr ∧ w.heap.size ≤ wr.heap.size

theorem arel_step {w wr w2 : World} {B k gp cp : Nat} {l lv v : Value} {acc ls : List Int} {f : Int → List Int} {x : Int} (hk : k < ls.length) (hx : ls[k]? = some x) (hB1 : 2 < B) (hB2 : 3 < B)
    (hp : ApPost w B l (acc ++ (ls.take k).flatMap f) lv wr) (hI : Ints wr w.heap.size (.slice (some ⟨gp, 0, none⟩) ls.length cp) ls) (hne : lv.ownBlock ≠ some gp) (ht : Tabs wr) (hsz : w.heap.size ≤ wr.heap.size)
    (h2 : ApPost wr B lv (acc ++ (ls.take k).flatMap f ++ f x) v w2) : ARel w B l acc gp cp f ls v (.int .i64 ((k : Int) + 1)) w2 := by
  obtain ⟨i1, g1, n1⟩ := hp
  obtain ⟨i2, g2, n2⟩ := h2
  have hrow : lv.ownBlock = l.ownBlock ∨ ∀ g, lv.ownBlock = some g → w.heap.size ≤ g := n1
  have hgp : gp < wr.heap.size := (World.ownsRow.lt hI gp rfl).2
  refine ⟨k + 1, hk, by go_num, ⟨?_, grown_trans2 g1 g2 hrow, ?_⟩, World.ownsRow.kept hI g2 (.inr fun e => hne e.symm), ?_, ⟨held_grown2 ht.1 g2 (own_ne i1 hB1), held_grown2 ht.2 g2 (own_ne i1 hB2)⟩, Nat.le_trans hsz g2.size⟩
  · rw [take_flat hx, ← List.append_assoc]; exact i2
  · rcases n2 with e | e
    · rcases n1 with e1 | e1
      · exact .inl (e.trans e1)
      · exact .inr fun g hg => e1 g (e ▸ hg)
    · exact .inr fun g hg => Nat.le_trans hsz (e g hg)
  · rcases n2 with e | e
    · rw [e]; exact hne
    · intro h
      have := e gp h
      omega

set_option maxRecDepth 100000 in
set_option maxHeartbeats 2000000 in
theorem app_n (n : Nat) (hn2 : n ≤ 2) : ∀ (r : Int) (w : World) (B : Nat) (l : Value) (acc : List Int), levB n r = true → goodB r = true → Ints w B l acc → acc.length + 3 ^ n ≤ 4000 → B ≤ w.heap.size → 2 < B → 3 < B → Tabs w →
    Calls Tryz.prog 100 #[l, .int .i64 r] w fun e w' => ∃ v, e = .returned v ∧ ApPost w B l (acc ++ full n r) v w' := by
  induction n with
  | zero => exact fun r w B l acc h hg hI ha hB _ _ ht => app_leaf 0 r w B l acc (levB_zero h) hg hI (Nat.le_trans (Nat.le_add_right _ _) ha) hB ht
  | succ n ih0 =>
    intro r w B l acc hlev hg hI ha hB hB1 hB2 ht
    have ih := ih0 (by omega)
    by_cases hl : apart r = [r]
    · exact app_leaf _ r w B l acc hl hg hI (Nat.le_trans (Nat.le_add_right _ _) ha) hB ht
    · have hlv := (levB_succ hlev).resolve_left hl
      have hgs := apart_good hg
      have A := implApart_any r w ht.1 ht.2
      rw [show apartG r = apart r by unfold apartG; rw [if_pos hg]] at A
      have hal := apart_len r
      have hf := full_go (n := n) hl
      have h3 : 3 ^ (n + 1) = 3 * 3 ^ n := by rw [Nat.pow_succ]; omega
      have HB : Hid (∀ k, k < (apart r).length → (acc ++ ((apart r).take k).flatMap (full n)).length + 3 ^ n ≤ 4000) := fun k hk => by
        have h1 := flatMap_len (full n) (3 ^ n) ((apart r).take k) (full_len n)
        have h2 : ((apart r).take k).length * 3 ^ n ≤ 2 * 3 ^ n := Nat.mul_le_mul_right _ (by simp; omega)
        rw [List.length_append]
        omega
      have IH : Hid (∀ x ∈ apart r, ∀ (w : World) (l : Value) (acc : List Int), Ints w B l acc → acc.length + 3 ^ n ≤ 4000 → B ≤ w.heap.size → Tabs w → Calls Tryz.prog 100 #[l, .int .i64 x] w fun e w' => ∃ v, e = .returned v ∧ ApPost w B l (acc ++ full n x) v w') :=
        fun x hx w l acc h1 h2 h3 h4 => ih x w B l acc (hlv x hx) (hgs x hx) h1 h2 h3 hB1 hB2 h4
      have HF : Hid _ := hf
      clear ih ih0 hlev hlv hgs hg hf h3 ha
      generalize apart r = ls at *
      obtain ⟨hal1, hal2⟩ := hal
      by_cases h1 : ls.length = 1
      · obtain ⟨y, hy⟩ : ∃ y, ls[0]? = some y := ⟨_, List.getElem?_eq_getElem (by omega)⟩
        have hyr : (y == r) = false := by
          simp only [beq_eq_false_iff_ne, ne_eq]
          intro e
          subst e
          apply hl
          match ls, h1, hy with
          | [z], _, hy => simp at hy; rw [hy]
        have h1' : ((ls.length : Int) == 1) = true := by simp; omega
        have h1'' : (0 : Int) < (ls.length : Int) := by omega
        clear hl
        go_enter Tryz.func100, Tryz.ntmps100
        go_wp2_with fail
        refine A.mono ?_
        rintro e w1 ⟨v, rfl, hIp, hb⟩
        obtain ⟨g, cap, rfl⟩ := ints_some hIp (by omega)
        have c0 := ints_at0 hIp 0 y hy
        clear A hy h1
        have hin : ARel w B l acc g cap (full n) ls l (.int .i64 0) w1 := ⟨0, Nat.zero_le _, rfl, ⟨by simpa using hI.below hb, below_grownBy hb _, .inl rfl⟩, hIp, fun e => by
          have h5 := (World.ownsRow.lt hI g e).2
          have h6 := (World.ownsRow.lt hIp g rfl).1
          omega, ht.below hb, hb.size⟩
        go_wp2_with fail
        go_loopw [0, 26] (fun lv i wr => ARel w B l acc g cap (full n) ls lv i wr) (fun _ i _ => ls.length - (intOf i).toNat)
        case atStart => exact hin
        case round =>
          clear hin hIp
          obtain ⟨k, hk, rfl, hp, hIr, hne, htr, hszr⟩ := hrel
          by_cases hlt : k < ls.length
          · obtain ⟨x, hx⟩ : ∃ x, ls[k]? = some x := ⟨_, List.getElem?_eq_getElem hlt⟩
            have c1 := ints_at0 hIr k x hx
            have CA := IH.out x (List.mem_of_getElem? hx) wr _ _ hp.1 (HB.out k hlt) (Nat.le_trans hB hszr) htr
            have HX : Hid _ := hx
            clear hx
            go_wp2_with fail
            refine CA.mono ?_
            rintro e w2 ⟨v2, rfl, h2⟩
            have HA : Hid _ := arel_step hlt HX.out hB1 hB2 hp hIr hne htr hszr h2
            clear CA c1 h2 hp hIr
            go_wp2
            exact ⟨HA.out, by simp [intOf]; omega⟩
          · have hk3 : k = ls.length := by omega
            subst hk3
            rw [List.take_length] at hp
            go_wp2
            go_ret
            rw [HF.out]
            exact ⟨_, rfl, hp⟩
      · have h1' : ((ls.length : Int) == 1) = false := by simp; omega
        clear hl h1
        go_enter Tryz.func100, Tryz.ntmps100
        go_wp2_with fail
        refine A.mono ?_
        rintro e w1 ⟨v, rfl, hIp, hb⟩
        obtain ⟨g, cap, rfl⟩ := ints_some hIp (by omega)
        clear A
        have hin : ARel w B l acc g cap (full n) ls l (.int .i64 0) w1 := ⟨0, Nat.zero_le _, rfl, ⟨by simpa using hI.below hb, below_grownBy hb _, .inl rfl⟩, hIp, fun e => by
          have h5 := (World.ownsRow.lt hI g e).2
          have h6 := (World.ownsRow.lt hIp g rfl).1
          omega, ht.below hb, hb.size⟩
        go_wp2_with fail
        go_loopw [0, 26] (fun lv i wr => ARel w B l acc g cap (full n) ls lv i wr) (fun _ i _ => ls.length - (intOf i).toNat)
        case atStart => exact hin
        case round =>
          clear hin hIp
          obtain ⟨k, hk, rfl, hp, hIr, hne, htr, hszr⟩ := hrel
          by_cases hlt : k < ls.length
          · obtain ⟨x, hx⟩ : ∃ x, ls[k]? = some x := ⟨_, List.getElem?_eq_getElem hlt⟩
            have c1 := ints_at0 hIr k x hx
            have CA := IH.out x (List.mem_of_getElem? hx) wr _ _ hp.1 (HB.out k hlt) (Nat.le_trans hB hszr) htr
            have HX : Hid _ := hx
            clear hx
            go_wp2_with fail
            refine CA.mono ?_
            rintro e w2 ⟨v2, rfl, h2⟩
            have HA : Hid _ := arel_step hlt HX.out hB1 hB2 hp hIr hne htr hszr h2
            clear CA c1 h2 hp hIr
            go_wp2
            exact ⟨HA.out, by simp [intOf]; omega⟩
          · have hk3 : k = ls.length := by omega
            subst hk3
            rw [List.take_length] at hp
            go_wp2
            go_ret
            rw [HF.out]
            exact ⟨_, rfl, hp⟩

theorem app_any (r : Int) (w : World) (B : Nat) (l : Value) (acc : List Int) (hg : goodB r = true) (hI : Ints w B l acc) (ha : acc.length ≤ 3900) (hB : B ≤ w.heap.size) (hB1 : 2 < B) (hB2 : 3 < B) (ht : Tabs w) :
    Calls Tryz.prog 100 #[l, .int .i64 r] w fun e w' => ∃ v, e = .returned v ∧ ApPost w B l (acc ++ all2 r) v w' :=
  app_n 2 (Nat.le_refl _) r w B l acc (lev2 r) hg hI (by omega) hB hB1 hB2 ht
end Go.Proofs.YtanfebccenfffaaGreatDoor
