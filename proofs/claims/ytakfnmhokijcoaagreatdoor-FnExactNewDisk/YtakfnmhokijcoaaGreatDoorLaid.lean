/- What the listed tables of the program hold, cell for cell: an array of structs of integers that reads as a list of rows. -/
import Derived.Test.YtakfnmhokijcoaaGreatDoorRows
import Derived.OpenShut
import Derived.LaidLaws
import Derived.Stop.LaidErr
import Derived.WalkKit
import Derived.OpenVars
namespace Go.Proofs.YtakfnmhokijcoaaGreatDoor
open Go.RowKit

def rowsD {H : Type} (rows : List (List Int)) : DataW H := .agg (rows.map fun row => .agg (row.map fun z => .lit (.int .i64 z)))

theorem cells_rows {H : Type} {enc : TypeId × Value → H} {P : Program} {w : World} {base : Nat} {sp : Nat → Bool} {held : Bool} {fuel : Nat} {t e ti : TypeId} {n m : Nat} {fs : Array Field} {cs : List Value} {rows : List (List Int)} {p : List MemPlace}
    (ht : P.underlying t = some (.array n e)) (he : P.underlying e = some (.struct fs)) (hce : P.cellsOf e = m) (hfs : fs.size = m)
    (hf : ∀ (j : Nat) (f : Field), fs[j]? = some f → f.offset = j ∧ f.type = ti) (hti : P.underlying ti = some (.int .i64)) (hci : P.cellsOf ti = 1)
    (h : DataW.trod enc P w base sp held fuel t cs = some (rowsD rows, p)) :
    cs.length = P.cellsOf t ∧ ∀ (i : Nat) (row : List Int) (j : Nat) (z : Int), rows[i]? = some row → row[j]? = some z → cs[i * m + j]? = some (.int .i64 z) := by
  obtain ⟨xs, m1, -, hx, hcl, hxl, hel⟩ := DataW.trod_array ht h
  refine ⟨hcl, ?_⟩
  intro i row j z hi hj
  have hx1 : rows.map (fun row => (DataW.agg (row.map fun z => .lit (.int .i64 z)) : DataW H)) = xs.map (·.1) := by
    have := congrArg Prod.fst hx
    simpa [rowsD] using this
  have h1 : (xs.map (·.1))[i]? = some (DataW.agg (row.map fun z => .lit (.int .i64 z))) := by rw [← hx1]; simp [hi]
  rw [List.getElem?_map, Option.map_eq_some_iff] at h1
  obtain ⟨x, hxi, hx2⟩ := h1
  have hlt := (List.getElem?_eq_some_iff.1 hxi).1
  have h2 := hel i (by omega)
  rw [hxi] at h2
  obtain ⟨ys, n1, -, hy, -, hyl, hfl⟩ := DataW.trod_struct he h2
  have hy1 : row.map (fun z => (DataW.lit (.int .i64 z) : DataW H)) = ys.map (·.1) := by
    have := congrArg Prod.fst hy
    rw [hx2] at this
    simpa using this
  have h3 : (ys.map (·.1))[j]? = some (DataW.lit (.int .i64 z)) := by rw [← hy1]; simp [hj]
  rw [List.getElem?_map, Option.map_eq_some_iff] at h3
  obtain ⟨y, hyj, hy2⟩ := h3
  have hjl := (List.getElem?_eq_some_iff.1 hyj).1
  obtain ⟨f, hfj⟩ : ∃ f, fs[j]? = some f := ⟨fs[j]'(by omega), by simp⟩
  obtain ⟨o1, o2⟩ := hf j f hfj
  have h4 := hfl j f hfj
  rw [hyj, o1, o2, hci] at h4
  obtain ⟨k, e1, e2, _⟩ := DataW.trod_int hti h4
  have e3 : k = z := by rw [e2] at hy2; simpa using hy2
  subst e3
  have := congrArg (·[0]?) e1
  simp only [List.getElem?_take, List.getElem?_drop, hce] at this
  rw [if_pos (by omega), if_pos (by omega)] at this
  simpa using this

/-- The variable's block holds these integers. -/
def Held (w : World) (g : Nat) (zs : List Int) : Prop := ∃ t fr, w.heap[g]? = some (.cells (zs.map (Value.int .i64)).toArray t fr)

theorem Held.lt {w : World} {g : Nat} {zs : List Int} (h : Held w g zs) : g < w.heap.size := by
  obtain ⟨t, fr, h⟩ := h
  exact (Array.getElem?_eq_some_iff.1 h).1

theorem Held.below {w w' : World} {g B : Nat} {zs : List Int} (h : Held w g zs) (hb : Below B w w') (hg : g < B) : Held w' g zs := by
  obtain ⟨t, fr, h⟩ := h
  exact ⟨t, fr, by rw [hb.block g hg]; exact h⟩

theorem Held.drew {w : World} {g : Nat} {zs : List Int} (h : Held w g zs) : Held w.drew g zs := h

theorem held_of_head {P : Program} {W : World} {name : String} {rows : List (List Int)} {flat : List Int} {rest : List (String × DataW Unit)} {g : Nat} {t e ti : TypeId} {n m : Nat} {fs : Array Field}
    (hg : P.globalNamed name = some g) (hty : (P.globals[g]?).map (·.type) = some t) (ht : P.underlying t = some (.array n e)) (he : P.underlying e = some (.struct fs)) (hce : P.cellsOf e = m) (hfs : fs.size = m)
    (hf : ∀ (j : Nat) (f : Field), fs[j]? = some f → f.offset = j ∧ f.type = ti) (hti : P.underlying ti = some (.int .i64)) (hci : P.cellsOf ti = 1)
    (hct : P.cellsOf t = flat.length) (hfl : ∀ i ∈ List.range flat.length, ((rows[i / m]?).bind (·[i % m]?)) = flat[i]?)
    (h : laidMet P ((name, rowsD rows) :: rest) W) : Held W g flat := by
  obtain ⟨ps, ⟨g', t', cs, fuel, p, q, hg', ht', hvar, hd, _, _⟩, _⟩ := h
  obtain rfl := Option.some.inj (hg.symm.trans hg')
  obtain rfl := Option.some.inj (hty.symm.trans ht')
  obtain ⟨hl, h1⟩ := cells_rows ht he hce hfs hf hti hci hd
  have hcs : cs = (flat.map (Value.int .i64)).toArray := by
    apply Array.ext'
    simp only
    apply List.ext_getElem?
    intro i
    by_cases hi : i < flat.length
    · have h2 := hfl i (by simpa using hi)
      rw [List.getElem?_eq_getElem hi] at h2
      obtain ⟨row, hr, hz⟩ := Option.bind_eq_some_iff.1 h2
      have := h1 (i / m) row (i % m) _ hr hz
      rw [show i / m * m + i % m = i by rw [Nat.mul_comm]; exact Nat.div_add_mod i m] at this
      rw [this]; simp [hi]
    · rw [List.getElem?_eq_none (by omega), List.getElem?_eq_none (by simp; omega)]
  unfold World.var? at hvar
  rw [hg] at hvar
  simp only [Option.bind_some] at hvar
  split at hvar
  · rename_i c t fr hb
    cases hvar
    exact ⟨t, fr, by rw [hb, hcs]⟩
  · cases hvar

def marksT : List (List Int) := [[824, 1], [807, 202], [808, 202], [803, 220], [817, 220], [768, 230], [769, 230], [770, 230], [771, 230], [772, 230], [774, 230], [775, 230], [776, 230], [778, 230], [780, 230]]
def marksF : List Int := marksT.flatten

theorem trodVars_len {H : Type} {enc : TypeId × Value → H} {P : Program} {w : World} {sp : Nat → Bool} : ∀ {ns : List String} {gs : List (DataW H)} {ps : List MemPlace}, DataW.TrodVars enc P w sp ns gs ps → gs.length = ns.length
  | [], [], _, _ => rfl
  | [], _ :: _, _, h => h.elim
  | _ :: _, [], _, h => h.elim
  | _ :: _, _ :: _, _, h => by
    obtain ⟨_, _, _, _, _, _, _, _, _, _, hs, _⟩ := h
    simp [trodVars_len hs]

/-- The program's table of capital letters. -/
def capT : List (List Int) := [[192, 65, 768], [193, 65, 769], [194, 65, 770], [195, 65, 771], [196, 65, 776], [197, 65, 778], [199, 67, 807], [200, 69, 768], [201, 69, 769], [202, 69, 770], [203, 69, 776], [204, 73, 768], [205, 73, 769], [206, 73, 770], [207, 73, 776], [209, 78, 771], [210, 79, 768], [211, 79, 769], [212, 79, 770], [213, 79, 771], [214, 79, 776], [217, 85, 768], [218, 85, 769], [219, 85, 770], [220, 85, 776], [221, 89, 769]]
def capF : List Int := capT.flatten
def othT : List (List Int) := [[255, 121, 776], [7844, 194, 769], [7845, 226, 769], [7779, 115, 803], [7785, 7779, 775]]
def othF : List Int := othT.flatten

theorem gMarks : Tryz.prog.globalNamed "loop.example/g00158/impl.marks" = some 1 := by kernel_rfl
theorem tMarks : (Tryz.prog.globals[1]?).map (·.type) = some 118 := by kernel_rfl
theorem gCap : Tryz.prog.globalNamed "loop.example/g00158/impl.capitalPairs" = some 4 := by kernel_rfl
theorem tCap : (Tryz.prog.globals[4]?).map (·.type) = some 138 := by kernel_rfl
theorem gOth : Tryz.prog.globalNamed "loop.example/g00158/impl.otherPairs" = some 5 := by kernel_rfl
theorem tOth : (Tryz.prog.globals[5]?).map (·.type) = some 140 := by kernel_rfl

theorem marks_held {W : World} {rest : List (String × DataW Unit)} (h : laidMet Tryz.prog (("loop.example/g00158/impl.marks", Rows.laid_loop_example_g00158_impl_marks) :: rest) W) : Held W 1 marksF :=
  held_of_head (rows := marksT) (m := 2) (ti := 3) gMarks tMarks Tryz.underlying118 Tryz.underlying117 (by kernel_rfl) rfl
    (by intro j f h; rcases j with _ | _ | j <;> simp at h <;> (subst h; exact ⟨rfl, rfl⟩)) Tryz.underlying3 (by kernel_rfl) (by kernel_rfl) (by decide) h
theorem cap_held {W : World} {rest : List (String × DataW Unit)} (h : laidMet Tryz.prog (("loop.example/g00158/impl.capitalPairs", Rows.laid_loop_example_g00158_impl_capitalPairs) :: rest) W) : Held W 4 capF :=
  held_of_head (rows := capT) (m := 3) (ti := 3) gCap tCap Tryz.underlying138 Tryz.underlying135 (by kernel_rfl) rfl
    (by intro j f h; rcases j with _ | _ | _ | j <;> simp at h <;> (subst h; exact ⟨rfl, rfl⟩)) Tryz.underlying3 (by kernel_rfl) (by kernel_rfl) (by decide) h
theorem oth_held {W : World} {rest : List (String × DataW Unit)} (h : laidMet Tryz.prog (("loop.example/g00158/impl.otherPairs", Rows.laid_loop_example_g00158_impl_otherPairs) :: rest) W) : Held W 5 othF :=
  held_of_head (rows := othT) (m := 3) (ti := 3) gOth tOth Tryz.underlying140 Tryz.underlying135 (by kernel_rfl) rfl
    (by intro j f h; rcases j with _ | _ | _ | j <;> simp at h <;> (subst h; exact ⟨rfl, rfl⟩)) Tryz.underlying3 (by kernel_rfl) (by kernel_rfl) (by decide) h
end Go.Proofs.YtakfnmhokijcoaaGreatDoor
