/- Rows of bytes of the call's own, the text that they are, and a row's box. -/
import Derived.Test.YtbgomhgohphglaaDoorPPage6
import Derived.Laws.BytesString
import Derived.Lib.AppendStr
namespace Go.Proofs.YtbgomhgohphglaaDoor
open Go.RowKit

theorem info_u8' : (Tryd.prog.info? 5).map (fun i => (i.zero, i.size, i.bytes)) = some (some (.int .u8 0), 1, 1) := by kernel_rfl

def By6 (w : World) (base : Nat) (v : Value) (bs : List Int) : Prop := w.ownsRow base 5 1 v bs.length (bs.map (Value.int .u8))

theorem By6.form {w : World} {B : Nat} {v : Value} {bs : List Int} (h : By6 w B v bs) : (v = .slice none 0 0 ∧ bs = []) ∨ ∃ g cap, v = .slice (some ⟨g, 0, none⟩) bs.length cap := by
  rcases h.2 with ⟨a, b⟩ | ⟨g, cap, cur, a, _⟩
  · exact .inl ⟨a, by simpa using b⟩
  · exact .inr ⟨g, cap, a⟩

theorem By6.below {w w' : World} {B : Nat} {v : Value} {bs : List Int} (h : By6 w B v bs) (hb : Below w.heap.size w w') : By6 w' B v bs :=
  World.ownsRow.kept h (row := none) ⟨hb.os, hb.tape, hb.output, hb.size, fun k hk _ => hb.block k hk⟩ (by cases h : v.ownBlock <;> simp)

theorem By6.app {w : World} {B : Nat} {v : Value} {bs xs : List Int} {n : Nat} (hn : n = xs.length) (h : w.ownsRow B 5 1 v (bs.length + n) (bs.map (Value.int .u8) ++ xs.map (Value.int .u8))) : By6 w B v (bs ++ xs) := by
  subst hn
  unfold By6; simpa using h

theorem str_cells (s : ByteArray) : Lib.strCells s = (bI s).map (Value.int .u8) := by
  unfold Lib.strCells bI
  rw [List.map_map]
  rfl

theorem By6.str {w : World} {B : Nat} {v : Value} {bs : List Int} {s : ByteArray} {n : Nat} (hn : n = s.size) (h : w.ownsRow B 5 1 v (bs.length + n) (bs.map (Value.int .u8) ++ Lib.strCells s)) : By6 w B v (bs ++ bI s) := by
  rw [str_cells] at h
  exact By6.app (hn.trans (bI_len s).symm) h

theorem new_by6 (w : World) (n : Nat) (hn : n = w.heap.size) (cs : List Int) (hc : cs.length ≤ 1000) : By6 (w.alloc (.cells (cs.map (Value.int .u8)).toArray 5)) w.heap.size (.slice (some ⟨n, 0, none⟩) cs.length cs.length) cs := by
  subst hn
  refine ⟨by simp, .inr ⟨w.heap.size, cs.length, (cs.map (Value.int .u8)).toArray, rfl, Nat.le_refl _, heap_alloc_new _ _, Nat.le_refl _, ?_, by simp, ?_⟩⟩
  · unfold maxLen; omega
  · apply List.take_of_length_le
    simp

theorem cells4_at (w : World) (n : Nat) (x y z t : Value) (ty : TypeId) (hn : n = w.heap.size) : ∀ j u, [x, y, z, t][j]? = some u → (w.alloc (.cells #[x, y, z, t] ty)).cell? ((⟨n, 0, none⟩ : Addr).add j) = some u := by
  subst hn
  intro j u hj
  match j, hj with
  | 0, hj => simp at hj; subst hj; simp [Addr.add]
  | 1, hj => simp at hj; subst hj; simp [Addr.add]
  | 2, hj => simp at hj; subst hj; simp [Addr.add]
  | 3, hj => simp at hj; subst hj; simp [Addr.add]
  | j + 4, hj => simp at hj

theorem cells1_at6 (w : World) (n : Nat) (x : Value) (ty : TypeId) (hn : n = w.heap.size) : ∀ j u, [x][j]? = some u → (w.alloc (.cells #[x] ty)).cell? ((⟨n, 0, none⟩ : Addr).add j) = some u := by
  subst hn
  intro j u hj
  match j, hj with
  | 0, hj => simp at hj; subst hj; simp [Addr.add]
  | j + 1, hj => simp at hj

theorem foldl_push6 : ∀ (xs : List Int) (r : ByteArray), xs.foldl (fun r n => r.push (UInt8.ofNat n.toNat)) r = ⟨r.data ++ (xs.map fun x => x.toNat.toUInt8).toArray⟩
  | [], r => by simp
  | x :: xs, r => by
    simp only [List.map_cons, List.foldl_cons]
    rw [foldl_push6 xs]
    simp [ByteArray.push]

theorem addr_zero6 (b j : Nat) : (⟨b, 0, none⟩ : Addr).add j = ⟨b, j, none⟩ := by
  unfold Addr.add
  split
  · rename_i h; subst h; rfl
  · simp

theorem olds2_at6 (w : World) (n : Nat) (hn : n = w.heap.size) (x y z : Value) (t : TypeId) (fr : Nat × Nat) : ∀ b, some (⟨n, 0, none⟩ : Addr) = some b → ∀ j u, [x, y][j]? = some u → ((w.alloc (.cells #[x, y] t fr)).alloc (.cells #[z] t)).cell? (b.add j) = some u := by
  subst hn
  intro b hb j u hj
  cases hb
  rw [addr_zero6, cell_of_row _ _ j #[x, y] t fr (by rw [Below.heap_alloc _ _ _ (by simp)]; exact heap_alloc_new w _)]
  simpa using hj

theorem conv_by6 {w : World} {B : Nat} {v : Value} {bs : List Int} (h : By6 w B v bs) : (convert 22 9 v).run Tryd.prog w = .ok (.string (byT bs)) w := by
  rcases h.form with ⟨rfl, rfl⟩ | ⟨g, cap, rfl⟩
  · rw [run_convert_bytes_string _ _ _ _ _ _ _ Tryd.underlying22 Tryd.underlying5 Tryd.underlying9]
    rfl
  · rw [run_convert_bytes_string _ _ _ _ _ _ _ Tryd.underlying22 Tryd.underlying5 Tryd.underlying9]
    have hl := run_loadCells_list (P := Tryd.prog) w ⟨g, 0, none⟩ (bs.map (Value.int .u8)) (fun j v hj => by
      have hjl : j < bs.length := by have := (List.getElem?_eq_some_iff.1 hj).1; simpa using this
      rw [addr_zero6, World.ownsRow.cellAt h j (by omega), hj])
    simp only [List.length_map] at hl
    rw [run_bytesToString _ _ _ _ bs hl, foldl_push6]
    have he0 : ByteArray.empty.data = #[] := rfl
    rw [he0]
    simp [byT]

/-- A row's box. -/
def BoxR6 (w : World) (b : Nat) (x : Rw) : Prop := w.heap[b]? = some (.cells #[.string x.key, .string x.text, .string x.val] 32)

theorem BoxR6.lt {w : World} {b : Nat} {x : Rw} (h : BoxR6 w b x) : b < w.heap.size := (Array.getElem?_eq_some_iff.1 h).1

theorem BoxR6.cells {w : World} {b : Nat} {x : Rw} (h : BoxR6 w b x) : w.cell? ⟨b, 0, none⟩ = some (.string x.key) ∧ w.cell? ⟨b, 1, none⟩ = some (.string x.text) ∧ w.cell? ⟨b, 2, none⟩ = some (.string x.val) :=
  ⟨cell_of_row _ _ 0 _ _ _ h, cell_of_row _ _ 1 _ _ _ h, cell_of_row _ _ 2 _ _ _ h⟩

theorem BoxR6.below {w w' : World} {b : Nat} {x : Rw} (h : BoxR6 w b x) (hb : Below w.heap.size w w') : BoxR6 w' b x := (hb.block b h.lt).trans h

theorem BoxR6.ne {w : World} {B b n : Nat} {v : Value} {x : Rw} {xs : List Value} (h : BoxR6 w b x) (ho : w.ownsRow B 5 1 v n xs) : some b ≠ v.ownBlock := by
  rcases ho.2 with ⟨rfl, _⟩ | ⟨g, cap, cur, rfl, _, hg, _⟩
  · intro c; cases c
  · intro c
    have e : b = g := Option.some.inj c
    subst e
    unfold BoxR6 at h
    rw [hg] at h
    injection h with e1
    injection e1 with _ e2 _
    exact absurd e2 (by decide)

theorem BoxR6.kept {w w' : World} {B b n : Nat} {v : Value} {x : Rw} {xs : List Value} (h : BoxR6 w b x) (ho : w.ownsRow B 5 1 v n xs) (hg : w.grownBy w' v.ownBlock) : BoxR6 w' b x :=
  (hg.block b h.lt (h.ne ho)).trans h

theorem BoxR6.alloc {w : World} {b : Nat} {x : Rw} (h : BoxR6 w b x) (o : Obj) : BoxR6 (w.alloc o) b x := by
  unfold BoxR6
  rw [Below.heap_alloc _ _ _ h.lt]
  exact h

theorem box_new6 (w : World) (x : Rw) : BoxR6 (w.alloc (.cells #[.string x.key, .string x.text, .string x.val] 32)) w.heap.size x := heap_alloc_new w _

/-- What a row that has been appended to leaves below. -/
theorem below_app6 {W w w' : World} {B n : Nat} {v : Value} {xs : List Value} (hb : Below B W w) (ho : w.ownsRow B 5 1 v n xs) (hg : w.grownBy w' v.ownBlock) (hsz : B ≤ w.heap.size) : Below B W w' :=
  Below.grown hb hg hsz (fun j hj => (World.ownsRow.lt ho j hj).1)
end Go.Proofs.YtbgomhgohphglaaDoor
