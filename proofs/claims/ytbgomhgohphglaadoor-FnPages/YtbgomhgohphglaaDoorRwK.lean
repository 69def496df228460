/- Rows in memory: small laws. -/
import Derived.Test.YtbgomhgohphglaaDoorRw
namespace Go.Proofs.YtbgomhgohphglaaDoor
open Go.RowKit

theorem rw_form {W : World} {B : Nat} {v : Value} {l : List Rw} (h : Rws W B v l) : ∃ a c, v = .slice a l.length c := by
  rcases h.form with ⟨rfl, rfl⟩ | ⟨g, c, rfl, _, _⟩
  · exact ⟨_, _, rfl⟩
  · exact ⟨_, _, rfl⟩

theorem rw_snoc {W : World} {B : Nat} {v : Value} {l : List Rw} {x : Rw} (h : W.ownsRow B 32 3 v (l.length + 1) (rwAll l ++ rwC x)) : Rws W B v (l ++ [x]) := by
  unfold Rws
  have e1 : (l ++ [x]).length = l.length + 1 := by simp
  have e2 : rwAll (l ++ [x]) = rwAll l ++ rwC x := by rw [rwAll_append]; simp [rwAll]
  rw [e1, e2]; exact h

theorem cells3_at (w : World) (n : Nat) (x y z : Value) (ty : TypeId) (hn : n = w.heap.size) : ∀ j u, [x, y, z][j]? = some u → (w.alloc (.cells #[x, y, z] ty)).cell? ((⟨n, 0, none⟩ : Addr).add j) = some u := by
  subst hn
  intro j u hj
  match j, hj with
  | 0, hj => simp at hj; subst hj; simp [Addr.add]
  | 1, hj => simp at hj; subst hj; simp [Addr.add]
  | 2, hj => simp at hj; subst hj; simp [Addr.add]
  | j + 3, hj => simp at hj

theorem grown_heap6 {u u' w' : World} {r : Option Nat} (h : u.grownBy w' r) (h1 : u.heap = u'.heap) (h2 : u.os = u'.os) (h3 : u.tape = u'.tape) (h4 : u.output = u'.output) : u'.grownBy w' r :=
  ⟨h.os.trans h2, h.tape.trans h3, h.output.trans h4, by rw [← h1]; exact h.size, fun k hk hne => by rw [← h1] at hk ⊢; exact h.block k hk hne⟩

theorem rws_sl {W : World} {B c : Nat} {a : Option Addr} {l : List Rw} (h : Rws W B (.slice a l.length c) l) : SlRw W a l := by
  rcases h.form with ⟨_, h0⟩ | ⟨g, cap, hv, _, _⟩
  · exact .inl h0
  · have e := (Value.slice.inj hv).1
    subst e
    exact h.sl

theorem ne_list6 {a b : ByteArray} (h : ¬ a = b) : (a.toList == b.toList) = false := by
  rw [beq_eq_false_iff_ne]
  intro e
  rw [ByteArray.toList_eq, ByteArray.toList_eq] at e
  exact h (ByteArray.ext (Array.toList_inj.1 e))

/-- A row that is not empty: where it lies. -/
theorem rws_at {w : World} {B : Nat} {v : Value} {l : List Rw} (h : Rws w B v l) (hl : 0 < l.length) : ∃ g c, v = .slice (some ⟨g, 0, none⟩) l.length c ∧ ∀ (k : Nat) (e : Rw), l[k]? = some e → w.cell? ⟨g, k * 3, none⟩ = some (.string e.key) := by
  rcases h.form with ⟨rfl, rfl⟩ | ⟨g, c, rfl, _, _⟩
  · simp at hl
  · exact ⟨g, c, rfl, fun k e hk => (h.cells k e hk).1⟩
end Go.Proofs.YtbgomhgohphglaaDoor
