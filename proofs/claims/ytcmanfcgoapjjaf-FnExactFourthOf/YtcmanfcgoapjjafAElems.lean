/- Elems handed in: their reading, and what the laws' szElemS and toElemS make of them. -/
import Derived.Test.YtcmanfcgoapjjafFour
import Derived.Test.YtcmanfcgoapjjafRowKinds
import Derived.WalkKit
import Derived.ProofKit
import Derived.OpenShut
import Derived.LaidMore
import Derived.Deep.Slices
import Derived.Lib.SmallJoins
namespace Go.Proofs.Ytcmanfcgoapjjaf
open Go.ChangeShapes Go.WideShapes Go.ChangeAt Go.WideMaps Go.WideElems Go.RowKit Go.Deep Go.Joins

theorem spot_none' {w : World} {a : Addr} {v : Value} (h : w.cell? a = some v) : a.spot = none := by
  unfold World.cell? at h
  split at h
  · cases hs : a.spot with
    | none => rfl
    | some x => simp [hs] at h
  · simp at h

theorem list4 {cs : List Value} (h : cs.length = 4) : ∃ v0 v1 v2 v3, cs = [v0, v1, v2, v3] := by
  match cs, h with
  | [v0, v1, v2, v3], _ => exact ⟨v0, v1, v2, v3, rfl⟩

instance : Inhabited El := ⟨elZ⟩

/-- One elem handed in. -/
def ArgEl (w : World) (b p : Nat) (e : El) : Prop :=
  w.cell? ⟨b, p, none⟩ = some (.int .i64 e.first) ∧ w.cell? ⟨b, p + 1, none⟩ = some (.int .i64 e.second) ∧ w.cell? ⟨b, p + 2, none⟩ = some (.int .i64 e.third) ∧ w.cell? ⟨b, p + 3, none⟩ = some (.bool e.varies)

/-- A list of elems handed in. -/
def ArgEls (w : World) (a : Option Addr) (len cap : Nat) (es : List El) : Prop :=
  es.length = len ∧ len ≤ cap ∧ cap ≤ maxLen ∧ (len = 0 ∨ ∃ b o, a = some ⟨b, o, none⟩ ∧ ∀ (k : Nat) (e : El), es[k]? = some e → ArgEl w b (o + k * 4) e)

section
variable {H : Type} {enc : TypeId × Value → H} {w : World} {base : Nat}

theorem open_elem {n : Nat} {cs : List Value} {x : DataW H × List MemPlace} (h : DataW.trod enc Try.prog w base (fun _ => true) true n 39 cs = some x) :
    ∃ (f s t : Int) (v : Bool), cs = [.int .i64 f, .int .i64 s, .int .i64 t, .bool v] := by
  obtain ⟨z0, z1, z2, z3, m', _, hl, g0, g1, g2, g3⟩ := trod_struct4 Try.underlying39 h
  have c4 : Try.prog.cellsOf 39 = 4 := by kernel_rfl
  have d1 : Try.prog.cellsOf 3 = 1 := by kernel_rfl
  have d2 : Try.prog.cellsOf 4 = 1 := by kernel_rfl
  rw [c4] at hl
  obtain ⟨v0, v1, v2, v3, rfl⟩ := list4 hl
  simp only [d1, d2, List.take, List.drop] at g0 g1 g2 g3
  obtain ⟨f, hf, _⟩ := DataW.trod_int Try.underlying3 g0
  obtain ⟨s, hs, _⟩ := DataW.trod_int Try.underlying3 g1
  obtain ⟨t, ht, _⟩ := DataW.trod_int Try.underlying3 g2
  obtain ⟨v, hv, _⟩ := DataW.trod_bool Try.underlying4 g3
  cases hf
  cases hs
  cases ht
  cases hv
  exact ⟨f, s, t, v, rfl⟩

theorem open_elems {n : Nat} {a : Option Addr} {len cap : Nat} {x : DataW H × List MemPlace} (h : DataW.trod enc Try.prog w base (fun _ => true) true n 22 [.slice a len cap] = some x) : ∃ es, ArgEls w a len cap es := by
  have c4 : Try.prog.cellsOf 39 = 4 := by kernel_rfl
  rcases open_slice Try.underlying22 h with ⟨hcs, _⟩ | ⟨a', len', cap', m, n', D, Pl, hcs, _, hl, hm, hmm, _, hx⟩
  · cases hcs
    exact ⟨[], rfl, Nat.le_refl _, Nat.zero_le _, .inl rfl⟩
  · cases hcs
    rw [c4] at hx
    simp only [if_true] at hmm
    subst hmm
    by_cases h0 : len = 0
    · subst h0
      exact ⟨[], rfl, hl, hm, .inl rfl⟩
    · have hsp : a'.spot = none := by
        obtain ⟨cs', h1, _⟩ := hx 0 (by omega)
        obtain ⟨_, h3, h4⟩ := World.cells?_some h1
        have h5 := h4 0 (by omega)
        rw [List.getElem?_eq_getElem (by omega)] at h5
        have := spot_none' h5
        simpa [Addr.add] using this
      have hadd : ∀ i, a'.add i = ⟨a'.block, a'.off + i, none⟩ := fun i => by
        unfold Addr.add
        split
        · rename_i hi
          subst hi
          cases a'
          simp at hsp
          simp [hsp]
        · rfl
      have each : ∀ i, i < len → ∃ e : El, ArgEl w a'.block (a'.off + i * 4) e := fun i hi => by
        obtain ⟨cs', h1, h2⟩ := hx i (by omega)
        obtain ⟨f, s, t, v, rfl⟩ := open_elem h2
        obtain ⟨_, _, h4⟩ := World.cells?_some h1
        have at' : ∀ j, j < 4 → w.cell? ⟨a'.block, a'.off + i * 4 + j, none⟩ = [Value.int .i64 f, .int .i64 s, .int .i64 t, .bool v][j]? := fun j hj => by
          rw [← h4 j hj, hadd]
          unfold Addr.add
          split
          · rename_i hj; subst hj; rfl
          · rfl
        exact ⟨⟨f, s, t, v⟩, at' 0 (by omega), at' 1 (by omega), at' 2 (by omega), at' 3 (by omega)⟩
      obtain ⟨E, hE⟩ := choose_lt (p := fun i e => ArgEl w a'.block (a'.off + i * 4) e) each
      refine ⟨(List.range len).map E, by simp, hl, hm, .inr ⟨a'.block, a'.off, ?_, fun k e he => ?_⟩⟩
      · cases a'
        simp at hsp
        simp [hsp]
      · rw [List.getElem?_map, Option.map_eq_some_iff] at he
        obtain ⟨i, hi, rfl⟩ := he
        obtain ⟨hk, e2⟩ := List.getElem?_eq_some_iff.1 hi
        simp at hk e2
        subst e2
        exact hE k hk
end

set_option maxRecDepth 100000 in
set_option maxHeartbeats 1000000 in
theorem szEls_any (w : World) (a : Option Addr) (n c : Nat) (left : Int) (h0 : 0 ≤ left) (h1 : left ≤ 1048576) (hn : n ≤ 9223372036854775807) :
    Calls Try.prog 4 #[.slice a n c, .int .i64 left] w fun e w' => e = .returned (.int .i64 (if left - (n : Int) < 0 then -1 else left - (n : Int))) ∧ w' = w := by
  by_cases h : left - (n : Int) < 0
  · rw [if_pos h]
    go_enter Try.func4, Try.ntmps4
    go_wp2
    go_ret
    exact ⟨rfl, rfl⟩
  · rw [if_neg h]
    go_enter Try.func4, Try.ntmps4
    go_wp2
    go_ret
    exact ⟨rfl, rfl⟩
end Go.Proofs.Ytcmanfcgoapjjaf
