/- Texts of mine laid together: ToEl, IsRow, ARules, SzRules, EqI, ToInt, Rows1, EntK, EntsSet, ToRules, EntsDM, IntK0. -/
import Derived.Test.YtddelohmppdndaaGreatDoorResC
import Derived.Test.YtddelohmppdndaaGreatDoorProg
import Derived.WalkKit
import Derived.Test.YtddelohmppdndaaGreatDoorEnts
import Derived.ProofKit
import Derived.OpenShut
import Derived.LaidMore
import Derived.Deep.Slices
import Derived.Lib.SmallJoins
import Derived.Test.YtddelohmppdndaaGreatDoorInts
import Derived.WalkSmall
import Derived.BigQuiet
import Derived.Deep.QuietTactic
import Derived.Laws.OwnMore
import Derived.OwnWalk
import Derived.Below
import Derived.Test.YtddelohmppdndaaGreatDoorApart2
import Derived.Test.YtddelohmppdndaaGreatDoorMF2
namespace Go.Proofs.YtddelohmppdndaaGreatDoor
open Go.RowKit

set_option maxRecDepth 100000 in
set_option maxHeartbeats 1000000 in
theorem toElem_any (w : World) (f s t : Int) (v : Bool) : Calls Tryz.prog 54 #[.agg #[.int .i64 f, .int .i64 s, .int .i64 t, .bool v]] w fun e w' => e = .returned (.agg #[.int .i64 f, .int .i64 s, .int .i64 t, .bool v]) ∧ Below w.heap.size w w' := by
  go_enter Tryz.func54, Tryz.ntmps54
  go_wp2
  refine bodyPost_ret (v := .agg #[.int .i64 f, .int .i64 s, .int .i64 t, .bool v]) ?_ rfl ⟨rfl, (((Below.refl _ _).alloc (Nat.le_refl _) _).alloc (by simp) _).alloc (by simp; omega) _⟩
  rw [results_cell1 rfl]
  go_simp
end Go.Proofs.YtddelohmppdndaaGreatDoor

namespace Go.Proofs.YtddelohmppdndaaGreatDoor
open Go.RowKit

def IsRow (k : IntKind) (w : World) (a : Option Addr) (len cap : Nat) (zs : List Int) : Prop :=
  (a = none ∧ len = 0 ∧ cap = 0 ∧ zs = []) ∨
  ∃ x, a = some x ∧ len ≤ cap ∧ cap ≤ maxLen ∧ zs.length = cap ∧ (∀ i, i < zs.length → w.cell? (x.add i) = some (.int k (zs.getD i 0))) ∧ ∀ n ∈ zs, (Lit.int k n).wf = true
end Go.Proofs.YtddelohmppdndaaGreatDoor

namespace Go.Proofs.YtddelohmppdndaaGreatDoor
open Go.ChangeShapes Go.WideShapes Go.ChangeAt Go.WideMaps Go.WideElems Go.RowKit Go.Deep Go.Joins

theorem spot_none {w : World} {a : Addr} {v : Value} (h : w.cell? a = some v) : a.spot = none := by
  unfold World.cell? at h
  split at h
  · cases hs : a.spot with
    | none => rfl
    | some x => simp [hs] at h
  · simp at h

theorem list5 {cs : List Value} (h : cs.length = 5) : ∃ v0 v1 v2 v3 v4, cs = [v0, v1, v2, v3, v4] := by
  match cs, h with
  | [v0, v1, v2, v3, v4], _ => exact ⟨v0, v1, v2, v3, v4, rfl⟩

instance : Inhabited Ent := ⟨⟨[], ⟨0, 0, 0, false⟩⟩⟩

/-- One entry handed in: its cells from place p of block b on. -/
def ArgEnt (w : World) (b p : Nat) (e : Ent) : Prop :=
  ∃ (ra : Option Addr) (rl rc : Nat) (zs : List Int), IsRow .i64 w ra rl rc zs ∧ e.runes = zs.take rl ∧ e.runes.length = rl ∧ w.cell? ⟨b, p, none⟩ = some (.slice ra rl rc) ∧ w.cell? ⟨b, p + 1, none⟩ = some (.int .i64 e.el.first) ∧
    w.cell? ⟨b, p + 2, none⟩ = some (.int .i64 e.el.second) ∧ w.cell? ⟨b, p + 3, none⟩ = some (.int .i64 e.el.third) ∧ w.cell? ⟨b, p + 4, none⟩ = some (.bool e.el.varies)

/-- A list of entries handed in. -/
def ArgEnts (w : World) (a : Option Addr) (len cap : Nat) (es : List Ent) : Prop :=
  es.length = len ∧ len ≤ cap ∧ cap ≤ maxLen ∧ (len = 0 ∨ ∃ b o, a = some ⟨b, o, none⟩ ∧ ∀ (k : Nat) (e : Ent), es[k]? = some e → ArgEnt w b (o + k * 5) e)

section
variable {H : Type} {enc : TypeId × Value → H} {w : World} {base : Nat}

theorem open_entry {n : Nat} {cs : List Value} {x : DataW H × List MemPlace} (h : DataW.trod enc Tryz.prog w base (fun _ => true) true n 62 cs = some x) :
    ∃ (ra : Option Addr) (rl rc : Nat) (zs : List Int) (f s t : Int) (v : Bool), cs = [.slice ra rl rc, .int .i64 f, .int .i64 s, .int .i64 t, .bool v] ∧ IsRow .i64 w ra rl rc zs := by
  obtain ⟨y0, y1, m, _, hl, h0, h1⟩ := trod_struct2 Tryz.underlying62 h
  have c5 : Tryz.prog.cellsOf 62 = 5 := by kernel_rfl
  have c1 : Tryz.prog.cellsOf 39 = 1 := by kernel_rfl
  have c4 : Tryz.prog.cellsOf 60 = 4 := by kernel_rfl
  rw [c5] at hl
  obtain ⟨v0, v1, v2, v3, v4, rfl⟩ := list5 hl
  simp only [c1, c4, List.take, List.drop] at h0 h1
  obtain ⟨z0, z1, z2, z3, m', _, _, g0, g1, g2, g3⟩ := trod_struct4 Tryz.underlying60 h1
  have d1 : Tryz.prog.cellsOf 3 = 1 := by kernel_rfl
  have d2 : Tryz.prog.cellsOf 4 = 1 := by kernel_rfl
  simp only [d1, d2, List.take, List.drop] at g0 g1 g2 g3
  obtain ⟨f, hf, _⟩ := DataW.trod_int Tryz.underlying3 g0
  obtain ⟨s, hs, _⟩ := DataW.trod_int Tryz.underlying3 g1
  obtain ⟨t, ht, _⟩ := DataW.trod_int Tryz.underlying3 g2
  obtain ⟨v, hv, _⟩ := DataW.trod_bool Tryz.underlying4 g3
  cases hf
  cases hs
  cases ht
  cases hv
  rcases open_ints Tryz.underlying39 Tryz.underlying3 (by kernel_rfl) h0 with ⟨hcs, _⟩ | ⟨x, l, c, zs, hcs, _, hlc, hm, hz, _, hcell, hwz⟩
  · cases hcs
    exact ⟨none, 0, 0, [], f, s, t, v, rfl, .inl ⟨rfl, rfl, rfl, rfl⟩⟩
  · cases hcs
    exact ⟨some x, l, c, zs, f, s, t, v, rfl, .inr ⟨_, rfl, hlc, hm, by simpa using hz, hcell, hwz⟩⟩

theorem isRow_take {a : Option Addr} {len cap : Nat} {zs : List Int} (h : IsRow .i64 w a len cap zs) : (zs.take len).length = len := by
  rcases h with ⟨_, rfl, _, rfl⟩ | ⟨_, _, h1, _, h2, _⟩
  · rfl
  · rw [List.length_take]; omega

theorem open_entries {n : Nat} {a : Option Addr} {len cap : Nat} {x : DataW H × List MemPlace} (h : DataW.trod enc Tryz.prog w base (fun _ => true) true n 22 [.slice a len cap] = some x) : ∃ es, ArgEnts w a len cap es := by
  have c5 : Tryz.prog.cellsOf 62 = 5 := by kernel_rfl
  rcases open_slice Tryz.underlying22 h with ⟨hcs, _⟩ | ⟨a', len', cap', m, n', D, Pl, hcs, _, hl, hm, hmm, _, hx⟩
  · cases hcs
    exact ⟨[], rfl, Nat.le_refl _, Nat.zero_le _, .inl rfl⟩
  · cases hcs
    rw [c5] at hx
    simp only [if_true] at hmm
    subst hmm
    by_cases h0 : len = 0
    · subst h0
      exact ⟨[], rfl, hl, hm, .inl rfl⟩
    · have hsp : a'.spot = none := by
        obtain ⟨cs', h1, _⟩ := hx 0 (by omega)
        obtain ⟨_, h3, h4⟩ := World.cells?_some h1
        have h5 := h4 0 (by omega)
        rw [List.getElem?_eq_getElem (by omega)] at h5
        have := spot_none h5
        simpa [Addr.add] using this
      have hadd : ∀ i, a'.add i = ⟨a'.block, a'.off + i, none⟩ := fun i => by
        unfold Addr.add
        split
        · rename_i hi
          subst hi
          cases a'
          simp at hsp
          simp [hsp]
        · rfl
      have each : ∀ i, i < len → ∃ e : Ent, ArgEnt w a'.block (a'.off + i * 5) e := fun i hi => by
        obtain ⟨cs', h1, h2⟩ := hx i (by omega)
        obtain ⟨ra, rl, rc, zs, f, s, t, v, rfl, hr⟩ := open_entry h2
        obtain ⟨_, _, h4⟩ := World.cells?_some h1
        have at' : ∀ j, j < 5 → w.cell? ⟨a'.block, a'.off + i * 5 + j, none⟩ = [Value.slice ra rl rc, .int .i64 f, .int .i64 s, .int .i64 t, .bool v][j]? := fun j hj => by
          rw [← h4 j hj, hadd]
          unfold Addr.add
          split
          · rename_i hj; subst hj; rfl
          · rfl
        exact ⟨⟨zs.take rl, ⟨f, s, t, v⟩⟩, ra, rl, rc, zs, hr, rfl, isRow_take hr, at' 0 (by omega), at' 1 (by omega), at' 2 (by omega), at' 3 (by omega), at' 4 (by omega)⟩
      obtain ⟨E, hE⟩ := choose_lt (p := fun i e => ArgEnt w a'.block (a'.off + i * 5) e) each
      refine ⟨(List.range len).map E, by simp, hl, hm, .inr ⟨a'.block, a'.off, ?_, fun k e he => ?_⟩⟩
      · cases a'
        simp at hsp
        simp [hsp]
      · rw [List.getElem?_map, Option.map_eq_some_iff] at he
        obtain ⟨i, hi, rfl⟩ := he
        obtain ⟨hk, e2⟩ := List.getElem?_eq_some_iff.1 hi
        simp at hk e2
        subst e2
        exact hE k hk
end
end Go.Proofs.YtddelohmppdndaaGreatDoor

namespace Go.Proofs.YtddelohmppdndaaGreatDoor
open Go.RowKit

def szL (left : Int) (n : Nat) : Int := if left - (n : Int) < 0 then -1 else left - (n : Int)

def szEs : List Ent → Int → Int
  | [], left => left
  | e :: es, left => if szL left e.runes.length < 0 then -1 else szEs es (szL left e.runes.length)

def szA (es : List Ent) (left : Int) : Int := if left - (es.length : Int) < 0 then -1 else szEs es (left - (es.length : Int))

theorem szL_bd {left : Int} {n : Nat} (h : ¬ szL left n < 0) : szL left n = left - (n : Int) ∧ 0 ≤ left - (n : Int) := by
  unfold szL at *
  split at h
  · omega
  · rename_i c
    rw [if_neg c]
    omega

theorem szEs_bd : ∀ (es : List Ent) (left : Int), 0 ≤ left → 0 ≤ szEs es left → ∀ e ∈ es, (e.runes.length : Int) ≤ left
  | [], _, _, _ => fun e he => by simp at he
  | x :: es, left, h0, h => fun e he => by
    unfold szEs at h
    split at h
    · omega
    · rename_i c
      have hb := szL_bd c
      rw [hb.1] at h
      rcases List.mem_cons.1 he with rfl | he
      · omega
      · have := szEs_bd es _ hb.2 h e he
        omega

theorem szEs_neg : ∀ (es : List Ent) (left : Int), 0 ≤ left → szEs es left < 0 → szEs es left = -1
  | [], left, h0, h => by unfold szEs at h; omega
  | x :: es, left, h0, h => by
    unfold szEs at h ⊢
    split
    · rfl
    · rename_i c
      rw [if_neg c] at h
      have hb := szL_bd c
      exact szEs_neg es _ (by rw [hb.1]; exact hb.2) h

theorem szA_bd {es : List Ent} {left : Int} (h : 0 ≤ szA es left) : (es.length : Int) ≤ left ∧ ∀ e ∈ es, (e.runes.length : Int) ≤ left := by
  unfold szA at h
  split at h
  · omega
  · refine ⟨by omega, fun e he => ?_⟩
    have := szEs_bd es _ (by omega) h e he
    omega

set_option maxRecDepth 100000 in
set_option maxHeartbeats 1000000 in
theorem szInt_any (w : World) (a : Option Addr) (n c : Nat) (left : Int) (h0 : 0 ≤ left) (h1 : left ≤ 1048576) (hn : n ≤ 9223372036854775807) :
    Calls Tryz.prog 46 #[.slice a n c, .int .i64 left] w fun e w' => e = .returned (.int .i64 (szL left n)) ∧ w' = w := by
  unfold szL
  by_cases h : left - (n : Int) < 0
  · rw [if_pos h]
    go_enter Tryz.func46, Tryz.ntmps46
    go_wp2
    go_ret
    exact ⟨rfl, rfl⟩
  · rw [if_neg h]
    go_enter Tryz.func46, Tryz.ntmps46
    go_wp2
    go_ret
    exact ⟨rfl, rfl⟩

set_option maxRecDepth 100000 in
set_option maxHeartbeats 1000000 in
theorem szEnt_any (w : World) (a : Option Addr) (n c : Nat) (f s t : Int) (v : Bool) (left : Int) (h0 : 0 ≤ left) (h1 : left ≤ 1048576) (hn : n ≤ 9223372036854775807) :
    Calls Tryz.prog 27 #[.agg #[.slice a n c, .int .i64 f, .int .i64 s, .int .i64 t, .bool v], .int .i64 left] w fun e w' => e = .returned (.int .i64 (szL left n)) ∧ Below w.heap.size w w' := by
  have S := fun w => szInt_any w a n c left h0 h1 hn
  by_cases h : szL left n < 0
  · have h' : szL left n = -1 := by unfold szL at *; split at h <;> simp_all
    rw [h'] at S
    rw [h']
    clear h h'
    go_enter Tryz.func27, Tryz.ntmps27
    go_wp2_with (go_at_call 46; refine (S _).mono ?_; rintro e w1 ⟨rfl, rfl⟩)
    go_ret
    exact ⟨rfl, (Below.refl _ _).alloc (Nat.le_refl _) _⟩
  · obtain ⟨z, hz⟩ : ∃ z, z = szL left n := ⟨_, rfl⟩
    rw [← hz] at S h ⊢
    clear hz
    go_enter Tryz.func27, Tryz.ntmps27
    go_wp2_with (go_at_call 46; refine (S _).mono ?_; rintro e w1 ⟨rfl, rfl⟩)
    go_ret
    exact ⟨rfl, (Below.refl _ _).alloc (Nat.le_refl _) _⟩

def SzRel (w : World) (es : List Ent) (ans : Int) (lv i : Value) (wr : World) : Prop :=
  ∃ (k : Nat) (left : Int), k ≤ es.length ∧ i = .int .i64 k ∧ lv = .int .i64 left ∧ 0 ≤ left ∧ left ≤ 1048576 ∧ szEs (es.drop k) left = ans ∧ Below w.heap.size w wr

theorem ent_drop {es : List Ent} {k : Nat} {e : Ent} (h : es[k]? = some e) : es.drop k = e :: es.drop (k + 1) := by
  obtain ⟨hk, rfl⟩ := List.getElem?_eq_some_iff.1 h
  exact List.drop_eq_getElem_cons hk

theorem cell_lt {w : World} {b o : Nat} {v : Value} (h : w.cell? ⟨b, o, none⟩ = some v) : b < w.heap.size := by
  apply Classical.byContradiction
  intro hn
  have : w.heap[b]? = none := by simp; omega
  simp [World.cell?, this] at h

theorem ArgEnt.below {w w' : World} {b p : Nat} {e : Ent} (h : ArgEnt w b p e) (hb : Below w.heap.size w w') : ∃ (ra : Option Addr) (rl rc : Nat) (zs : List Int), IsRow .i64 w ra rl rc zs ∧ e.runes = zs.take rl ∧ e.runes.length = rl ∧ w'.cell? ⟨b, p, none⟩ = some (.slice ra rl rc) ∧ w'.cell? ⟨b, p + 1, none⟩ = some (.int .i64 e.el.first) ∧
    w'.cell? ⟨b, p + 2, none⟩ = some (.int .i64 e.el.second) ∧ w'.cell? ⟨b, p + 3, none⟩ = some (.int .i64 e.el.third) ∧ w'.cell? ⟨b, p + 4, none⟩ = some (.bool e.el.varies) := by
  obtain ⟨ra, rl, rc, zs, hr, h1, h2, a0, a1, a2, a3, a4⟩ := h
  have hlt := cell_lt a0
  exact ⟨ra, rl, rc, zs, hr, h1, h2, by rw [hb.cell hlt]; exact a0, by rw [hb.cell hlt]; exact a1, by rw [hb.cell hlt]; exact a2, by rw [hb.cell hlt]; exact a3, by rw [hb.cell hlt]; exact a4⟩

theorem isRow_len {w : World} {a : Option Addr} {len cap : Nat} {zs : List Int} (h : IsRow .i64 w a len cap zs) : len ≤ 9223372036854775807 := by
  rcases h with ⟨_, rfl, _, _⟩ | ⟨_, _, h1, h2, _⟩
  · omega
  · unfold maxLen at h2; omega

set_option maxRecDepth 100000 in
set_option maxHeartbeats 2000000 in
theorem szEnts_any (w w1 : World) (a : Option Addr) (len cap : Nat) (es : List Ent) (left : Int) (h0 : 0 ≤ left) (h1 : left ≤ 1048576) (hA : ArgEnts w a len cap es) (hb : Below w.heap.size w w1) :
    Calls Tryz.prog 13 #[.slice a len cap, .int .i64 left] w1 fun e w' => e = .returned (.int .i64 (szA es left)) ∧ Below w1.heap.size w1 w' := by
  obtain ⟨hlen, hlc, hcm, hA⟩ := hA
  unfold maxLen at hcm
  by_cases hneg : left - (len : Int) < 0
  · have HA : Hid (szA es left = -1) := by show _ = _; unfold szA; rw [hlen, if_pos hneg]
    clear hA
    go_enter Tryz.func13, Tryz.ntmps13
    go_wp2
    go_ret
    rw [HA.out]
    exact ⟨rfl, Below.refl _ _⟩
  · have HA : Hid (szA es left = szEs es (left - (len : Int))) := by show _ = _; unfold szA; rw [hlen, if_neg hneg]
    subst hlen
    obtain ⟨ans, HANS⟩ : ∃ ans, Hid (szEs es (left - (es.length : Int)) = ans) := ⟨_, rfl⟩
    go_enter Tryz.func13, Tryz.ntmps13
    go_wp2
    go_loopw [1, 5] (fun lv i wr => SzRel w1 es ans lv i wr) (fun _ i _ => es.length - (intOf i).toNat)
    case atStart => exact ⟨0, _, Nat.zero_le _, rfl, rfl, by omega, by omega, by rw [List.drop_zero]; exact HANS.out, Below.refl _ _⟩
    case round =>
      obtain ⟨k, lf, hk, rfl, rfl, hf0, hf1, hR, hbr⟩ := hrel
      have HR : Hid _ := hR
      clear hR
      by_cases hlt : k < es.length
      · obtain ⟨e, he⟩ : ∃ e, es[k]? = some e := ⟨_, List.getElem?_eq_getElem hlt⟩
        obtain ⟨b, o, rfl, hE⟩ := hA.resolve_left (by omega)
        obtain ⟨ra, rl, rc, zs, hr, e1, e2, a0, a1, a2, a3, a4⟩ := (hE k e he).below (hb.trans (hbr.mono hb.size))
        have E2 : Hid (e.runes.length = rl) := e2
        have hrl := isRow_len hr
        have hk8 : (k : Int) < (es.length : Int) := by omega
        have SZ := fun w => szEnt_any w ra rl rc e.el.first e.el.second e.el.third e.el.varies lf hf0 hf1 hrl
        have HR2 : Hid ((if szL lf rl < 0 then -1 else szEs (es.drop (k + 1)) (szL lf rl)) = ans) := by
          show _ = _
          rw [← HR.out, ent_drop he, ← E2.out]
          rfl
        clear hE he hr hrl HR e1 e2
        go_wp2_with fail
        refine (SZ _).mono ?_
        rintro e' w3 ⟨rfl, b3⟩
        clear SZ a0 a1 a2 a3 a4
        by_cases hs : szL lf rl < 0
        · have HF : Hid (-1 = ans) := by show _ = _; rw [← HR2.out, if_pos hs]
          go_wp2
          go_ret
          rw [HA.out, HANS.out, ← HF.out]
          exact ⟨rfl, hbr.trans (b3.mono hbr.size)⟩
        · have hbd := szL_bd hs
          have HF : Hid (szEs (es.drop (k + 1)) (szL lf rl) = ans) := by show _ = _; rw [← HR2.out, if_neg hs]
          obtain ⟨z, hz⟩ : ∃ z, z = szL lf rl := ⟨_, rfl⟩
          have hzb : 0 ≤ z ∧ z ≤ 1048576 := by rw [hz, hbd.1]; omega
          rw [← hz] at HF hs ⊢
          clear hz hbd HR2
          go_wp2
          exact ⟨⟨k + 1, z, hlt, by go_num, rfl, hzb.1, hzb.2, HF.out, hbr.trans (b3.mono hbr.size)⟩, by simp [intOf]; omega⟩
      · have hk3 : k = es.length := by omega
        subst hk3
        have HF : Hid (lf = ans) := by show _ = _; rw [← HR.out, List.drop_length]; rfl
        clear HR hA
        go_wp2
        go_ret
        rw [HA.out, HANS.out, ← HF.out]
        exact ⟨rfl, hbr⟩

set_option maxRecDepth 100000 in
set_option maxHeartbeats 2000000 in
theorem szRules_any (w w1 : World) (a : Option Addr) (len cap : Nat) (es : List Ent) (sh : Bool) (lv left : Int) (h0 : 0 ≤ left) (h1 : left ≤ 1048576) (hA : ArgEnts w a len cap es) (hb : Below w.heap.size w w1) :
    Calls Tryz.prog 4 #[.agg #[.slice a len cap, .bool sh, .int .i64 lv], .int .i64 left] w1 fun e w' => e = .returned (.int .i64 (szA es left)) ∧ Below w1.heap.size w1 w' := by
  have S := fun (u : World) (hu : Below w.heap.size w u) => szEnts_any w u a len cap es left h0 h1 hA hu
  have hb2 := (Below.refl w1.heap.size w1).alloc (Nat.le_refl _) (.cells #[.slice a len cap, .bool sh, .int .i64 lv] 24)
  have S2 := S _ (hb.trans (hb2.mono hb.size))
  have HB : Hid (Below _ _ _) := hb2
  clear S hA hb hb2
  by_cases h : szA es left < 0
  · have h' : szA es left = -1 := by
      unfold szA at *
      split at h
      · rename_i c; rw [if_pos c]
      · rename_i c; rw [if_neg c]; exact szEs_neg _ _ (by omega) h
    rw [h'] at S2
    rw [h']
    clear h h'
    go_enter Tryz.func4, Tryz.ntmps4
    go_wp2_with fail
    refine S2.mono ?_
    rintro e w3 ⟨rfl, b3⟩
    go_wp2
    go_ret
    exact ⟨rfl, HB.out.trans (b3.mono HB.out.size)⟩
  · obtain ⟨z, hz⟩ : ∃ z, z = szA es left := ⟨_, rfl⟩
    rw [← hz] at S2 h ⊢
    clear hz
    go_enter Tryz.func4, Tryz.ntmps4
    go_wp2_with fail
    refine S2.mono ?_
    rintro e w3 ⟨rfl, b3⟩
    go_wp2
    go_ret
    exact ⟨rfl, HB.out.trans (b3.mono HB.out.size)⟩
end Go.Proofs.YtddelohmppdndaaGreatDoor

namespace Go.Proofs.YtddelohmppdndaaGreatDoor
open Go.RowKit

set_option maxRecDepth 100000 in
set_option maxHeartbeats 1000000 in
theorem eq_none (w : World) (a b : Option Addr) (c d : Nat) : Calls Tryz.prog 66 #[.slice a 0 c, .slice b 0 d] w fun e w' => e = .returned (.bool true) ∧ ∃ n, w' = w.drewN n := by
  go_enter Tryz.func66, Tryz.ntmps66
  go_wp2
  go_loopw [5] (fun i wr => i = .int .i64 0 ∧ wr = w) (fun _ _ => 0)
  case atStart => exact ⟨rfl, rfl⟩
  case round =>
    obtain ⟨rfl, rfl⟩ := hrel
    go_wp2
    go_ret
    exact ⟨rfl, 0, rfl⟩

set_option maxRecDepth 100000 in
set_option maxHeartbeats 1000000 in
theorem eq_row (w : World) (g g' cap cap' : Nat) (zs : List Int) (hz : zs.length ≤ maxLen)
    (h1 : ∀ j, j < zs.length → w.cell? ⟨g, j, none⟩ = some (.int .i64 (zs[j]?.getD 0)))
    (h2 : ∀ j, j < zs.length → w.cell? ⟨g', j, none⟩ = some (.int .i64 (zs[j]?.getD 0))) :
    Calls Tryz.prog 66 #[.slice (some ⟨g, 0, none⟩) zs.length cap, .slice (some ⟨g', 0, none⟩) zs.length cap'] w fun e w' => e = .returned (.bool true) ∧ ∃ n, w' = w.drewN n := by
  unfold maxLen at hz
  go_enter Tryz.func66, Tryz.ntmps66
  go_wp2
  go_loopw [5] (fun i wr => ∃ k nq : Nat, k ≤ zs.length ∧ i = .int .i64 k ∧ wr = w.drewN nq) (fun i _ => zs.length - (intOf i).toNat)
  case atStart => exact ⟨0, 0, Nat.zero_le _, rfl, rfl⟩
  case round =>
    obtain ⟨k, nq, hk, rfl, rfl⟩ := hrel
    by_cases hlt : k < zs.length
    · have g1 := h1 k hlt
      have g2 := h2 k hlt
      have hz2 : (k : Int) < (zs.length : Int) := by omega
      have HZ : Hid (zs.length ≤ 2 ^ 63 - 1) := hz
      have H1 : Hid _ := h1
      have H2 : Hid _ := h2
      clear h1 h2
      go_wp2
      go_quiet (fail)
      go_wp2
      go_roundw
      case rel => exact ⟨k + 1, _, by omega, by go_num, rfl⟩
      case measure => simp [intOf]; omega
    · go_wp2
      go_ret
      exact ⟨rfl, _, rfl⟩

theorem eq_any {w : World} {B B' : Nat} {a b : Value} {zs : List Int} (ha : Ints w B a zs) (hb : Ints w B' b zs) :
    Calls Tryz.prog 66 #[a, b] w fun e w' => e = .returned (.bool true) ∧ ∃ n, w' = w.drewN n := by
  rcases ha.form with ⟨rfl, rfl⟩ | ⟨g, cap, rfl, h1, h2⟩
  · rcases hb.form with ⟨rfl, _⟩ | ⟨g', cap', rfl, _, _⟩
    · exact eq_none w _ _ _ _
    · exact eq_none w _ _ _ _
  · rcases hb.form with ⟨rfl, rfl⟩ | ⟨g', cap', rfl, _, _⟩
    · exact eq_none w _ _ _ _
    · exact eq_row w g g' cap cap' zs (by omega) (fun j hj => ha.cell j hj) (fun j hj => hb.cell j hj)
end Go.Proofs.YtddelohmppdndaaGreatDoor

namespace Go.Proofs.YtddelohmppdndaaGreatDoor
open Go.RowKit

def filled (zs : List Int) (n : Nat) : Nat → List Int
  | 0 => List.replicate n 0
  | k + 1 => (filled zs n k).set k (zs[k]?.getD 0)

theorem filled_length (zs : List Int) (n k : Nat) : (filled zs n k).length = n := by
  induction k with
  | zero => simp [filled]
  | succ k ih => simp [filled, ih]

theorem filled_at (zs : List Int) (n k j : Nat) (hj : j < k) (hn : j < n) : (filled zs n k)[j]? = some (zs[j]?.getD 0) := by
  induction k with
  | zero => omega
  | succ k ih =>
    simp only [filled, List.getElem?_set, filled_length]
    by_cases e : k = j
    · subst e; simp [hn]
    · rw [if_neg e]; exact ih (by omega)

theorem filled_all (zs : List Int) (n : Nat) (h : n ≤ zs.length) : filled zs n n = zs.take n := by
  apply List.ext_getElem?
  intro j
  by_cases hj : j < n
  · rw [filled_at zs n n j hj hj]
    rw [List.getElem?_take, if_pos hj, List.getElem?_eq_getElem (by omega)]
    rfl
  · rw [List.getElem?_eq_none (by rw [filled_length]; omega), List.getElem?_eq_none (by simp; omega)]

theorem filled_map (zs : List Int) (n k : Nat) : ((filled zs n k).map (Value.int .i64)).set k (.int .i64 (zs[k]?.getD 0)) = (filled zs n (k + 1)).map (Value.int .i64) := by
  simp [filled, List.map_set]

def ToRel (w : World) (n : Nat) (zs : List Int) (i : Value) (wr : World) : Prop :=
  ∃ k : Nat, k ≤ n ∧ i = .int .i64 k ∧ wr.ownsRow w.heap.size 3 1 (.slice (some ⟨w.heap.size, 0, none⟩) n n) n ((filled zs n k).map (Value.int .i64)) ∧ Below w.heap.size w wr

theorem made_ints (n : Nat) : (madeCells (Value.int .i64 0).cells (n * 1)).toList = (List.replicate n (0 : Int)).map (Value.int .i64) := by
  have h := toList_madeCells_one (Value.int .i64 0) n
  simpa [Value.cells] using h

set_option maxRecDepth 100000 in
set_option maxHeartbeats 1000000 in
theorem toInt_none (w : World) (a : Option Addr) (c : Nat) :
    Calls Tryz.prog 53 #[.slice a 0 c] w fun e w' => ∃ v, e = .returned v ∧ Ints w' w.heap.size v [] ∧ Below w.heap.size w w' := by
  obtain ⟨i0, hi, hz0, hz1, hz2⟩ := info_parts info_int
  go_enter Tryz.func53, Tryz.ntmps53
  go_wp2_with (at_make; refine wpList_make_full _ rfl _ _ 39 rfl w.heap.size 3 i0 (.int .i64 0) 1 Tryz.underlying39 hi hz0 hz1 .i64 .i64 _ _ 0 rfl rfl rfl rfl (by omega) (by unfold maxLen; omega) (Nat.le_refl _) ?_; intro w1 hown hgr)
  have hI : Ints w1 w.heap.size (.slice (some ⟨w.heap.size, 0, none⟩) 0 0) [] := by
    rw [made_ints] at hown
    simpa [Ints] using hown
  have hb1 : Below w.heap.size w w1 := Below.grown (Below.refl _ _) hgr (Nat.le_refl _) (fun j hj => by cases hj)
  clear hown hgr
  go_loopw [4] (fun i wr => i = .int .i64 0 ∧ wr = w1) (fun _ _ => 0)
  case atStart => exact ⟨rfl, rfl⟩
  case round =>
    obtain ⟨rfl, rfl⟩ := hrel
    go_wp2
    go_ret
    exact ⟨_, rfl, hI, hb1⟩

set_option maxRecDepth 100000 in
set_option maxHeartbeats 1000000 in
theorem toInt_row (w : World) (b off n cap : Nat) (zs : List Int) (hn : n ≤ zs.length) (hm : n ≤ 1073741824) (hb : b < w.heap.size)
    (hc : ∀ j, j < n → w.cell? ⟨b, off + j, none⟩ = some (.int .i64 (zs[j]?.getD 0))) :
    Calls Tryz.prog 53 #[.slice (some ⟨b, off, none⟩) n cap] w fun e w' => ∃ v, e = .returned v ∧ Ints w' w.heap.size v (zs.take n) ∧ Below w.heap.size w w' := by
  obtain ⟨i0, hi, hz0, hz1, hz2⟩ := info_parts info_int
  go_enter Tryz.func53, Tryz.ntmps53
  go_wp2_with (at_make; refine wpList_make_full _ rfl _ _ 39 rfl w.heap.size 3 i0 (.int .i64 0) 1 Tryz.underlying39 hi hz0 hz1 .i64 .i64 _ _ n rfl rfl rfl rfl (by rw [hz2]; omega) (by unfold maxLen; omega) (Nat.le_refl _) ?_; intro w1 hown hgr)
  have hI : w1.ownsRow w.heap.size 3 1 (.slice (some ⟨w.heap.size, 0, none⟩) n n) n ((filled zs n 0).map (Value.int .i64)) := by
    rw [made_ints] at hown
    exact hown
  have hb1 : Below w.heap.size w w1 := Below.grown (Below.refl _ _) hgr (Nat.le_refl _) (fun j hj => by cases hj)
  clear hown hgr
  go_loopw [4] (fun i wr => ToRel w n zs i wr) (fun i _ => n - (intOf i).toNat)
  case atStart => exact ⟨0, Nat.zero_le _, rfl, hI, hb1⟩
  case round =>
    clear hI hb1
    obtain ⟨k, hk, rfl, hown, hbw⟩ := hrel
    by_cases hlt : k < n
    · have c0 := (hbw.cell (p := ⟨b, off + k, none⟩) hb).trans (hc k hlt)
      have c1 := hown.cellAt k (by omega)
      have hm2 : ((filled zs n k).map (Value.int .i64))[k]? = some (.int .i64 ((filled zs n k)[k]?.getD 0)) := by
        have := filled_length zs n k
        simp [this, hlt]
      rw [hm2] at c1
      have c2 := hown.frozenAt k
      have hst := hown.stored k (.int .i64 (zs[k]?.getD 0))
      rw [filled_map] at hst
      have HST : Hid _ := hst
      have hkz : k < zs.length := by omega
      obtain ⟨x, hx⟩ : ∃ x, x = zs[k]?.getD 0 := ⟨_, rfl⟩
      rw [← hx] at c0 HST
      have HX : Hid _ := hx
      have HC : Hid _ := hc
      clear hst hm2 hx hc
      go_wp2
      go_roundw
      case rel => exact ⟨k + 1, by omega, by go_num, HST.out.1, Below.grown hbw HST.out.2 hbw.size (fun j hj => by cases hj; exact Nat.le_refl _)⟩
      case measure => simp [intOf]; omega
    · have hkz : k = n := by omega
      subst hkz
      have hf := filled_all zs k hn
      rw [hf] at hown
      have hl : (zs.take k).length = k := by simp; omega
      have hown2 : Ints wr w.heap.size (.slice (some ⟨w.heap.size, 0, none⟩) k k) (zs.take k) := by
        unfold Ints; rw [hl]; exact hown
      clear hf hl hown hc
      go_wp2
      go_ret
      exact ⟨_, rfl, hown2, hbw⟩
end Go.Proofs.YtddelohmppdndaaGreatDoor

namespace Go.Proofs.YtddelohmppdndaaGreatDoor
open Go.RowKit

theorem toInt_any (w w1 : World) (a0 : Option Addr) (len cap : Nat) (zs : List Int) (h : IsRow .i64 w a0 len cap zs) (hb : Below w.heap.size w w1) (hm : len ≤ 1048576) :
    Calls Tryz.prog 53 #[.slice a0 len cap] w1 fun e w' => ∃ v, e = .returned v ∧ Ints w' w1.heap.size v (zs.take len) ∧ Below w1.heap.size w1 w' := by
  rcases h with ⟨rfl, rfl, rfl, rfl⟩ | ⟨x, rfl, hl, hc, hz, hcell, _⟩
  · exact toInt_none w1 _ _
  · by_cases h0 : len = 0
    · subst h0
      exact toInt_none w1 _ _
    · obtain ⟨b, off, rfl, hc2⟩ := ints_at hcell (by omega)
      have hlt : b < w.heap.size := by
        have h1 := hc2 0 (by omega)
        apply Classical.byContradiction
        intro hn
        have : w.heap[b]? = none := by simp; omega
        simp [World.cell?, this] at h1
      exact toInt_row w1 b off len cap zs (by omega) (by omega) (Nat.lt_of_lt_of_le hlt hb.size) (fun j hj => by
        rw [hb.cell (p := ⟨b, off + j, none⟩) hlt, hc2 j (by omega)]; rfl)
end Go.Proofs.YtddelohmppdndaaGreatDoor

namespace Go.Proofs.YtddelohmppdndaaGreatDoor
open Go.RowKit

theorem addr_ne {b b' o o' : Nat} (h : b ≠ b' ∨ o ≠ o') : (⟨b, o, none⟩ : Addr) ≠ ⟨b', o', none⟩ := by
  intro e
  injection e
  omega

theorem cs_ne {u : World} {b b' o o' : Nat} {x : Value} (h : b ≠ b' ∨ o ≠ o') : (u.setCell ⟨b, o, none⟩ x).cell? ⟨b', o', none⟩ = u.cell? ⟨b', o', none⟩ := by
  apply World.cell?_setCell_other
  exact addr_ne h

theorem cs_eq {u : World} {a : Addr} {x y : Value} (h : u.cell? a = some y) : (u.setCell a x).cell? a = some x := by
  apply World.cell?_setCell_same
  exact h

/-- An elem laid into a block. -/
def setEl (u : World) (b : Nat) (e : El) : World := (((u.setCell ⟨b, 0, none⟩ (.int .i64 e.first)).setCell ⟨b, 1, none⟩ (.int .i64 e.second)).setCell ⟨b, 2, none⟩ (.int .i64 e.third)).setCell ⟨b, 3, none⟩ (.bool e.varies)

theorem setEl_far {u : World} {b b' o : Nat} {e : El} (h : b ≠ b') : (setEl u b e).cell? ⟨b', o, none⟩ = u.cell? ⟨b', o, none⟩ := by
  unfold setEl
  rw [cs_ne (.inl h), cs_ne (.inl h), cs_ne (.inl h), cs_ne (.inl h)]

theorem setEl_grown (u : World) (b : Nat) (e : El) : u.grownBy (setEl u b e) (some b) :=
  (((setCell_grown u b 0 _).trans (setCell_grown _ b 1 _)).trans (setCell_grown _ b 2 _)).trans (setCell_grown _ b 3 _)

theorem Ents.grown {u u' : World} {B b : Nat} {v : Value} {es : List Ent} (h : Ents u B v es) (hg : u.grownBy u' (some b)) (hb : b < B) : Ents u' B v es := by
  have ne : ∀ {v : Value}, (∀ g, v.ownBlock = some g → B ≤ g) → v.ownBlock = none ∨ v.ownBlock ≠ some b := fun {v} h => by
    cases e : v.ownBlock with
    | none => exact .inl rfl
    | some g =>
      refine .inr fun c => ?_
      have := h g e
      cases c
      omega
  obtain ⟨xs, hl, h1, h2⟩ := h
  refine ⟨xs, hl, World.ownsRow.kept h1 hg (ne fun g hg => (World.ownsRow.lt h1 g hg).1), fun k e he => ?_⟩
  obtain ⟨x, hx, hI⟩ := h2 k e he
  exact ⟨x, hx, World.ownsRow.kept hI hg (ne fun g hg => (World.ownsRow.lt hI g hg).1)⟩

theorem below_setEl {w u : World} {b : Nat} (h : Below w.heap.size w u) (hb : w.heap.size ≤ b) (e : El) : Below w.heap.size w (setEl u b e) :=
  (((h.setCell hb _).setCell hb _).setCell hb _).setCell hb _

theorem Ents.low {u : World} {B B' : Nat} {v : Value} {es : List Ent} (h : Ents u B' v es) (hB : B ≤ B') : Ents u B v es := by
  obtain ⟨xs, hl, h1, h2⟩ := h
  refine ⟨xs, hl, ?_, fun k e he => ?_⟩
  · obtain ⟨h3, h4⟩ := h1
    refine ⟨h3, ?_⟩
    rcases h4 with h4 | ⟨g, cap, cur, a, b, c⟩
    · exact .inl h4
    · exact .inr ⟨g, cap, cur, a, by omega, c⟩
  · obtain ⟨x, hx, hI⟩ := h2 k e he
    exact ⟨x, hx, ints_low2 hI hB⟩

theorem cells5_new (w : World) (x : Value) (e : El) (t : TypeId) : ∀ j u, (entC x e)[j]? = some u → (w.alloc (.cells #[x, .int .i64 e.first, .int .i64 e.second, .int .i64 e.third, .bool e.varies] t)).cell? ((⟨w.heap.size, 0, none⟩ : Addr).add j) = some u := by
  intro j u hj
  match j, hj with
  | 0, hj => simp [entC] at hj; subst hj; simp [Addr.add]
  | 1, hj => simp [entC] at hj; subst hj; simp [Addr.add]
  | 2, hj => simp [entC] at hj; subst hj; simp [Addr.add]
  | 3, hj => simp [entC] at hj; subst hj; simp [Addr.add]
  | 4, hj => simp [entC] at hj; subst hj; simp [Addr.add]
  | j + 5, hj => simp [entC] at hj

theorem cells5_at (w : World) (n : Nat) (x : Value) (e : El) (t : TypeId) (hn : n = w.heap.size) : ∀ j u, (entC x e)[j]? = some u → (w.alloc (.cells #[x, .int .i64 e.first, .int .i64 e.second, .int .i64 e.third, .bool e.varies] t)).cell? ((⟨n, 0, none⟩ : Addr).add j) = some u := by
  subst hn
  exact cells5_new w x e t

theorem info_ent : (Tryz.prog.info? 69).map (fun i => (i.zero, i.size, i.bytes)) = some (some (.agg #[.slice none 0 0, .int .i64 0, .int .i64 0, .int .i64 0, .bool false]), 5, 56) := by kernel_rfl

theorem entAll_snoc (xs : List Value) (es : List Ent) (x : Value) (e : Ent) (h : xs.length = es.length) : entAll (xs ++ [x]) (es ++ [e]) = entAll xs es ++ entC x e.el := by
  induction es generalizing xs with
  | nil => cases xs with
    | nil => rfl
    | cons y ys => simp at h
  | cons e' es ih => cases xs with
    | nil => simp at h
    | cons y ys =>
      show entC y e'.el ++ entAll (ys ++ [x]) (es ++ [e]) = (entC y e'.el ++ entAll ys es) ++ _
      rw [ih ys (by simpa using h), List.append_assoc]

/-- One entry put behind. -/
theorem Ents.snoc {u u' : World} {B : Nat} {v v' : Value} {es : List Ent} {xs : List Value} {x : Value} {e : Ent} (hl : xs.length = es.length)
    (h2 : ∀ (k : Nat) (e : Ent), es[k]? = some e → ∃ x, xs[k]? = some x ∧ Ints u B x e.runes) (hI : Ints u B x e.runes)
    (h1 : u.ownsRow B 69 5 v es.length (entAll xs es))
    (hg : u.grownBy u' v.ownBlock) (h : u'.ownsRow B 69 5 v' (es.length + 1) (entAll xs es ++ entC x e.el)) : Ents u' B v' (es ++ [e]) := by
  refine ⟨xs ++ [x], by simp [hl], ?_, fun k y hy => ?_⟩
  · rw [entAll_snoc xs es x e hl, List.length_append]
    exact h
  · by_cases hk : k < es.length
    · rw [List.getElem?_append_left hk] at hy
      obtain ⟨z, hz, hzi⟩ := h2 k y hy
      have hz1 := (List.getElem?_eq_some_iff.1 hz).1
      refine ⟨z, by rw [List.getElem?_append_left hz1]; exact hz, World.ownsRow.kept hzi hg (own_type hzi h1 (by decide))⟩
    · have hk2 : k = es.length := by
        have := (List.getElem?_eq_some_iff.1 hy).1
        simp at this; omega
      subst hk2
      simp at hy
      subst hy
      exact ⟨x, by rw [← hl]; simp, World.ownsRow.kept hI hg (own_type hI h1 (by decide))⟩
end Go.Proofs.YtddelohmppdndaaGreatDoor

namespace Go.Proofs.YtddelohmppdndaaGreatDoor
open Go.RowKit

theorem entAll_set (xs : List Value) (es : List Ent) (k : Nat) (x : Value) (e : Ent) (h : xs.length = es.length) (hk : k < es.length) :
    entAll (xs.set k x) (es.set k e) = (((((entAll xs es).set (k * 5) x).set (k * 5 + 1) (.int .i64 e.el.first)).set (k * 5 + 2) (.int .i64 e.el.second)).set (k * 5 + 3) (.int .i64 e.el.third)).set (k * 5 + 4) (.bool e.el.varies) := by
  induction es generalizing xs k with
  | nil => simp at hk
  | cons e' es ih => cases xs with
    | nil => simp at h
    | cons y ys =>
      cases k with
      | zero => rfl
      | succ k =>
        have hk' : k < es.length := by simpa using hk
        show entC y e'.el ++ entAll (ys.set k x) (es.set k e) = (((((entC y e'.el ++ entAll ys es).set ((k + 1) * 5) _).set ((k + 1) * 5 + 1) _).set ((k + 1) * 5 + 2) _).set ((k + 1) * 5 + 3) _).set ((k + 1) * 5 + 4) _
        rw [ih ys k (by simpa using h) hk', List.set_append_right _ _ (by show 5 ≤ _; omega), List.set_append_right _ _ (by show 5 ≤ _; omega), List.set_append_right _ _ (by show 5 ≤ _; omega), List.set_append_right _ _ (by show 5 ≤ _; omega), List.set_append_right _ _ (by show 5 ≤ _; omega)]
        have q0 : (k + 1) * 5 - (entC y e'.el).length = k * 5 := by show (k + 1) * 5 - 5 = _; omega
        have q1 : (k + 1) * 5 + 1 - (entC y e'.el).length = k * 5 + 1 := by show (k + 1) * 5 + 1 - 5 = _; omega
        have q2 : (k + 1) * 5 + 2 - (entC y e'.el).length = k * 5 + 2 := by show (k + 1) * 5 + 2 - 5 = _; omega
        have q3 : (k + 1) * 5 + 3 - (entC y e'.el).length = k * 5 + 3 := by show (k + 1) * 5 + 3 - 5 = _; omega
        have q4 : (k + 1) * 5 + 4 - (entC y e'.el).length = k * 5 + 4 := by show (k + 1) * 5 + 4 - 5 = _; omega
        rw [q0, q1, q2, q3, q4]

/-- The five cells of an entry laid into a block. -/
def set5 (u : World) (g p : Nat) (x : Value) (e : El) : World := ((((u.setCell ⟨g, p, none⟩ x).setCell ⟨g, p + 1, none⟩ (.int .i64 e.first)).setCell ⟨g, p + 2, none⟩ (.int .i64 e.second)).setCell ⟨g, p + 3, none⟩ (.int .i64 e.third)).setCell ⟨g, p + 4, none⟩ (.bool e.varies)

theorem set5_grown (u : World) (g p : Nat) (x : Value) (e : El) : u.grownBy (set5 u g p x e) (some g) :=
  ((((setCell_grown u g p _).trans (setCell_grown _ g (p + 1) _)).trans (setCell_grown _ g (p + 2) _)).trans (setCell_grown _ g (p + 3) _)).trans (setCell_grown _ g (p + 4) _)

/-- An entry laid anew at its place. -/
theorem Ents.setAt {u : World} {B g cap n k : Nat} {es : List Ent} {x : Value} {e : Ent} (h : Ents u B (.slice (some ⟨g, 0, none⟩) n cap) es) (hn : es.length = n) (hk : k < n) (hI : Ints u B x e.runes) :
    Ents (set5 u g (k * 5) x e.el) B (.slice (some ⟨g, 0, none⟩) n cap) (es.set k e) := by
  subst hn
  obtain ⟨xs, hl, h1, h2⟩ := h
  have s1 := h1.stored (k * 5) x
  have s2 := s1.1.stored (k * 5 + 1) (.int .i64 e.el.first)
  have s3 := s2.1.stored (k * 5 + 2) (.int .i64 e.el.second)
  have s4 := s3.1.stored (k * 5 + 3) (.int .i64 e.el.third)
  have s5 := s4.1.stored (k * 5 + 4) (.bool e.el.varies)
  have hg := set5_grown u g (k * 5) x e.el
  refine ⟨xs.set k x, by simp [hl], ?_, fun j y hy => ?_⟩
  · rw [entAll_set xs es k x e hl hk, List.length_set]
    exact s5.1
  · by_cases c : j = k
    · subst c
      rw [List.getElem?_set_self (by omega)] at hy
      cases hy
      exact ⟨x, by rw [List.getElem?_set_self (by omega)], World.ownsRow.kept hI hg (own_type hI h1 (by decide))⟩
    · rw [List.getElem?_set_ne (by omega)] at hy
      obtain ⟨z, hz, hzi⟩ := h2 j y hy
      exact ⟨z, by rw [List.getElem?_set_ne (by omega)]; exact hz, World.ownsRow.kept hzi hg (own_type hzi h1 (by decide))⟩
end Go.Proofs.YtddelohmppdndaaGreatDoor

namespace Go.Proofs.YtddelohmppdndaaGreatDoor
open Go.RowKit

/-- The blocks of toEntry: the argument's, the result's, the copy's. -/
def TB (u : World) (b : Nat) (x f s t v x' f' s' t' v' : Value) : Prop :=
  u.heap[b]? = some (.cells #[x, f, s, t, v] 62) ∧ u.heap[b + 1]? = some (.cells #[.slice none 0 0, .int .i64 0, .int .i64 0, .int .i64 0, .bool false] 69) ∧ u.heap[b + 1 + 1]? = some (.cells #[x', f', s', t', v'] 69)

theorem alloc3_heap (w : World) (o1 o2 o3 : Obj) : (((w.alloc o1).alloc o2).alloc o3).heap[w.heap.size]? = some o1 ∧ (((w.alloc o1).alloc o2).alloc o3).heap[w.heap.size + 1]? = some o2 ∧ (((w.alloc o1).alloc o2).alloc o3).heap[w.heap.size + 1 + 1]? = some o3 := by
  refine ⟨?_, ?_, ?_⟩
  · rw [Below.heap_alloc _ _ _ (by simp; omega), Below.heap_alloc _ _ _ (by simp)]; exact heap_alloc_new w _
  · rw [Below.heap_alloc _ _ _ (by simp)]; exact heap_alloc2_new w _ _
  · have := heap_alloc_new ((w.alloc o1).alloc o2) o3
    simpa using this

theorem TB.below {u u' : World} {b : Nat} {x f s t v x' f' s' t' v' : Value} (h : TB u b x f s t v x' f' s' t' v') (hb : Below u.heap.size u u') : TB u' b x f s t v x' f' s' t' v' := by
  obtain ⟨h1, h2, h3⟩ := h
  exact ⟨by rw [hb.block _ (Array.getElem?_eq_some_iff.1 h1).1]; exact h1, by rw [hb.block _ (Array.getElem?_eq_some_iff.1 h2).1]; exact h2, by rw [hb.block _ (Array.getElem?_eq_some_iff.1 h3).1]; exact h3⟩

theorem TB.setRunes {u : World} {b : Nat} {x f s t v x' f' s' t' v' : Value} (h : TB u b x f s t v x' f' s' t' v') (y : Value) : TB (u.setCell ⟨b + 1 + 1, 0, none⟩ y) b x f s t v y f' s' t' v' := by
  obtain ⟨h1, h2, h3⟩ := h
  refine ⟨?_, ?_, ?_⟩
  · rw [(setCell_grown u (b + 1 + 1) 0 y).block b (Array.getElem?_eq_some_iff.1 h1).1 (by simp; omega)]; exact h1
  · rw [(setCell_grown u (b + 1 + 1) 0 y).block (b + 1) (Array.getElem?_eq_some_iff.1 h2).1 (by simp)]; exact h2
  · simp [World.setCell, Array.getElem?_modify, h3]

theorem TB.facts {u : World} {b : Nat} {x f s t v x' f' s' t' v' : Value} (h : TB u b x f s t v x' f' s' t' v') :
    (b < u.heap.size ∧ b + 1 < u.heap.size ∧ b + 1 + 1 < u.heap.size) ∧
    (u.cell? ⟨b, 0, none⟩ = some x ∧ u.cell? ⟨b, 1, none⟩ = some f ∧ u.cell? ⟨b, 2, none⟩ = some s ∧ u.cell? ⟨b, 3, none⟩ = some t ∧ u.cell? ⟨b, 4, none⟩ = some v) ∧
    (u.cell? ⟨b + 1, 0, none⟩ = some (.slice none 0 0) ∧ u.cell? ⟨b + 1, 1, none⟩ = some (.int .i64 0) ∧ u.cell? ⟨b + 1, 2, none⟩ = some (.int .i64 0) ∧ u.cell? ⟨b + 1, 3, none⟩ = some (.int .i64 0) ∧ u.cell? ⟨b + 1, 4, none⟩ = some (.bool false) ∧ ∀ j, u.frozen? ⟨b + 1, j, none⟩ = false) ∧
    (u.cell? ⟨b + 1 + 1, 0, none⟩ = some x' ∧ u.cell? ⟨b + 1 + 1, 1, none⟩ = some f' ∧ u.cell? ⟨b + 1 + 1, 2, none⟩ = some s' ∧ u.cell? ⟨b + 1 + 1, 3, none⟩ = some t' ∧ u.cell? ⟨b + 1 + 1, 4, none⟩ = some v' ∧ ∀ j, u.frozen? ⟨b + 1 + 1, j, none⟩ = false) :=
  ⟨⟨(Array.getElem?_eq_some_iff.1 h.1).1, (Array.getElem?_eq_some_iff.1 h.2.1).1, (Array.getElem?_eq_some_iff.1 h.2.2).1⟩,
    ⟨cell_of_row _ _ 0 _ _ _ h.1, cell_of_row _ _ 1 _ _ _ h.1, cell_of_row _ _ 2 _ _ _ h.1, cell_of_row _ _ 3 _ _ _ h.1, cell_of_row _ _ 4 _ _ _ h.1⟩,
    ⟨cell_of_row _ _ 0 _ _ _ h.2.1, cell_of_row _ _ 1 _ _ _ h.2.1, cell_of_row _ _ 2 _ _ _ h.2.1, cell_of_row _ _ 3 _ _ _ h.2.1, cell_of_row _ _ 4 _ _ _ h.2.1, fun j => by simp [World.frozen?, h.2.1]⟩,
    ⟨cell_of_row _ _ 0 _ _ _ h.2.2, cell_of_row _ _ 1 _ _ _ h.2.2, cell_of_row _ _ 2 _ _ _ h.2.2, cell_of_row _ _ 3 _ _ _ h.2.2, cell_of_row _ _ 4 _ _ _ h.2.2, fun j => by simp [World.frozen?, h.2.2]⟩⟩

theorem Ints.away {u u' : World} {B b : Nat} {v : Value} {l : List Int} (h : Ints u B v l) (hg : u.grownBy u' (some b)) (hb : b < B) : Ints u' B v l :=
  World.ownsRow.kept h hg (by
    cases e : v.ownBlock with
    | none => exact .inl rfl
    | some g =>
      refine .inr fun c => ?_
      have := (World.ownsRow.lt h g e).1
      cases c
      omega)

set_option maxRecDepth 100000 in
set_option maxHeartbeats 2000000 in
theorem toEntry_any (w0 w : World) (ra : Option Addr) (rl rc : Nat) (zs : List Int) (f s t : Int) (v : Bool) (hr : IsRow .i64 w0 ra rl rc zs) (hb : Below w0.heap.size w0 w) (hm : rl ≤ 1048576) :
    Calls Tryz.prog 37 #[.agg #[.slice ra rl rc, .int .i64 f, .int .i64 s, .int .i64 t, .bool v]] w fun e w' => ∃ x, e = .returned (.agg #[x, .int .i64 f, .int .i64 s, .int .i64 t, .bool v]) ∧ Ints w' w.heap.size x (zs.take rl) ∧ Below w.heap.size w w' := by
  have hb3 := (((Below.refl w.heap.size w).alloc (Nat.le_refl _) (.cells #[.slice ra rl rc, .int .i64 f, .int .i64 s, .int .i64 t, .bool v] 62)).alloc (by simp) (.cells #[.slice none 0 0, .int .i64 0, .int .i64 0, .int .i64 0, .bool false] 69)).alloc (by simp; omega) (.cells #[.slice none 0 0, .int .i64 0, .int .i64 0, .int .i64 0, .bool false] 69)
  have T := toInt_any w0 _ ra rl rc zs hr (hb.trans (hb3.mono hb.size)) hm
  have HX : Hid (TB _ _ _ _ _ _ _ _ _ _ _ _) := alloc3_heap w (.cells #[.slice ra rl rc, .int .i64 f, .int .i64 s, .int .i64 t, .bool v] 62) (.cells #[.slice none 0 0, .int .i64 0, .int .i64 0, .int .i64 0, .bool false] 69) (.cells #[.slice none 0 0, .int .i64 0, .int .i64 0, .int .i64 0, .bool false] 69)
  have HB : Hid (Below _ _ _) := hb3
  have E := fun w => toElem_any w f s t v
  clear hb3 hr hb
  generalize zs.take rl = ys at *
  go_enter Tryz.func37, Tryz.ntmps37
  go_wp2_with fail
  refine T.mono ?_
  rintro e w3 ⟨x, rfl, i3, b3⟩
  obtain ⟨xa, xn, xc, rfl⟩ : ∃ xa xn xc, x = .slice xa xn xc := by
    rcases i3.form with ⟨rfl, _⟩ | ⟨_, _, rfl, _, _⟩
    · exact ⟨_, _, _, rfl⟩
    · exact ⟨_, _, _, rfl⟩
  have hx3 := HX.out.below b3
  have hi3 : Ints w3 (w.heap.size + 1 + 1 + 1) (.slice xa xn xc) ys := by simpa using i3
  have c3 := HB.out.trans (b3.mono HB.out.size)
  have HX4 : Hid (TB _ _ _ _ _ _ _ _ _ _ _ _) := hx3.setRunes (.slice xa xn xc)
  have HI4 : Hid (Ints _ _ _ _) := hi3.away (setCell_grown w3 (w.heap.size + 1 + 1) 0 (.slice xa xn xc)) (by omega)
  have HB4 : Hid (Below _ _ _) := grown_ge c3 (setCell_grown w3 (w.heap.size + 1 + 1) 0 (.slice xa xn xc)) (by omega)
  obtain ⟨⟨l1, l2, l3⟩, ⟨a0, a1, a2, a3, a4⟩, ⟨q0, q1, q2, q3, q4, qf⟩, ⟨p0, p1, p2, p3, p4, pf⟩⟩ := hx3.facts
  clear T HX HB b3 i3 hi3 c3 hx3
  go_wp2_with fail
  refine (E _).mono ?_
  rintro e w5 ⟨rfl, b5⟩
  clear E a0 a1 a2 a3 a4 q0 q1 q2 q3 q4 qf p0 p1 p2 p3 p4 pf l1 l2 l3
  have hx5 := HX4.out.below b5
  have HI5 : Hid (Ints _ _ _ _) := HI4.out.below b5
  have HB5 : Hid (Below _ _ _) := HB4.out.trans (b5.mono HB4.out.size)
  obtain ⟨⟨l1, l2, l3⟩, ⟨a0, a1, a2, a3, a4⟩, ⟨q0, q1, q2, q3, q4, qf⟩, ⟨p0, p1, p2, p3, p4, pf⟩⟩ := hx5.facts
  clear HX4 HI4 HB4 b5 hx5
  go_wp2
  refine bodyPost_ret (v := .agg #[.slice xa xn xc, .int .i64 f, .int .i64 s, .int .i64 t, .bool v]) ?_ rfl ⟨_, rfl, ?_, ?_⟩
  · rw [results_cell1 rfl]
    go_simp
  · refine ints_low2 (B' := w.heap.size + 1 + 1 + 1) ?_ (by omega)
    iterate 9 (refine Ints.away ?_ (setCell_grown _ _ _ _) (by omega))
    exact HI5.out
  · iterate 9 (refine grown_ge ?_ (setCell_grown _ _ _ _) (by omega))
    exact HB5.out

def zEnt : Ent := ⟨[], ⟨0, 0, 0, false⟩⟩
def zCells : Array Value := #[.slice none 0 0, .int .i64 0, .int .i64 0, .int .i64 0, .bool false]

theorem made_ents (n : Nat) : (madeCells zCells (n * 5)).toList = entAll (List.replicate n (.slice none 0 0)) (List.replicate n zEnt) := by
  have hl : (entAll (List.replicate n (.slice none 0 0)) (List.replicate n zEnt)).length = n * 5 := by rw [entAll_len _ _ (by simp)]; simp
  apply List.ext_getElem?
  intro i
  by_cases hi : i < n * 5
  · have h1 : i / 5 < n := by omega
    have h2 : i % 5 < 5 := by omega
    have e := entAll_at (List.replicate n (.slice none 0 0)) (List.replicate n zEnt) (i / 5) (i % 5) (.slice none 0 0) zEnt (by simp [h1]) (by simp [h1]) h2
    rw [show i / 5 * 5 + i % 5 = i by omega] at e
    rw [e]
    have hs : zCells.size = 5 := rfl
    simp only [madeCells, Array.getElem?_toList, Array.getElem?_map, Array.getElem?_range, hi, hs, if_true, Option.map_some]
    generalize i % 5 = j at *
    match j, h2 with
    | 0, _ => rfl
    | 1, _ => rfl
    | 2, _ => rfl
    | 3, _ => rfl
    | 4, _ => rfl
  · rw [List.getElem?_eq_none (by simp [size_madeCells]; omega), List.getElem?_eq_none (by omega)]

theorem ents_made {w : World} {B : Nat} {v : Value} {n : Nat} (h : w.ownsRow B 69 5 v n (madeCells zCells (n * 5)).toList) : Ents w B v (List.replicate n zEnt) := by
  refine ⟨List.replicate n (.slice none 0 0), by simp, ?_, fun k e he => ?_⟩
  · rw [← made_ents, List.length_replicate]; exact h
  · have hk := (List.getElem?_eq_some_iff.1 he).1
    rw [List.length_replicate] at hk
    refine ⟨.slice none 0 0, by simp [hk], ?_⟩
    have : e = zEnt := by simp [hk] at he; exact he.symm
    subst this
    exact ⟨rfl, .inl ⟨rfl, rfl⟩⟩

def fillE (es : List Ent) (k : Nat) : List Ent := es.take k ++ List.replicate (es.length - k) zEnt

theorem fillE_len (es : List Ent) (k : Nat) (h : k ≤ es.length) : (fillE es k).length = es.length := by
  unfold fillE
  rw [List.length_append, List.length_take, List.length_replicate]; omega

theorem fillE_set {es : List Ent} {k : Nat} {e : Ent} (h : es[k]? = some e) : (fillE es k).set k e = fillE es (k + 1) := by
  have hk := (List.getElem?_eq_some_iff.1 h).1
  unfold fillE
  rw [List.set_append_right _ _ (by simp; omega), List.length_take, show k - min k es.length = 0 by omega, show es.length - k = (es.length - (k + 1)) + 1 by omega, List.replicate_succ, List.set_cons_zero, List.take_add_one, h]
  simp

theorem fillE_all (es : List Ent) : fillE es es.length = es := by simp [fillE]

def TERel (w : World) (es : List Ent) (i : Value) (wr : World) : Prop :=
  ∃ k : Nat, k ≤ es.length ∧ i = .int .i64 k ∧ Ents wr w.heap.size (.slice (some ⟨w.heap.size, 0, none⟩) es.length es.length) (fillE es k) ∧ Below w.heap.size w wr

set_option maxRecDepth 100000 in
set_option maxHeartbeats 2000000 in
theorem toEnts_any (w0 w : World) (a : Option Addr) (len cap : Nat) (es : List Ent) (hA : ArgEnts w0 a len cap es) (hb : Below w0.heap.size w0 w) (hm : len ≤ 1048576) (hr : ∀ e ∈ es, e.runes.length ≤ 1048576) :
    Calls Tryz.prog 19 #[.slice a len cap] w fun e w' => ∃ g, e = .returned (.slice (some ⟨g, 0, none⟩) len len) ∧ Ents w' w.heap.size (.slice (some ⟨g, 0, none⟩) len len) es ∧ Below w.heap.size w w' := by
  obtain ⟨hlen, hlc, hcm, hA⟩ := hA
  subst hlen
  obtain ⟨i0, hi, hz0, hz1, hz2⟩ := info_parts info_ent
  go_enter Tryz.func19, Tryz.ntmps19
  go_wp2_with (at_make; refine wpList_make_full _ rfl _ _ 29 rfl w.heap.size 69 i0 _ 5 Tryz.underlying29 hi hz0 hz1 .i64 .i64 _ _ es.length rfl rfl rfl rfl (by rw [hz2]; omega) (by unfold maxLen; omega) (Nat.le_refl _) ?_; intro w1 hown hgr)
  have hE1 : Ents w1 w.heap.size (.slice (some ⟨w.heap.size, 0, none⟩) es.length es.length) (fillE es 0) := by
    have := ents_made hown
    simpa [fillE] using this
  have hb1 : Below w.heap.size w w1 := Below.grown (Below.refl _ _) hgr (Nat.le_refl _) (fun j hj => by cases hj)
  clear hown hgr
  go_loopw [4] (fun i wr => TERel w es i wr) (fun i _ => es.length - (intOf i).toNat)
  case atStart => exact ⟨0, Nat.zero_le _, rfl, hE1, hb1⟩
  case round =>
    clear hE1 hb1
    obtain ⟨k, hk, rfl, hE, hbr⟩ := hrel
    by_cases hlt : k < es.length
    · obtain ⟨e, he⟩ : ∃ e, es[k]? = some e := ⟨_, List.getElem?_eq_getElem hlt⟩
      obtain ⟨b, o, rfl, hAE⟩ := hA.resolve_left (by omega)
      obtain ⟨ra, rl, rc, zs, hro, e1, e2, a0, a1, a2, a3, a4⟩ := (hAE k e he).below (hb.trans (hbr.mono hb.size))
      have hk8 : (k : Int) < (es.length : Int) := by omega
      have T := toEntry_any w0 wr ra rl rc zs e.el.first e.el.second e.el.third e.el.varies hro (hb.trans (hbr.mono hb.size)) (by have := hr e (List.mem_of_getElem? he); omega)
      rw [← e1] at T
      have HE : Hid (Ents _ _ _ _) := hE
      have HG : Hid (es[k]? = some e) := he
      clear hAE he hro e1 e2 hr hE
      go_wp2_with fail
      refine T.mono ?_
      rintro e' w3 ⟨x, rfl, i3, b3⟩
      obtain ⟨xa, xn, xc, rfl⟩ : ∃ xa xn xc, x = .slice xa xn xc := by
        rcases i3.form with ⟨rfl, _⟩ | ⟨_, _, rfl, _, _⟩
        · exact ⟨_, _, _, rfl⟩
        · exact ⟨_, _, _, rfl⟩
      have hE3 := HE.out.below b3
      have hfl := fillE_len es k hk
      have hset := hE3.setAt (k := k) (x := .slice xa xn xc) (e := e) hfl hlt (ints_low2 i3 hbr.size)
      rw [fillE_set HG.out] at hset
      have HS : Hid (Ents _ _ _ _) := hset
      have HB : Hid (Below _ _ _) := grown_ge (hbr.trans (b3.mono hbr.size)) (set5_grown w3 w.heap.size (k * 5) (.slice xa xn xc) e.el) (Nat.le_refl _)
      obtain ⟨xs, hxl, h1, _⟩ := hE3
      rw [hfl] at h1
      obtain ⟨y, hy⟩ : ∃ y, (fillE es k)[k]? = some y := ⟨_, List.getElem?_eq_getElem (by omega)⟩
      have hE3' : Ents w3 w.heap.size (.slice (some ⟨w.heap.size, 0, none⟩) (fillE es k).length es.length) (fillE es k) := by rw [hfl]; exact HE.out.below b3
      obtain ⟨z, _, c0, c1, c2, c3, c4⟩ := hE3'.cells k y hy
      have f0 := h1.frozenAt (k * 5)
      have f1 := h1.frozenAt (k * 5 + 1)
      have f2 := h1.frozenAt (k * 5 + 2)
      have f3 := h1.frozenAt (k * 5 + 3)
      have f4 := h1.frozenAt (k * 5 + 4)
      clear T a0 a1 a2 a3 a4 HE HG hset hxl h1 hy hE3' b3 i3 hfl
      go_wp2
      exact ⟨⟨k + 1, hlt, by go_num, HS.out, HB.out⟩, by simp [intOf]; omega⟩
    · have hk3 : k = es.length := by omega
      subst hk3
      rw [fillE_all] at hE
      clear hA hr
      go_wp2
      go_ret
      exact ⟨_, rfl, hE, hbr⟩

/-- The blocks of toRules: the argument's, the result's, the copy's. -/
def TR (u : World) (b : Nat) (x s l x' s' l' : Value) : Prop :=
  u.heap[b]? = some (.cells #[x, s, l] 24) ∧ u.heap[b + 1]? = some (.cells #[.slice none 0 0, .bool false, .int .i64 0] 31) ∧ u.heap[b + 1 + 1]? = some (.cells #[x', s', l'] 31)

theorem TR.below {u u' : World} {b : Nat} {x s l x' s' l' : Value} (h : TR u b x s l x' s' l') (hb : Below u.heap.size u u') : TR u' b x s l x' s' l' := by
  obtain ⟨h1, h2, h3⟩ := h
  exact ⟨by rw [hb.block _ (Array.getElem?_eq_some_iff.1 h1).1]; exact h1, by rw [hb.block _ (Array.getElem?_eq_some_iff.1 h2).1]; exact h2, by rw [hb.block _ (Array.getElem?_eq_some_iff.1 h3).1]; exact h3⟩

theorem TR.facts {u : World} {b : Nat} {x s l x' s' l' : Value} (h : TR u b x s l x' s' l') :
    (b < u.heap.size ∧ b + 1 < u.heap.size ∧ b + 1 + 1 < u.heap.size) ∧ (u.cell? ⟨b, 0, none⟩ = some x ∧ u.cell? ⟨b, 1, none⟩ = some s ∧ u.cell? ⟨b, 2, none⟩ = some l) ∧
    (u.cell? ⟨b + 1, 0, none⟩ = some (.slice none 0 0) ∧ u.cell? ⟨b + 1, 1, none⟩ = some (.bool false) ∧ u.cell? ⟨b + 1, 2, none⟩ = some (.int .i64 0) ∧ ∀ j, u.frozen? ⟨b + 1, j, none⟩ = false) ∧
    (u.cell? ⟨b + 1 + 1, 0, none⟩ = some x' ∧ u.cell? ⟨b + 1 + 1, 1, none⟩ = some s' ∧ u.cell? ⟨b + 1 + 1, 2, none⟩ = some l' ∧ ∀ j, u.frozen? ⟨b + 1 + 1, j, none⟩ = false) :=
  ⟨⟨(Array.getElem?_eq_some_iff.1 h.1).1, (Array.getElem?_eq_some_iff.1 h.2.1).1, (Array.getElem?_eq_some_iff.1 h.2.2).1⟩, ⟨cell_of_row _ _ 0 _ _ _ h.1, cell_of_row _ _ 1 _ _ _ h.1, cell_of_row _ _ 2 _ _ _ h.1⟩,
    ⟨cell_of_row _ _ 0 _ _ _ h.2.1, cell_of_row _ _ 1 _ _ _ h.2.1, cell_of_row _ _ 2 _ _ _ h.2.1, fun j => by simp [World.frozen?, h.2.1]⟩,
    ⟨cell_of_row _ _ 0 _ _ _ h.2.2, cell_of_row _ _ 1 _ _ _ h.2.2, cell_of_row _ _ 2 _ _ _ h.2.2, fun j => by simp [World.frozen?, h.2.2]⟩⟩

set_option maxRecDepth 100000 in
set_option maxHeartbeats 2000000 in
theorem toRules_any (w0 w : World) (a : Option Addr) (len cap : Nat) (es : List Ent) (sh : Bool) (lv : Int) (hA : ArgEnts w0 a len cap es) (hb : Below w0.heap.size w0 w) (hm : len ≤ 1048576) (hr : ∀ e ∈ es, e.runes.length ≤ 1048576) :
    Calls Tryz.prog 6 #[.agg #[.slice a len cap, .bool sh, .int .i64 lv]] w fun e w' => ∃ g, e = .returned (.agg #[.slice (some ⟨g, 0, none⟩) len len, .bool sh, .int .i64 lv]) ∧ Ents w' w.heap.size (.slice (some ⟨g, 0, none⟩) len len) es ∧ Below w.heap.size w w' := by
  have hb3 := (((Below.refl w.heap.size w).alloc (Nat.le_refl _) (.cells #[.slice a len cap, .bool sh, .int .i64 lv] 24)).alloc (by simp) (.cells #[.slice none 0 0, .bool false, .int .i64 0] 31)).alloc (by simp; omega) (.cells #[.slice none 0 0, .bool false, .int .i64 0] 31)
  have T := toEnts_any w0 _ a len cap es hA (hb.trans (hb3.mono hb.size)) hm hr
  have HX : Hid (TR _ _ _ _ _ _ _ _) := alloc3_heap w (.cells #[.slice a len cap, .bool sh, .int .i64 lv] 24) (.cells #[.slice none 0 0, .bool false, .int .i64 0] 31) (.cells #[.slice none 0 0, .bool false, .int .i64 0] 31)
  have HB : Hid (Below _ _ _) := hb3
  clear hb3 hb hA hr
  go_enter Tryz.func6, Tryz.ntmps6
  go_wp2_with fail
  refine T.mono ?_
  rintro e w3 ⟨g, rfl, i3, b3⟩
  have hx3 := HX.out.below b3
  have HI3 : Hid (Ents w3 (w.heap.size + 1 + 1 + 1) (.slice (some ⟨g, 0, none⟩) len len) es) := by show Ents _ _ _ _; simpa using i3
  have HC3 : Hid (Below _ _ _) := HB.out.trans (b3.mono HB.out.size)
  obtain ⟨⟨l1, l2, l3⟩, ⟨a0, a1, a2⟩, ⟨q0, q1, q2, qf⟩, ⟨p0, p1, p2, pf⟩⟩ := hx3.facts
  clear T HX HB b3 i3 hx3
  go_wp2
  refine bodyPost_ret (v := .agg #[.slice (some ⟨g, 0, none⟩) len len, .bool sh, .int .i64 lv]) ?_ rfl ⟨_, rfl, ?_, ?_⟩
  · rw [results_cell1 rfl]
    go_simp
  · refine Ents.low (B' := w.heap.size + 1 + 1 + 1) ?_ (by omega)
    iterate 6 (refine Ents.grown ?_ (setCell_grown _ _ _ _) (by omega))
    exact HI3.out
  · iterate 6 (refine grown_ge ?_ (setCell_grown _ _ _ _) (by omega))
    exact HC3.out
end Go.Proofs.YtddelohmppdndaaGreatDoor

namespace Go.Proofs.YtddelohmppdndaaGreatDoor
open Go.RowKit

/-- A row of entries of the call's own, no two of whose lists share a block; all its blocks lie ahead of T. -/
def EntsD (w : World) (B T : Nat) (v : Value) (es : List Ent) : Prop :=
  ∃ xs : List Value, xs.length = es.length ∧ w.ownsRow B 69 5 v es.length (entAll xs es) ∧ (∀ (k : Nat) (e : Ent), es[k]? = some e → ∃ x, xs[k]? = some x ∧ Ints w B x e.runes) ∧
    (∀ (i j : Nat) (x y : Value), i ≠ j → xs[i]? = some x → xs[j]? = some y → x.ownBlock = none ∨ x.ownBlock ≠ y.ownBlock) ∧
    (∀ g, v.ownBlock = some g → g < T) ∧ ∀ (i : Nat) (x : Value) (g : Nat), xs[i]? = some x → x.ownBlock = some g → g < T

theorem EntsD.ents {w : World} {B T : Nat} {v : Value} {es : List Ent} (h : EntsD w B T v es) : Ents w B v es := by
  obtain ⟨xs, hl, h1, h2, _⟩ := h
  exact ⟨xs, hl, h1, h2⟩

theorem EntsD.nil (w : World) (B T : Nat) : EntsD w B T (.slice none 0 0) [] := ⟨[], rfl, ⟨rfl, .inl ⟨rfl, rfl⟩⟩, fun k e h => by simp at h, fun i j x y _ h => by simp at h, (fun g h => by simp [Value.ownBlock] at h), (fun i x g h => by simp at h)⟩

theorem EntsD.below {w w' : World} {B T : Nat} {v : Value} {es : List Ent} (h : EntsD w B T v es) (hb : Below w.heap.size w w') : EntsD w' B T v es := by
  obtain ⟨xs, hl, h1, h2, h3, h4, h5⟩ := h
  refine ⟨xs, hl, World.ownsRow.kept h1 (row := none) ⟨hb.os, hb.tape, hb.output, hb.size, fun k hk _ => hb.block k hk⟩ (by cases h : v.ownBlock <;> simp), fun k e he => ?_, h3, h4, h5⟩
  obtain ⟨x, hx, hI⟩ := h2 k e he
  exact ⟨x, hx, hI.below hb⟩

/-- What lies ahead of B or from T on has not turned. -/
structure Mid (B T : Nat) (w w' : World) : Prop where
  os : w'.os = w.os
  tape : w'.tape = w.tape
  output : w'.output = w.output
  size : w.heap.size ≤ w'.heap.size
  block : ∀ b, b < w.heap.size → (b < B ∨ T ≤ b) → w'.heap[b]? = w.heap[b]?

theorem Mid.refl (B T : Nat) (w : World) : Mid B T w w := ⟨rfl, rfl, rfl, Nat.le_refl _, fun _ _ _ => rfl⟩

theorem Mid.grown {B T : Nat} {w u u' : World} {row : Option Nat} (h : Mid B T w u) (hg : u.grownBy u' row) (hr : ∀ g, row = some g → B ≤ g ∧ g < T) : Mid B T w u' := by
  refine ⟨hg.os.trans h.os, hg.tape.trans h.tape, hg.output.trans h.output, Nat.le_trans h.size hg.size, fun b hb hbt => ?_⟩
  rw [hg.block b (Nat.lt_of_lt_of_le hb h.size) (fun e => by have := hr b e.symm; omega)]
  exact h.block b hb hbt

theorem Mid.trans {B T : Nat} {w u u' : World} (h : Mid B T w u) (h' : Mid B T u u') : Mid B T w u' :=
  ⟨h'.os.trans h.os, h'.tape.trans h.tape, h'.output.trans h.output, Nat.le_trans h.size h'.size, fun b hb hbt => by rw [h'.block b (Nat.lt_of_lt_of_le hb h.size) hbt]; exact h.block b hb hbt⟩

theorem Mid.of {B T : Nat} {w w' : World} (hb : Below w.heap.size w w') : Mid B T w w' := ⟨hb.os, hb.tape, hb.output, hb.size, fun b h _ => hb.block b h⟩

theorem Mid.below {B T : Nat} {w w' : World} (h : Mid B T w w') (hB : B ≤ w.heap.size) : Below B w w' := ⟨h.os, h.tape, h.output, h.size, fun b hb => h.block b (Nat.lt_of_lt_of_le hb hB) (.inl hb)⟩
end Go.Proofs.YtddelohmppdndaaGreatDoor

namespace Go.Proofs.YtddelohmppdndaaGreatDoor
open Go.RowKit

/-- The numbers from m on. -/
def seqK (m : Int) (n : Nat) : List Int := (List.range n).map fun (j : Nat) => m + (j : Int)

theorem seqK_len (m : Int) (n : Nat) : (seqK m n).length = n := by simp [seqK]
theorem seqK_at (m : Int) (n j : Nat) (h : j < n) : (seqK m n)[j]? = some (m + (j : Int)) := by simp [seqK, h]

/-- The row behind k marks. -/
def mkK (zs : List Int) (m : Int) : Nat → List Int
  | 0 => zs
  | k + 1 => (mkK zs m k).set k (m + (k : Int))

theorem mkK_len (zs : List Int) (m : Int) (k : Nat) : (mkK zs m k).length = zs.length := by
  induction k with
  | zero => rfl
  | succ k ih => simp [mkK, ih]

theorem mkK_at (zs : List Int) (m : Int) (k j : Nat) (hj : j < k) (hl : j < zs.length) : (mkK zs m k)[j]? = some (m + (j : Int)) := by
  induction k with
  | zero => omega
  | succ k ih =>
    simp only [mkK, List.getElem?_set, mkK_len]
    by_cases e : k = j
    · subst e; simp [hl]
    · rw [if_neg e]; exact ih (by omega)

theorem mkK_all (zs : List Int) (m : Int) : mkK zs m zs.length = seqK m zs.length := by
  apply List.ext_getElem?
  intro j
  by_cases h : j < zs.length
  · rw [mkK_at zs m _ j h h, seqK_at m _ j h]
  · rw [List.getElem?_eq_none (by rw [mkK_len]; omega), List.getElem?_eq_none (by rw [seqK_len]; omega)]

theorem mkK_map (zs : List Int) (m : Int) (k : Nat) : ((mkK zs m k).map (Value.int .i64)).set k (.int .i64 (m + (k : Int))) = (mkK zs m (k + 1)).map (Value.int .i64) := by
  simp [mkK, List.map_set]

set_option maxRecDepth 100000 in
set_option maxHeartbeats 1000000 in
theorem markK_none (w : World) (a : Option Addr) (c : Nat) (m : Int) : Calls Tryz.prog 45 #[.slice a 0 c, .int .i64 m] w fun e w' => e = .returned (.int .i64 m) ∧ w' = w := by
  go_enter Tryz.func45, Tryz.ntmps45
  go_wp2
  go_loop [1, 5] (fun k i => k = .int .i64 m ∧ i = .int .i64 0) (fun _ _ => 0)
  case atStart => exact ⟨rfl, rfl⟩
  case round =>
    obtain ⟨rfl, rfl⟩ := hrel
    go_wp2
    go_ret
    exact ⟨rfl, rfl⟩

def MkRel (w : World) (B g cap : Nat) (zs : List Int) (m0 : Int) (m i : Value) (wr : World) : Prop :=
  ∃ k : Nat, k ≤ zs.length ∧ i = .int .i64 k ∧ m = .int .i64 (m0 + (k : Int)) ∧ wr.ownsRow B 3 1 (.slice (some ⟨g, 0, none⟩) zs.length cap) zs.length ((mkK zs m0 k).map (Value.int .i64)) ∧ w.grownBy wr (some g)

set_option maxRecDepth 100000 in
set_option maxHeartbeats 1000000 in
theorem markK_row (w : World) (B g cap : Nat) (zs : List Int) (m : Int) (hm0 : 0 ≤ m) (hm1 : m ≤ 1099511627776) (hz : zs.length ≤ 1073741824) (hI : w.ownsRow B 3 1 (.slice (some ⟨g, 0, none⟩) zs.length cap) zs.length (zs.map (Value.int .i64))) :
    Calls Tryz.prog 45 #[.slice (some ⟨g, 0, none⟩) zs.length cap, .int .i64 m] w fun e w' => e = .returned (.int .i64 (m + (zs.length : Int))) ∧ w'.ownsRow B 3 1 (.slice (some ⟨g, 0, none⟩) zs.length cap) zs.length ((mkK zs m zs.length).map (Value.int .i64)) ∧ w.grownBy w' (some g) := by
  go_enter Tryz.func45, Tryz.ntmps45
  go_wp2
  go_loopw [1, 5] (fun mv i wr => MkRel w B g cap zs m mv i wr) (fun _ i _ => zs.length - (intOf i).toNat)
  case atStart => exact ⟨0, Nat.zero_le _, rfl, by simp, hI, World.grownBy.refl _ _⟩
  case round =>
    clear hI
    obtain ⟨k, hk, rfl, rfl, hown, hg⟩ := hrel
    by_cases hlt : k < zs.length
    · have c1 := hown.cellAt k (by omega)
      have hm : ((mkK zs m k).map (Value.int .i64))[k]? = some (.int .i64 ((mkK zs m k)[k]?.getD 0)) := by
        have := mkK_len zs m k
        simp [this, hlt]
      rw [hm] at c1
      have c2 := hown.frozenAt k
      have hst := hown.stored k (.int .i64 (m + (k : Int)))
      rw [mkK_map] at hst
      have HST : Hid _ := hst
      clear hst hm
      go_wp2
      go_roundw
      case rel => exact ⟨k + 1, by omega, by go_num, by go_num, HST.out.1, hg.trans HST.out.2⟩
      case measure => simp [intOf]; omega
    · have hkz : k = zs.length := by omega
      subst hkz
      go_wp2
      go_ret
      exact ⟨rfl, hown, hg⟩

theorem markK_any {w : World} {B : Nat} {v : Value} {zs : List Int} {m : Int} (hm0 : 0 ≤ m) (hm1 : m ≤ 1099511627776) (hz : zs.length ≤ 1073741824) (hI : Ints w B v zs) :
    Calls Tryz.prog 45 #[v, .int .i64 m] w fun e w' => e = .returned (.int .i64 (m + (zs.length : Int))) ∧ Ints w' B v (seqK m zs.length) ∧ w.grownBy w' v.ownBlock := by
  rcases hI.form with ⟨rfl, rfl⟩ | ⟨g, cap, rfl, h1, h2⟩
  · refine (markK_none w _ _ m).mono ?_
    rintro e w' ⟨rfl, rfl⟩
    exact ⟨by simp, hI, World.grownBy.refl _ _⟩
  · refine (markK_row w B g cap zs m hm0 hm1 hz hI).mono ?_
    rintro e w' ⟨rfl, h3, h4⟩
    refine ⟨rfl, ?_, h4⟩
    unfold Ints
    rw [seqK_len, ← mkK_all]
    exact h3
end Go.Proofs.YtddelohmppdndaaGreatDoor
