/- Rows handed in: their reading, and what the laws' szRowS and toRowS make of them. -/
import Derived.Test.YtecgkekafbimaaaRw
import Derived.Test.YtecgkekafbimaaaResC
import Derived.Test.YtecgkekafbimaaaGrown1
import Derived.WalkKit
import Derived.ProofKit
import Derived.OpenShut
import Derived.LaidMore
import Derived.OwnWalk
import Derived.Deep.Strs
import Derived.Deep.Slices
import Derived.Lib.SmallJoins
namespace Go.Proofs.Ytecgkekafbimaaa
open Go.ChangeShapes Go.WideShapes Go.ChangeAt Go.WideMaps Go.WideElems Go.RowKit Go.Deep Go.Joins

theorem spot_none6 {w : World} {a : Addr} {v : Value} (h : w.cell? a = some v) : a.spot = none := by
  unfold World.cell? at h
  split at h
  · cases hs : a.spot with
    | none => rfl
    | some x => simp [hs] at h
  · simp at h

theorem list3 {cs : List Value} (h : cs.length = 3) : ∃ v0 v1 v2, cs = [v0, v1, v2] := by
  match cs, h with
  | [v0, v1, v2], _ => exact ⟨v0, v1, v2, rfl⟩

/-- One row handed in. -/
def ArgRw (w : World) (b p : Nat) (e : Rw) : Prop :=
  w.cell? ⟨b, p, none⟩ = some (.string e.key) ∧ w.cell? ⟨b, p + 1, none⟩ = some (.string e.text) ∧ w.cell? ⟨b, p + 2, none⟩ = some (.string e.val) ∧ e.key.size ≤ maxLen ∧ e.text.size ≤ maxLen ∧ e.val.size ≤ maxLen

/-- A list of rows handed in. -/
def ArgRws (w : World) (a : Option Addr) (len cap : Nat) (es : List Rw) : Prop :=
  es.length = len ∧ len ≤ cap ∧ cap ≤ maxLen ∧ (len = 0 ∨ ∃ b o, a = some ⟨b, o, none⟩ ∧ ∀ (k : Nat) (e : Rw), es[k]? = some e → ArgRw w b (o + k * 3) e)

section
variable {H : Type} {enc : TypeId × Value → H} {w : World} {base : Nat}

theorem open_row {n : Nat} {cs : List Value} {x : DataW H × List MemPlace} (h : DataW.trod enc Try.prog w base (fun _ => true) true n 41 cs = some x) :
    ∃ e : Rw, cs = [.string e.key, .string e.text, .string e.val] ∧ e.key.size ≤ maxLen ∧ e.text.size ≤ maxLen ∧ e.val.size ≤ maxLen := by
  obtain ⟨z0, z1, z2, m', _, hl, g0, g1, g2⟩ := trod_struct3 Try.underlying41 h
  have c3 : Try.prog.cellsOf 41 = 3 := by kernel_rfl
  have d1 : Try.prog.cellsOf 9 = 1 := by kernel_rfl
  rw [c3] at hl
  obtain ⟨v0, v1, v2, rfl⟩ := list3 hl
  simp only [d1, List.take, List.drop] at g0 g1 g2
  obtain ⟨f, hf, _, f1⟩ := DataW.trod_string Try.underlying9 g0
  obtain ⟨s, hs, _, s1⟩ := DataW.trod_string Try.underlying9 g1
  obtain ⟨t, ht, _, t1⟩ := DataW.trod_string Try.underlying9 g2
  cases hf
  cases hs
  cases ht
  exact ⟨⟨f, s, t⟩, rfl, f1, s1, t1⟩

theorem open_rows {n : Nat} {a : Option Addr} {len cap : Nat} {x : DataW H × List MemPlace} (h : DataW.trod enc Try.prog w base (fun _ => true) true n 22 [.slice a len cap] = some x) : ∃ es, ArgRws w a len cap es := by
  have c3 : Try.prog.cellsOf 41 = 3 := by kernel_rfl
  rcases open_slice Try.underlying22 h with ⟨hcs, _⟩ | ⟨a', len', cap', m, n', D, Pl, hcs, _, hl, hm, hmm, _, hx⟩
  · cases hcs
    exact ⟨[], rfl, Nat.le_refl _, Nat.zero_le _, .inl rfl⟩
  · cases hcs
    rw [c3] at hx
    simp only [if_true] at hmm
    subst hmm
    by_cases h0 : len = 0
    · subst h0
      exact ⟨[], rfl, hl, hm, .inl rfl⟩
    · have hsp : a'.spot = none := by
        obtain ⟨cs', h1, _⟩ := hx 0 (by omega)
        obtain ⟨_, h3, h4⟩ := World.cells?_some h1
        have h5 := h4 0 (by omega)
        rw [List.getElem?_eq_getElem (by omega)] at h5
        have := spot_none6 h5
        simpa [Addr.add] using this
      have hadd : ∀ i, a'.add i = ⟨a'.block, a'.off + i, none⟩ := fun i => by
        unfold Addr.add
        split
        · rename_i hi
          subst hi
          cases a'
          simp at hsp
          simp [hsp]
        · rfl
      have each : ∀ i, i < len → ∃ e : Rw, ArgRw w a'.block (a'.off + i * 3) e := fun i hi => by
        obtain ⟨cs', h1, h2⟩ := hx i (by omega)
        obtain ⟨e, rfl, z0, z1, z2⟩ := open_row h2
        obtain ⟨_, _, h4⟩ := World.cells?_some h1
        have at' : ∀ j, j < 3 → w.cell? ⟨a'.block, a'.off + i * 3 + j, none⟩ = [Value.string e.key, .string e.text, .string e.val][j]? := fun j hj => by
          rw [← h4 j hj, hadd]
          unfold Addr.add
          split
          · rename_i hj; subst hj; rfl
          · rfl
        exact ⟨e, at' 0 (by omega), at' 1 (by omega), at' 2 (by omega), z0, z1, z2⟩
      obtain ⟨E, hE⟩ := choose_lt (p := fun i e => ArgRw w a'.block (a'.off + i * 3) e) each
      refine ⟨(List.range len).map E, by simp, hl, hm, .inr ⟨a'.block, a'.off, ?_, fun k e he => ?_⟩⟩
      · cases a'
        simp at hsp
        simp [hsp]
      · rw [List.getElem?_map, Option.map_eq_some_iff] at he
        obtain ⟨i, hi, rfl⟩ := he
        obtain ⟨hk, e2⟩ := List.getElem?_eq_some_iff.1 hi
        simp at hk e2
        subst e2
        exact hE k hk
end

/-- What szRow leaves. -/
def szR1 (e : Rw) (left : Int) : Int := if left - (e.key.size : Int) < 0 then -1 else if left - (e.key.size : Int) - (e.text.size : Int) < 0 then -1 else if left - (e.key.size : Int) - (e.text.size : Int) - (e.val.size : Int) < 0 then -1 else left - (e.key.size : Int) - (e.text.size : Int) - (e.val.size : Int)

def szR : List Rw → Int → Int
  | [], left => left
  | e :: es, left => if szR1 e left < 0 then -1 else szR es (szR1 e left)

def szRA (es : List Rw) (left : Int) : Int := if left - (es.length : Int) < 0 then -1 else szR es (left - (es.length : Int))

/-- Rows whose texts are short. -/
def RwSz (es : List Rw) : Prop := ∀ e ∈ es, e.key.size ≤ 1048576 ∧ e.text.size ≤ 1048576 ∧ e.val.size ≤ 1048576

theorem szR1_bd {e : Rw} {left : Int} (h : 0 ≤ szR1 e left) : (e.key.size : Int) ≤ left ∧ (e.text.size : Int) ≤ left ∧ (e.val.size : Int) ≤ left ∧ szR1 e left ≤ left := by
  unfold szR1 at *
  split at h
  · omega
  · split at h
    · omega
    · split at h
      · omega
      · simp only [*, if_false]; omega

theorem szR_bd : ∀ (es : List Rw) (left : Int), left ≤ 1048576 → 0 ≤ szR es left → RwSz es
  | [], _, _, _ => fun e he => by simp at he
  | x :: es, left, h0, h => fun e he => by
    unfold szR at h
    split at h
    · omega
    · have h2 := szR1_bd (e := x) (left := left) (by omega)
      rcases List.mem_cons.1 he with rfl | he
      · omega
      · exact szR_bd es _ (by omega) h e he

theorem szRA_bd {es : List Rw} (h : 0 ≤ szRA es 1048576) : es.length ≤ 1048576 ∧ RwSz es := by
  unfold szRA at h
  split at h
  · omega
  · exact ⟨by omega, szR_bd es _ (by omega) h⟩

set_option maxRecDepth 100000 in
set_option maxHeartbeats 1000000 in
theorem szRow_any (w : World) (e : Rw) (left : Int) (h0 : 0 ≤ left) (h1 : left ≤ 1048576) (z0 : e.key.size ≤ maxLen) (z1 : e.text.size ≤ maxLen) (z2 : e.val.size ≤ maxLen) :
    Calls Try.prog 19 #[.agg #[.string e.key, .string e.text, .string e.val], .int .i64 left] w fun r w' => r = .returned (.int .i64 (szR1 e left)) ∧ Below w.heap.size w w' := by
  unfold maxLen at z0 z1 z2
  have hb := (Below.refl w.heap.size w).alloc (Nat.le_refl _) (.cells #[.string e.key, .string e.text, .string e.val] 41)
  have HB : Hid _ := hb
  clear hb
  by_cases c0 : left - (e.key.size : Int) < 0
  · have HA : Hid (szR1 e left = -1) := by show _ = _; unfold szR1; rw [if_pos c0]
    go_enter Try.func19, Try.ntmps19
    go_wp2
    go_ret
    rw [HA.out]
    exact ⟨rfl, HB.out⟩
  · by_cases c1 : left - (e.key.size : Int) - (e.text.size : Int) < 0
    · have HA : Hid (szR1 e left = -1) := by show _ = _; unfold szR1; rw [if_neg c0, if_pos c1]
      go_enter Try.func19, Try.ntmps19
      go_wp2
      go_ret
      rw [HA.out]
      exact ⟨rfl, HB.out⟩
    · by_cases c2 : left - (e.key.size : Int) - (e.text.size : Int) - (e.val.size : Int) < 0
      · have HA : Hid (szR1 e left = -1) := by show _ = _; unfold szR1; rw [if_neg c0, if_neg c1, if_pos c2]
        go_enter Try.func19, Try.ntmps19
        go_wp2
        go_ret
        rw [HA.out]
        exact ⟨rfl, HB.out⟩
      · have HA : Hid (szR1 e left = left - (e.key.size : Int) - (e.text.size : Int) - (e.val.size : Int)) := by show _ = _; unfold szR1; rw [if_neg c0, if_neg c1, if_neg c2]
        go_enter Try.func19, Try.ntmps19
        go_wp2
        go_ret
        rw [HA.out]
        exact ⟨rfl, HB.out⟩

set_option maxRecDepth 100000 in
set_option maxHeartbeats 2000000 in
theorem szRows_any (w w1 : World) (a : Option Addr) (len cap : Nat) (ss : List Rw) (left : Int) (h0 : 0 ≤ left) (h1 : left ≤ 1048576) (hA : ArgRws w a len cap ss) (hb : Below w.heap.size w w1) :
    Calls Try.prog 5 #[.slice a len cap, .int .i64 left] w1 fun e w' => e = .returned (.int .i64 (szRA ss left)) ∧ Below w1.heap.size w1 w' := by
  obtain ⟨hlen, hlc, hcm, hA⟩ := hA
  unfold maxLen at hcm
  by_cases hneg : left - (len : Int) < 0
  · have HA : Hid (szRA ss left = -1) := by show _ = _; unfold szRA; rw [hlen, if_pos hneg]
    clear hA
    go_enter Try.func5, Try.ntmps5
    go_wp2
    go_ret
    rw [HA.out]
    exact ⟨rfl, Below.refl _ _⟩
  · have HA : Hid (szRA ss left = szR ss (left - (len : Int))) := by show _ = _; unfold szRA; rw [hlen, if_neg hneg]
    subst hlen
    obtain ⟨ans, HANS⟩ : ∃ ans, Hid (szR ss (left - (ss.length : Int)) = ans) := ⟨_, rfl⟩
    rw [HA.out, HANS.out]
    go_enter Try.func5, Try.ntmps5
    go_wp2
    go_loopw [1, 5] (fun lv i wr => ∃ (k : Nat) (lf : Int), k ≤ ss.length ∧ i = .int .i64 k ∧ lv = .int .i64 lf ∧ 0 ≤ lf ∧ lf ≤ 1048576 ∧ szR (ss.drop k) lf = ans ∧ Below w1.heap.size w1 wr) (fun _ i _ => ss.length - (intOf i).toNat)
    case atStart => exact ⟨0, _, Nat.zero_le _, rfl, rfl, by omega, by omega, by rw [List.drop_zero]; exact HANS.out, Below.refl _ _⟩
    case round =>
      obtain ⟨k, lf, hk, rfl, rfl, hf0, hf1, hR, hbr⟩ := hrel
      have HR : Hid _ := hR
      clear hR
      by_cases hlt : k < ss.length
      · obtain ⟨x, hx⟩ : ∃ x, ss[k]? = some x := ⟨_, List.getElem?_eq_getElem hlt⟩
        obtain ⟨b, o, rfl, hE⟩ := hA.resolve_left (by omega)
        obtain ⟨c0, c1, c2, z0, z1, z2⟩ := hE k x hx
        have hl := rw_cell_lt c0
        have hbb := hb.trans (hbr.mono hb.size)
        have a0 : wr.cell? ⟨b, o + k * 3, none⟩ = some (.string x.key) := by rw [hbb.cell hl]; exact c0
        have a1 : wr.cell? ⟨b, o + k * 3 + 1, none⟩ = some (.string x.text) := by rw [hbb.cell hl]; exact c1
        have a2 : wr.cell? ⟨b, o + k * 3 + 2, none⟩ = some (.string x.val) := by rw [hbb.cell hl]; exact c2
        have hk8 : (k : Int) < (ss.length : Int) := by omega
        have S := szRow_any wr x lf hf0 hf1 z0 z1 z2
        have HR2 : Hid ((if szR1 x lf < 0 then -1 else szR (ss.drop (k + 1)) (szR1 x lf)) = ans) := by
          show _ = _
          rw [← HR.out, rw_drop hx]
          rfl
        have HS : Hid (0 ≤ szR1 x lf → szR1 x lf ≤ lf) := fun h => (szR1_bd h).2.2.2
        have HBR : Hid _ := hbr
        clear hE hx c0 c1 c2 HR z0 z1 z2 hl hbb hbr
        obtain ⟨sz, hsz⟩ : ∃ sz, szR1 x lf = sz := ⟨_, rfl⟩
        rw [hsz] at S HR2 HS
        clear hsz
        go_wp2_with fail
        refine S.mono ?_
        rintro e w3 ⟨rfl, b3⟩
        have HB3 : Hid (Below _ _ _) := HBR.out.trans (b3.mono HBR.out.size)
        clear S b3 HBR a0 a1 a2
        by_cases hs : sz < 0
        · have HF : Hid (-1 = ans) := by show _ = _; rw [← HR2.out, if_pos hs]
          clear HR2
          go_wp2
          go_ret
          rw [← HF.out]
          exact ⟨rfl, HB3.out⟩
        · have HF : Hid (szR (ss.drop (k + 1)) sz = ans) := by show _ = _; rw [← HR2.out, if_neg hs]
          have h9 := HS.out (by omega)
          clear HR2
          go_wp2
          exact ⟨⟨k + 1, _, hlt, by go_num, rfl, by omega, by omega, HF.out, HB3.out⟩, by simp [intOf]; omega⟩
      · have hk3 : k = ss.length := by omega
        subst hk3
        have HF : Hid (lf = ans) := by show _ = _; rw [← HR.out, List.drop_length]; rfl
        clear HR hA
        go_wp2
        go_ret
        rw [← HF.out]
        exact ⟨rfl, hbr⟩

set_option maxRecDepth 100000 in
set_option maxHeartbeats 1000000 in
theorem toRow_any (w : World) (x : Rw) : Calls Try.prog 22 #[.agg #[.string x.key, .string x.text, .string x.val]] w fun e w' => e = .returned (.agg #[.string x.key, .string x.text, .string x.val]) ∧ Below w.heap.size w w' := by
  go_enter Try.func22, Try.ntmps22
  go_wp2
  refine bodyPost_ret (v := .agg #[.string x.key, .string x.text, .string x.val]) ?_ rfl ⟨rfl, (((Below.refl _ _).alloc (Nat.le_refl _) _).alloc (by simp) _).alloc (by simp; omega) _⟩
  rw [results_cell1 rfl]
  go_simp

def zCells3 : Array Value := #[.string ⟨#[]⟩, .string ⟨#[]⟩, .string ⟨#[]⟩]

theorem made_rws (n : Nat) : (madeCells zCells3 (n * 3)).toList = rwAll (List.replicate n rwZ) := by
  have hl : (rwAll (List.replicate n rwZ)).length = n * 3 := by rw [rwAll_len]; simp
  apply List.ext_getElem?
  intro i
  by_cases hi : i < n * 3
  · have h1 : i / 3 < n := by omega
    have h2 : i % 3 < 3 := by omega
    have e := rwAll_at (List.replicate n rwZ) (i / 3) (i % 3) rwZ (by simp [h1]) h2
    rw [show i / 3 * 3 + i % 3 = i by omega] at e
    rw [e]
    have hs : zCells3.size = 3 := rfl
    simp only [madeCells, Array.getElem?_toList, Array.getElem?_map, Array.getElem?_range, hi, hs, if_true, Option.map_some]
    generalize i % 3 = j at *
    match j, h2 with
    | 0, _ => rfl
    | 1, _ => rfl
    | 2, _ => rfl
  · rw [List.getElem?_eq_none (by simp [size_madeCells]; omega), List.getElem?_eq_none (by omega)]

def fillR (es : List Rw) (k : Nat) : List Rw := es.take k ++ List.replicate (es.length - k) rwZ

theorem fillR_len (es : List Rw) (k : Nat) (h : k ≤ es.length) : (fillR es k).length = es.length := by
  unfold fillR
  rw [List.length_append, List.length_take, List.length_replicate]; omega

theorem fillR_set {es : List Rw} {k : Nat} {e : Rw} (h : es[k]? = some e) : (fillR es k).set k e = fillR es (k + 1) := by
  have hk := (List.getElem?_eq_some_iff.1 h).1
  unfold fillR
  rw [List.set_append_right _ _ (by simp; omega), List.length_take, show k - min k es.length = 0 by omega, show es.length - k = (es.length - (k + 1)) + 1 by omega, List.replicate_succ, List.set_cons_zero, List.take_add_one, h]
  simp

theorem fillR_all (es : List Rw) : fillR es es.length = es := by simp [fillR]

def TRRel (w : World) (es : List Rw) (i : Value) (wr : World) : Prop :=
  ∃ k : Nat, k ≤ es.length ∧ i = .int .i64 k ∧ wr.ownsRow w.heap.size 43 3 (.slice (some ⟨w.heap.size, 0, none⟩) es.length es.length) es.length (rwAll (fillR es k)) ∧ Below w.heap.size w wr

theorem info_rw : (Try.prog.info? 43).map (fun i => (i.zero, i.size, i.bytes)) = some (some (.agg #[.string ⟨#[]⟩, .string ⟨#[]⟩, .string ⟨#[]⟩]), 3, 48) := by kernel_rfl

set_option maxRecDepth 100000 in
set_option maxHeartbeats 2000000 in
theorem toRows_any (w0 w : World) (a : Option Addr) (len cap : Nat) (es : List Rw) (hA : ArgRws w0 a len cap es) (hb : Below w0.heap.size w0 w) (hm : len ≤ 1048576) :
    Calls Try.prog 7 #[.slice a len cap] w fun e w' => ∃ g, e = .returned (.slice (some ⟨g, 0, none⟩) len len) ∧ Rws w' w.heap.size (.slice (some ⟨g, 0, none⟩) len len) es ∧ Below w.heap.size w w' := by
  obtain ⟨hlen, hlc, hcm, hA⟩ := hA
  subst hlen
  obtain ⟨i0, hi, hz0, hz1, hz2⟩ := info_parts info_rw
  go_enter Try.func7, Try.ntmps7
  go_wp2_with (at_make; refine wpList_make_full _ rfl _ _ 27 rfl w.heap.size 43 i0 _ 3 Try.underlying27 hi hz0 hz1 .i64 .i64 _ _ es.length rfl rfl rfl rfl (by rw [hz2]; omega) (by unfold maxLen; omega) (Nat.le_refl _) ?_; intro w1 hown hgr)
  have hE1 : w1.ownsRow w.heap.size 43 3 (.slice (some ⟨w.heap.size, 0, none⟩) es.length es.length) es.length (rwAll (fillR es 0)) := by
    have h2 : w1.ownsRow w.heap.size 43 3 (.slice (some ⟨w.heap.size, 0, none⟩) es.length es.length) es.length (madeCells zCells3 (es.length * 3)).toList := hown
    rw [made_rws] at h2
    simpa [fillR] using h2
  have hb1 : Below w.heap.size w w1 := Below.grown (Below.refl _ _) hgr (Nat.le_refl _) (fun j hj => by cases hj)
  clear hown hgr
  go_loopw [4] (fun i wr => TRRel w es i wr) (fun i _ => es.length - (intOf i).toNat)
  case atStart => exact ⟨0, Nat.zero_le _, rfl, hE1, hb1⟩
  case round =>
    clear hE1 hb1
    obtain ⟨k, hk, rfl, hE, hbr⟩ := hrel
    by_cases hlt : k < es.length
    · obtain ⟨e, he⟩ : ∃ e, es[k]? = some e := ⟨_, List.getElem?_eq_getElem hlt⟩
      obtain ⟨b, o, rfl, hAE⟩ := hA.resolve_left (by omega)
      have hbb := hb.trans (hbr.mono hb.size)
      obtain ⟨c0, c1, c2, _⟩ := hAE k e he
      have hbl := rw_cell_lt c0
      have a0 : wr.cell? ⟨b, o + k * 3, none⟩ = some (.string e.key) := by rw [hbb.cell hbl]; exact c0
      have a1 : wr.cell? ⟨b, o + k * 3 + 1, none⟩ = some (.string e.text) := by rw [hbb.cell hbl]; exact c1
      have a2 : wr.cell? ⟨b, o + k * 3 + 2, none⟩ = some (.string e.val) := by rw [hbb.cell hbl]; exact c2
      have hk8 : (k : Int) < (es.length : Int) := by omega
      have T := toRow_any wr e
      have HE : Hid (World.ownsRow _ _ _ _ _ _ _) := hE
      have HG : Hid (es[k]? = some e) := he
      clear hAE he hE c0 c1 c2 hbb hbl
      go_wp2_with fail
      refine T.mono ?_
      rintro e' w3 ⟨rfl, b3⟩
      have h3 : w3.ownsRow w.heap.size 43 3 (.slice (some ⟨w.heap.size, 0, none⟩) es.length es.length) es.length (rwAll (fillR es k)) := World.ownsRow.kept HE.out (row := none) ⟨b3.os, b3.tape, b3.output, b3.size, fun k hk _ => b3.block k hk⟩ (by simp [Value.ownBlock])
      have hfl := fillR_len es k hk
      have s1 := h3.stored (k * 3) (.string e.key)
      have s2 := s1.1.stored (k * 3 + 1) (.string e.text)
      have s3 := s2.1.stored (k * 3 + 2) (.string e.val)
      have s5 := s3.1
      rw [← rwAll_set _ k e (by omega), fillR_set HG.out] at s5
      have HS : Hid (World.ownsRow _ _ _ _ _ _ _) := s5
      have hb3 := hbr.trans (b3.mono hbr.size)
      have HB : Hid (Below _ _ _) := grown_ge (grown_ge (grown_ge hb3 s1.2 (Nat.le_refl _)) s2.2 (Nat.le_refl _)) s3.2 (Nat.le_refl _)
      obtain ⟨y, hy⟩ : ∃ y, (fillR es k)[k]? = some y := ⟨_, List.getElem?_eq_getElem (by omega)⟩
      have hE3 : Rws w3 w.heap.size (.slice (some ⟨w.heap.size, 0, none⟩) (fillR es k).length es.length) (fillR es k) := by
        unfold Rws
        rw [hfl]; exact h3
      obtain ⟨c0, c1, c2⟩ := hE3.cells k y hy
      have f0 := h3.frozenAt (k * 3)
      have f1 := h3.frozenAt (k * 3 + 1)
      have f2 := h3.frozenAt (k * 3 + 2)
      clear T a0 a1 a2 HE HG s1 s2 s3 s5 h3 hy hE3 b3 hfl hb3
      go_wp2
      exact ⟨⟨k + 1, hlt, by go_num, HS.out, HB.out⟩, by simp [intOf]; omega⟩
    · have hk3 : k = es.length := by omega
      subst hk3
      rw [fillR_all] at hE
      clear hA
      go_wp2
      go_ret
      exact ⟨_, rfl, hE, hbr⟩
end Go.Proofs.Ytecgkekafbimaaa
