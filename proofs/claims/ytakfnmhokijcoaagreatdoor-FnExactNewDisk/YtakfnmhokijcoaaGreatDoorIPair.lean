/- Contracts of the program's smallPair and pairOf, over its two tables of pairs. -/
import Derived.Test.YtakfnmhokijcoaaGreatDoorLaid
import Derived.Test.YtakfnmhokijcoaaGreatDoorNorm2
import Derived.Test.YtakfnmhokijcoaaGreatDoorClass
import Derived.Deep.WholeRow
namespace Go.Proofs.YtakfnmhokijcoaaGreatDoor
open Go.RowKit

def capA : Array Value := (capF.map (Value.int .i64)).toArray
def othA : Array Value := (othF.map (Value.int .i64)).toArray

/-- A pair as a value. -/
def pv (t : List Int) : Value := .agg #[.int .i64 (at0 t 0), .int .i64 (at0 t 1), .int .i64 (at0 t 2)]

theorem cap_index (k : Nat) (hk : k < 26) (w : World) : (Instr.index 138 (.agg capA) (.int .i64 k)).run Tryz.prog w = .ok (.agg #[.int .i64 (at0 (capT.getD k []) 0), .int .i64 (at0 (capT.getD k []) 1), .int .i64 (at0 (capT.getD k []) 2)]) w := by
  iterate 26 (rcases k with _ | k; · kernel_rfl)
  omega

theorem oth_index (k : Nat) (hk : k < 5) (w : World) : (Instr.index 140 (.agg othA) (.int .i64 k)).run Tryz.prog w = .ok (.agg #[.int .i64 (at0 (othT.getD k []) 0), .int .i64 (at0 (othT.getD k []) 1), .int .i64 (at0 (othT.getD k []) 2)]) w := by
  iterate 5 (rcases k with _ | k; · kernel_rfl)
  omega

theorem tabI_cap : ∀ k ∈ List.range 26, tabI[2 * k]? = some [at0 (capT.getD k []) 0, at0 (capT.getD k []) 1, at0 (capT.getD k []) 2] ∧ tabI[2 * k + 1]? = some [at0 (capT.getD k []) 0 + 32, at0 (capT.getD k []) 1 + 32, at0 (capT.getD k []) 2] := by decide +kernel
theorem tabI_oth : ∀ k ∈ List.range 5, tabI[52 + k]? = some [at0 (othT.getD k []) 0, at0 (othT.getD k []) 1, at0 (othT.getD k []) 2] := by decide +kernel
theorem cap_bound : ∀ k ∈ List.range 26, (0 ≤ at0 (capT.getD k []) 0 ∧ at0 (capT.getD k []) 0 ≤ 300) ∧ 0 ≤ at0 (capT.getD k []) 1 ∧ at0 (capT.getD k []) 1 ≤ 300 := by decide +kernel
theorem tabI_len : tabI.length = 57 := by decide +kernel

/-- No row ahead of place k is the one looked for. -/
def NoneI (p : List Int → Bool) (k : Nat) : Prop := ∀ j t, j < k → tabI[j]? = some t → p t = false

theorem NoneI.succ {p : List Int → Bool} {k : Nat} {t : List Int} (h : NoneI p k) (ht : tabI[k]? = some t) (hp : p t = false) : NoneI p (k + 1) := by
  intro j u hj hu
  by_cases e : j = k
  · subst e; rw [ht] at hu; cases hu; exact hp
  · exact h j u (by omega) hu

theorem findI_at {p : List Int → Bool} {k : Nat} {t : List Int} (h : NoneI p k) (ht : tabI[k]? = some t) (hp : p t = true) : tabI.find? p = some t := by
  rw [List.find?_eq_some_iff_getElem]
  obtain ⟨hk, e⟩ := List.getElem?_eq_some_iff.1 ht
  refine ⟨hp, k, hk, e, fun j hj => ?_⟩
  have := h j tabI[j] hj (List.getElem?_eq_getElem (by omega))
  simpa using this

theorem findI_no {p : List Int → Bool} {k : Nat} (h : NoneI p k) (hk : 57 ≤ k) : tabI.find? p = none := by
  rw [List.find?_eq_none]
  intro t ht
  obtain ⟨j, hj⟩ := List.mem_iff_getElem?.1 ht
  have h1 := (List.getElem?_eq_some_iff.1 hj).1
  have h2 := tabI_len
  simpa using h j t (by omega) hj

set_option maxRecDepth 100000 in
set_option maxHeartbeats 1000000 in
theorem small_any (w : World) (a b c : Int) (ha : 0 ≤ a ∧ a ≤ 300) (hb : 0 ≤ b ∧ b ≤ 300) :
    Calls Tryz.prog 99 #[.agg #[.int .i64 a, .int .i64 b, .int .i64 c]] w fun e w' => e = .returned (.agg #[.int .i64 (a + 32), .int .i64 (b + 32), .int .i64 c]) ∧ Below w.heap.size w w' := by
  have hw1 : IntKind.i64.wrap (a + 32) = a + 32 := by rw [IntKind.wrap_i64]; omega
  have hw2 : IntKind.i64.wrap (b + 32) = b + 32 := by rw [IntKind.wrap_i64]; omega
  go_enter Tryz.func99, Tryz.ntmps99
  go_wp2
  refine bodyPost_ret (v := .agg #[.int .i64 (a + 32), .int .i64 (b + 32), .int .i64 c]) ?_ rfl ⟨rfl, ((Below.refl _ _).alloc (Nat.le_refl _) _).alloc (by simp) _⟩
  exact results_cell_row rfl _ _ (w.heap.size + 1) 135 _ (0, 0) _ rfl (heap_alloc2_new _ _ _) Tryz.underlying135 rfl (by kernel_rfl)

def pairRes (o : Option (List Int)) : Value := .tuple #[pv (o.getD []), .bool o.isSome]

theorem ret_p {o : Option (List Int)} {a b c : Int} (h : o = some [a, b, c]) : Ending.returned (.tuple #[.agg #[.int .i64 a, .int .i64 b, .int .i64 c], .bool true]) = .returned (pairRes o) := by rw [h]; rfl
theorem ret_p0 {o : Option (List Int)} (h : o = none) : Ending.returned (.tuple #[.agg #[.int .i64 0, .int .i64 0, .int .i64 0], .bool false]) = .returned (pairRes o) := by rw [h]; rfl

/-- The block of the result stands, still zero. -/
def Res0 (w wr : World) : Prop := wr.heap[w.heap.size]? = some (.cells #[.int .i64 0, .int .i64 0, .int .i64 0] 135)

theorem Res0.facts {w wr : World} (h : Res0 w wr) : w.heap.size < wr.heap.size ∧ wr.cell? ⟨w.heap.size, 0, none⟩ = some (.int .i64 0) ∧ wr.cell? ⟨w.heap.size, 1, none⟩ = some (.int .i64 0) ∧ wr.cell? ⟨w.heap.size, 2, none⟩ = some (.int .i64 0) ∧ ∀ j, wr.frozen? ⟨w.heap.size, j, none⟩ = false :=
  ⟨(Array.getElem?_eq_some_iff.1 h).1, by simp [World.cell?, show wr.heap[w.heap.size]? = _ from h], by simp [World.cell?, show wr.heap[w.heap.size]? = _ from h], by simp [World.cell?, show wr.heap[w.heap.size]? = _ from h], fun j => by simp [World.frozen?, show wr.heap[w.heap.size]? = _ from h]⟩

theorem Res0.alloc {w wr : World} (h : Res0 w wr) (o : Obj) : Res0 w (wr.alloc o) := by
  unfold Res0
  rw [Below.heap_alloc _ _ _ h.facts.1]; exact h

theorem Res0.below {w wr w' : World} (h : Res0 w wr) {B : Nat} (hb : Below B wr w') (hB : wr.heap.size ≤ B) : Res0 w w' := by
  unfold Res0
  rw [hb.block _ (Nat.lt_of_lt_of_le h.facts.1 hB)]; exact h

theorem below_res {w wr : World} (h : Below w.heap.size w wr) (x y z : Value) : Below w.heap.size w (((wr.setCell ⟨w.heap.size, 0, none⟩ x).setCell ⟨w.heap.size, 1, none⟩ y).setCell ⟨w.heap.size, 2, none⟩ z) :=
  ((h.setCell (Nat.le_refl _) _).setCell (Nat.le_refl _) _).setCell (Nat.le_refl _) _

def PRel (n : Nat) (w : World) (p : List Int → Bool) (m o : Nat) (i : Value) (wr : World) : Prop :=
  ∃ k : Nat, k ≤ n ∧ i = .int .i64 k ∧ NoneI p (o + m * k) ∧ Below w.heap.size w wr ∧ Res0 w wr

set_option maxRecDepth 100000 in
set_option maxHeartbeats 2000000 in
theorem implPair_any (r : Int) (w : World) (hc : Held w 4 capF) (ho : Held w 5 othF) :
    Calls Tryz.prog 98 #[.int .i64 r] w fun e w' => e = .returned (pairRes (tabI.find? (fun t => at0 t 0 == r))) ∧ Below w.heap.size w w' := by
  obtain ⟨t, fr, hh0⟩ := hc
  have hlt1 := ho.lt
  have HO : Hid (Held w 5 othF) := ho
  have hh : (w.alloc (.cells #[.int .i64 0, .int .i64 0, .int .i64 0] 135)).heap[4]? = some (.cells capA t fr) := by
    rw [Below.heap_alloc _ _ _ ((Array.getElem?_eq_some_iff.1 hh0).1)]; exact hh0
  clear hh0 ho
  go_enter Tryz.func98, Tryz.ntmps98
  go_wp2_with (refine wpList_load_row rfl 138 (.global 4) rfl 4 rfl t capA fr _ hh Tryz.underlying138 rfl (by kernel_rfl) ?_)
  clear hh
  go_loopw [10] (fun i wr => PRel 26 w (fun t => at0 t 0 == r) 2 0 i wr) (fun i _ => 26 - (intOf i).toNat)
  case atStart => exact ⟨0, Nat.zero_le _, rfl, fun j t hj => by omega, (Below.refl _ _).alloc (Nat.le_refl _) _, heap_alloc_new w _⟩
  case round =>
    obtain ⟨k, hk, rfl, HN0, hb, hres⟩ := hrel
    have HN : Hid (NoneI (fun t => at0 t 0 == r) (0 + 2 * k)) := HN0
    clear HN0
    obtain ⟨hn0, c0, c1, c2, f0⟩ := hres.facts
    by_cases hlt : k < 26
    · have hi := fun w => cap_index k hlt w
      have HT := tabI_cap k (by simpa using hlt)
      obtain ⟨b1, b2⟩ := cap_bound k (by simpa using hlt)
      generalize at0 (capT.getD k []) 0 = a at *
      generalize at0 (capT.getD k []) 1 = b at *
      generalize at0 (capT.getD k []) 2 = c at *
      have hk8 : (k : Int) < 26 := by omega
      by_cases e : a = r
      · subst e
        have HF : Hid (tabI.find? (fun t => at0 t 0 == a) = some [a, b, c]) := findI_at HN.out (by rw [Nat.zero_add]; exact HT.1) (by simp [at0])
        clear HN HT hres
        go_wp2
        (try simp only [Exit.inBlock, Exit.then])
        refine bodyPost_ret (v := .tuple #[.agg #[.int .i64 a, .int .i64 b, .int .i64 c], .bool true]) ?_ rfl ⟨ret_p HF.out, (below_res hb _ _ _).alloc (below_res hb _ _ _).size _⟩
        rw [results_cell_tmp rfl]
        go_simp
      · have e2 : (a == r) = false := by simpa using e
        have SM := fun w => small_any w a b c b1 b2
        have HN1 := HN.out.succ (t := [a, b, c]) (by rw [Nat.zero_add]; exact HT.1) (by simpa [at0] using e)
        have HT2 := HT.2
        clear HN HT e c0 c1 c2 f0
        go_wp2_with fail
        refine (SM _).mono ?_
        rintro e w1 ⟨rfl, hb1⟩
        have hres1 := (hres.alloc (.cells #[.int .i64 a, .int .i64 b, .int .i64 c] 135)).below hb1 (Nat.le_refl _)
        have hbb : Below w.heap.size w w1 := (hb.alloc hb.size _).trans (hb1.mono (hb.alloc hb.size _).size)
        obtain ⟨hn1, c0, c1, c2, f0⟩ := hres1.facts
        clear SM hb1 hb hres hn0
        by_cases e : a + 32 = r
        · have HF : Hid (tabI.find? (fun t => at0 t 0 == r) = some [a + 32, b + 32, c]) := findI_at HN1 (by rw [Nat.zero_add]; exact HT2) (by simp [at0, e])
          clear HN1 HT2 hres1
          have e3 : (a + 32 == r) = true := by simpa using e
          clear e
          go_wp2
          (try simp only [Exit.inBlock, Exit.then])
          refine bodyPost_ret (v := .tuple #[.agg #[.int .i64 (a + 32), .int .i64 (b + 32), .int .i64 c], .bool true]) ?_ rfl ⟨ret_p HF.out, (below_res hbb _ _ _).alloc (below_res hbb _ _ _).size _⟩
          rw [results_cell_tmp rfl]
          go_simp
        · have e3 : (a + 32 == r) = false := by simpa using e
          have HN2 := HN1.succ (t := [a + 32, b + 32, c]) (by rw [Nat.zero_add]; exact HT2) (by simpa [at0] using e)
          have HP : Hid (PRel 26 w (fun t => at0 t 0 == r) 2 0 (.int .i64 ((k : Int) + 1)) (w1.alloc (.cells #[.int .i64 (a + 32), .int .i64 (b + 32), .int .i64 c] 135))) :=
            ⟨k + 1, by omega, by go_num, by rw [show 0 + 2 * (k + 1) = 0 + 2 * k + 1 + 1 by omega]; exact HN2, hbb.alloc hbb.size _, hres1.alloc _⟩
          clear HN1 HT2 hres1 HN2 e
          go_wp2
          exact ⟨HP.out, by simp [intOf]; omega⟩
    · have hk26 : k = 26 := by omega
      subst hk26
      obtain ⟨t2, fr2, hh0⟩ := HO.out.below hb hlt1
      have hh : wr.heap[5]? = some (.cells othA t2 fr2) := hh0
      clear hh0 HO c0 c1 c2 f0
      go_wp2_with (refine wpList_load_row rfl 140 (.global 5) rfl 5 rfl t2 othA fr2 _ hh Tryz.underlying140 rfl (by kernel_rfl) ?_)
      clear hh
      go_loopw [27] (fun i wr => PRel 5 w (fun t => at0 t 0 == r) 1 52 i wr) (fun i _ => 5 - (intOf i).toNat)
      case atStart => exact ⟨0, Nat.zero_le _, rfl, HN.out, hb, hres⟩
      case round =>
        clear hb hres hn0 HN
        obtain ⟨k, hk, rfl, HN0, hb, hres⟩ := hrel
        have HN : Hid (NoneI (fun t => at0 t 0 == r) (52 + 1 * k)) := HN0
        clear HN0
        obtain ⟨hn0, c0, c1, c2, f0⟩ := hres.facts
        by_cases hlt : k < 5
        · have hi := fun w => oth_index k hlt w
          have HT := tabI_oth k (by simpa using hlt)
          generalize at0 (othT.getD k []) 0 = a at *
          generalize at0 (othT.getD k []) 1 = b at *
          generalize at0 (othT.getD k []) 2 = c at *
          have hk8 : (k : Int) < 5 := by omega
          by_cases e : a = r
          · subst e
            have HF : Hid (tabI.find? (fun t => at0 t 0 == a) = some [a, b, c]) := findI_at HN.out (by rw [Nat.one_mul]; exact HT) (by simp [at0])
            clear HN HT hres
            go_wp2
            (try simp only [Exit.inBlock, Exit.then])
            refine bodyPost_ret (v := .tuple #[.agg #[.int .i64 a, .int .i64 b, .int .i64 c], .bool true]) ?_ rfl ⟨ret_p HF.out, (below_res hb _ _ _).alloc (below_res hb _ _ _).size _⟩
            rw [results_cell_tmp rfl]
            go_simp
          · have e2 : (a == r) = false := by simpa using e
            have HN1 := HN.out.succ (t := [a, b, c]) (by rw [Nat.one_mul]; exact HT) (by simpa [at0] using e)
            have HP : Hid (PRel 5 w (fun t => at0 t 0 == r) 1 52 (.int .i64 ((k : Int) + 1)) (wr.alloc (.cells #[.int .i64 a, .int .i64 b, .int .i64 c] 135))) :=
              ⟨k + 1, by omega, by go_num, by rw [show 52 + 1 * (k + 1) = 52 + 1 * k + 1 by omega]; exact HN1, hb.alloc hb.size _, hres.alloc _⟩
            clear HN HT e HN1 hres
            go_wp2
            exact ⟨HP.out, by simp [intOf]; omega⟩
        · have HF : Hid (tabI.find? (fun t => at0 t 0 == r) = none) := findI_no HN.out (by omega)
          clear HN hres
          go_wp2
          (try simp only [Exit.inBlock, Exit.then])
          refine bodyPost_ret (v := .tuple #[.agg #[.int .i64 0, .int .i64 0, .int .i64 0], .bool false]) ?_ rfl ⟨ret_p0 HF.out, ?_⟩
          · rw [results_cell_tmp rfl]
            go_simp
          · first | exact below_res hb _ _ _ | exact hb
end Go.Proofs.YtakfnmhokijcoaaGreatDoor
