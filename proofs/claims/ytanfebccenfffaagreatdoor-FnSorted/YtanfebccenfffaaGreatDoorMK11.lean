/- Texts of mine laid together: SBehind, SBehind2, SBehind3, Strs, SWords, Rd, EntK, RdBox. -/
import Derived.Test.YtanfebccenfffaaGreatDoorMK1
import Derived.Test.YtanfebccenfffaaGreatDoorMK10
import Derived.Test.YtanfebccenfffaaGreatDoorInts
import Derived.Laws.DeepStrings4
import Derived.Laws.Concat
import Derived.Test.YtanfebccenfffaaGreatDoorDec
import Derived.Test.YtanfebccenfffaaGreatDoorEnts
import Derived.Test.YtanfebccenfffaaGreatDoorApart2
import Derived.Test.YtanfebccenfffaaGreatDoorMK2
namespace Go.Proofs.YtanfebccenfffaaGreatDoor
open Go.RowKit

/-- The least free first weight from one on (65536 is free). -/
def step1 (es : List Ent) : Nat → Int → Int
  | 0, n => n
  | f + 1, n => if freeE es n = true then n else step1 es f (n + 1)

theorem step1_free {es : List Ent} {f : Nat} {n : Int} (h : freeE es n = true) : step1 es f n = n := by
  cases f with
  | zero => rfl
  | succ f => exact if_pos h

theorem step1_next {es : List Ent} {n : Int} (h : freeE es n = false) (hn : n < 65536) : step1 es (65536 - n).toNat n = step1 es (65536 - (n + 1)).toNat (n + 1) := by
  rw [show (65536 - n).toNat = (65536 - (n + 1)).toNat + 1 by omega]
  exact if_neg (by simp [h])

theorem free_top {es : List Ent} (hF : ∀ e ∈ es, e.el.first ≤ 65535) : freeE es 65536 = true := by
  unfold freeE
  rw [show takenB 65536 = false by decide, Bool.not_false, Bool.true_and, List.all_eq_true]
  intro x hx
  have := hF x hx
  simp; omega

/-- The blocks of the rules, of the elem and of the result, still zero. -/
def Box5 (u : World) (s : Nat) (v : Value) (sh : Bool) (lv : Int) (e : El) : Prop := u.heap[s]? = some (.cells #[v, .bool sh, .int .i64 lv] 25) ∧ u.heap[s + 1]? = some (.cells #[.int .i64 e.first, .int .i64 e.second, .int .i64 e.third, .bool e.varies] 79) ∧ u.heap[s + 1 + 1]? = some (.cells #[.int .i64 0, .int .i64 0, .int .i64 0, .bool false] 79)

theorem Box5.sizes {u : World} {s : Nat} {v : Value} {sh : Bool} {lv : Int} {e : El} (h : Box5 u s v sh lv e) : s < u.heap.size ∧ s + 1 < u.heap.size ∧ s + 1 + 1 < u.heap.size :=
  ⟨(Array.getElem?_eq_some_iff.1 h.1).1, (Array.getElem?_eq_some_iff.1 h.2.1).1, (Array.getElem?_eq_some_iff.1 h.2.2).1⟩

theorem Box5.rules {u : World} {s : Nat} {v : Value} {sh : Bool} {lv : Int} {e : El} (h : Box5 u s v sh lv e) : u.cell? ⟨s, 0, none⟩ = some v ∧ u.cell? ⟨s, 1, none⟩ = some (.bool sh) ∧ u.cell? ⟨s, 2, none⟩ = some (.int .i64 lv) :=
  ⟨cell_of_row _ _ 0 _ _ _ h.1, cell_of_row _ _ 1 _ _ _ h.1, cell_of_row _ _ 2 _ _ _ h.1⟩

theorem Box5.elem {u : World} {s : Nat} {v : Value} {sh : Bool} {lv : Int} {e : El} (h : Box5 u s v sh lv e) : u.cell? ⟨s + 1, 0, none⟩ = some (.int .i64 e.first) ∧ u.cell? ⟨s + 1, 1, none⟩ = some (.int .i64 e.second) ∧ u.cell? ⟨s + 1, 2, none⟩ = some (.int .i64 e.third) ∧ u.cell? ⟨s + 1, 3, none⟩ = some (.bool e.varies) :=
  ⟨cell_of_row _ _ 0 _ _ _ h.2.1, cell_of_row _ _ 1 _ _ _ h.2.1, cell_of_row _ _ 2 _ _ _ h.2.1, cell_of_row _ _ 3 _ _ _ h.2.1⟩

theorem Box5.result {u : World} {s : Nat} {v : Value} {sh : Bool} {lv : Int} {e : El} (h : Box5 u s v sh lv e) : u.cell? ⟨s + 1 + 1, 0, none⟩ = some (.int .i64 0) ∧ u.cell? ⟨s + 1 + 1, 1, none⟩ = some (.int .i64 0) ∧ u.cell? ⟨s + 1 + 1, 2, none⟩ = some (.int .i64 0) ∧ u.cell? ⟨s + 1 + 1, 3, none⟩ = some (.bool false) ∧ ∀ j, u.frozen? ⟨s + 1 + 1, j, none⟩ = false :=
  ⟨cell_of_row _ _ 0 _ _ _ h.2.2, cell_of_row _ _ 1 _ _ _ h.2.2, cell_of_row _ _ 2 _ _ _ h.2.2, cell_of_row _ _ 3 _ _ _ h.2.2, fun j => by simp [World.frozen?, h.2.2]⟩

theorem Box5.below {u u' : World} {s : Nat} {v : Value} {sh : Bool} {lv : Int} {e : El} (h : Box5 u s v sh lv e) (hb : Below u.heap.size u u') : Box5 u' s v sh lv e := by
  have hf := h.sizes
  exact ⟨by rw [hb.block _ hf.1]; exact h.1, by rw [hb.block _ hf.2.1]; exact h.2.1, by rw [hb.block _ hf.2.2]; exact h.2.2⟩

theorem box5_new (w : World) (v : Value) (sh : Bool) (lv : Int) (e : El) : Box5 (((w.alloc (.cells #[v, .bool sh, .int .i64 lv] 25)).alloc (.cells #[.int .i64 e.first, .int .i64 e.second, .int .i64 e.third, .bool e.varies] 79)).alloc (.cells #[.int .i64 0, .int .i64 0, .int .i64 0, .bool false] 79)) w.heap.size v sh lv e := by
  refine ⟨?_, ?_, ?_⟩
  · rw [Below.heap_alloc _ _ _ (by simp; omega), Below.heap_alloc _ _ _ (by simp)]; exact heap_alloc_new w _
  · rw [Below.heap_alloc _ _ _ (by simp)]; exact heap_alloc2_new w _ _
  · have := heap_alloc_new ((w.alloc (.cells #[v, .bool sh, .int .i64 lv] 25)).alloc (.cells #[.int .i64 e.first, .int .i64 e.second, .int .i64 e.third, .bool e.varies] 79)) (.cells #[.int .i64 0, .int .i64 0, .int .i64 0, .bool false] 79)
    simpa using this

theorem below_new5 (w : World) (v : Value) (sh : Bool) (lv : Int) (e : El) : Below w.heap.size w (((w.alloc (.cells #[v, .bool sh, .int .i64 lv] 25)).alloc (.cells #[.int .i64 e.first, .int .i64 e.second, .int .i64 e.third, .bool e.varies] 79)).alloc (.cells #[.int .i64 0, .int .i64 0, .int .i64 0, .bool false] 79)) :=
  (((Below.refl w.heap.size w).alloc (Nat.le_refl _) _).alloc (by simp) _).alloc (by simp; omega) _

theorem below_res5 {w wr : World} (h : Below w.heap.size w wr) (x y z t : Value) : Below w.heap.size w ((((wr.setCell ⟨w.heap.size + 1 + 1, 0, none⟩ x).setCell ⟨w.heap.size + 1 + 1, 1, none⟩ y).setCell ⟨w.heap.size + 1 + 1, 2, none⟩ z).setCell ⟨w.heap.size + 1 + 1, 3, none⟩ t) :=
  (((h.setCell (show w.heap.size ≤ w.heap.size + 1 + 1 by omega) _).setCell (show w.heap.size ≤ w.heap.size + 1 + 1 by omega) _).setCell (show w.heap.size ≤ w.heap.size + 1 + 1 by omega) _).setCell (show w.heap.size ≤ w.heap.size + 1 + 1 by omega) _

def B1Rel (w : World) (v : Value) (sh : Bool) (lv : Int) (e : El) (es : List Ent) (N : Int) (i : Value) (wr : World) : Prop := ∃ m : Int, i = .int .i64 m ∧ 0 ≤ m ∧ m ≤ 65536 ∧ step1 es (65536 - m).toNat m = N ∧ Box5 wr w.heap.size v sh lv e ∧ Below w.heap.size w wr

set_option maxRecDepth 100000 in
set_option maxHeartbeats 4000000 in
theorem behind1_any {w : World} {B : Nat} {v : Value} {es : List Ent} {sh : Bool} {lv : Int} {e : El} (hE : Ents w B v es) (hn : es.length ≤ 1048576) (hF : ∀ e ∈ es, e.el.first ≤ 65535) (h0 : 0 ≤ e.first) (h1 : e.first ≤ 65535) :
    Calls Tryz.prog 66 #[.agg #[v, .bool sh, .int .i64 lv], .agg #[.int .i64 e.first, .int .i64 e.second, .int .i64 e.third, .bool e.varies], .int .i64 1] w fun x w' => x = .returned (elV ⟨step1 es (65535 - e.first).toNat (e.first + 1), 32, 2, false⟩) ∧ Below w.heap.size w w' := by
  have HB : Hid (Below _ _ _) := below_new5 w v sh lv e
  have HX : Hid (Box5 _ _ _ _ _ _) := box5_new w v sh lv e
  have HE : Hid (Ents _ _ _ _) := hE
  obtain ⟨N, HS⟩ : ∃ N, Hid (step1 es (65535 - e.first).toNat (e.first + 1) = N) := ⟨_, rfl⟩
  rw [HS.out]
  have HS2 : Hid (step1 es (65536 - (e.first + 1)).toNat (e.first + 1) = N) := by
    show _ = _
    rw [show 65536 - (e.first + 1) = 65535 - e.first by omega]; exact HS.out
  clear hE HS
  go_enter Tryz.func66, Tryz.ntmps66
  go_wp2_with fail
  go_loopw [7] (fun i wr => B1Rel w v sh lv e es N i wr) (fun i _ => (65536 - intOf i).toNat)
  case atStart => exact ⟨e.first + 1, rfl, by omega, by omega, HS2.out, HX.out, HB.out⟩
  case round =>
    clear HS2 HX HB
    obtain ⟨m, rfl, m0, m1, hs, hx, hb⟩ := hrel
    have HS : Hid (step1 es (65536 - m).toNat m = N) := hs
    have FR := free_any (sh := sh) (lv := lv) (n := m) (HE.out.below hb) hn m0 (by omega)
    obtain ⟨p0, p1, p2⟩ := hx.rules
    have HX : Hid (Box5 _ _ _ _ _ _) := hx
    have HB : Hid (Below _ _ _) := hb
    clear hs hx hb HE
    go_wp2_with fail
    refine FR.mono ?_
    rintro e' w2 ⟨rfl, b2⟩
    have hx2 := HX.out.below b2
    have c2 := HB.out.trans (b2.mono HB.out.size)
    clear FR p0 p1 p2 b2 HX HB
    cases hf : freeE es m
    · have hm : m < 65536 := by
        by_cases c : m = 65536
        · subst c; rw [free_top hF] at hf; cases hf
        · omega
      have HS3 : Hid (step1 es (65536 - (m + 1)).toNat (m + 1) = N) := (step1_next hf hm).symm.trans HS.out
      clear HS hf hF
      have HX2 : Hid (Box5 _ _ _ _ _ _) := hx2
      clear hx2
      go_wp2
      exact ⟨⟨m + 1, by go_num, by omega, by omega, HS3.out, HX2.out, c2⟩, by simp [intOf]; omega⟩
    · have hN : m = N := (step1_free hf).symm.trans HS.out
      subst hN
      obtain ⟨q0, q1, q2, q3, f0⟩ := hx2.result
      obtain ⟨n0, n1, n2⟩ := hx2.sizes
      clear HS hf hF hx2
      go_wp2
      refine bodyPost_ret (v := .agg #[.int .i64 m, .int .i64 32, .int .i64 2, .bool false]) ?_ rfl ⟨rfl, below_res5 c2 _ _ _ _⟩
      rw [results_cell1 rfl]
      go_simp
end Go.Proofs.YtanfebccenfffaaGreatDoor

namespace Go.Proofs.YtanfebccenfffaaGreatDoor
open Go.RowKit

/-- The first number from one on, by steps, at which p does not hold. -/
def stepN (p : Int → Bool) (nx : Int → Int) : Nat → Int → Int
  | 0, n => n
  | f + 1, n => if p n = true then stepN p nx f (nx n) else n

theorem stepN_end {p : Int → Bool} {nx : Int → Int} {f : Nat} {n : Int} (h : p n = false) : stepN p nx f n = n := by
  cases f with
  | zero => rfl
  | succ f => exact if_neg (by simp [h])

/-- What is left to walk, from n on to a last number M that is passed. -/
def Left (p : Int → Bool) (nx : Int → Int) (M n N : Int) : Prop := ∃ f : Nat, M - n < (f : Int) ∧ stepN p nx f n = N

theorem Left.next {p : Int → Bool} {nx : Int → Int} {M n N : Int} (h : Left p nx M n N) (hp : p n = true) (hn : n ≤ M) (hx : n < nx n) : Left p nx M (nx n) N := by
  obtain ⟨f, h1, h2⟩ := h
  cases f with
  | zero => exfalso; simp at h1; omega
  | succ f =>
    refine ⟨f, by omega, ?_⟩
    rw [← h2]; exact (if_pos hp).symm

theorem Left.last {p : Int → Bool} {nx : Int → Int} {M n N : Int} (h : Left p nx M n N) (hp : p n = false) : n = N := by
  obtain ⟨f, _, h2⟩ := h
  rw [← h2, stepN_end hp]

def NotQ (es : List Ent) (q : El → Bool) (k : Nat) : Prop := ∀ j e, j < k → es[j]? = some e → q e.el = false

theorem NotQ.succ {es : List Ent} {q : El → Bool} {e : Ent} {k : Nat} (h : NotQ es q k) (hx : es[k]? = some e) (hn : q e.el = false) : NotQ es q (k + 1) := by
  intro j y hj hy
  by_cases c : j = k
  · subst c; rw [hx] at hy; cases hy; exact hn
  · exact h j y (by omega) hy

def hasQ (es : List Ent) (q : El → Bool) : Bool := es.any fun e => q e.el

theorem hasQ_hit {es : List Ent} {q : El → Bool} {e : Ent} {k : Nat} (he : es[k]? = some e) (h : q e.el = true) : hasQ es q = true := List.any_eq_true.2 ⟨e, List.mem_of_getElem? he, h⟩

theorem hasQ_none {es : List Ent} {q : El → Bool} {k : Nat} (h : NotQ es q k) (hk : es.length ≤ k) : hasQ es q = false := by
  refine List.any_eq_false.2 fun x hx => ?_
  obtain ⟨j, hj⟩ := List.mem_iff_getElem?.1 hx
  have h1 := (List.getElem?_eq_some_iff.1 hj).1
  simp [h j x (by omega) hj]

def q2 (e : El) (n : Int) (x : El) : Bool := x.first == e.first && x.second == n
def q3 (e : El) (n : Int) (x : El) : Bool := (x.first == e.first && x.second == e.second) && x.third == n
def nx2 (n : Int) : Int := n + 1
def nx3 (n : Int) : Int := if n + 1 = 8 then n + 1 + 1 else n + 1

def behind2 (es : List Ent) (e : El) : El := ⟨e.first, stepN (fun n => hasQ es (q2 e n)) nx2 1001 (e.second + 1), 2, false⟩
def behind3 (es : List Ent) (e : El) : El := ⟨e.first, e.second, stepN (fun n => hasQ es (q3 e n)) nx3 1001 (nx3 e.third), false⟩

def B2Rel (w : World) (v : Value) (sh : Bool) (lv : Int) (e : El) (es : List Ent) (q : Int → El → Bool) (nx : Int → Int) (N : Int) (i j : Value) (wr : World) : Prop :=
  ∃ (m : Int) (k : Nat), i = .int .i64 m ∧ j = .int .i64 k ∧ (0 ≤ m ∧ m ≤ 1002 ∧ k ≤ es.length) ∧ NotQ es (q m) k ∧ Left (fun n => hasQ es (q n)) nx 1000 m N ∧ Box5 wr w.heap.size v sh lv e ∧ Below w.heap.size w wr

set_option maxRecDepth 100000 in
set_option maxHeartbeats 8000000 in
theorem behind2_any {w : World} {B : Nat} {v : Value} {es : List Ent} {sh : Bool} {lv : Int} {e : El} (hE : Ents w B v es) (hn : es.length ≤ 40) (hF : ∀ x ∈ es, x.el.second ≤ 999) (h0 : 0 ≤ e.second) (h1 : e.second ≤ 999) :
    Calls Tryz.prog 66 #[.agg #[v, .bool sh, .int .i64 lv], .agg #[.int .i64 e.first, .int .i64 e.second, .int .i64 e.third, .bool e.varies], .int .i64 2] w fun x w' => x = .returned (elV (behind2 es e)) ∧ Below w.heap.size w w' := by
  obtain ⟨a, c, rfl⟩ : ∃ a c, v = .slice a es.length c := by
    rcases hE.form with ⟨rfl, rfl⟩ | ⟨g, cap, rfl, _, _, _, _⟩
    · exact ⟨_, _, rfl⟩
    · exact ⟨_, _, rfl⟩
  have HB : Hid (Below _ _ _) := below_new5 w (.slice a es.length c) sh lv e
  have HX : Hid (Box5 _ _ _ _ _ _) := box5_new w (.slice a es.length c) sh lv e
  have HE : Hid (Ents _ _ _ _) := hE
  unfold behind2
  obtain ⟨N, HS⟩ : ∃ N, Hid (stepN (fun n => hasQ es (q2 e n)) nx2 1001 (e.second + 1) = N) := ⟨_, rfl⟩
  rw [HS.out]
  have HS2 : Hid (Left (fun n => hasQ es (q2 e n)) nx2 1000 (e.second + 1) N) := ⟨1001, by omega, HS.out⟩
  clear hE HS
  go_enter Tryz.func66, Tryz.ntmps66
  go_wp2_with fail
  go_loopw [8, 9] (fun i j wr => B2Rel w (.slice a es.length c) sh lv e es (q2 e) nx2 N i j wr) (fun i j _ => (1003 - intOf i).toNat * 100 + (50 - (intOf j).toNat))
  case atStart => exact ⟨e.second + 1, 0, rfl, rfl, ⟨by omega, by omega, by omega⟩, fun j x hj => by omega, HS2.out, HX.out, HB.out⟩
  case round =>
    clear HS2 HX HB
    obtain ⟨m, k, rfl, rfl, ⟨m0, m1, hk⟩, hq, hl, hx, hb⟩ := hrel
    have HQ : Hid (NotQ _ _ _) := hq
    have HL : Hid (Left _ _ _ _ _) := hl
    have HX : Hid (Box5 _ _ _ _ _ _) := hx
    obtain ⟨p0, p1, p2⟩ := hx.rules
    obtain ⟨s0, s1, s2, s3⟩ := hx.elem
    obtain ⟨z0, z1, z2, z3, f0⟩ := hx.result
    obtain ⟨n0, n1, n2⟩ := hx.sizes
    clear hq hl hx
    by_cases hlt : k < es.length
    · obtain ⟨x, he⟩ : ∃ x, es[k]? = some x := ⟨_, List.getElem?_eq_getElem hlt⟩
      have hF' := hF x (List.mem_of_getElem? he)
      rcases HE.out.form with ⟨_, h⟩ | ⟨g, cap, h, _, _, _, _⟩
      · rw [h] at hlt; simp at hlt
      · cases h
        obtain ⟨y, hI, a0, a1, a2, a3, a4⟩ := (HE.out.below hb).cells k x he
        have hk8 : (k : Int) < (es.length : Int) := by omega
        have HX2 : Hid (Box5 _ _ _ _ _ _) := HX.out.below ((Below.refl wr.heap.size wr).alloc (Nat.le_refl _) (.cells #[.int .i64 x.el.first, .int .i64 x.el.second, .int .i64 x.el.third, .bool x.el.varies] 79))
        have HB2 : Hid (Below _ _ _) := hb.alloc hb.size (.cells #[.int .i64 x.el.first, .int .i64 x.el.second, .int .i64 x.el.third, .bool x.el.varies] 79)
        have HK : Hid _ := he
        clear hI he HE hF HX hb
        by_cases c1 : x.el.first = e.first
        · have c1' : (x.el.first == e.first) = true := by simpa using c1
          by_cases c2 : x.el.second = m
          · have c2' : (x.el.second == m) = true := by simpa using c2
            have HL2 : Hid (Left (fun n => hasQ es (q2 e n)) nx2 1000 (m + 1) N) := HL.out.next (hasQ_hit HK.out (by show (_ && _) = true; rw [c1', c2']; rfl)) (by omega) (by show m < m + 1; omega)
            have m2 : m ≤ 999 := by omega
            clear HQ HL HK c1 c2 hF'
            go_wp2
            exact ⟨⟨m + 1, 0, by go_num, by go_num, ⟨by omega, by omega, by omega⟩, fun j x hj => by omega, HL2.out, HX2.out, HB2.out⟩, by simp [intOf]; omega⟩
          · have c2' : (x.el.second == m) = false := by simpa using c2
            have HQ2 : Hid (NotQ es (q2 e m) (k + 1)) := HQ.out.succ HK.out (by show (_ && _) = false; rw [c2', Bool.and_false])
            clear HQ HK c1 c2 hF'
            go_wp2
            exact ⟨⟨m, k + 1, by go_num, by go_num, ⟨by omega, by omega, by omega⟩, HQ2.out, HL.out, HX2.out, HB2.out⟩, by simp [intOf]; omega⟩
        · have c1' : (x.el.first == e.first) = false := by simpa using c1
          have HQ2 : Hid (NotQ es (q2 e m) (k + 1)) := HQ.out.succ HK.out (by show (_ && _) = false; rw [c1', Bool.false_and])
          clear HQ HK c1 hF'
          go_wp2
          exact ⟨⟨m, k + 1, by go_num, by go_num, ⟨by omega, by omega, by omega⟩, HQ2.out, HL.out, HX2.out, HB2.out⟩, by simp [intOf]; omega⟩
    · have hN : m = N := HL.out.last (hasQ_none HQ.out (by omega))
      subst hN
      have hk8 : ¬ (k : Int) < (es.length : Int) := by omega
      clear HQ HL HX HE hF
      go_wp2
      refine bodyPost_ret (v := .agg #[.int .i64 e.first, .int .i64 m, .int .i64 2, .bool false]) ?_ rfl ⟨rfl, below_res5 hb _ _ _ _⟩
      rw [results_cell1 rfl]
      go_simp
end Go.Proofs.YtanfebccenfffaaGreatDoor

namespace Go.Proofs.YtanfebccenfffaaGreatDoor
open Go.RowKit

theorem nx3_eq (n : Int) (h : n + 1 = 8) : nx3 n = n + 1 + 1 := if_pos h
theorem nx3_ne (n : Int) (h : n + 1 ≠ 8) : nx3 n = n + 1 := if_neg h
theorem nx3_lt (n : Int) : n < nx3 n := by unfold nx3; split <;> omega

set_option maxRecDepth 100000 in
set_option maxHeartbeats 8000000 in
theorem behind3_at8 {w : World} {B : Nat} {v : Value} {es : List Ent} {sh : Bool} {lv : Int} {e : El} (hE : Ents w B v es) (hn : es.length ≤ 40) (hF : ∀ x ∈ es, x.el.third ≤ 99) (h8 : e.third + 1 = 8) :
    Calls Tryz.prog 66 #[.agg #[v, .bool sh, .int .i64 lv], .agg #[.int .i64 e.first, .int .i64 e.second, .int .i64 e.third, .bool e.varies], .int .i64 3] w fun x w' => x = .returned (elV (behind3 es e)) ∧ Below w.heap.size w w' := by
  obtain ⟨a, c, rfl⟩ : ∃ a c, v = .slice a es.length c := by
    rcases hE.form with ⟨rfl, rfl⟩ | ⟨g, cap, rfl, _, _, _, _⟩
    · exact ⟨_, _, rfl⟩
    · exact ⟨_, _, rfl⟩
  have HB : Hid (Below _ _ _) := below_new5 w (.slice a es.length c) sh lv e
  have HX : Hid (Box5 _ _ _ _ _ _) := box5_new w (.slice a es.length c) sh lv e
  have HE : Hid (Ents _ _ _ _) := hE
  unfold behind3
  obtain ⟨N, HS⟩ : ∃ N, Hid (stepN (fun n => hasQ es (q3 e n)) nx3 1001 (nx3 e.third) = N) := ⟨_, rfl⟩
  rw [HS.out]
  have HS2 : Hid (Left (fun n => hasQ es (q3 e n)) nx3 1000 (e.third + 1 + 1) N) := ⟨1001, by omega, by rw [← nx3_eq _ h8]; exact HS.out⟩
  have h8' : (e.third + 1 == 8) = true := by simpa using h8
  clear hE HS
  go_enter Tryz.func66, Tryz.ntmps66
  go_wp2_with fail
  go_loopw [11, 12] (fun i j wr => B2Rel w (.slice a es.length c) sh lv e es (q3 e) nx3 N i j wr) (fun i j _ => (1003 - intOf i).toNat * 100 + (50 - (intOf j).toNat))
  case atStart => exact ⟨e.third + 1 + 1, 0, by rw [show e.third + 1 + 1 = 9 by omega], rfl, ⟨by omega, by omega, by omega⟩, fun j x hj => by omega, HS2.out, HX.out, HB.out⟩
  case round =>
    clear HS2 HX HB h8 h8'
    obtain ⟨m, k, rfl, rfl, ⟨m0, m1, hk⟩, hq, hl, hx, hb⟩ := hrel
    have HQ : Hid (NotQ _ _ _) := hq
    have HL : Hid (Left _ _ _ _ _) := hl
    have HX : Hid (Box5 _ _ _ _ _ _) := hx
    obtain ⟨p0, p1, p2⟩ := hx.rules
    obtain ⟨s0, s1, s2, s3⟩ := hx.elem
    obtain ⟨z0, z1, z2, z3, f0⟩ := hx.result
    obtain ⟨n0, n1, n2⟩ := hx.sizes
    clear hq hl hx
    by_cases hlt : k < es.length
    · obtain ⟨x, he⟩ : ∃ x, es[k]? = some x := ⟨_, List.getElem?_eq_getElem hlt⟩
      have hF' := hF x (List.mem_of_getElem? he)
      rcases HE.out.form with ⟨_, h⟩ | ⟨g, cap, h, _, _, _, _⟩
      · rw [h] at hlt; simp at hlt
      · cases h
        obtain ⟨y, hI, a0, a1, a2, a3, a4⟩ := (HE.out.below hb).cells k x he
        have hk8 : (k : Int) < (es.length : Int) := by omega
        have HX2 : Hid (Box5 _ _ _ _ _ _) := HX.out.below ((Below.refl wr.heap.size wr).alloc (Nat.le_refl _) (.cells #[.int .i64 x.el.first, .int .i64 x.el.second, .int .i64 x.el.third, .bool x.el.varies] 79))
        have HB2 : Hid (Below _ _ _) := hb.alloc hb.size (.cells #[.int .i64 x.el.first, .int .i64 x.el.second, .int .i64 x.el.third, .bool x.el.varies] 79)
        have HK : Hid _ := he
        clear hI he HE hF HX hb
        by_cases c1 : x.el.first = e.first
        · have c1' : (x.el.first == e.first) = true := by simpa using c1
          by_cases c2 : x.el.second = e.second
          · have c2' : (x.el.second == e.second) = true := by simpa using c2
            by_cases c3 : x.el.third = m
            · have c3' : (x.el.third == m) = true := by simpa using c3
              have HL2 : Hid (Left (fun n => hasQ es (q3 e n)) nx3 1000 (nx3 m) N) := HL.out.next (hasQ_hit HK.out (by show (_ && _) = true; rw [c1', c2', c3']; rfl)) (by omega) (nx3_lt m)
              have m2 : m ≤ 99 := by omega
              clear HQ HL HK c1 c2 c3 hF'
              by_cases c8 : m + 1 = 8
              · have c8' : (m + 1 == 8) = true := by simpa using c8
                have HL3 : Hid (Left (fun n => hasQ es (q3 e n)) nx3 1000 (m + 1 + 1) N) := by rw [nx3_eq m c8] at HL2; exact HL2
                clear HL2 c8
                go_wp2
                exact ⟨⟨m + 1 + 1, 0, by go_num, by go_num, ⟨by omega, by omega, by omega⟩, fun j x hj => by omega, HL3.out, HX2.out, HB2.out⟩, by simp [intOf]; omega⟩
              · have c8' : (m + 1 == 8) = false := by simpa using c8
                have HL3 : Hid (Left (fun n => hasQ es (q3 e n)) nx3 1000 (m + 1) N) := by rw [nx3_ne m c8] at HL2; exact HL2
                clear HL2 c8
                go_wp2
                exact ⟨⟨m + 1, 0, by go_num, by go_num, ⟨by omega, by omega, by omega⟩, fun j x hj => by omega, HL3.out, HX2.out, HB2.out⟩, by simp [intOf]; omega⟩
            · have c3' : (x.el.third == m) = false := by simpa using c3
              have HQ2 : Hid (NotQ es (q3 e m) (k + 1)) := HQ.out.succ HK.out (by show (_ && _) = false; rw [c3', Bool.and_false])
              clear HQ HK c1 c2 c3 hF'
              go_wp2
              exact ⟨⟨m, k + 1, by go_num, by go_num, ⟨by omega, by omega, by omega⟩, HQ2.out, HL.out, HX2.out, HB2.out⟩, by simp [intOf]; omega⟩
          · have c2' : (x.el.second == e.second) = false := by simpa using c2
            have HQ2 : Hid (NotQ es (q3 e m) (k + 1)) := HQ.out.succ HK.out (by show ((_ && _) && _) = false; rw [c2', Bool.and_false, Bool.false_and])
            clear HQ HK c1 c2 hF'
            go_wp2
            exact ⟨⟨m, k + 1, by go_num, by go_num, ⟨by omega, by omega, by omega⟩, HQ2.out, HL.out, HX2.out, HB2.out⟩, by simp [intOf]; omega⟩
        · have c1' : (x.el.first == e.first) = false := by simpa using c1
          have HQ2 : Hid (NotQ es (q3 e m) (k + 1)) := HQ.out.succ HK.out (by show ((_ && _) && _) = false; rw [c1', Bool.false_and, Bool.false_and])
          clear HQ HK c1 hF'
          go_wp2
          exact ⟨⟨m, k + 1, by go_num, by go_num, ⟨by omega, by omega, by omega⟩, HQ2.out, HL.out, HX2.out, HB2.out⟩, by simp [intOf]; omega⟩
    · have hN : m = N := HL.out.last (hasQ_none HQ.out (by omega))
      subst hN
      have hk8 : ¬ (k : Int) < (es.length : Int) := by omega
      clear HQ HL HX HE hF
      go_wp2
      refine bodyPost_ret (v := .agg #[.int .i64 e.first, .int .i64 e.second, .int .i64 m, .bool false]) ?_ rfl ⟨rfl, below_res5 hb _ _ _ _⟩
      rw [results_cell1 rfl]
      go_simp

set_option maxRecDepth 100000 in
set_option maxHeartbeats 8000000 in
theorem behind3_no8 {w : World} {B : Nat} {v : Value} {es : List Ent} {sh : Bool} {lv : Int} {e : El} (hE : Ents w B v es) (hn : es.length ≤ 40) (hF : ∀ x ∈ es, x.el.third ≤ 99) (h0 : 0 ≤ e.third) (h1 : e.third ≤ 99) (h8 : e.third + 1 ≠ 8) :
    Calls Tryz.prog 66 #[.agg #[v, .bool sh, .int .i64 lv], .agg #[.int .i64 e.first, .int .i64 e.second, .int .i64 e.third, .bool e.varies], .int .i64 3] w fun x w' => x = .returned (elV (behind3 es e)) ∧ Below w.heap.size w w' := by
  obtain ⟨a, c, rfl⟩ : ∃ a c, v = .slice a es.length c := by
    rcases hE.form with ⟨rfl, rfl⟩ | ⟨g, cap, rfl, _, _, _, _⟩
    · exact ⟨_, _, rfl⟩
    · exact ⟨_, _, rfl⟩
  have HB : Hid (Below _ _ _) := below_new5 w (.slice a es.length c) sh lv e
  have HX : Hid (Box5 _ _ _ _ _ _) := box5_new w (.slice a es.length c) sh lv e
  have HE : Hid (Ents _ _ _ _) := hE
  unfold behind3
  obtain ⟨N, HS⟩ : ∃ N, Hid (stepN (fun n => hasQ es (q3 e n)) nx3 1001 (nx3 e.third) = N) := ⟨_, rfl⟩
  rw [HS.out]
  have HS2 : Hid (Left (fun n => hasQ es (q3 e n)) nx3 1000 (e.third + 1) N) := ⟨1001, by omega, by rw [← nx3_ne _ h8]; exact HS.out⟩
  have h8' : (e.third + 1 == 8) = false := by simpa using h8
  clear hE HS
  go_enter Tryz.func66, Tryz.ntmps66
  go_wp2_with fail
  go_loopw [11, 12] (fun i j wr => B2Rel w (.slice a es.length c) sh lv e es (q3 e) nx3 N i j wr) (fun i j _ => (1003 - intOf i).toNat * 100 + (50 - (intOf j).toNat))
  case atStart => exact ⟨e.third + 1, 0, rfl, rfl, ⟨by omega, by omega, by omega⟩, fun j x hj => by omega, HS2.out, HX.out, HB.out⟩
  case round =>
    clear HS2 HX HB h8 h8'
    obtain ⟨m, k, rfl, rfl, ⟨m0, m1, hk⟩, hq, hl, hx, hb⟩ := hrel
    have HQ : Hid (NotQ _ _ _) := hq
    have HL : Hid (Left _ _ _ _ _) := hl
    have HX : Hid (Box5 _ _ _ _ _ _) := hx
    obtain ⟨p0, p1, p2⟩ := hx.rules
    obtain ⟨s0, s1, s2, s3⟩ := hx.elem
    obtain ⟨z0, z1, z2, z3, f0⟩ := hx.result
    obtain ⟨n0, n1, n2⟩ := hx.sizes
    clear hq hl hx
    by_cases hlt : k < es.length
    · obtain ⟨x, he⟩ : ∃ x, es[k]? = some x := ⟨_, List.getElem?_eq_getElem hlt⟩
      have hF' := hF x (List.mem_of_getElem? he)
      rcases HE.out.form with ⟨_, h⟩ | ⟨g, cap, h, _, _, _, _⟩
      · rw [h] at hlt; simp at hlt
      · cases h
        obtain ⟨y, hI, a0, a1, a2, a3, a4⟩ := (HE.out.below hb).cells k x he
        have hk8 : (k : Int) < (es.length : Int) := by omega
        have HX2 : Hid (Box5 _ _ _ _ _ _) := HX.out.below ((Below.refl wr.heap.size wr).alloc (Nat.le_refl _) (.cells #[.int .i64 x.el.first, .int .i64 x.el.second, .int .i64 x.el.third, .bool x.el.varies] 79))
        have HB2 : Hid (Below _ _ _) := hb.alloc hb.size (.cells #[.int .i64 x.el.first, .int .i64 x.el.second, .int .i64 x.el.third, .bool x.el.varies] 79)
        have HK : Hid _ := he
        clear hI he HE hF HX hb
        by_cases c1 : x.el.first = e.first
        · have c1' : (x.el.first == e.first) = true := by simpa using c1
          by_cases c2 : x.el.second = e.second
          · have c2' : (x.el.second == e.second) = true := by simpa using c2
            by_cases c3 : x.el.third = m
            · have c3' : (x.el.third == m) = true := by simpa using c3
              have HL2 : Hid (Left (fun n => hasQ es (q3 e n)) nx3 1000 (nx3 m) N) := HL.out.next (hasQ_hit HK.out (by show (_ && _) = true; rw [c1', c2', c3']; rfl)) (by omega) (nx3_lt m)
              have m2 : m ≤ 99 := by omega
              clear HQ HL HK c1 c2 c3 hF'
              by_cases c8 : m + 1 = 8
              · have c8' : (m + 1 == 8) = true := by simpa using c8
                have HL3 : Hid (Left (fun n => hasQ es (q3 e n)) nx3 1000 (m + 1 + 1) N) := by rw [nx3_eq m c8] at HL2; exact HL2
                clear HL2 c8
                go_wp2
                exact ⟨⟨m + 1 + 1, 0, by go_num, by go_num, ⟨by omega, by omega, by omega⟩, fun j x hj => by omega, HL3.out, HX2.out, HB2.out⟩, by simp [intOf]; omega⟩
              · have c8' : (m + 1 == 8) = false := by simpa using c8
                have HL3 : Hid (Left (fun n => hasQ es (q3 e n)) nx3 1000 (m + 1) N) := by rw [nx3_ne m c8] at HL2; exact HL2
                clear HL2 c8
                go_wp2
                exact ⟨⟨m + 1, 0, by go_num, by go_num, ⟨by omega, by omega, by omega⟩, fun j x hj => by omega, HL3.out, HX2.out, HB2.out⟩, by simp [intOf]; omega⟩
            · have c3' : (x.el.third == m) = false := by simpa using c3
              have HQ2 : Hid (NotQ es (q3 e m) (k + 1)) := HQ.out.succ HK.out (by show (_ && _) = false; rw [c3', Bool.and_false])
              clear HQ HK c1 c2 c3 hF'
              go_wp2
              exact ⟨⟨m, k + 1, by go_num, by go_num, ⟨by omega, by omega, by omega⟩, HQ2.out, HL.out, HX2.out, HB2.out⟩, by simp [intOf]; omega⟩
          · have c2' : (x.el.second == e.second) = false := by simpa using c2
            have HQ2 : Hid (NotQ es (q3 e m) (k + 1)) := HQ.out.succ HK.out (by show ((_ && _) && _) = false; rw [c2', Bool.and_false, Bool.false_and])
            clear HQ HK c1 c2 hF'
            go_wp2
            exact ⟨⟨m, k + 1, by go_num, by go_num, ⟨by omega, by omega, by omega⟩, HQ2.out, HL.out, HX2.out, HB2.out⟩, by simp [intOf]; omega⟩
        · have c1' : (x.el.first == e.first) = false := by simpa using c1
          have HQ2 : Hid (NotQ es (q3 e m) (k + 1)) := HQ.out.succ HK.out (by show ((_ && _) && _) = false; rw [c1', Bool.false_and, Bool.false_and])
          clear HQ HK c1 hF'
          go_wp2
          exact ⟨⟨m, k + 1, by go_num, by go_num, ⟨by omega, by omega, by omega⟩, HQ2.out, HL.out, HX2.out, HB2.out⟩, by simp [intOf]; omega⟩
    · have hN : m = N := HL.out.last (hasQ_none HQ.out (by omega))
      subst hN
      have hk8 : ¬ (k : Int) < (es.length : Int) := by omega
      clear HQ HL HX HE hF
      go_wp2
      refine bodyPost_ret (v := .agg #[.int .i64 e.first, .int .i64 e.second, .int .i64 m, .bool false]) ?_ rfl ⟨rfl, below_res5 hb _ _ _ _⟩
      rw [results_cell1 rfl]
      go_simp

theorem behind3_any {w : World} {B : Nat} {v : Value} {es : List Ent} {sh : Bool} {lv : Int} {e : El} (hE : Ents w B v es) (hn : es.length ≤ 40) (hF : ∀ x ∈ es, x.el.third ≤ 99) (h0 : 0 ≤ e.third) (h1 : e.third ≤ 99) :
    Calls Tryz.prog 66 #[.agg #[v, .bool sh, .int .i64 lv], .agg #[.int .i64 e.first, .int .i64 e.second, .int .i64 e.third, .bool e.varies], .int .i64 3] w fun x w' => x = .returned (elV (behind3 es e)) ∧ Below w.heap.size w w' := by
  by_cases h8 : e.third + 1 = 8
  · exact behind3_at8 hE hn hF h8
  · exact behind3_no8 hE hn hF h0 h1 h8
end Go.Proofs.YtanfebccenfffaaGreatDoor

namespace Go.Proofs.YtanfebccenfffaaGreatDoor
open Go.RowKit

theorem info_str : (Tryz.prog.info? 9).map (fun i => (i.zero, i.size, i.bytes)) = some (some (.string ⟨#[]⟩), 1, 16) := by kernel_rfl

/-- A row of strings of the call's own. -/
def Strs (w : World) (B : Nat) (v : Value) (ss : List ByteArray) : Prop := w.ownsRow B 9 1 v ss.length (ss.map Value.string)

theorem Strs.snoc {w : World} {base : Nat} {v : Value} {ss : List ByteArray} {x : ByteArray} (h : w.ownsRow base 9 1 v (ss.length + 1) (ss.map Value.string ++ [.string x])) : Strs w base v (ss ++ [x]) := by
  unfold Strs; simpa using h

theorem Strs.form {w : World} {B : Nat} {v : Value} {ss : List ByteArray} (h : Strs w B v ss) : (v = .slice none 0 0 ∧ ss = []) ∨ ∃ g cap, v = .slice (some ⟨g, 0, none⟩) ss.length cap ∧ ss.length ≤ cap ∧ cap ≤ maxLen := by
  rcases h.2 with ⟨a, b⟩ | ⟨g, cap, cur, a, b, c, d, e, _⟩
  · exact .inl ⟨a, by simpa using b⟩
  · exact .inr ⟨g, cap, a, d, e⟩

theorem Strs.cell {w : World} {B : Nat} {g cap : Nat} {ss : List ByteArray} (h : Strs w B (.slice (some ⟨g, 0, none⟩) ss.length cap) ss) (j : Nat) (x : ByteArray) (hx : ss[j]? = some x) :
    w.cell? ⟨g, j, none⟩ = some (.string x) := by
  have hj := (List.getElem?_eq_some_iff.1 hx).1
  rw [World.ownsRow.cellAt h j (by omega)]
  simp [hx]

theorem Strs.below {w w' : World} {B : Nat} {v : Value} {ss : List ByteArray} (h : Strs w B v ss) (hb : Below w.heap.size w w') : Strs w' B v ss :=
  World.ownsRow.kept h (row := none) ⟨hb.os, hb.tape, hb.output, hb.size, fun k hk _ => hb.block k hk⟩ (by cases h : v.ownBlock <;> simp)
end Go.Proofs.YtanfebccenfffaaGreatDoor

namespace Go.Proofs.YtanfebccenfffaaGreatDoor
open Go.RowKit

/-- The words ahead of place k, and the one that is under way; behind the end stands a blank. -/
def wst (s : ByteArray) : Nat → List ByteArray × ByteArray
  | 0 => ([], ⟨#[]⟩)
  | k + 1 =>
    if k < s.size ∧ Dec.bt s k ≠ 32 then ((wst s k).1, (wst s k).2 ++ s.extract k (k + 1))
    else ((if (wst s k).2.size = 0 then (wst s k).1 else (wst s k).1 ++ [(wst s k).2]), ⟨#[]⟩)

def words (s : ByteArray) : List ByteArray := (wst s (s.size + 1)).1

theorem wst_bound (s : ByteArray) (k : Nat) : (wst s k).1.length ≤ k ∧ (wst s k).2.size ≤ k := by
  induction k with
  | zero => exact ⟨Nat.zero_le _, Nat.le_refl _⟩
  | succ k ih =>
    unfold wst
    split
    · rename_i h
      refine ⟨by show (wst s k).1.length ≤ _; omega, ?_⟩
      show ((wst s k).2 ++ s.extract k (k + 1)).size ≤ _
      rw [ByteArray.size_append, ByteArray.size_extract]
      omega
    · refine ⟨?_, Nat.zero_le _⟩
      show (if _ then _ else _ : List ByteArray).length ≤ _
      split
      · omega
      · rw [List.length_append]; simp; omega

def WRel (w : World) (s : ByteArray) (out word i : Value) (wr : World) : Prop :=
  ∃ (k : Nat) (os : List ByteArray) (cur : ByteArray), k ≤ s.size + 1 ∧ i = .int .i64 k ∧ wst s k = (os, cur) ∧ word = .string cur ∧ Strs wr w.heap.size out os ∧ Below w.heap.size w wr

theorem isEmpty_size (c : ByteArray) : c.toList.isEmpty = decide (c.size = 0) := by
  rw [ByteArray.toList_eq]
  rcases c with ⟨⟨l⟩⟩
  cases l <;> simp [ByteArray.size]

set_option maxRecDepth 100000 in
set_option maxHeartbeats 2000000 in
theorem words_any (s : ByteArray) (w : World) (hs : s.size ≤ 1073741824) :
    Calls Tryz.prog 64 #[.string s] w fun e w' => ∃ v, e = .returned v ∧ Strs w' w.heap.size v (words s) ∧ Below w.heap.size w w' := by
  obtain ⟨i0, hi, hz0, hz1, hz2⟩ := info_parts info_str
  go_enter Tryz.func64, Tryz.ntmps64
  go_wp2
  go_loopw [3, 4, 5] (fun out word i wr => WRel w s out word i wr) (fun _ _ i _ => s.size + 1 - (intOf i).toNat)
  case atStart => exact ⟨0, [], ⟨#[]⟩, Nat.zero_le _, rfl, rfl, rfl, World.ownsRow_nil _ _ _ _, Below.refl _ _⟩
  case round =>
    obtain ⟨k, os, cur, hk, rfl, hw, rfl, ho, hb⟩ := hrel
    have hbd := wst_bound s k
    rw [hw] at hbd
    have hb1 : os.length ≤ k := hbd.1
    have hb2 : cur.size ≤ k := hbd.2
    have HW : Hid (wst s k = (os, cur)) := hw
    clear hw hbd
    unfold Strs at ho
    by_cases hle : k ≤ s.size
    · by_cases hlt : k < s.size ∧ Dec.bt s k ≠ 32
      · obtain ⟨hlt, hc⟩ := hlt
        have EK : Hid (Dec.bt s k = (s[k]'hlt).toNat) := (Dec.bt_get s k hlt).symm
        have c' : (((s[k]'hlt).toNat : Int) != 32) = true := by rw [EK.out] at hc; simp; omega
        have HN : Hid (wst s (k + 1) = (os, cur ++ s.extract k (k + 1))) := by
          show _ = _
          rw [wst, if_pos ⟨hlt, hc⟩, HW.out]
        clear hc EK HW
        go_wp2
        exact ⟨⟨k + 1, _, _, by omega, by go_num, HN.out, rfl, ho, hb⟩, by simp [intOf]; omega⟩
      · have HN0 : Hid (wst s (k + 1) = ((if cur.size = 0 then os else os ++ [cur]), ⟨#[]⟩)) := by
          show _ = _
          rw [wst, if_neg hlt, HW.out]
        clear HW
        have hd : k < s.size → Dec.bt s k = 32 := fun h => Decidable.byContradiction fun c => hlt ⟨h, c⟩
        clear hlt
        have hem := isEmpty_size cur
        by_cases hc : cur.size = 0
        · rw [decide_eq_true hc] at hem
          have HN : Hid (wst s (k + 1) = (os, ⟨#[]⟩)) := by show _ = _; rw [HN0.out, if_pos hc]
          clear HN0 hc
          by_cases hlt : k < s.size
          · have EK := Dec.bt_get s k hlt
            rw [hd hlt] at EK
            have c' : (((s[k]'hlt).toNat : Int) != 32) = false := by simp; omega
            clear hd EK
            go_wp2
            exact ⟨⟨k + 1, _, _, by omega, by go_num, HN.out, rfl, ho, hb⟩, by simp [intOf]; omega⟩
          · have c1 : ¬ (k : Int) < (s.size : Int) := by omega
            clear hd
            go_wp2
            exact ⟨⟨k + 1, _, _, by omega, by go_num, HN.out, rfl, ho, hb⟩, by simp [intOf]; omega⟩
        · rw [decide_eq_false hc] at hem
          have HN : Hid (wst s (k + 1) = (os ++ [cur], ⟨#[]⟩)) := by show _ = _; rw [HN0.out, if_neg hc]
          have hsz := hb.size
          clear HN0 hc
          by_cases hlt : k < s.size
          · have EK := Dec.bt_get s k hlt
            rw [hd hlt] at EK
            have c' : (((s[k]'hlt).toNat : Int) != 32) = false := by simp; omega
            clear hd EK
            go_wp2_with (at_builtin; refine wpList_append_own _ rfl _ _ 40 rfl w.heap.size 9 i0 (.string ⟨#[]⟩) 1 16 Tryz.underlying40 hi hz0 hz1 hz2 rfl (by decide) _ _ _ rfl (ho.alloc _) ⟨_, 0, none⟩ 1 1 [.string cur] rfl rfl (cell_one_new _ _ _) (fun x hx => by simp at hx; subst hx; rfl) (by unfold maxLen; omega) (by omega) (by simp; omega) ?_; intro v' w3 hown' hgrow3 _)
            have hb3 := Below.grown (hb.alloc (by omega) _) hgrow3 (by simp; omega) (fun j hj => (ho.lt _ hj).1)
            exact ⟨⟨k + 1, _, _, by omega, by go_num, HN.out, rfl, Strs.snoc hown', hb3⟩, by simp [intOf]; omega⟩
          · have c1 : ¬ (k : Int) < (s.size : Int) := by omega
            clear hd
            go_wp2_with (at_builtin; refine wpList_append_own _ rfl _ _ 40 rfl w.heap.size 9 i0 (.string ⟨#[]⟩) 1 16 Tryz.underlying40 hi hz0 hz1 hz2 rfl (by decide) _ _ _ rfl (ho.alloc _) ⟨_, 0, none⟩ 1 1 [.string cur] rfl rfl (cell_one_new _ _ _) (fun x hx => by simp at hx; subst hx; rfl) (by unfold maxLen; omega) (by omega) (by simp; omega) ?_; intro v' w3 hown' hgrow3 _)
            have hb3 := Below.grown (hb.alloc (by omega) _) hgrow3 (by simp; omega) (fun j hj => (ho.lt _ hj).1)
            exact ⟨⟨k + 1, _, _, by omega, by go_num, HN.out, rfl, Strs.snoc hown', hb3⟩, by simp [intOf]; omega⟩
    · have hk3 : k = s.size + 1 := by omega
      subst hk3
      have HF : Hid (os = words s) := by show _ = _; unfold words; rw [HW.out]
      clear HW
      go_wp2
      go_ret
      exact ⟨_, rfl, by rw [← HF.out]; exact ho, hb⟩
end Go.Proofs.YtanfebccenfffaaGreatDoor

namespace Go.Proofs.YtanfebccenfffaaGreatDoor

structure RS where
  es : List Ent
  sh : Bool
  lv : Int
  last : El
  reset : Bool

def wShift : List UInt8 := [91, 115, 104, 105, 102, 116, 101, 100, 93]
def wLevels : List UInt8 := [91, 108, 101, 118, 101, 108, 115]

/-- What a word asks for: 0 a reset, 1 to 3 a putting by that weight. -/
def levOf (x : ByteArray) : Option Nat :=
  if x.toList == [38] then some 0 else if x.toList == [60] then some 1 else if x.toList == [60, 60] then some 2 else if x.toList == [60, 60, 60] then some 3 else none

/-- The number of levels that a second word tells. -/
def levN (y : ByteArray) : Option Int :=
  if y.size = 2 ∧ 49 ≤ Dec.bt y 0 ∧ Dec.bt y 0 ≤ 52 ∧ Dec.bt y 1 = 93 then some ((Dec.bt y 0 : Int) - 48) else none

def behindE (es : List Ent) (e : El) : Nat → El
  | 1 => ⟨step1 es (65535 - e.first).toNat (e.first + 1), 32, 2, false⟩
  | 2 => behind2 es e
  | _ => behind3 es e

def putIn (st : RS) (lev : Nat) (l : List Int) : Except Int RS :=
  if runesOk l = false then .error 2
  else if lev = 0 then
    match elemE st.es l with
    | none => .error 3
    | some e => if e.varies = true then .error 3 else .ok { st with last := e, reset := true }
  else if st.reset = false then .error 3
  else if 0 ≤ atE st.es l then .error 4
  else if rulesOk (st.es ++ [⟨l, behindE st.es st.last lev⟩]) st.lv = true then .ok { st with es := st.es ++ [⟨l, behindE st.es st.last lev⟩], last := behindE st.es st.last lev }
  else .error 5

def readW : List ByteArray → RS → Except Int RS
  | [], st => .ok st
  | x :: ws, st =>
    if x.toList == wShift then readW ws { st with sh := true }
    else if x.toList == wLevels then
      match ws with
      | [] => .error 2
      | y :: ws' => match levN y with
        | none => .error 2
        | some n => readW ws' { st with lv := n }
    else match levOf x with
      | none => .error 2
      | some lev => match ws with
        | [] => .error 2
        | y :: ws' => if 200 < y.size then .error 2 else match putIn st lev (nD (Dec.decT y.size y).1) with
          | .error c => .error c
          | .ok st' => readW ws' st'

def rs0 : RS := ⟨[], false, 3, ⟨0, 0, 0, false⟩, false⟩

/-- What ReadRules answers. -/
structure RA where
  es : List Ent
  sh : Bool
  lv : Int
  code : Int

def raOf : Except Int RS → RA
  | .ok st => ⟨st.es, st.sh, st.lv, 0⟩
  | .error c => ⟨[], false, 0, c⟩

def readA (s : ByteArray) : RA := if 300 < s.size then ⟨[], false, 0, 1⟩ else raOf (readW (words s) rs0)

/-- What holds of the state at every word. -/
structure RInv (st : RS) : Prop where
  good : rulesOk st.es st.lv = true
  f0 : 0 ≤ st.last.first
  f1 : st.last.first ≤ 65535
  s0 : 0 ≤ st.last.second
  s1 : st.last.second ≤ 999
  t0 : 0 ≤ st.last.third
  t1 : st.last.third ≤ 99

theorem rulesOk_whole {es : List Ent} {lv : Int} (h : rulesOk es lv = true) : es.length ≤ 40 ∧ (1 ≤ lv ∧ lv ≤ 4) ∧ ∀ e ∈ es, runesOk e.runes = true ∧ (1 ≤ e.el.first ∧ e.el.first ≤ 65535) ∧ (32 ≤ e.el.second ∧ e.el.second ≤ 999) ∧ (2 ≤ e.el.third ∧ e.el.third ≤ 99) ∧ e.el.varies = false := by
  have c := of_decide_eq_true h
  refine ⟨c.1, c.2.1, fun e he => ?_⟩
  obtain ⟨i, hi⟩ := List.mem_iff_getElem?.1 he
  have := (entsOk_iff es).1 c.2.2 i e hi
  unfold entOk at this
  simp only [Bool.and_eq_true, decide_eq_true_eq, Bool.not_eq_true'] at this
  exact ⟨this.1, this.2.2.1, this.2.2.2.1, this.2.2.2.2.1, this.2.2.2.2.2⟩

theorem rulesOk_lv {es : List Ent} {lv lv' : Int} (h : rulesOk es lv = true) (h' : 1 ≤ lv' ∧ lv' ≤ 4) : rulesOk es lv' = true := by
  have c := of_decide_eq_true h
  exact decide_eq_true ⟨c.1, h', c.2.2⟩

theorem runesOk_len {l : List Int} (h : runesOk l = true) : l.length ≤ 4 := by
  unfold runesOk at h
  rw [Bool.and_eq_true] at h
  exact (of_decide_eq_true h.1).2

theorem rinv0 : RInv rs0 := ⟨by decide, by decide, by decide, by decide, by decide, by decide, by decide⟩

theorem placeR_lt {l : List Int} {r : Int} {i : Nat} (h : placeIn l r = some i) : i < l.length := by
  unfold placeIn at h
  exact (List.findIdx?_eq_some_iff_getElem.1 h).1

theorem base_one {r : Int} {e : El} (h : base r = [e]) : 0 ≤ e.first ∧ e.first ≤ 65535 ∧ 0 ≤ e.second ∧ e.second ≤ 999 ∧ 0 ≤ e.third ∧ e.third ≤ 99 := by
  unfold base at h
  split at h
  · rename_i i hp
    have hl := placeR_lt hp
    have h9 : vsl.length = 9 := rfl
    cases h
    simp only
    omega
  · split at h
    · rename_i i hp
      have hl := placeR_lt hp
      have h15 : mkl.length = 15 := rfl
      cases h
      simp only
      omega
    · unfold baseRest at h
      split at h
      · cases h
      · split at h
        · cases h; simp only; omega
        · split at h
          · cases h; simp only; omega
          · split at h
            · cases h; simp only; omega
            · cases h

theorem elemE_bound {st : RS} {l : List Int} {e : El} (hi : RInv st) (h : elemE st.es l = some e) : 0 ≤ e.first ∧ e.first ≤ 65535 ∧ 0 ≤ e.second ∧ e.second ≤ 999 ∧ 0 ≤ e.third ∧ e.third ≤ 99 := by
  unfold elemE at h
  split at h
  · obtain ⟨x, hx, rfl⟩ := Option.map_eq_some_iff.1 h
    have := (rulesOk_whole hi.good).2.2 x (List.mem_of_getElem? hx)
    omega
  · split at h
    · rename_i r _
      unfold one3 at h
      split at h
      · rename_i x hb
        split at h
        · cases h
        · cases h; exact base_one hb
      · cases h
    · cases h

theorem putIn_inv {st st' : RS} {lev : Nat} {l : List Int} (hi : RInv st) (h : putIn st lev l = .ok st') : RInv st' := by
  unfold putIn at h
  split at h
  · cases h
  · split at h
    · split at h
      · cases h
      · rename_i e he
        split at h
        · cases h
        · cases h
          have := elemE_bound hi he
          exact ⟨hi.good, this.1, this.2.1, this.2.2.1, this.2.2.2.1, this.2.2.2.2.1, this.2.2.2.2.2⟩
    · split at h
      · cases h
      · split at h
        · cases h
        · split at h
          · rename_i hr
            cases h
            have := (rulesOk_whole hr).2.2 ⟨l, behindE st.es st.last lev⟩ (by simp)
            exact ⟨hr, by simp only at this ⊢; omega, by simp only at this ⊢; omega, by simp only at this ⊢; omega, by simp only at this ⊢; omega, by simp only at this ⊢; omega, by simp only at this ⊢; omega⟩
          · cases h
end Go.Proofs.YtanfebccenfffaaGreatDoor

namespace Go.Proofs.YtanfebccenfffaaGreatDoor
open Go.RowKit

theorem addr_ne {b b' o o' : Nat} (h : b ≠ b' ∨ o ≠ o') : (⟨b, o, none⟩ : Addr) ≠ ⟨b', o', none⟩ := by
  intro e
  injection e
  omega

theorem cs_ne {u : World} {b b' o o' : Nat} {x : Value} (h : b ≠ b' ∨ o ≠ o') : (u.setCell ⟨b, o, none⟩ x).cell? ⟨b', o', none⟩ = u.cell? ⟨b', o', none⟩ := by
  apply World.cell?_setCell_other
  exact addr_ne h

theorem cs_eq {u : World} {a : Addr} {x y : Value} (h : u.cell? a = some y) : (u.setCell a x).cell? a = some x := by
  apply World.cell?_setCell_same
  exact h

/-- An elem laid into a block. -/
def setEl (u : World) (b : Nat) (e : El) : World := (((u.setCell ⟨b, 0, none⟩ (.int .i64 e.first)).setCell ⟨b, 1, none⟩ (.int .i64 e.second)).setCell ⟨b, 2, none⟩ (.int .i64 e.third)).setCell ⟨b, 3, none⟩ (.bool e.varies)

theorem setEl_far {u : World} {b b' o : Nat} {e : El} (h : b ≠ b') : (setEl u b e).cell? ⟨b', o, none⟩ = u.cell? ⟨b', o, none⟩ := by
  unfold setEl
  rw [cs_ne (.inl h), cs_ne (.inl h), cs_ne (.inl h), cs_ne (.inl h)]

theorem setEl_grown (u : World) (b : Nat) (e : El) : u.grownBy (setEl u b e) (some b) :=
  (((setCell_grown u b 0 _).trans (setCell_grown _ b 1 _)).trans (setCell_grown _ b 2 _)).trans (setCell_grown _ b 3 _)

theorem Ents.grown {u u' : World} {B b : Nat} {v : Value} {es : List Ent} (h : Ents u B v es) (hg : u.grownBy u' (some b)) (hb : b < B) : Ents u' B v es := by
  have ne : ∀ {v : Value}, (∀ g, v.ownBlock = some g → B ≤ g) → v.ownBlock = none ∨ v.ownBlock ≠ some b := fun {v} h => by
    cases e : v.ownBlock with
    | none => exact .inl rfl
    | some g =>
      refine .inr fun c => ?_
      have := h g e
      cases c
      omega
  obtain ⟨xs, hl, h1, h2⟩ := h
  refine ⟨xs, hl, World.ownsRow.kept h1 hg (ne fun g hg => (World.ownsRow.lt h1 g hg).1), fun k e he => ?_⟩
  obtain ⟨x, hx, hI⟩ := h2 k e he
  exact ⟨x, hx, World.ownsRow.kept hI hg (ne fun g hg => (World.ownsRow.lt hI g hg).1)⟩

theorem below_setEl {w u : World} {b : Nat} (h : Below w.heap.size w u) (hb : w.heap.size ≤ b) (e : El) : Below w.heap.size w (setEl u b e) :=
  (((h.setCell hb _).setCell hb _).setCell hb _).setCell hb _

theorem Ents.low {u : World} {B B' : Nat} {v : Value} {es : List Ent} (h : Ents u B' v es) (hB : B ≤ B') : Ents u B v es := by
  obtain ⟨xs, hl, h1, h2⟩ := h
  refine ⟨xs, hl, ?_, fun k e he => ?_⟩
  · obtain ⟨h3, h4⟩ := h1
    refine ⟨h3, ?_⟩
    rcases h4 with h4 | ⟨g, cap, cur, a, b, c⟩
    · exact .inl h4
    · exact .inr ⟨g, cap, cur, a, by omega, c⟩
  · obtain ⟨x, hx, hI⟩ := h2 k e he
    exact ⟨x, hx, ints_low2 hI hB⟩

theorem cells5_new (w : World) (x : Value) (e : El) (t : TypeId) : ∀ j u, (entC x e)[j]? = some u → (w.alloc (.cells #[x, .int .i64 e.first, .int .i64 e.second, .int .i64 e.third, .bool e.varies] t)).cell? ((⟨w.heap.size, 0, none⟩ : Addr).add j) = some u := by
  intro j u hj
  match j, hj with
  | 0, hj => simp [entC] at hj; subst hj; simp [Addr.add]
  | 1, hj => simp [entC] at hj; subst hj; simp [Addr.add]
  | 2, hj => simp [entC] at hj; subst hj; simp [Addr.add]
  | 3, hj => simp [entC] at hj; subst hj; simp [Addr.add]
  | 4, hj => simp [entC] at hj; subst hj; simp [Addr.add]
  | j + 5, hj => simp [entC] at hj

theorem cells5_at (w : World) (n : Nat) (x : Value) (e : El) (t : TypeId) (hn : n = w.heap.size) : ∀ j u, (entC x e)[j]? = some u → (w.alloc (.cells #[x, .int .i64 e.first, .int .i64 e.second, .int .i64 e.third, .bool e.varies] t)).cell? ((⟨n, 0, none⟩ : Addr).add j) = some u := by
  subst hn
  exact cells5_new w x e t

theorem info_ent : (Tryz.prog.info? 81).map (fun i => (i.zero, i.size, i.bytes)) = some (some (.agg #[.slice none 0 0, .int .i64 0, .int .i64 0, .int .i64 0, .bool false]), 5, 56) := by kernel_rfl

theorem entAll_snoc (xs : List Value) (es : List Ent) (x : Value) (e : Ent) (h : xs.length = es.length) : entAll (xs ++ [x]) (es ++ [e]) = entAll xs es ++ entC x e.el := by
  induction es generalizing xs with
  | nil => cases xs with
    | nil => rfl
    | cons y ys => simp at h
  | cons e' es ih => cases xs with
    | nil => simp at h
    | cons y ys =>
      show entC y e'.el ++ entAll (ys ++ [x]) (es ++ [e]) = (entC y e'.el ++ entAll ys es) ++ _
      rw [ih ys (by simpa using h), List.append_assoc]

/-- One entry put behind. -/
theorem Ents.snoc {u u' : World} {B : Nat} {v v' : Value} {es : List Ent} {xs : List Value} {x : Value} {e : Ent} (hl : xs.length = es.length)
    (h2 : ∀ (k : Nat) (e : Ent), es[k]? = some e → ∃ x, xs[k]? = some x ∧ Ints u B x e.runes) (hI : Ints u B x e.runes)
    (h1 : u.ownsRow B 81 5 v es.length (entAll xs es))
    (hg : u.grownBy u' v.ownBlock) (h : u'.ownsRow B 81 5 v' (es.length + 1) (entAll xs es ++ entC x e.el)) : Ents u' B v' (es ++ [e]) := by
  refine ⟨xs ++ [x], by simp [hl], ?_, fun k y hy => ?_⟩
  · rw [entAll_snoc xs es x e hl, List.length_append]
    exact h
  · by_cases hk : k < es.length
    · rw [List.getElem?_append_left hk] at hy
      obtain ⟨z, hz, hzi⟩ := h2 k y hy
      have hz1 := (List.getElem?_eq_some_iff.1 hz).1
      refine ⟨z, by rw [List.getElem?_append_left hz1]; exact hz, World.ownsRow.kept hzi hg (own_type hzi h1 (by decide))⟩
    · have hk2 : k = es.length := by
        have := (List.getElem?_eq_some_iff.1 hy).1
        simp at this; omega
      subst hk2
      simp at hy
      subst hy
      exact ⟨x, by rw [← hl]; simp, World.ownsRow.kept hI hg (own_type hI h1 (by decide))⟩
end Go.Proofs.YtanfebccenfffaaGreatDoor

namespace Go.Proofs.YtanfebccenfffaaGreatDoor
open Go.RowKit

structure RB (u : World) (b2 br bl : Nat) (vE : Value) (sh : Bool) (lv : Int) (e : El) : Prop where
  lt : b2 < br ∧ br < bl ∧ bl < u.heap.size
  res : u.cell? ⟨b2, 0, none⟩ = some (.slice none 0 0) ∧ u.cell? ⟨b2, 1, none⟩ = some (.bool false) ∧ u.cell? ⟨b2, 2, none⟩ = some (.int .i64 0)
  rules : u.cell? ⟨br, 0, none⟩ = some vE ∧ u.cell? ⟨br, 1, none⟩ = some (.bool sh) ∧ u.cell? ⟨br, 2, none⟩ = some (.int .i64 lv)
  last : u.cell? ⟨bl, 0, none⟩ = some (.int .i64 e.first) ∧ u.cell? ⟨bl, 1, none⟩ = some (.int .i64 e.second) ∧ u.cell? ⟨bl, 2, none⟩ = some (.int .i64 e.third) ∧ u.cell? ⟨bl, 3, none⟩ = some (.bool e.varies)
  free : (∀ j, u.frozen? ⟨b2, j, none⟩ = false) ∧ (∀ j, u.frozen? ⟨br, j, none⟩ = false) ∧ ∀ j, u.frozen? ⟨bl, j, none⟩ = false

theorem RB.upTo {u u' : World} {b2 br bl B : Nat} {vE : Value} {sh : Bool} {lv : Int} {e : El} (h : RB u b2 br bl vE sh lv e) (hb : Below B u u') (hB : bl < B) : RB u' b2 br bl vE sh lv e := by
  obtain ⟨⟨l1, l2, l3⟩, ⟨a0, a1, a2⟩, ⟨r0, r1, r2⟩, ⟨e0, e1, e2, e3⟩, f0, f1, f2⟩ := h
  have k2 : b2 < B := by omega
  have kr : br < B := by omega
  exact ⟨⟨l1, l2, Nat.lt_of_lt_of_le l3 hb.size⟩, ⟨by rw [hb.cell k2]; exact a0, by rw [hb.cell k2]; exact a1, by rw [hb.cell k2]; exact a2⟩, ⟨by rw [hb.cell kr]; exact r0, by rw [hb.cell kr]; exact r1, by rw [hb.cell kr]; exact r2⟩,
    ⟨by rw [hb.cell hB]; exact e0, by rw [hb.cell hB]; exact e1, by rw [hb.cell hB]; exact e2, by rw [hb.cell hB]; exact e3⟩, fun j => by rw [hb.frozen (p := ⟨b2, j, none⟩) k2]; exact f0 j, fun j => by rw [hb.frozen (p := ⟨br, j, none⟩) kr]; exact f1 j, fun j => by rw [hb.frozen (p := ⟨bl, j, none⟩) hB]; exact f2 j⟩

theorem RB.below {u u' : World} {b2 br bl : Nat} {vE : Value} {sh : Bool} {lv : Int} {e : El} (h : RB u b2 br bl vE sh lv e) (hb : Below u.heap.size u u') : RB u' b2 br bl vE sh lv e := h.upTo hb h.lt.2.2

theorem RB.setE {u : World} {b2 br bl : Nat} {vE : Value} {sh : Bool} {lv : Int} {e : El} (h : RB u b2 br bl vE sh lv e) (v : Value) : RB (u.setCell ⟨br, 0, none⟩ v) b2 br bl v sh lv e := by
  obtain ⟨⟨l1, l2, l3⟩, ⟨a0, a1, a2⟩, ⟨r0, r1, r2⟩, ⟨e0, e1, e2, e3⟩, f0, f1, f2⟩ := h
  exact ⟨⟨l1, l2, by simpa using l3⟩, ⟨by rw [cs_ne (by omega)]; exact a0, by rw [cs_ne (by omega)]; exact a1, by rw [cs_ne (by omega)]; exact a2⟩,
    ⟨cs_eq r0, by rw [cs_ne (by omega)]; exact r1, by rw [cs_ne (by omega)]; exact r2⟩,
    ⟨by rw [cs_ne (by omega)]; exact e0, by rw [cs_ne (by omega)]; exact e1, by rw [cs_ne (by omega)]; exact e2, by rw [cs_ne (by omega)]; exact e3⟩,
    fun j => by rw [World.frozen?_setCell]; exact f0 j, fun j => by rw [World.frozen?_setCell]; exact f1 j, fun j => by rw [World.frozen?_setCell]; exact f2 j⟩

theorem RB.setSh {u : World} {b2 br bl : Nat} {vE : Value} {sh : Bool} {lv : Int} {e : El} (h : RB u b2 br bl vE sh lv e) (b : Bool) : RB (u.setCell ⟨br, 1, none⟩ (.bool b)) b2 br bl vE b lv e := by
  obtain ⟨⟨l1, l2, l3⟩, ⟨a0, a1, a2⟩, ⟨r0, r1, r2⟩, ⟨e0, e1, e2, e3⟩, f0, f1, f2⟩ := h
  exact ⟨⟨l1, l2, by simpa using l3⟩, ⟨by rw [cs_ne (by omega)]; exact a0, by rw [cs_ne (by omega)]; exact a1, by rw [cs_ne (by omega)]; exact a2⟩,
    ⟨by rw [cs_ne (by omega)]; exact r0, cs_eq r1, by rw [cs_ne (by omega)]; exact r2⟩,
    ⟨by rw [cs_ne (by omega)]; exact e0, by rw [cs_ne (by omega)]; exact e1, by rw [cs_ne (by omega)]; exact e2, by rw [cs_ne (by omega)]; exact e3⟩,
    fun j => by rw [World.frozen?_setCell]; exact f0 j, fun j => by rw [World.frozen?_setCell]; exact f1 j, fun j => by rw [World.frozen?_setCell]; exact f2 j⟩

theorem RB.setLv {u : World} {b2 br bl : Nat} {vE : Value} {sh : Bool} {lv : Int} {e : El} (h : RB u b2 br bl vE sh lv e) (n : Int) : RB (u.setCell ⟨br, 2, none⟩ (.int .i64 n)) b2 br bl vE sh n e := by
  obtain ⟨⟨l1, l2, l3⟩, ⟨a0, a1, a2⟩, ⟨r0, r1, r2⟩, ⟨e0, e1, e2, e3⟩, f0, f1, f2⟩ := h
  exact ⟨⟨l1, l2, by simpa using l3⟩, ⟨by rw [cs_ne (by omega)]; exact a0, by rw [cs_ne (by omega)]; exact a1, by rw [cs_ne (by omega)]; exact a2⟩,
    ⟨by rw [cs_ne (by omega)]; exact r0, by rw [cs_ne (by omega)]; exact r1, cs_eq r2⟩,
    ⟨by rw [cs_ne (by omega)]; exact e0, by rw [cs_ne (by omega)]; exact e1, by rw [cs_ne (by omega)]; exact e2, by rw [cs_ne (by omega)]; exact e3⟩,
    fun j => by rw [World.frozen?_setCell]; exact f0 j, fun j => by rw [World.frozen?_setCell]; exact f1 j, fun j => by rw [World.frozen?_setCell]; exact f2 j⟩

theorem RB.setLast {u : World} {b2 br bl : Nat} {vE : Value} {sh : Bool} {lv : Int} {e : El} (h : RB u b2 br bl vE sh lv e) (x : El) : RB (setEl u bl x) b2 br bl vE sh lv x := by
  obtain ⟨⟨l1, l2, l3⟩, ⟨a0, a1, a2⟩, ⟨r0, r1, r2⟩, ⟨e0, e1, e2, e3⟩, f0, f1, f2⟩ := h
  refine ⟨⟨l1, l2, by unfold setEl; simpa using l3⟩, ⟨by rw [setEl_far (by omega)]; exact a0, by rw [setEl_far (by omega)]; exact a1, by rw [setEl_far (by omega)]; exact a2⟩,
    ⟨by rw [setEl_far (by omega)]; exact r0, by rw [setEl_far (by omega)]; exact r1, by rw [setEl_far (by omega)]; exact r2⟩, ?_,
    fun j => by unfold setEl; simpa using f0 j, fun j => by unfold setEl; simpa using f1 j, fun j => by unfold setEl; simpa using f2 j⟩
  unfold setEl
  have k1 : (u.setCell ⟨bl, 0, none⟩ (.int .i64 x.first)).cell? ⟨bl, 1, none⟩ = some (.int .i64 e.second) := by rw [cs_ne (by omega)]; exact e1
  have k2 : ((u.setCell ⟨bl, 0, none⟩ (.int .i64 x.first)).setCell ⟨bl, 1, none⟩ (.int .i64 x.second)).cell? ⟨bl, 2, none⟩ = some (.int .i64 e.third) := by rw [cs_ne (by omega), cs_ne (by omega)]; exact e2
  have k3 : (((u.setCell ⟨bl, 0, none⟩ (.int .i64 x.first)).setCell ⟨bl, 1, none⟩ (.int .i64 x.second)).setCell ⟨bl, 2, none⟩ (.int .i64 x.third)).cell? ⟨bl, 3, none⟩ = some (.bool e.varies) := by rw [cs_ne (by omega), cs_ne (by omega), cs_ne (by omega)]; exact e3
  refine ⟨?_, ?_, ?_, ?_⟩
  · rw [cs_ne (by omega), cs_ne (by omega), cs_ne (by omega)]
    exact cs_eq e0
  · rw [cs_ne (by omega), cs_ne (by omega)]
    exact cs_eq k1
  · rw [cs_ne (by omega)]
    exact cs_eq k2
  · exact cs_eq k3

theorem Strs.grown {u u' : World} {B : Nat} {row : Option Nat} {v : Value} {ss : List ByteArray} (h : Strs u B v ss) (hg : u.grownBy u' row) (hb : ∀ g b, v.ownBlock = some g → row = some b → g ≠ b) : Strs u' B v ss :=
  World.ownsRow.kept h hg (by
    cases e : v.ownBlock with
    | none => exact .inl rfl
    | some g => exact .inr fun c => hb g g e c.symm rfl)

/-- The state in memory. -/
structure StM (w u : World) (ws : List ByteArray) (vw : Value) (br bl : Nat) (st : RS) (vE : Value) : Prop where
  rb : RB u w.heap.size br bl vE st.sh st.lv st.last
  en : Ents u (bl + 1) vE st.es
  sr : Strs u (w.heap.size + 1) vw ws
  vl : ∀ g, vw.ownBlock = some g → g < br
  be : Below w.heap.size w u

theorem StM.step {w u u' : World} {ws : List ByteArray} {vw : Value} {br bl : Nat} {st : RS} {vE : Value} (h : StM w u ws vw br bl st vE) (hb : Below u.heap.size u u') : StM w u' ws vw br bl st vE :=
  ⟨h.rb.below hb, h.en.below hb, h.sr.below hb, h.vl, h.be.trans (hb.mono h.be.size)⟩

theorem StM.setSh {w u : World} {ws : List ByteArray} {vw : Value} {br bl : Nat} {st : RS} {vE : Value} (h : StM w u ws vw br bl st vE) (b : Bool) : StM w (u.setCell ⟨br, 1, none⟩ (.bool b)) ws vw br bl { st with sh := b } vE := by
  have hl := h.rb.lt
  exact ⟨h.rb.setSh b, h.en.grown (setCell_grown u br 1 _) (by omega), h.sr.grown (setCell_grown u br 1 _) (fun g b' h1 h2 => by cases h2; have := h.vl g h1; omega), h.vl, h.be.setCell (Nat.le_of_lt hl.1) _⟩

theorem StM.setLv {w u : World} {ws : List ByteArray} {vw : Value} {br bl : Nat} {st : RS} {vE : Value} (h : StM w u ws vw br bl st vE) (n : Int) : StM w (u.setCell ⟨br, 2, none⟩ (.int .i64 n)) ws vw br bl { st with lv := n } vE := by
  have hl := h.rb.lt
  exact ⟨h.rb.setLv n, h.en.grown (setCell_grown u br 2 _) (by omega), h.sr.grown (setCell_grown u br 2 _) (fun g b' h1 h2 => by cases h2; have := h.vl g h1; omega), h.vl, h.be.setCell (Nat.le_of_lt hl.1) _⟩

theorem StM.setLast {w u : World} {ws : List ByteArray} {vw : Value} {br bl : Nat} {st : RS} {vE : Value} (h : StM w u ws vw br bl st vE) (x : El) (r : Bool) : StM w (setEl u bl x) ws vw br bl { st with last := x, reset := r } vE := by
  have hl := h.rb.lt
  exact ⟨h.rb.setLast x, h.en.grown (setEl_grown u bl x) (by omega), h.sr.grown (setEl_grown u bl x) (fun g b' h1 h2 => by cases h2; have := h.vl g h1; omega), h.vl, below_setEl h.be (by omega) x⟩

theorem behind_any {w : World} {B : Nat} {v : Value} {st : RS} {sh : Bool} {lv : Int} {n : Nat} (hE : Ents w B v st.es) (hi : RInv st) (h : n = 1 ∨ n = 2 ∨ n = 3) :
    Calls Tryz.prog 66 #[.agg #[v, .bool sh, .int .i64 lv], .agg #[.int .i64 st.last.first, .int .i64 st.last.second, .int .i64 st.last.third, .bool st.last.varies], .int .i64 (n : Int)] w fun x w' => x = .returned (elV (behindE st.es st.last n)) ∧ Below w.heap.size w w' := by
  obtain ⟨h1, h2, h3⟩ := rulesOk_whole hi.good
  rcases h with rfl | rfl | rfl
  · exact behind1_any hE (by omega) (fun e he => (h3 e he).2.1.2) hi.f0 hi.f1
  · exact behind2_any hE h1 (fun e he => (h3 e he).2.2.1.2) hi.s0 hi.s1
  · exact behind3_any hE h1 (fun e he => (h3 e he).2.2.2.1.2) hi.t0 hi.t1

/-- An entry put behind, the rules' block told of it. -/
theorem StM.put {w u u' : World} {ws : List ByteArray} {vw : Value} {br bl g cap : Nat} {st : RS} {vE vl : Value} {l : List Int} {xs : List Value} (h : StM w u ws vw br bl st vE) (hl : xs.length = st.es.length)
    (h2 : ∀ (k : Nat) (e : Ent), st.es[k]? = some e → ∃ x, xs[k]? = some x ∧ Ints u (bl + 1) x e.runes) (hI : Ints u (bl + 1) vl l)
    (h1 : u.ownsRow (bl + 1) 81 5 vE st.es.length (entAll xs st.es)) (hg : u.grownBy u' vE.ownBlock)
    (ho : u'.ownsRow (bl + 1) 81 5 (.slice (some ⟨g, 0, none⟩) (st.es.length + 1) cap) (st.es.length + 1) (entAll xs st.es ++ entC vl st.last)) :
    StM w (u'.setCell ⟨br, 0, none⟩ (.slice (some ⟨g, 0, none⟩) (st.es.length + 1) cap)) ws vw br bl { st with es := st.es ++ [⟨l, st.last⟩] } (.slice (some ⟨g, 0, none⟩) (st.es.length + 1) cap) := by
  have hlt := h.rb.lt
  have hrow : ∀ j, vE.ownBlock = some j → bl + 1 ≤ j := fun j hj => (World.ownsRow.lt h1 j hj).1
  have hb1 : Below (bl + 1) u u' := Below.grown (Below.refl (bl + 1) u) hg (by omega) hrow
  have hE : Ents u' (bl + 1) (.slice (some ⟨g, 0, none⟩) (st.es.length + 1) cap) (st.es ++ [⟨l, st.last⟩]) := Ents.snoc (e := ⟨l, st.last⟩) hl h2 hI h1 hg ho
  refine ⟨(h.rb.upTo hb1 (Nat.lt_succ_self _)).setE _, hE.grown (setCell_grown u' br 0 _) (by omega), (h.sr.grown hg (fun g b h3 h4 => by have := h.vl g h3; have := hrow b h4; omega)).grown (setCell_grown u' br 0 _) (fun g b' h1 h2 => by cases h2; have := h.vl g h1; omega), h.vl, ?_⟩
  exact (Below.grown h.be hg h.be.size (fun j hj => by have := hrow j hj; omega)).setCell (Nat.le_of_lt hlt.1) _
end Go.Proofs.YtanfebccenfffaaGreatDoor
