/- Contract of the specification's l3Behind, levels 2 and 3. -/
import Derived.Test.YtakfnmhokijcoaaGreatDoorSBehind
namespace Go.Proofs.YtakfnmhokijcoaaGreatDoor
open Go.RowKit

/-- The first number from one on, by steps, at which p does not hold. -/
def stepN (p : Int → Bool) (nx : Int → Int) : Nat → Int → Int
  | 0, n => n
  | f + 1, n => if p n = true then stepN p nx f (nx n) else n

theorem stepN_end {p : Int → Bool} {nx : Int → Int} {f : Nat} {n : Int} (h : p n = false) : stepN p nx f n = n := by
  cases f with
  | zero => rfl
  | succ f => exact if_neg (by simp [h])

/-- What is left to walk, from n on to a last number M that is passed. -/
def Left (p : Int → Bool) (nx : Int → Int) (M n N : Int) : Prop := ∃ f : Nat, M - n < (f : Int) ∧ stepN p nx f n = N

theorem Left.next {p : Int → Bool} {nx : Int → Int} {M n N : Int} (h : Left p nx M n N) (hp : p n = true) (hn : n ≤ M) (hx : n < nx n) : Left p nx M (nx n) N := by
  obtain ⟨f, h1, h2⟩ := h
  cases f with
  | zero => exfalso; simp at h1; omega
  | succ f =>
    refine ⟨f, by omega, ?_⟩
    rw [← h2]; exact (if_pos hp).symm

theorem Left.last {p : Int → Bool} {nx : Int → Int} {M n N : Int} (h : Left p nx M n N) (hp : p n = false) : n = N := by
  obtain ⟨f, _, h2⟩ := h
  rw [← h2, stepN_end hp]

def NotQ (es : List Ent) (q : El → Bool) (k : Nat) : Prop := ∀ j e, j < k → es[j]? = some e → q e.el = false

theorem NotQ.succ {es : List Ent} {q : El → Bool} {e : Ent} {k : Nat} (h : NotQ es q k) (hx : es[k]? = some e) (hn : q e.el = false) : NotQ es q (k + 1) := by
  intro j y hj hy
  by_cases c : j = k
  · subst c; rw [hx] at hy; cases hy; exact hn
  · exact h j y (by omega) hy

def hasQ (es : List Ent) (q : El → Bool) : Bool := es.any fun e => q e.el

theorem hasQ_hit {es : List Ent} {q : El → Bool} {e : Ent} {k : Nat} (he : es[k]? = some e) (h : q e.el = true) : hasQ es q = true := List.any_eq_true.2 ⟨e, List.mem_of_getElem? he, h⟩

theorem hasQ_none {es : List Ent} {q : El → Bool} {k : Nat} (h : NotQ es q k) (hk : es.length ≤ k) : hasQ es q = false := by
  refine List.any_eq_false.2 fun x hx => ?_
  obtain ⟨j, hj⟩ := List.mem_iff_getElem?.1 hx
  have h1 := (List.getElem?_eq_some_iff.1 hj).1
  simp [h j x (by omega) hj]

def q2 (e : El) (n : Int) (x : El) : Bool := x.first == e.first && x.second == n
def q3 (e : El) (n : Int) (x : El) : Bool := (x.first == e.first && x.second == e.second) && x.third == n
def nx2 (n : Int) : Int := n + 1
def nx3 (n : Int) : Int := if n + 1 = 8 then n + 1 + 1 else n + 1

def behind2 (es : List Ent) (e : El) : El := ⟨e.first, stepN (fun n => hasQ es (q2 e n)) nx2 1001 (e.second + 1), 2, false⟩
def behind3 (es : List Ent) (e : El) : El := ⟨e.first, e.second, stepN (fun n => hasQ es (q3 e n)) nx3 1001 (nx3 e.third), false⟩

def B2Rel (w : World) (v : Value) (sh : Bool) (lv : Int) (e : El) (es : List Ent) (q : Int → El → Bool) (nx : Int → Int) (N : Int) (i j : Value) (wr : World) : Prop :=
  ∃ (m : Int) (k : Nat), i = .int .i64 m ∧ j = .int .i64 k ∧ (0 ≤ m ∧ m ≤ 1002 ∧ k ≤ es.length) ∧ NotQ es (q m) k ∧ Left (fun n => hasQ es (q n)) nx 1000 m N ∧ Box5 wr w.heap.size v sh lv e ∧ Below w.heap.size w wr

set_option maxRecDepth 100000 in
set_option maxHeartbeats 8000000 in
theorem behind2_any {w : World} {B : Nat} {v : Value} {es : List Ent} {sh : Bool} {lv : Int} {e : El} (hE : Ents w B v es) (hn : es.length ≤ 40) (hF : ∀ x ∈ es, x.el.second ≤ 999) (h0 : 0 ≤ e.second) (h1 : e.second ≤ 999) :
    Calls Tryz.prog 22 #[.agg #[v, .bool sh, .int .i64 lv], .agg #[.int .i64 e.first, .int .i64 e.second, .int .i64 e.third, .bool e.varies], .int .i64 2] w fun x w' => x = .returned (elV (behind2 es e)) ∧ Below w.heap.size w w' := by
  obtain ⟨a, c, rfl⟩ : ∃ a c, v = .slice a es.length c := by
    rcases hE.form with ⟨rfl, rfl⟩ | ⟨g, cap, rfl, _, _, _, _⟩
    · exact ⟨_, _, rfl⟩
    · exact ⟨_, _, rfl⟩
  have HB : Hid (Below _ _ _) := below_new5 w (.slice a es.length c) sh lv e
  have HX : Hid (Box5 _ _ _ _ _ _) := box5_new w (.slice a es.length c) sh lv e
  have HE : Hid (Ents _ _ _ _) := hE
  unfold behind2
  obtain ⟨N, HS⟩ : ∃ N, Hid (stepN (fun n => hasQ es (q2 e n)) nx2 1001 (e.second + 1) = N) := ⟨_, rfl⟩
  rw [HS.out]
  have HS2 : Hid (Left (fun n => hasQ es (q2 e n)) nx2 1000 (e.second + 1) N) := ⟨1001, by omega, HS.out⟩
  clear hE HS
  go_enter Tryz.func22, Tryz.ntmps22
  go_wp2_with fail
  go_loopw [8, 9] (fun i j wr => B2Rel w (.slice a es.length c) sh lv e es (q2 e) nx2 N i j wr) (fun i j _ => (1003 - intOf i).toNat * 100 + (50 - (intOf j).toNat))
  case atStart => exact ⟨e.second + 1, 0, rfl, rfl, ⟨by omega, by omega, by omega⟩, fun j x hj => by omega, HS2.out, HX.out, HB.out⟩
  case round =>
    clear HS2 HX HB
    obtain ⟨m, k, rfl, rfl, ⟨m0, m1, hk⟩, hq, hl, hx, hb⟩ := hrel
    have HQ : Hid (NotQ _ _ _) := hq
    have HL : Hid (Left _ _ _ _ _) := hl
    have HX : Hid (Box5 _ _ _ _ _ _) := hx
    obtain ⟨p0, p1, p2⟩ := hx.rules
    obtain ⟨s0, s1, s2, s3⟩ := hx.elem
    obtain ⟨z0, z1, z2, z3, f0⟩ := hx.result
    obtain ⟨n0, n1, n2⟩ := hx.sizes
    clear hq hl hx
    by_cases hlt : k < es.length
    · obtain ⟨x, he⟩ : ∃ x, es[k]? = some x := ⟨_, List.getElem?_eq_getElem hlt⟩
      have hF' := hF x (List.mem_of_getElem? he)
      rcases HE.out.form with ⟨_, h⟩ | ⟨g, cap, h, _, _, _, _⟩
      · rw [h] at hlt; simp at hlt
      · cases h
        obtain ⟨y, hI, a0, a1, a2, a3, a4⟩ := (HE.out.below hb).cells k x he
        have hk8 : (k : Int) < (es.length : Int) := by omega
        have HX2 : Hid (Box5 _ _ _ _ _ _) := HX.out.below ((Below.refl wr.heap.size wr).alloc (Nat.le_refl _) (.cells #[.int .i64 x.el.first, .int .i64 x.el.second, .int .i64 x.el.third, .bool x.el.varies] 41))
        have HB2 : Hid (Below _ _ _) := hb.alloc hb.size (.cells #[.int .i64 x.el.first, .int .i64 x.el.second, .int .i64 x.el.third, .bool x.el.varies] 41)
        have HK : Hid _ := he
        clear hI he HE hF HX hb
        by_cases c1 : x.el.first = e.first
        · have c1' : (x.el.first == e.first) = true := by simpa using c1
          by_cases c2 : x.el.second = m
          · have c2' : (x.el.second == m) = true := by simpa using c2
            have HL2 : Hid (Left (fun n => hasQ es (q2 e n)) nx2 1000 (m + 1) N) := HL.out.next (hasQ_hit HK.out (by show (_ && _) = true; rw [c1', c2']; rfl)) (by omega) (by show m < m + 1; omega)
            have m2 : m ≤ 999 := by omega
            clear HQ HL HK c1 c2 hF'
            go_wp2
            exact ⟨⟨m + 1, 0, by go_num, by go_num, ⟨by omega, by omega, by omega⟩, fun j x hj => by omega, HL2.out, HX2.out, HB2.out⟩, by simp [intOf]; omega⟩
          · have c2' : (x.el.second == m) = false := by simpa using c2
            have HQ2 : Hid (NotQ es (q2 e m) (k + 1)) := HQ.out.succ HK.out (by show (_ && _) = false; rw [c2', Bool.and_false])
            clear HQ HK c1 c2 hF'
            go_wp2
            exact ⟨⟨m, k + 1, by go_num, by go_num, ⟨by omega, by omega, by omega⟩, HQ2.out, HL.out, HX2.out, HB2.out⟩, by simp [intOf]; omega⟩
        · have c1' : (x.el.first == e.first) = false := by simpa using c1
          have HQ2 : Hid (NotQ es (q2 e m) (k + 1)) := HQ.out.succ HK.out (by show (_ && _) = false; rw [c1', Bool.false_and])
          clear HQ HK c1 hF'
          go_wp2
          exact ⟨⟨m, k + 1, by go_num, by go_num, ⟨by omega, by omega, by omega⟩, HQ2.out, HL.out, HX2.out, HB2.out⟩, by simp [intOf]; omega⟩
    · have hN : m = N := HL.out.last (hasQ_none HQ.out (by omega))
      subst hN
      have hk8 : ¬ (k : Int) < (es.length : Int) := by omega
      clear HQ HL HX HE hF
      go_wp2
      refine bodyPost_ret (v := .agg #[.int .i64 e.first, .int .i64 m, .int .i64 2, .bool false]) ?_ rfl ⟨rfl, below_res5 hb _ _ _ _⟩
      rw [results_cell1 rfl]
      go_simp
end Go.Proofs.YtakfnmhokijcoaaGreatDoor
