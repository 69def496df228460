/- Texts of mine laid together: OkE, Flt, PBeg, PFind3, PFind4, PFind5, PFind6, PFnd5, PIs, Laid, IPair, IApart. -/
import Derived.Test.YtinjldagfhbioaaGreatDoorPKey2
import Derived.Test.YtinjldagfhbioaaGreatDoorRn4
import Derived.Test.YtinjldagfhbioaaGreatDoorNorm3
import Derived.Test.YtinjldagfhbioaaGreatDoorDGood
import Derived.Test.YtinjldagfhbioaaGreatDoorProg
import Derived.Test.YtinjldagfhbioaaGreatDoorPFind2
import Derived.Test.YtinjldagfhbioaaGreatDoorSD
import Derived.Test.YtinjldagfhbioaaGreatDoorRows
import Derived.OpenShut
import Derived.LaidLaws
import Derived.Stop.LaidErr
import Derived.WalkKit
import Derived.OpenVars
import Derived.Test.YtinjldagfhbioaaGreatDoorNorm2
import Derived.Test.YtinjldagfhbioaaGreatDoorClass
import Derived.Deep.WholeRow
import Derived.Test.YtinjldagfhbioaaGreatDoorApart2
namespace Go.Proofs.YtinjldagfhbioaaGreatDoor

def okE (es : List Ent) (lv : Int) (x : ByteArray) : Bool := ok4 x && rulesOk es lv
def elsA (es : List Ent) (lv : Int) (x : ByteArray) : List El := if okE es lv x = true then elems4 es (rn4 x) else []
/-- The key of a text. -/
def keyT (es : List Ent) (sh : Bool) (lv : Int) (x : ByteArray) : ByteArray := if okE es lv x = true then bytesOf (keyB es sh lv (rn4 x)) else ⟨#[]⟩
/-- The first weights of a text. -/
def firsT (es : List Ent) (sh : Bool) (lv : Int) (x : ByteArray) : List Int := if okE es lv x = true then firstsB es sh (rn4 x) else []

theorem rn4_good (x : ByteArray) : ∀ y ∈ rn4 x, goodB y = true := fun y hy => apD_good (dec_good x.size x) y (mem_sortM.1 hy)
theorem rn4_rng (x : ByteArray) : ∀ y ∈ rn4 x, 0 ≤ y ∧ y ≤ 1114111 := fun y hy => by have := goodB_true (rn4_good x y hy); omega

theorem ok4_parts {x : ByteArray} (h : ok4 x = true) : x.size ≤ 200 ∧ (rn4 x).length ≤ 200 := of_decide_eq_true h

theorem okE_parts {es : List Ent} {lv : Int} {x : ByteArray} (h : okE es lv x = true) : x.size ≤ 200 ∧ (rn4 x).length ≤ 200 ∧ rulesOk es lv = true := by
  unfold okE at h
  rw [Bool.and_eq_true] at h
  exact ⟨(ok4_parts h.1).1, (ok4_parts h.1).2, h.2⟩

theorem rulesOk_parts {es : List Ent} {lv : Int} (h : rulesOk es lv = true) : es.length ≤ 40 ∧ 1 ≤ lv ∧ lv ≤ 4 := ⟨(of_decide_eq_true h).1, (of_decide_eq_true h).2.1.1, (of_decide_eq_true h).2.1.2⟩

theorem firsT_rng (es : List Ent) (sh : Bool) (lv : Int) (x : ByteArray) : ∀ n ∈ firsT es sh lv x, 1 ≤ n ∧ n ≤ 65535 := by
  unfold firsT
  split
  · rename_i h
    exact firstsB_rng (okE_parts h).2.2 (rn4_rng x)
  · intro n hn; cases hn

theorem firsT_len (es : List Ent) (sh : Bool) (lv : Int) (x : ByteArray) : (firsT es sh lv x).length ≤ 400 := by
  unfold firsT
  split
  · rename_i h
    have := firstsB_len es sh (rn4 x)
    have := (okE_parts h).2.1
    omega
  · simp

theorem elsA_len (es : List Ent) (lv : Int) (x : ByteArray) : (elsA es lv x).length ≤ 400 := by
  unfold elsA
  split
  · rename_i h
    have := elems4_len es (rn4 x)
    have := (okE_parts h).2.1
    omega
  · simp

theorem bytesOf_size (bs : List Int) : (bytesOf bs).size = bs.length := by simp [bytesOf, ByteArray.size]

theorem keyB_len (es : List Ent) (sh : Bool) {lv : Int} (h : 1 ≤ lv ∧ lv ≤ 4) (l : List Int) : (keyB es sh lv l).length ≤ 4 * (2 + 4 * l.length) := by
  have h1 := keyN_len (counted sh (elems4 es l)) (fourths sh (elems4 es l)) lv.toNat
  have h2 := counted_len sh (elems4 es l)
  have h3 := elems4_len es l
  unfold keyB
  refine Nat.le_trans h1 (Nat.mul_le_mul (by omega) (by omega))

theorem keyT_size (es : List Ent) (sh : Bool) (lv : Int) (x : ByteArray) : (keyT es sh lv x).size ≤ 4000 := by
  unfold keyT
  split
  · rename_i h
    obtain ⟨_, h1, h2⟩ := okE_parts h
    have := keyB_len es sh (rulesOk_parts h2).2 (rn4 x)
    rw [bytesOf_size]
    omega
  · show (0 : Nat) ≤ 4000; omega
end Go.Proofs.YtinjldagfhbioaaGreatDoor

namespace Go.Proofs.YtinjldagfhbioaaGreatDoor

theorem cut0 (neg : Bool) (n : Nat) : Ieee.Toward.even.cut neg n 0 = n := by
  unfold Ieee.Toward.cut
  simp [Nat.mod_one]

/-- The word of a small whole number. -/
def wordN (k n : Nat) : Nat := (k + 1022) * 2 ^ 52 + n * 2 ^ (52 - k)

theorem near_pos {k n : Nat} (hk : k < 16) (h1 : 2 ^ k ≤ n) (h2 : n < 2 ^ (k + 1)) : FloatKind.nearest .f64 (n : Int) = wordN k n := by
  have hn : n ≠ 0 := by have := Nat.two_pow_pos k; omega
  have hl : n.log2 = k := (Nat.log2_eq_iff hn).2 ⟨h1, h2⟩
  have h0 : ¬ ((n : Int) < 0) := by omega
  unfold FloatKind.nearest FloatKind.encode Ieee.Format.write Ieee.Format.nearest
  simp only [FloatKind.format, Int.natAbs_natCast, if_neg hn, hl, decide_eq_false h0]
  have hlast : max ((0 : Int) + (k : Int) - (Ieee.double.fractionBits : Nat)) Ieee.double.leastPlace = (k : Int) - 52 := by
    have : Ieee.double.leastPlace = -1074 := by decide
    rw [this]
    show max ((0 : Int) + (k : Int) - 52) (-1074) = _
    omega
  rw [hlast]
  have e1 : ((0 : Int) - ((k : Int) - 52)).toNat = 52 - k := by omega
  have e2 : ((k : Int) - 52 - 0).toNat = 0 := by omega
  have e3 : ((k : Int) - 52 - Ieee.double.leastPlace).toNat = k + 1022 := by
    have : Ieee.double.leastPlace = -1074 := by decide
    rw [this]; omega
  rw [e1, e2, e3, cut0, Nat.shiftLeft_eq]
  have hb : Ieee.double.binade = 2 ^ 52 := rfl
  have hi : Ieee.double.infRung = 2047 * 2 ^ 52 := rfl
  rw [hb, hi]
  have hle : n * 2 ^ (52 - k) < 2 ^ 53 := by
    have : 2 ^ (k + 1) * 2 ^ (52 - k) = 2 ^ 53 := by rw [← Nat.pow_add]; congr 1; omega
    rw [← this]
    exact Nat.mul_lt_mul_of_pos_right h2 (Nat.two_pow_pos _)
  unfold Ieee.Format.word wordN
  simp only [Bool.false_eq_true, if_false]
  rw [Nat.min_eq_left]
  omega

theorem read_pos {k n : Nat} (hk : k < 16) (h1 : 2 ^ k ≤ n) (h2 : n < 2 ^ (k + 1)) : Ieee.double.read (wordN k n) = .number false (n * 2 ^ (52 - k)) ((k : Int) - 52) := by
  have hlo : 2 ^ 52 ≤ n * 2 ^ (52 - k) := by
    have : 2 ^ k * 2 ^ (52 - k) = 2 ^ 52 := by rw [← Nat.pow_add]; congr 1; omega
    rw [← this]
    exact Nat.mul_le_mul_right _ h1
  have hhi : n * 2 ^ (52 - k) < 2 ^ 53 := by
    have : 2 ^ (k + 1) * 2 ^ (52 - k) = 2 ^ 53 := by rw [← Nat.pow_add]; congr 1; omega
    rw [← this]
    exact Nat.mul_lt_mul_of_pos_right h2 (Nat.two_pow_pos _)
  unfold wordN
  generalize n * 2 ^ (52 - k) = m at *
  have hs : Ieee.double.signWeight = 2 ^ 63 := rfl
  have hb : Ieee.double.binade = 2 ^ 52 := rfl
  have hi : Ieee.double.infRung = 2047 * 2 ^ 52 := rfl
  have hl : Ieee.double.leastPlace = -1074 := by decide
  unfold Ieee.Format.read
  rw [hs, hb, hi, hl]
  have q1 : ((k + 1022) * 2 ^ 52 + m) / 2 ^ 63 % 2 = 0 := by omega
  have q2 : ((k + 1022) * 2 ^ 52 + m) % 2 ^ 63 = (k + 1022) * 2 ^ 52 + m := by omega
  have q3 : ((k + 1022) * 2 ^ 52 + m) / 2 ^ 52 = k + 1023 := by omega
  have q4 : ((k + 1022) * 2 ^ 52 + m) % 2 ^ 52 = m - 2 ^ 52 := by omega
  have r1 : ¬ ((k + 1022) * 2 ^ 52 + m < 2 ^ 52) := by omega
  have r2 : (k + 1022) * 2 ^ 52 + m < 2047 * 2 ^ 52 := by omega
  show (if ((k + 1022) * 2 ^ 52 + m) % 2 ^ 63 < 2 ^ 52 then _ else _) = _
  rw [q1, q2, q3, q4, if_neg r1, if_pos r2]
  rw [show (2 ^ 52 + (m - 2 ^ 52) : Nat) = m by omega, show (-1074 : Int) + ((k + 1023 - 1 : Nat) : Int) = (k : Int) - 52 by omega]
  rfl

theorem order_pos {a b : Nat} (ha : 1 ≤ a) (ha2 : a < 65536) (hb : 1 ≤ b) (hb2 : b < 65536) :
    (Ieee.double.order (FloatKind.nearest .f64 (a : Int)) (FloatKind.nearest .f64 (b : Int)) == some .eq) = decide (a = b) := by
  have la : a.log2 < 16 := (Nat.log2_lt (by omega)).2 ha2
  have lb : b.log2 < 16 := (Nat.log2_lt (by omega)).2 hb2
  have a1 : 2 ^ a.log2 ≤ a := Nat.log2_self_le (by omega)
  have a2 : a < 2 ^ (a.log2 + 1) := Nat.lt_log2_self
  have b1 : 2 ^ b.log2 ≤ b := Nat.log2_self_le (by omega)
  have b2 : b < 2 ^ (b.log2 + 1) := Nat.lt_log2_self
  rw [near_pos la a1 a2, near_pos lb b1 b2]
  unfold Ieee.Format.order
  rw [read_pos la a1 a2, read_pos lb b1 b2]
  generalize a.log2 = k at *
  generalize b.log2 = j at *
  unfold Ieee.Datum.order Ieee.signed
  simp only [Bool.false_eq_true, if_false]
  obtain ⟨m, hm⟩ : ∃ m : Nat, min k j = m := ⟨_, rfl⟩
  have e1 : ((k : Int) - 52 - min ((k : Int) - 52) ((j : Int) - 52)).toNat = k - m := by omega
  have e2 : ((j : Int) - 52 - min ((k : Int) - 52) ((j : Int) - 52)).toNat = j - m := by omega
  rw [e1, e2]
  have f1 : (a * 2 ^ (52 - k)) <<< (k - m) = a * 2 ^ (52 - m) := by
    rw [Nat.shiftLeft_eq, Nat.mul_assoc, ← Nat.pow_add]; congr 2; omega
  have f2 : (b * 2 ^ (52 - j)) <<< (j - m) = b * 2 ^ (52 - m) := by
    rw [Nat.shiftLeft_eq, Nat.mul_assoc, ← Nat.pow_add]; congr 2; omega
  rw [f1, f2]
  have hp := Nat.two_pow_pos (52 - m)
  by_cases h : a = b
  · subst h
    simp
  · have hne : ((a * 2 ^ (52 - m) : Nat) : Int) ≠ ((b * 2 ^ (52 - m) : Nat) : Int) := by
      intro c
      have c2 : a * 2 ^ (52 - m) = b * 2 ^ (52 - m) := by omega
      exact h (Nat.eq_of_mul_eq_mul_right hp c2)
    rw [decide_eq_false h]
    simp only [beq_eq_false_iff_ne, ne_eq, Option.some.injEq]
    intro c
    exact hne (Std.LawfulEqCmp.eq_of_compare c)
end Go.Proofs.YtinjldagfhbioaaGreatDoor

namespace Go.Proofs.YtinjldagfhbioaaGreatDoor

def alike : List Int → List Int → Nat
  | x :: xs, y :: ys => if x = y then alike xs ys + 1 else 0
  | _, _ => 0

theorem alike_at : ∀ (a b : List Int) (k : Nat) (x y : Int), (∀ j, j < k → a[j]? = b[j]?) → a[k]? = some x → b[k]? = some y → x ≠ y → alike a b = k
  | [], _, k, _, _, _, h, _, _ => by simp at h
  | _ :: _, [], k, _, _, _, _, h, _ => by simp at h
  | p :: a, q :: b, 0, x, y, _, hx, hy, hne => by
    simp at hx hy
    subst hx
    subst hy
    unfold alike
    rw [if_neg hne]
  | p :: a, q :: b, k + 1, x, y, hj, hx, hy, hne => by
    have h0 := hj 0 (by omega)
    simp at h0
    subst h0
    unfold alike
    rw [if_pos rfl, alike_at a b k x y (fun j h => by have := hj (j + 1) (by omega); simpa using this) (by simpa using hx) (by simpa using hy) hne]

theorem alike_all : ∀ (a b : List Int), (∀ j, j < min a.length b.length → a[j]? = b[j]?) → alike a b = min a.length b.length
  | [], b, _ => by simp [alike]
  | _ :: _, [], _ => by simp [alike]
  | p :: a, q :: b, hj => by
    have h0 := hj 0 (by simp)
    simp at h0
    subst h0
    have := alike_all a b (fun j h => by have := hj (j + 1) (by simp; omega); simpa using this)
    unfold alike
    rw [if_pos rfl, this]
    simp

theorem alike_le : ∀ (a b : List Int), alike a b ≤ b.length
  | [], _ => by simp [alike]
  | _ :: _, [] => by simp [alike]
  | p :: a, q :: b => by
    have := alike_le a b
    unfold alike
    split <;> simp <;> omega

/-- Whether a begins with b. -/
def begL (a b : List Int) : Bool := decide (b.length ≤ a.length) && decide (a.take b.length = b)

theorem begL_alike : ∀ (a b : List Int), begL a b = decide (alike a b = b.length)
  | a, [] => by cases a <;> simp [begL, alike]
  | [], q :: b => by simp [begL, alike]
  | p :: a, q :: b => by
    have ih := begL_alike a b
    unfold begL at ih ⊢
    unfold alike
    by_cases h : p = q
    · subst h
      rw [if_pos rfl]
      simpa using ih
    · rw [if_neg h]
      simp [h]

theorem begL_self (a : List Int) : begL a a = true := by simp [begL]

def begT (es : List Ent) (sh : Bool) (lv : Int) (x y : ByteArray) : Bool := if (okE es lv x && okE es lv y) = true then begL (firsT es sh lv x) (firsT es sh lv y) else false

theorem near_neq {x y : Int} (hx : 1 ≤ x ∧ x ≤ 65535) (hy : 1 ≤ y ∧ y ≤ 65535) : (Ieee.double.order (FloatKind.nearest .f64 x) (FloatKind.nearest .f64 y) == some .eq) = decide (x = y) := by
  obtain ⟨a, rfl⟩ : ∃ a : Nat, x = (a : Int) := ⟨x.toNat, by omega⟩
  obtain ⟨b, rfl⟩ : ∃ b : Nat, y = (b : Int) := ⟨y.toNat, by omega⟩
  rw [order_pos (by omega) (by omega) (by omega) (by omega)]
  by_cases h : a = b
  · subst h; simp
  · rw [decide_eq_false h, decide_eq_false (by omega)]
end Go.Proofs.YtinjldagfhbioaaGreatDoor

namespace Go.Proofs.YtinjldagfhbioaaGreatDoor

/-- So many pieces from one on. -/
def catP (pc : Nat → List Int) (i : Nat) : Nat → List Int
  | 0 => []
  | n + 1 => catP pc i n ++ pc (i + n)

/-- As the program looks: from piece a on, with what is settled and what is left. -/
def shortF (es : List Ent) (sh : Bool) (want : List Int) (pc : Nat → List Int) : Nat → Nat → List Int → List Int → Option Nat
  | 0, _, _, _ => none
  | f + 1, a, st, rest =>
    if (growS es sh st rest (pc a)).1 ++ firstsB es sh (growS es sh st rest (pc a)).2 = want then some (a + 1)
    else if alike (growS es sh st rest (pc a)).1 want < (growS es sh st rest (pc a)).1.length then none
    else shortF es sh want pc f (a + 1) (growS es sh st rest (pc a)).1 (growS es sh st rest (pc a)).2

/-- As it is asked: the first of the stretches of n pieces and more. -/
def matchF (es : List Ent) (sh : Bool) (want : List Int) (pc : Nat → List Int) (i : Nat) : Nat → Nat → Option Nat
  | 0, _ => none
  | f + 1, n => if firstsB es sh (catP pc i n) = want then some (i + n) else matchF es sh want pc i f (n + 1)

theorem alike_symm : ∀ a b : List Int, alike a b = alike b a
  | [], [] => rfl
  | [], _ :: _ => by simp [alike]
  | _ :: _, [] => by simp [alike]
  | x :: a, y :: b => by
    unfold alike
    by_cases h : x = y
    · rw [if_pos h, if_pos h.symm, alike_symm a b]
    · rw [if_neg h, if_neg (fun c => h c.symm)]

theorem alike_pre {a want : List Int} (h : want.take a.length = a) : ¬ alike a want < a.length := by
  have hl : a.length ≤ want.length := by
    have := congrArg List.length h
    rw [List.length_take] at this
    omega
  have hb : begL want a = true := by
    unfold begL
    rw [decide_eq_true hl, decide_eq_true h]
    rfl
  rw [begL_alike] at hb
  have := of_decide_eq_true hb
  rw [alike_symm]
  omega

theorem catP_more (pc : Nat → List Int) (i n : Nat) (hp : ∀ k, 1 ≤ k → Sta (pc k) ∧ pc k ≠ []) (hn : 1 ≤ n) : ∀ m, ∃ q, catP pc i (n + m) = catP pc i n ++ q ∧ Sta q := by
  intro m
  induction m with
  | zero => exact ⟨[], by simp, .inl rfl⟩
  | succ m ih =>
    obtain ⟨q, h1, h2⟩ := ih
    obtain ⟨s1, s2⟩ := hp (i + (n + m)) (by omega)
    refine ⟨q ++ pc (i + (n + m)), by show catP pc i (n + m) ++ pc (i + (n + m)) = _; rw [h1, List.append_assoc], ?_⟩
    cases q with
    | nil => exact s1
    | cons y t =>
      rcases h2 with h | h
      · cases h
      · exact .inr h

theorem matchF_none {es : List Ent} {sh : Bool} {want : List Int} {pc : Nat → List Int} {i : Nat} : ∀ (f n : Nat), (∀ m, n ≤ m → firstsB es sh (catP pc i m) ≠ want) → matchF es sh want pc i f n = none := by
  intro f
  induction f with
  | zero => intro n _; rfl
  | succ f ih =>
    intro n h
    rw [matchF, if_neg (h n (Nat.le_refl _))]
    exact ih (n + 1) (fun m hm => h m (by omega))

/-- Both look alike. -/
theorem short_match {es : List Ent} {sh : Bool} {want : List Int} {pc : Nat → List Int} {i : Nat} (hp : ∀ k, 1 ≤ k → Sta (pc k) ∧ pc k ≠ []) : ∀ (f n : Nat) (st rest : List Int), (n = 0 ∧ st = [] ∧ rest = []) ∨ (1 ≤ n ∧ Knows es sh (catP pc i n) st rest) → shortF es sh want pc f (i + n) st rest = matchF es sh want pc i f (n + 1) := by
  intro f
  induction f with
  | zero => intro n st rest _; rfl
  | succ f ih =>
    intro n st rest h
    have hk : Knows es sh (catP pc i (n + 1)) (growS es sh st rest (pc (i + n))).1 (growS es sh st rest (pc (i + n))).2 := by
      rcases h with ⟨rfl, rfl, rfl⟩ | ⟨h1, h2⟩
      · show Knows es sh ([] ++ pc (i + 0)) _ _
        rw [List.nil_append]
        exact knows_first es sh _
      · obtain ⟨s1, s2⟩ := hp (i + n) (by omega)
        exact h2.grow s1 s2
    rw [shortF, matchF, ← hk.firsts]
    by_cases c : firstsB es sh (catP pc i (n + 1)) = want
    · rw [if_pos c, if_pos c]
      rfl
    · rw [if_neg c, if_neg c]
      split
      · rename_i ha
        symm
        refine matchF_none f (n + 1 + 1) (fun m hm hw => ?_)
        obtain ⟨q, h1, h2⟩ := catP_more pc i (n + 1) hp (by omega) (m - (n + 1))
        rw [show n + 1 + (m - (n + 1)) = m by omega] at h1
        rw [h1] at hw
        exact alike_pre (hk.ahead h2 hw) ha
      · exact ih (n + 1) _ _ (.inr ⟨by omega, hk⟩)

theorem short_from {es : List Ent} {sh : Bool} {want : List Int} {pc : Nat → List Int} (hp : ∀ k, 1 ≤ k → Sta (pc k) ∧ pc k ≠ []) (f i : Nat) : shortF es sh want pc f i [] [] = matchF es sh want pc i f 1 := short_match hp f 0 [] [] (.inl ⟨rfl, rfl, rfl⟩)

theorem matchF_bd {es : List Ent} {sh : Bool} {want : List Int} {pc : Nat → List Int} {i : Nat} : ∀ (f n k : Nat), matchF es sh want pc i f n = some k → i + n ≤ k ∧ k < i + n + f := by
  intro f
  induction f with
  | zero => intro n k h; cases h
  | succ f ih =>
    intro n k h
    rw [matchF] at h
    split at h
    · have := Option.some.inj h
      omega
    · have := ih (n + 1) k h
      omega

/-- The spans, one behind the other, among N pieces. -/
def spansF (es : List Ent) (sh : Bool) (want : List Int) (pc : Nat → List Int) (N : Nat) : Nat → Nat → List (Nat × Nat)
  | 0, _ => []
  | f + 1, i => if i < N then
      match (if want = [] then none else matchF es sh want pc i (N - i) 1) with
      | some k => (i, k) :: spansF es sh want pc N f k
      | none => spansF es sh want pc N f (i + 1)
    else []
end Go.Proofs.YtinjldagfhbioaaGreatDoor

namespace Go.Proofs.YtinjldagfhbioaaGreatDoor

/-- The cuts, as places. -/
def cutN (s : ByteArray) : Nat → Nat → List Nat
  | 0, _ => []
  | f + 1, a => if a < s.size then (if a = 0 ∨ cutB (rnAt s a) = true then [a] else []) ++ cutN s f (a + wid s a) else []

theorem cutN_ints (s : ByteArray) : ∀ f a, cutsFrom s f a = (cutN s f a).map (fun n : Nat => (n : Int)) := by
  intro f
  induction f with
  | zero => intro a; rfl
  | succ f ih =>
    intro a
    simp only [cutsFrom, cutN]
    split
    · rw [List.map_append, ih]
      show (if a = 0 ∨ cutB (rnAt s a) = true then [(a : Int)] else []) ++ _ = _
      split <;> rfl
    · rfl

def cutsNat (s : ByteArray) : List Nat := cutN s s.size 0 ++ [s.size]

theorem cutsL_nat (s : ByteArray) : cutsL s = (cutsNat s).map (fun n : Nat => (n : Int)) := by
  unfold cutsL cutsNat
  rw [cutN_ints, List.map_append]
  rfl

/-- Places that are come to one from the other, each but the first one a cut. -/
inductive Chain (s : ByteArray) : Nat → List Nat → Prop
  | last {a : Nat} (h : Reach s a s.size) (hl : a < s.size) : Chain s a [s.size]
  | cons {a b : Nat} {l : List Nat} (h : Reach s a b) (hb : b < s.size) (hc : cutB (rnAt s b) = true) (ht : Chain s b l) (hab : a < b) : Chain s a (b :: l)

theorem chain_from (s : ByteArray) : ∀ (f a b : Nat), Reach s b a → b < a → a ≤ s.size → s.size ≤ a + f → Chain s b (cutN s f a ++ [s.size]) := by
  intro f
  induction f with
  | zero =>
    intro a b hr hba ha hf
    have : a = s.size := by omega
    subst this
    exact .last hr (by omega)
  | succ f ih =>
    intro a b hr hba ha hf
    rw [cutN]
    by_cases h : a < s.size
    · have hw := wid_bd s h
      rw [if_pos h]
      by_cases c : cutB (rnAt s a) = true
      · rw [if_pos (.inr c), List.append_assoc]
        exact .cons hr h c (ih _ a (.step h (.refl _)) (by omega) (by omega) (by omega)) hba
      · rw [if_neg (fun d => by rcases d with d | d; omega; exact c d), List.nil_append]
        exact ih _ b (hr.trans (.step h (.refl _))) (by omega) (by omega) (by omega)
    · rw [if_neg h]
      have : a = s.size := by omega
      subst this
      exact .last hr (by omega)

/-- The first cut is 0. -/
theorem cuts_head (s : ByteArray) : ∃ l, cutsNat s = 0 :: l ∧ (s.size = 0 → l = []) ∧ (0 < s.size → Chain s 0 l) := by
  unfold cutsNat
  by_cases h : 0 < s.size
  · obtain ⟨f, hf⟩ : ∃ f, s.size = f + 1 := ⟨s.size - 1, by omega⟩
    have hw := wid_bd s h
    refine ⟨cutN s f (0 + wid s 0) ++ [s.size], ?_, fun c => by omega, fun _ => chain_from s f _ 0 (.step h (.refl _)) (by omega) (by omega) (by omega)⟩
    rw [hf]
    rw [cutN, if_pos h, if_pos (.inl rfl)]
    rw [← hf]
    rfl
  · refine ⟨[], ?_, fun _ => rfl, fun c => absurd c h⟩
    have : s.size = 0 := by omega
    rw [this]
    rfl

theorem sort_head {y : Int} {m : List Int} (h : cls y = 0) : at0 (sortM (y :: m)) 0 = y := by
  have i1 : ∀ (a : List Int) (x : Int), ∃ a', insR (a ++ [y]) x = a' ++ [y] := by
    intro a
    induction a with
    | nil => intro x; exact ⟨[x], by show insR [y] x = _; rw [insR_stop (by omega)]; rfl⟩
    | cons z t ih =>
      intro x
      by_cases c : 0 < cls x ∧ cls x < cls z
      · obtain ⟨a', ha⟩ := ih x
        exact ⟨z :: a', by show insR (z :: (t ++ [y])) x = _; rw [insR_go c, ha]; rfl⟩
      · exact ⟨x :: z :: t, by show insR (z :: (t ++ [y])) x = _; rw [insR_stop c]; rfl⟩
  have i2 : ∀ (m a : List Int), ∃ a', m.foldl insR (a ++ [y]) = a' ++ [y] := by
    intro m
    induction m with
    | nil => intro a; exact ⟨a, rfl⟩
    | cons x m ih =>
      intro a
      obtain ⟨a1, h1⟩ := i1 a x
      rw [List.foldl_cons, h1]
      exact ih a1
  obtain ⟨a', ha⟩ := i2 m []
  have e : stk (y :: m) = a' ++ [y] := by
    unfold stk
    rw [List.foldl_cons]
    exact ha
  rw [sortM_stk, e, List.reverse_append]
  rfl

/-- What begins at a cut begins with a starter. -/
theorem piece_sta {s : ByteArray} {b c : Nat} (hc : cutB (rnAt s b) = true) (hbc : b < c) (hcs : c ≤ s.size) (hw : b + wid s b ≤ c) : (apD (decL (s.extract b c)) = [] ∨ cls (at0 (apD (decL (s.extract b c))) 0) = 0) ∧ Sta (rn4 (s.extract b c)) ∧ rn4 (s.extract b c) ≠ [] := by
  have hd := decL_step s hbc hcs hw
  have h1 := cut_head hc (decL (s.extract (b + wid s b) c))
  have hr : rn4 (s.extract b c) = nD (decL (s.extract b c)) := rfl
  rw [hr, hd]
  refine ⟨.inr h1, ?_, ?_⟩
  · obtain ⟨y, m, hy⟩ : ∃ y m, apD (rnAt s b :: decL (s.extract (b + wid s b) c)) = y :: m := by
      have hl := len_apD (rnAt s b :: decL (s.extract (b + wid s b) c))
      cases e : apD (rnAt s b :: decL (s.extract (b + wid s b) c)) with
      | nil => rw [e] at hl; simp at hl
      | cons y m => exact ⟨y, m, rfl⟩
    refine .inr ?_
    unfold nD
    rw [hy] at h1 ⊢
    have h2 : cls y = 0 := h1
    rw [sort_head h2]
    exact h2
  · intro e
    have hl := len_apD (rnAt s b :: decL (s.extract (b + wid s b) c))
    have hl2 := congrArg List.length e
    rw [nD_len] at hl2
    simp at hl hl2
    rw [hl2] at hl
    simp at hl

theorem rn4_cut {s : ByteArray} {a b c : Nat} (hr : Reach s a b) (hc : cutB (rnAt s b) = true) (hbc : b < c) (hcs : c ≤ s.size) (hw : b + wid s b ≤ c) : rn4 (s.extract a c) = rn4 (s.extract a b) ++ rn4 (s.extract b c) := by
  have e1 : rn4 (s.extract a c) = nD (decL (s.extract a c)) := rfl
  rw [e1, decL_cut hr (by omega) hcs, nD_app (piece_sta hc hbc hcs hw).1]
  rfl

theorem Reach.wid {s : ByteArray} {a p : Nat} (h : Reach s a p) (hne : a < p) : a + Go.Proofs.YtinjldagfhbioaaGreatDoor.wid s a ≤ p := by
  cases h with
  | refl => omega
  | step h r => exact r.le.1
end Go.Proofs.YtinjldagfhbioaaGreatDoor

namespace Go.Proofs.YtinjldagfhbioaaGreatDoor

theorem chain_at {s : ByteArray} : ∀ {a : Nat} {l : List Nat}, Chain s a l → ∀ (k x y : Nat), (a :: l)[k]? = some x → (a :: l)[k + 1]? = some y → Reach s x y ∧ x < y ∧ y ≤ s.size ∧ (1 ≤ k → cutB (rnAt s x) = true) := by
  intro a l h
  induction h with
  | @last a h hl =>
    intro k x y hx hy
    cases k with
    | zero =>
      simp at hx hy
      subst hx
      subst hy
      exact ⟨h, hl, Nat.le_refl _, fun c => by omega⟩
    | succ k => simp at hy
  | @cons a b l h hb hc ht hab ih =>
    intro k x y hx hy
    cases k with
    | zero =>
      simp at hx hy
      subst hx
      subst hy
      exact ⟨h, hab, by omega, fun c => by omega⟩
    | succ k =>
      have hx2 : (b :: l)[k]? = some x := by simpa using hx
      have hy2 : (b :: l)[k + 1]? = some y := by simpa using hy
      obtain ⟨r1, r2, r3, r4⟩ := ih k x y hx2 hy2
      refine ⟨r1, r2, r3, fun _ => ?_⟩
      cases k with
      | zero =>
        simp at hx2
        subst hx2
        exact hc
      | succ k => exact r4 (by omega)

/-- Two cuts that follow one another. -/
theorem cuts_at {s : ByteArray} {k x y : Nat} (hx : (cutsNat s)[k]? = some x) (hy : (cutsNat s)[k + 1]? = some y) : Reach s x y ∧ x < y ∧ y ≤ s.size ∧ (1 ≤ k → cutB (rnAt s x) = true) := by
  obtain ⟨l, h1, h2, h3⟩ := cuts_head s
  rw [h1] at hx hy
  by_cases h : 0 < s.size
  · exact chain_at (h3 h) k x y hx hy
  · rw [h2 (by omega)] at hy
    simp at hy

theorem cuts_zero (s : ByteArray) : (cutsNat s)[0]? = some 0 := by
  obtain ⟨l, h1, _⟩ := cuts_head s
  rw [h1]
  rfl

theorem cuts_le {s : ByteArray} {k x : Nat} (hx : (cutsNat s)[k]? = some x) : x ≤ s.size := by
  cases k with
  | zero =>
    rw [cuts_zero] at hx
    have := Option.some.inj hx
    omega
  | succ k =>
    have hl := (List.getElem?_eq_some_iff.1 hx).1
    exact (cuts_at (List.getElem?_eq_getElem (by omega)) hx).2.2.1

theorem cuts_reach {s : ByteArray} : ∀ (n i x y : Nat), (cutsNat s)[i]? = some x → (cutsNat s)[i + n]? = some y → Reach s x y ∧ x + n ≤ y := by
  intro n
  induction n with
  | zero =>
    intro i x y hx hy
    rw [Nat.add_zero, hx] at hy
    have := Option.some.inj hy
    subst this
    exact ⟨.refl _, by omega⟩
  | succ n ih =>
    intro i x y hx hy
    have hl := (List.getElem?_eq_some_iff.1 hy).1
    obtain ⟨z, hz⟩ : ∃ z, (cutsNat s)[i + n]? = some z := ⟨_, List.getElem?_eq_getElem (by omega)⟩
    obtain ⟨r1, r2⟩ := ih i x z hx hz
    obtain ⟨q1, q2, _⟩ := cuts_at hz (show (cutsNat s)[i + n + 1]? = some y from hy)
    exact ⟨r1.trans q1, by omega⟩

def cutAt (s : ByteArray) (k : Nat) : Nat := ((cutsNat s)[k]?).getD 0

/-- The runes from each cut to the next one. -/
def pcS (s : ByteArray) (k : Nat) : List Int := if k + 1 < (cutsNat s).length then rn4 (s.extract (cutAt s k) (cutAt s (k + 1))) else [65]

theorem cutAt_of {s : ByteArray} {k x : Nat} (h : (cutsNat s)[k]? = some x) : cutAt s k = x := by unfold cutAt; rw [h]; rfl

theorem pcS_sta (s : ByteArray) (k : Nat) (hk : 1 ≤ k) : Sta (pcS s k) ∧ pcS s k ≠ [] := by
  unfold pcS
  split
  · rename_i h
    obtain ⟨x, hx⟩ : ∃ x, (cutsNat s)[k]? = some x := ⟨_, List.getElem?_eq_getElem (by omega)⟩
    obtain ⟨y, hy⟩ : ∃ y, (cutsNat s)[k + 1]? = some y := ⟨_, List.getElem?_eq_getElem h⟩
    obtain ⟨q1, q2, q3, q4⟩ := cuts_at hx hy
    rw [cutAt_of hx, cutAt_of hy]
    exact (piece_sta (q4 hk) q2 q3 (q1.wid q2)).2
  · exact ⟨.inr (by decide), by simp⟩

/-- A stretch is its pieces one behind the other. -/
theorem cat_rn {s : ByteArray} : ∀ (n i x y : Nat), (cutsNat s)[i]? = some x → (cutsNat s)[i + (n + 1)]? = some y → catP (pcS s) i (n + 1) = rn4 (s.extract x y) := by
  intro n
  induction n with
  | zero =>
    intro i x y hx hy
    have hl := (List.getElem?_eq_some_iff.1 hy).1
    show [] ++ pcS s (i + 0) = _
    rw [List.nil_append, Nat.add_zero]
    unfold pcS
    rw [if_pos (by omega), cutAt_of hx, cutAt_of (show (cutsNat s)[i + 1]? = some y from hy)]
  | succ n ih =>
    intro i x y hx hy
    have hl := (List.getElem?_eq_some_iff.1 hy).1
    obtain ⟨z, hz⟩ : ∃ z, (cutsNat s)[i + (n + 1)]? = some z := ⟨_, List.getElem?_eq_getElem (by omega)⟩
    obtain ⟨q1, q2, q3, q4⟩ := cuts_at hz (show (cutsNat s)[i + (n + 1) + 1]? = some y from hy)
    show catP (pcS s) i (n + 1) ++ pcS s (i + (n + 1)) = _
    rw [ih i x z hx hz]
    have e : pcS s (i + (n + 1)) = rn4 (s.extract z y) := by
      unfold pcS
      rw [if_pos (by omega), cutAt_of hz, cutAt_of (show (cutsNat s)[i + (n + 1) + 1]? = some y from hy)]
    rw [e, rn4_cut (cuts_reach (n + 1) i x z hx hz).1 (q4 (by omega)) q2 q3 (q1.wid q2)]

/-- A stretch has no more runes than the whole. -/
theorem rn4_part {s : ByteArray} {i k x y : Nat} (hik : i < k) (hx : (cutsNat s)[i]? = some x) (hy : (cutsNat s)[k]? = some y) : (rn4 (s.extract x y)).length ≤ (rn4 s).length := by
  obtain ⟨l, h1, h2, h3⟩ := cuts_head s
  have hl := (List.getElem?_eq_some_iff.1 hy).1
  obtain ⟨m, hm⟩ : ∃ m, (cutsNat s).length = m + 1 := ⟨(cutsNat s).length - 1, by omega⟩
  have hlast : (cutsNat s)[m]? = some s.size := by
    unfold cutsNat at hm ⊢
    rw [List.length_append] at hm
    have : m = (cutN s s.size 0).length := by simp at hm; omega
    rw [this]
    simp
  have hall : catP (pcS s) 0 (m - 1 + 1) = rn4 (s.extract 0 s.size) := cat_rn (m - 1) 0 0 s.size (cuts_zero s) (by rw [show 0 + (m - 1 + 1) = m by omega]; exact hlast)
  have hsub : catP (pcS s) i (k - i - 1 + 1) = rn4 (s.extract x y) := cat_rn (k - i - 1) i x y hx (by rw [show i + (k - i - 1 + 1) = k by omega]; exact hy)
  have e0 : s.extract 0 s.size = s := by simp
  rw [e0] at hall
  have hlen : ∀ (n j : Nat), (catP (pcS s) j n).length ≤ (catP (pcS s) 0 (j + n)).length := by
    intro n
    induction n with
    | zero => intro j; show 0 ≤ _; omega
    | succ n ih =>
      intro j
      have := ih j
      show (catP (pcS s) j n ++ pcS s (j + n)).length ≤ (catP (pcS s) 0 (j + n) ++ pcS s (0 + (j + n))).length
      rw [List.length_append, List.length_append, Nat.zero_add]
      omega
  have hmono : ∀ (a b : Nat), a ≤ b → (catP (pcS s) 0 a).length ≤ (catP (pcS s) 0 b).length := by
    intro a b hab
    induction b with
    | zero => have : a = 0 := by omega
              subst this
              exact Nat.le_refl _
    | succ b ih =>
      by_cases c : a = b + 1
      · rw [c]; exact Nat.le_refl _
      · have := ih (by omega)
        show _ ≤ (catP (pcS s) 0 b ++ pcS s (0 + b)).length
        rw [List.length_append]
        omega
  rw [← hsub, ← hall]
  refine Nat.le_trans (hlen _ i) (hmono _ _ ?_)
  omega
end Go.Proofs.YtinjldagfhbioaaGreatDoor

namespace Go.Proofs.YtinjldagfhbioaaGreatDoor

def spn (s : ByteArray) (p : Nat × Nat) : Int × Int := ((cutAt s p.1 : Int), (cutAt s p.2 : Int))
def nPc (s : ByteArray) : Nat := (cutsNat s).length - 1
def wantT (es : List Ent) (sh : Bool) (t : ByteArray) : List Int := firstsB es sh (rn4 t)

/-- All spans that match. -/
def findL (es : List Ent) (sh : Bool) (s t : ByteArray) : List (Int × Int) := (spansF es sh (wantT es sh t) (pcS s) (nPc s) (nPc s + 1) 0).map (spn s)

def okF (es : List Ent) (sh : Bool) (lv : Int) (s t : ByteArray) : Bool := (okE es lv s && okE es lv t) && decide ((findL es sh s t).length ≤ 60)
def findA (es : List Ent) (sh : Bool) (lv : Int) (s t : ByteArray) : List (Int × Int) := if okF es sh lv s t = true then findL es sh s t else []

theorem cuts_len (s : ByteArray) : (cutsNat s).length = nPc s + 1 := by
  obtain ⟨l, h, _⟩ := cuts_head s
  unfold nPc
  rw [h]
  simp

theorem cutAt_some {s : ByteArray} {k : Nat} (h : k ≤ nPc s) : (cutsNat s)[k]? = some (cutAt s k) := by
  have hl := cuts_len s
  have : (cutsNat s)[k]? = some (cutsNat s)[k] := List.getElem?_eq_getElem (by omega)
  rw [this]
  unfold cutAt
  rw [this]
  rfl

theorem cutsL_some {s : ByteArray} {k : Nat} (h : k ≤ nPc s) : (cutsL s)[k]? = some (cutAt s k : Int) := by
  rw [cutsL_nat, List.getElem?_map, cutAt_some h]
  rfl

theorem cutsL_len (s : ByteArray) : (cutsL s).length = nPc s + 1 := by
  rw [cutsL_nat, List.length_map, cuts_len]

theorem nPc_le {s : ByteArray} : nPc s ≤ s.size := by
  have h := cutsFrom_len s s.size 0
  have hl := cutsL_len s
  unfold cutsL at hl
  rw [List.length_append] at hl
  simp at hl
  omega

/-- The stretch between two cuts, as its pieces. -/
theorem stretch_cat {s : ByteArray} {i n : Nat} (hn : 1 ≤ n) (h : i + n ≤ nPc s) : rn4 (s.extract (cutAt s i) (cutAt s (i + n))) = catP (pcS s) i n := by
  obtain ⟨m, rfl⟩ : ∃ m, n = m + 1 := ⟨n - 1, by omega⟩
  rw [cat_rn m i (cutAt s i) (cutAt s (i + (m + 1))) (cutAt_some (by omega)) (cutAt_some h)]

theorem stretch_ok {s : ByteArray} {i k : Nat} (hik : i < k) (h : k ≤ nPc s) (hok : ok4 s = true) : ok4 (s.extract (cutAt s i) (cutAt s k)) = true ∧ cutAt s i ≤ cutAt s k ∧ cutAt s k ≤ s.size := by
  obtain ⟨h1, h2⟩ := ok4_parts hok
  have hx := cutAt_some (s := s) (k := i) (by omega)
  have hy := cutAt_some (s := s) (k := k) h
  have hp := rn4_part hik hx hy
  have hr := (cuts_reach (k - i) i (cutAt s i) (cutAt s k) hx (by rw [show i + (k - i) = k by omega]; exact hy)).2
  have hle := cuts_le hy
  have hz := size_part s (a := cutAt s i) hle
  exact ⟨decide_eq_true ⟨by omega, by omega⟩, by omega, hle⟩

theorem spansF_end {es : List Ent} {sh : Bool} {want : List Int} {pc : Nat → List Int} {N f i : Nat} (h : ¬ i < N) : spansF es sh want pc N f i = [] := by
  cases f with
  | zero => rfl
  | succ f => rw [spansF, if_neg h]

theorem spansF_some {es : List Ent} {sh : Bool} {want : List Int} {pc : Nat → List Int} {N f i k : Nat} (h : i < N) (hm : (if want = [] then none else matchF es sh want pc i (N - i) 1) = some k) : spansF es sh want pc N (f + 1) i = (i, k) :: spansF es sh want pc N f k := by
  rw [spansF, if_pos h, hm]

theorem spansF_none {es : List Ent} {sh : Bool} {want : List Int} {pc : Nat → List Int} {N f i : Nat} (h : i < N) (hm : (if want = [] then none else matchF es sh want pc i (N - i) 1) = none) : spansF es sh want pc N (f + 1) i = spansF es sh want pc N f (i + 1) := by
  rw [spansF, if_pos h, hm]
end Go.Proofs.YtinjldagfhbioaaGreatDoor

namespace Go.Proofs.YtinjldagfhbioaaGreatDoor

theorem matchF_is {es : List Ent} {sh : Bool} {want : List Int} {pc : Nat → List Int} {i : Nat} : ∀ (f n k : Nat), matchF es sh want pc i f n = some k → firstsB es sh (catP pc i (k - i)) = want := by
  intro f
  induction f with
  | zero => intro n k h; cases h
  | succ f ih =>
    intro n k h
    rw [matchF] at h
    split at h
    · rename_i hw
      have := Option.some.inj h
      subst this
      rw [show i + n - i = n by omega]
      exact hw
    · exact ih (n + 1) k h

theorem matchF_hit {es : List Ent} {sh : Bool} {want : List Int} {pc : Nat → List Int} {i m : Nat} (hm : firstsB es sh (catP pc i m) = want) : ∀ (f n : Nat), n ≤ m → m < n + f → ∃ k, matchF es sh want pc i f n = some k := by
  intro f
  induction f with
  | zero => intro n h1 h2; omega
  | succ f ih =>
    intro n h1 h2
    rw [matchF]
    split
    · exact ⟨_, rfl⟩
    · rename_i hne
      have : n ≠ m := fun e => hne (by rw [e]; exact hm)
      exact ih (n + 1) (by omega) (by omega)

/-- Spans that match, one behind the other from i on, among N pieces. -/
def GoodSp (es : List Ent) (sh : Bool) (want : List Int) (pc : Nat → List Int) (N : Nat) : Nat → List (Nat × Nat) → Prop
  | _, [] => True
  | i, p :: ps => i ≤ p.1 ∧ p.1 < p.2 ∧ p.2 ≤ N ∧ want ≠ [] ∧ firstsB es sh (catP pc p.1 (p.2 - p.1)) = want ∧ GoodSp es sh want pc N p.2 ps

theorem GoodSp.low {es : List Ent} {sh : Bool} {want : List Int} {pc : Nat → List Int} {N i j : Nat} {ps : List (Nat × Nat)} (h : GoodSp es sh want pc N i ps) (hj : j ≤ i) : GoodSp es sh want pc N j ps := by
  cases ps with
  | nil => trivial
  | cons p ps => exact ⟨Nat.le_trans hj h.1, h.2⟩

theorem spans_good (es : List Ent) (sh : Bool) (want : List Int) (pc : Nat → List Int) (N : Nat) : ∀ (f i : Nat), GoodSp es sh want pc N i (spansF es sh want pc N f i) ∧ (spansF es sh want pc N f i).length ≤ N - i := by
  intro f
  induction f with
  | zero => intro i; exact ⟨trivial, by simp [spansF]⟩
  | succ f ih =>
    intro i
    by_cases hi : i < N
    · by_cases hw : want = []
      · rw [spansF_none hi (by rw [if_pos hw])]
        exact ⟨(ih (i + 1)).1.low (by omega), by have := (ih (i + 1)).2; omega⟩
      · cases hm : matchF es sh want pc i (N - i) 1 with
        | none =>
          rw [spansF_none hi (by rw [if_neg hw, hm])]
          exact ⟨(ih (i + 1)).1.low (by omega), by have := (ih (i + 1)).2; omega⟩
        | some k =>
          rw [spansF_some hi (by rw [if_neg hw, hm])]
          have hb := matchF_bd _ _ _ hm
          exact ⟨⟨Nat.le_refl _, by omega, by omega, hw, matchF_is _ _ _ hm, (ih k).1⟩, by have := (ih k).2; simp; omega⟩
    · rw [spansF_end hi]
      exact ⟨trivial, by simp⟩

theorem spans_empty (es : List Ent) (sh : Bool) (pc : Nat → List Int) (N : Nat) : ∀ (f i : Nat), spansF es sh [] pc N f i = [] := by
  intro f
  induction f with
  | zero => intro i; rfl
  | succ f ih =>
    intro i
    by_cases hi : i < N
    · rw [spansF_none hi (by rw [if_pos rfl])]; exact ih (i + 1)
    · exact spansF_end hi

/-- What each span of those found says, and where the one ahead of it ends. -/
def SpAt (es : List Ent) (sh : Bool) (s t : ByteArray) (p : Int × Int) : Prop :=
  ∃ i k : Nat, i < k ∧ k ≤ nPc s ∧ p = ((cutAt s i : Int), (cutAt s k : Int)) ∧ wantT es sh t ≠ [] ∧ firstsB es sh (rn4 (s.extract (cutAt s i) (cutAt s k))) = wantT es sh t

theorem goodSp_at {es : List Ent} {sh : Bool} {s t : ByteArray} : ∀ (ps : List (Nat × Nat)) (i : Nat), GoodSp es sh (wantT es sh t) (pcS s) (nPc s) i ps → ∀ (j : Nat) (p : Nat × Nat), ps[j]? = some p → SpAt es sh s t (spn s p) ∧ i ≤ p.1 ∧ ∀ q, (0 < j → ps[j - 1]? = some q → q.2 ≤ p.1)
  | [], _, _, j, p, h => by simp at h
  | x :: ps, i, h, 0, p, hp => by
    simp at hp
    subst hp
    obtain ⟨h1, h2, h3, h4, h5, _⟩ := h
    have hc := stretch_cat (s := s) (i := x.1) (n := x.2 - x.1) (by omega) (by omega)
    rw [show x.1 + (x.2 - x.1) = x.2 by omega] at hc
    exact ⟨⟨x.1, x.2, h2, h3, rfl, h4, by rw [hc]; exact h5⟩, h1, fun q hq => by omega⟩
  | x :: ps, i, h, j + 1, p, hp => by
    obtain ⟨h1, h2, h3, h4, h5, h6⟩ := h
    have hp' : ps[j]? = some p := by simpa using hp
    have r := goodSp_at ps x.2 h6 j p hp'
    refine ⟨r.1, by omega, fun q hq hx => ?_⟩
    cases j with
    | zero =>
      simp at hx
      subst hx
      exact r.2.1
    | succ j => exact r.2.2 q (by omega) (by simpa using hx)

theorem goodSp_bd {es : List Ent} {sh : Bool} {s t : ByteArray} : ∀ (ps : List (Nat × Nat)) (i : Nat), GoodSp es sh (wantT es sh t) (pcS s) (nPc s) i ps → ∀ (j : Nat) (p : Nat × Nat), ps[j]? = some p → p.1 ≤ nPc s
  | [], _, _, j, p, h => by simp at h
  | x :: ps, i, h, 0, p, hp => by
    simp at hp
    subst hp
    obtain ⟨h1, h2, h3, _⟩ := h
    omega
  | x :: ps, i, h, j + 1, p, hp => goodSp_bd ps x.2 h.2.2.2.2.2 j p (by simpa using hp)

theorem chain_nilF {t : ByteArray} (h : Chain t 0 []) : False := by cases h

theorem cut_le {s : ByteArray} {i k : Nat} (hik : i ≤ k) (h : k ≤ nPc s) : cutAt s i ≤ cutAt s k := by
  have hr := (cuts_reach (k - i) i (cutAt s i) (cutAt s k) (cutAt_some (by omega)) (by rw [show i + (k - i) = k by omega]; exact cutAt_some h)).2
  omega

theorem cut_lt {s : ByteArray} {i k : Nat} (hik : i < k) (h : k ≤ nPc s) : cutAt s i < cutAt s k := by
  have hr := (cuts_reach (k - i) i (cutAt s i) (cutAt s k) (cutAt_some (by omega)) (by rw [show i + (k - i) = k by omega]; exact cutAt_some h)).2
  omega

/-- Each span that is found matches and begins where the one ahead of it ends, or behind. -/
theorem found_at {es : List Ent} {sh : Bool} {s t : ByteArray} {j : Nat} {p : Int × Int} (h : (findL es sh s t)[j]? = some p) : SpAt es sh s t p ∧ ∀ q, 0 < j → (findL es sh s t)[j - 1]? = some q → q.2 ≤ p.1 := by
  unfold findL at h ⊢
  rw [List.getElem?_map] at h
  obtain ⟨x, hx, rfl⟩ : ∃ x, (spansF es sh (wantT es sh t) (pcS s) (nPc s) (nPc s + 1) 0)[j]? = some x ∧ spn s x = p := by
    cases c : (spansF es sh (wantT es sh t) (pcS s) (nPc s) (nPc s + 1) 0)[j]? with
    | none => rw [c] at h; simp at h
    | some x => rw [c] at h; exact ⟨x, rfl, by simpa using h⟩
  have G := (spans_good es sh (wantT es sh t) (pcS s) (nPc s) (nPc s + 1) 0).1
  have r := goodSp_at _ 0 G j x hx
  refine ⟨r.1, fun q hj hq => ?_⟩
  rw [List.getElem?_map] at hq
  cases c : (spansF es sh (wantT es sh t) (pcS s) (nPc s) (nPc s + 1) 0)[j - 1]? with
  | none => rw [c] at hq; simp at hq
  | some y =>
    rw [c] at hq
    have e : spn s y = q := by simpa using hq
    have hy := r.2.2 y hj c
    have hxb : x.1 ≤ nPc s := goodSp_bd _ 0 G j x hx
    rw [← e]
    show (cutAt s y.2 : Int) ≤ (cutAt s x.1 : Int)
    have := cut_le hy hxb
    omega

theorem find_len (es : List Ent) (sh : Bool) (s t : ByteArray) : (findL es sh s t).length ≤ s.size := by
  unfold findL
  rw [List.length_map]
  have h1 := (spans_good es sh (wantT es sh t) (pcS s) (nPc s) (nPc s + 1) 0).2
  have h2 := nPc_le (s := s)
  omega

/-- A text with first weights is found in itself, and none without. -/
theorem find_self (es : List Ent) (sh : Bool) (t : ByteArray) : (0 < (findL es sh t t).length) = (0 < (wantT es sh t).length) := by
  apply propext
  constructor
  · intro h
    apply Classical.byContradiction
    intro hn
    have hw : wantT es sh t = [] := List.eq_nil_of_length_eq_zero (by omega)
    unfold findL at h
    rw [hw, spans_empty] at h
    simp at h
  · intro h
    have hw : wantT es sh t ≠ [] := fun e => by rw [e] at h; simp at h
    have hN : 0 < nPc t := by
      apply Classical.byContradiction
      intro hn
      have h0 : nPc t = 0 := by omega
      have hl := cuts_len t
      rw [h0] at hl
      obtain ⟨l, h1, h2, h3⟩ := cuts_head t
      have hs : t.size = 0 := by
        apply Classical.byContradiction
        intro hc
        have hc2 := h3 (by omega)
        rw [h1] at hl
        have hl0 : l = [] := List.eq_nil_of_length_eq_zero (by simpa using hl)
        rw [hl0] at hc2
        exact chain_nilF hc2
      apply hw
      unfold wantT
      have e : rn4 t = [] := by
        unfold rn4
        rw [hs]
        rfl
      rw [e]
      rfl
    have hc := stretch_cat (s := t) (i := 0) (n := nPc t) (by omega) (by omega)
    have h00 : cutAt t 0 = 0 := cutAt_of (cuts_zero t)
    have hlast : cutAt t (nPc t) = t.size := by
      refine cutAt_of ?_
      unfold nPc
      unfold cutsNat
      simp
    rw [Nat.zero_add, h00, hlast] at hc
    have hx : t.extract 0 t.size = t := by simp
    rw [hx] at hc
    have hm : firstsB es sh (catP (pcS t) 0 (nPc t)) = wantT es sh t := by rw [← hc]; rfl
    obtain ⟨k, hk⟩ := matchF_hit hm (nPc t - 0) 1 (by omega) (by omega)
    unfold findL
    rw [List.length_map, spansF_some hN (by rw [if_neg hw, hk])]
    simp

theorem cut_mem {s : ByteArray} {k : Nat} (h : k ≤ nPc s) : (cutAt s k : Int) ∈ cutsL s := List.mem_of_getElem? (cutsL_some h)
end Go.Proofs.YtinjldagfhbioaaGreatDoor

namespace Go.Proofs.YtinjldagfhbioaaGreatDoor

theorem nD_len200 {zs : List Int} (h : okR zs = true) : (nD zs).length ≤ 1800 := by
  have h6 := (okR_true h).1
  have h7 := apD_len zs
  rw [nD_len]; omega

/-- What IsNormalD tells of a list. -/
def isD (zs : List Int) : Bool := okR zs && decide (nD zs = zs)
/-- What SameRunes tells of two. -/
def sameD (zs ys : List Int) : Bool := okR zs && okR ys && decide (nD zs = nD ys)
end Go.Proofs.YtinjldagfhbioaaGreatDoor

namespace Go.Proofs.YtinjldagfhbioaaGreatDoor
open Go.RowKit

def rowsD {H : Type} (rows : List (List Int)) : DataW H := .agg (rows.map fun row => .agg (row.map fun z => .lit (.int .i64 z)))

theorem cells_rows {H : Type} {enc : TypeId × Value → H} {P : Program} {w : World} {base : Nat} {sp : Nat → Bool} {held : Bool} {fuel : Nat} {t e ti : TypeId} {n m : Nat} {fs : Array Field} {cs : List Value} {rows : List (List Int)} {p : List MemPlace}
    (ht : P.underlying t = some (.array n e)) (he : P.underlying e = some (.struct fs)) (hce : P.cellsOf e = m) (hfs : fs.size = m)
    (hf : ∀ (j : Nat) (f : Field), fs[j]? = some f → f.offset = j ∧ f.type = ti) (hti : P.underlying ti = some (.int .i64)) (hci : P.cellsOf ti = 1)
    (h : DataW.trod enc P w base sp held fuel t cs = some (rowsD rows, p)) :
    cs.length = P.cellsOf t ∧ ∀ (i : Nat) (row : List Int) (j : Nat) (z : Int), rows[i]? = some row → row[j]? = some z → cs[i * m + j]? = some (.int .i64 z) := by
  obtain ⟨xs, m1, -, hx, hcl, hxl, hel⟩ := DataW.trod_array ht h
  refine ⟨hcl, ?_⟩
  intro i row j z hi hj
  have hx1 : rows.map (fun row => (DataW.agg (row.map fun z => .lit (.int .i64 z)) : DataW H)) = xs.map (·.1) := by
    have := congrArg Prod.fst hx
    simpa [rowsD] using this
  have h1 : (xs.map (·.1))[i]? = some (DataW.agg (row.map fun z => .lit (.int .i64 z))) := by rw [← hx1]; simp [hi]
  rw [List.getElem?_map, Option.map_eq_some_iff] at h1
  obtain ⟨x, hxi, hx2⟩ := h1
  have hlt := (List.getElem?_eq_some_iff.1 hxi).1
  have h2 := hel i (by omega)
  rw [hxi] at h2
  obtain ⟨ys, n1, -, hy, -, hyl, hfl⟩ := DataW.trod_struct he h2
  have hy1 : row.map (fun z => (DataW.lit (.int .i64 z) : DataW H)) = ys.map (·.1) := by
    have := congrArg Prod.fst hy
    rw [hx2] at this
    simpa using this
  have h3 : (ys.map (·.1))[j]? = some (DataW.lit (.int .i64 z)) := by rw [← hy1]; simp [hj]
  rw [List.getElem?_map, Option.map_eq_some_iff] at h3
  obtain ⟨y, hyj, hy2⟩ := h3
  have hjl := (List.getElem?_eq_some_iff.1 hyj).1
  obtain ⟨f, hfj⟩ : ∃ f, fs[j]? = some f := ⟨fs[j]'(by omega), by simp⟩
  obtain ⟨o1, o2⟩ := hf j f hfj
  have h4 := hfl j f hfj
  rw [hyj, o1, o2, hci] at h4
  obtain ⟨k, e1, e2, _⟩ := DataW.trod_int hti h4
  have e3 : k = z := by rw [e2] at hy2; simpa using hy2
  subst e3
  have := congrArg (·[0]?) e1
  simp only [List.getElem?_take, List.getElem?_drop, hce] at this
  rw [if_pos (by omega), if_pos (by omega)] at this
  simpa using this

/-- The variable's block holds these integers. -/
def Held (w : World) (g : Nat) (zs : List Int) : Prop := ∃ t fr, w.heap[g]? = some (.cells (zs.map (Value.int .i64)).toArray t fr)

theorem Held.lt {w : World} {g : Nat} {zs : List Int} (h : Held w g zs) : g < w.heap.size := by
  obtain ⟨t, fr, h⟩ := h
  exact (Array.getElem?_eq_some_iff.1 h).1

theorem Held.below {w w' : World} {g B : Nat} {zs : List Int} (h : Held w g zs) (hb : Below B w w') (hg : g < B) : Held w' g zs := by
  obtain ⟨t, fr, h⟩ := h
  exact ⟨t, fr, by rw [hb.block g hg]; exact h⟩

theorem Held.drew {w : World} {g : Nat} {zs : List Int} (h : Held w g zs) : Held w.drew g zs := h

theorem held_of_head {P : Program} {W : World} {name : String} {rows : List (List Int)} {flat : List Int} {rest : List (String × DataW Unit)} {g : Nat} {t e ti : TypeId} {n m : Nat} {fs : Array Field}
    (hg : P.globalNamed name = some g) (hty : (P.globals[g]?).map (·.type) = some t) (ht : P.underlying t = some (.array n e)) (he : P.underlying e = some (.struct fs)) (hce : P.cellsOf e = m) (hfs : fs.size = m)
    (hf : ∀ (j : Nat) (f : Field), fs[j]? = some f → f.offset = j ∧ f.type = ti) (hti : P.underlying ti = some (.int .i64)) (hci : P.cellsOf ti = 1)
    (hct : P.cellsOf t = flat.length) (hfl : ∀ i ∈ List.range flat.length, ((rows[i / m]?).bind (·[i % m]?)) = flat[i]?)
    (h : laidMet P ((name, rowsD rows) :: rest) W) : Held W g flat := by
  obtain ⟨ps, ⟨g', t', cs, fuel, p, q, hg', ht', hvar, hd, _, _⟩, _⟩ := h
  obtain rfl := Option.some.inj (hg.symm.trans hg')
  obtain rfl := Option.some.inj (hty.symm.trans ht')
  obtain ⟨hl, h1⟩ := cells_rows ht he hce hfs hf hti hci hd
  have hcs : cs = (flat.map (Value.int .i64)).toArray := by
    apply Array.ext'
    simp only
    apply List.ext_getElem?
    intro i
    by_cases hi : i < flat.length
    · have h2 := hfl i (by simpa using hi)
      rw [List.getElem?_eq_getElem hi] at h2
      obtain ⟨row, hr, hz⟩ := Option.bind_eq_some_iff.1 h2
      have := h1 (i / m) row (i % m) _ hr hz
      rw [show i / m * m + i % m = i by rw [Nat.mul_comm]; exact Nat.div_add_mod i m] at this
      rw [this]; simp [hi]
    · rw [List.getElem?_eq_none (by omega), List.getElem?_eq_none (by simp; omega)]
  unfold World.var? at hvar
  rw [hg] at hvar
  simp only [Option.bind_some] at hvar
  split at hvar
  · rename_i c t fr hb
    cases hvar
    exact ⟨t, fr, by rw [hb, hcs]⟩
  · cases hvar

def marksT : List (List Int) := [[824, 1], [807, 202], [808, 202], [803, 220], [817, 220], [768, 230], [769, 230], [770, 230], [771, 230], [772, 230], [774, 230], [775, 230], [776, 230], [778, 230], [780, 230]]
def marksF : List Int := marksT.flatten

theorem trodVars_len {H : Type} {enc : TypeId × Value → H} {P : Program} {w : World} {sp : Nat → Bool} : ∀ {ns : List String} {gs : List (DataW H)} {ps : List MemPlace}, DataW.TrodVars enc P w sp ns gs ps → gs.length = ns.length
  | [], [], _, _ => rfl
  | [], _ :: _, _, h => h.elim
  | _ :: _, [], _, h => h.elim
  | _ :: _, _ :: _, _, h => by
    obtain ⟨_, _, _, _, _, _, _, _, _, _, hs, _⟩ := h
    simp [trodVars_len hs]

/-- The program's table of capital letters. -/
def capT : List (List Int) := [[192, 65, 768], [193, 65, 769], [194, 65, 770], [195, 65, 771], [196, 65, 776], [197, 65, 778], [199, 67, 807], [200, 69, 768], [201, 69, 769], [202, 69, 770], [203, 69, 776], [204, 73, 768], [205, 73, 769], [206, 73, 770], [207, 73, 776], [209, 78, 771], [210, 79, 768], [211, 79, 769], [212, 79, 770], [213, 79, 771], [214, 79, 776], [217, 85, 768], [218, 85, 769], [219, 85, 770], [220, 85, 776], [221, 89, 769]]
def capF : List Int := capT.flatten
def othT : List (List Int) := [[255, 121, 776], [7844, 194, 769], [7845, 226, 769], [7779, 115, 803], [7785, 7779, 775]]
def othF : List Int := othT.flatten

theorem gMarks : Tryz.prog.globalNamed "loop.example/g00158/impl.marks" = some 0 := by kernel_rfl
theorem tMarks : (Tryz.prog.globals[0]?).map (·.type) = some 120 := by kernel_rfl
theorem gCap : Tryz.prog.globalNamed "loop.example/g00158/impl.capitalPairs" = some 1 := by kernel_rfl
theorem tCap : (Tryz.prog.globals[1]?).map (·.type) = some 157 := by kernel_rfl
theorem gOth : Tryz.prog.globalNamed "loop.example/g00158/impl.otherPairs" = some 2 := by kernel_rfl
theorem tOth : (Tryz.prog.globals[2]?).map (·.type) = some 159 := by kernel_rfl

theorem marks_held {W : World} {rest : List (String × DataW Unit)} (h : laidMet Tryz.prog (("loop.example/g00158/impl.marks", Rows.laid_loop_example_g00158_impl_marks) :: rest) W) : Held W 0 marksF :=
  held_of_head (rows := marksT) (m := 2) (ti := 3) gMarks tMarks Tryz.underlying120 Tryz.underlying119 (by kernel_rfl) rfl
    (by intro j f h; rcases j with _ | _ | j <;> simp at h <;> (subst h; exact ⟨rfl, rfl⟩)) Tryz.underlying3 (by kernel_rfl) (by kernel_rfl) (by decide) h
theorem cap_held {W : World} {rest : List (String × DataW Unit)} (h : laidMet Tryz.prog (("loop.example/g00158/impl.capitalPairs", Rows.laid_loop_example_g00158_impl_capitalPairs) :: rest) W) : Held W 1 capF :=
  held_of_head (rows := capT) (m := 3) (ti := 3) gCap tCap Tryz.underlying157 Tryz.underlying151 (by kernel_rfl) rfl
    (by intro j f h; rcases j with _ | _ | _ | j <;> simp at h <;> (subst h; exact ⟨rfl, rfl⟩)) Tryz.underlying3 (by kernel_rfl) (by kernel_rfl) (by decide) h
theorem oth_held {W : World} {rest : List (String × DataW Unit)} (h : laidMet Tryz.prog (("loop.example/g00158/impl.otherPairs", Rows.laid_loop_example_g00158_impl_otherPairs) :: rest) W) : Held W 2 othF :=
  held_of_head (rows := othT) (m := 3) (ti := 3) gOth tOth Tryz.underlying159 Tryz.underlying151 (by kernel_rfl) rfl
    (by intro j f h; rcases j with _ | _ | _ | j <;> simp at h <;> (subst h; exact ⟨rfl, rfl⟩)) Tryz.underlying3 (by kernel_rfl) (by kernel_rfl) (by decide) h
end Go.Proofs.YtinjldagfhbioaaGreatDoor

namespace Go.Proofs.YtinjldagfhbioaaGreatDoor
open Go.RowKit

def capA : Array Value := (capF.map (Value.int .i64)).toArray
def othA : Array Value := (othF.map (Value.int .i64)).toArray

/-- A pair as a value. -/
def pv (t : List Int) : Value := .agg #[.int .i64 (at0 t 0), .int .i64 (at0 t 1), .int .i64 (at0 t 2)]

theorem cap_index (k : Nat) (hk : k < 26) (w : World) : (Instr.index 157 (.agg capA) (.int .i64 k)).run Tryz.prog w = .ok (.agg #[.int .i64 (at0 (capT.getD k []) 0), .int .i64 (at0 (capT.getD k []) 1), .int .i64 (at0 (capT.getD k []) 2)]) w := by
  iterate 26 (rcases k with _ | k; · kernel_rfl)
  omega

theorem oth_index (k : Nat) (hk : k < 5) (w : World) : (Instr.index 159 (.agg othA) (.int .i64 k)).run Tryz.prog w = .ok (.agg #[.int .i64 (at0 (othT.getD k []) 0), .int .i64 (at0 (othT.getD k []) 1), .int .i64 (at0 (othT.getD k []) 2)]) w := by
  iterate 5 (rcases k with _ | k; · kernel_rfl)
  omega

theorem tabI_cap : ∀ k ∈ List.range 26, tabI[2 * k]? = some [at0 (capT.getD k []) 0, at0 (capT.getD k []) 1, at0 (capT.getD k []) 2] ∧ tabI[2 * k + 1]? = some [at0 (capT.getD k []) 0 + 32, at0 (capT.getD k []) 1 + 32, at0 (capT.getD k []) 2] := by decide +kernel
theorem tabI_oth : ∀ k ∈ List.range 5, tabI[52 + k]? = some [at0 (othT.getD k []) 0, at0 (othT.getD k []) 1, at0 (othT.getD k []) 2] := by decide +kernel
theorem cap_bound : ∀ k ∈ List.range 26, (0 ≤ at0 (capT.getD k []) 0 ∧ at0 (capT.getD k []) 0 ≤ 300) ∧ 0 ≤ at0 (capT.getD k []) 1 ∧ at0 (capT.getD k []) 1 ≤ 300 := by decide +kernel
theorem tabI_len : tabI.length = 57 := by decide +kernel

/-- No row ahead of place k is the one looked for. -/
def NoneI (p : List Int → Bool) (k : Nat) : Prop := ∀ j t, j < k → tabI[j]? = some t → p t = false

theorem NoneI.succ {p : List Int → Bool} {k : Nat} {t : List Int} (h : NoneI p k) (ht : tabI[k]? = some t) (hp : p t = false) : NoneI p (k + 1) := by
  intro j u hj hu
  by_cases e : j = k
  · subst e; rw [ht] at hu; cases hu; exact hp
  · exact h j u (by omega) hu

theorem findI_at {p : List Int → Bool} {k : Nat} {t : List Int} (h : NoneI p k) (ht : tabI[k]? = some t) (hp : p t = true) : tabI.find? p = some t := by
  rw [List.find?_eq_some_iff_getElem]
  obtain ⟨hk, e⟩ := List.getElem?_eq_some_iff.1 ht
  refine ⟨hp, k, hk, e, fun j hj => ?_⟩
  have := h j tabI[j] hj (List.getElem?_eq_getElem (by omega))
  simpa using this

theorem findI_no {p : List Int → Bool} {k : Nat} (h : NoneI p k) (hk : 57 ≤ k) : tabI.find? p = none := by
  rw [List.find?_eq_none]
  intro t ht
  obtain ⟨j, hj⟩ := List.mem_iff_getElem?.1 ht
  have h1 := (List.getElem?_eq_some_iff.1 hj).1
  have h2 := tabI_len
  simpa using h j t (by omega) hj

set_option maxRecDepth 100000 in
set_option maxHeartbeats 1000000 in
theorem small_any (w : World) (a b c : Int) (ha : 0 ≤ a ∧ a ≤ 300) (hb : 0 ≤ b ∧ b ≤ 300) :
    Calls Tryz.prog 112 #[.agg #[.int .i64 a, .int .i64 b, .int .i64 c]] w fun e w' => e = .returned (.agg #[.int .i64 (a + 32), .int .i64 (b + 32), .int .i64 c]) ∧ Below w.heap.size w w' := by
  have hw1 : IntKind.i64.wrap (a + 32) = a + 32 := by rw [IntKind.wrap_i64]; omega
  have hw2 : IntKind.i64.wrap (b + 32) = b + 32 := by rw [IntKind.wrap_i64]; omega
  go_enter Tryz.func112, Tryz.ntmps112
  go_wp2
  refine bodyPost_ret (v := .agg #[.int .i64 (a + 32), .int .i64 (b + 32), .int .i64 c]) ?_ rfl ⟨rfl, ((Below.refl _ _).alloc (Nat.le_refl _) _).alloc (by simp) _⟩
  exact results_cell_row rfl _ _ (w.heap.size + 1) 151 _ (0, 0) _ rfl (heap_alloc2_new _ _ _) Tryz.underlying151 rfl (by kernel_rfl)

def pairRes (o : Option (List Int)) : Value := .tuple #[pv (o.getD []), .bool o.isSome]

theorem ret_p {o : Option (List Int)} {a b c : Int} (h : o = some [a, b, c]) : Ending.returned (.tuple #[.agg #[.int .i64 a, .int .i64 b, .int .i64 c], .bool true]) = .returned (pairRes o) := by rw [h]; rfl
theorem ret_p0 {o : Option (List Int)} (h : o = none) : Ending.returned (.tuple #[.agg #[.int .i64 0, .int .i64 0, .int .i64 0], .bool false]) = .returned (pairRes o) := by rw [h]; rfl

/-- The block of the result stands, still zero. -/
def Res0 (w wr : World) : Prop := wr.heap[w.heap.size]? = some (.cells #[.int .i64 0, .int .i64 0, .int .i64 0] 151)

theorem Res0.facts {w wr : World} (h : Res0 w wr) : w.heap.size < wr.heap.size ∧ wr.cell? ⟨w.heap.size, 0, none⟩ = some (.int .i64 0) ∧ wr.cell? ⟨w.heap.size, 1, none⟩ = some (.int .i64 0) ∧ wr.cell? ⟨w.heap.size, 2, none⟩ = some (.int .i64 0) ∧ ∀ j, wr.frozen? ⟨w.heap.size, j, none⟩ = false :=
  ⟨(Array.getElem?_eq_some_iff.1 h).1, by simp [World.cell?, show wr.heap[w.heap.size]? = _ from h], by simp [World.cell?, show wr.heap[w.heap.size]? = _ from h], by simp [World.cell?, show wr.heap[w.heap.size]? = _ from h], fun j => by simp [World.frozen?, show wr.heap[w.heap.size]? = _ from h]⟩

theorem Res0.alloc {w wr : World} (h : Res0 w wr) (o : Obj) : Res0 w (wr.alloc o) := by
  unfold Res0
  rw [Below.heap_alloc _ _ _ h.facts.1]; exact h

theorem Res0.below {w wr w' : World} (h : Res0 w wr) {B : Nat} (hb : Below B wr w') (hB : wr.heap.size ≤ B) : Res0 w w' := by
  unfold Res0
  rw [hb.block _ (Nat.lt_of_lt_of_le h.facts.1 hB)]; exact h

theorem below_res {w wr : World} (h : Below w.heap.size w wr) (x y z : Value) : Below w.heap.size w (((wr.setCell ⟨w.heap.size, 0, none⟩ x).setCell ⟨w.heap.size, 1, none⟩ y).setCell ⟨w.heap.size, 2, none⟩ z) :=
  ((h.setCell (Nat.le_refl _) _).setCell (Nat.le_refl _) _).setCell (Nat.le_refl _) _

def PRel (n : Nat) (w : World) (p : List Int → Bool) (m o : Nat) (i : Value) (wr : World) : Prop :=
  ∃ k : Nat, k ≤ n ∧ i = .int .i64 k ∧ NoneI p (o + m * k) ∧ Below w.heap.size w wr ∧ Res0 w wr

set_option maxRecDepth 100000 in
set_option maxHeartbeats 2000000 in
theorem implPair_any (r : Int) (w : World) (hc : Held w 1 capF) (ho : Held w 2 othF) :
    Calls Tryz.prog 107 #[.int .i64 r] w fun e w' => e = .returned (pairRes (tabI.find? (fun t => at0 t 0 == r))) ∧ Below w.heap.size w w' := by
  obtain ⟨t, fr, hh0⟩ := hc
  have hlt1 := ho.lt
  have HO : Hid (Held w 2 othF) := ho
  have hh : (w.alloc (.cells #[.int .i64 0, .int .i64 0, .int .i64 0] 151)).heap[1]? = some (.cells capA t fr) := by
    rw [Below.heap_alloc _ _ _ ((Array.getElem?_eq_some_iff.1 hh0).1)]; exact hh0
  clear hh0 ho
  go_enter Tryz.func107, Tryz.ntmps107
  go_wp2_with (refine wpList_load_row rfl 157 (.global 1) rfl 1 rfl t capA fr _ hh Tryz.underlying157 rfl (by kernel_rfl) ?_)
  clear hh
  go_loopw [10] (fun i wr => PRel 26 w (fun t => at0 t 0 == r) 2 0 i wr) (fun i _ => 26 - (intOf i).toNat)
  case atStart => exact ⟨0, Nat.zero_le _, rfl, fun j t hj => by omega, (Below.refl _ _).alloc (Nat.le_refl _) _, heap_alloc_new w _⟩
  case round =>
    obtain ⟨k, hk, rfl, HN0, hb, hres⟩ := hrel
    have HN : Hid (NoneI (fun t => at0 t 0 == r) (0 + 2 * k)) := HN0
    clear HN0
    obtain ⟨hn0, c0, c1, c2, f0⟩ := hres.facts
    by_cases hlt : k < 26
    · have hi := fun w => cap_index k hlt w
      have HT := tabI_cap k (by simpa using hlt)
      obtain ⟨b1, b2⟩ := cap_bound k (by simpa using hlt)
      generalize at0 (capT.getD k []) 0 = a at *
      generalize at0 (capT.getD k []) 1 = b at *
      generalize at0 (capT.getD k []) 2 = c at *
      have hk8 : (k : Int) < 26 := by omega
      by_cases e : a = r
      · subst e
        have HF : Hid (tabI.find? (fun t => at0 t 0 == a) = some [a, b, c]) := findI_at HN.out (by rw [Nat.zero_add]; exact HT.1) (by simp [at0])
        clear HN HT hres
        go_wp2
        (try simp only [Exit.inBlock, Exit.then])
        refine bodyPost_ret (v := .tuple #[.agg #[.int .i64 a, .int .i64 b, .int .i64 c], .bool true]) ?_ rfl ⟨ret_p HF.out, (below_res hb _ _ _).alloc (below_res hb _ _ _).size _⟩
        rw [results_cell_tmp rfl]
        go_simp
      · have e2 : (a == r) = false := by simpa using e
        have SM := fun w => small_any w a b c b1 b2
        have HN1 := HN.out.succ (t := [a, b, c]) (by rw [Nat.zero_add]; exact HT.1) (by simpa [at0] using e)
        have HT2 := HT.2
        clear HN HT e c0 c1 c2 f0
        go_wp2_with fail
        refine (SM _).mono ?_
        rintro e w1 ⟨rfl, hb1⟩
        have hres1 := (hres.alloc (.cells #[.int .i64 a, .int .i64 b, .int .i64 c] 151)).below hb1 (Nat.le_refl _)
        have hbb : Below w.heap.size w w1 := (hb.alloc hb.size _).trans (hb1.mono (hb.alloc hb.size _).size)
        obtain ⟨hn1, c0, c1, c2, f0⟩ := hres1.facts
        clear SM hb1 hb hres hn0
        by_cases e : a + 32 = r
        · have HF : Hid (tabI.find? (fun t => at0 t 0 == r) = some [a + 32, b + 32, c]) := findI_at HN1 (by rw [Nat.zero_add]; exact HT2) (by simp [at0, e])
          clear HN1 HT2 hres1
          have e3 : (a + 32 == r) = true := by simpa using e
          clear e
          go_wp2
          (try simp only [Exit.inBlock, Exit.then])
          refine bodyPost_ret (v := .tuple #[.agg #[.int .i64 (a + 32), .int .i64 (b + 32), .int .i64 c], .bool true]) ?_ rfl ⟨ret_p HF.out, (below_res hbb _ _ _).alloc (below_res hbb _ _ _).size _⟩
          rw [results_cell_tmp rfl]
          go_simp
        · have e3 : (a + 32 == r) = false := by simpa using e
          have HN2 := HN1.succ (t := [a + 32, b + 32, c]) (by rw [Nat.zero_add]; exact HT2) (by simpa [at0] using e)
          have HP : Hid (PRel 26 w (fun t => at0 t 0 == r) 2 0 (.int .i64 ((k : Int) + 1)) (w1.alloc (.cells #[.int .i64 (a + 32), .int .i64 (b + 32), .int .i64 c] 151))) :=
            ⟨k + 1, by omega, by go_num, by rw [show 0 + 2 * (k + 1) = 0 + 2 * k + 1 + 1 by omega]; exact HN2, hbb.alloc hbb.size _, hres1.alloc _⟩
          clear HN1 HT2 hres1 HN2 e
          go_wp2
          exact ⟨HP.out, by simp [intOf]; omega⟩
    · have hk26 : k = 26 := by omega
      subst hk26
      obtain ⟨t2, fr2, hh0⟩ := HO.out.below hb hlt1
      have hh : wr.heap[2]? = some (.cells othA t2 fr2) := hh0
      clear hh0 HO c0 c1 c2 f0
      go_wp2_with (refine wpList_load_row rfl 159 (.global 2) rfl 2 rfl t2 othA fr2 _ hh Tryz.underlying159 rfl (by kernel_rfl) ?_)
      clear hh
      go_loopw [27] (fun i wr => PRel 5 w (fun t => at0 t 0 == r) 1 52 i wr) (fun i _ => 5 - (intOf i).toNat)
      case atStart => exact ⟨0, Nat.zero_le _, rfl, HN.out, hb, hres⟩
      case round =>
        clear hb hres hn0 HN
        obtain ⟨k, hk, rfl, HN0, hb, hres⟩ := hrel
        have HN : Hid (NoneI (fun t => at0 t 0 == r) (52 + 1 * k)) := HN0
        clear HN0
        obtain ⟨hn0, c0, c1, c2, f0⟩ := hres.facts
        by_cases hlt : k < 5
        · have hi := fun w => oth_index k hlt w
          have HT := tabI_oth k (by simpa using hlt)
          generalize at0 (othT.getD k []) 0 = a at *
          generalize at0 (othT.getD k []) 1 = b at *
          generalize at0 (othT.getD k []) 2 = c at *
          have hk8 : (k : Int) < 5 := by omega
          by_cases e : a = r
          · subst e
            have HF : Hid (tabI.find? (fun t => at0 t 0 == a) = some [a, b, c]) := findI_at HN.out (by rw [Nat.one_mul]; exact HT) (by simp [at0])
            clear HN HT hres
            go_wp2
            (try simp only [Exit.inBlock, Exit.then])
            refine bodyPost_ret (v := .tuple #[.agg #[.int .i64 a, .int .i64 b, .int .i64 c], .bool true]) ?_ rfl ⟨ret_p HF.out, (below_res hb _ _ _).alloc (below_res hb _ _ _).size _⟩
            rw [results_cell_tmp rfl]
            go_simp
          · have e2 : (a == r) = false := by simpa using e
            have HN1 := HN.out.succ (t := [a, b, c]) (by rw [Nat.one_mul]; exact HT) (by simpa [at0] using e)
            have HP : Hid (PRel 5 w (fun t => at0 t 0 == r) 1 52 (.int .i64 ((k : Int) + 1)) (wr.alloc (.cells #[.int .i64 a, .int .i64 b, .int .i64 c] 151))) :=
              ⟨k + 1, by omega, by go_num, by rw [show 52 + 1 * (k + 1) = 52 + 1 * k + 1 by omega]; exact HN1, hb.alloc hb.size _, hres.alloc _⟩
            clear HN HT e HN1 hres
            go_wp2
            exact ⟨HP.out, by simp [intOf]; omega⟩
        · have HF : Hid (tabI.find? (fun t => at0 t 0 == r) = none) := findI_no HN.out (by omega)
          clear HN hres
          go_wp2
          (try simp only [Exit.inBlock, Exit.then])
          refine bodyPost_ret (v := .tuple #[.agg #[.int .i64 0, .int .i64 0, .int .i64 0], .bool false]) ?_ rfl ⟨ret_p0 HF.out, ?_⟩
          · rw [results_cell_tmp rfl]
            go_simp
          · first | exact below_res hb _ _ _ | exact hb
end Go.Proofs.YtinjldagfhbioaaGreatDoor

namespace Go.Proofs.YtinjldagfhbioaaGreatDoor
open Go.RowKit

theorem lit_ints2 (w : World) (o : Obj) (zs : List Int) (n B : Nat) (hn : zs.length = n) (hz : n ≤ maxLen) (cs : Array Value) (hcs : cs = (zs.map (Value.int .i64)).toArray) (hB : B ≤ w.heap.size) : Ints ((w.alloc o).alloc (.cells cs 3)) B (.slice (some ⟨w.heap.size + 1, 0, none⟩) n n) zs := by
  subst hn
  exact ints_block zs hcs (heap_alloc2_new w o _) (by omega) hz

set_option maxRecDepth 100000 in
set_option maxHeartbeats 2000000 in
theorem sylApart_any (w : World) (r : Int) (h1 : 44032 ≤ r) (h2 : r ≤ 55203) :
    Calls Tryz.prog 106 #[.int .i64 (r - 44032)] w fun e w' => ∃ v, e = .returned v ∧ Ints w' w.heap.size v (apart r) ∧ Below w.heap.size w w' := by
  have ha := syl_apart h1 h2
  obtain ⟨s, hs⟩ : ∃ s, r - 44032 = s := ⟨_, rfl⟩
  have h0 : 0 ≤ s := by omega
  have h3 : s ≤ 11171 := by omega
  rw [hs] at ha ⊢
  by_cases c : 0 < s % 28
  · have HA : Hid (apart r = [4352 + s / 588, 4449 + s % 588 / 28, 4519 + s % 28]) := by show _ = _; rw [ha, if_pos c]; rfl
    have c2 : (s % 28 == 0) = false := by simp; omega
    clear ha hs
    go_enter Tryz.func106, Tryz.ntmps106
    go_wp2
    go_ret
    rw [HA.out]
    exact ⟨_, rfl, lit_ints w _ 3 rfl (by unfold maxLen; omega) _ rfl, (Below.refl _ _).alloc (Nat.le_refl _) _⟩
  · have HA : Hid (apart r = [4352 + s / 588, 4449 + s % 588 / 28]) := by show _ = _; rw [ha, if_neg c]; rfl
    have c2 : (s % 28 == 0) = true := by simp; omega
    clear ha hs
    go_enter Tryz.func106, Tryz.ntmps106
    go_wp2
    go_ret
    rw [HA.out]
    exact ⟨_, rfl, lit_ints w _ 2 rfl (by unfold maxLen; omega) _ rfl, (Below.refl _ _).alloc (Nat.le_refl _) _⟩

/-- What the program's ApartOf answers: nothing of what is no rune. -/
def apartG (r : Int) : List Int := if goodB r = true then apart r else []

set_option maxRecDepth 100000 in
set_option maxHeartbeats 2000000 in
theorem implApart_any (r : Int) (w : World) (hc : Held w 1 capF) (ho : Held w 2 othF) :
    Calls Tryz.prog 101 #[.int .i64 r] w fun e w' => ∃ v, e = .returned v ∧ Ints w' w.heap.size v (apartG r) ∧ Below w.heap.size w w' := by
  unfold apartG
  cases hg : goodB r
  · have P := fun w => implGood_no r hg w
    rw [if_neg (by simp)]
    clear hg
    go_enter Tryz.func101, Tryz.ntmps101
    go_wp2_with (go_at_call 100; refine (P _).mono ?_; rintro e w1 ⟨rfl, rfl⟩)
    go_ret
    exact ⟨_, rfl, ⟨rfl, .inl ⟨rfl, rfl⟩⟩, Below.refl _ _⟩
  · have P := fun w => implGood_yes r hg w
    rw [if_pos rfl]
    have hgr := goodB_true hg
    clear hg
    by_cases e1 : r = 8491
    · subst e1
      have ha : apart 8491 = [197] := by decide
      rw [ha]
      go_enter Tryz.func101, Tryz.ntmps101
      go_wp2_with (go_at_call 100; refine (P _).mono ?_; rintro e w1 ⟨rfl, rfl⟩)
      go_ret
      exact ⟨_, rfl, lit_ints _ [197] 1 rfl (by unfold maxLen; omega) _ rfl, (Below.refl _ _).alloc (Nat.le_refl _) _⟩
    · have e1' : (r == 8491) = false := by simpa using e1
      by_cases e2 : 44032 ≤ r ∧ r ≤ 55203
      · obtain ⟨s1, s2⟩ := e2
        have SA := fun w => sylApart_any w r s1 s2
        clear hc ho hgr e1
        go_enter Tryz.func101, Tryz.ntmps101
        go_wp2_with fail
        refine (P _).mono ?_
        rintro e w1 ⟨rfl, rfl⟩
        go_wp2_with fail
        refine (SA _).mono ?_
        rintro e w2 ⟨v, rfl, hI, hb⟩
        go_wp2
        go_ret
        exact ⟨_, rfl, hI, hb⟩
      · have PR := fun w hc ho => implPair_any r w hc ho
        have HA : Hid (apart r = match tabI.find? (fun t => at0 t 0 == r) with | some t => [at0 t 1, at0 t 2] | none => [r]) := by
          show _ = _
          rw [tabI_whole]; unfold apart; rw [if_neg e1, if_neg e2]; rfl
        have e3 : (decide (44032 ≤ r) && decide (r ≤ 55203)) = false := by
          cases h : (decide (44032 ≤ r) && decide (r ≤ 55203)) with
          | false => rfl
          | true => simp at h; exact absurd h e2
        generalize tabI.find? (fun t => at0 t 0 == r) = o at *
        have fin : ∀ {w1 : World}, Held w1 1 capF → Held w1 2 othF → Hid (Calls Tryz.prog 107 #[.int .i64 r] w1 fun e w' => e = .returned (pairRes o) ∧ Below w1.heap.size w1 w') := fun a b => PR _ a b
        clear PR e1 hgr
        by_cases q : 44032 ≤ r
        · have q2 : ¬ r ≤ 55203 := fun h => e2 ⟨q, h⟩
          clear e2 e3
          go_enter Tryz.func101, Tryz.ntmps101
          go_wp2_with fail
          refine (P _).mono ?_
          rintro e w1 ⟨rfl, rfl⟩
          go_wp2_with fail
          refine ((fin hc ho).out).mono ?_
          rintro e w2 ⟨rfl, hb⟩
          cases o with
          | none =>
            simp only [pairRes, pv, Option.getD, Option.isSome]
            go_wp2
            go_ret
            rw [HA.out]
            exact ⟨_, rfl, lit_ints2 _ _ [r] 1 _ rfl (by unfold maxLen; omega) _ rfl hb.size, ((hb.alloc hb.size _).alloc (hb.alloc hb.size _).size _)⟩
          | some t =>
            simp only [pairRes, pv, Option.getD, Option.isSome]
            go_wp2
            go_ret
            rw [HA.out]
            exact ⟨_, rfl, lit_ints2 _ _ [at0 t 1, at0 t 2] 2 _ rfl (by unfold maxLen; omega) _ rfl hb.size, ((hb.alloc hb.size _).alloc (hb.alloc hb.size _).size _)⟩
        · clear e2 e3
          go_enter Tryz.func101, Tryz.ntmps101
          go_wp2_with fail
          refine (P _).mono ?_
          rintro e w1 ⟨rfl, rfl⟩
          go_wp2_with fail
          refine ((fin hc ho).out).mono ?_
          rintro e w2 ⟨rfl, hb⟩
          cases o with
          | none =>
            simp only [pairRes, pv, Option.getD, Option.isSome]
            go_wp2
            go_ret
            rw [HA.out]
            exact ⟨_, rfl, lit_ints2 _ _ [r] 1 _ rfl (by unfold maxLen; omega) _ rfl hb.size, ((hb.alloc hb.size _).alloc (hb.alloc hb.size _).size _)⟩
          | some t =>
            simp only [pairRes, pv, Option.getD, Option.isSome]
            go_wp2
            go_ret
            rw [HA.out]
            exact ⟨_, rfl, lit_ints2 _ _ [at0 t 1, at0 t 2] 2 _ rfl (by unfold maxLen; omega) _ rfl hb.size, ((hb.alloc hb.size _).alloc (hb.alloc hb.size _).size _)⟩
end Go.Proofs.YtinjldagfhbioaaGreatDoor
