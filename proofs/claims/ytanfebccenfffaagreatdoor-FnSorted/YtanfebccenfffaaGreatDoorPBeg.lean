/- Of how many weights two lists begin alike; whether one begins with the other, without memory. -/
import Derived.Test.YtanfebccenfffaaGreatDoorOkE
import Derived.Test.YtanfebccenfffaaGreatDoorFlt
namespace Go.Proofs.YtanfebccenfffaaGreatDoor

def alike : List Int → List Int → Nat
  | x :: xs, y :: ys => if x = y then alike xs ys + 1 else 0
  | _, _ => 0

theorem alike_at : ∀ (a b : List Int) (k : Nat) (x y : Int), (∀ j, j < k → a[j]? = b[j]?) → a[k]? = some x → b[k]? = some y → x ≠ y → alike a b = k
  | [], _, k, _, _, _, h, _, _ => by simp at h
  | _ :: _, [], k, _, _, _, _, h, _ => by simp at h
  | p :: a, q :: b, 0, x, y, _, hx, hy, hne => by
    simp at hx hy
    subst hx
    subst hy
    unfold alike
    rw [if_neg hne]
  | p :: a, q :: b, k + 1, x, y, hj, hx, hy, hne => by
    have h0 := hj 0 (by omega)
    simp at h0
    subst h0
    unfold alike
    rw [if_pos rfl, alike_at a b k x y (fun j h => by have := hj (j + 1) (by omega); simpa using this) (by simpa using hx) (by simpa using hy) hne]

theorem alike_all : ∀ (a b : List Int), (∀ j, j < min a.length b.length → a[j]? = b[j]?) → alike a b = min a.length b.length
  | [], b, _ => by simp [alike]
  | _ :: _, [], _ => by simp [alike]
  | p :: a, q :: b, hj => by
    have h0 := hj 0 (by simp)
    simp at h0
    subst h0
    have := alike_all a b (fun j h => by have := hj (j + 1) (by simp; omega); simpa using this)
    unfold alike
    rw [if_pos rfl, this]
    simp

theorem alike_le : ∀ (a b : List Int), alike a b ≤ b.length
  | [], _ => by simp [alike]
  | _ :: _, [] => by simp [alike]
  | p :: a, q :: b => by
    have := alike_le a b
    unfold alike
    split <;> simp <;> omega

/-- Whether a begins with b. -/
def begL (a b : List Int) : Bool := decide (b.length ≤ a.length) && decide (a.take b.length = b)

theorem begL_alike : ∀ (a b : List Int), begL a b = decide (alike a b = b.length)
  | a, [] => by cases a <;> simp [begL, alike]
  | [], q :: b => by simp [begL, alike]
  | p :: a, q :: b => by
    have ih := begL_alike a b
    unfold begL at ih ⊢
    unfold alike
    by_cases h : p = q
    · subst h
      rw [if_pos rfl]
      simpa using ih
    · rw [if_neg h]
      simp [h]

theorem begL_self (a : List Int) : begL a a = true := by simp [begL]

def begT (es : List Ent) (sh : Bool) (lv : Int) (x y : ByteArray) : Bool := if (okE es lv x && okE es lv y) = true then begL (firsT es sh lv x) (firsT es sh lv y) else false

theorem near_neq {x y : Int} (hx : 1 ≤ x ∧ x ≤ 65535) (hy : 1 ≤ y ∧ y ≤ 65535) : (Ieee.double.order (FloatKind.nearest .f64 x) (FloatKind.nearest .f64 y) == some .eq) = decide (x = y) := by
  obtain ⟨a, rfl⟩ : ∃ a : Nat, x = (a : Int) := ⟨x.toNat, by omega⟩
  obtain ⟨b, rfl⟩ : ∃ b : Nat, y = (b : Int) := ⟨y.toNat, by omega⟩
  rw [order_pos (by omega) (by omega) (by omega) (by omega)]
  by_cases h : a = b
  · subst h; simp
  · rw [decide_eq_false h, decide_eq_false (by omega)]
end Go.Proofs.YtanfebccenfffaaGreatDoor
