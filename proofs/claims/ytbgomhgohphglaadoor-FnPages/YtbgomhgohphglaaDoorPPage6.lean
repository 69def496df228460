/- The bytes of a page, without memory. -/
import Derived.Test.YtbgomhgohphglaaDoorPGood6
namespace Go.Proofs.YtbgomhgohphglaaDoor

/-- Of how many bytes two texts begin alike. -/
def shL : List UInt8 → List UInt8 → Nat
  | a :: x, b :: y => if a = b then shL x y + 1 else 0
  | _, _ => 0

def shB (a k : ByteArray) : Nat := shL a.data.toList k.data.toList

theorem shL_le1 : ∀ (x y : List UInt8), shL x y ≤ x.length
  | [], y => by cases y <;> simp [shL]
  | a :: x, [] => by simp [shL]
  | a :: x, b :: y => by
    unfold shL
    split
    · have := shL_le1 x y
      simp; omega
    · simp

theorem shL_le2 : ∀ (x y : List UInt8), shL x y ≤ y.length
  | [], y => by cases y <;> simp [shL]
  | a :: x, [] => by simp [shL]
  | a :: x, b :: y => by
    unfold shL
    split
    · have := shL_le2 x y
      simp; omega
    · simp

theorem shB_le1 (a k : ByteArray) : shB a k ≤ a.size := by
  have := shL_le1 a.data.toList k.data.toList
  rw [Array.length_toList] at this
  exact this
theorem shB_le2 (a k : ByteArray) : shB a k ≤ k.size := by
  have := shL_le2 a.data.toList k.data.toList
  rw [Array.length_toList] at this
  exact this

theorem shL_end1 (x y : List UInt8) (h : x = []) : shL x y = 0 := by subst h; cases y <;> rfl
theorem shL_end2 (x y : List UInt8) (h : y = []) : shL x y = 0 := by subst h; cases x <;> rfl

/-- The byte of a text at a place. -/
def bAt (s : ByteArray) (n : Nat) : UInt8 := s.data.toList.getD n 0

theorem bAt_drop {s : ByteArray} {n : Nat} (h : n < s.size) : s.data.toList.drop n = bAt s n :: s.data.toList.drop (n + 1) := by
  have h' : n < s.data.toList.length := by rw [Array.length_toList]; exact h
  rw [List.drop_eq_getElem_cons h', bAt, List.getD, List.getElem?_eq_getElem h']
  rfl

theorem drop_end {s : ByteArray} {n : Nat} (h : ¬ n < s.size) : s.data.toList.drop n = [] := by
  apply List.drop_eq_nil_of_le
  rw [Array.length_toList]
  exact Nat.le_of_not_lt h

/-- The numbers of the bytes of a text. -/
def bI (s : ByteArray) : List Int := s.data.toList.map fun b => (b.toNat : Int)

theorem bI_len (s : ByteArray) : (bI s).length = s.size := by
  unfold bI
  rw [List.length_map, Array.length_toList]
  rfl

theorem bI_append (a b : ByteArray) : bI (a ++ b) = bI a ++ bI b := by
  unfold bI
  rw [← List.map_append]
  congr 1

/-- The text of numbers that are bytes. -/
def byT (bs : List Int) : ByteArray := ⟨(bs.map fun x => x.toNat.toUInt8).toArray⟩

theorem byT_size (bs : List Int) : (byT bs).size = bs.length := by
  show (byT bs).data.size = _
  simp [byT]

theorem byT_bI (s : ByteArray) : byT (bI s) = s := by
  unfold byT bI
  rw [List.map_map]
  have : ((fun x : Int => x.toNat.toUInt8) ∘ fun b : UInt8 => (b.toNat : Int)) = id := by
    funext b
    simp
  rw [this, List.map_id]

/-- The bytes of a row in a page, behind one with key p. -/
def rowI (p : ByteArray) (x : Rw) : List Int :=
  [(shB p x.key : Int), (x.key.size : Int) - (shB p x.key : Int), (x.text.size : Int), (x.val.size : Int)] ++ bI (x.key.extract (shB p x.key) x.key.size) ++ bI x.text ++ bI x.val

def rowsI : ByteArray → List Rw → List Int
  | _, [] => []
  | p, x :: l => rowI p x ++ rowsI x.key l

def lastK : ByteArray → List Rw → ByteArray
  | p, [] => p
  | _, x :: l => lastK x.key l

/-- The bytes of a page. -/
def pageI (l : List Rw) : List Int := [80, 71, (l.length : Int)] ++ rowsI ⟨#[]⟩ l

theorem rowsI_snoc : ∀ (p : ByteArray) (l : List Rw) (x : Rw), rowsI p (l ++ [x]) = rowsI p l ++ rowI (lastK p l) x
  | p, [], x => by simp [rowsI, lastK]
  | p, y :: l, x => by
    show rowI p y ++ rowsI y.key (l ++ [x]) = rowI p y ++ rowsI y.key l ++ rowI (lastK y.key l) x
    rw [rowsI_snoc y.key l x, List.append_assoc]

theorem lastK_snoc : ∀ (p : ByteArray) (l : List Rw) (x : Rw), lastK p (l ++ [x]) = x.key
  | _, [], _ => rfl
  | _, y :: l, x => lastK_snoc y.key l x

theorem rowsI_take {l : List Rw} {k : Nat} {x : Rw} (p : ByteArray) (h : l[k]? = some x) : rowsI p (l.take (k + 1)) = rowsI p (l.take k) ++ rowI (lastK p (l.take k)) x := by
  rw [List.take_add_one, h]
  exact rowsI_snoc p _ x

theorem lastK_take {l : List Rw} {k : Nat} {x : Rw} (p : ByteArray) (h : l[k]? = some x) : lastK p (l.take (k + 1)) = x.key := by
  rw [List.take_add_one, h]
  exact lastK_snoc p _ x

theorem extract_size (s : ByteArray) (n : Nat) (_h : n ≤ s.size) : (s.extract n s.size).size = s.size - n := by
  simp

theorem rowI_len (p : ByteArray) (x : Rw) : ((rowI p x).length : Int) = 4 + (x.key.size : Int) - (shB p x.key : Int) + (x.text.size : Int) + (x.val.size : Int) := by
  have h := shB_le2 p x.key
  unfold rowI
  simp only [List.length_append, bI_len, extract_size _ _ h, List.length_cons, List.length_nil]
  omega

/-- Rows whose texts and whose number fit into a byte each. -/
def RwB (l : List Rw) : Prop := l.length ≤ 255 ∧ ∀ x ∈ l, x.key.size ≤ 255 ∧ x.text.size ≤ 255 ∧ x.val.size ≤ 255

theorem RwB.at {l : List Rw} (h : RwB l) {k : Nat} {x : Rw} (hx : l[k]? = some x) : x.key.size ≤ 255 ∧ x.text.size ≤ 255 ∧ x.val.size ≤ 255 := h.2 x (List.mem_of_getElem? hx)

theorem goodR_RwB {l : List Rw} (h : goodR l = true) : RwB l := by
  refine ⟨by have := goodR_len h; omega, fun x hx => ?_⟩
  have := goodR_sz h x hx
  omega

theorem rowI_len_le {p : ByteArray} {x : Rw} (h : x.key.size ≤ 255 ∧ x.text.size ≤ 255 ∧ x.val.size ≤ 255) : (rowI p x).length ≤ 769 := by
  have := rowI_len p x
  omega

theorem rowsI_len_le : ∀ (p : ByteArray) (l : List Rw), (∀ x ∈ l, x.key.size ≤ 255 ∧ x.text.size ≤ 255 ∧ x.val.size ≤ 255) → (rowsI p l).length ≤ 769 * l.length
  | _, [], _ => by simp [rowsI]
  | p, x :: l, h => by
    have h1 := rowI_len_le (p := p) (h x (by simp))
    have h2 := rowsI_len_le x.key l (fun y hy => h y (by simp [hy]))
    simp only [rowsI, List.length_append, List.length_cons]
    omega

theorem lastK_le : ∀ (p : ByteArray) (l : List Rw), p.size ≤ 255 → (∀ x ∈ l, x.key.size ≤ 255 ∧ x.text.size ≤ 255 ∧ x.val.size ≤ 255) → (lastK p l).size ≤ 255
  | p, [], h, _ => h
  | p, x :: l, _, h => lastK_le x.key l (h x (by simp)).1 (fun y hy => h y (by simp [hy]))

theorem mem_takeR {l : List Rw} {k : Nat} (h : ∀ x ∈ l, x.key.size ≤ 255 ∧ x.text.size ≤ 255 ∧ x.val.size ≤ 255) : ∀ x ∈ l.take k, x.key.size ≤ 255 ∧ x.text.size ≤ 255 ∧ x.val.size ≤ 255 :=
  fun x hx => h x (List.mem_of_mem_take hx)

theorem take_len_le {l : List Rw} (h : RwB l) (k : Nat) : (rowsI ⟨#[]⟩ (l.take k)).length ≤ 196095 := by
  have h1 := rowsI_len_le ⟨#[]⟩ (l.take k) (mem_takeR h.2)
  have h2 : (l.take k).length ≤ 255 := by rw [List.length_take]; have := h.1; omega
  omega

theorem lastK_take_le {l : List Rw} (h : RwB l) (k : Nat) : (lastK ⟨#[]⟩ (l.take k)).size ≤ 255 := lastK_le _ _ (Nat.zero_le _) (mem_takeR h.2)

theorem take_fullR (l : List Rw) : l.take l.length = l := by simp

/-- What PageBytes answers. -/
def okPB (l : List Rw) : Bool := !(l.length == 0) && goodR l && decide ((pageI l).length ≤ 300)
def pbT (l : List Rw) : ByteArray := if okPB l then byT (pageI l) else ⟨#[]⟩
end Go.Proofs.YtbgomhgohphglaaDoor
