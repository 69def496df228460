/- The search by halves for the place of a key, without memory. -/
import Derived.Test.YtbgomhgohphglaaDoorPFrom6
import Derived.Test.YtbgomhgohphglaaDoorICmp6
namespace Go.Proofs.YtbgomhgohphglaaDoor

def bsF (l : List Rw) (key : ByteArray) (i j : Nat) : Nat :=
  if i < j then
    if cmpK (rwAt l ((i + j) / 2)).key key < 0 then bsF l key ((i + j) / 2 + 1) j else bsF l key i ((i + j) / 2)
  else i
termination_by j - i
decreasing_by all_goals omega

theorem bsF_up {l : List Rw} {key : ByteArray} {i j : Nat} (h : i < j) (hk : cmpK (rwAt l ((i + j) / 2)).key key < 0) : bsF l key i j = bsF l key ((i + j) / 2 + 1) j := by
  rw [bsF, if_pos h, if_pos hk]
theorem bsF_down {l : List Rw} {key : ByteArray} {i j : Nat} (h : i < j) (hk : ¬ cmpK (rwAt l ((i + j) / 2)).key key < 0) : bsF l key i j = bsF l key i ((i + j) / 2) := by
  rw [bsF, if_pos h, if_neg hk]
theorem bsF_end {l : List Rw} {key : ByteArray} {i j : Nat} (h : ¬ i < j) : bsF l key i j = i := by rw [bsF, if_neg h]

/-- The place of a key. -/
def placeF (l : List Rw) (key : ByteArray) : Nat := bsF l key 0 l.length
/-- Whether it stands there. -/
def thereF (l : List Rw) (key : ByteArray) : Bool := decide (placeF l key < l.length) && decide (cmpK (rwAt l (placeF l key)).key key = 0)
end Go.Proofs.YtbgomhgohphglaaDoor
