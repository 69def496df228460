/- The search by halves for the page of a key, without memory. -/
import Derived.Test.YtbgomhgohphglaaDoorPFrom6
namespace Go.Proofs.YtbgomhgohphglaaDoor

/-- The search: the page, and how many pages were looked at. -/
def pfF (gs : List (List Rw)) (key : ByteArray) (lo hi looks : Nat) : Nat × Nat :=
  if lo < hi then
    if ltK (endK ((gs[(lo + hi) / 2]?).getD [])) key then pfF gs key ((lo + hi) / 2 + 1) hi (looks + 1) else pfF gs key lo ((lo + hi) / 2) (looks + 1)
  else (hi, looks)
termination_by hi - lo
decreasing_by all_goals omega

theorem pfF_up {gs : List (List Rw)} {key : ByteArray} {lo hi looks : Nat} {l : List Rw} (h : lo < hi) (hm : gs[(lo + hi) / 2]? = some l) (hk : ltK (endK l) key = true) : pfF gs key lo hi looks = pfF gs key ((lo + hi) / 2 + 1) hi (looks + 1) := by
  rw [pfF, if_pos h, hm]
  simp [hk]

theorem pfF_down {gs : List (List Rw)} {key : ByteArray} {lo hi looks : Nat} {l : List Rw} (h : lo < hi) (hm : gs[(lo + hi) / 2]? = some l) (hk : ltK (endK l) key = false) : pfF gs key lo hi looks = pfF gs key lo ((lo + hi) / 2) (looks + 1) := by
  rw [pfF, if_pos h, hm]
  simp [hk]

theorem pfF_end {gs : List (List Rw)} {key : ByteArray} {lo hi looks : Nat} (h : ¬ lo < hi) : pfF gs key lo hi looks = (hi, looks) := by rw [pfF, if_neg h]

/-- What pageFor answers. -/
def pageF (gs : List (List Rw)) (key : ByteArray) : Nat × Nat := pfF gs key 0 gs.length 0
end Go.Proofs.YtbgomhgohphglaaDoor
