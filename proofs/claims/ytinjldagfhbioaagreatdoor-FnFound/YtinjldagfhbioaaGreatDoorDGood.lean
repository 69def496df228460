/- What is decoded is good. -/
import Derived.Test.YtinjldagfhbioaaGreatDoorRead
import Derived.Test.YtinjldagfhbioaaGreatDoorGood
namespace Go.Proofs.YtinjldagfhbioaaGreatDoor
open Go.RowKit

set_option maxHeartbeats 1000000 in
theorem decode_good (s : ByteArray) (p : Nat) : (Utf8.decode s p).1 ≤ 1114111 ∧ ((Utf8.decode s p).1 < 55296 ∨ 57343 < (Utf8.decode s p).1) := by
  have hb : ∀ k, (s.get! (p + k)).toNat < 256 := fun k => (s.get! (p + k)).toNat_lt
  have h0 := hb 0; have h1 := hb 1; have h2 := hb 2; have h3 := hb 3
  simp only [Utf8.decode]
  repeat' split
  all_goals simp_all [Utf8.runeError, Utf8.valid]
  all_goals omega

theorem one_good (t : ByteArray) (h : 0 < t.size) : goodB (Dec.one t).1 = true := by
  have hd := (Dec.decode_one t 0 h).1
  rw [extract_all] at hd
  have hg := decode_good t 0
  rw [← hd]
  exact decide_eq_true (by omega)

theorem dec_good : ∀ (f : Nat) (t : ByteArray), ∀ x ∈ (Dec.decT f t).1, goodB x = true := by
  intro f
  induction f with
  | zero => intro t x hx; simp [Dec.decT] at hx
  | succ f ih =>
    intro t x hx
    simp only [Dec.decT] at hx
    split at hx
    · rename_i h0
      simp only [List.mem_cons] at hx
      rcases hx with rfl | hx
      · exact one_good t h0
      · exact ih _ x hx
    · simp at hx
end Go.Proofs.YtinjldagfhbioaaGreatDoor
