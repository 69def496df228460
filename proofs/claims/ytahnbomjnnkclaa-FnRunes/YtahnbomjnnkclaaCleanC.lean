/- Contracts of both CleanText; what is decoded is good. -/
import Derived.Test.YtahnbomjnnkclaaImplT
import Derived.Test.YtahnbomjnnkclaaEncodeI
import Derived.WalkKit
namespace Go.Proofs.Ytahnbomjnnkclaa
open Go.RowKit

set_option maxHeartbeats 1000000 in
theorem decode_good (s : ByteArray) (p : Nat) : (Utf8.decode s p).1 ≤ 1114111 ∧ ((Utf8.decode s p).1 < 55296 ∨ 57343 < (Utf8.decode s p).1) := by
  have hb : ∀ k, (s.get! (p + k)).toNat < 256 := fun k => (s.get! (p + k)).toNat_lt
  have h0 := hb 0; have h1 := hb 1; have h2 := hb 2; have h3 := hb 3
  simp only [Utf8.decode]
  repeat' split
  all_goals simp_all [Utf8.runeError, Utf8.valid]
  all_goals omega

theorem one_good (t : ByteArray) (h : 0 < t.size) : goodB (Dec.one t).1 = true := by
  have hd := (Dec.decode_one t 0 h).1
  rw [extract_all] at hd
  have hg := decode_good t 0
  rw [← hd]
  exact decide_eq_true (by omega)

theorem dec_good : ∀ (f : Nat) (t : ByteArray), ∀ x ∈ (Dec.decT f t).1, goodB x = true := by
  intro f
  induction f with
  | zero => intro t x hx; simp [Dec.decT] at hx
  | succ f ih =>
    intro t x hx
    simp only [Dec.decT] at hx
    split at hx
    · rename_i h0
      simp only [List.mem_cons] at hx
      rcases hx with rfl | hx
      · exact one_good t h0
      · exact ih _ x hx
    · simp at hx

set_option maxRecDepth 100000 in
set_option maxHeartbeats 1000000 in
theorem specClean_any (s : ByteArray) (w : World) (hs : s.size ≤ 200) :
    Calls Try.prog 11 #[.string s] w fun e w' => e = .returned (.tuple #[.string ⟨(encAll (Dec.decT s.size s).1).toArray⟩, .bool true]) ∧ Below w.heap.size w w' := by
  have D := fun w => l1Decode_any s w (by omega)
  have hgd := dec_good s.size s
  have hl := (Dec.decT_len s.size s (Nat.le_refl _)).1
  generalize Dec.decT s.size s = d at *
  obtain ⟨zs, bad⟩ := d
  go_enter Try.func11, Try.ntmps11
  go_wp2_with (go_at_call 23; refine (D _).mono ?_; rintro e w1 ⟨v, rfl, hI, hb⟩)
  refine (l1Encode_any (by omega) hI hgd).mono ?_
  rintro e w2 ⟨rfl, hb2⟩
  go_wp2
  go_ret2
  exact ⟨rfl, hb.trans (hb2.mono hb.size)⟩

set_option maxRecDepth 100000 in
set_option maxHeartbeats 1000000 in
theorem implClean_any (s : ByteArray) (w : World) (hs : s.size ≤ 200) :
    Calls Try.prog 10 #[.string s] w fun e w' => e = .returned (.tuple #[.string ⟨(encAll (Dec.decT s.size s).1).toArray⟩, .bool true]) ∧ Below w.heap.size w w' := by
  have D := fun w => implDecode_any s w hs
  have hgd := dec_good s.size s
  have hl := (Dec.decT_len s.size s (Nat.le_refl _)).1
  generalize (Dec.decT s.size s).1 = zs at *
  obtain ⟨e1, e2⟩ := enc_yes (zs := zs) (by omega) hgd
  have E := fun w B v (hI : Ints w B v zs) => implEnc_any (by omega) hI
  rw [e1, e2] at E
  have HE := E
  clear E e1 e2
  go_enter Try.func10, Try.ntmps10
  go_wp2_with (go_at_call 7; refine (D _).mono ?_; rintro e w1 ⟨v, rfl, hI, hb⟩)
  refine (HE _ _ _ hI).mono ?_
  rintro e w2 ⟨rfl, hb2⟩
  go_wp2
  go_ret2
  exact ⟨rfl, hb.trans (hb2.mono hb.size)⟩

end Go.Proofs.Ytahnbomjnnkclaa
