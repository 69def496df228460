/- Plain mathematics: good runes come back from their UTF-8, and bytes in which nothing is bad are the UTF-8 of their runes. -/
import Derived.Test.YtanfebccenfffaaGreatDoorDec
import Derived.Test.YtanfebccenfffaaGreatDoorEncS
namespace Go.Proofs.YtanfebccenfffaaGreatDoor
open Go.RowKit

theorem bt_list (t : ByteArray) (l rest : List UInt8) (h : t.data.toList = l ++ rest) (k : Nat) (hk : k < l.length) : k < t.size ∧ Dec.bt t k = (l[k]).toNat := by
  have hs : t.size = (l ++ rest).length := by rw [← h]; rfl
  have h1 : k < t.size := by rw [hs]; simp; omega
  refine ⟨h1, ?_⟩
  rw [← Dec.bt_get t k h1]
  have e : t[k]'h1 = t.data.toList[k]'(by simpa using h1) := by simp; rfl
  rw [e]
  simp [h, hk]

theorem u8_of (x : Int) (h0 : 0 ≤ x) (h1 : x < 256) : (x.toNat.toUInt8).toNat = x.toNat := by
  have : x.toNat < 256 := by omega
  simp [Nat.toUInt8, Nat.mod_eq_of_lt this]

theorem one_step {t : ByteArray} {m : Nat} (hm : Dec.more (Dec.bt t 0) = (m : Int)) : Dec.one t = Dec.goes t m m 1 (Dec.lo1 (Dec.bt t 0)) (Dec.hi1 (Dec.bt t 0)) (Dec.first (Dec.bt t 0) m) := by
  unfold Dec.one; rw [hm, if_neg (by omega)]; rfl

set_option maxHeartbeats 1000000 in
theorem one_enc (x : Int) (hx : goodB x = true) (t : ByteArray) (rest : List UInt8) (ht : t.data.toList = Lib.encodeRune x ++ rest) :
    Dec.one t = (x, (Lib.encodeRune x).length, true) := by
  obtain ⟨h1, h2, h3⟩ := goodB_true hx
  obtain ⟨n, rfl⟩ := Int.eq_ofNat_of_zero_le h1
  have hb := bt_list t _ rest ht
  by_cases c1 : (n : Int) < 128
  · have e := Lib.encodeRuneZ_one h1 (by omega)
    simp only [Lib.encodeRune, e, List.map_cons, List.map_nil, List.length_cons, List.length_nil] at hb ⊢
    have b0 := hb 0 (by omega)
    simp only [List.getElem_cons_zero, u8_of _ h1 (by omega : (n : Int) < 256)] at b0
    have hm : Dec.more (Dec.bt t 0) = ((0 : Nat) : Int) := by rw [b0.2]; unfold Dec.more; rw [if_pos (by omega)]; rfl
    rw [one_step hm]
    simp only [Dec.goes, Dec.first, b0.2]
    simp
  by_cases c2 : (n : Int) < 2048
  · have e := Lib.encodeRuneZ_two (r := (n : Int)) (by omega) (by omega)
    simp only [Lib.encodeRune, e, List.map_cons, List.map_nil, List.length_cons, List.length_nil] at hb ⊢
    have b0 := hb 0 (by omega)
    have b1 := hb 1 (by omega)
    simp only [List.getElem_cons_zero, u8_of (192 + (n : Int) / 64) (by omega) (by omega)] at b0
    simp only [List.getElem_cons_zero, List.getElem_cons_succ, u8_of (128 + (n : Int) % 64) (by omega) (by omega)] at b1
    have hm : Dec.more (Dec.bt t 0) = ((1 : Nat) : Int) := by
      rw [b0.2]; unfold Dec.more; repeat' split
      all_goals omega
    rw [one_step hm, Dec.goes_yes _ b1.2 ⟨b1.1, (Dec.lo_hi _ _).2 (by rw [b0.2]; omega)⟩]
    simp only [Dec.goes, Dec.first, b0.2]
    refine Prod.ext ?_ rfl
    show ((((192 + (n : Int) / 64).toNat % 32 * 64 + (128 + (n : Int) % 64).toNat % 64 : Nat)) : Int) = (n : Int)
    omega
  by_cases c3 : (n : Int) < 65536
  · have e := Lib.encodeRuneZ_three (r := (n : Int)) (by omega)
    simp only [Lib.encodeRune, e, List.map_cons, List.map_nil, List.length_cons, List.length_nil] at hb ⊢
    have b0 := hb 0 (by omega)
    have b1 := hb 1 (by omega)
    have b2 := hb 2 (by omega)
    simp only [List.getElem_cons_zero, u8_of (224 + (n : Int) / 4096) (by omega) (by omega)] at b0
    simp only [List.getElem_cons_zero, List.getElem_cons_succ, u8_of (128 + (n : Int) / 64 % 64) (by omega) (by omega)] at b1
    simp only [List.getElem_cons_zero, List.getElem_cons_succ, u8_of (128 + (n : Int) % 64) (by omega) (by omega)] at b2
    have hm : Dec.more (Dec.bt t 0) = ((2 : Nat) : Int) := by
      rw [b0.2]; unfold Dec.more; repeat' split
      all_goals omega
    rw [one_step hm, Dec.goes_yes _ b1.2 ⟨b1.1, (Dec.lo_hi _ _).2 (by rw [b0.2]; omega)⟩, Dec.goes_yes _ b2.2 ⟨b2.1, by omega, by omega⟩]
    simp only [Dec.goes, Dec.first, b0.2]
    refine Prod.ext ?_ rfl
    show (((((224 + (n : Int) / 4096).toNat % 16 * 64 + (128 + (n : Int) / 64 % 64).toNat % 64) * 64 + (128 + (n : Int) % 64).toNat % 64 : Nat)) : Int) = (n : Int)
    omega
  · have e := Lib.encodeRuneZ_four (r := (n : Int)) (by omega) (by omega)
    simp only [Lib.encodeRune, e, List.map_cons, List.map_nil, List.length_cons, List.length_nil] at hb ⊢
    have b0 := hb 0 (by omega)
    have b1 := hb 1 (by omega)
    have b2 := hb 2 (by omega)
    have b3 := hb 3 (by omega)
    simp only [List.getElem_cons_zero, u8_of (240 + (n : Int) / 262144) (by omega) (by omega)] at b0
    simp only [List.getElem_cons_zero, List.getElem_cons_succ, u8_of (128 + (n : Int) / 4096 % 64) (by omega) (by omega)] at b1
    simp only [List.getElem_cons_zero, List.getElem_cons_succ, u8_of (128 + (n : Int) / 64 % 64) (by omega) (by omega)] at b2
    simp only [List.getElem_cons_zero, List.getElem_cons_succ, u8_of (128 + (n : Int) % 64) (by omega) (by omega)] at b3
    have hm : Dec.more (Dec.bt t 0) = ((3 : Nat) : Int) := by
      rw [b0.2]; unfold Dec.more; repeat' split
      all_goals omega
    rw [one_step hm, Dec.goes_yes _ b1.2 ⟨b1.1, (Dec.lo_hi _ _).2 (by rw [b0.2]; omega)⟩, Dec.goes_yes _ b2.2 ⟨b2.1, by omega, by omega⟩, Dec.goes_yes _ b3.2 ⟨b3.1, by omega, by omega⟩]
    simp only [Dec.goes, Dec.first, b0.2]
    refine Prod.ext ?_ rfl
    show ((((((240 + (n : Int) / 262144).toNat % 8 * 64 + (128 + (n : Int) / 4096 % 64).toNat % 64) * 64 + (128 + (n : Int) / 64 % 64).toNat % 64) * 64 + (128 + (n : Int) % 64).toNat % 64 : Nat)) : Int) = (n : Int)
    omega

theorem encodeRune_pos (x : Int) : 1 ≤ (Lib.encodeRune x).length := by
  unfold Lib.encodeRune; simpa using (Lib.encodeRuneZ_length x).1

theorem extract_rest (t : ByteArray) (l rest : List UInt8) (h : t.data.toList = l ++ rest) : t.extract l.length t.size = ⟨rest.toArray⟩ := by
  have hs : t.size = (l ++ rest).length := by rw [← h]; rfl
  apply ByteArray.ext
  apply Array.ext'
  rw [ByteArray.data_extract, Array.toList_extract, h, hs]
  simp [List.extract]

theorem decT_enc : ∀ (zs : List Int) (f : Nat), zs.length ≤ f → (∀ x ∈ zs, goodB x = true) → Dec.decT f ⟨(encAll zs).toArray⟩ = (zs, 0) := by
  intro zs
  induction zs with
  | nil => intro f _ _; exact Dec.decT_end f _ rfl
  | cons x zs ih =>
    intro f hf hg
    obtain ⟨f, rfl⟩ : ∃ g, f = g + 1 := ⟨f - 1, by simp at hf; omega⟩
    have e : encAll (x :: zs) = Lib.encodeRune x ++ encAll zs := by simp [encAll]
    have ht : (⟨(encAll (x :: zs)).toArray⟩ : ByteArray).data.toList = Lib.encodeRune x ++ encAll zs := by rw [e]
    have ho := one_enc x (hg x (by simp)) _ _ ht
    have h0 : 0 < (⟨(encAll (x :: zs)).toArray⟩ : ByteArray).size := by
      show 0 < (encAll (x :: zs)).toArray.size
      rw [e]; have := encodeRune_pos x; simp; omega
    have hr := extract_rest _ _ _ ht
    simp only [Dec.decT, if_pos h0, ho, hr]
    rw [ih f (by simp at hf; omega) (fun y hy => hg y (by simp [hy]))]
    rfl

theorem u8_back (t : ByteArray) (k : Nat) (h : k < t.size) : (Dec.bt t k).toUInt8 = t.data.toList[k]'(by simpa using h) := by
  rw [← Dec.bt_get t k h]
  have e : t[k]'h = t.data.toList[k]'(by simpa using h) := by simp; rfl
  rw [← e]
  simp [Nat.toUInt8]

theorem split_at (t : ByteArray) (n : Nat) (l : List Nat) (hl : l.length = n) (hn : n ≤ t.size) (hb : ∀ k (hk : k < n), l[k]'(by omega) = Dec.bt t k) :
    t.data.toList = l.map (fun x => x.toUInt8) ++ (t.extract n t.size).data.toList := by
  have e1 : l.map (fun x => x.toUInt8) = t.data.toList.take n := by
    apply List.ext_getElem
    · simp; have : t.data.size = t.size := rfl; omega
    · intro k h1 h2
      have hk : k < n := by simpa [hl] using h1
      rw [List.getElem_map, List.getElem_take, hb k hk, u8_back t k (by omega)]
  have e2 : (t.extract n t.size).data.toList = t.data.toList.drop n := by
    rw [ByteArray.data_extract, Array.toList_extract]
    have : t.data.size = t.size := rfl
    simp only [List.extract]
    exact List.take_of_length_le (by simp)
  rw [e1, e2, List.take_append_drop]

theorem enc_ints (r : Int) (l : List Nat) (h : Lib.encodeRuneZ r = l.map (fun x : Nat => (x : Int))) : Lib.encodeRune r = l.map (fun x => x.toUInt8) := by
  unfold Lib.encodeRune; rw [h]; simp

theorem goes_true {t : ByteArray} {m f k lo hi r : Nat} (h : (Dec.goes t m (f + 1) k lo hi r).2.2 = true) : k < t.size ∧ lo ≤ Dec.bt t k ∧ Dec.bt t k ≤ hi := by
  apply Classical.byContradiction
  intro hn
  rw [Dec.goes_no hn] at h
  cases h

set_option maxHeartbeats 1000000 in
theorem one_dec (t : ByteArray) (h0 : 0 < t.size) (ok : (Dec.one t).2.2 = true) : t.data.toList = Lib.encodeRune (Dec.one t).1 ++ (t.extract (Dec.one t).2.1 t.size).data.toList := by
  have hb := Dec.bt_lt t 0
  rcases Dec.more_cases (Dec.bt t 0) with hm | hm | hm | hm | hm
  · have : Dec.one t = (65533, 1, false) := by unfold Dec.one; rw [hm]; rfl
    rw [this] at ok; cases ok
  · have e := one_step (m := 0) hm
    have e' : Dec.one t = ((Dec.bt t 0 : Int), 1, true) := by rw [e]; rfl
    have hlt : Dec.bt t 0 < 128 := by
      revert hm; unfold Dec.more; repeat' split
      all_goals omega
    rw [e']
    rw [enc_ints (Dec.bt t 0 : Int) [Dec.bt t 0] (by rw [Lib.encodeRuneZ_one (by omega) (by omega)]; rfl)]
    exact split_at t 1 [Dec.bt t 0] rfl (by omega) (fun k hk => by match k, hk with | 0, _ => rfl)
  · have e := one_step (m := 1) hm
    rw [e] at ok
    have c1 := goes_true ok
    have hlt : 194 ≤ Dec.bt t 0 ∧ Dec.bt t 0 < 224 := by
      revert hm; unfold Dec.more; repeat' split
      all_goals omega
    have lh := (Dec.lo_hi (Dec.bt t 0) (Dec.bt t 1)).1 c1.2
    rw [Dec.goes_yes _ rfl c1] at e
    have e' : Dec.one t = (((Dec.bt t 0 % 32 * 64 + Dec.bt t 1 % 64 : Nat) : Int), 2, true) := by rw [e]; rfl
    rw [e']
    rw [enc_ints _ [Dec.bt t 0, Dec.bt t 1] (by
      rw [Lib.encodeRuneZ_two (by omega) (by omega)]
      simp only [List.map_cons, List.map_nil, List.cons.injEq, and_true]; omega)]
    exact split_at t 2 [Dec.bt t 0, Dec.bt t 1] rfl (by omega) (fun k hk => by match k, hk with | 0, _ => rfl | 1, _ => rfl)
  · have e := one_step (m := 2) hm
    rw [e] at ok
    have c1 := goes_true ok
    have hlt : 224 ≤ Dec.bt t 0 ∧ Dec.bt t 0 < 240 := by
      revert hm; unfold Dec.more; repeat' split
      all_goals omega
    have lh := (Dec.lo_hi (Dec.bt t 0) (Dec.bt t 1)).1 c1.2
    rw [Dec.goes_yes _ rfl c1] at e ok
    have c2 := goes_true ok
    rw [Dec.goes_yes _ rfl c2] at e
    have e' : Dec.one t = ((((Dec.bt t 0 % 16 * 64 + Dec.bt t 1 % 64) * 64 + Dec.bt t 2 % 64 : Nat) : Int), 3, true) := by rw [e]; rfl
    have d2 : 2 < t.size ∧ 128 ≤ Dec.bt t 2 ∧ Dec.bt t 2 ≤ 191 := c2
    rw [e']
    rw [enc_ints _ [Dec.bt t 0, Dec.bt t 1, Dec.bt t 2] (by
      rw [Lib.encodeRuneZ_three (by omega)]
      simp only [List.map_cons, List.map_nil, List.cons.injEq, and_true]; omega)]
    exact split_at t 3 [Dec.bt t 0, Dec.bt t 1, Dec.bt t 2] rfl (by omega) (fun k hk => by match k, hk with | 0, _ => rfl | 1, _ => rfl | 2, _ => rfl)
  · have e := one_step (m := 3) hm
    rw [e] at ok
    have c1 := goes_true ok
    have hlt : 240 ≤ Dec.bt t 0 ∧ Dec.bt t 0 < 245 := by
      revert hm; unfold Dec.more; repeat' split
      all_goals omega
    have lh := (Dec.lo_hi (Dec.bt t 0) (Dec.bt t 1)).1 c1.2
    rw [Dec.goes_yes _ rfl c1] at e ok
    have c2 := goes_true ok
    rw [Dec.goes_yes _ rfl c2] at e ok
    have c3 := goes_true ok
    rw [Dec.goes_yes _ rfl c3] at e
    have e' : Dec.one t = (((((Dec.bt t 0 % 8 * 64 + Dec.bt t 1 % 64) * 64 + Dec.bt t 2 % 64) * 64 + Dec.bt t 3 % 64 : Nat) : Int), 4, true) := by rw [e]; rfl
    have d2 : 2 < t.size ∧ 128 ≤ Dec.bt t 2 ∧ Dec.bt t 2 ≤ 191 := c2
    have d3 : 3 < t.size ∧ 128 ≤ Dec.bt t 3 ∧ Dec.bt t 3 ≤ 191 := c3
    rw [e']
    rw [enc_ints _ [Dec.bt t 0, Dec.bt t 1, Dec.bt t 2, Dec.bt t 3] (by
      rw [Lib.encodeRuneZ_four (by omega) (by omega)]
      simp only [List.map_cons, List.map_nil, List.cons.injEq, and_true]; omega)]
    exact split_at t 4 [Dec.bt t 0, Dec.bt t 1, Dec.bt t 2, Dec.bt t 3] rfl (by omega) (fun k hk => by match k, hk with | 0, _ => rfl | 1, _ => rfl | 2, _ => rfl | 3, _ => rfl)

theorem nil_of (t : ByteArray) (h : t.size = 0) : t.data.toList = [] := by
  apply List.eq_nil_of_length_eq_zero
  rw [Array.length_toList]
  exact h

theorem decT_dec : ∀ (f : Nat) (t : ByteArray), t.size ≤ f → (Dec.decT f t).2 = 0 → encAll (Dec.decT f t).1 = t.data.toList := by
  intro f
  induction f with
  | zero =>
    intro t h _
    have : t.data.toList = [] := nil_of t (by omega)
    rw [this]; rfl
  | succ f ih =>
    intro t h hb
    by_cases h0 : 0 < t.size
    · simp only [Dec.decT, if_pos h0] at hb ⊢
      have ok : (Dec.one t).2.2 = true := by
        cases c : (Dec.one t).2.2
        · rw [c] at hb; simp at hb
        · rfl
      have hle := Dec.one_le t h0
      have hs := Dec.size_extract t (Dec.one t).2.1
      have hd := ih (t.extract (Dec.one t).2.1 t.size) (by omega) (by omega)
      have e : encAll ((Dec.one t).1 :: (Dec.decT f (t.extract (Dec.one t).2.1 t.size)).1) = Lib.encodeRune (Dec.one t).1 ++ encAll (Dec.decT f (t.extract (Dec.one t).2.1 t.size)).1 := by simp [encAll]
      rw [e, hd]
      exact (one_dec t h0 ok).symm
    · have : t.data.toList = [] := nil_of t (by omega)
      simp only [Dec.decT, if_neg h0, this]; rfl
end Go.Proofs.YtanfebccenfffaaGreatDoor
