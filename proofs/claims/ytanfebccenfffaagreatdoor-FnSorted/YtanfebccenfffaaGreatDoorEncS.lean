/- Contracts of the specification's l1Encode and EncodeRunes over a row of integers of the call's own. -/
import Derived.Test.YtanfebccenfffaaGreatDoorInts
import Derived.Test.YtanfebccenfffaaGreatDoorPut
import Derived.BigCall
namespace Go.Proofs.YtanfebccenfffaaGreatDoor
open Go.RowKit


def encAll (zs : List Int) : List UInt8 := zs.flatMap Lib.encodeRune

theorem encAll_snoc (zs : List Int) (k : Nat) (x : Int) (h : zs[k]? = some x) : encAll (zs.take (k + 1)) = encAll (zs.take k) ++ Lib.encodeRune x := by
  have hk : k < zs.length := (List.getElem?_eq_some_iff.1 h).1
  rw [List.take_succ_eq_append_getElem hk]
  have e : zs[k] = x := by
    have := List.getElem?_eq_getElem hk
    rw [h] at this; exact (Option.some.inj this).symm
  rw [e]
  simp [encAll]

theorem encodeRune_le (r : Int) : (Lib.encodeRune r).length ≤ 4 := by
  unfold Lib.encodeRune; simpa using (Lib.encodeRuneZ_length r).2

theorem encAll_le (zs : List Int) (k : Nat) : (encAll (zs.take k)).length ≤ 4 * k := by
  induction k with
  | zero => simp [encAll]
  | succ k ih =>
    by_cases h : k < zs.length
    · rw [encAll_snoc zs k zs[k] (List.getElem?_eq_getElem h)]
      have := encodeRune_le zs[k]
      simp only [List.length_append]; omega
    · have e1 : zs.take (k + 1) = zs := List.take_of_length_le (by omega)
      have e2 : zs.take k = zs := List.take_of_length_le (by omega)
      rw [e1]; rw [e2] at ih; omega

def EncRel (w : World) (zs : List Int) (s i : Value) (wr : World) : Prop :=
  ∃ k : Nat, k ≤ zs.length ∧ i = .int .i64 k ∧ s = .string ⟨(encAll (zs.take k)).toArray⟩ ∧ Below w.heap.size w wr

theorem app_bytes (a b : List UInt8) : (⟨a.toArray⟩ ++ ⟨b.toArray⟩ : ByteArray) = ⟨(a ++ b).toArray⟩ := by
  apply ByteArray.ext
  simp

set_option maxRecDepth 100000 in
set_option maxHeartbeats 1000000 in
theorem l1Encode_row (w : World) (g cap : Nat) (zs : List Int) (hz : zs.length ≤ 1048576) (hg : g < w.heap.size)
    (hc : ∀ j, j < zs.length → w.cell? ⟨g, j, none⟩ = some (.int .i64 (zs[j]?.getD 0))) (hgd : ∀ x ∈ zs, goodB x = true) :
    Calls Tryz.prog 20 #[.slice (some ⟨g, 0, none⟩) zs.length cap] w fun e w' => e = .returned (.string ⟨(encAll zs).toArray⟩) ∧ Below w.heap.size w w' := by
  go_enter Tryz.func20, Tryz.ntmps20
  go_wp2
  go_loopw [3, 8] (fun s i wr => EncRel w zs s i wr) (fun _ i _ => zs.length - (intOf i).toNat)
  case atStart => exact ⟨0, Nat.zero_le _, rfl, rfl, Below.refl _ _⟩
  case round =>
    obtain ⟨k, hk, rfl, rfl, hbw⟩ := hrel
    have hle := encAll_le zs k
    by_cases hlt : k < zs.length
    · obtain ⟨x, hx⟩ : ∃ x, zs[k]? = some x := ⟨_, List.getElem?_eq_getElem hlt⟩
      have c0 := (hbw.cell (p := ⟨g, k, none⟩) hg).trans (hc k hlt)
      rw [hx] at c0
      have c1 : wr.cell? ⟨g, k, none⟩ = some (.int .i64 x) := c0
      have hgx := hgd x (List.mem_of_getElem? hx)
      have HE : Hid _ := encAll_snoc zs k x hx
      have P := fun w => put_any x hgx w
      have hxl := encodeRune_le x
      have HC : Hid _ := hc
      have HX : Hid _ := hx
      clear hc c0 hx hgd hgx
      go_wp2_with (go_at_call 45; refine (P _).mono ?_; rintro e w1 ⟨rfl, hb1⟩)
      exact ⟨⟨k + 1, by omega, by go_num, by rw [app_bytes, HE.out], hbw.trans (hb1.mono hbw.size)⟩, by simp [intOf]; omega⟩
    · have hkz : k = zs.length := by omega
      have e2 : zs.take k = zs := List.take_of_length_le (by omega)
      rw [e2]
      clear hc e2 hle
      go_wp2
      go_ret
      exact ⟨rfl, hbw⟩

set_option maxRecDepth 100000 in
set_option maxHeartbeats 1000000 in
theorem l1Encode_none (w : World) (a : Option Addr) (c : Nat) :
    Calls Tryz.prog 20 #[.slice a 0 c] w fun e w' => e = .returned (.string ⟨#[]⟩) ∧ w' = w := by
  go_enter Tryz.func20, Tryz.ntmps20
  go_wp2
  go_loop [3, 8] (fun s i => s = .string ⟨#[]⟩ ∧ i = .int .i64 0) (fun _ _ => 0)
  case atStart => exact ⟨rfl, rfl⟩
  case round =>
    obtain ⟨rfl, rfl⟩ := hrel
    go_wp2
    go_ret
    exact ⟨rfl, rfl⟩

theorem l1Encode_any {w : World} {B : Nat} {v : Value} {zs : List Int} (hz : zs.length ≤ 1048576) (hI : Ints w B v zs) (hgd : ∀ x ∈ zs, goodB x = true) :
    Calls Tryz.prog 20 #[v] w fun e w' => e = .returned (.string ⟨(encAll zs).toArray⟩) ∧ Below w.heap.size w w' := by
  have hl := World.ownsRow.lt hI
  rcases hI.form with ⟨rfl, rfl⟩ | ⟨g, cap, rfl, h1, h2⟩
  · refine (l1Encode_none w _ _).mono ?_
    rintro e w' ⟨rfl, rfl⟩
    exact ⟨rfl, Below.refl _ _⟩
  · exact l1Encode_row w g cap zs hz (hl g rfl).2 (fun j hj => hI.cell j hj) hgd

set_option maxRecDepth 100000 in
set_option maxHeartbeats 1000000 in
theorem specEnc_long (w : World) (a : Option Addr) (n c : Nat) (h1 : 200 < n) (h2 : n ≤ 1048576) :
    Calls Tryz.prog 11 #[.slice a n c] w fun e w' => e = .returned (.tuple #[.string ⟨#[]⟩, .bool false]) ∧ w' = w := by
  go_enter Tryz.func11, Tryz.ntmps11
  go_wp2
  go_ret2
  exact ⟨rfl, rfl⟩

set_option maxRecDepth 100000 in
set_option maxHeartbeats 1000000 in
theorem specEnc_none (w : World) (a : Option Addr) (c : Nat) :
    Calls Tryz.prog 11 #[.slice a 0 c] w fun e w' => e = .returned (.tuple #[.string ⟨#[]⟩, .bool true]) ∧ w' = w := by
  have N := fun w => l1Encode_none w a c
  go_enter Tryz.func11, Tryz.ntmps11
  go_wp2
  go_loop [11] (fun i => i = .int .i64 0) (fun _ => 0)
  case atStart => rfl
  case round =>
    subst hrel
    go_wp2_with (go_at_call 20; refine (N _).mono ?_; rintro e w' ⟨rfl, rfl⟩)
    go_ret2
    exact ⟨rfl, rfl⟩

set_option maxRecDepth 100000 in
set_option maxHeartbeats 1000000 in
theorem specEnc_good (w : World) (g cap : Nat) (zs : List Int) (hz : zs.length ≤ 200) (hg : g < w.heap.size)
    (hc : ∀ j, j < zs.length → w.cell? ⟨g, j, none⟩ = some (.int .i64 (zs[j]?.getD 0))) (hgd : ∀ x ∈ zs, goodB x = true) :
    Calls Tryz.prog 11 #[.slice (some ⟨g, 0, none⟩) zs.length cap] w fun e w' => e = .returned (.tuple #[.string ⟨(encAll zs).toArray⟩, .bool true]) ∧ Below w.heap.size w w' := by
  have N := l1Encode_row w g cap zs (by omega) hg hc hgd
  go_enter Tryz.func11, Tryz.ntmps11
  go_wp2
  go_loop [11] (fun i => ∃ k : Nat, k ≤ zs.length ∧ i = .int .i64 k) (fun i => zs.length - (intOf i).toNat)
  case atStart => exact ⟨0, Nat.zero_le _, rfl⟩
  case round =>
    obtain ⟨k, hk, rfl⟩ := hrel
    by_cases hlt : k < zs.length
    · obtain ⟨x, hx⟩ : ∃ x, zs[k]? = some x := ⟨_, List.getElem?_eq_getElem hlt⟩
      have c0 := hc k hlt
      rw [hx] at c0
      have c1 : w.cell? ⟨g, k, none⟩ = some (.int .i64 x) := c0
      have hgx := hgd x (List.mem_of_getElem? hx)
      have P := fun w => specGood_yes x hgx w
      clear hc c0 hx hgd hgx N
      go_wp2_with (go_at_call 28; refine (P _).mono ?_; rintro e w1 ⟨rfl, rfl⟩)
      exact ⟨⟨k + 1, by omega, by go_num⟩, by simp [intOf]; omega⟩
    · clear hc hgd
      go_wp2_with (go_at_call 20; refine N.mono ?_; rintro e w' ⟨rfl, hb⟩)
      go_ret2
      exact ⟨rfl, hb⟩

set_option maxRecDepth 100000 in
set_option maxHeartbeats 1000000 in
theorem specEnc_bad (w : World) (g cap : Nat) (zs : List Int) (hz : zs.length ≤ 200)
    (hc : ∀ j, j < zs.length → w.cell? ⟨g, j, none⟩ = some (.int .i64 (zs[j]?.getD 0))) (hbd : ¬ ∀ x ∈ zs, goodB x = true) :
    Calls Tryz.prog 11 #[.slice (some ⟨g, 0, none⟩) zs.length cap] w fun e w' => e = .returned (.tuple #[.string ⟨#[]⟩, .bool false]) ∧ w' = w := by
  go_enter Tryz.func11, Tryz.ntmps11
  go_wp2
  go_loop [11] (fun i => ∃ k : Nat, k ≤ zs.length ∧ i = .int .i64 k ∧ Hid (∀ j x, j < k → zs[j]? = some x → goodB x = true)) (fun i => zs.length - (intOf i).toNat)
  case atStart => exact ⟨0, Nat.zero_le _, rfl, fun j x hj => by omega⟩
  case round =>
    obtain ⟨k, hk, rfl, HG⟩ := hrel
    by_cases hlt : k < zs.length
    · obtain ⟨x, hx⟩ : ∃ x, zs[k]? = some x := ⟨_, List.getElem?_eq_getElem hlt⟩
      have c0 := hc k hlt
      rw [hx] at c0
      have c1 : w.cell? ⟨g, k, none⟩ = some (.int .i64 x) := c0
      have HX : Hid _ := hx
      cases hgx : goodB x
      · have P := fun w => specGood_no x hgx w
        clear hc c0 hx hbd hgx
        go_wp2_with (go_at_call 28; refine (P _).mono ?_; rintro e w1 ⟨rfl, rfl⟩)
        go_ret2
        exact ⟨rfl, rfl⟩
      · have P := fun w => specGood_yes x hgx w
        have HG2 : Hid (∀ j y, j < k + 1 → zs[j]? = some y → goodB y = true) := by
          intro j y hj hy
          by_cases e : j = k
          · subst e; rw [hx] at hy; cases hy; exact hgx
          · exact HG.out j y (by omega) hy
        clear hc c0 hx hbd hgx
        go_wp2_with (go_at_call 28; refine (P _).mono ?_; rintro e w1 ⟨rfl, rfl⟩)
        exact ⟨⟨k + 1, by omega, by go_num, HG2⟩, by simp [intOf]; omega⟩
    · exfalso
      apply hbd
      intro x hx
      obtain ⟨j, hj⟩ := List.mem_iff_getElem?.1 hx
      have := (List.getElem?_eq_some_iff.1 hj).1
      exact HG.out j x (by omega) hj
end Go.Proofs.YtanfebccenfffaaGreatDoor
