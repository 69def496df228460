/- Contracts of the cursor's spoilt and text: texts of bounded length, whatever the bytes. -/
import Derived.Test.YtahnbomjnnkclaaDraw2
namespace Go.Proofs.Ytahnbomjnnkclaa
open Go.RowKit

theorem sz (u : ByteArray) (i : Nat) (x : UInt8) (h : i < u.size) : (u.extract 0 i ++ ⟨#[x]⟩ ++ u.extract i u.size).size = u.size + 1 ∧ (u.extract 0 i ++ ⟨#[x]⟩ ++ u.extract (i + 1) u.size).size = u.size ∧ (u.extract 0 i ++ u.extract (i + 1) u.size).size = u.size - 1 := by
  have e1 : (⟨#[x]⟩ : ByteArray).size = 1 := rfl
  simp only [ByteArray.size_append, ByteArray.size_extract, e1]
  omega

def SpRel (w : World) (B b K M : Nat) (tv n : Value) (wr : World) : Prop :=
  ∃ (j k : Nat) (t : ByteArray), n = .int .i64 j ∧ tv = .string t ∧ t.size + j ≤ M ∧ k + 6 * j ≤ K ∧ Cur wr B b k ∧ w.grownBy wr (some b)

set_option maxRecDepth 100000 in
set_option maxHeartbeats 4000000 in
theorem spoilt_any (w : World) (B b k : Nat) (h : Cur w B b k) (hk : k ≤ 800000000) (t ws : ByteArray) (ht : t.size ≤ 1000000) (hw0 : 0 < ws.size) (hw1 : ws.size ≤ 1000) :
    Calls Try.prog 39 #[.pointer (some ⟨b, 0, none⟩), .string t, .string ws] w fun e w' => ∃ t' : ByteArray, e = .returned (.string t') ∧ t'.size ≤ t.size + 2 ∧ Moved w w' B b k 14 := by
  have hB := h.lt
  have N := pick_any w B b k h (by omega) 3 (by omega) (by omega)
  clear h
  go_enter Try.func39, Try.ntmps39
  go_wp2_with fail
  refine N.mono ?_
  rintro e w1 ⟨x, rfl, x0, x1, ⟨⟨k1, hk1, hC⟩, hg⟩⟩
  obtain ⟨j0, rfl⟩ := Int.eq_ofNat_of_zero_le x0
  have hj0 : j0 ≤ 2 := by omega
  clear N x0 x1
  go_wp2_with fail
  go_loopw [1, 7] (fun tv n wr => SpRel w B b (k + 14) (t.size + 2) tv n wr) (fun _ n _ => (intOf n).toNat)
  case atStart => exact ⟨j0, k1, t, rfl, rfl, by omega, by omega, hC, hg⟩
  case round =>
    clear hC hg hk1
    obtain ⟨j, k2, u, rfl, rfl, hl, hk2, hC2, hg2⟩ := hrel
    by_cases hj : 0 < j
    · by_cases hu : 0 < u.size
      · have P := pick_any wr B b k2 hC2 (by omega) (u.size : Int) (by omega) (by omega)
        go_wp2_with fail
        refine P.mono ?_
        rintro e w3 ⟨i, rfl, i0, i1, ⟨⟨k3, hk3, hC3⟩, hg3⟩⟩
        obtain ⟨i, rfl⟩ := Int.eq_ofNat_of_zero_le i0
        have hi : i < u.size := by omega
        have P3 := pick_any w3 B b k3 hC3 (by omega) (ws.size : Int) (by omega) (by omega)
        clear P i0 i1 hC2
        go_wp2_with fail
        refine P3.mono ?_
        rintro e w4 ⟨c, rfl, c0, c1, ⟨⟨k4, hk4, hC4⟩, hg4⟩⟩
        obtain ⟨c, rfl⟩ := Int.eq_ofNat_of_zero_le c0
        have hc : c < ws.size := by omega
        have hbc : (ws[c]'hc).toNat < 256 := (ws[c]'hc).toNat_lt
        have V := fun a : Int => conv_new w4 [a] 1 rfl #[.int .u8 a] rfl
        have hC5 := hC4.kept (World.grownBy_alloc w4 (.cells #[.int .u8 ((ws[c]'hc).toNat : Int)] 5) none) (fun k hk => by cases hk)
        have P5 := pick_any _ B b k4 hC5 (by omega) 3 (by omega) (by omega)
        clear P3 c0 c1 hC3 hC4 hC5
        go_wp2_with fail
        refine P5.mono ?_
        rintro e w5 ⟨y, rfl, y0, y1, ⟨⟨k6, hk6, hC6⟩, hg6⟩⟩
        have hgA := grown_and hg2 (grown_and hg3 (grown_and hg4 (grown_and (World.grownBy_alloc w4 _ (some b)) hg6)))
        clear P5 V hg2 hg3 hg4 hg6
        have hy : y = 0 ∨ y = 1 ∨ 2 ≤ y := by omega
        rcases hy with rfl | rfl | hy
        · go_wp2_with fail
          go_quiet (fail)
          go_wp2
          exact ⟨⟨j - 1, k6, _, by go_num, rfl, by have := sz u i (ws[c]'hc) hi; omega, by omega, hC6.drewN _, grown_and hgA (drewN_grown _ _ _)⟩, by simp [intOf]; omega⟩
        · go_wp2_with fail
          go_quiet (fail)
          go_wp2
          exact ⟨⟨j - 1, k6, _, by go_num, rfl, by have := sz u i (ws[c]'hc) hi; omega, by omega, hC6.drewN _, grown_and hgA (drewN_grown _ _ _)⟩, by simp [intOf]; omega⟩
        · go_wp2_with fail
          go_quiet (fail)
          go_wp2
          exact ⟨⟨j - 1, k6, _, by go_num, rfl, by have := sz u i 0 hi; omega, by omega, hC6.drewN _, grown_and hgA (drewN_grown _ _ _)⟩, by simp [intOf]; omega⟩
      · go_wp2
        go_ret
        exact ⟨u, rfl, by omega, ⟨k2, by omega, hC2⟩, hg2⟩
    · go_wp2
      go_ret
      exact ⟨u, rfl, by omega, ⟨k2, by omega, hC2⟩, hg2⟩

set_option maxRecDepth 100000 in
set_option maxHeartbeats 2000000 in
theorem text_any (w : World) (B b k : Nat) (h : Cur w B b k) (hk : k ≤ 700000000) :
    Calls Try.prog 31 #[.pointer (some ⟨b, 0, none⟩)] w fun e w' => ∃ t : ByteArray, e = .returned (.string t) ∧ t.size ≤ 30 ∧ Moved w w' B b k 60 := by
  have R := runes_any w B b k 7 h (by omega) (by omega)
  clear h
  go_enter Try.func31, Try.ntmps31
  go_wp2_with fail
  refine R.mono ?_
  rintro e w1 ⟨v1, zs, rfl, hI, hl, hgd, ⟨⟨k1, hk1, hC1⟩, hg1⟩⟩
  have E := l1Encode_any (by omega) hI hgd
  clear R
  go_wp2_with fail
  refine E.mono ?_
  rintro e w2 ⟨rfl, hb2⟩
  have hC2 := hC1.kept (below_grows hb2 none) (fun k hk => by cases hk)
  have hg2 := grown_and hg1 (below_grows hb2 (some b))
  have hsz : (⟨(encAll zs).toArray⟩ : ByteArray).size ≤ 28 := by
    have := encAll_le zs 7
    rw [List.take_of_length_le (by omega)] at this
    show (encAll zs).toArray.size ≤ 28
    simpa using this
  generalize (⟨(encAll zs).toArray⟩ : ByteArray) = u at *
  have O := oneIn_any w2 B b k1 hC2 (by omega) 6 (by omega) (by omega)
  clear E hg1 hC1 hb2 hC2 hI hgd
  go_wp2_with fail
  refine O.mono ?_
  rintro e w3 ⟨bo, rfl, ⟨⟨k3, hk3, hC3⟩, hg3⟩⟩
  have hg33 := grown_and hg2 hg3
  clear O hg2 hg3
  cases bo
  · go_wp2
    go_ret
    exact ⟨u, rfl, by omega, ⟨k3, by omega, hC3⟩, hg33⟩
  · go_wp2_with fail
    refine (spoilt_any w3 B b k3 hC3 (by omega) u _ (by omega) (by decide) (by decide)).mono ?_
    rintro e w4 ⟨t, rfl, ht, ⟨⟨k4, hk4, hC4⟩, hg4⟩⟩
    go_wp2
    go_ret
    exact ⟨t, rfl, by omega, ⟨k4, by omega, hC4⟩, grown_and hg33 hg4⟩
end Go.Proofs.Ytahnbomjnnkclaa
