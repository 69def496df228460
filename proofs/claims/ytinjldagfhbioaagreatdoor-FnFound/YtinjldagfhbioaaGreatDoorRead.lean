/- Contract of the program's readText: for a text of at most 2^30 bytes it hands back the runes and the count of the plain function 'decT', in memory of its own. -/
import Derived.Test.YtinjldagfhbioaaGreatDoorDecode
import Derived.WalkSmall
namespace Go.Proofs.YtinjldagfhbioaaGreatDoor
open Go.RowKit

theorem own_low {w : World} {B B' e size n : Nat} {v : Value} {xs : List Value} (h : w.ownsRow B' e size v n xs) (hB : B ≤ B') : w.ownsRow B e size v n xs := by
  obtain ⟨h1, h2⟩ := h
  refine ⟨h1, ?_⟩
  rcases h2 with h2 | ⟨g, cap, cur, a, b, c⟩
  · exact .inl h2
  · exact .inr ⟨g, cap, cur, a, by omega, c⟩

def ReadRel (s : ByteArray) (w : World) (v b nx : Value) (wr : World) : Prop :=
  ∃ (p q f bad : Nat) (acc : List Int), b = .int .i64 bad ∧ nx = .int .i64 q ∧ wr.heap[w.heap.size]? = some (.stringIter s p) ∧ Ints wr (w.heap.size + 1) v acc ∧ Below w.heap.size w wr ∧
    p ≤ q ∧ q ≤ s.size ∧ (∀ j, p ≤ j → j < q → 128 ≤ Dec.bt s j ∧ Dec.bt s j ≤ 191) ∧
    acc ++ (Dec.decT f (s.extract q s.size)).1 = (Dec.decT s.size s).1 ∧ bad + (Dec.decT f (s.extract q s.size)).2 = (Dec.decT s.size s).2 ∧ s.size ≤ q + f ∧ acc.length ≤ q ∧ bad ≤ q

theorem extract_all (s : ByteArray) : s.extract 0 s.size = s := by simp

set_option maxRecDepth 100000 in
set_option maxHeartbeats 2000000 in
theorem readText_any (s : ByteArray) (w : World) (hs : s.size ≤ 1073741824) :
    Calls Tryz.prog 76 #[.string s] w fun e w' => ∃ v, e = .returned (.tuple #[v, .int .i64 ((Dec.decT s.size s).2 : Int)]) ∧ Ints w' w.heap.size v (Dec.decT s.size s).1 ∧ Below w.heap.size w w' := by
  obtain ⟨i0, hi, hz0, hz1, hz2⟩ := info_parts info_int
  go_enter Tryz.func76, Tryz.ntmps76
  go_wp2
  go_loopw [4, 5, 6] (fun v b nx wr => ReadRel s w v b nx wr) (fun _ _ _ wr => s.size - wr.iterPos w.heap.size)
  case atStart => exact ⟨0, 0, s.size, 0, [], rfl, rfl, World.iter_heap w s 0, World.ownsRow_nil _ _ _ _, (Below.refl _ _).alloc (Nat.le_refl _) _, Nat.le_refl _, Nat.zero_le _, fun j _ h => by omega, by rw [extract_all]; simp, by rw [extract_all]; simp, by omega, by simp, Nat.le_refl _⟩
  case round =>
    obtain ⟨p, q, f, bad, acc, rfl, rfl, hit, hown, hbw, hpq, hqs, hct, hA, hB, hf, hal, hbl⟩ := hrel
    have HA : Hid _ := hA
    have HB : Hid _ := hB
    have HC : Hid _ := hct
    clear hA hB hct
    have hpos0 := iterPos_of hit
    unfold Ints at hown
    by_cases hp : p < s.size
    · have hnx : ∀ ty, (Instr.next (.pointer (some ⟨w.heap.size, 0, none⟩)) true ty).run Tryz.prog wr = _ := fun ty => Lib.run_next_any_at wr w.heap.size s p ty hit hp
      have hd1 := decode_le s p
      have hit2 := Lib.iterAt_heap wr w.heap.size s p (p + (Utf8.decode s p).2) hit
      have hbw2 := Lib.below_iterAt hbw (k := w.heap.size) (Nat.le_refl _) s (p + (Utf8.decode s p).2)
      have hown2 := ownsRow_iterAt hown (k := w.heap.size) (by omega) s (p + (Utf8.decode s p).2)
      obtain ⟨W1, hW1⟩ : ∃ W1, W1 = wr.iterAt w.heap.size s (p + (Utf8.decode s p).2) := ⟨_, rfl⟩
      rw [← hW1] at hnx hit2 hbw2 hown2
      have hBlt := lt_of_block hit2
      clear hW1 hit hown hbw
      by_cases hlt : p < q
      · have hw1 := Dec.decode_cont s p hp (HC.out p (Nat.le_refl _) hlt).1 (HC.out p (Nat.le_refl _) hlt).2
        have HW : Hid _ := hw1
        clear hw1
        go_wp2
        go_roundw
        case rel => exact ⟨p + (Utf8.decode s p).2, q, f, bad, acc, rfl, rfl, hit2, hown2, hbw2, by rw [HW.out]; omega, hqs, fun j j1 j2 => HC.out j (by rw [HW.out] at j1; omega) j2, HA.out, HB.out, hf, hal, hbl⟩
        case measure => rw [iterPos_of hit2, hpos0, HW.out]; omega
      · have hqp : q = p := by omega
        subst hqp
        have hex := Dec.size_extract s q
        have hd := Dec.decode_one s q hp
        obtain ⟨r, n, ok, HO⟩ : ∃ r n ok, Hid (Dec.one (s.extract q s.size) = (r, n, ok)) := ⟨_, _, _, rfl⟩
        have hn := Dec.one_le (s.extract q s.size) (by omega)
        have hcont := Dec.one_cont (s.extract q s.size)
        rw [HO.out] at hn hd hcont
        have HD : Hid _ := hd
        have HT : Hid _ := hcont
        clear hd hcont
        have hn1 : 1 ≤ n := hn.1
        have hn2 : n ≤ (s.extract q s.size).size := hn.2
        clear hn
        have O := fun w => front_any (s.extract q s.size) (by omega) (by unfold maxLen; omega) w
        rw [HO.out] at O
        obtain ⟨f', rfl⟩ : ∃ f', f = f' + 1 := ⟨f - 1, by omega⟩
        have hds := decT_step (by omega) HO.out f'
        rw [Dec.extract_extract] at hds
        have HA1 := HA.out
        have HB1 := HB.out
        rw [hds] at HA1 HB1
        have HA2 : Hid _ := HA1
        have HB2 : Hid _ := HB1
        have HEX : Hid _ := hex
        have hn3 : q + n ≤ s.size := by omega
        clear HA1 HB1 hds HA HB hex hn2
        have hsz := hbw2.size
        cases ok
        all_goals
          go_wp2_with (first
            | (go_at_call 35; refine (O _).mono ?_; rintro e w' ⟨rfl, rfl⟩)
            | (at_builtin; refine wpList_append_own _ rfl _ _ 35 rfl (w.heap.size + 1) 3 i0 (.int .i64 0) 1 8 Tryz.underlying35 hi hz0 hz1 hz2 rfl (by decide) _ _ _ rfl (hown2.alloc _) ⟨_, 0, none⟩ 1 1 [.int .i64 ((Utf8.decode s q).1 : Int)] rfl rfl (cell_one_new _ _ _) (fun x hx => by simp at hx; subst hx; rfl) (by unfold maxLen; omega) (by omega) (by simp; omega) ?_; intro v' w3 hown' hgrow3 _))
          have hit3 : w3.heap[w.heap.size]? = some (.stringIter s (q + (Utf8.decode s q).2)) := by
            rw [hgrow3.block w.heap.size (by simp; omega) (fun h => by have := (hown2.lt _ h.symm).1; omega), Below.heap_alloc _ _ _ hBlt]; exact hit2
          have hbw3 : Below w.heap.size w w3 := Below.grown (hbw2.alloc (by omega) _) hgrow3 (by simp; omega) (fun j hj => by have := (hown2.lt _ hj).1; omega)
          have hI := Ints.snoc hown'
          have HA3 := HA2.out
        · have hd1 : ((Utf8.decode s q).1 : Int) = r := HD.out.1
          have hd2 : (Utf8.decode s q).2 = 1 := HD.out.2
          rw [hd1] at hI
          have HB3 : bad + ((Dec.decT f' (s.extract (q + n) s.size)).2 + 1) = _ := HB2.out
          refine ⟨⟨q + (Utf8.decode s q).2, q + n, f', bad + 1, acc ++ [r], by go_num, by go_num, hit3, hI, hbw3, by omega, hn3, ?_, by simpa using HA3, by omega, by omega, by simp; omega, by omega⟩, by rw [iterPos_of hit3, hpos0]; omega⟩
          intro j j1 j2
          have := HT.out trivial (j - q) (by omega) (by show j - q < n; omega)
          rw [Dec.bt_extract s q (j - q) (by omega), show q + (j - q) = j by omega] at this
          exact this
        · have hd1 : ((Utf8.decode s q).1 : Int) = r := HD.out.1
          have hd2 : (Utf8.decode s q).2 = n := HD.out.2
          rw [hd1] at hI
          have HB3 : bad + ((Dec.decT f' (s.extract (q + n) s.size)).2 + 0) = _ := HB2.out
          exact ⟨⟨q + (Utf8.decode s q).2, q + n, f', bad, acc ++ [r], by go_num, by go_num, hit3, hI, hbw3, by omega, hn3, fun j j1 j2 => by omega, by simpa using HA3, by omega, by omega, by simp; omega, by omega⟩, by rw [iterPos_of hit3, hpos0]; omega⟩
    · have hnx : ∀ ty, (Instr.next (.pointer (some ⟨w.heap.size, 0, none⟩)) true ty).run Tryz.prog wr = _ := fun ty => Lib.run_next_end_at wr w.heap.size s p ty hit hp
      have hq0 : (s.extract q s.size).size = 0 := by rw [Dec.size_extract]; omega
      have HA2 := HA.out
      have HB2 := HB.out
      rw [Dec.decT_end _ _ hq0] at HA2 HB2
      have HA3 : Hid _ := HA2
      have HB3 : Hid _ := HB2
      clear HA2 HB2 HA HB hq0
      go_wp2
      go_ret2
      have HA4 := HA3.out
      have HB4 := HB3.out
      simp only [List.append_nil, Nat.add_zero] at HA4 HB4
      refine ⟨_, ret_v (by rw [HB4]), ?_, hbw⟩
      rw [← HA4]
      exact own_low hown (by omega)
end Go.Proofs.YtinjldagfhbioaaGreatDoor
