/- Texts of mine laid together: Decode, Read, ImplD, DGood, IApartT, IReader, IReset, IHas. -/
import Derived.Test.YtakfnmhokijcoaaGreatDoorMN4
import Derived.Test.YtakfnmhokijcoaaGreatDoorInts
import Derived.Lib.OthersKept
import Derived.WalkSmall
import Derived.WalkKit
import Derived.Test.YtakfnmhokijcoaaGreatDoorGood
import Derived.Test.YtakfnmhokijcoaaGreatDoorMN2
import Derived.Test.YtakfnmhokijcoaaGreatDoorMN3
namespace Go.Proofs.YtakfnmhokijcoaaGreatDoor
open Go.RowKit

def strLen : Value → Nat
  | .string t => t.size
  | _ => 0

def DecRel (s : ByteArray) (w : World) (sv v b : Value) (wr : World) : Prop :=
  ∃ (t : ByteArray) (f bad : Nat) (acc : List Int), sv = .string t ∧ b = .int .i64 bad ∧ Ints wr w.heap.size v acc ∧ Below w.heap.size w wr ∧
    acc ++ (Dec.decT f t).1 = (Dec.decT s.size s).1 ∧ bad + (Dec.decT f t).2 = (Dec.decT s.size s).2 ∧ t.size ≤ f ∧ acc.length + t.size ≤ s.size ∧ bad + t.size ≤ s.size

theorem decT_step {t : ByteArray} {r : Int} {n : Nat} {ok : Bool} (h0 : 0 < t.size) (ho : Dec.one t = (r, n, ok)) (f : Nat) :
    Dec.decT (f + 1) t = (r :: (Dec.decT f (t.extract n t.size)).1, (Dec.decT f (t.extract n t.size)).2 + (if ok then 0 else 1)) := by
  simp only [Dec.decT, if_pos h0, ho]

theorem ret_v {v : Value} {a a' : Int} (h : a = a') : Ending.returned (.tuple #[v, .int .i64 a]) = .returned (.tuple #[v, .int .i64 a']) := by rw [h]

set_option maxRecDepth 100000 in
set_option maxHeartbeats 2000000 in
theorem l1Decode_any (s : ByteArray) (w : World) (hs : s.size ≤ 1073741824) :
    Calls Tryz.prog 17 #[.string s] w fun e w' => ∃ v, e = .returned (.tuple #[v, .int .i64 ((Dec.decT s.size s).2 : Int)]) ∧ Ints w' w.heap.size v (Dec.decT s.size s).1 ∧ Below w.heap.size w w' := by
  obtain ⟨i0, hi, hz0, hz1, hz2⟩ := info_parts info_int
  go_enter Tryz.func17, Tryz.ntmps17
  go_wp2
  go_loopw [0, 4, 5] (fun sv v b wr => DecRel s w sv v b wr) (fun sv _ _ _ => strLen sv)
  case atStart => exact ⟨s, s.size, 0, [], rfl, rfl, World.ownsRow_nil _ _ _ _, Below.refl _ _, by simp, by simp, Nat.le_refl _, by simp, by simp⟩
  case round =>
    obtain ⟨t, f, bad, acc, rfl, rfl, hown, hbw, hA, hB, hf, hal, hbl⟩ := hrel
    have HA : Hid _ := hA
    have HB : Hid _ := hB
    clear hA hB
    unfold Ints at hown
    by_cases hp : 0 < t.size
    · obtain ⟨r, n, ok, HO⟩ : ∃ r n ok, Hid (Dec.one t = (r, n, ok)) := ⟨_, _, _, rfl⟩
      have hn := Dec.one_le t hp
      rw [HO.out] at hn
      have hn1 : 1 ≤ n := hn.1
      have hn2 : n ≤ t.size := hn.2
      clear hn
      have O := fun w => one_any t hp (by unfold maxLen; omega) w
      rw [HO.out] at O
      obtain ⟨f', rfl⟩ : ∃ f', f = f' + 1 := ⟨f - 1, by omega⟩
      have hds := decT_step hp HO.out f'
      have HA' : Hid _ := HA.out
      have HB' : Hid _ := HB.out
      unfold Hid at HA' HB'
      rw [hds] at HA' HB'
      have HA2 : Hid _ := HA'
      have HB2 : Hid _ := HB'
      clear HA' HB' hds HA HB
      have hsz := hbw.size
      have hex := Dec.size_extract t n
      cases ok
      all_goals
        go_wp2_with (first
          | (go_at_call 28; refine (O _).mono ?_; rintro e w' ⟨rfl, rfl⟩)
          | (at_builtin; refine wpList_append_own _ rfl _ _ 42 rfl w.heap.size 3 i0 (.int .i64 0) 1 8 Tryz.underlying42 hi hz0 hz1 hz2 rfl (by decide) _ _ _ rfl (hown.alloc _) ⟨_, 0, none⟩ 1 1 [.int .i64 r] rfl rfl (cell_one_new _ _ _) (fun x hx => by simp at hx; subst hx; rfl) (by unfold maxLen; omega) (by omega) (by simp; omega) ?_; intro v' w3 hown' hgrow3 _))
      · have hb3 := Below.grown (hbw.alloc (by omega) _) hgrow3 (by simp; omega) (fun j hj => (hown.lt _ hj).1)
        have HA3 := HA2.out
        have HB3 : bad + ((Dec.decT f' (t.extract n t.size)).2 + 1) = _ := HB2.out
        exact ⟨⟨t.extract n t.size, f', bad + 1, acc ++ [r], rfl, by go_num, Ints.snoc hown', hb3, by simpa using HA3, by omega, by omega, by simp; omega, by omega⟩, by simp only [strLen]; omega⟩
      · have hb3 := Below.grown (hbw.alloc (by omega) _) hgrow3 (by simp; omega) (fun j hj => (hown.lt _ hj).1)
        have HA3 := HA2.out
        have HB3 : bad + ((Dec.decT f' (t.extract n t.size)).2 + 0) = _ := HB2.out
        exact ⟨⟨t.extract n t.size, f', bad, acc ++ [r], rfl, by go_num, Ints.snoc hown', hb3, by simpa using HA3, by omega, by omega, by simp; omega, by omega⟩, by simp only [strLen]; omega⟩
    · have ht0 : t.size = 0 := by omega
      have HA2 := HA.out
      have HB2 := HB.out
      rw [Dec.decT_end _ _ ht0] at HA2 HB2
      have HA3 : Hid _ := HA2
      have HB3 : Hid _ := HB2
      clear HA2 HB2 HA HB
      go_wp2
      go_ret2
      have HA4 := HA3.out
      have HB4 := HB3.out
      simp only [List.append_nil, Nat.add_zero] at HA4 HB4
      refine ⟨_, ret_v (by rw [HB4]), ?_, hbw⟩
      rw [← HA4]
      exact hown
end Go.Proofs.YtakfnmhokijcoaaGreatDoor

namespace Go.Proofs.YtakfnmhokijcoaaGreatDoor
open Go.RowKit

theorem own_low {w : World} {B B' e size n : Nat} {v : Value} {xs : List Value} (h : w.ownsRow B' e size v n xs) (hB : B ≤ B') : w.ownsRow B e size v n xs := by
  obtain ⟨h1, h2⟩ := h
  refine ⟨h1, ?_⟩
  rcases h2 with h2 | ⟨g, cap, cur, a, b, c⟩
  · exact .inl h2
  · exact .inr ⟨g, cap, cur, a, by omega, c⟩

def ReadRel (s : ByteArray) (w : World) (v b nx : Value) (wr : World) : Prop :=
  ∃ (p q f bad : Nat) (acc : List Int), b = .int .i64 bad ∧ nx = .int .i64 q ∧ wr.heap[w.heap.size]? = some (.stringIter s p) ∧ Ints wr (w.heap.size + 1) v acc ∧ Below w.heap.size w wr ∧
    p ≤ q ∧ q ≤ s.size ∧ (∀ j, p ≤ j → j < q → 128 ≤ Dec.bt s j ∧ Dec.bt s j ≤ 191) ∧
    acc ++ (Dec.decT f (s.extract q s.size)).1 = (Dec.decT s.size s).1 ∧ bad + (Dec.decT f (s.extract q s.size)).2 = (Dec.decT s.size s).2 ∧ s.size ≤ q + f ∧ acc.length ≤ q ∧ bad ≤ q

theorem extract_all (s : ByteArray) : s.extract 0 s.size = s := by simp

set_option maxRecDepth 100000 in
set_option maxHeartbeats 2000000 in
theorem readText_any (s : ByteArray) (w : World) (hs : s.size ≤ 1073741824) :
    Calls Tryz.prog 82 #[.string s] w fun e w' => ∃ v, e = .returned (.tuple #[v, .int .i64 ((Dec.decT s.size s).2 : Int)]) ∧ Ints w' w.heap.size v (Dec.decT s.size s).1 ∧ Below w.heap.size w w' := by
  obtain ⟨i0, hi, hz0, hz1, hz2⟩ := info_parts info_int
  go_enter Tryz.func82, Tryz.ntmps82
  go_wp2
  go_loopw [4, 5, 6] (fun v b nx wr => ReadRel s w v b nx wr) (fun _ _ _ wr => s.size - wr.iterPos w.heap.size)
  case atStart => exact ⟨0, 0, s.size, 0, [], rfl, rfl, World.iter_heap w s 0, World.ownsRow_nil _ _ _ _, (Below.refl _ _).alloc (Nat.le_refl _) _, Nat.le_refl _, Nat.zero_le _, fun j _ h => by omega, by rw [extract_all]; simp, by rw [extract_all]; simp, by omega, by simp, Nat.le_refl _⟩
  case round =>
    obtain ⟨p, q, f, bad, acc, rfl, rfl, hit, hown, hbw, hpq, hqs, hct, hA, hB, hf, hal, hbl⟩ := hrel
    have HA : Hid _ := hA
    have HB : Hid _ := hB
    have HC : Hid _ := hct
    clear hA hB hct
    have hpos0 := iterPos_of hit
    unfold Ints at hown
    by_cases hp : p < s.size
    · have hnx : ∀ ty, (Instr.next (.pointer (some ⟨w.heap.size, 0, none⟩)) true ty).run Tryz.prog wr = _ := fun ty => Lib.run_next_any_at wr w.heap.size s p ty hit hp
      have hd1 := decode_le s p
      have hit2 := Lib.iterAt_heap wr w.heap.size s p (p + (Utf8.decode s p).2) hit
      have hbw2 := Lib.below_iterAt hbw (k := w.heap.size) (Nat.le_refl _) s (p + (Utf8.decode s p).2)
      have hown2 := ownsRow_iterAt hown (k := w.heap.size) (by omega) s (p + (Utf8.decode s p).2)
      obtain ⟨W1, hW1⟩ : ∃ W1, W1 = wr.iterAt w.heap.size s (p + (Utf8.decode s p).2) := ⟨_, rfl⟩
      rw [← hW1] at hnx hit2 hbw2 hown2
      have hBlt := lt_of_block hit2
      clear hW1 hit hown hbw
      by_cases hlt : p < q
      · have hw1 := Dec.decode_cont s p hp (HC.out p (Nat.le_refl _) hlt).1 (HC.out p (Nat.le_refl _) hlt).2
        have HW : Hid _ := hw1
        clear hw1
        go_wp2
        go_roundw
        case rel => exact ⟨p + (Utf8.decode s p).2, q, f, bad, acc, rfl, rfl, hit2, hown2, hbw2, by rw [HW.out]; omega, hqs, fun j j1 j2 => HC.out j (by rw [HW.out] at j1; omega) j2, HA.out, HB.out, hf, hal, hbl⟩
        case measure => rw [iterPos_of hit2, hpos0, HW.out]; omega
      · have hqp : q = p := by omega
        subst hqp
        have hex := Dec.size_extract s q
        have hd := Dec.decode_one s q hp
        obtain ⟨r, n, ok, HO⟩ : ∃ r n ok, Hid (Dec.one (s.extract q s.size) = (r, n, ok)) := ⟨_, _, _, rfl⟩
        have hn := Dec.one_le (s.extract q s.size) (by omega)
        have hcont := Dec.one_cont (s.extract q s.size)
        rw [HO.out] at hn hd hcont
        have HD : Hid _ := hd
        have HT : Hid _ := hcont
        clear hd hcont
        have hn1 : 1 ≤ n := hn.1
        have hn2 : n ≤ (s.extract q s.size).size := hn.2
        clear hn
        have O := fun w => front_any (s.extract q s.size) (by omega) (by unfold maxLen; omega) w
        rw [HO.out] at O
        obtain ⟨f', rfl⟩ : ∃ f', f = f' + 1 := ⟨f - 1, by omega⟩
        have hds := decT_step (by omega) HO.out f'
        rw [Dec.extract_extract] at hds
        have HA1 := HA.out
        have HB1 := HB.out
        rw [hds] at HA1 HB1
        have HA2 : Hid _ := HA1
        have HB2 : Hid _ := HB1
        have HEX : Hid _ := hex
        have hn3 : q + n ≤ s.size := by omega
        clear HA1 HB1 hds HA HB hex hn2
        have hsz := hbw2.size
        cases ok
        all_goals
          go_wp2_with (first
            | (go_at_call 88; refine (O _).mono ?_; rintro e w' ⟨rfl, rfl⟩)
            | (at_builtin; refine wpList_append_own _ rfl _ _ 42 rfl (w.heap.size + 1) 3 i0 (.int .i64 0) 1 8 Tryz.underlying42 hi hz0 hz1 hz2 rfl (by decide) _ _ _ rfl (hown2.alloc _) ⟨_, 0, none⟩ 1 1 [.int .i64 ((Utf8.decode s q).1 : Int)] rfl rfl (cell_one_new _ _ _) (fun x hx => by simp at hx; subst hx; rfl) (by unfold maxLen; omega) (by omega) (by simp; omega) ?_; intro v' w3 hown' hgrow3 _))
          have hit3 : w3.heap[w.heap.size]? = some (.stringIter s (q + (Utf8.decode s q).2)) := by
            rw [hgrow3.block w.heap.size (by simp; omega) (fun h => by have := (hown2.lt _ h.symm).1; omega), Below.heap_alloc _ _ _ hBlt]; exact hit2
          have hbw3 : Below w.heap.size w w3 := Below.grown (hbw2.alloc (by omega) _) hgrow3 (by simp; omega) (fun j hj => by have := (hown2.lt _ hj).1; omega)
          have hI := Ints.snoc hown'
          have HA3 := HA2.out
        · have hd1 : ((Utf8.decode s q).1 : Int) = r := HD.out.1
          have hd2 : (Utf8.decode s q).2 = 1 := HD.out.2
          rw [hd1] at hI
          have HB3 : bad + ((Dec.decT f' (s.extract (q + n) s.size)).2 + 1) = _ := HB2.out
          refine ⟨⟨q + (Utf8.decode s q).2, q + n, f', bad + 1, acc ++ [r], by go_num, by go_num, hit3, hI, hbw3, by omega, hn3, ?_, by simpa using HA3, by omega, by omega, by simp; omega, by omega⟩, by rw [iterPos_of hit3, hpos0]; omega⟩
          intro j j1 j2
          have := HT.out trivial (j - q) (by omega) (by show j - q < n; omega)
          rw [Dec.bt_extract s q (j - q) (by omega), show q + (j - q) = j by omega] at this
          exact this
        · have hd1 : ((Utf8.decode s q).1 : Int) = r := HD.out.1
          have hd2 : (Utf8.decode s q).2 = n := HD.out.2
          rw [hd1] at hI
          have HB3 : bad + ((Dec.decT f' (s.extract (q + n) s.size)).2 + 0) = _ := HB2.out
          exact ⟨⟨q + (Utf8.decode s q).2, q + n, f', bad, acc ++ [r], by go_num, by go_num, hit3, hI, hbw3, by omega, hn3, fun j j1 j2 => by omega, by simpa using HA3, by omega, by omega, by simp; omega, by omega⟩, by rw [iterPos_of hit3, hpos0]; omega⟩
    · have hnx : ∀ ty, (Instr.next (.pointer (some ⟨w.heap.size, 0, none⟩)) true ty).run Tryz.prog wr = _ := fun ty => Lib.run_next_end_at wr w.heap.size s p ty hit hp
      have hq0 : (s.extract q s.size).size = 0 := by rw [Dec.size_extract]; omega
      have HA2 := HA.out
      have HB2 := HB.out
      rw [Dec.decT_end _ _ hq0] at HA2 HB2
      have HA3 : Hid _ := HA2
      have HB3 : Hid _ := HB2
      clear HA2 HB2 HA HB hq0
      go_wp2
      go_ret2
      have HA4 := HA3.out
      have HB4 := HB3.out
      simp only [List.append_nil, Nat.add_zero] at HA4 HB4
      refine ⟨_, ret_v (by rw [HB4]), ?_, hbw⟩
      rw [← HA4]
      exact own_low hown (by omega)
end Go.Proofs.YtakfnmhokijcoaaGreatDoor

namespace Go.Proofs.YtakfnmhokijcoaaGreatDoor
open Go.RowKit

set_option maxRecDepth 100000 in
set_option maxHeartbeats 1000000 in
theorem implDecode_any (s : ByteArray) (w : World) (hs : s.size ≤ 200) :
    Calls Tryz.prog 72 #[.string s] w fun e w' => ∃ v, e = .returned (.tuple #[v, .bool true]) ∧ Ints w' w.heap.size v (Dec.decT s.size s).1 ∧ Below w.heap.size w w' := by
  have D := fun w => readText_any s w (by omega)
  go_enter Tryz.func72, Tryz.ntmps72
  go_wp2_with (go_at_call 82; refine (D _).mono ?_; rintro e w' ⟨v, rfl, hI, hb⟩)
  go_ret2
  exact ⟨_, rfl, hI, hb⟩

set_option maxRecDepth 100000 in
set_option maxHeartbeats 1000000 in
theorem implDecode_no (s : ByteArray) (w : World) (hs : 200 < s.size) (hm : s.size ≤ 1048576) :
    Calls Tryz.prog 72 #[.string s] w fun e w' => e = .returned (.tuple #[.slice none 0 0, .bool false]) ∧ w' = w := by
  go_enter Tryz.func72, Tryz.ntmps72
  go_wp2
  go_ret2
  exact ⟨rfl, rfl⟩
end Go.Proofs.YtakfnmhokijcoaaGreatDoor

namespace Go.Proofs.YtakfnmhokijcoaaGreatDoor
open Go.RowKit

set_option maxHeartbeats 1000000 in
theorem decode_good (s : ByteArray) (p : Nat) : (Utf8.decode s p).1 ≤ 1114111 ∧ ((Utf8.decode s p).1 < 55296 ∨ 57343 < (Utf8.decode s p).1) := by
  have hb : ∀ k, (s.get! (p + k)).toNat < 256 := fun k => (s.get! (p + k)).toNat_lt
  have h0 := hb 0; have h1 := hb 1; have h2 := hb 2; have h3 := hb 3
  simp only [Utf8.decode]
  repeat' split
  all_goals simp_all [Utf8.runeError, Utf8.valid]
  all_goals omega

theorem one_good (t : ByteArray) (h : 0 < t.size) : goodB (Dec.one t).1 = true := by
  have hd := (Dec.decode_one t 0 h).1
  rw [extract_all] at hd
  have hg := decode_good t 0
  rw [← hd]
  exact decide_eq_true (by omega)

theorem dec_good : ∀ (f : Nat) (t : ByteArray), ∀ x ∈ (Dec.decT f t).1, goodB x = true := by
  intro f
  induction f with
  | zero => intro t x hx; simp [Dec.decT] at hx
  | succ f ih =>
    intro t x hx
    simp only [Dec.decT] at hx
    split at hx
    · rename_i h0
      simp only [List.mem_cons] at hx
      rcases hx with rfl | hx
      · exact one_good t h0
      · exact ih _ x hx
    · simp at hx
end Go.Proofs.YtakfnmhokijcoaaGreatDoor

namespace Go.Proofs.YtakfnmhokijcoaaGreatDoor
open Go.RowKit

theorem okR_dec {x : ByteArray} (h : x.size ≤ 200) : okR (Dec.decT x.size x).1 = true := decide_eq_true ⟨Nat.le_trans (Dec.decT_len x.size x (Nat.le_refl _)).1 h, dec_good x.size x⟩

/-- The runes of a text, where they are not too many. -/
def aR (x : ByteArray) : List Int := if ok4 x = true then rn4 x else []

theorem aR_len (x : ByteArray) : (aR x).length ≤ 200 := by
  unfold aR
  split
  · rename_i h
    exact (of_decide_eq_true h).2
  · simp

set_option maxRecDepth 100000 in
set_option maxHeartbeats 4000000 in
theorem apartT_any (x : ByteArray) (hx : x.size ≤ 1048576) (u : World) (ht : Tabs3 u) :
    Calls Tryz.prog 58 #[.string x] u fun e u' => ∃ v, e = .returned (.tuple #[v, .bool (ok4 x)]) ∧ Ints u' u.heap.size v (aR x) ∧ Below u.heap.size u u' := by
  by_cases h : x.size ≤ 200
  · have D := fun w => implDecode_any x w h
    have hok := okR_dec h
    have hlen := (Dec.decT_len x.size x (Nat.le_refl _)).1
    have N := fun (u' : World) (v : Value) (hb : Below u.heap.size u u') (hI : Ints u' u.heap.size v (Dec.decT x.size x).1) => implD_any (by omega) hI (ht.below hb).1 (ht.below hb).2.1 (ht.below hb).2.2
    have ho4 : okD (Dec.decT x.size x).1 = ok4 x := by
      rw [okD_eq hok]
      unfold ok4 rn4
      rw [decide_eq_decide]
      omega
    have han : ansD (Dec.decT x.size x).1 = aR x := by
      unfold ansD aR
      rw [ho4]
      rfl
    rw [ho4, han] at N
    generalize (Dec.decT x.size x).1 = ds at *
    generalize ok4 x = ok at *
    generalize aR x = l at *
    clear hok ht ho4 han
    go_enter Tryz.func58, Tryz.ntmps58
    go_wp2_with fail
    refine (D _).mono ?_
    rintro e w1 ⟨v1, rfl, i1, b1⟩
    clear D
    have N1 := N _ _ b1 i1
    clear N i1
    go_wp2_with fail
    refine N1.mono ?_
    rintro e w2 ⟨v2, rfl, i2, b2⟩
    clear N1
    go_wp2
    go_ret2
    exact ⟨_, rfl, ints_low2 i2 b1.size, b1.trans (b2.mono b1.size)⟩
  · have D := fun w => implDecode_no x w (by omega) hx
    have h1 : ok4 x = false := decide_eq_false fun c => h c.1
    have h2 : aR x = [] := by unfold aR; rw [h1]; rfl
    rw [h1, h2]
    clear h1 h2 ht
    go_enter Tryz.func58, Tryz.ntmps58
    go_wp2_with fail
    refine (D _).mono ?_
    rintro e w1 ⟨rfl, rfl⟩
    clear D
    go_wp2
    go_ret2
    exact ⟨_, rfl, ⟨rfl, .inl ⟨rfl, rfl⟩⟩, Below.refl _ _⟩
end Go.Proofs.YtakfnmhokijcoaaGreatDoor

namespace Go.Proofs.YtakfnmhokijcoaaGreatDoor
open Go.RowKit

set_option maxRecDepth 100000 in
set_option maxHeartbeats 2000000 in
theorem cut_any (t : List UInt8) (ht : t.length ≤ 1048576) (w : World) :
    Calls Tryz.prog 45 #[.string ⟨t.toArray⟩, .string ⟨#[32]⟩] w fun e w' => ∃ b, e = .returned (.tuple #[.string ⟨(cutL t).1.toArray⟩, .string ⟨(cutL t).2.toArray⟩, .bool b]) ∧ ∃ n, w' = w.drewN n := by
  have A := fun w => liteCut_any t ht w
  generalize (⟨(cutL t).1.toArray⟩ : ByteArray) = x1 at *
  generalize (⟨(cutL t).2.toArray⟩ : ByteArray) = x2 at *
  generalize (⟨t.toArray⟩ : ByteArray) = s at *
  go_enter Tryz.func45, Tryz.ntmps45
  go_wp2_with fail
  refine (A _).mono ?_
  rintro e w1 ⟨bb, rfl, n, rfl⟩
  clear A
  go_wp2
  go_ret3
  exact ⟨_, rfl, n, rfl⟩

theorem RdM.drewN {w u : World} {b T : Nat} {l : List UInt8} {st : RS} {vE : Value} (h : RdM w u b T l st vE) (n : Nat) : RdM w (u.drewN n) b T l st vE := h.step (below_drewN (Below.refl _ _) n)

set_option maxRecDepth 100000 in
set_option maxHeartbeats 4000000 in
theorem nextWd_any {w u : World} {b T : Nat} {l : List UInt8} {st : RS} {vE : Value} (h : RdM w u b T l st vE) (hl : l.length ≤ 1048576) :
    Calls Tryz.prog 36 #[.pointer (some ⟨b, 0, none⟩)] u fun e u' => e = .returned (.string (wdB l)) ∧ RdM w u' b T (wdR l) st vE := by
  have A := fun w => trim_any l w
  have C := fun w => cut_any (l.dropWhile (· == 32)) (Nat.le_trans (List.dropWhile_sublist (fun x => x == 32)).length_le hl) w
  rw [← nextL_cut] at C
  have HM : Hid (RdM _ _ _ _ _ _ _) := h
  obtain ⟨c0, _, _, _, _, _, _, _, _, fz⟩ := h.cells
  have hlt := h.lt
  have HS : Hid (∀ n, RdM w ((u.drewN n).setCell ⟨b, 0, none⟩ (.string ⟨(nextL l).2.toArray⟩)) b T (nextL l).2 st vE) := fun n => (HM.out.drewN n).set (l' := (nextL l).2) (st' := st) (vE' := vE) rfl rfl rfl
  unfold wdB wdR
  generalize (⟨(nextL l).1.toArray⟩ : ByteArray) = x1 at *
  have HS2 : Hid (∀ n x, x = (⟨(nextL l).2.toArray⟩ : ByteArray) → RdM w ((u.drewN n).setCell ⟨b, 0, none⟩ (.string x)) b T (nextL l).2 st vE) := fun n x hx => by rw [hx]; exact HS.out n
  obtain ⟨x2, hx2⟩ : ∃ x2, x2 = (⟨(nextL l).2.toArray⟩ : ByteArray) := ⟨_, rfl⟩
  rw [← hx2] at C
  have HS3 : Hid (∀ n, RdM w ((u.drewN n).setCell ⟨b, 0, none⟩ (.string x2)) b T (nextL l).2 st vE) := fun n => HS2.out n x2 hx2
  clear HS HS2 hx2 HM h
  generalize (⟨(l.dropWhile (· == 32)).toArray⟩ : ByteArray) = x3 at *
  generalize (⟨l.toArray⟩ : ByteArray) = x4 at *
  go_enter Tryz.func36, Tryz.ntmps36
  go_wp2_with fail
  refine (A _).mono ?_
  rintro e w1 ⟨rfl, rfl⟩
  clear A
  go_wp2_with fail
  refine (C _).mono ?_
  rintro e w2 ⟨bb, rfl, n, rfl⟩
  clear C
  go_wp2
  go_ret
  exact ⟨rfl, HS3.out n⟩

/-- The runes of a word. -/
def jR (x : ByteArray) : List Int := if jOk x = true then nD (Dec.decT x.size x).1 else []

theorem jOk_yes {x : ByteArray} (h : ok4 x = true) : jOk x = runesOk (rn4 x) := by
  unfold jOk
  rw [decide_eq_true (of_decide_eq_true h).1, Bool.true_and]
  rfl

theorem jOk_no {x : ByteArray} (h : ok4 x = false) : jOk x = false := by
  unfold jOk
  by_cases c : x.size ≤ 200
  · rw [decide_eq_true c, Bool.true_and]
    cases d : runesOk (nD (Dec.decT x.size x).1)
    · rfl
    · have := runesOk_len d
      exact absurd ⟨c, by unfold rn4; omega⟩ (of_decide_eq_false h)
  · rw [decide_eq_false c, Bool.false_and]

set_option maxRecDepth 100000 in
set_option maxHeartbeats 4000000 in
theorem joinedR_any (x : ByteArray) (hx : x.size ≤ 1048576) (u : World) (ht : Tabs3 u) :
    Calls Tryz.prog 47 #[.string x] u fun e u' => ∃ v, e = .returned (.tuple #[v, .bool (jOk x)]) ∧ Ints u' u.heap.size v (jR x) ∧ Below u.heap.size u u' := by
  have A := fun w => apartT_any x hx w
  have hl := aR_len x
  unfold jR
  cases h : ok4 x
  · rw [jOk_no h]
    have A1 := A u ht
    rw [h] at A1
    simp only [Bool.false_eq_true, if_false]
    clear A h ht
    go_enter Tryz.func47, Tryz.ntmps47
    go_wp2_with fail
    refine A1.mono ?_
    rintro e w1 ⟨v1, rfl, i1, b1⟩
    clear A1
    go_wp2
    go_ret2
    exact ⟨_, rfl, ⟨rfl, .inl ⟨rfl, rfl⟩⟩, b1⟩
  · have A1 := A u ht
    have hr : aR x = rn4 x := by unfold aR; rw [h]; rfl
    rw [jOk_yes h]
    rw [h, hr] at A1
    rw [hr] at hl
    change Calls Tryz.prog 47 #[.string x] u fun e u' => ∃ v, e = .returned (.tuple #[v, .bool (runesOk (rn4 x))]) ∧ Ints u' u.heap.size v (if runesOk (rn4 x) = true then rn4 x else []) ∧ Below u.heap.size u u'
    generalize rn4 x = r at *
    have J := fun (u' : World) (v : Value) (B : Nat) (hb : Below u.heap.size u u') (hI : Ints u' B v r) => joined_any (by omega) hI (ht.below hb)
    clear A h hr ht
    cases hr : runesOk r
    · rw [hr] at J
      simp only [Bool.false_eq_true, if_false]
      go_enter Tryz.func47, Tryz.ntmps47
      go_wp2_with fail
      refine A1.mono ?_
      rintro e w1 ⟨v1, rfl, i1, b1⟩
      have J1 := J _ _ _ b1 i1
      clear A1 J
      go_wp2_with fail
      refine J1.mono ?_
      rintro e w3 ⟨rfl, b4⟩
      clear J1
      go_wp2
      go_ret2
      exact ⟨_, rfl, ⟨rfl, .inl ⟨rfl, rfl⟩⟩, b1.trans (b4.mono b1.size)⟩
    · rw [hr] at J
      simp only [if_true]
      go_enter Tryz.func47, Tryz.ntmps47
      go_wp2_with fail
      refine A1.mono ?_
      rintro e w1 ⟨v1, rfl, i1, b1⟩
      have J1 := J _ _ _ b1 i1
      clear A1 J
      go_wp2_with fail
      refine J1.mono ?_
      rintro e w3 ⟨rfl, b4⟩
      clear J1
      have i3 := i1.below b4
      go_wp2
      go_ret2
      exact ⟨_, rfl, i3, b1.trans (b4.mono b1.size)⟩

theorem levR_lit (st : RS) (x : ByteArray) : levR st x = if (x.toList == [49, 93]) = true then .ok { st with lv := 1 } else if (x.toList == [50, 93]) = true then .ok { st with lv := 2 } else if (x.toList == [51, 93]) = true then .ok { st with lv := 3 } else if (x.toList == [52, 93]) = true then .ok { st with lv := 4 } else .error 2 := by
  unfold levR
  rw [levN_lit]
  repeat' split
  all_goals simp_all

/-- What a step of the reader leaves. -/
def Out (w u' : World) (b : Nat) (l : List UInt8) (r : Except Int RS) (c : Int) : Prop := (r = .error c ∧ c ≠ 0 ∧ Below b w u') ∨ ∃ st T vE, r = .ok st ∧ c = 0 ∧ RdM w u' b T l st vE

set_option maxRecDepth 100000 in
set_option maxHeartbeats 4000000 in
theorem levels_any {w u : World} {b T : Nat} {l : List UInt8} {st : RS} {vE : Value} (h : RdM w u b T l st vE) (hl : l.length ≤ 1048576) :
    Calls Tryz.prog 37 #[.pointer (some ⟨b, 0, none⟩)] u fun e u' => ∃ c, e = .returned (.int .i64 c) ∧ Out w u' b (wdR l) (levR st (wdB l)) c := by
  have NW := nextWd_any h hl
  have HR : Hid (levR st (wdB l) = if ((wdB l).toList == [49, 93]) = true then .ok { st with lv := 1 } else if ((wdB l).toList == [50, 93]) = true then .ok { st with lv := 2 } else if ((wdB l).toList == [51, 93]) = true then .ok { st with lv := 3 } else if ((wdB l).toList == [52, 93]) = true then .ok { st with lv := 4 } else .error 2) := levR_lit st (wdB l)
  clear h
  generalize levR st (wdB l) = R at *
  generalize wdB l = x at *
  generalize wdR l = l2 at *
  by_cases c1 : (x.toList == [49, 93]) = true
  · have HR1 : Hid (R = .ok { st with lv := 1 }) := HR.out.trans (by rw [if_pos c1])
    clear HR
    go_enter Tryz.func37, Tryz.ntmps37
    go_wp2_with fail
    refine NW.mono ?_
    rintro e u1 ⟨rfl, hm⟩
    have HS : Hid (RdM w (u1.setCell ⟨b, 3, none⟩ (.int .i64 1)) b T l2 { st with lv := 1 } vE) := hm.set rfl rfl rfl
    obtain ⟨_, _, _, c3, _, _, _, _, _, fz⟩ := hm.cells
    have hlt := hm.lt
    clear NW hm
    go_wp2
    go_ret
    exact ⟨0, rfl, .inr ⟨_, _, _, HR1.out, rfl, HS.out⟩⟩
  · have c1' : (x.toList == [49, 93]) = false := by simpa using c1
    by_cases c2 : (x.toList == [50, 93]) = true
    · have HR1 : Hid (R = .ok { st with lv := 2 }) := HR.out.trans (by rw [if_neg c1, if_pos c2])
      clear HR c1
      go_enter Tryz.func37, Tryz.ntmps37
      go_wp2_with fail
      refine NW.mono ?_
      rintro e u1 ⟨rfl, hm⟩
      have HS : Hid (RdM w (u1.setCell ⟨b, 3, none⟩ (.int .i64 2)) b T l2 { st with lv := 2 } vE) := hm.set rfl rfl rfl
      obtain ⟨_, _, _, c3, _, _, _, _, _, fz⟩ := hm.cells
      have hlt := hm.lt
      clear NW hm
      go_wp2
      go_ret
      exact ⟨0, rfl, .inr ⟨_, _, _, HR1.out, rfl, HS.out⟩⟩
    · have c2' : (x.toList == [50, 93]) = false := by simpa using c2
      by_cases c3 : (x.toList == [51, 93]) = true
      · have HR1 : Hid (R = .ok { st with lv := 3 }) := HR.out.trans (by rw [if_neg c1, if_neg c2, if_pos c3])
        clear HR c1 c2
        go_enter Tryz.func37, Tryz.ntmps37
        go_wp2_with fail
        refine NW.mono ?_
        rintro e u1 ⟨rfl, hm⟩
        have HS : Hid (RdM w (u1.setCell ⟨b, 3, none⟩ (.int .i64 3)) b T l2 { st with lv := 3 } vE) := hm.set rfl rfl rfl
        obtain ⟨_, _, _, c3', _, _, _, _, _, fz⟩ := hm.cells
        have hlt := hm.lt
        clear NW hm
        go_wp2
        go_ret
        exact ⟨0, rfl, .inr ⟨_, _, _, HR1.out, rfl, HS.out⟩⟩
      · have c3' : (x.toList == [51, 93]) = false := by simpa using c3
        by_cases c4 : (x.toList == [52, 93]) = true
        · have HR1 : Hid (R = .ok { st with lv := 4 }) := HR.out.trans (by rw [if_neg c1, if_neg c2, if_neg c3, if_pos c4])
          clear HR c1 c2 c3
          go_enter Tryz.func37, Tryz.ntmps37
          go_wp2_with fail
          refine NW.mono ?_
          rintro e u1 ⟨rfl, hm⟩
          have HS : Hid (RdM w (u1.setCell ⟨b, 3, none⟩ (.int .i64 4)) b T l2 { st with lv := 4 } vE) := hm.set rfl rfl rfl
          obtain ⟨_, _, _, c3'', _, _, _, _, _, fz⟩ := hm.cells
          have hlt := hm.lt
          clear NW hm
          go_wp2
          go_ret
          exact ⟨0, rfl, .inr ⟨_, _, _, HR1.out, rfl, HS.out⟩⟩
        · have c4' : (x.toList == [52, 93]) = false := by simpa using c4
          have HR1 : Hid (R = .error 2) := HR.out.trans (by rw [if_neg c1, if_neg c2, if_neg c3, if_neg c4])
          clear HR c1 c2 c3 c4
          go_enter Tryz.func37, Tryz.ntmps37
          go_wp2_with fail
          refine NW.mono ?_
          rintro e u1 ⟨rfl, hm⟩
          have HB : Hid (Below _ _ _) := hm.be
          clear NW hm
          go_wp2
          go_ret
          exact ⟨2, rfl, .inl ⟨HR1.out, by decide, HB.out⟩⟩
end Go.Proofs.YtakfnmhokijcoaaGreatDoor

namespace Go.Proofs.YtakfnmhokijcoaaGreatDoor
open Go.RowKit

theorem wd_len (l : List UInt8) : (wdB l).size ≤ l.length ∧ (wdR l).length ≤ l.length := ⟨(nextL_size l).1, (nextL_size l).2⟩

theorem elemOk_in {es : List Ent} {lv : Int} {l : List Int} (h1 : rulesOk es lv = true) (h2 : runesOk l = true) : elemOk es lv l = elemE es l := by
  unfold elemOk; rw [if_pos ⟨h1, h2⟩]

theorem putIn_none {st : RS} {l : List Int} (h : runesOk l = true) (h2 : elemE st.es l = none) : putIn st 0 l = .error 3 := by
  unfold putIn; rw [if_neg (by simp [h]), if_pos rfl, h2]
theorem putIn_var {st : RS} {l : List Int} {e : El} (h : runesOk l = true) (h2 : elemE st.es l = some e) (h3 : e.varies = true) : putIn st 0 l = .error 3 := by
  unfold putIn; rw [if_neg (by simp [h]), if_pos rfl, h2]; simp only; rw [if_pos h3]
theorem putIn_reset {st : RS} {l : List Int} {e : El} (h : runesOk l = true) (h2 : elemE st.es l = some e) (h3 : e.varies = false) : putIn st 0 l = .ok { st with last := e, reset := true } := by
  unfold putIn; rw [if_neg (by simp [h]), if_pos rfl, h2]; simp only; rw [if_neg (by simp [h3])]

theorem RInv.len {st : RS} (h : RInv st) : st.es.length ≤ 1048576 ∧ ∀ e ∈ st.es, e.runes.length ≤ 1048576 := by
  obtain ⟨h1, _, h3⟩ := rulesOk_whole h.good
  exact ⟨by omega, fun e he => Nat.le_trans (runesOk_len (h3 e he).1) (by omega)⟩

set_option maxRecDepth 100000 in
set_option maxHeartbeats 8000000 in
theorem reset_any {w u : World} {b T : Nat} {l : List UInt8} {st : RS} {vE : Value} (h : RdM w u b T l st vE) (hl : l.length ≤ 1048576) (hi : RInv st) :
    Calls Tryz.prog 38 #[.pointer (some ⟨b, 0, none⟩)] u fun e u' => ∃ c, e = .returned (.int .i64 c) ∧ Out w u' b (wdR l) (putW st 0 (wdB l)) c := by
  have NW := nextWd_any h hl
  have hx : (wdB l).size ≤ 1048576 := Nat.le_trans (wd_len l).1 hl
  have HI : Hid (RInv st) := hi
  have hil := hi.len
  have HN : Hid (jOk (wdB l) = false → putW st 0 (wdB l) = .error 2) := fun c => putW_no c
  have HY : Hid (jOk (wdB l) = true → putW st 0 (wdB l) = putIn st 0 (jR (wdB l)) ∧ runesOk (jR (wdB l)) = true) := fun c => by
    have e : jR (wdB l) = nD (Dec.decT (wdB l).size (wdB l)).1 := by unfold jR; rw [if_pos c]
    rw [e]
    refine ⟨putW_yes c, ?_⟩
    unfold jOk at c
    rw [Bool.and_eq_true] at c
    exact c.2
  clear h hi
  generalize putW st 0 (wdB l) = R at *
  generalize wdR l = l2 at *
  have JR := fun (u : World) (ht : Tabs3 u) => joinedR_any (wdB l) hx u ht
  generalize jR (wdB l) = r at *
  generalize hj : jOk (wdB l) = jo at *
  generalize wdB l = x at *
  clear hj
  cases jo
  · have HE : Hid (R = .error 2) := HN.out rfl
    clear HN HY
    go_enter Tryz.func38, Tryz.ntmps38
    go_wp2_with fail
    refine NW.mono ?_
    rintro e u1 ⟨rfl, hm⟩
    clear NW
    have J1 := JR _ hm.tab
    have HM : Hid (RdM _ _ _ _ _ _ _) := hm
    clear JR hm
    go_wp2_with fail
    refine J1.mono ?_
    rintro e u2 ⟨v2, rfl, i2, b2⟩
    have HB : Hid (Below _ _ _) := (HM.out.step b2).be
    clear J1 HM
    go_wp2
    go_ret
    exact ⟨2, rfl, .inl ⟨HE.out, by decide, HB.out⟩⟩
  · obtain ⟨hp, hro⟩ := HY.out rfl
    have hrl := runesOk_len hro
    clear HN HY
    go_enter Tryz.func38, Tryz.ntmps38
    go_wp2_with fail
    refine NW.mono ?_
    rintro e u1 ⟨rfl, hm⟩
    clear NW
    have J1 := JR _ hm.tab
    have HM : Hid (RdM _ _ _ _ _ _ _) := hm
    clear JR hm
    go_wp2_with fail
    refine J1.mono ?_
    rintro e u2 ⟨v2, rfl, i2, b2⟩
    have hm2 := HM.out.step b2
    have E := implElemOf_any (sh := st.sh) (lv := st.lv) hm2.en.ents i2 hil.1 (by omega) hil.2 hm2.tab
    rw [elemOk_in HI.out.good hro] at E
    obtain ⟨c0, c1, c2, c3, c4, c5, c6, c7, c8, fz⟩ := hm2.cells
    have hlt := hm2.lt
    have HM2 : Hid (RdM _ _ _ _ _ _ _) := hm2
    clear J1 HM hm2 i2 b2
    cases ho : elemE st.es r with
    | none =>
      rw [ho] at E
      have HE : Hid (R = .error 3) := hp.trans (putIn_none hro ho)
      unfold elRes elOf elV at E
      simp only [Option.getD_none, Option.isSome_none] at E
      clear hp ho hro
      go_wp2_with fail
      refine E.mono ?_
      rintro e u3 ⟨rfl, b3⟩
      have HB : Hid (Below _ _ _) := ((HM2.out.step b3).step ((Below.refl u3.heap.size u3).alloc (Nat.le_refl _) (.cells #[.int .i64 0, .int .i64 0, .int .i64 0, .bool false] 41))).be
      clear E HM2 c0 c1 c2 c3 c4 c5 c6 c7 c8 fz
      go_wp2
      go_ret
      exact ⟨3, rfl, .inl ⟨HE.out, by decide, HB.out⟩⟩
    | some x1 =>
      rw [ho] at E
      unfold elRes elOf elV at E
      simp only [Option.getD_some, Option.isSome_some] at E
      cases hv : x1.varies
      · have HE : Hid (R = .ok { st with last := x1, reset := true }) := hp.trans (putIn_reset hro ho hv)
        rw [hv] at E
        clear hp ho hro
        go_wp2_with fail
        refine E.mono ?_
        rintro e u3 ⟨rfl, b3⟩
        have hm3 := HM2.out.step b3
        clear c0 c1 c2 c3 c4 c5 c6 c7 c8 fz hlt
        obtain ⟨c0, c1, c2, c3, c4, c5, c6, c7, c8, fz⟩ := hm3.cells
        have hlt := hm3.lt
        have hs1 : RdM w (setLs u3 b x1) b T l2 { st with last := x1 } vE := hm3.setLast x1
        have hs2 : RdM w ((setLs u3 b x1).setCell ⟨b, 8, none⟩ (.bool true)) b T l2 { st with last := x1, reset := true } vE := hs1.set rfl rfl rfl
        have HS : Hid (∀ o, RdM w (((setLs u3 b x1).setCell ⟨b, 8, none⟩ (.bool true)).alloc o) b T l2 { st with last := x1, reset := true } vE) := fun o => hs2.step ((Below.refl _ _).alloc (Nat.le_refl _) o)
        unfold setLs at HS
        rw [hv] at HS
        clear E HM2 hm3 hs1 hs2
        go_wp2
        go_ret
        exact ⟨0, rfl, .inr ⟨_, _, _, HE.out, rfl, HS.out _⟩⟩
      · have HE : Hid (R = .error 3) := hp.trans (putIn_var hro ho hv)
        rw [hv] at E
        clear hp ho hro
        go_wp2_with fail
        refine E.mono ?_
        rintro e u3 ⟨rfl, b3⟩
        have HB : Hid (Below _ _ _) := (HM2.out.step b3).be
        have hsz := b3.size
        clear E HM2 c0 c1 c2 c3 c4 c5 c6 c7 c8 fz
        go_wp2
        go_ret
        exact ⟨3, rfl, .inl ⟨HE.out, by decide, HB.out.alloc (by omega) _⟩⟩
end Go.Proofs.YtakfnmhokijcoaaGreatDoor

namespace Go.Proofs.YtakfnmhokijcoaaGreatDoor
open Go.RowKit

def q1 (n : Int) (x : El) : Bool := x.first == n

def HasRel (w : World) (es : List Ent) (q : El → Bool) (i : Value) (wr : World) : Prop := ∃ k : Nat, k ≤ es.length ∧ i = .int .i64 k ∧ NotQ es q k ∧ Below w.heap.size w wr

def q2' (a n : Int) (x : El) : Bool := x.first == a && x.second == n
def q3' (a b n : Int) (x : El) : Bool := (x.first == a && x.second == b) && x.third == n

set_option maxRecDepth 100000 in
set_option maxHeartbeats 4000000 in
theorem has1_row (w : World) (B g cap : Nat) (es : List Ent) (n : Int) (hE : Ents w B (.slice (some ⟨g, 0, none⟩) es.length cap) es) (hn : es.length ≤ 1048576) :
    Calls Tryz.prog 63 #[.slice (some ⟨g, 0, none⟩) es.length cap, .int .i64 n] w fun e w' => e = .returned (.bool (hasQ es (q1 n))) ∧ Below w.heap.size w w' := by
  go_enter Tryz.func63, Tryz.ntmps63
  go_wp2
  go_loopw [9] (fun i wr => HasRel w es (q1 n) i wr) (fun i _ => es.length - (intOf i).toNat)
  case atStart => exact ⟨0, Nat.zero_le _, rfl, fun j e hj => by omega, Below.refl _ _⟩
  case round =>
    obtain ⟨k, hk, rfl, HN0, hb⟩ := hrel
    have HN : Hid (NotQ es (q1 n) k) := HN0
    clear HN0
    by_cases hlt : k < es.length
    · obtain ⟨e, he⟩ : ∃ e, es[k]? = some e := ⟨_, List.getElem?_eq_getElem hlt⟩
      obtain ⟨x, hI, a0, a1, a2, a3, a4⟩ := (hE.below hb).cells k e he
      obtain ⟨xa, xn, xc, rfl⟩ : ∃ xa xn xc, x = .slice xa xn xc := by
        rcases hI.form with ⟨rfl, _⟩ | ⟨_, _, rfl, _, _⟩
        · exact ⟨_, _, _, rfl⟩
        · exact ⟨_, _, _, rfl⟩
      have hk8 : (k : Int) < (es.length : Int) := by omega
      have hba := hb.alloc hb.size (.cells #[.slice xa xn xc, .int .i64 e.el.first, .int .i64 e.el.second, .int .i64 e.el.third, .bool e.el.varies] 52)
      have HE : Hid _ := he
      clear he hI hE
      by_cases c0 : e.el.first = n
      · have d0 : (e.el.first == n) = true := by simpa using c0
        have HA : Hid (hasQ es (q1 n) = true) := hasQ_hit HE.out (by show (q1 n e.el) = true; unfold q1; simp [c0])
        clear HN HE c0
        go_wp2
        go_ret
        rw [HA.out]
        exact ⟨rfl, hba⟩
      · have d0 : (e.el.first == n) = false := by simpa using c0
        have HN2 : Hid (NotQ es (q1 n) (k + 1)) := HN.out.succ HE.out (by show (q1 n e.el) = false; unfold q1; simp [c0])
        clear HN HE c0
        go_wp2
        exact ⟨⟨k + 1, by omega, by go_num, HN2.out, hba⟩, by simp [intOf]; omega⟩
    · have HA : Hid (hasQ es (q1 n) = false) := hasQ_none HN.out (by omega)
      clear HN hE
      go_wp2
      go_ret
      rw [HA.out]
      exact ⟨rfl, hb⟩

set_option maxRecDepth 100000 in
set_option maxHeartbeats 4000000 in
theorem has1_nil (w : World) (n : Int) : Calls Tryz.prog 63 #[.slice none 0 0, .int .i64 n] w fun e w' => e = .returned (.bool (hasQ [] (q1 n))) ∧ Below w.heap.size w w' := by
  have HA : Hid (hasQ [] (q1 n) = false) := rfl
  go_enter Tryz.func63, Tryz.ntmps63
  go_wp2
  go_loop [9] (fun i => i = .int .i64 0) (fun _ => 0)
  case atStart => rfl
  case round =>
    subst hrel
    go_wp2
    go_ret
    rw [HA.out]
    exact ⟨rfl, Below.refl _ _⟩

theorem has1_any {w : World} {B : Nat} {v : Value} {es : List Ent} (n : Int) (hE : Ents w B v es) (hn : es.length ≤ 1048576) :
    Calls Tryz.prog 63 #[v, .int .i64 n] w fun e w' => e = .returned (.bool (hasQ es (q1 n))) ∧ Below w.heap.size w w' := by
  rcases hE.form with ⟨rfl, rfl⟩ | ⟨g, cap, rfl, _, _, _, _⟩
  · exact has1_nil w n
  · exact has1_row w B g cap es n hE hn

set_option maxRecDepth 100000 in
set_option maxHeartbeats 4000000 in
theorem has2_row (w : World) (B g cap : Nat) (es : List Ent) (a n : Int) (hE : Ents w B (.slice (some ⟨g, 0, none⟩) es.length cap) es) (hn : es.length ≤ 1048576) :
    Calls Tryz.prog 65 #[.slice (some ⟨g, 0, none⟩) es.length cap, .int .i64 a, .int .i64 n] w fun e w' => e = .returned (.bool (hasQ es (q2' a n))) ∧ Below w.heap.size w w' := by
  go_enter Tryz.func65, Tryz.ntmps65
  go_wp2
  go_loopw [11] (fun i wr => HasRel w es (q2' a n) i wr) (fun i _ => es.length - (intOf i).toNat)
  case atStart => exact ⟨0, Nat.zero_le _, rfl, fun j e hj => by omega, Below.refl _ _⟩
  case round =>
    obtain ⟨k, hk, rfl, HN0, hb⟩ := hrel
    have HN : Hid (NotQ es (q2' a n) k) := HN0
    clear HN0
    by_cases hlt : k < es.length
    · obtain ⟨e, he⟩ : ∃ e, es[k]? = some e := ⟨_, List.getElem?_eq_getElem hlt⟩
      obtain ⟨x, hI, a0, a1, a2, a3, a4⟩ := (hE.below hb).cells k e he
      obtain ⟨xa, xn, xc, rfl⟩ : ∃ xa xn xc, x = .slice xa xn xc := by
        rcases hI.form with ⟨rfl, _⟩ | ⟨_, _, rfl, _, _⟩
        · exact ⟨_, _, _, rfl⟩
        · exact ⟨_, _, _, rfl⟩
      have hk8 : (k : Int) < (es.length : Int) := by omega
      have hba := hb.alloc hb.size (.cells #[.slice xa xn xc, .int .i64 e.el.first, .int .i64 e.el.second, .int .i64 e.el.third, .bool e.el.varies] 52)
      have HE : Hid _ := he
      clear he hI hE
      by_cases c0 : e.el.first = a
      · have d0 : (e.el.first == a) = true := by simpa using c0
        by_cases c1 : e.el.second = n
        · have d1 : (e.el.second == n) = true := by simpa using c1
          have HA : Hid (hasQ es (q2' a n) = true) := hasQ_hit HE.out (by show (q2' a n e.el) = true; unfold q2'; simp [c0, c1])
          clear HN HE c0 c1
          go_wp2
          go_ret
          rw [HA.out]
          exact ⟨rfl, hba⟩
        · have d1 : (e.el.second == n) = false := by simpa using c1
          have HN2 : Hid (NotQ es (q2' a n) (k + 1)) := HN.out.succ HE.out (by show (q2' a n e.el) = false; unfold q2'; simp [c1])
          clear HN HE c0 c1
          go_wp2
          exact ⟨⟨k + 1, by omega, by go_num, HN2.out, hba⟩, by simp [intOf]; omega⟩
      · have d0 : (e.el.first == a) = false := by simpa using c0
        have HN2 : Hid (NotQ es (q2' a n) (k + 1)) := HN.out.succ HE.out (by show (q2' a n e.el) = false; unfold q2'; simp [c0])
        clear HN HE c0
        go_wp2
        exact ⟨⟨k + 1, by omega, by go_num, HN2.out, hba⟩, by simp [intOf]; omega⟩
    · have HA : Hid (hasQ es (q2' a n) = false) := hasQ_none HN.out (by omega)
      clear HN hE
      go_wp2
      go_ret
      rw [HA.out]
      exact ⟨rfl, hb⟩

set_option maxRecDepth 100000 in
set_option maxHeartbeats 4000000 in
theorem has2_nil (w : World) (a n : Int) : Calls Tryz.prog 65 #[.slice none 0 0, .int .i64 a, .int .i64 n] w fun e w' => e = .returned (.bool (hasQ [] (q2' a n))) ∧ Below w.heap.size w w' := by
  have HA : Hid (hasQ [] (q2' a n) = false) := rfl
  go_enter Tryz.func65, Tryz.ntmps65
  go_wp2
  go_loop [11] (fun i => i = .int .i64 0) (fun _ => 0)
  case atStart => rfl
  case round =>
    subst hrel
    go_wp2
    go_ret
    rw [HA.out]
    exact ⟨rfl, Below.refl _ _⟩

theorem has2_any {w : World} {B : Nat} {v : Value} {es : List Ent} (a n : Int) (hE : Ents w B v es) (hn : es.length ≤ 1048576) :
    Calls Tryz.prog 65 #[v, .int .i64 a, .int .i64 n] w fun e w' => e = .returned (.bool (hasQ es (q2' a n))) ∧ Below w.heap.size w w' := by
  rcases hE.form with ⟨rfl, rfl⟩ | ⟨g, cap, rfl, _, _, _, _⟩
  · exact has2_nil w a n
  · exact has2_row w B g cap es a n hE hn

set_option maxRecDepth 100000 in
set_option maxHeartbeats 4000000 in
theorem has3_row (w : World) (B g cap : Nat) (es : List Ent) (a b n : Int) (hE : Ents w B (.slice (some ⟨g, 0, none⟩) es.length cap) es) (hn : es.length ≤ 1048576) :
    Calls Tryz.prog 66 #[.slice (some ⟨g, 0, none⟩) es.length cap, .int .i64 a, .int .i64 b, .int .i64 n] w fun e w' => e = .returned (.bool (hasQ es (q3' a b n))) ∧ Below w.heap.size w w' := by
  go_enter Tryz.func66, Tryz.ntmps66
  go_wp2
  go_loopw [13] (fun i wr => HasRel w es (q3' a b n) i wr) (fun i _ => es.length - (intOf i).toNat)
  case atStart => exact ⟨0, Nat.zero_le _, rfl, fun j e hj => by omega, Below.refl _ _⟩
  case round =>
    obtain ⟨k, hk, rfl, HN0, hb⟩ := hrel
    have HN : Hid (NotQ es (q3' a b n) k) := HN0
    clear HN0
    by_cases hlt : k < es.length
    · obtain ⟨e, he⟩ : ∃ e, es[k]? = some e := ⟨_, List.getElem?_eq_getElem hlt⟩
      obtain ⟨x, hI, a0, a1, a2, a3, a4⟩ := (hE.below hb).cells k e he
      obtain ⟨xa, xn, xc, rfl⟩ : ∃ xa xn xc, x = .slice xa xn xc := by
        rcases hI.form with ⟨rfl, _⟩ | ⟨_, _, rfl, _, _⟩
        · exact ⟨_, _, _, rfl⟩
        · exact ⟨_, _, _, rfl⟩
      have hk8 : (k : Int) < (es.length : Int) := by omega
      have hba := hb.alloc hb.size (.cells #[.slice xa xn xc, .int .i64 e.el.first, .int .i64 e.el.second, .int .i64 e.el.third, .bool e.el.varies] 52)
      have HE : Hid _ := he
      clear he hI hE
      by_cases c0 : e.el.first = a
      · have d0 : (e.el.first == a) = true := by simpa using c0
        by_cases c1 : e.el.second = b
        · have d1 : (e.el.second == b) = true := by simpa using c1
          by_cases c2 : e.el.third = n
          · have d2 : (e.el.third == n) = true := by simpa using c2
            have HA : Hid (hasQ es (q3' a b n) = true) := hasQ_hit HE.out (by show (q3' a b n e.el) = true; unfold q3'; simp [c0, c1, c2])
            clear HN HE c0 c1 c2
            go_wp2
            go_ret
            rw [HA.out]
            exact ⟨rfl, hba⟩
          · have d2 : (e.el.third == n) = false := by simpa using c2
            have HN2 : Hid (NotQ es (q3' a b n) (k + 1)) := HN.out.succ HE.out (by show (q3' a b n e.el) = false; unfold q3'; simp [c2])
            clear HN HE c0 c1 c2
            go_wp2
            exact ⟨⟨k + 1, by omega, by go_num, HN2.out, hba⟩, by simp [intOf]; omega⟩
        · have d1 : (e.el.second == b) = false := by simpa using c1
          have HN2 : Hid (NotQ es (q3' a b n) (k + 1)) := HN.out.succ HE.out (by show (q3' a b n e.el) = false; unfold q3'; simp [c1])
          clear HN HE c0 c1
          go_wp2
          exact ⟨⟨k + 1, by omega, by go_num, HN2.out, hba⟩, by simp [intOf]; omega⟩
      · have d0 : (e.el.first == a) = false := by simpa using c0
        have HN2 : Hid (NotQ es (q3' a b n) (k + 1)) := HN.out.succ HE.out (by show (q3' a b n e.el) = false; unfold q3'; simp [c0])
        clear HN HE c0
        go_wp2
        exact ⟨⟨k + 1, by omega, by go_num, HN2.out, hba⟩, by simp [intOf]; omega⟩
    · have HA : Hid (hasQ es (q3' a b n) = false) := hasQ_none HN.out (by omega)
      clear HN hE
      go_wp2
      go_ret
      rw [HA.out]
      exact ⟨rfl, hb⟩

set_option maxRecDepth 100000 in
set_option maxHeartbeats 4000000 in
theorem has3_nil (w : World) (a b n : Int) : Calls Tryz.prog 66 #[.slice none 0 0, .int .i64 a, .int .i64 b, .int .i64 n] w fun e w' => e = .returned (.bool (hasQ [] (q3' a b n))) ∧ Below w.heap.size w w' := by
  have HA : Hid (hasQ [] (q3' a b n) = false) := rfl
  go_enter Tryz.func66, Tryz.ntmps66
  go_wp2
  go_loop [13] (fun i => i = .int .i64 0) (fun _ => 0)
  case atStart => rfl
  case round =>
    subst hrel
    go_wp2
    go_ret
    rw [HA.out]
    exact ⟨rfl, Below.refl _ _⟩

theorem has3_any {w : World} {B : Nat} {v : Value} {es : List Ent} (a b n : Int) (hE : Ents w B v es) (hn : es.length ≤ 1048576) :
    Calls Tryz.prog 66 #[v, .int .i64 a, .int .i64 b, .int .i64 n] w fun e w' => e = .returned (.bool (hasQ es (q3' a b n))) ∧ Below w.heap.size w w' := by
  rcases hE.form with ⟨rfl, rfl⟩ | ⟨g, cap, rfl, _, _, _, _⟩
  · exact has3_nil w a b n
  · exact has3_row w B g cap es a b n hE hn

/-- What the loop of isBaseFirst holds on to. -/
def BfRel (w : World) (n : Int) (i : Value) (wr : World) : Prop := ∃ k : Nat, k ≤ 127 ∧ i = .int .i64 k ∧ NoBase n k ∧ Below w.heap.size w wr

set_option maxRecDepth 100000 in
set_option maxHeartbeats 4000000 in
theorem isBase_any (n : Int) (w : World) (hm : Held w 1 marksF) : Calls Tryz.prog 62 #[.int .i64 n] w fun e w' => e = .returned (.bool (takenB n)) ∧ Below w.heap.size w w' := by
  go_enter Tryz.func62, Tryz.ntmps62
  go_wp2
  go_loopw [6] (fun i wr => BfRel w n i wr) (fun i _ => 127 - (intOf i).toNat)
  case atStart => exact ⟨0, Nat.zero_le _, rfl, fun j e hj => by omega, Below.refl _ _⟩
  case round =>
    obtain ⟨k, hk, rfl, HN0, hb⟩ := hrel
    have HN : Hid (NoBase n k) := HN0
    clear HN0
    by_cases hlt : k < 127
    · have hk8 : (k : Int) < 127 := by omega
      have BS := baseElem_any (k : Int) (by omega) (by omega) (by omega) wr (hm.below hb hm.lt)
      clear hm
      cases ho : one3 (base (k : Int)) with
      | none =>
        rw [ho] at BS
        have HN2 : Hid (NoBase n (k + 1)) := HN.out.succ (fun e h => by rw [ho] at h; cases h)
        unfold elRes elOf elV at BS
        simp only [Option.getD_none, Option.isSome_none] at BS
        clear HN ho
        go_wp2_with fail
        refine BS.mono ?_
        rintro e' w2 ⟨rfl, b2⟩
        have b3 := hb.trans (b2.mono hb.size)
        clear BS
        go_wp2
        exact ⟨⟨k + 1, by omega, by go_num, HN2.out, b3.alloc b3.size _⟩, by simp [intOf]; omega⟩
      | some x =>
        rw [ho] at BS
        unfold elRes elOf elV at BS
        simp only [Option.getD_some, Option.isSome_some] at BS
        by_cases c : x.first = n
        · have HT : Hid (takenB n = true) := c ▸ taken_of hlt ho
          have d : (x.first == n) = true := by simpa using c
          clear HN ho c
          go_wp2_with fail
          refine BS.mono ?_
          rintro e' w2 ⟨rfl, b2⟩
          have b3 := hb.trans (b2.mono hb.size)
          clear BS
          go_wp2
          go_ret
          rw [HT.out]
          exact ⟨rfl, b3.alloc b3.size _⟩
        · have HN2 : Hid (NoBase n (k + 1)) := HN.out.succ (fun e h => by rw [ho] at h; cases h; exact c)
          have d : (x.first == n) = false := by simpa using c
          clear HN ho c
          go_wp2_with fail
          refine BS.mono ?_
          rintro e' w2 ⟨rfl, b2⟩
          have b3 := hb.trans (b2.mono hb.size)
          clear BS
          go_wp2
          exact ⟨⟨k + 1, by omega, by go_num, HN2.out, b3.alloc b3.size _⟩, by simp [intOf]; omega⟩
    · have HT : Hid (takenB n = false) := HN.out.all (by omega)
      clear HN hm
      go_wp2
      go_ret
      rw [HT.out]
      exact ⟨rfl, hb⟩
end Go.Proofs.YtakfnmhokijcoaaGreatDoor
