/- Proved: for all drawn bytes code and more, of whatever length, what the law FnRunes asks of EncodeRunes, DecodeText, CleanText and BadIn at the runes and the text drawn from them holds, so it returns true and leaves the inputs as they were; no condition. -/
import Derived.Test.YtahnbomjnnkclaaTrip
import Derived.Test.YtahnbomjnnkclaaCleanC
import Derived.Test.YtahnbomjnnkclaaDraw4
import Derived.Test.YtahnbomjnnkclaaRows
import Derived.WalkKit
import Derived.ProofKit
import Derived.OpenShut
import Derived.ShutString
import Derived.ChangeOld
import Derived.Below
import Derived.SizedLaws
namespace Go.Proofs.Ytahnbomjnnkclaa
open Go.ChangeShapes Go.WideShapes Go.ChangeAt Go.RowKit

set_option maxRecDepth 100000 in
set_option maxHeartbeats 1000000 in
theorem same_none (w : World) (a b : Option Addr) (c d : Nat) : Calls Try.prog 8 #[.slice a 0 c, .slice b 0 d] w fun e w' => e = .returned (.bool true) ∧ ∃ n, w' = w.drewN n := by
  go_enter Try.func8, Try.ntmps8
  go_wp2
  go_loopw [13] (fun i wr => i = .int .i64 0 ∧ wr = w) (fun _ _ => 0)
  case atStart => exact ⟨rfl, rfl⟩
  case round =>
    obtain ⟨rfl, rfl⟩ := hrel
    go_wp2
    go_ret
    exact ⟨rfl, 0, rfl⟩

set_option maxRecDepth 100000 in
set_option maxHeartbeats 1000000 in
theorem same_row (w : World) (g g' cap cap' : Nat) (zs : List Int) (hz : zs.length ≤ maxLen)
    (h1 : ∀ j, j < zs.length → w.cell? ⟨g, j, none⟩ = some (.int .i64 (zs[j]?.getD 0)))
    (h2 : ∀ j, j < zs.length → w.cell? ⟨g', j, none⟩ = some (.int .i64 (zs[j]?.getD 0))) :
    Calls Try.prog 8 #[.slice (some ⟨g, 0, none⟩) zs.length cap, .slice (some ⟨g', 0, none⟩) zs.length cap'] w fun e w' => e = .returned (.bool true) ∧ ∃ n, w' = w.drewN n := by
  unfold maxLen at hz
  go_enter Try.func8, Try.ntmps8
  go_wp2
  go_loopw [13] (fun i wr => ∃ k nq : Nat, k ≤ zs.length ∧ i = .int .i64 k ∧ wr = w.drewN nq) (fun i _ => zs.length - (intOf i).toNat)
  case atStart => exact ⟨0, 0, Nat.zero_le _, rfl, rfl⟩
  case round =>
    obtain ⟨k, nq, hk, rfl, rfl⟩ := hrel
    by_cases hlt : k < zs.length
    · have g1 := h1 k hlt
      have g2 := h2 k hlt
      have hz2 : (k : Int) < (zs.length : Int) := by omega
      have HZ : Hid (zs.length ≤ 2 ^ 63 - 1) := hz
      have H1 : Hid _ := h1
      have H2 : Hid _ := h2
      clear h1 h2
      go_wp2
      go_quiet (fail)
      go_wp2
      go_roundw
      case rel => exact ⟨k + 1, _, by omega, by go_num, rfl⟩
      case measure => simp [intOf]; omega
    · go_wp2
      go_ret
      exact ⟨rfl, _, rfl⟩

theorem same_any {w : World} {B B' : Nat} {a b : Value} {zs : List Int} (ha : Ints w B a zs) (hb : Ints w B' b zs) :
    Calls Try.prog 8 #[a, b] w fun e w' => e = .returned (.bool true) ∧ ∃ n, w' = w.drewN n := by
  rcases ha.form with ⟨rfl, rfl⟩ | ⟨g, cap, rfl, h1, h2⟩
  · rcases hb.form with ⟨rfl, _⟩ | ⟨g', cap', rfl, _, _⟩
    · exact same_none w _ _ _ _
    · exact same_none w _ _ _ _
  · rcases hb.form with ⟨rfl, rfl⟩ | ⟨g', cap', rfl, _, _⟩
    · exact same_none w _ _ _ _
    · exact same_row w g g' cap cap' zs (by omega) (fun j hj => ha.cell j hj) (fun j hj => hb.cell j hj)

set_option maxRecDepth 100000 in
set_option maxHeartbeats 1000000 in
theorem specClean_no (s : ByteArray) (w : World) (hs : 200 < s.size) (hm : s.size ≤ 1048576) :
    Calls Try.prog 11 #[.string s] w fun e w' => e = .returned (.tuple #[.string ⟨#[]⟩, .bool false]) ∧ w' = w := by
  go_enter Try.func11, Try.ntmps11
  go_wp2
  go_ret2
  exact ⟨rfl, rfl⟩

set_option maxRecDepth 100000 in
set_option maxHeartbeats 1000000 in
theorem implClean_no (s : ByteArray) (w : World) (hs : 200 < s.size) (hm : s.size ≤ 1048576) :
    Calls Try.prog 10 #[.string s] w fun e w' => e = .returned (.tuple #[.string ⟨#[]⟩, .bool false]) ∧ w' = w := by
  have D := fun w => implDecode_no s w hs hm
  go_enter Try.func10, Try.ntmps10
  go_wp2_with (go_at_call 7; refine (D _).mono ?_; rintro e w1 ⟨rfl, rfl⟩)
  go_ret2
  exact ⟨rfl, rfl⟩

def IsRow (k : IntKind) (w : World) (a : Option Addr) (len cap : Nat) (zs : List Int) : Prop :=
  (a = none ∧ len = 0 ∧ cap = 0 ∧ zs = []) ∨
  ∃ x, a = some x ∧ len ≤ cap ∧ cap ≤ maxLen ∧ zs.length = cap ∧ (∀ i, i < zs.length → w.cell? (x.add i) = some (.int k (zs.getD i 0))) ∧ ∀ n ∈ zs, (Lit.int k n).wf = true

theorem came_of {w : World} {a : Option Addr} {len cap : Nat} {zs : List Int} (h : IsRow .u8 w a len cap zs) : Came w a len := by
  rcases h with ⟨rfl, rfl, rfl, rfl⟩ | ⟨x, rfl, hl, hc, hz, hcell, hw⟩
  · exact .inl rfl
  · by_cases h0 : len = 0
    · exact .inl h0
    · obtain ⟨b, off, rfl, hc2⟩ := ints_at hcell (by omega)
      have hlt : b < w.heap.size := by
        have h1 := hc2 0 (by omega)
        apply Classical.byContradiction
        intro hn
        have : w.heap[b]? = none := by simp; omega
        simp [World.cell?, this] at h1
      refine .inr ⟨b, off, rfl, hlt, fun j hj => ?_⟩
      have hjz : j < zs.length := by omega
      have hb := bounds_u8 (hw (zs[j]) (List.getElem_mem hjz))
      refine ⟨zs[j], hb.1, hb.2, ?_⟩
      rw [hc2 j hjz]
      simp [List.getD, hjz]

theorem ne_list {a b : ByteArray} (h : a ≠ b) : (a.toList == b.toList) = false := by
  rw [ByteArray.toList_eq, ByteArray.toList_eq]
  cases c : (a.data.toList == b.data.toList)
  · rfl
  · exact absurd (ByteArray.ext (Array.toList_inj.1 (by simpa using c))) h

theorem enc_len (zs : List Int) : zs.length ≤ (encAll zs).length := by
  induction zs with
  | nil => simp
  | cons x zs ih =>
    have := encodeRune_pos x
    have e : encAll (x :: zs) = Lib.encodeRune x ++ encAll zs := by simp [encAll]
    rw [e]; simp; omega

theorem enc_size (zs : List Int) : zs.length ≤ (⟨(encAll zs).toArray⟩ : ByteArray).size := by
  have := enc_len zs
  show zs.length ≤ (encAll zs).toArray.size
  simpa using this

theorem back (zs : List Int) (hg : ∀ x ∈ zs, goodB x = true) (s : ByteArray) (hs : s = ⟨(encAll zs).toArray⟩) : Dec.decT s.size s = (zs, 0) := by
  subst hs
  exact decT_enc zs _ (enc_size zs) hg

/-- A text is its own cleaned form just where nothing in it is bad. -/
theorem clean_same (t c : ByteArray) (hc : c = ⟨(encAll (Dec.decT t.size t).1).toArray⟩) : ((Dec.decT t.size t).2 = 0 → c = t) ∧ (c = t → (Dec.decT t.size t).2 = 0) := by
  refine ⟨fun h => ?_, fun h => ?_⟩
  · have := decT_dec t.size t (Nat.le_refl _) h
    rw [hc]
    apply ByteArray.ext
    apply Array.toList_inj.1
    simpa using this
  · have hb := back _ (dec_good t.size t) c hc
    rw [h] at hb
    rw [hb]

theorem own_law : ownKnob Try.prog.godebug = none := by kernel_rfl
theorem laidOut_law : laidOutB Try.prog = true := by kernel_rfl

set_option maxRecDepth 100000 in
set_option maxHeartbeats 4000000 in
theorem runesLaw (a0 : Option Addr) (len0 cap0 : Nat) (z0 : List Int) (a1 : Option Addr) (len1 cap1 : Nat) (z1 : List Int) (w : World) (w0 : IsRow .u8 w a0 len0 cap0 z0 ∧ len0 ≤ 140737488351232) (w1 : IsRow .u8 w a1 len1 cap1 z1 ∧ len1 ≤ 140737488351232) :
    Calls Try.prog 3 #[.slice a0 len0 cap0, .slice a1 len1 cap1] w fun e w' => e = .returned (.bool true) ∧ Below w.heap.size w w' := by
  obtain ⟨r0, m0⟩ := w0
  obtain ⟨r1, m1⟩ := w1
  have cm0 := came_of r0
  have cm1 := came_of r1
  clear r0 r1
  by_cases hbig : 1048576 < len0 + len1
  · clear cm0 cm1
    go_enter Try.func3, Try.ntmps3
    go_wp2
    go_ret
    exact ⟨rfl, Below.refl _ _⟩
  have D := drawEnc_any w a0 len0 cap0 (by omega) cm0
  clear cm0
  go_enter Try.func3, Try.ntmps3
  go_wp2_with fail
  refine D.mono ?_
  rintro e w2 ⟨v, zs, rfl, hI, hl, b2⟩
  clear D
  go_wp2_with fail
  refine (implEnc_any (by omega) hI).mono ?_
  rintro e w3 ⟨rfl, b3⟩
  have hI3 := hI.below b3
  go_wp2_with fail
  refine (specEnc_any (by omega) hI3).mono ?_
  rintro e w4 ⟨rfl, b4⟩
  have hI4 := hI3.below b4
  have c4 := (b2.trans (b3.mono b2.size)).trans (b4.mono (b2.trans (b3.mono b2.size)).size)
  have cm4 := cm1.below c4
  have HE : Hid (encOk zs = true → encS zs = ⟨(encAll zs).toArray⟩ ∧ ∀ x ∈ zs, goodB x = true) := by
    intro h
    have := of_decide_eq_true h
    exact ⟨(enc_yes this.1 this.2).2, this.2⟩
  clear hI hI3 b2 b3 b4 cm1
  generalize encS zs = es at *
  generalize encOk zs = eo at *
  have hpath : (eo = true ∧ es.size ≤ 200) ∨ (eo = true ∧ 200 < es.size) ∨ eo = false := by
    cases eo
    · exact .inr (.inr rfl)
    · by_cases h : es.size ≤ 200
      · exact .inl ⟨rfl, h⟩
      · exact .inr (.inl ⟨rfl, by omega⟩)
  rcases hpath with ⟨rfl, hes⟩ | ⟨rfl, hes⟩ | rfl
  · have HE2 := HE.out rfl
    have hbk := back zs HE2.2 es HE2.1
    have DT := fun w => implDecode_any es w hes
    rw [hbk] at DT
    clear HE HE2 hbk
    go_wp2_with fail
    refine (DT _).mono ?_
    rintro e w5 ⟨v5, rfl, hI5, b5⟩
    have hI45 := hI4.below b5
    have c5 := c4.trans (b5.mono c4.size)
    have cm5 := cm4.below b5
    go_wp2_with fail
    refine (same_any hI5 hI45).mono ?_
    rintro e w6 ⟨rfl, n6, rfl⟩
    have c6 : Below w.heap.size w (w5.drewN n6) := below_drewN c5 n6
    have cm6 : Came (w5.drewN n6) a1 len1 := cm5
    clear DT hI4 hI5 hI45 b5 c5 cm5 c4 cm4
    generalize w5.drewN n6 = W at *
    go_wp2_with fail
    all_goals
      refine (drawClean_any _ a1 len1 cap1 (by omega) cm6).mono ?_
      rintro e w7 ⟨t, rfl, ht, b7⟩
      have c7 := c6.trans (b7.mono c6.size)
      clear cm6 c6 b7
      by_cases h200 : 200 < t.size
      · go_wp2_with fail
        refine (implClean_no t _ h200 (by omega)).mono ?_
        rintro e w8 ⟨rfl, rfl⟩
        go_wp2_with fail
        refine (specClean_no t _ h200 (by omega)).mono ?_
        rintro e w9 ⟨rfl, rfl⟩
        go_wp2
        go_ret
        exact ⟨rfl, c7⟩
      · have A := fun w => implClean_any t w (by omega)
        have S := fun w => specClean_any t w (by omega)
        have N := fun w => implBadIn_any t w (by omega)
        have hbl := (Dec.decT_len t.size t (Nat.le_refl _)).2
        obtain ⟨c, hc⟩ : ∃ c : ByteArray, c = ⟨(encAll (Dec.decT t.size t).1).toArray⟩ := ⟨_, rfl⟩
        have hcs := clean_same t c hc
        have A2 := fun (h : c.size ≤ 200) w => implClean_any c w h
        rw [back _ (dec_good t.size t) c hc] at A2
        simp only [← hc] at A S A2
        have hcl : c.size ≤ 1000 := by
          have h1 := encAll_le (Dec.decT t.size t).1 200
          rw [List.take_of_length_le (by have := (Dec.decT_len t.size t (Nat.le_refl _)).1; omega)] at h1
          rw [hc]
          show (encAll (Dec.decT t.size t).1).toArray.size ≤ 1000
          simp; omega
        clear hc
        generalize (Dec.decT t.size t).2 = bad at *
        go_wp2_with fail
        refine (A _).mono ?_
        rintro e w8 ⟨rfl, b8⟩
        have c8 := c7.trans (b8.mono c7.size)
        go_wp2_with fail
        refine (S _).mono ?_
        rintro e w9 ⟨rfl, b9⟩
        have c9 := c8.trans (b9.mono c8.size)
        clear A S b8 c8 b9 c7
        go_wp2_with fail
        refine (N _).mono ?_
        rintro e w10 ⟨rfl, b10⟩
        have c10 := c9.trans (b10.mono c9.size)
        clear N b10 c9
        by_cases hb0 : bad = 0
        · have hct := hcs.1 hb0
          subst hct
          subst hb0
          clear hcs
          have A3 := fun w => A2 (by omega) w
          clear A2
          go_wp2_with fail
          refine (A3 _).mono ?_
          rintro e w11 ⟨rfl, b11⟩
          go_wp2
          go_ret
          exact ⟨rfl, c10.trans (b11.mono c10.size)⟩
        · have hne := ne_list (fun h => hb0 (hcs.2 h))
          have hb1 : ((bad : Int) == 0) = false := by simp; omega
          clear hcs
          by_cases hc2 : c.size ≤ 200
          · have A3 := fun w => A2 hc2 w
            clear A2
            go_wp2_with fail
            refine (A3 _).mono ?_
            rintro e w11 ⟨rfl, b11⟩
            go_wp2
            go_ret
            exact ⟨rfl, c10.trans (b11.mono c10.size)⟩
          · clear A2
            go_wp2
            go_ret
            exact ⟨rfl, c10⟩
  · have c6 := c4
    have cm6 := cm4
    clear HE c4 cm4 hI4
    have hes2 : (200 : Int) < (es.size : Int) := by omega
    go_wp2_with fail
    all_goals
      refine (drawClean_any _ a1 len1 cap1 (by omega) cm6).mono ?_
      rintro e w7 ⟨t, rfl, ht, b7⟩
      have c7 := c6.trans (b7.mono c6.size)
      clear cm6 c6 b7
      by_cases h200 : 200 < t.size
      · go_wp2_with fail
        refine (implClean_no t _ h200 (by omega)).mono ?_
        rintro e w8 ⟨rfl, rfl⟩
        go_wp2_with fail
        refine (specClean_no t _ h200 (by omega)).mono ?_
        rintro e w9 ⟨rfl, rfl⟩
        go_wp2
        go_ret
        exact ⟨rfl, c7⟩
      · have A := fun w => implClean_any t w (by omega)
        have S := fun w => specClean_any t w (by omega)
        have N := fun w => implBadIn_any t w (by omega)
        have hbl := (Dec.decT_len t.size t (Nat.le_refl _)).2
        obtain ⟨c, hc⟩ : ∃ c : ByteArray, c = ⟨(encAll (Dec.decT t.size t).1).toArray⟩ := ⟨_, rfl⟩
        have hcs := clean_same t c hc
        have A2 := fun (h : c.size ≤ 200) w => implClean_any c w h
        rw [back _ (dec_good t.size t) c hc] at A2
        simp only [← hc] at A S A2
        have hcl : c.size ≤ 1000 := by
          have h1 := encAll_le (Dec.decT t.size t).1 200
          rw [List.take_of_length_le (by have := (Dec.decT_len t.size t (Nat.le_refl _)).1; omega)] at h1
          rw [hc]
          show (encAll (Dec.decT t.size t).1).toArray.size ≤ 1000
          simp; omega
        clear hc
        generalize (Dec.decT t.size t).2 = bad at *
        go_wp2_with fail
        refine (A _).mono ?_
        rintro e w8 ⟨rfl, b8⟩
        have c8 := c7.trans (b8.mono c7.size)
        go_wp2_with fail
        refine (S _).mono ?_
        rintro e w9 ⟨rfl, b9⟩
        have c9 := c8.trans (b9.mono c8.size)
        clear A S b8 c8 b9 c7
        go_wp2_with fail
        refine (N _).mono ?_
        rintro e w10 ⟨rfl, b10⟩
        have c10 := c9.trans (b10.mono c9.size)
        clear N b10 c9
        by_cases hb0 : bad = 0
        · have hct := hcs.1 hb0
          subst hct
          subst hb0
          clear hcs
          have A3 := fun w => A2 (by omega) w
          clear A2
          go_wp2_with fail
          refine (A3 _).mono ?_
          rintro e w11 ⟨rfl, b11⟩
          go_wp2
          go_ret
          exact ⟨rfl, c10.trans (b11.mono c10.size)⟩
        · have hne := ne_list (fun h => hb0 (hcs.2 h))
          have hb1 : ((bad : Int) == 0) = false := by simp; omega
          clear hcs
          by_cases hc2 : c.size ≤ 200
          · have A3 := fun w => A2 hc2 w
            clear A2
            go_wp2_with fail
            refine (A3 _).mono ?_
            rintro e w11 ⟨rfl, b11⟩
            go_wp2
            go_ret
            exact ⟨rfl, c10.trans (b11.mono c10.size)⟩
          · clear A2
            go_wp2
            go_ret
            exact ⟨rfl, c10⟩
  · have c6 := c4
    have cm6 := cm4
    clear HE c4 cm4 hI4
    go_wp2_with fail
    all_goals
      refine (drawClean_any _ a1 len1 cap1 (by omega) cm6).mono ?_
      rintro e w7 ⟨t, rfl, ht, b7⟩
      have c7 := c6.trans (b7.mono c6.size)
      clear cm6 c6 b7
      by_cases h200 : 200 < t.size
      · go_wp2_with fail
        refine (implClean_no t _ h200 (by omega)).mono ?_
        rintro e w8 ⟨rfl, rfl⟩
        go_wp2_with fail
        refine (specClean_no t _ h200 (by omega)).mono ?_
        rintro e w9 ⟨rfl, rfl⟩
        go_wp2
        go_ret
        exact ⟨rfl, c7⟩
      · have A := fun w => implClean_any t w (by omega)
        have S := fun w => specClean_any t w (by omega)
        have N := fun w => implBadIn_any t w (by omega)
        have hbl := (Dec.decT_len t.size t (Nat.le_refl _)).2
        obtain ⟨c, hc⟩ : ∃ c : ByteArray, c = ⟨(encAll (Dec.decT t.size t).1).toArray⟩ := ⟨_, rfl⟩
        have hcs := clean_same t c hc
        have A2 := fun (h : c.size ≤ 200) w => implClean_any c w h
        rw [back _ (dec_good t.size t) c hc] at A2
        simp only [← hc] at A S A2
        have hcl : c.size ≤ 1000 := by
          have h1 := encAll_le (Dec.decT t.size t).1 200
          rw [List.take_of_length_le (by have := (Dec.decT_len t.size t (Nat.le_refl _)).1; omega)] at h1
          rw [hc]
          show (encAll (Dec.decT t.size t).1).toArray.size ≤ 1000
          simp; omega
        clear hc
        generalize (Dec.decT t.size t).2 = bad at *
        go_wp2_with fail
        refine (A _).mono ?_
        rintro e w8 ⟨rfl, b8⟩
        have c8 := c7.trans (b8.mono c7.size)
        go_wp2_with fail
        refine (S _).mono ?_
        rintro e w9 ⟨rfl, b9⟩
        have c9 := c8.trans (b9.mono c8.size)
        clear A S b8 c8 b9 c7
        go_wp2_with fail
        refine (N _).mono ?_
        rintro e w10 ⟨rfl, b10⟩
        have c10 := c9.trans (b10.mono c9.size)
        clear N b10 c9
        by_cases hb0 : bad = 0
        · have hct := hcs.1 hb0
          subst hct
          subst hb0
          clear hcs
          have A3 := fun w => A2 (by omega) w
          clear A2
          go_wp2_with fail
          refine (A3 _).mono ?_
          rintro e w11 ⟨rfl, b11⟩
          go_wp2
          go_ret
          exact ⟨rfl, c10.trans (b11.mono c10.size)⟩
        · have hne := ne_list (fun h => hb0 (hcs.2 h))
          have hb1 : ((bad : Int) == 0) = false := by simp; omega
          clear hcs
          by_cases hc2 : c.size ≤ 200
          · have A3 := fun w => A2 hc2 w
            clear A2
            go_wp2_with fail
            refine (A3 _).mono ?_
            rintro e w11 ⟨rfl, b11⟩
            go_wp2
            go_ret
            exact ⟨rfl, c10.trans (b11.mono c10.size)⟩
          · clear A2
            go_wp2
            go_ret
            exact ⟨rfl, c10⟩

set_option linter.unusedVariables false in
set_option maxRecDepth 100000 in
theorem fnRunes_lifted (os : Os) (started : os.Started) (H : Type) (enc : TypeId × Value → H) :
    ReturnsInHanded {} Try.checked os 3 .any (Rows.fnRunesSpec.pre6 enc Try.prog Try.f3 Rows.fnRunesRow.domain false) (Rows.fnRunesSpec.post enc Try.prog Try.f3 false true false false) := by
  refine returnsInHanded_of_change_sized (C := Try.checked) own_law started (by kernel_rfl) Try.func3
    (ChangeSpec.witness6 (enc := enc) (C := Try.checked) false ⟨#[], #[.slice none 0 0, .slice none 0 0], []⟩ 8 (by kernel_rfl) (by kernel_rfl) (by kernel_rfl) (by kernel_rfl)) ?_
  intro W base args ds gs before hval0 hW hcnd hsz0 _
  have hsz : (DataW.weightsEach Try.prog (Try.f3.params.toList ++ Rows.fnRunesSpec.plain.varTypes Try.prog) (ds ++ gs)).all (· ≤ reachBytes) = true := hsz0
  clear hsz0
  have hval : ∀ (j : Nat) t v, Try.f3.params[j]? = some t → args[j]? = some v → Value.okWide Try.prog W .any base t v := hval0
  have hW' := hW
  obtain ⟨p, q, hA0, hV, rfl, hfz, hnd⟩ := hW
  have hA : DataW.TrodAll enc Try.prog W 0 (fun _ => true) true Try.f3.params.toList args.toList ds p := hA0
  rw [Try.params3] at hA hval hsz
  obtain ⟨v0, vs0, d0, ds0, p0, q0, hargs, rfl, rfl, h0, r0⟩ := trodAll_cons hA
  obtain ⟨v1, vs1, d1, ds1, p1, q1, rfl, rfl, rfl, h1, r1⟩ := trodAll_cons r0
  obtain ⟨rfl, rfl, rfl⟩ := trodAll_nil r1
  obtain rfl : args = #[v0, v1] := by cases args; simp_all
  obtain ⟨rfl, rfl⟩ := trodVars_none hV
  obtain ⟨a0, len0, cap0, rfl⟩ := okWide_slice Try.underlying22 (hval 0 22 v0 rfl rfl)
  have k0 := h0
  have lt0 : ∀ x ∈ p0, x.block < W.heap.size := by obtain ⟨m, hm⟩ := k0; exact DataW.trod_lt m _ _ _ hm
  obtain ⟨z0, w0⟩ : ∃ zs, IsRow .u8 W a0 len0 cap0 zs ∧ len0 ≤ 140737488351232 := by
    obtain ⟨fuel, hf⟩ := h0
    rcases open_ints Try.underlying22 Try.underlying5 (by kernel_rfl) hf with ⟨hcs, _⟩ | ⟨x, l, c, zs, hcs, _, hl, hm, hz, hx, hcell, hwz⟩
    · simp [Value.cells] at hcs
      obtain ⟨rfl, rfl, rfl⟩ := hcs
      exact ⟨[], .inl ⟨rfl, rfl, rfl, rfl⟩, by omega⟩
    · simp [Value.cells] at hcs
      obtain ⟨rfl, rfl, rfl⟩ := hcs
      have ed : d0 = _ := congrArg Prod.fst hx
      have hs := sized_slice hsz (j := 0) (t := 22) (e := 5) rfl (congrArg some ed) Try.underlying22
      rw [show Try.prog.bytesOf 5 = 1 from by kernel_rfl] at hs
      simp only [lits, List.length_map, List.length_take, List.length_drop, reachBytes] at hs
      have hz2 : zs.length = cap0 := by simpa using hz
      exact ⟨zs, .inr ⟨_, rfl, hl, hm, hz2, hcell, hwz⟩, by omega⟩
  obtain ⟨a1, len1, cap1, rfl⟩ := okWide_slice Try.underlying22 (hval 1 22 v1 rfl rfl)
  have k1 := h1
  have lt1 : ∀ x ∈ p1, x.block < W.heap.size := by obtain ⟨m, hm⟩ := k1; exact DataW.trod_lt m _ _ _ hm
  obtain ⟨z1, w1⟩ : ∃ zs, IsRow .u8 W a1 len1 cap1 zs ∧ len1 ≤ 140737488351232 := by
    obtain ⟨fuel, hf⟩ := h1
    rcases open_ints Try.underlying22 Try.underlying5 (by kernel_rfl) hf with ⟨hcs, _⟩ | ⟨x, l, c, zs, hcs, _, hl, hm, hz, hx, hcell, hwz⟩
    · simp [Value.cells] at hcs
      obtain ⟨rfl, rfl, rfl⟩ := hcs
      exact ⟨[], .inl ⟨rfl, rfl, rfl, rfl⟩, by omega⟩
    · simp [Value.cells] at hcs
      obtain ⟨rfl, rfl, rfl⟩ := hcs
      have ed : d1 = _ := congrArg Prod.fst hx
      have hs := sized_slice hsz (j := 1) (t := 22) (e := 5) rfl (congrArg some ed) Try.underlying22
      rw [show Try.prog.bytesOf 5 = 1 from by kernel_rfl] at hs
      simp only [lits, List.length_map, List.length_take, List.length_drop, reachBytes] at hs
      have hz2 : zs.length = cap1 := by simpa using hz
      exact ⟨zs, .inr ⟨_, rfl, hl, hm, hz2, hcell, hwz⟩, by omega⟩
  clear hA0 hval0
  refine (runesLaw a0 len0 cap0 z0 a1 len1 cap1 z1 W w0 w1).mono fun e W' ⟨he, bel⟩ => ?_
  subst he
  exact ⟨_, rfl, _, _, _, [], _, [], hW', trodAll_mk1 (shut_bool Try.underlying4 _), (trodAll_cons_mk (Below.trod laidOut_law (by kernel_rfl) (of_decide_eq_true (by kernel_rfl)) k0 bel lt0) (trodAll_cons_mk (Below.trod laidOut_law (by kernel_rfl) (of_decide_eq_true (by kernel_rfl)) k1 bel lt1) trodAll_mk0)), rfl, bel.frame _, fun h => by cases h⟩

theorem fnRunes_holds : Rows.FnRunesSaid :=
  OpenClaim.holds_of_wide 3 Try.f3 rfl rfl rfl rfl rfl rfl rfl ⟨rfl, rfl, rfl, rfl, rfl⟩ rfl rfl rfl rfl rfl (by kernel_rfl) Try.func3 (by kernel_rfl)
    (of_decide_eq_true (by kernel_rfl)) (by unfold Func.isWrapper; first | (rw [if_pos (by decide +kernel)]; kernel_rfl) | (rw [if_neg (by decide +kernel)]; exact ⟨rfl, rfl⟩))
    (fun os started H enc _ => fnRunes_lifted os started H enc)

#print axioms fnRunes_holds
end Go.Proofs.Ytahnbomjnnkclaa
