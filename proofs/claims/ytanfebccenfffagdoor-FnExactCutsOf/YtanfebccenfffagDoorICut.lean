/- Contracts of the program's mayCutAhead and CutsOf. -/
import Derived.Test.YtanfebccenfffagDoorPCut
import Derived.Test.YtanfebccenfffagDoorIApartT
import Derived.Test.YtanfebccenfffagDoorIClass
import Derived.Test.YtanfebccenfffagDoorRead
namespace Go.Proofs.YtanfebccenfffagDoor
open Go.RowKit

theorem ints_headI {w : World} {B : Nat} {v : Value} {l : List Int} (h : Ints w B v l) (h1 : 1 ≤ l.length) : ∃ g c, v = .slice (some ⟨g, 0, none⟩) l.length c ∧ w.cell? ⟨g, 0, none⟩ = some (.int .i64 (at0 l 0)) := by
  rcases h.form with ⟨rfl, rfl⟩ | ⟨g, cap, rfl, _, _⟩
  · simp at h1
  · refine ⟨g, cap, rfl, ?_⟩
    have := h.cell 0 (by omega)
    unfold at0
    exact this

/-- What CutsOf answers. -/
def cutI (s : ByteArray) : List Int := if ok4 s = true then cutsL s else []

set_option maxRecDepth 100000 in
set_option maxHeartbeats 1000000 in
theorem mayCut_any (u : ByteArray) (r : Int) (w : World) (hu : u.size ≤ 200) (hd : (Dec.decT u.size u).1 = [r]) (ht : Tabs3 w) :
    Calls Tryd.prog 29 #[.string u] w fun e w' => e = .returned (.bool (cutB r)) ∧ Below w.heap.size w w' := by
  have A := apartT_any u (by omega) w ht
  have hr : rn4 u = nD [r] := by unfold rn4; rw [hd]
  have h1 := nD_one r
  have hok : ok4 u = true := decide_eq_true ⟨hu, by rw [hr]; omega⟩
  have hA : aR u = nD [r] := by unfold aR; rw [hok, if_pos rfl, hr]
  rw [hok, hA] at A
  have C := fun (x : Int) (u : World) (hb : Below w.heap.size w u) => implClass_any x u ((ht.below hb).1)
  have HCB : Hid (cutB r = (decide (cls (at0 (nD [r]) 0) = 0) && !decide (4449 ≤ at0 (nD [r]) 0 ∧ at0 (nD [r]) 0 ≤ 4546))) := rfl
  obtain ⟨x, HX⟩ : ∃ x, Hid (at0 (nD [r]) 0 = x) := ⟨_, rfl⟩
  obtain ⟨b, HB⟩ : ∃ b, Hid ((decide (cls x = 0) && !decide (4449 ≤ x ∧ x ≤ 4546)) = b) := ⟨_, rfl⟩
  rw [HCB.out, HX.out, HB.out]
  have C := C x
  generalize nD [r] = dl at *
  clear hr hok hA ht hd HCB
  have hl : (0 : Int) < (dl.length : Int) := by omega
  by_cases hc : cls x = 0
  · rw [hc] at C
    by_cases h4 : x < 4449
    · obtain rfl : b = true := by rw [← HB.out, decide_eq_true hc, decide_eq_false (fun d => by omega)]; rfl
      clear HB hc
      go_enter Tryd.func29, Tryd.ntmps29
      go_wp2_with fail
      refine A.mono ?_
      rintro e w1 ⟨v1, rfl, i1, b1⟩
      obtain ⟨g1, c1, rfl, hc0⟩ := ints_headI i1 h1.1
      rw [HX.out] at hc0
      have C1 := C w1 b1
      clear A C i1
      go_wp2_with fail
      refine C1.mono ?_
      rintro e w2 ⟨rfl, b2⟩
      have hb2 := b1.trans (b2.mono b1.size)
      clear C1 b2
      go_wp2
      go_ret
      exact ⟨rfl, hb2⟩
    · by_cases h5 : 4546 < x
      · obtain rfl : b = true := by rw [← HB.out, decide_eq_true hc, decide_eq_false (fun d => by omega)]; rfl
        clear HB hc
        go_enter Tryd.func29, Tryd.ntmps29
        go_wp2_with fail
        refine A.mono ?_
        rintro e w1 ⟨v1, rfl, i1, b1⟩
        obtain ⟨g1, c1, rfl, hc0⟩ := ints_headI i1 h1.1
        rw [HX.out] at hc0
        have C1 := C w1 b1
        clear A C i1
        go_wp2_with fail
        refine C1.mono ?_
        rintro e w2 ⟨rfl, b2⟩
        have hb2 := b1.trans (b2.mono b1.size)
        clear C1 b2
        go_wp2
        go_ret
        exact ⟨rfl, hb2⟩
      · obtain rfl : b = false := by rw [← HB.out, decide_eq_true hc, decide_eq_true (by omega)]; rfl
        clear HB hc
        go_enter Tryd.func29, Tryd.ntmps29
        go_wp2_with fail
        refine A.mono ?_
        rintro e w1 ⟨v1, rfl, i1, b1⟩
        obtain ⟨g1, c1, rfl, hc0⟩ := ints_headI i1 h1.1
        rw [HX.out] at hc0
        have C1 := C w1 b1
        clear A C i1
        go_wp2_with fail
        refine C1.mono ?_
        rintro e w2 ⟨rfl, b2⟩
        have hb2 := b1.trans (b2.mono b1.size)
        clear C1 b2
        go_wp2
        go_ret
        exact ⟨ret_b (by simp; omega), hb2⟩
  · have hc8 : (cls x == 0) = false := by simp; exact hc
    obtain rfl : b = false := by rw [← HB.out, decide_eq_false hc]; rfl
    clear HB hc
    go_enter Tryd.func29, Tryd.ntmps29
    go_wp2_with fail
    refine A.mono ?_
    rintro e w1 ⟨v1, rfl, i1, b1⟩
    obtain ⟨g1, c1, rfl, hc0⟩ := ints_headI i1 h1.1
    rw [HX.out] at hc0
    have C1 := C w1 b1
    clear A C i1
    go_wp2_with fail
    refine C1.mono ?_
    rintro e w2 ⟨rfl, b2⟩
    have hb2 := b1.trans (b2.mono b1.size)
    clear C1 b2
    go_wp2
    go_ret
    exact ⟨rfl, hb2⟩

def CutIRel (s : ByteArray) (w : World) (v i : Value) (wr : World) : Prop :=
  ∃ (a f : Nat) (acc : List Int), i = .int .i64 a ∧ Ints wr w.heap.size v acc ∧ acc ++ cutsPr s f a = [(0 : Int)] ++ cutsPr s s.size 0 ∧ s.size ≤ a + f ∧ a ≤ s.size ∧ acc.length ≤ a + 1 ∧ Below w.heap.size w wr

set_option maxRecDepth 100000 in
set_option maxHeartbeats 2000000 in
theorem implCut_any (s : ByteArray) (w : World) (hs : s.size ≤ 1048576) (ht : Tabs3 w) :
    Calls Tryd.prog 12 #[.string s] w fun e w' => ∃ v, e = .returned (.tuple #[v, .bool (ok4 s)]) ∧ Ints w' w.heap.size v (cutI s) ∧ Below w.heap.size w w' := by
  have A := apartT_any s hs w ht
  unfold cutI
  cases hok : ok4 s
  · rw [hok] at A
    rw [if_neg (by simp)]
    clear hok ht
    go_enter Tryd.func12, Tryd.ntmps12
    go_wp2_with fail
    refine A.mono ?_
    rintro e w1 ⟨v1, rfl, _, b1⟩
    clear A
    go_wp2
    go_ret2
    exact ⟨_, rfl, ⟨rfl, .inl ⟨rfl, rfl⟩⟩, b1⟩
  · rw [hok] at A
    rw [if_pos rfl]
    have hs2 : s.size ≤ 200 := (of_decide_eq_true hok).1
    have HT : Hid (Tabs3 w) := ht
    clear hok ht
    obtain ⟨i0, hi, hz0, hz1, hz2⟩ := info_parts info_int
    go_enter Tryd.func12, Tryd.ntmps12
    go_wp2_with fail
    refine A.mono ?_
    rintro e w1 ⟨v1, rfl, _, b1⟩
    clear A
    have bA : Below w.heap.size w (w1.alloc (.cells #[.int .i64 0] 3)) := b1.alloc b1.size _
    have HI1 : Hid (Ints (w1.alloc (.cells #[.int .i64 0] 3)) w.heap.size (.slice (some ⟨w1.heap.size, 0, none⟩) 1 1) [0]) := ints_block [0] rfl (heap_alloc_new w1 _) b1.size (by unfold maxLen; simp)
    have HB1 : Hid (Below _ _ _) := bA
    clear bA b1
    go_wp2_with fail
    go_loopw [6, 7] (fun v i wr => CutIRel s w v i wr) (fun _ i _ => s.size - (intOf i).toNat)
    case atStart => exact ⟨0, s.size, [0], rfl, HI1.out, rfl, by omega, by omega, by simp, HB1.out⟩
    case round =>
      clear HI1 HB1
      obtain ⟨a, f, acc, rfl, hown, hA, hf, ha, hal, hbw⟩ := hrel
      have hsz := hbw.size
      by_cases hp : a < s.size
      · have hd := dec_alone s hp
        have hex := Dec.size_extract s a
        have O := fun w => front_any (s.extract a s.size) (by omega) (by unfold maxLen; omega) w
        obtain ⟨f', rfl⟩ : ∃ f', f = f' + 1 := ⟨f - 1, by omega⟩
        have hst : cutsPr s (f' + 1) a = (if 0 < a ∧ cutB (Dec.one (s.extract a s.size)).1 = true then [(a : Int)] else []) ++ cutsPr s f' (a + (Dec.one (s.extract a s.size)).2.1) := by simp only [cutsPr]; rw [if_pos hp]
        rw [hst] at hA
        obtain ⟨d1, d2, d3⟩ := hd
        obtain ⟨r, n, ok, HO⟩ : ∃ r n ok, Hid (Dec.one (s.extract a s.size) = (r, n, ok)) := ⟨_, _, _, rfl⟩
        rw [HO.out] at O hA d1 d2 d3
        have hn1 : 1 ≤ n := d2
        have hn2 : a + n ≤ s.size := d1
        have hd3 : (Dec.decT (s.extract a (a + n)).size (s.extract a (a + n))).1 = [r] := d3
        have M := mayCut_any (s.extract a (a + n)) r wr (by rw [size_cut s hn2]; omega) hd3 (HT.out.below hbw)
        have hA2 : acc ++ ((if 0 < a ∧ cutB r = true then [(a : Int)] else []) ++ cutsPr s f' (a + n)) = [(0 : Int)] ++ cutsPr s s.size 0 := hA
        have HA : Hid _ := hA2
        clear hA hA2 hst d1 d2 d3 hd3 HO
        have HOW : Hid (Ints wr w.heap.size _ acc) := hown
        have HBW : Hid (Below _ _ _) := hbw
        clear hown hbw
        go_wp2_with fail
        refine (O _).mono ?_
        rintro e w1 ⟨rfl, rfl⟩
        clear O
        by_cases h0 : a = 0
        · have HA3 : Hid (acc ++ cutsPr s f' (a + n) = [(0 : Int)] ++ cutsPr s s.size 0) := by
            show _ = _
            have := HA.out
            rw [if_neg (fun d => by omega)] at this
            simpa using this
          clear HA M
          subst h0
          go_wp2
          exact ⟨⟨0 + n, f', acc, by go_num, HOW.out, HA3.out, by omega, by omega, by omega, HBW.out⟩, by simp [intOf]; omega⟩
        · have h08 : (0 : Int) < (a : Int) := by omega
          have h09 : decide ((0 : Int) < (a : Int)) = true := decide_eq_true h08
          have hn8 : (a : Int) + (n : Int) ≤ (s.size : Int) := by omega
          have hn9 : (a : Int) ≤ (a : Int) + (n : Int) := by omega
          cases hcb : cutB r
          · rw [hcb] at M
            have HA3 : Hid (acc ++ cutsPr s f' (a + n) = [(0 : Int)] ++ cutsPr s s.size 0) := by
              show _ = _
              have := HA.out
              rw [if_neg (fun d => by rw [hcb] at d; exact absurd d.2 (by simp))] at this
              simpa using this
            clear HA hcb
            go_wp2_with fail
            refine M.mono ?_
            rintro e w2 ⟨rfl, b2⟩
            clear M
            have HOW2 : Hid (Ints w2 w.heap.size _ acc) := HOW.out.below b2
            have HBW2 : Hid (Below w.heap.size w w2) := HBW.out.trans (b2.mono HBW.out.size)
            clear HOW HBW b2
            go_wp2
            exact ⟨⟨a + n, f', acc, by go_num, HOW2.out, HA3.out, by omega, by omega, by omega, HBW2.out⟩, by simp [intOf]; omega⟩
          · rw [hcb] at M
            have HA3 : Hid ((acc ++ [(a : Int)]) ++ cutsPr s f' (a + n) = [(0 : Int)] ++ cutsPr s s.size 0) := by
              show _ = _
              have := HA.out
              rw [if_pos ⟨by omega, hcb⟩] at this
              simpa using this
            clear HA hcb
            go_wp2_with fail
            refine M.mono ?_
            rintro e w2 ⟨rfl, b2⟩
            clear M
            have hown := HOW.out.below b2
            have HBW2 : Hid (Below w.heap.size w w2) := HBW.out.trans (b2.mono HBW.out.size)
            have hsz2 := HBW2.out.size
            unfold Ints at hown
            clear HOW HBW b2
            go_wp2_with (at_builtin; refine wpList_append_own _ rfl _ _ 34 rfl w.heap.size 3 i0 (.int .i64 0) 1 8 Tryd.underlying34 hi hz0 hz1 hz2 rfl (by decide) _ _ _ rfl (hown.alloc _) ⟨_, 0, none⟩ 1 1 [.int .i64 (a : Int)] rfl rfl (cell_one_new _ _ _) (fun x hx => by simp at hx; subst hx; rfl) (by unfold maxLen; omega) (by omega) (by simp; omega) ?_; intro v' w5 hown' hgrow5 _)
            have hb5 := Below.grown (HBW2.out.alloc (by omega) _) hgrow5 (by simp; omega) (fun j hj => (hown.lt _ hj).1)
            exact ⟨⟨a + n, f', acc ++ [(a : Int)], by go_num, Ints.snoc hown', HA3.out, by omega, by omega, by simp; omega, hb5⟩, by simp [intOf]; omega⟩
      · have hn8 : ¬ (a : Int) < (s.size : Int) := by omega
        rw [cutsPr_end s f a hp, List.append_nil] at hA
        by_cases hz : 0 < s.size
        · have hz8 : (0 : Int) < (s.size : Int) := by omega
          have HE : Hid (acc ++ [(s.size : Int)] = cutsL s) := by
            show _ = _
            rw [hA, cuts_prog s hz]
            rfl
          clear hA
          unfold Ints at hown
          go_wp2_with (at_builtin; refine wpList_append_own _ rfl _ _ 34 rfl w.heap.size 3 i0 (.int .i64 0) 1 8 Tryd.underlying34 hi hz0 hz1 hz2 rfl (by decide) _ _ _ rfl (hown.alloc _) ⟨_, 0, none⟩ 1 1 [.int .i64 (s.size : Int)] rfl rfl (cell_one_new _ _ _) (fun x hx => by simp at hx; subst hx; rfl) (by unfold maxLen; omega) (by omega) (by simp; omega) ?_; intro v' w3 hown' hgrow3 _)
          go_ret2
          have hb3 := Below.grown (hbw.alloc (by omega) _) hgrow3 (by simp; omega) (fun j hj => (hown.lt _ hj).1)
          refine ⟨_, rfl, ?_, hb3⟩
          rw [← HE.out]
          exact Ints.snoc hown'
        · have hz0' : s.size = 0 := by omega
          have HE : Hid (acc = cutsL s) := by
            show _ = _
            rw [hA, cutsPr_end s _ _ hz]
            unfold cutsL
            rw [cutsFrom_end s _ _ hz, hz0']
            rfl
          have hz8 : ¬ (0 : Int) < (s.size : Int) := by omega
          clear hA
          go_wp2
          go_ret2
          rw [← HE.out]
          exact ⟨_, rfl, hown, hbw⟩
end Go.Proofs.YtanfebccenfffagDoor
