/- Contracts of the program's levelOf, weights and countText. -/
import Derived.Test.YtanfebccenfffagGreatDoorPKey2
import Derived.Test.YtanfebccenfffagGreatDoorIFourth
namespace Go.Proofs.YtanfebccenfffagGreatDoor
open Go.RowKit

theorem els_slice {w : World} {B : Nat} {v : Value} {es : List El} (h : Elems w B v es) :
    ∃ a c, v = .slice a es.length c ∧ ∀ k e, es[k]? = some e → ∃ g, a = some ⟨g, 0, none⟩ ∧ g < w.heap.size ∧ w.cell? ⟨g, k * 4, none⟩ = some (.int .i64 e.first) ∧ w.cell? ⟨g, k * 4 + 1, none⟩ = some (.int .i64 e.second) ∧ w.cell? ⟨g, k * 4 + 2, none⟩ = some (.int .i64 e.third) ∧ w.cell? ⟨g, k * 4 + 3, none⟩ = some (.bool e.varies) := by
  rcases h.form with ⟨rfl, rfl⟩ | ⟨g, cap, rfl, _, _⟩
  · exact ⟨_, _, rfl, fun k e he => by simp at he⟩
  · exact ⟨_, _, rfl, fun k e he => ⟨g, rfl, (World.ownsRow.lt h g rfl).2, h.cells k e he⟩⟩

theorem ints_slice {w : World} {B : Nat} {v : Value} {l : List Int} (h : Ints w B v l) :
    ∃ a c, v = .slice a l.length c ∧ ∀ k, k < l.length → ∃ g, a = some ⟨g, 0, none⟩ ∧ g < w.heap.size ∧ w.cell? ⟨g, k, none⟩ = some (.int .i64 (at0 l k)) := by
  rcases h.form with ⟨rfl, rfl⟩ | ⟨g, cap, rfl, _, _⟩
  · exact ⟨_, _, rfl, fun k hk => by simp at hk⟩
  · exact ⟨_, _, rfl, fun k hk => ⟨g, rfl, (World.ownsRow.lt h g rfl).2, h.cell k hk⟩⟩

theorem low_ints {w : World} {B B' : Nat} {v : Value} {l : List Int} (h : Ints w B' v l) (hB : B ≤ B') : Ints w B v l := by
  refine ⟨h.1, ?_⟩
  rcases h.2 with h | ⟨g, cap, cur, h1, h2, h3⟩
  · exact .inl h
  · exact .inr ⟨g, cap, cur, h1, Nat.le_trans hB h2, h3⟩

def WtRel (w1 : World) (lv : Nat) (xs : List El) (fs : List Int) (v i : Value) (wr : World) : Prop :=
  ∃ k : Nat, k ≤ xs.length ∧ i = .int .i64 k ∧ Ints wr w1.heap.size v (wtsK lv xs fs k) ∧ Below w1.heap.size w1 wr

theorem wtsK_zero {lv : Nat} {xs : List El} {fs : List Int} {k : Nat} (h : wtL lv (elAt xs k) (at0 fs k) = 0) : wtsK lv xs fs (k + 1) = wtsK lv xs fs k := by
  rw [wtsK, ifNot_zero h, List.append_nil]
theorem wtsK_some {lv : Nat} {xs : List El} {fs : List Int} {k : Nat} (h : wtL lv (elAt xs k) (at0 fs k) ≠ 0) : wtsK lv xs fs (k + 1) = wtsK lv xs fs k ++ [wtL lv (elAt xs k) (at0 fs k)] := by
  rw [wtsK, ifNot_some h]
theorem elAt_of {xs : List El} {k : Nat} {e : El} (h : xs[k]? = some e) : elAt xs k = e := by unfold elAt; rw [h]; rfl

set_option maxRecDepth 100000 in
set_option maxHeartbeats 1000000 in
theorem level1_any (ea : Option Addr) (en ec : Nat) (fa : Option Addr) (fn fc : Nat) (w : World) :
    Calls Tryz.prog 76 #[.agg #[.slice ea en ec, .slice fa fn fc], .int .i64 1] w fun e w' => e = .returned (.func (.func 95) #[] #[.pointer (some ⟨w.heap.size, 0, none⟩)]) ∧ w' = w.alloc (.cells #[.slice ea en ec, .slice fa fn fc] 92) := by
  go_enter Tryz.func76, Tryz.ntmps76
  go_wp2
  go_ret
  exact ⟨rfl, rfl⟩

set_option maxRecDepth 100000 in
set_option maxHeartbeats 1000000 in
theorem level2_any (ea : Option Addr) (en ec : Nat) (fa : Option Addr) (fn fc : Nat) (w : World) :
    Calls Tryz.prog 76 #[.agg #[.slice ea en ec, .slice fa fn fc], .int .i64 2] w fun e w' => e = .returned (.func (.func 96) #[] #[.pointer (some ⟨w.heap.size, 0, none⟩)]) ∧ w' = w.alloc (.cells #[.slice ea en ec, .slice fa fn fc] 92) := by
  go_enter Tryz.func76, Tryz.ntmps76
  go_wp2
  go_ret
  exact ⟨rfl, rfl⟩

set_option maxRecDepth 100000 in
set_option maxHeartbeats 1000000 in
theorem level3_any (ea : Option Addr) (en ec : Nat) (fa : Option Addr) (fn fc : Nat) (w : World) :
    Calls Tryz.prog 76 #[.agg #[.slice ea en ec, .slice fa fn fc], .int .i64 3] w fun e w' => e = .returned (.func (.func 97) #[] #[.pointer (some ⟨w.heap.size, 0, none⟩)]) ∧ w' = w.alloc (.cells #[.slice ea en ec, .slice fa fn fc] 92) := by
  go_enter Tryz.func76, Tryz.ntmps76
  go_wp2
  go_ret
  exact ⟨rfl, rfl⟩

set_option maxRecDepth 100000 in
set_option maxHeartbeats 1000000 in
theorem level4_any (ea : Option Addr) (en ec : Nat) (fa : Option Addr) (fn fc : Nat) (w : World) :
    Calls Tryz.prog 76 #[.agg #[.slice ea en ec, .slice fa fn fc], .int .i64 4] w fun e w' => e = .returned (.func (.func 98) #[] #[.pointer (some ⟨w.heap.size, 0, none⟩)]) ∧ w' = w.alloc (.cells #[.slice ea en ec, .slice fa fn fc] 92) := by
  go_enter Tryz.func76, Tryz.ntmps76
  go_wp2
  go_ret
  exact ⟨rfl, rfl⟩

set_option maxRecDepth 100000 in
set_option maxHeartbeats 1000000 in
theorem clos1_any (u : World) (b g n c k : Nat) (vf : Value) (x : Int) (hb : u.cell? ⟨b, 0, none⟩ = some (.slice (some ⟨g, 0, none⟩) n c)) (_hb2 : u.cell? ⟨b, 1, none⟩ = some vf) (hk : k < n) (hx : u.cell? ⟨g, k * 4, none⟩ = some (.int .i64 x)) :
    Calls Tryz.prog 95 #[.int .i64 k, .pointer (some ⟨b, 0, none⟩)] u fun e w' => e = .returned (.int .i64 x) ∧ w' = u := by
  have hk8 : (k : Int) < (n : Int) := by omega
  go_enter Tryz.func95, Tryz.ntmps95
  go_wp2
  go_ret
  exact ⟨rfl, rfl⟩

set_option maxRecDepth 100000 in
set_option maxHeartbeats 4000000 in
theorem weights1_any {w : World} {B B' : Nat} {ve vf : Value} {xs : List El} {fs : List Int} (hE : Elems w B ve xs) (hI : Ints w B' vf fs) (hl : fs.length = xs.length) (hn : xs.length ≤ 1048576) :
    Calls Tryz.prog 52 #[.agg #[ve, vf], .int .i64 1] w fun e w' => ∃ v, e = .returned v ∧ Ints w' w.heap.size v (wts 1 xs fs) ∧ Below w.heap.size w w' := by
  obtain ⟨i0, hi0, hz0, hs0, hy0⟩ := info_parts info_int
  obtain ⟨va, va2, rfl, hcE⟩ := els_slice hE
  obtain ⟨fa, fc, rfl, hcI⟩ := ints_slice hI
  have LV := fun u => level1_any va xs.length va2 fa fs.length fc u
  have hwb : Below w.heap.size w ((w.alloc (.cells #[.slice va xs.length va2, .slice fa fs.length fc] 92)).alloc (.cells #[.slice va xs.length va2, .slice fa fs.length fc] 92)) := ((Below.refl _ _).alloc (Nat.le_refl _) _).alloc (by simp) _
  have q0 : ((w.alloc (.cells #[.slice va xs.length va2, .slice fa fs.length fc] 92)).alloc (.cells #[.slice va xs.length va2, .slice fa fs.length fc] 92)).cell? ⟨w.heap.size + 1, 0, none⟩ = some (.slice va xs.length va2) := by simp
  have q1 : ((w.alloc (.cells #[.slice va xs.length va2, .slice fa fs.length fc] 92)).alloc (.cells #[.slice va xs.length va2, .slice fa fs.length fc] 92)).cell? ⟨w.heap.size + 1, 1, none⟩ = some (.slice fa fs.length fc) := by simp
  have HL : Hid (fs.length = xs.length) := hl
  clear hE hI hl
  obtain ⟨W, HW⟩ : ∃ W, Hid (W = (w.alloc (.cells #[.slice va xs.length va2, .slice fa fs.length fc] 92)).alloc (.cells #[.slice va xs.length va2, .slice fa fs.length fc] 92)) := ⟨_, rfl⟩
  have hWs : w.heap.size + 2 ≤ W.heap.size := by rw [HW.out]; simp
  rw [← HW.out] at hwb q0 q1
  have HQ : Hid (W.cell? ⟨w.heap.size + 1, 0, none⟩ = some (.slice va xs.length va2) ∧ W.cell? ⟨w.heap.size + 1, 1, none⟩ = some (.slice fa fs.length fc)) := ⟨q0, q1⟩
  clear q0 q1
  go_enter Tryz.func52, Tryz.ntmps52
  go_wp2_with fail
  refine (LV _).mono ?_
  rintro e w1 ⟨rfl, hw1⟩
  obtain rfl : W = w1 := HW.out.trans hw1.symm
  have z0 : W.cell? ⟨w.heap.size, 0, none⟩ = some (.slice va xs.length va2) := by rw [HW.out]; simp
  clear LV hw1 HW
  go_wp2_with fail
  go_loopw [6, 15] (fun v i wr => WtRel W 1 xs fs v i wr) (fun _ i _ => xs.length - (intOf i).toNat)
  case atStart => exact ⟨0, Nat.zero_le _, rfl, World.ownsRow_nil _ _ _ _, Below.refl _ _⟩
  case round =>
    clear z0
    obtain ⟨k, hk, rfl, hR, hbw⟩ := hrel
    have hrl := wtsK_len 1 xs fs k
    by_cases hlt : k < xs.length
    · have hk8 : (k : Int) < (xs.length : Int) := by omega
      have p0 : wr.cell? ⟨w.heap.size + 1, 0, none⟩ = some (.slice va xs.length va2) := (hbw.cell (p := ⟨w.heap.size + 1, 0, none⟩) (by show w.heap.size + 1 < W.heap.size; omega)).trans HQ.out.1
      have p1 : wr.cell? ⟨w.heap.size + 1, 1, none⟩ = some (.slice fa fs.length fc) := (hbw.cell (p := ⟨w.heap.size + 1, 1, none⟩) (by show w.heap.size + 1 < W.heap.size; omega)).trans HQ.out.2
      obtain ⟨e, he⟩ : ∃ e, xs[k]? = some e := ⟨_, List.getElem?_eq_getElem hlt⟩
      obtain ⟨g, hga, hgl, y1, y2, y3, _⟩ := hcE k e he
      subst hga
      have HV : Hid (wtL 1 (elAt xs k) (at0 fs k) = e.first) := by show _ = _; rw [elAt_of he]; rfl
      have CK := clos1_any wr (w.heap.size + 1) g xs.length va2 k (.slice fa fs.length fc) e.first p0 p1 hlt ((hbw.cell (p := ⟨g, k * 4, none⟩) (by show g < W.heap.size; omega)).trans (by simpa using (hwb.cell (p := ⟨g, k * 4, none⟩) hgl).trans y1))
      clear y1 hcE hcI p0 p1
      go_wp2_with fail
      refine CK.mono ?_
      rintro e' w3 ⟨rfl, hw3⟩
      obtain rfl : wr = w3 := hw3.symm
      clear CK
      have hsz := hbw.size
      by_cases h0 : e.first = 0
      · have HS : Hid (wtsK 1 xs fs (k + 1) = wtsK 1 xs fs k) := wtsK_zero (HV.out.trans h0)
        have HR : Hid (Ints _ _ _ _) := hR
        clear hR HV
        go_wp2
        exact ⟨⟨k + 1, by omega, by go_num, by rw [HS.out]; exact HR.out, hbw⟩, by simp [intOf]; omega⟩
      · have h0' : (e.first == 0) = false := by simpa using h0
        have HS : Hid (wtsK 1 xs fs (k + 1) = wtsK 1 xs fs k ++ [e.first]) := by
          have := wtsK_some (lv := 1) (xs := xs) (fs := fs) (k := k) (by rw [HV.out]; exact h0)
          rw [HV.out] at this
          exact this
        clear HV
        unfold Ints at hR
        go_wp2_with (at_builtin; refine wpList_append_own _ rfl _ _ 59 rfl W.heap.size 3 i0 (.int .i64 0) 1 8 Tryz.underlying59 hi0 hz0 hs0 hy0 rfl (by decide) _ _ _ rfl (hR.alloc _) ⟨wr.heap.size, 0, none⟩ 1 1 [.int .i64 (e.first)] rfl rfl (cells1_at _ _ _ _ (by simp)) (fun u hu => by simp at hu; subst hu; rfl) (by unfold maxLen; omega) (by omega) (by simp; omega) ?_)
        intro v6 w4 ho4 hg4 _
        have hI4 : Ints w4 W.heap.size v6 (wtsK 1 xs fs k ++ [e.first]) := Ints.snoc ho4
        have hb4 : Below W.heap.size W w4 := Below.grown (hbw.alloc hbw.size _) hg4 (hbw.alloc hbw.size _).size (fun j hj => (World.ownsRow.lt hR j hj).1)
        have HI4 : Hid (Ints _ _ _ _) := hI4
        clear ho4 hg4 hR hI4
        go_wp2
        exact ⟨⟨k + 1, by omega, by go_num, by rw [HS.out]; exact HI4.out, hb4⟩, by simp [intOf]; omega⟩
    · have hk3 : k = xs.length := by omega
      subst hk3
      have HR : Hid (Ints _ _ _ _) := hR
      clear hR
      go_wp2
      go_ret
      exact ⟨_, rfl, low_ints HR.out (by omega), hwb.trans (hbw.mono (by omega))⟩

set_option maxRecDepth 100000 in
set_option maxHeartbeats 1000000 in
theorem clos2_any (u : World) (b g n c k : Nat) (vf : Value) (x : Int) (hb : u.cell? ⟨b, 0, none⟩ = some (.slice (some ⟨g, 0, none⟩) n c)) (_hb2 : u.cell? ⟨b, 1, none⟩ = some vf) (hk : k < n) (hx : u.cell? ⟨g, k * 4 + 1, none⟩ = some (.int .i64 x)) :
    Calls Tryz.prog 96 #[.int .i64 k, .pointer (some ⟨b, 0, none⟩)] u fun e w' => e = .returned (.int .i64 x) ∧ w' = u := by
  have hk8 : (k : Int) < (n : Int) := by omega
  go_enter Tryz.func96, Tryz.ntmps96
  go_wp2
  go_ret
  exact ⟨rfl, rfl⟩

set_option maxRecDepth 100000 in
set_option maxHeartbeats 4000000 in
theorem weights2_any {w : World} {B B' : Nat} {ve vf : Value} {xs : List El} {fs : List Int} (hE : Elems w B ve xs) (hI : Ints w B' vf fs) (hl : fs.length = xs.length) (hn : xs.length ≤ 1048576) :
    Calls Tryz.prog 52 #[.agg #[ve, vf], .int .i64 2] w fun e w' => ∃ v, e = .returned v ∧ Ints w' w.heap.size v (wts 2 xs fs) ∧ Below w.heap.size w w' := by
  obtain ⟨i0, hi0, hz0, hs0, hy0⟩ := info_parts info_int
  obtain ⟨va, va2, rfl, hcE⟩ := els_slice hE
  obtain ⟨fa, fc, rfl, hcI⟩ := ints_slice hI
  have LV := fun u => level2_any va xs.length va2 fa fs.length fc u
  have hwb : Below w.heap.size w ((w.alloc (.cells #[.slice va xs.length va2, .slice fa fs.length fc] 92)).alloc (.cells #[.slice va xs.length va2, .slice fa fs.length fc] 92)) := ((Below.refl _ _).alloc (Nat.le_refl _) _).alloc (by simp) _
  have q0 : ((w.alloc (.cells #[.slice va xs.length va2, .slice fa fs.length fc] 92)).alloc (.cells #[.slice va xs.length va2, .slice fa fs.length fc] 92)).cell? ⟨w.heap.size + 1, 0, none⟩ = some (.slice va xs.length va2) := by simp
  have q1 : ((w.alloc (.cells #[.slice va xs.length va2, .slice fa fs.length fc] 92)).alloc (.cells #[.slice va xs.length va2, .slice fa fs.length fc] 92)).cell? ⟨w.heap.size + 1, 1, none⟩ = some (.slice fa fs.length fc) := by simp
  have HL : Hid (fs.length = xs.length) := hl
  clear hE hI hl
  obtain ⟨W, HW⟩ : ∃ W, Hid (W = (w.alloc (.cells #[.slice va xs.length va2, .slice fa fs.length fc] 92)).alloc (.cells #[.slice va xs.length va2, .slice fa fs.length fc] 92)) := ⟨_, rfl⟩
  have hWs : w.heap.size + 2 ≤ W.heap.size := by rw [HW.out]; simp
  rw [← HW.out] at hwb q0 q1
  have HQ : Hid (W.cell? ⟨w.heap.size + 1, 0, none⟩ = some (.slice va xs.length va2) ∧ W.cell? ⟨w.heap.size + 1, 1, none⟩ = some (.slice fa fs.length fc)) := ⟨q0, q1⟩
  clear q0 q1
  go_enter Tryz.func52, Tryz.ntmps52
  go_wp2_with fail
  refine (LV _).mono ?_
  rintro e w1 ⟨rfl, hw1⟩
  obtain rfl : W = w1 := HW.out.trans hw1.symm
  have z0 : W.cell? ⟨w.heap.size, 0, none⟩ = some (.slice va xs.length va2) := by rw [HW.out]; simp
  clear LV hw1 HW
  go_wp2_with fail
  go_loopw [6, 15] (fun v i wr => WtRel W 2 xs fs v i wr) (fun _ i _ => xs.length - (intOf i).toNat)
  case atStart => exact ⟨0, Nat.zero_le _, rfl, World.ownsRow_nil _ _ _ _, Below.refl _ _⟩
  case round =>
    clear z0
    obtain ⟨k, hk, rfl, hR, hbw⟩ := hrel
    have hrl := wtsK_len 2 xs fs k
    by_cases hlt : k < xs.length
    · have hk8 : (k : Int) < (xs.length : Int) := by omega
      have p0 : wr.cell? ⟨w.heap.size + 1, 0, none⟩ = some (.slice va xs.length va2) := (hbw.cell (p := ⟨w.heap.size + 1, 0, none⟩) (by show w.heap.size + 1 < W.heap.size; omega)).trans HQ.out.1
      have p1 : wr.cell? ⟨w.heap.size + 1, 1, none⟩ = some (.slice fa fs.length fc) := (hbw.cell (p := ⟨w.heap.size + 1, 1, none⟩) (by show w.heap.size + 1 < W.heap.size; omega)).trans HQ.out.2
      obtain ⟨e, he⟩ : ∃ e, xs[k]? = some e := ⟨_, List.getElem?_eq_getElem hlt⟩
      obtain ⟨g, hga, hgl, y1, y2, y3, _⟩ := hcE k e he
      subst hga
      have HV : Hid (wtL 2 (elAt xs k) (at0 fs k) = e.second) := by show _ = _; rw [elAt_of he]; rfl
      have CK := clos2_any wr (w.heap.size + 1) g xs.length va2 k (.slice fa fs.length fc) e.second p0 p1 hlt ((hbw.cell (p := ⟨g, k * 4 + 1, none⟩) (by show g < W.heap.size; omega)).trans (by simpa using (hwb.cell (p := ⟨g, k * 4 + 1, none⟩) hgl).trans y2))
      clear y1 hcE hcI p0 p1
      go_wp2_with fail
      refine CK.mono ?_
      rintro e' w3 ⟨rfl, hw3⟩
      obtain rfl : wr = w3 := hw3.symm
      clear CK
      have hsz := hbw.size
      by_cases h0 : e.second = 0
      · have HS : Hid (wtsK 2 xs fs (k + 1) = wtsK 2 xs fs k) := wtsK_zero (HV.out.trans h0)
        have HR : Hid (Ints _ _ _ _) := hR
        clear hR HV
        go_wp2
        exact ⟨⟨k + 1, by omega, by go_num, by rw [HS.out]; exact HR.out, hbw⟩, by simp [intOf]; omega⟩
      · have h0' : (e.second == 0) = false := by simpa using h0
        have HS : Hid (wtsK 2 xs fs (k + 1) = wtsK 2 xs fs k ++ [e.second]) := by
          have := wtsK_some (lv := 2) (xs := xs) (fs := fs) (k := k) (by rw [HV.out]; exact h0)
          rw [HV.out] at this
          exact this
        clear HV
        unfold Ints at hR
        go_wp2_with (at_builtin; refine wpList_append_own _ rfl _ _ 59 rfl W.heap.size 3 i0 (.int .i64 0) 1 8 Tryz.underlying59 hi0 hz0 hs0 hy0 rfl (by decide) _ _ _ rfl (hR.alloc _) ⟨wr.heap.size, 0, none⟩ 1 1 [.int .i64 (e.second)] rfl rfl (cells1_at _ _ _ _ (by simp)) (fun u hu => by simp at hu; subst hu; rfl) (by unfold maxLen; omega) (by omega) (by simp; omega) ?_)
        intro v6 w4 ho4 hg4 _
        have hI4 : Ints w4 W.heap.size v6 (wtsK 2 xs fs k ++ [e.second]) := Ints.snoc ho4
        have hb4 : Below W.heap.size W w4 := Below.grown (hbw.alloc hbw.size _) hg4 (hbw.alloc hbw.size _).size (fun j hj => (World.ownsRow.lt hR j hj).1)
        have HI4 : Hid (Ints _ _ _ _) := hI4
        clear ho4 hg4 hR hI4
        go_wp2
        exact ⟨⟨k + 1, by omega, by go_num, by rw [HS.out]; exact HI4.out, hb4⟩, by simp [intOf]; omega⟩
    · have hk3 : k = xs.length := by omega
      subst hk3
      have HR : Hid (Ints _ _ _ _) := hR
      clear hR
      go_wp2
      go_ret
      exact ⟨_, rfl, low_ints HR.out (by omega), hwb.trans (hbw.mono (by omega))⟩

set_option maxRecDepth 100000 in
set_option maxHeartbeats 1000000 in
theorem clos3_any (u : World) (b g n c k : Nat) (vf : Value) (x : Int) (hb : u.cell? ⟨b, 0, none⟩ = some (.slice (some ⟨g, 0, none⟩) n c)) (_hb2 : u.cell? ⟨b, 1, none⟩ = some vf) (hk : k < n) (hx : u.cell? ⟨g, k * 4 + 2, none⟩ = some (.int .i64 x)) :
    Calls Tryz.prog 97 #[.int .i64 k, .pointer (some ⟨b, 0, none⟩)] u fun e w' => e = .returned (.int .i64 x) ∧ w' = u := by
  have hk8 : (k : Int) < (n : Int) := by omega
  go_enter Tryz.func97, Tryz.ntmps97
  go_wp2
  go_ret
  exact ⟨rfl, rfl⟩

set_option maxRecDepth 100000 in
set_option maxHeartbeats 4000000 in
theorem weights3_any {w : World} {B B' : Nat} {ve vf : Value} {xs : List El} {fs : List Int} (hE : Elems w B ve xs) (hI : Ints w B' vf fs) (hl : fs.length = xs.length) (hn : xs.length ≤ 1048576) :
    Calls Tryz.prog 52 #[.agg #[ve, vf], .int .i64 3] w fun e w' => ∃ v, e = .returned v ∧ Ints w' w.heap.size v (wts 3 xs fs) ∧ Below w.heap.size w w' := by
  obtain ⟨i0, hi0, hz0, hs0, hy0⟩ := info_parts info_int
  obtain ⟨va, va2, rfl, hcE⟩ := els_slice hE
  obtain ⟨fa, fc, rfl, hcI⟩ := ints_slice hI
  have LV := fun u => level3_any va xs.length va2 fa fs.length fc u
  have hwb : Below w.heap.size w ((w.alloc (.cells #[.slice va xs.length va2, .slice fa fs.length fc] 92)).alloc (.cells #[.slice va xs.length va2, .slice fa fs.length fc] 92)) := ((Below.refl _ _).alloc (Nat.le_refl _) _).alloc (by simp) _
  have q0 : ((w.alloc (.cells #[.slice va xs.length va2, .slice fa fs.length fc] 92)).alloc (.cells #[.slice va xs.length va2, .slice fa fs.length fc] 92)).cell? ⟨w.heap.size + 1, 0, none⟩ = some (.slice va xs.length va2) := by simp
  have q1 : ((w.alloc (.cells #[.slice va xs.length va2, .slice fa fs.length fc] 92)).alloc (.cells #[.slice va xs.length va2, .slice fa fs.length fc] 92)).cell? ⟨w.heap.size + 1, 1, none⟩ = some (.slice fa fs.length fc) := by simp
  have HL : Hid (fs.length = xs.length) := hl
  clear hE hI hl
  obtain ⟨W, HW⟩ : ∃ W, Hid (W = (w.alloc (.cells #[.slice va xs.length va2, .slice fa fs.length fc] 92)).alloc (.cells #[.slice va xs.length va2, .slice fa fs.length fc] 92)) := ⟨_, rfl⟩
  have hWs : w.heap.size + 2 ≤ W.heap.size := by rw [HW.out]; simp
  rw [← HW.out] at hwb q0 q1
  have HQ : Hid (W.cell? ⟨w.heap.size + 1, 0, none⟩ = some (.slice va xs.length va2) ∧ W.cell? ⟨w.heap.size + 1, 1, none⟩ = some (.slice fa fs.length fc)) := ⟨q0, q1⟩
  clear q0 q1
  go_enter Tryz.func52, Tryz.ntmps52
  go_wp2_with fail
  refine (LV _).mono ?_
  rintro e w1 ⟨rfl, hw1⟩
  obtain rfl : W = w1 := HW.out.trans hw1.symm
  have z0 : W.cell? ⟨w.heap.size, 0, none⟩ = some (.slice va xs.length va2) := by rw [HW.out]; simp
  clear LV hw1 HW
  go_wp2_with fail
  go_loopw [6, 15] (fun v i wr => WtRel W 3 xs fs v i wr) (fun _ i _ => xs.length - (intOf i).toNat)
  case atStart => exact ⟨0, Nat.zero_le _, rfl, World.ownsRow_nil _ _ _ _, Below.refl _ _⟩
  case round =>
    clear z0
    obtain ⟨k, hk, rfl, hR, hbw⟩ := hrel
    have hrl := wtsK_len 3 xs fs k
    by_cases hlt : k < xs.length
    · have hk8 : (k : Int) < (xs.length : Int) := by omega
      have p0 : wr.cell? ⟨w.heap.size + 1, 0, none⟩ = some (.slice va xs.length va2) := (hbw.cell (p := ⟨w.heap.size + 1, 0, none⟩) (by show w.heap.size + 1 < W.heap.size; omega)).trans HQ.out.1
      have p1 : wr.cell? ⟨w.heap.size + 1, 1, none⟩ = some (.slice fa fs.length fc) := (hbw.cell (p := ⟨w.heap.size + 1, 1, none⟩) (by show w.heap.size + 1 < W.heap.size; omega)).trans HQ.out.2
      obtain ⟨e, he⟩ : ∃ e, xs[k]? = some e := ⟨_, List.getElem?_eq_getElem hlt⟩
      obtain ⟨g, hga, hgl, y1, y2, y3, _⟩ := hcE k e he
      subst hga
      have HV : Hid (wtL 3 (elAt xs k) (at0 fs k) = e.third) := by show _ = _; rw [elAt_of he]; rfl
      have CK := clos3_any wr (w.heap.size + 1) g xs.length va2 k (.slice fa fs.length fc) e.third p0 p1 hlt ((hbw.cell (p := ⟨g, k * 4 + 2, none⟩) (by show g < W.heap.size; omega)).trans (by simpa using (hwb.cell (p := ⟨g, k * 4 + 2, none⟩) hgl).trans y3))
      clear y1 hcE hcI p0 p1
      go_wp2_with fail
      refine CK.mono ?_
      rintro e' w3 ⟨rfl, hw3⟩
      obtain rfl : wr = w3 := hw3.symm
      clear CK
      have hsz := hbw.size
      by_cases h0 : e.third = 0
      · have HS : Hid (wtsK 3 xs fs (k + 1) = wtsK 3 xs fs k) := wtsK_zero (HV.out.trans h0)
        have HR : Hid (Ints _ _ _ _) := hR
        clear hR HV
        go_wp2
        exact ⟨⟨k + 1, by omega, by go_num, by rw [HS.out]; exact HR.out, hbw⟩, by simp [intOf]; omega⟩
      · have h0' : (e.third == 0) = false := by simpa using h0
        have HS : Hid (wtsK 3 xs fs (k + 1) = wtsK 3 xs fs k ++ [e.third]) := by
          have := wtsK_some (lv := 3) (xs := xs) (fs := fs) (k := k) (by rw [HV.out]; exact h0)
          rw [HV.out] at this
          exact this
        clear HV
        unfold Ints at hR
        go_wp2_with (at_builtin; refine wpList_append_own _ rfl _ _ 59 rfl W.heap.size 3 i0 (.int .i64 0) 1 8 Tryz.underlying59 hi0 hz0 hs0 hy0 rfl (by decide) _ _ _ rfl (hR.alloc _) ⟨wr.heap.size, 0, none⟩ 1 1 [.int .i64 (e.third)] rfl rfl (cells1_at _ _ _ _ (by simp)) (fun u hu => by simp at hu; subst hu; rfl) (by unfold maxLen; omega) (by omega) (by simp; omega) ?_)
        intro v6 w4 ho4 hg4 _
        have hI4 : Ints w4 W.heap.size v6 (wtsK 3 xs fs k ++ [e.third]) := Ints.snoc ho4
        have hb4 : Below W.heap.size W w4 := Below.grown (hbw.alloc hbw.size _) hg4 (hbw.alloc hbw.size _).size (fun j hj => (World.ownsRow.lt hR j hj).1)
        have HI4 : Hid (Ints _ _ _ _) := hI4
        clear ho4 hg4 hR hI4
        go_wp2
        exact ⟨⟨k + 1, by omega, by go_num, by rw [HS.out]; exact HI4.out, hb4⟩, by simp [intOf]; omega⟩
    · have hk3 : k = xs.length := by omega
      subst hk3
      have HR : Hid (Ints _ _ _ _) := hR
      clear hR
      go_wp2
      go_ret
      exact ⟨_, rfl, low_ints HR.out (by omega), hwb.trans (hbw.mono (by omega))⟩

set_option maxRecDepth 100000 in
set_option maxHeartbeats 1000000 in
theorem clos4_any (u : World) (b g n c k : Nat) (ve : Value) (x : Int) (_hb2 : u.cell? ⟨b, 0, none⟩ = some ve) (hb : u.cell? ⟨b, 1, none⟩ = some (.slice (some ⟨g, 0, none⟩) n c)) (hk : k < n) (hx : u.cell? ⟨g, k, none⟩ = some (.int .i64 x)) :
    Calls Tryz.prog 98 #[.int .i64 k, .pointer (some ⟨b, 0, none⟩)] u fun e w' => e = .returned (.int .i64 x) ∧ w' = u := by
  have hk8 : (k : Int) < (n : Int) := by omega
  go_enter Tryz.func98, Tryz.ntmps98
  go_wp2
  go_ret
  exact ⟨rfl, rfl⟩

set_option maxRecDepth 100000 in
set_option maxHeartbeats 4000000 in
theorem weights4_any {w : World} {B B' : Nat} {ve vf : Value} {xs : List El} {fs : List Int} (hE : Elems w B ve xs) (hI : Ints w B' vf fs) (hl : fs.length = xs.length) (hn : xs.length ≤ 1048576) :
    Calls Tryz.prog 52 #[.agg #[ve, vf], .int .i64 4] w fun e w' => ∃ v, e = .returned v ∧ Ints w' w.heap.size v (wts 4 xs fs) ∧ Below w.heap.size w w' := by
  obtain ⟨i0, hi0, hz0, hs0, hy0⟩ := info_parts info_int
  obtain ⟨va, va2, rfl, hcE⟩ := els_slice hE
  obtain ⟨fa, fc, rfl, hcI⟩ := ints_slice hI
  have LV := fun u => level4_any va xs.length va2 fa fs.length fc u
  have hwb : Below w.heap.size w ((w.alloc (.cells #[.slice va xs.length va2, .slice fa fs.length fc] 92)).alloc (.cells #[.slice va xs.length va2, .slice fa fs.length fc] 92)) := ((Below.refl _ _).alloc (Nat.le_refl _) _).alloc (by simp) _
  have q0 : ((w.alloc (.cells #[.slice va xs.length va2, .slice fa fs.length fc] 92)).alloc (.cells #[.slice va xs.length va2, .slice fa fs.length fc] 92)).cell? ⟨w.heap.size + 1, 0, none⟩ = some (.slice va xs.length va2) := by simp
  have q1 : ((w.alloc (.cells #[.slice va xs.length va2, .slice fa fs.length fc] 92)).alloc (.cells #[.slice va xs.length va2, .slice fa fs.length fc] 92)).cell? ⟨w.heap.size + 1, 1, none⟩ = some (.slice fa fs.length fc) := by simp
  have HL : Hid (fs.length = xs.length) := hl
  clear hE hI hl
  obtain ⟨W, HW⟩ : ∃ W, Hid (W = (w.alloc (.cells #[.slice va xs.length va2, .slice fa fs.length fc] 92)).alloc (.cells #[.slice va xs.length va2, .slice fa fs.length fc] 92)) := ⟨_, rfl⟩
  have hWs : w.heap.size + 2 ≤ W.heap.size := by rw [HW.out]; simp
  rw [← HW.out] at hwb q0 q1
  have HQ : Hid (W.cell? ⟨w.heap.size + 1, 0, none⟩ = some (.slice va xs.length va2) ∧ W.cell? ⟨w.heap.size + 1, 1, none⟩ = some (.slice fa fs.length fc)) := ⟨q0, q1⟩
  clear q0 q1
  go_enter Tryz.func52, Tryz.ntmps52
  go_wp2_with fail
  refine (LV _).mono ?_
  rintro e w1 ⟨rfl, hw1⟩
  obtain rfl : W = w1 := HW.out.trans hw1.symm
  have z0 : W.cell? ⟨w.heap.size, 0, none⟩ = some (.slice va xs.length va2) := by rw [HW.out]; simp
  clear LV hw1 HW
  go_wp2_with fail
  go_loopw [6, 15] (fun v i wr => WtRel W 4 xs fs v i wr) (fun _ i _ => xs.length - (intOf i).toNat)
  case atStart => exact ⟨0, Nat.zero_le _, rfl, World.ownsRow_nil _ _ _ _, Below.refl _ _⟩
  case round =>
    clear z0
    obtain ⟨k, hk, rfl, hR, hbw⟩ := hrel
    have hrl := wtsK_len 4 xs fs k
    by_cases hlt : k < xs.length
    · have hk8 : (k : Int) < (xs.length : Int) := by omega
      have p0 : wr.cell? ⟨w.heap.size + 1, 0, none⟩ = some (.slice va xs.length va2) := (hbw.cell (p := ⟨w.heap.size + 1, 0, none⟩) (by show w.heap.size + 1 < W.heap.size; omega)).trans HQ.out.1
      have p1 : wr.cell? ⟨w.heap.size + 1, 1, none⟩ = some (.slice fa fs.length fc) := (hbw.cell (p := ⟨w.heap.size + 1, 1, none⟩) (by show w.heap.size + 1 < W.heap.size; omega)).trans HQ.out.2
      have hkf : k < fs.length := by have := HL.out; omega
      obtain ⟨g, hga, hgl, y1⟩ := hcI k hkf
      subst hga
      have HV : Hid (wtL 4 (elAt xs k) (at0 fs k) = at0 fs k) := by show _ = _; rfl
      have CK := clos4_any wr (w.heap.size + 1) g fs.length fc k (.slice va xs.length va2) (at0 fs k) p0 p1 hkf ((hbw.cell (p := ⟨g, k, none⟩) (by show g < W.heap.size; omega)).trans (by simpa using (hwb.cell (p := ⟨g, k, none⟩) hgl).trans y1))
      clear y1 hcE hcI p0 p1
      go_wp2_with fail
      refine CK.mono ?_
      rintro e' w3 ⟨rfl, hw3⟩
      obtain rfl : wr = w3 := hw3.symm
      clear CK
      have hsz := hbw.size
      by_cases h0 : at0 fs k = 0
      · have HS : Hid (wtsK 4 xs fs (k + 1) = wtsK 4 xs fs k) := wtsK_zero (HV.out.trans h0)
        have HR : Hid (Ints _ _ _ _) := hR
        clear hR HV
        go_wp2
        exact ⟨⟨k + 1, by omega, by go_num, by rw [HS.out]; exact HR.out, hbw⟩, by simp [intOf]; omega⟩
      · have h0' : (at0 fs k == 0) = false := by simpa using h0
        have HS : Hid (wtsK 4 xs fs (k + 1) = wtsK 4 xs fs k ++ [at0 fs k]) := by
          have := wtsK_some (lv := 4) (xs := xs) (fs := fs) (k := k) (by rw [HV.out]; exact h0)
          rw [HV.out] at this
          exact this
        clear HV
        unfold Ints at hR
        go_wp2_with (at_builtin; refine wpList_append_own _ rfl _ _ 59 rfl W.heap.size 3 i0 (.int .i64 0) 1 8 Tryz.underlying59 hi0 hz0 hs0 hy0 rfl (by decide) _ _ _ rfl (hR.alloc _) ⟨wr.heap.size, 0, none⟩ 1 1 [.int .i64 (at0 fs k)] rfl rfl (cells1_at _ _ _ _ (by simp)) (fun u hu => by simp at hu; subst hu; rfl) (by unfold maxLen; omega) (by omega) (by simp; omega) ?_)
        intro v6 w4 ho4 hg4 _
        have hI4 : Ints w4 W.heap.size v6 (wtsK 4 xs fs k ++ [at0 fs k]) := Ints.snoc ho4
        have hb4 : Below W.heap.size W w4 := Below.grown (hbw.alloc hbw.size _) hg4 (hbw.alloc hbw.size _).size (fun j hj => (World.ownsRow.lt hR j hj).1)
        have HI4 : Hid (Ints _ _ _ _) := hI4
        clear ho4 hg4 hR hI4
        go_wp2
        exact ⟨⟨k + 1, by omega, by go_num, by rw [HS.out]; exact HI4.out, hb4⟩, by simp [intOf]; omega⟩
    · have hk3 : k = xs.length := by omega
      subst hk3
      have HR : Hid (Ints _ _ _ _) := hR
      clear hR
      go_wp2
      go_ret
      exact ⟨_, rfl, low_ints HR.out (by omega), hwb.trans (hbw.mono (by omega))⟩
end Go.Proofs.YtanfebccenfffagGreatDoor
