/- Contracts of the program's countRows and partRows. -/
import Derived.Test.YticogafoopkflaaDoorSlT6
import Derived.Test.YticogafoopkflaaDoorIWithin6
import Derived.Test.YticogafoopkflaaDoorPPut6
import Derived.Deep.AppendLies
import Derived.Maps.AppendAt
namespace Go.Proofs.YticogafoopkflaaDoor
open Go.RowKit

def totC (gs : List (List Rw)) (k : Nat) : Nat := (gs.take k).flatten.length

theorem totC_succ {gs : List (List Rw)} {k : Nat} {g : List Rw} (h : gs[k]? = some g) : totC gs (k + 1) = totC gs k + g.length := by
  unfold totC
  rw [List.take_add_one, h]
  simp

theorem totC_le {gs : List (List Rw)} (h : ∀ g ∈ gs, g.length ≤ 255) : ∀ k, totC gs k ≤ 255 * k
  | 0 => by simp [totC]
  | k + 1 => by
    have ih := totC_le h k
    cases hk : gs[k]? with
    | none =>
      have hle : gs.length ≤ k := List.getElem?_eq_none_iff.1 hk
      have : totC gs (k + 1) = totC gs k := by unfold totC; rw [List.take_of_length_le (by omega), List.take_of_length_le hle]
      omega
    | some g =>
      have := h g (List.mem_of_getElem? hk)
      rw [totC_succ hk]
      omega

set_option maxRecDepth 100000 in
set_option maxHeartbeats 2000000 in
theorem countRows_any {w : World} {v : Value} {gs : List (List Rw)} (hV : BkV w v gs) (hl : gs.length ≤ 1000) (hz : ∀ g ∈ gs, g.length ≤ 255) :
    Calls Tryd.prog 45 #[v] w fun e w' => e = .returned (.int .i64 (gs.flatten.length : Int)) ∧ w' = w := by
  obtain ⟨a, c, rfl, hq⟩ := hV
  have HQ : Hid _ := hq
  have HZ : Hid (∀ g ∈ gs, g.length ≤ 255) := hz
  have HTK : Hid (∀ k, totC gs k ≤ 255 * k) := totC_le hz
  have HTA : Hid (totC gs gs.length = gs.flatten.length) := by show (gs.take gs.length).flatten.length = _; rw [List.take_length]
  rw [← HTA.out]
  clear hq hz
  go_enter Tryd.func45, Tryd.ntmps45
  go_wp2_with fail
  go_loopw [3, 8] (fun n i wr => ∃ k : Nat, k ≤ gs.length ∧ i = .int .i64 (k : Int) ∧ n = .int .i64 (totC gs k : Int) ∧ wr = w) (fun _ i _ => gs.length - (intOf i).toNat)
  case atStart => exact ⟨0, Nat.zero_le _, rfl, rfl, rfl⟩
  case round =>
    obtain ⟨k, hk, rfl, rfl, rfl⟩ := hrel
    by_cases hlt : k < gs.length
    · obtain ⟨g, hg⟩ : ∃ g, gs[k]? = some g := ⟨_, List.getElem?_eq_getElem hlt⟩
      obtain ⟨b, o, ax, cx, rfl, d1, hsl⟩ := HQ.out k g hg
      have hbl := rw_cell_lt d1
      have hk8 : (k : Int) < (gs.length : Int) := by omega
      have hg8 := HZ.out g (List.mem_of_getElem? hg)
      have htk := HTK.out k
      have HTS : Hid (totC gs (k + 1) = totC gs k + g.length) := totC_succ hg
      obtain ⟨tk, HK⟩ : ∃ tk, Hid (totC gs k = tk) := ⟨_, rfl⟩
      rw [HK.out] at htk HTS
      rw [HK.out]
      clear hsl hg
      go_wp2
      exact ⟨⟨k + 1, by omega, by go_num, by rw [HTS.out]; go_num, by first | rfl | trivial⟩, by simp [intOf]; omega⟩
    · have hkz : k = gs.length := by omega
      subst hkz
      obtain ⟨tk, HK⟩ : ∃ tk, Hid (totC gs gs.length = tk) := ⟨_, rfl⟩
      rw [HK.out]
      go_wp2
      go_ret
      exact ⟨by rw [HK.out]; rfl, by first | rfl | trivial⟩

def lenVP : Value → Nat
  | .slice _ n _ => n
  | _ => 0

/-- The rows that are left, and the parts so far. -/
def PtRel (w : World) (N : Nat) (R : List (List Rw)) (v0 v3 : Value) (wr : World) : Prop :=
  ∃ (l : List Rw) (acc : List (List Rw)) (vs : List Value) (al : Option Addr) (cl : Nat), v0 = .slice al l.length cl ∧ l.length ≤ cl ∧ cl ≤ 9223372036854775807 ∧ SlT w al l ∧ RwB l ∧ 0 < l.length ∧ (∀ x ∈ l, lnP [x] ≤ 300) ∧ OwnT wr w.heap.size v3 acc vs ∧ acc.length + l.length ≤ N ∧ acc ++ partF l = R ∧ Below w.heap.size w wr

theorem rwb_sub {l l' : List Rw} (h : RwB l) (hs : ∀ x ∈ l', x ∈ l) (hn : l'.length ≤ l.length) : RwB l' := ⟨Nat.le_trans hn h.1, fun x hx => h.2 x (hs x hx)⟩

/-- One more slice behind the others. -/
theorem ownT_push {w u u' : World} {B g cap : Nat} {v x0 : Value} {l0 : List Rw} {gs : List (List Rw)} {vs : List Value} (h : OwnT w B v gs vs) (hu : Below w.heap.size w u) (h0 : SlTV u x0 l0) (hg : u.grownBy u' v.ownBlock) (ho : u'.ownsRow B 23 1 (.slice (some ⟨g, 0, none⟩) (gs.length + 1) cap) (gs.length + 1) (vs ++ [x0])) :
    OwnT u' B (.slice (some ⟨g, 0, none⟩) (gs.length + 1) cap) (gs ++ [l0]) (vs ++ [x0]) := by
  have h2 := h.below hu
  refine ⟨by simpa using ho, ?_⟩
  have key : ValsT u (vs ++ [x0]) (gs ++ [l0]) := h2.2.app (ValsT.one h0)
  rcases h2.1.2 with ⟨rfl, _⟩ | ⟨g', cap', cur, rfl, _, hgt, _⟩
  · have hb : Below u.heap.size u u' := ⟨hg.os, hg.tape, hg.output, hg.size, fun k hk => hg.block k hk (by simp [Value.ownBlock])⟩
    exact key.below hb (Nat.le_refl _)
  · exact key.kept hg hgt

set_option maxRecDepth 100000 in
set_option maxHeartbeats 8000000 in
theorem partRows_any {w : World} {al : Option Addr} {l : List Rw} {cl : Nat} (hT : SlT w al l) (hlc : l.length ≤ cl) (hc : cl ≤ 9223372036854775807) (hB : RwB l) (h0 : 0 < l.length) (h1 : ∀ x ∈ l, lnP [x] ≤ 300) :
    Calls Tryd.prog 43 #[.slice al l.length cl] w fun e w' => ∃ v vs, e = .returned v ∧ OwnT w' w.heap.size v (partF l) vs ∧ Below w.heap.size w w' := by
  obtain ⟨R, HR⟩ : ∃ R, Hid (partF l = R) := ⟨_, rfl⟩
  rw [HR.out]
  obtain ⟨i1, hi1, hy0, hy1, hy2⟩ := info_parts info_rwL
  have HT : Hid (SlT w al l) := hT
  have HB : Hid (RwB l) := hB
  have H1 : Hid (∀ x ∈ l, lnP [x] ≤ 300) := h1
  clear hT hB h1
  go_enter Tryd.func43, Tryd.ntmps43
  go_wp2_with fail
  go_loopw [0, 3] (fun v0 v3 wr => PtRel w 255 R v0 v3 wr) (fun v0 _ _ => lenVP v0)
  case atStart => exact ⟨l, [], [], al, cl, rfl, hlc, hc, HT.out, HB.out, h0, H1.out, ownT_nil w _, by have := HB.out.1; simp; omega, by rw [← HR.out]; rfl, Below.refl _ _⟩
  case round =>
    clear HT HB H1 hlc hc h0 HR
    obtain ⟨l, acc, vs, al, cl, rfl, hlc, hc, hT, hB, h0, h1, hO, hN, hE, hb⟩ := hrel
    obtain ⟨a3, c3, hv3⟩ := hO.form
    subst hv3
    obtain ⟨b, o, rfl⟩ : ∃ b o, al = some ⟨b, o, none⟩ := by
      rcases hT with h | ⟨b, o, h, _⟩
      · rw [h] at h0; simp at h0
      · exact ⟨b, o, h⟩
    have FT := fun (u : World) (hu : Below w.heap.size w u) => fit_any (cap := cl) (hT.below hu (Nat.le_refl _)).sl hB
    have hl255 := hB.1
    have HT : Hid (SlT w (some ⟨b, o, none⟩) l) := hT
    have HRB : Hid (RwB l) := hB
    have HO : Hid (OwnT wr w.heap.size (.slice a3 acc.length c3) acc vs) := hO
    have HB : Hid (Below w.heap.size w wr) := hb
    by_cases hfit : (pageI l).length ≤ 300
    · have HRE : Hid (acc ++ [l] = R) := by show _ = _; rw [← hE, partF_fit hfit]
      have F1 := FT wr hb
      rw [decide_eq_true hfit] at F1
      clear FT hT hB hO hb hE h1 hfit
      go_wp2_with fail
      refine F1.mono ?_
      rintro e w2 ⟨rfl, b2⟩
      have HB2 : Hid (Below w.heap.size w w2) := HB.out.trans (b2.mono HB.out.size)
      have bA := (Below.refl w2.heap.size w2).alloc (Nat.le_refl _) (.cells #[.slice (some ⟨b, o, none⟩) l.length cl] 23)
      have O2 := HO.out.below b2
      have hrow := (O2.below bA).1
      have HBA : Hid (Below w.heap.size w _) := HB2.out.trans (bA.mono HB2.out.size)
      have HX0 : Hid (SlTV (w2.alloc (.cells #[.slice (some ⟨b, o, none⟩) l.length cl] 23)) (.slice (some ⟨b, o, none⟩) l.length cl) l) := ⟨_, _, rfl, HT.out.below HBA.out (Nat.le_refl _)⟩
      have HO2 : Hid (OwnT w2 w.heap.size (.slice a3 acc.length c3) acc vs) := O2
      have HbA : Hid (Below _ _ _) := bA
      have hsU := HB2.out.size
      clear F1 b2 HO O2 bA
      go_wp2_with (at_builtin; refine wpList_append_lies _ rfl _ _ 52 rfl w.heap.size 23 i1 (.slice none 0 0) 1 24 Tryd.underlying52 hi1 hy0 hy1 hy2 rfl (by decide) _ _ _ rfl hrow ⟨_, 0, none⟩ 1 1 [.slice (some ⟨b, o, none⟩) l.length cl] rfl rfl (cell_one_new _ _ _) (fun x hx => by simp at hx; subst hx; rfl) (by omega) (by unfold maxLen; omega) (by omega) (by simp; omega) _ rfl ?_)
      intro g5 c5 u5 ho5 hg5 hgo5 hlt5
      have O5 := ownT_push HO2.out HbA.out HX0.out hg5 ho5
      rw [HRE.out] at O5
      have HO5 : Hid (OwnT _ _ _ _ _) := O5
      have HB5 : Hid (Below w.heap.size w u5) := Below.grown HBA.out hg5 HBA.out.size (fun i hj => (World.ownsRow.lt hrow i hj).1)
      clear O5 ho5 hg5 hrow HO2 HbA HX0 HBA HB2
      go_wp2
      go_ret
      exact ⟨_, _, rfl, HO5.out, HB5.out⟩
    · have F1 := FT wr hb
      rw [decide_eq_false hfit] at F1
      have hlt := part_lt (l := l) hfit h1
      have hPF : acc ++ partF l = acc ++ (l.take (max 1 (wn l (lnP l / 2))) :: partF (l.drop (max 1 (wn l (lnP l / 2))))) := by rw [partF_more hfit]
      have HPL : Hid (∀ u, Below w.heap.size w u → Calls Tryd.prog 76 #[.slice (some ⟨b, o, none⟩) l.length cl] u fun e w' => e = .returned (.int .i64 (lnP l : Int)) ∧ Below u.heap.size u w') := fun u hu => pageLen_any (cap := cl) (hT.below hu (Nat.le_refl _)).sl hB
      have hlnb := lnP_take_le1 hB
      obtain ⟨L, HL⟩ : ∃ L, Hid (lnP l = L) := ⟨_, rfl⟩
      rw [HL.out] at hlt hPF HPL hlnb
      have HWN : Hid (∀ u, Below w.heap.size w u → Calls Tryd.prog 56 #[.slice (some ⟨b, o, none⟩) l.length cl, .int .i64 ((L / 2 : Nat) : Int)] u fun e w' => e = .returned (.int .i64 (wn l (L / 2) : Int)) ∧ Below u.heap.size u w') := fun u hu => within_any (cap := cl) (L / 2) (hT.below hu (Nat.le_refl _)).sl hB (by omega)
      obtain ⟨q1, _, _⟩ := wn_is l (L / 2)
      obtain ⟨W, HW⟩ : ∃ W, Hid (wn l (L / 2) = W) := ⟨_, rfl⟩
      rw [HW.out] at hlt hPF HWN q1
      obtain ⟨n, HNN⟩ : ∃ n, Hid (max 1 W = n) := ⟨_, rfl⟩
      rw [HNN.out] at hlt hPF
      have hn1 : 1 ≤ n := by rw [← HNN.out]; omega
      have hmax : max (1 : Int) (W : Int) = (n : Int) := by rw [← HNN.out]; omega
      have hdiv : (L : Int).tdiv 2 = ((L / 2 : Nat) : Int) := by rw [Int.tdiv_eq_ediv_of_nonneg (by omega)]; omega
      have HRE : Hid ((acc ++ [l.take n]) ++ partF (l.drop n) = R) := by show _ = _; rw [← hE, hPF]; simp
      have htl : (l.take n).length = n := by rw [List.length_take]; omega
      have HTL : Hid ((l.take n).length = n) := htl
      have HDL : Hid ((l.drop n).length = l.length - n) := List.length_drop
      have HSD : Hid (SlT w (some ⟨b, o + n * 3, none⟩) (l.drop n)) := HT.out.drop n
      have HSP : Hid (SlT w (some ⟨b, o, none⟩) (l.take n)) := HT.out.take n
      have HRBD : Hid (RwB (l.drop n)) := rwb_sub hB (fun x hx => List.mem_of_mem_drop hx) (by rw [List.length_drop]; omega)
      have H1D : Hid (∀ x ∈ l.drop n, lnP [x] ≤ 300) := fun x hx => h1 x (List.mem_of_mem_drop hx)
      have hcn : (cl == n) = false := by simp; omega
      have hn8 : (n : Int) ≤ (cl : Int) := by omega
      have hn9 : (n : Int) ≤ (l.length : Int) := by omega
      clear FT hT hB hO hb hE h1 hfit hPF htl hmax
      by_cases hw1 : 1 < W
      · obtain rfl : n = W := by rw [← HNN.out]; omega
        have hw8 : (1 : Int) < (n : Int) := by omega
        clear hw1 HNN
        go_wp2_with fail
        refine F1.mono ?_
        rintro e w2 ⟨rfl, b2⟩
        have HB2 : Hid (Below w.heap.size w w2) := HB.out.trans (b2.mono HB.out.size)
        have HO2 : Hid (OwnT w2 w.heap.size (.slice a3 acc.length c3) acc vs) := HO.out.below b2
        have P2 := HPL.out w2 HB2.out
        clear F1 b2 HO HB HPL
        go_wp2_with fail
        refine P2.mono ?_
        rintro e w3 ⟨rfl, b3⟩
        have HB3 : Hid (Below w.heap.size w w3) := HB2.out.trans (b3.mono HB2.out.size)
        have HO3 : Hid (OwnT w3 w.heap.size (.slice a3 acc.length c3) acc vs) := HO2.out.below b3
        have W3 := HWN.out w3 HB3.out
        clear P2 b3 HO2 HB2 HWN
        go_wp2_with fail
        refine W3.mono ?_
        rintro e w4 ⟨rfl, b4⟩
        have HB4 : Hid (Below w.heap.size w w4) := HB3.out.trans (b4.mono HB3.out.size)
        have bA := (Below.refl w4.heap.size w4).alloc (Nat.le_refl _) (.cells #[.slice (some ⟨b, o, none⟩) n n] 23)
        have O4 := HO3.out.below b4
        have hrow := (O4.below bA).1
        have HBA : Hid (Below w.heap.size w _) := HB4.out.trans (bA.mono HB4.out.size)
        have HX0 : Hid (SlTV (w4.alloc (.cells #[.slice (some ⟨b, o, none⟩) n n] 23)) (.slice (some ⟨b, o, none⟩) n n) (l.take n)) := ⟨_, _, by rw [HTL.out], HSP.out.below HBA.out (Nat.le_refl _)⟩
        have HO4 : Hid (OwnT w4 w.heap.size (.slice a3 acc.length c3) acc vs) := O4
        have HbA : Hid (Below _ _ _) := bA
        have hsU := HB4.out.size
        clear W3 b4 HO3 O4 bA HB3
        go_wp2_with (at_builtin; refine wpList_append_lies _ rfl _ _ 52 rfl w.heap.size 23 i1 (.slice none 0 0) 1 24 Tryd.underlying52 hi1 hy0 hy1 hy2 rfl (by decide) _ _ _ rfl hrow ⟨_, 0, none⟩ 1 1 [.slice (some ⟨b, o, none⟩) n n] rfl rfl (cell_one_new _ _ _) (fun x hx => by simp at hx; subst hx; rfl) (by omega) (by unfold maxLen; omega) (by omega) (by simp; omega) _ rfl ?_)
        intro g5 c5 u5 ho5 hg5 hgo5 hlt5
        have O5 := ownT_push HO4.out HbA.out HX0.out hg5 ho5
        have HO5 : Hid (OwnT _ _ _ _ _) := O5
        have HB5 : Hid (Below w.heap.size w u5) := Below.grown HBA.out hg5 HBA.out.size (fun i hj => (World.ownsRow.lt hrow i hj).1)
        clear O5 ho5 hg5 hrow HO4 HbA HX0 HBA HB4
        go_wp2
        exact ⟨⟨l.drop n, acc ++ [l.take n], _, _, cl - n, by rw [HDL.out], by rw [HDL.out]; omega, by omega, HSD.out, HRBD.out, by rw [HDL.out]; omega, H1D.out, HO5.out, by rw [HDL.out]; simp; omega, HRE.out, HB5.out⟩, by simp [lenVP]; omega⟩
      · obtain rfl : n = 1 := by rw [← HNN.out]; omega
        have hw8 : ¬ (1 : Int) < (W : Int) := by omega
        clear hw1 HNN
        go_wp2_with fail
        refine F1.mono ?_
        rintro e w2 ⟨rfl, b2⟩
        have HB2 : Hid (Below w.heap.size w w2) := HB.out.trans (b2.mono HB.out.size)
        have HO2 : Hid (OwnT w2 w.heap.size (.slice a3 acc.length c3) acc vs) := HO.out.below b2
        have P2 := HPL.out w2 HB2.out
        clear F1 b2 HO HB HPL
        go_wp2_with fail
        refine P2.mono ?_
        rintro e w3 ⟨rfl, b3⟩
        have HB3 : Hid (Below w.heap.size w w3) := HB2.out.trans (b3.mono HB2.out.size)
        have HO3 : Hid (OwnT w3 w.heap.size (.slice a3 acc.length c3) acc vs) := HO2.out.below b3
        have W3 := HWN.out w3 HB3.out
        clear P2 b3 HO2 HB2 HWN
        go_wp2_with fail
        refine W3.mono ?_
        rintro e w4 ⟨rfl, b4⟩
        have HB4 : Hid (Below w.heap.size w w4) := HB3.out.trans (b4.mono HB3.out.size)
        have bA := (Below.refl w4.heap.size w4).alloc (Nat.le_refl _) (.cells #[.slice (some ⟨b, o, none⟩) 1 1] 23)
        have O4 := HO3.out.below b4
        have hrow := (O4.below bA).1
        have HBA : Hid (Below w.heap.size w _) := HB4.out.trans (bA.mono HB4.out.size)
        have HX0 : Hid (SlTV (w4.alloc (.cells #[.slice (some ⟨b, o, none⟩) 1 1] 23)) (.slice (some ⟨b, o, none⟩) 1 1) (l.take 1)) := ⟨_, _, by rw [HTL.out], HSP.out.below HBA.out (Nat.le_refl _)⟩
        have HO4 : Hid (OwnT w4 w.heap.size (.slice a3 acc.length c3) acc vs) := O4
        have HbA : Hid (Below _ _ _) := bA
        have hsU := HB4.out.size
        clear W3 b4 HO3 O4 bA HB3
        go_wp2_with (at_builtin; refine wpList_append_lies _ rfl _ _ 52 rfl w.heap.size 23 i1 (.slice none 0 0) 1 24 Tryd.underlying52 hi1 hy0 hy1 hy2 rfl (by decide) _ _ _ rfl hrow ⟨_, 0, none⟩ 1 1 [.slice (some ⟨b, o, none⟩) 1 1] rfl rfl (cell_one_new _ _ _) (fun x hx => by simp at hx; subst hx; rfl) (by omega) (by unfold maxLen; omega) (by omega) (by simp; omega) _ rfl ?_)
        intro g5 c5 u5 ho5 hg5 hgo5 hlt5
        have O5 := ownT_push HO4.out HbA.out HX0.out hg5 ho5
        have HO5 : Hid (OwnT _ _ _ _ _) := O5
        have HB5 : Hid (Below w.heap.size w u5) := Below.grown HBA.out hg5 HBA.out.size (fun i hj => (World.ownsRow.lt hrow i hj).1)
        clear O5 ho5 hg5 hrow HO4 HbA HX0 HBA HB4
        go_wp2
        exact ⟨⟨l.drop 1, acc ++ [l.take 1], _, _, cl - 1, by rw [HDL.out], by rw [HDL.out]; omega, by omega, HSD.out, HRBD.out, by rw [HDL.out]; omega, H1D.out, HO5.out, by rw [HDL.out]; simp; omega, HRE.out, HB5.out⟩, by simp [lenVP]; omega⟩
end Go.Proofs.YticogafoopkflaaDoor
