/- Contract of the program's withRow. -/
import Derived.Test.YticogafoopkflaaDoorRwApp
import Derived.Test.YticogafoopkflaaDoorIPlace6
import Derived.Test.YticogafoopkflaaDoorPPut6
import Derived.ArgAppend
namespace Go.Proofs.YticogafoopkflaaDoor
open Go.RowKit

/-- Rows put behind a slice that is full: it is made anew. -/
theorem step_append_full {w : World} {ops : Array Oper} {o : Oper} {a : Act} {K : Act → World → Prop} {Q : Exit → Act → World → Prop} {E : Prop} (hgd : o.guard = none) (s x : Operand)
    (ho : o.op = .call { callee := .builtin .append, args := #[s, x], argTypes := #[23, 23] }) (b n : Nat) (off : Nat) (vx : Value) (l l' : List Rw) (hn : n = l.length) (hs : a.eval s = .slice (some ⟨b, off, none⟩) n n) (hx : a.eval x = vx)
    (hS : SlRw w (some ⟨b, off, none⟩) l) (hR : SlV w vx l') (h0 : 0 < l'.length) (h63 : l.length + l'.length ≤ 1048576) (h : ∀ v' w', Rws w' w.heap.size v' (l ++ l') → w.grownBy w' none → K (a.put o.dst v') w') :
    if Region.wanted o (yielded ops a.tmps) = true then Oper.wp Tryd.prog o a w K Q else E := by
  rw [if_pos (by simp [Region.wanted, hgd])]
  subst hn
  obtain ⟨i0, hi, hzz, hz1, hz2⟩ := info_parts info_rwA
  obtain ⟨ax, cx, hv, hR⟩ := hR
  rcases hR with rfl | ⟨b', off', rfl, hE⟩
  · simp at h0
  have holds : ∀ j u, (rwAll l)[j]? = some u → w.cell? ((⟨b, off, none⟩ : Addr).add j) = some u := by
    rcases hS with rfl | ⟨b2, o2, hb, hE2⟩
    · intro j u hj; simp [rwAll] at hj
    · cases hb
      exact sl_cells hE2
  obtain ⟨v', w', hrun, r1, r2⟩ := run_append_arg_grows (P := Tryd.prog) w 23 o.type 32 i0 _ 3 48 Tryd.underlying23 hi hzz hz1 hz2 rfl (by decide) ⟨b, off, none⟩ l.length l.length (rwAll l) (rwAll_len l) holds ⟨b', off', none⟩ l'.length cx (rwAll l') (rwAll_len l') (sl_cells hE) (by omega) (by unfold maxLen; omega) (by omega)
  refine Go.Lib.wp_append_run w s x 23 23 ho _ _ hs (hx.trans hv) _ _ hrun ?_
  refine h _ _ ?_ r2
  unfold Rws
  rw [List.length_append, rwAll_append]
  exact r1

set_option maxRecDepth 100000 in
set_option maxHeartbeats 8000000 in
theorem withRow_any {w : World} {al : Option Addr} {l : List Rw} {cl : Nat} (x : Rw) (hS : SlRw w al l) (h0 : 0 < l.length) (hlc : l.length ≤ cl) (hc : cl ≤ 9223372036854775807) (hl9 : l.length ≤ 1000000) (hr : Rise l) :
    Calls Tryd.prog 44 #[.slice al l.length cl, .agg #[.string x.key, .string x.text, .string x.val]] w fun e w' => ∃ v, e = .returned v ∧ Rws w' w.heap.size v (insR l x) ∧ Below w.heap.size w w' := by
  obtain ⟨b, o, rfl⟩ : ∃ b o, al = some ⟨b, o, none⟩ := by
    rcases hS with h | ⟨b, o, h, _⟩
    · rw [h] at h0; simp at h0
    · exact ⟨b, o, h⟩
  have bA := (Below.refl w.heap.size w).alloc (Nat.le_refl _) (.cells #[.string x.key, .string x.text, .string x.val] 32)
  have PL := placeOf_any (c := cl) x.key (hS.below bA (Nat.le_refl _)) (by omega)
  have HX : Hid (BoxR6 (w.alloc (.cells #[.string x.key, .string x.text, .string x.val] 32)) w.heap.size x) := box_new6 w x
  have HBA : Hid (Below _ _ _) := bA
  have HS : Hid (SlRw w (some ⟨b, o, none⟩) l) := hS
  have hpl := (placeF_is x.key hr).1
  obtain ⟨R, HR⟩ : ∃ R, Hid (insR l x = R) := ⟨_, rfl⟩
  rw [HR.out]
  have HRE : Hid (R = l.take (placeF l x.key) ++ ([x] ++ l.drop (if thereF l x.key then placeF l x.key + 1 else placeF l x.key))) := by show _ = _; rw [← HR.out]; rfl
  have htt : thereF l x.key = true → placeF l x.key < l.length := fun h => (rowIn_there hr h).2
  clear hS bA hr HR
  generalize placeF l x.key = p at *
  have hp8 : (p : Int) ≤ (cl : Int) := by omega
  have hp9 : (p : Int) ≤ (l.length : Int) := by omega
  have htl : (l.take p).length = p := by rw [List.length_take]; omega
  have HTL : Hid ((l.take p).length = p) := htl
  clear htl
  cases hth : thereF l x.key
  · rw [hth] at PL HRE
    simp only [Bool.false_eq_true, if_false] at HRE
    clear htt hth
    by_cases hcp : cl = p
    · subst hcp
      have HDL : Hid ((l.drop cl).length = 0) := by show _ = _; rw [List.length_drop]; omega
      have HSD : Hid (SlRw w (some ⟨b, o, none⟩) (l.drop cl)) := .inl (List.drop_eq_nil_of_le (by omega))
      have hl0 : l.length - cl = 0 := by omega
      go_enter Tryd.func44, Tryd.ntmps44
      go_wp2_with fail
      refine PL.mono ?_
      rintro e w2 ⟨rfl, b2⟩
      have x2 := HX.out.below b2
      obtain ⟨d0, d1, d2⟩ := x2.cells
      have hx2 := x2.lt
      have HB2 : Hid (Below w.heap.size w w2) := HBA.out.trans (b2.mono HBA.out.size)
      have bB : Below w2.heap.size w2 (w2.alloc (.cells #[.string x.key, .string x.text, .string x.val] 32)) := (Below.refl _ _).alloc (Nat.le_refl _) _
      have S0 : Hid (SlRw (w2.alloc (.cells #[.string x.key, .string x.text, .string x.val] 32)) (some ⟨b, o, none⟩) (l.take cl)) := ((HS.out.below HB2.out (Nat.le_refl _)).take cl).below bB (Nat.le_refl _)
      have X0 : Hid (SlV (w2.alloc (.cells #[.string x.key, .string x.text, .string x.val] 32)) (.slice (some ⟨w2.heap.size, 0, none⟩) 1 1) [x]) := (rws_lit1 w2 _ w2.heap.size x rfl (Nat.le_refl _)).slV
      have VB : Hid (∀ u, Below w.heap.size w u → SlV u (.slice (some ⟨b, o, none⟩) 0 0) (l.drop cl)) := fun u hu => ⟨_, _, by rw [HDL.out], HSD.out.below hu (Nat.le_refl _)⟩
      have hw2 := HB2.out.size
      clear PL b2 x2 HX HBA
      go_upto_region 5 with fail
      go_cut [4] from 5 to 31 (fun v4 wx => Rws wx w.heap.size v4 R ∧ Below w.heap.size w wx)
      case first =>
        go_region_law (first
          | (refine step_append_full rfl (.tmp 26) (.tmp 28) rfl b cl o (.slice (some ⟨w2.heap.size, 0, none⟩) 1 1) (l.take cl) [x] HTL.out.symm rfl rfl (slRw_heap S0.out rfl) (slV_heap X0.out rfl) (by simp) (by rw [HTL.out]; simp; omega) ?_; intro v6 w6 i6 g6; have b6 : Below w.heap.size w w6 := Below.grown (by repeat (first | with_reducible exact (HB2.out.trans (bB.mono HB2.out.size)) | with_reducible refine Below.drew ?_)) g6 (by simp; omega) (fun g e => by cases e); have j6 := rws_low6 i6 (show w.heap.size ≤ _ by simp; omega); have hz6 := b6.size; clear g6 i6)
          | (refine step_append_rws rfl (.tmp 29) (.tmp 30) rfl w.heap.size v6 _ (l.take cl ++ [x]) (l.drop cl) rfl rfl (rws_heap j6 rfl) (slV_heap (VB.out _ b6) rfl) (by simp; omega) (by first | omega | (simp; omega)) ?_; intro v7 w7 i7 g7; have b7 : Below w.heap.size w w7 := Below.grown (by repeat (first | with_reducible exact b6 | with_reducible refine Below.drew ?_)) g7 (by first | omega | (simp; omega)) (fun g e => (World.ownsRow.lt j6 g e).1); clear g7))
        all_goals
          have hK : Rws w7 w.heap.size v7 R := by rw [HRE.out]; simpa using i7
          clear i7
          go_wp2_with fail
          go_meet
          case rel => exact ⟨hK, b7⟩
      case rest =>
        obtain ⟨r4, b4⟩ := hcut
        have HR4 : Hid (Rws wc w.heap.size u4 R) := r4
        have HB4 : Hid (Below w.heap.size w wc) := b4
        clear r4 b4 VB S0 X0 d0 d1 d2 hx2
        go_wp2
        go_ret
        exact ⟨_, rfl, HR4.out, HB4.out⟩
    · have hcp2 : (cl == p) = false := by simpa using hcp
      have HDL : Hid ((l.drop p).length = l.length - p) := by show _ = _; rw [List.length_drop]
      have HSD : Hid (SlRw w (some ⟨b, o + p * 3, none⟩) (l.drop p)) := HS.out.drop p
      go_enter Tryd.func44, Tryd.ntmps44
      go_wp2_with fail
      refine PL.mono ?_
      rintro e w2 ⟨rfl, b2⟩
      have x2 := HX.out.below b2
      obtain ⟨d0, d1, d2⟩ := x2.cells
      have hx2 := x2.lt
      have HB2 : Hid (Below w.heap.size w w2) := HBA.out.trans (b2.mono HBA.out.size)
      have bB : Below w2.heap.size w2 (w2.alloc (.cells #[.string x.key, .string x.text, .string x.val] 32)) := (Below.refl _ _).alloc (Nat.le_refl _) _
      have S0 : Hid (SlRw (w2.alloc (.cells #[.string x.key, .string x.text, .string x.val] 32)) (some ⟨b, o, none⟩) (l.take p)) := ((HS.out.below HB2.out (Nat.le_refl _)).take p).below bB (Nat.le_refl _)
      have X0 : Hid (SlV (w2.alloc (.cells #[.string x.key, .string x.text, .string x.val] 32)) (.slice (some ⟨w2.heap.size, 0, none⟩) 1 1) [x]) := (rws_lit1 w2 _ w2.heap.size x rfl (Nat.le_refl _)).slV
      have VB : Hid (∀ u, Below w.heap.size w u → SlV u (.slice (some ⟨b, o + p * 3, none⟩) (l.length - p) (cl - p)) (l.drop p)) := fun u hu => ⟨_, _, by rw [HDL.out], HSD.out.below hu (Nat.le_refl _)⟩
      have hw2 := HB2.out.size
      clear PL b2 x2 HX HBA
      go_upto_region 5 with fail
      go_cut [4] from 5 to 31 (fun v4 wx => Rws wx w.heap.size v4 R ∧ Below w.heap.size w wx)
      case first =>
        go_region_law (first
          | (refine step_append_full rfl (.tmp 26) (.tmp 28) rfl b p o (.slice (some ⟨w2.heap.size, 0, none⟩) 1 1) (l.take p) [x] HTL.out.symm rfl rfl (slRw_heap S0.out rfl) (slV_heap X0.out rfl) (by simp) (by rw [HTL.out]; simp; omega) ?_; intro v6 w6 i6 g6; have b6 : Below w.heap.size w w6 := Below.grown (by repeat (first | with_reducible exact (HB2.out.trans (bB.mono HB2.out.size)) | with_reducible refine Below.drew ?_)) g6 (by simp; omega) (fun g e => by cases e); have j6 := rws_low6 i6 (show w.heap.size ≤ _ by simp; omega); have hz6 := b6.size; clear g6 i6)
          | (refine step_append_rws rfl (.tmp 29) (.tmp 30) rfl w.heap.size v6 _ (l.take p ++ [x]) (l.drop p) rfl rfl (rws_heap j6 rfl) (slV_heap (VB.out _ b6) rfl) (by simp; omega) (by first | omega | (simp; omega)) ?_; intro v7 w7 i7 g7; have b7 : Below w.heap.size w w7 := Below.grown (by repeat (first | with_reducible exact b6 | with_reducible refine Below.drew ?_)) g7 (by first | omega | (simp; omega)) (fun g e => (World.ownsRow.lt j6 g e).1); clear g7))
        all_goals
          have hK : Rws w7 w.heap.size v7 R := by rw [HRE.out]; simpa using i7
          clear i7
          go_wp2_with fail
          go_meet
          case rel => exact ⟨hK, b7⟩
      case rest =>
        obtain ⟨r4, b4⟩ := hcut
        have HR4 : Hid (Rws wc w.heap.size u4 R) := r4
        have HB4 : Hid (Below w.heap.size w wc) := b4
        clear r4 b4 VB S0 X0 d0 d1 d2 hx2
        go_wp2
        go_ret
        exact ⟨_, rfl, HR4.out, HB4.out⟩
  · rw [hth] at PL HRE
    simp only [if_true] at HRE
    have hpt := htt hth
    clear htt hth
    have hcp2 : (cl == p) = false := by simp; omega
    have hp7 : (p : Int) + 1 ≤ (cl : Int) := by omega
    have hp6 : (p : Int) + 1 ≤ (l.length : Int) := by omega
    have hwr : IntKind.i64.wrap ((p : Int) + 1) = (p : Int) + 1 := by rw [IntKind.wrap_i64]; omega
    have hto : ((p : Int) + 1).toNat = p + 1 := by omega
    have hz0 : (0 : Int) ≤ (p : Int) + 1 := by omega
    by_cases hcq : cl = p + 1
    · subst hcq
      have hpp1 : (p : Int) ≤ (p : Int) + 1 := by omega
      have HDL : Hid ((l.drop (p + 1)).length = 0) := by show _ = _; rw [List.length_drop]; omega
      have hl0 : l.length - (p + 1) = 0 := by omega
      have HSD : Hid (SlRw w (some ⟨b, o, none⟩) (l.drop (p + 1))) := .inl (List.drop_eq_nil_of_le (by omega))
      go_enter Tryd.func44, Tryd.ntmps44
      go_wp2_with fail
      refine PL.mono ?_
      rintro e w2 ⟨rfl, b2⟩
      have x2 := HX.out.below b2
      obtain ⟨d0, d1, d2⟩ := x2.cells
      have hx2 := x2.lt
      have HB2 : Hid (Below w.heap.size w w2) := HBA.out.trans (b2.mono HBA.out.size)
      have bB : Below w2.heap.size w2 (w2.alloc (.cells #[.string x.key, .string x.text, .string x.val] 32)) := (Below.refl _ _).alloc (Nat.le_refl _) _
      have S0 : Hid (SlRw (w2.alloc (.cells #[.string x.key, .string x.text, .string x.val] 32)) (some ⟨b, o, none⟩) (l.take p)) := ((HS.out.below HB2.out (Nat.le_refl _)).take p).below bB (Nat.le_refl _)
      have X0 : Hid (SlV (w2.alloc (.cells #[.string x.key, .string x.text, .string x.val] 32)) (.slice (some ⟨w2.heap.size, 0, none⟩) 1 1) [x]) := (rws_lit1 w2 _ w2.heap.size x rfl (Nat.le_refl _)).slV
      have VB : Hid (∀ u, Below w.heap.size w u → SlV u (.slice (some ⟨b, o, none⟩) 0 0) (l.drop (p + 1))) := fun u hu => ⟨_, _, by rw [HDL.out], HSD.out.below hu (Nat.le_refl _)⟩
      have hw2 := HB2.out.size
      clear PL b2 x2 HX HBA
      go_upto_region 5 with fail
      go_cut [4] from 5 to 31 (fun v4 wx => Rws wx w.heap.size v4 R ∧ Below w.heap.size w wx)
      case first =>
        go_region_law (first
          | (refine step_append_full rfl (.tmp 26) (.tmp 28) rfl b p o (.slice (some ⟨w2.heap.size, 0, none⟩) 1 1) (l.take p) [x] HTL.out.symm rfl rfl (slRw_heap S0.out rfl) (slV_heap X0.out rfl) (by simp) (by rw [HTL.out]; simp; omega) ?_; intro v6 w6 i6 g6; have b6 : Below w.heap.size w w6 := Below.grown (by repeat (first | with_reducible exact (HB2.out.trans (bB.mono HB2.out.size)) | with_reducible refine Below.drew ?_)) g6 (by simp; omega) (fun g e => by cases e); have j6 := rws_low6 i6 (show w.heap.size ≤ _ by simp; omega); have hz6 := b6.size; clear g6 i6)
          | (refine step_append_rws rfl (.tmp 29) (.tmp 30) rfl w.heap.size v6 _ (l.take p ++ [x]) (l.drop (p + 1)) rfl rfl (rws_heap j6 rfl) (slV_heap (VB.out _ b6) rfl) (by simp; omega) (by first | omega | (simp; omega)) ?_; intro v7 w7 i7 g7; have b7 : Below w.heap.size w w7 := Below.grown (by repeat (first | with_reducible exact b6 | with_reducible refine Below.drew ?_)) g7 (by first | omega | (simp; omega)) (fun g e => (World.ownsRow.lt j6 g e).1); clear g7))
        all_goals
          have hK : Rws w7 w.heap.size v7 R := by rw [HRE.out]; simpa using i7
          clear i7
          go_wp2_with fail
          go_meet
          case rel => exact ⟨hK, b7⟩
      case rest =>
        obtain ⟨r4, b4⟩ := hcut
        have HR4 : Hid (Rws wc w.heap.size u4 R) := r4
        have HB4 : Hid (Below w.heap.size w wc) := b4
        clear r4 b4 VB S0 X0 d0 d1 d2 hx2
        go_wp2
        go_ret
        exact ⟨_, rfl, HR4.out, HB4.out⟩
    · have hcq2 : (cl == p + 1) = false := by simpa using hcq
      have HDL : Hid ((l.drop (p + 1)).length = l.length - (p + 1)) := by show _ = _; rw [List.length_drop]
      have HSD : Hid (SlRw w (some ⟨b, o + (p + 1) * 3, none⟩) (l.drop (p + 1))) := HS.out.drop (p + 1)
      go_enter Tryd.func44, Tryd.ntmps44
      go_wp2_with fail
      refine PL.mono ?_
      rintro e w2 ⟨rfl, b2⟩
      have x2 := HX.out.below b2
      obtain ⟨d0, d1, d2⟩ := x2.cells
      have hx2 := x2.lt
      have HB2 : Hid (Below w.heap.size w w2) := HBA.out.trans (b2.mono HBA.out.size)
      have bB : Below w2.heap.size w2 (w2.alloc (.cells #[.string x.key, .string x.text, .string x.val] 32)) := (Below.refl _ _).alloc (Nat.le_refl _) _
      have S0 : Hid (SlRw (w2.alloc (.cells #[.string x.key, .string x.text, .string x.val] 32)) (some ⟨b, o, none⟩) (l.take p)) := ((HS.out.below HB2.out (Nat.le_refl _)).take p).below bB (Nat.le_refl _)
      have X0 : Hid (SlV (w2.alloc (.cells #[.string x.key, .string x.text, .string x.val] 32)) (.slice (some ⟨w2.heap.size, 0, none⟩) 1 1) [x]) := (rws_lit1 w2 _ w2.heap.size x rfl (Nat.le_refl _)).slV
      have VB : Hid (∀ u, Below w.heap.size w u → SlV u (.slice (some ⟨b, o + (p + 1) * 3, none⟩) (l.length - (p + 1)) (cl - (p + 1))) (l.drop (p + 1))) := fun u hu => ⟨_, _, by rw [HDL.out], HSD.out.below hu (Nat.le_refl _)⟩
      have hw2 := HB2.out.size
      clear PL b2 x2 HX HBA
      go_upto_region 5 with fail
      go_cut [4] from 5 to 31 (fun v4 wx => Rws wx w.heap.size v4 R ∧ Below w.heap.size w wx)
      case first =>
        go_region_law (first
          | (refine step_append_full rfl (.tmp 26) (.tmp 28) rfl b p o (.slice (some ⟨w2.heap.size, 0, none⟩) 1 1) (l.take p) [x] HTL.out.symm rfl rfl (slRw_heap S0.out rfl) (slV_heap X0.out rfl) (by simp) (by rw [HTL.out]; simp; omega) ?_; intro v6 w6 i6 g6; have b6 : Below w.heap.size w w6 := Below.grown (by repeat (first | with_reducible exact (HB2.out.trans (bB.mono HB2.out.size)) | with_reducible refine Below.drew ?_)) g6 (by simp; omega) (fun g e => by cases e); have j6 := rws_low6 i6 (show w.heap.size ≤ _ by simp; omega); have hz6 := b6.size; clear g6 i6)
          | (refine step_append_rws rfl (.tmp 29) (.tmp 30) rfl w.heap.size v6 _ (l.take p ++ [x]) (l.drop (p + 1)) rfl rfl (rws_heap j6 rfl) (slV_heap (VB.out _ b6) rfl) (by simp; omega) (by first | omega | (simp; omega)) ?_; intro v7 w7 i7 g7; have b7 : Below w.heap.size w w7 := Below.grown (by repeat (first | with_reducible exact b6 | with_reducible refine Below.drew ?_)) g7 (by first | omega | (simp; omega)) (fun g e => (World.ownsRow.lt j6 g e).1); clear g7))
        all_goals
          have hK : Rws w7 w.heap.size v7 R := by rw [HRE.out]; simpa using i7
          clear i7
          go_wp2_with fail
          go_meet
          case rel => exact ⟨hK, b7⟩
      case rest =>
        obtain ⟨r4, b4⟩ := hcut
        have HR4 : Hid (Rws wc w.heap.size u4 R) := r4
        have HB4 : Hid (Below w.heap.size w wc) := b4
        clear r4 b4 VB S0 X0 d0 d1 d2 hx2
        go_wp2
        go_ret
        exact ⟨_, rfl, HR4.out, HB4.out⟩
end Go.Proofs.YticogafoopkflaaDoor
