/- Contract of the specification's l6Part. -/
import Derived.Test.YticogafoopkflaaDoorIPart6
import Derived.Test.YticogafoopkflaaDoorIWith6
import Derived.Test.YticogafoopkflaaDoorSPage6
namespace Go.Proofs.YticogafoopkflaaDoor
open Go.RowKit

theorem lnP_take_step (l : List Rw) (k : Nat) : lnP (l.take k) ≤ lnP (l.take (k + 1)) := by
  cases h : l[k]? with
  | none =>
    have hle : l.length ≤ k := List.getElem?_eq_none_iff.1 h
    rw [List.take_of_length_le hle, List.take_of_length_le (by omega)]
    exact Nat.le_refl _
  | some x => rw [lnP_take h]; omega

theorem part_mid {l : List Rw} {n M : Nat} (hM : max 1 (wn l (lnP l / 2)) = M) (hn : 1 ≤ n) (h : n < M) : lnP (l.take (n + 1)) ≤ lnP l / 2 := by
  obtain ⟨_, h2, _⟩ := wn_is l (lnP l / 2)
  exact h2 n (by omega)

theorem part_end {l : List Rw} {M : Nat} (hM : max 1 (wn l (lnP l / 2)) = M) (h : M < l.length) : lnP l / 2 < lnP (l.take (M + 1)) := by
  obtain ⟨h1, _, h3⟩ := wn_is l (lnP l / 2)
  by_cases hw : wn l (lnP l / 2) = 0
  · have hM1 : M = 1 := by omega
    subst hM1
    have q := h3 (by omega)
    rw [hw] at q
    exact Nat.lt_of_lt_of_le q (lnP_take_step l 1)
  · have : M = wn l (lnP l / 2) := by omega
    rw [this]
    exact h3 (by omega)

theorem ownsRow_heap {w u : World} {B n s : Nat} {t : TypeId} {v : Value} {vs : List Value} (h : w.ownsRow B t s v n vs) (hu : u.heap = w.heap) : u.ownsRow B t s v n vs := by
  unfold World.ownsRow at *
  rw [hu]
  exact h

theorem slT_heap {w u : World} {a : Option Addr} {l : List Rw} (h : SlT w a l) (hu : u.heap = w.heap) : SlT u a l := by
  rcases h with h | ⟨b, o, h1, h2, h3⟩
  · exact .inl h
  · refine .inr ⟨b, o, h1, by rw [hu]; exact h2, fun k e he => ?_⟩
    have e1 : ∀ p, u.cell? p = w.cell? p := fun p => by unfold World.cell?; rw [hu]
    rw [e1, e1, e1]
    exact h3 k e he

theorem valsT_heap {w u : World} {vs : List Value} {gs : List (List Rw)} (h : ValsT w vs gs) (hu : u.heap = w.heap) : ValsT u vs gs :=
  ⟨h.1, fun k g hg => by
    obtain ⟨v, h1, a, c, h2, h3⟩ := h.2 k g hg
    exact ⟨v, h1, a, c, h2, slT_heap h3 hu⟩⟩

theorem ownT_heap {w u : World} {B : Nat} {v : Value} {gs : List (List Rw)} {vs : List Value} (h : OwnT w B v gs vs) (hu : u.heap = w.heap) : OwnT u B v gs vs := ⟨ownsRow_heap h.1 hu, valsT_heap h.2 hu⟩

/-- One slice of rows, laid just now. -/
theorem ownT_lit1 (w : World) (n B : Nat) (x0 : Value) (l0 : List Rw) (hn : n = w.heap.size) (hB : B ≤ w.heap.size) (h : SlTV w x0 l0) : OwnT (w.alloc (.cells #[x0] 23)) B (.slice (some ⟨n, 0, none⟩) 1 1) [l0] [x0] := by
  subst hn
  refine ⟨⟨rfl, .inr ⟨w.heap.size, 1, _, rfl, hB, heap_alloc_new _ _, Nat.le_refl _, by unfold maxLen; omega, rfl, rfl⟩⟩, ValsT.one ?_⟩
  obtain ⟨a, c, rfl, hs⟩ := h
  exact ⟨a, c, rfl, hs.below ((Below.refl _ _).alloc (Nat.le_refl _) _) (Nat.le_refl _)⟩

/-- A row of slices that is read. -/
def Src (w : World) (v : Value) (gs : List (List Rw)) (vs : List Value) : Prop :=
  ∃ g c, v = .slice (some ⟨g, 0, none⟩) gs.length c ∧ g < w.heap.size ∧ (∀ j u, vs[j]? = some u → w.cell? ((⟨g, 0, none⟩ : Addr).add j) = some u) ∧ ValsT w vs gs

theorem OwnT.src {w : World} {B : Nat} {v : Value} {gs : List (List Rw)} {vs : List Value} (h : OwnT w B v gs vs) (h0 : 0 < gs.length) : Src w v gs vs := by
  rcases h.1.2 with ⟨rfl, hn⟩ | ⟨g, cap, cur, rfl, q⟩
  · omega
  · refine ⟨g, cap, rfl, (World.ownsRow.lt h.1 g rfl).2, fun j u hu => ?_, h.2⟩
    have hj := (List.getElem?_eq_some_iff.1 hu).1
    have := World.ownsRow.cellAt h.1 j (by have := h.2.1; omega)
    rw [hu] at this
    have e : (⟨g, 0, none⟩ : Addr).add j = ⟨g, j, none⟩ := by unfold Addr.add; split <;> simp_all
    rw [e]
    simpa using this

theorem Src.below {w w' : World} {v : Value} {gs : List (List Rw)} {vs : List Value} (h : Src w v gs vs) (hb : Below w.heap.size w w') : Src w' v gs vs := by
  obtain ⟨g, c, h1, h2, h3, h4⟩ := h
  refine ⟨g, c, h1, Nat.lt_of_lt_of_le h2 hb.size, fun j u hu => ?_, h4.below hb (Nat.le_refl _)⟩
  have := h3 j u hu
  have e : (⟨g, 0, none⟩ : Addr).add j = ⟨g, j, none⟩ := by unfold Addr.add; split <;> simp_all
  rw [e] at this ⊢
  exact (hb.cell h2).trans this

theorem SlTV.below {w w' : World} {v : Value} {l : List Rw} (h : SlTV w v l) (hb : Below w.heap.size w w') : SlTV w' v l := by
  obtain ⟨a, c, h1, h2⟩ := h
  exact ⟨a, c, h1, h2.below hb (Nat.le_refl _)⟩

/-- More slices behind the others. -/
theorem ownT_more {u u' : World} {B g cap m : Nat} {v : Value} {gs gs' : List (List Rw)} {vs vs' : List Value} (hg : u.grownBy u' v.ownBlock) (h : OwnT u B v gs vs) (h0 : ValsT u vs' gs') (hm : m = gs.length + gs'.length) (ho : u'.ownsRow B 23 1 (.slice (some ⟨g, 0, none⟩) m cap) m (vs ++ vs')) :
    OwnT u' B (.slice (some ⟨g, 0, none⟩) m cap) (gs ++ gs') (vs ++ vs') := by
  subst hm
  refine ⟨by simpa using ho, ?_⟩
  have key : ValsT u (vs ++ vs') (gs ++ gs') := h.2.app h0
  rcases h.1.2 with ⟨rfl, _⟩ | ⟨g', cap', cur, rfl, _, hgt, _⟩
  · have hb : Below u.heap.size u u' := ⟨hg.os, hg.tape, hg.output, hg.size, fun k hk => hg.block k hk (by simp [Value.ownBlock])⟩
    exact key.below hb (Nat.le_refl _)
  · exact key.kept hg hgt

set_option maxRecDepth 100000 in
set_option maxHeartbeats 8000000 in
theorem specPart_any : ∀ (N : Nat) (w : World) (al : Option Addr) (l : List Rw) (cl : Nat), l.length ≤ N → SlT w al l → l.length ≤ cl → cl ≤ 9223372036854775807 → RwB l → 0 < l.length → (∀ x ∈ l, lnP [x] ≤ 300) →
    Calls Tryd.prog 50 #[.slice al l.length cl] w fun e w' => ∃ v vs, e = .returned v ∧ OwnT w' w.heap.size v (partF l) vs ∧ Below w.heap.size w w'
  | 0 => by intro w al l cl hN hT hlc hc hB h0 h1; omega
  | N + 1 => by
    intro w al l cl hN hT hlc hc hB h0 h1
    have ih := specPart_any N
    obtain ⟨b, o, rfl⟩ : ∃ b o, al = some ⟨b, o, none⟩ := by
      rcases hT with h | ⟨b, o, h, _⟩
      · rw [h] at h0; simp at h0
      · exact ⟨b, o, h⟩
    obtain ⟨i1, hi1, hy0, hy1, hy2⟩ := info_parts info_rwL
    have PG := specPage_any (cap := cl) hT.sl hB
    have HSZ : Hid ((byT (pageI l)).size = lnP l) := byT_size _
    have hL := lnP_take_le1 hB
    have hl255 := hB.1
    generalize byT (pageI l) = s1 at *
    by_cases hfit : lnP l ≤ 300
    · rw [partF_fit hfit]
      have hs : (s1.size : Int) ≤ 300 := by rw [HSZ.out]; omega
      have HT : Hid (SlT w (some ⟨b, o, none⟩) l) := hT
      clear ih hT hB h1 hfit hL
      go_enter Tryd.func50, Tryd.ntmps50
      go_wp2_with fail
      refine PG.mono ?_
      rintro e w2 ⟨rfl, b2⟩
      have HO : Hid (OwnT _ w.heap.size (.slice (some ⟨w2.heap.size, 0, none⟩) 1 1) [l] [.slice (some ⟨b, o, none⟩) l.length cl]) := ownT_lit1 w2 _ _ _ l rfl b2.size ⟨_, _, rfl, HT.out.below b2 (Nat.le_refl _)⟩
      have HB2 : Hid (Below w.heap.size w _) := b2.alloc b2.size (.cells #[.slice (some ⟨b, o, none⟩) l.length cl] 23)
      clear PG b2
      go_wp2
      go_ret
      exact ⟨_, _, rfl, HO.out, HB2.out⟩
    · obtain ⟨M, HM⟩ : ∃ M, Hid (max 1 (wn l (lnP l / 2)) = M) := ⟨_, rfl⟩
      have hlt := part_lt (l := l) hfit h1
      rw [HM.out] at hlt
      have hM1 : 1 ≤ M := by rw [← HM.out]; omega
      have HMID : Hid (∀ n, 1 ≤ n → n < M → lnP (l.take (n + 1)) ≤ lnP l / 2) := fun n a c => part_mid HM.out a c
      have HEND : Hid (lnP l / 2 < lnP (l.take (M + 1))) := part_end HM.out hlt
      have HPF : Hid (partF l = [l.take M] ++ partF (l.drop M)) := by show _ = _; rw [partF_more hfit, HM.out]; rfl
      rw [HPF.out]
      have hs : ¬ (s1.size : Int) ≤ 300 := by rw [HSZ.out]; omega
      have hdl : (l.drop M).length = l.length - M := List.length_drop
      have htl : (l.take M).length = M := by rw [List.length_take]; omega
      have h1d : ∀ x ∈ l.drop M, lnP [x] ≤ 300 := fun x hx => h1 x (List.mem_of_mem_drop hx)
      have hpd : 0 < (partF (l.drop M)).length ∧ (partF (l.drop M)).length ≤ 255 := by
        have h9 := partF_len (l.drop M) (by rw [hdl]; omega) h1d
        refine ⟨?_, by omega⟩
        by_cases hf : lnP (l.drop M) ≤ 300
        · rw [partF_fit hf]; simp
        · rw [partF_more hf]; simp
      have HIH : Hid (∀ u, Below w.heap.size w u → Calls Tryd.prog 50 #[.slice (some ⟨b, o + M * 3, none⟩) (l.length - M) (cl - M)] u fun e w' => ∃ v vs, e = .returned v ∧ Src w' v (partF (l.drop M)) vs ∧ Below u.heap.size u w') := fun u hu => by
        have q := ih u _ (l.drop M) (cl - M) (by rw [hdl]; omega) ((hT.drop M).below hu (Nat.le_refl _)) (by rw [hdl]; omega) (by omega) (rwb_sub hB (fun x hx => List.mem_of_mem_drop hx) (by rw [hdl]; omega)) (by rw [hdl]; omega) h1d
        rw [hdl] at q
        refine q.mono ?_
        rintro e w' ⟨v, vs, rfl, ho, hb⟩
        exact ⟨v, vs, rfl, ho.src hpd.1, hb⟩
      have HPG : Hid (∀ n, n + 1 ≤ l.length → ∀ u, Below w.heap.size w u → Calls Tryd.prog 47 #[.slice (some ⟨b, o, none⟩) (n + 1) cl] u fun e w' => ∃ s : ByteArray, s.size = lnP (l.take (n + 1)) ∧ e = .returned (.string s) ∧ Below u.heap.size u w') := fun n hn u hu => by
        have hq : (l.take (n + 1)).length = n + 1 := by rw [List.length_take]; omega
        have q := specPage_any (cap := cl) ((hT.take (n + 1)).below hu (Nat.le_refl _)).sl (rwb_sub hB (fun x hx => List.mem_of_mem_take hx) (by rw [hq]; omega))
        rw [hq] at q
        refine q.mono ?_
        rintro e w' ⟨rfl, hb⟩
        exact ⟨_, byT_size _, rfl, hb⟩
      have HLT9 : Hid (∀ n, lnP (l.take n) ≤ 196098) := fun n => lnP_take_le hB n
      have HSV : Hid (∀ u, Below w.heap.size w u → SlV u (.slice (some ⟨b, o, none⟩) M cl) (l.take M)) := fun u hu => ⟨_, _, by rw [htl], ((hT.take M).below hu (Nat.le_refl _)).sl⟩
      obtain ⟨lt, HLT⟩ : ∃ lt, Hid (l.take M = lt) := ⟨_, rfl⟩
      obtain ⟨pd, HPD⟩ : ∃ pd, Hid (partF (l.drop M) = pd) := ⟨_, rfl⟩
      rw [HPD.out] at HIH hpd ⊢
      rw [HLT.out] at HSV htl ⊢
      have HTL : Hid (lt.length = M) := htl
      obtain ⟨hp0, hp255⟩ := hpd
      obtain ⟨L, HL⟩ : ∃ L, Hid (s1.size = L) := ⟨_, rfl⟩
      have HLL : Hid (lnP l = L) := by show _ = _; rw [← HSZ.out]; exact HL.out
      rw [HLL.out] at HMID HEND hL
      have hdiv : (L : Int).tdiv 2 = ((L / 2 : Nat) : Int) := by rw [Int.tdiv_eq_ediv_of_nonneg (by omega)]; omega
      rw [HL.out] at hs
      clear ih hT hB h1 hfit HSZ HPF hdl htl h1d HPD HLT HLL HM
      go_enter Tryd.func50, Tryd.ntmps50
      go_wp2_with fail
      refine PG.mono ?_
      rintro e w1 ⟨rfl, b1⟩
      have HB1 : Hid (Below w.heap.size w w1) := b1
      have hLz : s1.size = L := HL.out
      clear PG b1 HL
      go_wp2_with fail
      go_loopw [4] (fun n wr => ∃ k : Nat, 1 ≤ k ∧ k ≤ M ∧ n = .int .i64 (k : Int) ∧ Below w.heap.size w wr) (fun n _ => M - (intOf n).toNat)
      case atStart => exact ⟨1, Nat.le_refl _, hM1, rfl, HB1.out⟩
      case round =>
        clear HB1
        obtain ⟨k, hk1, hkM, rfl, hb⟩ := hrel
        have HBr : Hid (Below w.heap.size w wr) := hb
        clear hb
        have hk8 : (k : Int) + 1 ≤ (cl : Int) := by omega
        have hwr1 : IntKind.i64.wrap ((k : Int) + 1) = (k : Int) + 1 := by rw [IntKind.wrap_i64]; omega
        have hto : ((k : Int) + 1).toNat = k + 1 := by omega
        by_cases hkm : k < M
        · have hk9 : (k : Int) + 1 < (l.length : Int) := by omega
          have P2 := HPG.out k (by omega) wr HBr.out
          have HF := HMID.out k hk1 hkm
          go_wp2_with fail
          refine P2.mono ?_
          rintro e w2 ⟨s2, hz2, rfl, b2⟩
          have hs2 : (s2.size : Int) ≤ ((L / 2 : Nat) : Int) := by rw [hz2]; omega
          have HB2 : Hid (Below w.heap.size w w2) := HBr.out.trans (b2.mono HBr.out.size)
          clear P2 b2 hz2 HF
          go_wp2
          exact ⟨⟨k + 1, by omega, by omega, by go_num, HB2.out⟩, by simp [intOf]; omega⟩
        · obtain rfl : M = k := by omega
          clear HMID hkm hkM hk1
          have hM8 : (M : Int) ≤ (cl : Int) := by omega
          have hM9 : (M : Int) ≤ (l.length : Int) := by omega
          have hcM : ¬ cl = M := by omega
          have hcM2 : (cl == M) = false := by simp; omega
          by_cases hk9 : (M : Int) + 1 < (l.length : Int)
          case' pos =>
            have P2 := HPG.out M (by omega) wr HBr.out
            have HF := HEND.out
            go_wp2_with fail
            refine P2.mono ?_
            rintro e w2 ⟨s2, hz2, rfl, b2⟩
            have hs2 : ¬ (s2.size : Int) ≤ ((L / 2 : Nat) : Int) := by rw [hz2]; omega
            have HB2 : Hid (Below w.heap.size w w2) := HBr.out.trans (b2.mono HBr.out.size)
            clear P2 b2 hz2 HF
            go_upto_region 7 with fail
          case' neg =>
            obtain ⟨w2, rfl⟩ : ∃ w2, w2 = wr := ⟨_, rfl⟩
            have HB2 : Hid (Below w.heap.size w w2) := HBr.out
            go_upto_region 7 with fail
          all_goals
            clear HBr HPG HEND
            have bE : Below w.heap.size w (w2.alloc (.cells #[] 32)) := HB2.out.alloc HB2.out.size _
            have hw2 := HB2.out.size
            have hzE := bE.size
            go_region_law (first
              | (refine step_append_full rfl (.tmp 30) (.tmp 33) rfl w2.heap.size 0 0 (.slice (some ⟨b, o, none⟩) M cl) [] lt rfl rfl rfl (.inl rfl) (slV_heap (HSV.out _ bE) rfl) (by rw [HTL.out]; exact hM1) (by rw [HTL.out]; simp; omega) ?_; intro v6 w6 i6 g6; have b6 : Below w.heap.size w w6 := Below.grown (by repeat (first | with_reducible exact bE | with_reducible refine Below.drew ?_)) g6 (by first | exact hzE | (simp; omega)) (fun g e => by cases e); obtain ⟨a6, c6, rfl⟩ := rw_form (l := lt) i6; have t6 : SlT w6 a6 lt := Rws.slT (l := lt) i6; have hz6 := b6.size; have b6a := b6.alloc hz6 (.cells #[.slice a6 lt.length c6] 23); clear g6 i6)
              | (go_simp; go_at_call 50; refine (HIH.out _ (by repeat (first | with_reducible exact b6a | with_reducible refine Below.drew ?_))).mono ?_; rintro e w7 ⟨v7, vs7, rfl, s7, q7⟩; have b7 : Below w.heap.size w w7 := b6a.trans (q7.mono b6a.size); have O7 : OwnT w7 w.heap.size (.slice (some ⟨w6.heap.size, 0, none⟩) 1 1) [lt] [.slice a6 lt.length c6] := (ownT_lit1 w6 _ _ _ lt rfl hz6 ⟨_, _, rfl, t6⟩).below q7; obtain ⟨g7, c7, rfl, h7, k7, m7⟩ := s7)
              | (go_simp; go_at_call 50; refine (HIH.out _ (by repeat (first | with_reducible exact b6 | with_reducible refine Below.drew ?_))).mono ?_; rintro e w7 ⟨v7, vs7, rfl, s7, q7⟩; have b7 : Below w.heap.size w w7 := b6.trans (q7.mono hz6); have b7a := b7.alloc b7.size (.cells #[.slice a6 lt.length c6] 23); have O8 : OwnT (w7.alloc (.cells #[.slice a6 lt.length c6] 23)) w.heap.size (.slice (some ⟨w7.heap.size, 0, none⟩) 1 1) [lt] [.slice a6 lt.length c6] := ownT_lit1 w7 _ _ _ lt rfl b7.size ⟨_, _, rfl, t6.below q7 (Nat.le_refl _)⟩; have s8 := s7.below ((Below.refl _ _).alloc (Nat.le_refl _) (.cells #[.slice a6 lt.length c6] 23)); obtain ⟨g7, c7, rfl, h7, k7, m7⟩ := s8)
              | (refine step_append_lies _ rfl (.tmp 35) (.tmp 39) 52 rfl w.heap.size 23 i1 (.slice none 0 0) 1 24 Tryd.underlying52 hi1 hy0 hy1 hy2 rfl (by decide) _ 1 [.slice a6 lt.length c6] rfl (ownsRow_heap O8.1 rfl) ⟨g7, 0, none⟩ pd.length c7 vs7 rfl (by rw [m7.1]; omega) k7 m7.one' hp0 (by unfold maxLen; omega) (by omega) (by first | exact b7a.size | (simp; omega)) _ rfl ?_; intro g5 c5 u5 ho5 hg5 hgo5 hlt5; have O5 := ownT_more hg5 (ownT_heap O8 rfl) (valsT_heap m7 rfl) rfl ho5; have b5 : Below w.heap.size w u5 := Below.grown (by repeat (first | with_reducible exact b7a | with_reducible refine Below.drew ?_)) hg5 (by first | exact b7a.size | (simp; omega)) (fun i hj => (World.ownsRow.lt O8.1 i hj).1); clear ho5 hg5)
              | (refine step_append_lies _ rfl (.tmp 35) (.tmp 39) 52 rfl w.heap.size 23 i1 (.slice none 0 0) 1 24 Tryd.underlying52 hi1 hy0 hy1 hy2 rfl (by decide) _ 1 [.slice a6 lt.length c6] rfl (ownsRow_heap O7.1 rfl) ⟨g7, 0, none⟩ pd.length c7 vs7 rfl (by rw [m7.1]; omega) k7 m7.one' hp0 (by unfold maxLen; omega) (by omega) (by first | exact b7.size | (simp; omega)) _ rfl ?_; intro g5 c5 u5 ho5 hg5 hgo5 hlt5; have O5 := ownT_more hg5 (ownT_heap O7 rfl) (valsT_heap m7 rfl) rfl ho5; have b5 : Below w.heap.size w u5 := Below.grown (by repeat (first | with_reducible exact b7 | with_reducible refine Below.drew ?_)) hg5 (by first | exact b7.size | (simp; omega)) (fun i hj => (World.ownsRow.lt O7.1 i hj).1); clear ho5 hg5))
            all_goals
              have HO5 : Hid (OwnT _ _ _ _ _) := O5
              have HB5 : Hid (Below w.heap.size w u5) := b5
              clear O5 b5
              go_wp2
              go_ret
              first
                | exact ⟨_, _, rfl, HO5.out, HB5.out⟩
                | exact ⟨_, rfl, ⟨_, HO5.out⟩, HB5.out⟩
end Go.Proofs.YticogafoopkflaaDoor
