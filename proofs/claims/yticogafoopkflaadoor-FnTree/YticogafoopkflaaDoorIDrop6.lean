/- Contract of the program's DropFromPages. -/
import Derived.Test.YticogafoopkflaaDoorIDraw6
import Derived.Test.YticogafoopkflaaDoorIBook6
import Derived.Test.YticogafoopkflaaDoorIFor6
import Derived.Test.YticogafoopkflaaDoorIPlace6
import Derived.Test.YticogafoopkflaaDoorIBytes6
namespace Go.Proofs.YticogafoopkflaaDoor
open Go.RowKit

theorem dropG_set (gs : List (List Rw)) (k : Nat) (l : List Rw) : dropG (gs.set k l) k l = dropG gs k l := by
  have e1 : (gs.set k l).take k = gs.take k := List.take_set_of_le (Nat.le_refl _)
  have e2 : (gs.set k l).drop (k + 1) = gs.drop (k + 1) := List.drop_set_of_lt (by omega)
  have e3 : (gs.set k l).drop (k + 2) = gs.drop (k + 2) := List.drop_set_of_lt (by omega)
  have e4 : gAt (gs.set k l) (k + 1) = gAt gs (k + 1) := by unfold gAt; rw [List.getElem?_set_ne (by omega)]
  have e5 : (gs.set k l).take (k - 1) = gs.take (k - 1) := List.take_set_of_le (by omega)
  unfold dropG
  rw [e1, e2, e3, e4, e5, List.length_set]
  by_cases h0 : 0 < k
  · have e6 : gAt (gs.set k l) (k - 1) = gAt gs (k - 1) := by unfold gAt; rw [List.getElem?_set_ne (by omega)]
    rw [e6]
  · simp only [h0, false_and, if_false]

/-- One row of rows has lost some in its place, and is put anew. -/
theorem NestR.cutRow {w w1 : World} {lo hi g c k bk : Nat} {x x' : Value} {l l' : List Rw} {gs : List (List Rw)} {vs : List Value} (h : NestR w lo hi (.slice (some ⟨g, 0, none⟩) gs.length c) gs vs) (hl : gs[k]? = some l) (hx : vs[k]? = some x) (hbk : x.ownBlock = some bk) (hg : w.grownBy w1 (some bk)) (hI : Rws w1 lo x' l') :
    OwnT (w1.setCell ⟨g, k, none⟩ x') lo (.slice (some ⟨g, 0, none⟩) gs.length c) (gs.set k l') (vs.set k x') ∧ w1.cell? ⟨g, k, none⟩ = some x ∧ w1.frozen? ⟨g, k, none⟩ = false ∧ lo ≤ g := by
  obtain ⟨x2, hx2, hI0, _⟩ := h.ins k l hl
  rw [hx] at hx2
  obtain rfl := Option.some.inj hx2
  have hk := (List.getElem?_eq_some_iff.1 hl).1
  have hrow := World.ownsRow.kept h.row hg (by rw [← hbk]; exact h.apart hI0)
  have s := World.ownsRow.stored hrow k x'
  have hcell := World.ownsRow.cellAt hrow k (by omega)
  rcases hrow.2 with ⟨q, _⟩ | ⟨g', cap', cur, q, q1, q2, _⟩
  · cases q
  · injection q with e1 _ _
    injection e1 with e1
    injection e1 with e1
    subst e1
    refine ⟨⟨by rw [List.length_set]; exact s.1, by rw [List.length_set, List.length_set]; exact h.len, fun j p hp => ?_⟩, by simpa [hx] using hcell, by simp [World.frozen?, q2], q1⟩
    have put : ∀ (y : Value) (r : List Rw), Rws w1 lo y r → SlTV (w1.setCell ⟨g, k, none⟩ x') y r := fun y r hr => by
      obtain ⟨a, cc, rfl⟩ := rw_form hr
      exact ⟨a, cc, rfl, hr.slT.kept s.2 q2⟩
    by_cases e : k = j
    · subst e
      rw [List.getElem?_set_self hk] at hp
      obtain rfl := Option.some.inj hp
      exact ⟨x', List.getElem?_set_self (by rw [h.len]; exact hk), put _ _ hI⟩
    · rw [List.getElem?_set_ne e] at hp
      obtain ⟨y, hy, hJ, _⟩ := h.ins j p hp
      exact ⟨y, by rw [List.getElem?_set_ne e]; exact hy, put _ _ (World.ownsRow.kept hJ hg (by rw [← hbk]; exact h.two j k y x (fun e2 => e e2.symm) hy hx))⟩

theorem strsD_low {w : World} {B B' : Nat} {v : Value} {ss : List ByteArray} (h : Strs w B v ss) (hb : B' ≤ B) : Strs w B' v ss := by
  refine ⟨h.1, ?_⟩
  rcases h.2 with h0 | ⟨g, cap, cur, q1, q2, q3⟩
  · exact .inl h0
  · exact .inr ⟨g, cap, cur, q1, Nat.le_trans hb q2, q3⟩

set_option maxRecDepth 100000 in
set_option maxHeartbeats 8000000 in
theorem implDrop_any {w : World} {B : Nat} {vp : Value} {ss : List ByteArray} (key : ByteArray) (hS : Strs w B vp ss) (hz : ∀ s ∈ ss, s.size ≤ 1048576) (hl : ss.length ≤ 1048576) {ty : TypeId} {pv : Value} (hg : ErrG w ty pv) :
    Calls Tryd.prog 17 #[vp, .string key] w fun e w' => ∃ v', e = .returned (.tuple #[v', .bool (dropA ss key).isSome]) ∧ Strs w' w.heap.size v' ((dropA ss key).getD []) ∧ Below w.heap.size w w' := by
  have BK := openBook_any hS hz hl hg
  obtain ⟨a, c, rfl, _⟩ := strs6_all hS
  obtain ⟨R, HR⟩ : ∃ R, Hid (dropA ss key = R) := ⟨_, rfl⟩
  rw [HR.out]
  clear hS hz hg
  cases hbk : bookF ss with
  | none =>
    have HA : Hid (R = none) := by show _ = _; rw [← HR.out]; exact dropA_bad hbk
    rw [hbk] at BK
    clear hbk
    go_enter Tryd.func17, Tryd.ntmps17
    go_wp2_with fail
    refine BK.mono ?_
    rintro e w2 ⟨v2, rfl, _, b2⟩
    have HB2 : Hid (Below w.heap.size w w2) := b2
    clear BK b2
    go_wp2
    go_ret2
    rw [HA.out]
    exact ⟨_, rfl, World.ownsRow_nil _ _ _ _, HB2.out⟩
  | some gs =>
    rw [hbk] at BK
    have HBK : Hid (bookF ss = some gs) := hbk
    obtain ⟨hgl, hg60⟩ := bookF_is hbk
    have HG60 : Hid (∀ l ∈ gs, 0 < l.length ∧ l.length ≤ 1048576) := fun l hl => ⟨(bookF_good hbk l hl).2, by have := hg60 l hl; omega⟩
    have HBO : Hid (Book gs ∧ (∀ g ∈ gs, lnP g ≤ 300) ∧ gs.length ≤ 40) := bookF_book hbk
    have hpp := (plF_is (gs := gs) key).1
    have HPF : Hid (∀ (u : World) (lo : Nat) (v : Value) (vs : List Value), NestR u lo u.heap.size v gs vs → ∃ lk : Nat, Calls Tryd.prog 35 #[v, .string key] u fun e w' => e = .returned (.tuple #[.int .i64 (plF gs key : Int), .int .i64 (lk : Int)]) ∧ w' = u) := fun u lo v vs h => by
      have q := pageFor_any key h (by omega) HG60.out
      rw [pageF_pl HBO.out.1] at q
      exact ⟨_, q⟩
    clear hg60 hbk
    obtain ⟨k, HK⟩ : ∃ k, Hid (plF gs key = k) := ⟨_, rfl⟩
    rw [HK.out] at hpp HPF
    by_cases hke : k = gs.length
    · have HA : Hid (R = none) := by show _ = _; rw [← HR.out]; exact dropA_end HBK.out (by rw [HK.out]; exact hke)
      subst hke
      go_enter Tryd.func17, Tryd.ntmps17
      go_wp2_with fail
      refine BK.mono ?_
      rintro e w2 ⟨v2, rfl, hN, b2⟩
      obtain ⟨vs, N2⟩ := hN gs rfl
      obtain ⟨lk, PF⟩ := HPF.out w2 _ _ _ N2
      obtain ⟨a2, c2, rfl, _⟩ := N2.form
      have HB2 : Hid (Below w.heap.size w w2) := b2
      clear BK b2 hN N2 HPF
      go_wp2_with fail
      refine PF.mono ?_
      rintro e w3 ⟨rfl, rfl⟩
      clear PF
      go_wp2
      go_ret2
      rw [HA.out]
      exact ⟨_, rfl, World.ownsRow_nil _ _ _ _, HB2.out⟩
    · have hkl : k < gs.length := by omega
      have hk8 : (k : Int) < (gs.length : Int) := by omega
      have hk9 : ¬ (k : Int) = (gs.length : Int) := by omega
      obtain ⟨l, hl'⟩ : ∃ l, gs[k]? = some l := ⟨_, List.getElem?_eq_getElem hkl⟩
      have HLK : Hid (gs[k]? = some l) := hl'
      have hlm := List.mem_of_getElem? hl'
      have HRI : Hid (Rise l) := goodR_rise (HBO.out.1.good l hlm).1
      have hl0 := (HG60.out l hlm).1
      have hl59 : l.length ≤ 59 := fit59 HRI.out (HBO.out.2.1 l hlm)
      have HPL : Hid (∀ (u : World) (al : Option Addr) (cl : Nat), SlRw u al l → Calls Tryd.prog 36 #[.slice al l.length cl, .string key] u fun e w' => e = .returned (.tuple #[.int .i64 (placeF l key : Int), .bool (thereF l key)]) ∧ Below u.heap.size u w') := fun u al cl h => placeOf_any key h (by omega)
      cases hth : thereF l key with
      | false =>
        have HA : Hid (R = none) := by show _ = _; rw [← HR.out]; exact dropA_no HBK.out (by rw [HK.out]; exact HLK.out) hth
        rw [hth] at HPL
        generalize placeF l key = P at *
        clear hl' hth
        go_enter Tryd.func17, Tryd.ntmps17
        go_wp2_with fail
        refine BK.mono ?_
        rintro e w2 ⟨v2, rfl, hN, b2⟩
        obtain ⟨vs, N2⟩ := hN gs rfl
        obtain ⟨lk, PF⟩ := HPF.out w2 _ _ _ N2
        obtain ⟨a2, c2, rfl, fm⟩ := N2.form
        obtain ⟨vl, hvl, hI, _⟩ := N2.ins k l HLK.out
        obtain ⟨gb, rfl, _, _, cb, _⟩ := fm k _ hvl
        obtain ⟨al, cl, rfl⟩ := rw_form hI
        have hcb := rw_cell_lt cb
        have PL := HPL.out w2 al cl (rws_sl hI)
        have HB2 : Hid (Below w.heap.size w w2) := b2
        clear BK b2 hN N2 HPF fm hvl hI HPL
        go_wp2_with fail
        refine PF.mono ?_
        rintro e w3 ⟨rfl, rfl⟩
        clear PF
        go_wp2_with fail
        refine PL.mono ?_
        rintro e w4 ⟨rfl, b4⟩
        have HB4 : Hid (Below w.heap.size w w4) := HB2.out.trans (b4.mono HB2.out.size)
        clear PL b4
        go_wp2
        go_ret2
        rw [HA.out]
        exact ⟨_, rfl, World.ownsRow_nil _ _ _ _, HB4.out⟩
      | true =>
        have hplt := (rowIn_there HRI.out hth).2
        have HRA : Hid (R = ansG (dropG gs k (dropR l key))) := by show _ = _; rw [← HR.out, dropA_yes HBK.out (by rw [HK.out]; exact HLK.out) hth, HK.out]
        obtain ⟨l', HL'⟩ : ∃ l', Hid (dropR l key = l') := ⟨_, rfl⟩
        have HDR : Hid (l.take (placeF l key) ++ l.drop (placeF l key + 1) = l') := HL'.out
        have HDL : Hid (l'.length = l.length - 1) := by show _ = _; rw [← HL'.out]; exact dropR_len HRI.out hth
        have HSUB : Hid (l'.Sublist l) := by show List.Sublist _ _; rw [← HL'.out]; exact dropR_sub l key
        rw [HL'.out] at HRA
        have HDB : Hid (Book (dropG gs k l')) := dropG_book HBO.out.1 HLK.out HSUB.out
        rw [hth] at HPL
        generalize placeF l key = P at *
        have hP8 : (P : Int) < (l.length : Int) := by omega
        have hwr : IntKind.i64.wrap ((P : Int) + 1) = (P : Int) + 1 := by rw [IntKind.wrap_i64]; omega
        have HBY : Hid (∀ (u : World) (v : Value), BkV u v (dropG gs k l') → Calls Tryd.prog 29 #[v] u fun e w' => ∃ v', e = .returned (.tuple #[v', .bool (ansG (dropG gs k l')).isSome]) ∧ Strs w' u.heap.size v' ((ansG (dropG gs k l')).getD []) ∧ Below u.heap.size u w') := fun u v h => by
          have hle := (dropG_cases gs k l' hkl).2.2
          have q := bytes_any h (by omega) (fun g hg => by have := goodR_len (HDB.out.good g hg).1; omega)
          rw [bytF_book HDB.out] at q
          exact q
        have HDT : Hid (∀ (u : World) (B g cap : Nat) (vs : List Value), OwnT u B (.slice (some ⟨g, 0, none⟩) gs.length cap) (gs.set k l') vs → Calls Tryd.prog 52 #[.slice (some ⟨g, 0, none⟩) gs.length cap, .int .i64 (k : Int)] u fun e w' => ∃ v' vs', e = .returned v' ∧ OwnT w' B v' (dropG gs k l') vs' ∧ u.grownBy w' (some g)) := fun u B g cap vs h => by
          have hk2 : (gs.set k l')[k]? = some l' := List.getElem?_set_self hkl
          have h' : OwnT u B (.slice (some ⟨g, 0, none⟩) (gs.set k l').length cap) (gs.set k l') vs := by rw [List.length_set]; exact h
          have q := drawTogether_any h' hk2 (by rw [List.length_set]; omega) (fun p hp => by
            rcases List.mem_or_eq_of_mem_set hp with hp | rfl
            · have := HBO.out.1.good p hp
              exact ⟨goodR_RwB this.1, goodR_len this.1⟩
            · have := HBO.out.1.good l hlm
              refine ⟨?_, by have := HDL.out; omega⟩
              have r := goodR_RwB this.1
              exact ⟨by have := HDL.out; omega, fun x hx => r.2 x (HSUB.out.subset hx)⟩)
          rw [List.length_set, dropG_set] at q
          exact q
        generalize ansG (dropG gs k l') = ans at *
        obtain ⟨G, HGG⟩ : ∃ G, Hid (dropG gs k l' = G) := ⟨_, rfl⟩
        rw [HGG.out] at HBY HDT
        clear hl' hth HBO HBK HG60 HDB hlm HL' HK HR
        go_enter Tryd.func17, Tryd.ntmps17
        go_wp2_with fail
        refine BK.mono ?_
        rintro e w2 ⟨v2, rfl, hN, b2⟩
        obtain ⟨vs, N2⟩ := hN gs rfl
        obtain ⟨lk, PF⟩ := HPF.out w2 _ _ _ N2
        obtain ⟨a2, c2, rfl, fm⟩ := N2.form
        obtain ⟨vl, hvl, hI, _⟩ := N2.ins k l HLK.out
        obtain ⟨gb, rfl, _, _, cb, _⟩ := fm k _ hvl
        obtain ⟨bk, cl, rfl, _⟩ := rws_at hI hl0
        have hcb := rw_cell_lt cb
        have PL := HPL.out w2 _ cl (rws_sl hI)
        have HB2 : Hid (Below w.heap.size w w2) := b2
        have HN2 : Hid (NestR w2 w.heap.size w2.heap.size (.slice (some ⟨gb, 0, none⟩) gs.length c2) gs vs) := N2
        have HVL : Hid (vs[k]? = some (.slice (some ⟨bk, 0, none⟩) l.length cl)) := hvl
        clear BK b2 hN N2 HPF fm hvl hI HPL
        go_wp2_with fail
        refine PF.mono ?_
        rintro e w3 ⟨rfl, rfl⟩
        clear PF
        go_wp2_with fail
        refine PL.mono ?_
        rintro e w4 ⟨rfl, b4⟩
        have HB4 : Hid (Below w.heap.size w w4) := HB2.out.trans (b4.mono HB2.out.size)
        have N4 := HN2.out.below b4
        obtain ⟨x2, hx2, hI4, _⟩ := N4.ins k l HLK.out
        rw [HVL.out] at hx2
        obtain rfl := Option.some.inj hx2
        have DE := delR_any (i := P) hI4 hplt
        have cb4 : w4.cell? ⟨gb, k, none⟩ = some (.slice (some ⟨bk, 0, none⟩) l.length cl) := (b4.cell (p := ⟨gb, k, none⟩) hcb).trans cb
        have hcb4 := rw_cell_lt cb4
        have hbkw : w.heap.size ≤ bk := (World.ownsRow.lt hI4 bk rfl).1
        have HN4 : Hid (NestR w4 w.heap.size _ (.slice (some ⟨gb, 0, none⟩) gs.length c2) gs vs) := N4
        clear PL b4 N4 hI4 hx2 cb hcb HN2 HB2
        go_wp2_with fail
        refine DE.mono ?_
        rintro e w5 ⟨rfl, r5, g5⟩
        rw [HDR.out, ← HDL.out] at r5
        rw [← HDL.out]
        obtain ⟨o5, cb5, fz5, hgb⟩ := HN4.out.cutRow HLK.out HVL.out rfl g5 r5
        have hcb5 := rw_cell_lt cb5
        have HB5 : Hid (Below w.heap.size w w5) := Below.grown HB4.out g5 HB4.out.size (fun j hj => by have := Option.some.inj hj; omega)
        have HB6 : Hid (Below w.heap.size w (w5.setCell ⟨gb, k, none⟩ (.slice (some ⟨bk, 0, none⟩) l'.length cl))) := HB5.out.setCell hgb _
        have DT := HDT.out _ _ _ _ _ o5
        clear DE r5 g5 o5 HN4 HB4 cb4 hcb4 HB5 HDT
        go_wp2_with fail
        refine DT.mono ?_
        rintro e w6 ⟨v6, vs6, rfl, o6, g6⟩
        have HB7 : Hid (Below w.heap.size w w6) := Below.grown HB6.out g6 HB6.out.size (fun j hj => by have := Option.some.inj hj; omega)
        have BY := HBY.out w6 v6 o6.bk
        clear DT o6 g6 HB6 HBY
        go_wp2_with fail
        refine BY.mono ?_
        rintro e w7 ⟨v7, rfl, s7, b7⟩
        have HB8 : Hid (Below w.heap.size w w7) := HB7.out.trans (b7.mono HB7.out.size)
        have HS7 : Hid (Strs w7 w.heap.size v7 (ans.getD [])) := strsD_low s7 HB7.out.size
        clear BY s7 b7
        go_wp2
        go_ret2
        rw [HRA.out]
        exact ⟨_, rfl, HS7.out, HB8.out⟩
end Go.Proofs.YticogafoopkflaaDoor
