/- Texts of mine laid together: IFor6, IDrop6, MarkT, AStrs, HeldT, EqT6, WDropFromPages. -/
import Derived.Test.YticogafoopkflaaDoorMD1
import Derived.Test.YticogafoopkflaaDoorPFor6
import Derived.Test.YticogafoopkflaaDoorMD7
import Derived.Test.YticogafoopkflaaDoorMD3
import Derived.Test.YticogafoopkflaaDoorStrs
import Derived.Laws.IdiomStrings
import Derived.BigQuiet
import Derived.Deep.QuietTactic
import Derived.WalkKit
import Derived.ProofKit
import Derived.OpenShut
import Derived.LaidMore
import Derived.Laws.OwnMore
import Derived.OwnWalk
import Derived.SliceStrings
import Derived.Deep.RegionHeld
import Derived.Test.YticogafoopkflaaDoorIGood6
import Derived.Test.YticogafoopkflaaDoorMD8
import Derived.Deep.RegionLaw
namespace Go.Proofs.YticogafoopkflaaDoor
open Go.RowKit

def PfRel (w : World) (gs : List (List Rw)) (key : ByteArray) (vlo vhi vlk : Value) (wr : World) : Prop :=
  ∃ lo hi lk : Nat, lo ≤ hi ∧ hi ≤ gs.length ∧ lk + (hi - lo) ≤ gs.length ∧ vlo = .int .i64 (lo : Int) ∧ vhi = .int .i64 (hi : Int) ∧ vlk = .int .i64 (lk : Int) ∧ pfF gs key lo hi lk = pageF gs key ∧ wr = w

set_option maxRecDepth 100000 in
set_option maxHeartbeats 4000000 in
theorem pageFor_any {w : World} {lo hi : Nat} {v : Value} {gs : List (List Rw)} {vs : List Value} (key : ByteArray) (hN : NestR w lo hi v gs vs) (h40 : gs.length ≤ 1048576) (h60 : ∀ l ∈ gs, 0 < l.length ∧ l.length ≤ 1048576) :
    Calls Tryd.prog 35 #[v, .string key] w fun e w' => e = .returned (.tuple #[.int .i64 ((pageF gs key).1 : Int), .int .i64 ((pageF gs key).2 : Int)]) ∧ w' = w := by
  obtain ⟨a, c, rfl, fm⟩ := hN.form
  have HFM : Hid _ := fm
  have HN : Hid (NestR w lo hi _ gs vs) := hN
  have H60 : Hid (∀ l ∈ gs, 0 < l.length ∧ l.length ≤ 1048576) := h60
  obtain ⟨R, HR⟩ : ∃ R, Hid (pageF gs key = R) := ⟨_, rfl⟩
  rw [HR.out]
  clear hN fm h60
  go_enter Tryd.func35, Tryd.ntmps35
  go_wp2_with fail
  go_loopw [6, 7, 8] (fun vlo vhi vlk wr => PfRel w gs key vlo vhi vlk wr) (fun vlo vhi _ _ => (intOf vhi).toNat - (intOf vlo).toNat)
  case atStart => exact ⟨0, gs.length, 0, by omega, by omega, by omega, rfl, rfl, rfl, rfl, rfl⟩
  case round =>
    obtain ⟨l0, h0, k0, q1, q2, q3, rfl, rfl, rfl, hE, rfl⟩ := hrel
    have HE : Hid _ := hE
    clear hE
    by_cases hlt : l0 < h0
    · have hlt8 : (l0 : Int) < (h0 : Int) := by omega
      obtain ⟨m, HM⟩ : ∃ m, Hid ((l0 + h0) / 2 = m) := ⟨_, rfl⟩
      have hm := HM.out
      have hm1 : l0 ≤ m := by omega
      have hm2 : m < h0 := by omega
      have hq : ((l0 : Int) + (h0 : Int)).tdiv 2 = (m : Int) := by rw [Int.tdiv_eq_ediv_of_nonneg (by omega)]; omega
      have hm8 : (m : Int) < (gs.length : Int) := by omega
      obtain ⟨l, hl⟩ : ∃ l, gs[m]? = some l := ⟨_, List.getElem?_eq_getElem (by omega)⟩
      obtain ⟨vl, hvl, hI, _⟩ := HN.out.ins m l hl
      obtain ⟨gb, rfl, _, _, cb, _⟩ := HFM.out m _ hvl
      have hcb := rw_cell_lt cb
      obtain ⟨p1, p2⟩ := H60.out l (List.mem_of_getElem? hl)
      obtain ⟨gl, cl, rfl, ql⟩ := rws_at hI p1
      obtain ⟨xl, hxl⟩ : ∃ xl, l[l.length - 1]? = some xl := ⟨_, List.getElem?_eq_getElem (by omega)⟩
      have LK := lastKey_any (c := cl) p1 p2 (ql _ xl hxl)
      have hgm : gs[(l0 + h0) / 2]? = some l := by rw [hm]; exact hl
      have hek := endK_at hxl
      clear hvl hI ql hxl hl hm
      cases hlk : ltK xl.key key
      · have HE2 : Hid (pfF gs key l0 m (k0 + 1) = pageF gs key) := by show _ = _; rw [← HE.out, pfF_down hlt hgm (by rw [hek]; exact hlk), HM.out]
        unfold ltK at hlk
        clear hgm hek HE
        go_wp2_with fail
        refine LK.mono ?_
        rintro e w2 ⟨rfl, rfl⟩
        clear LK
        go_wp2
        exact ⟨⟨l0, m, k0 + 1, by omega, by omega, by omega, rfl, rfl, by go_num, HE2.out, rfl⟩, by simp [intOf]; omega⟩
      · have HE2 : Hid (pfF gs key (m + 1) h0 (k0 + 1) = pageF gs key) := by show _ = _; rw [← HE.out, pfF_up hlt hgm (by rw [hek]; exact hlk), HM.out]
        unfold ltK at hlk
        clear hgm hek HE
        go_wp2_with fail
        refine LK.mono ?_
        rintro e w2 ⟨rfl, rfl⟩
        clear LK
        go_wp2
        exact ⟨⟨m + 1, h0, k0 + 1, by omega, by omega, by omega, by go_num, rfl, by go_num, HE2.out, rfl⟩, by simp [intOf]; omega⟩
    · have hlt8 : ¬ (l0 : Int) < (h0 : Int) := by omega
      have HE2 : Hid (R = (h0, k0)) := by show _ = _; rw [← HR.out, ← HE.out, pfF_end hlt]
      clear HE
      go_wp2
      go_ret2
      rw [HE2.out]
      exact ⟨rfl, rfl⟩
end Go.Proofs.YticogafoopkflaaDoor

namespace Go.Proofs.YticogafoopkflaaDoor
open Go.RowKit

theorem dropG_set (gs : List (List Rw)) (k : Nat) (l : List Rw) : dropG (gs.set k l) k l = dropG gs k l := by
  have e1 : (gs.set k l).take k = gs.take k := List.take_set_of_le (Nat.le_refl _)
  have e2 : (gs.set k l).drop (k + 1) = gs.drop (k + 1) := List.drop_set_of_lt (by omega)
  have e3 : (gs.set k l).drop (k + 2) = gs.drop (k + 2) := List.drop_set_of_lt (by omega)
  have e4 : gAt (gs.set k l) (k + 1) = gAt gs (k + 1) := by unfold gAt; rw [List.getElem?_set_ne (by omega)]
  have e5 : (gs.set k l).take (k - 1) = gs.take (k - 1) := List.take_set_of_le (by omega)
  unfold dropG
  rw [e1, e2, e3, e4, e5, List.length_set]
  by_cases h0 : 0 < k
  · have e6 : gAt (gs.set k l) (k - 1) = gAt gs (k - 1) := by unfold gAt; rw [List.getElem?_set_ne (by omega)]
    rw [e6]
  · simp only [h0, false_and, if_false]

/-- One row of rows has lost some in its place, and is put anew. -/
theorem NestR.cutRow {w w1 : World} {lo hi g c k bk : Nat} {x x' : Value} {l l' : List Rw} {gs : List (List Rw)} {vs : List Value} (h : NestR w lo hi (.slice (some ⟨g, 0, none⟩) gs.length c) gs vs) (hl : gs[k]? = some l) (hx : vs[k]? = some x) (hbk : x.ownBlock = some bk) (hg : w.grownBy w1 (some bk)) (hI : Rws w1 lo x' l') :
    OwnT (w1.setCell ⟨g, k, none⟩ x') lo (.slice (some ⟨g, 0, none⟩) gs.length c) (gs.set k l') (vs.set k x') ∧ w1.cell? ⟨g, k, none⟩ = some x ∧ w1.frozen? ⟨g, k, none⟩ = false ∧ lo ≤ g := by
  obtain ⟨x2, hx2, hI0, _⟩ := h.ins k l hl
  rw [hx] at hx2
  obtain rfl := Option.some.inj hx2
  have hk := (List.getElem?_eq_some_iff.1 hl).1
  have hrow := World.ownsRow.kept h.row hg (by rw [← hbk]; exact h.apart hI0)
  have s := World.ownsRow.stored hrow k x'
  have hcell := World.ownsRow.cellAt hrow k (by omega)
  rcases hrow.2 with ⟨q, _⟩ | ⟨g', cap', cur, q, q1, q2, _⟩
  · cases q
  · injection q with e1 _ _
    injection e1 with e1
    injection e1 with e1
    subst e1
    refine ⟨⟨by rw [List.length_set]; exact s.1, by rw [List.length_set, List.length_set]; exact h.len, fun j p hp => ?_⟩, by simpa [hx] using hcell, by simp [World.frozen?, q2], q1⟩
    have put : ∀ (y : Value) (r : List Rw), Rws w1 lo y r → SlTV (w1.setCell ⟨g, k, none⟩ x') y r := fun y r hr => by
      obtain ⟨a, cc, rfl⟩ := rw_form hr
      exact ⟨a, cc, rfl, hr.slT.kept s.2 q2⟩
    by_cases e : k = j
    · subst e
      rw [List.getElem?_set_self hk] at hp
      obtain rfl := Option.some.inj hp
      exact ⟨x', List.getElem?_set_self (by rw [h.len]; exact hk), put _ _ hI⟩
    · rw [List.getElem?_set_ne e] at hp
      obtain ⟨y, hy, hJ, _⟩ := h.ins j p hp
      exact ⟨y, by rw [List.getElem?_set_ne e]; exact hy, put _ _ (World.ownsRow.kept hJ hg (by rw [← hbk]; exact h.two j k y x (fun e2 => e e2.symm) hy hx))⟩

theorem strsD_low {w : World} {B B' : Nat} {v : Value} {ss : List ByteArray} (h : Strs w B v ss) (hb : B' ≤ B) : Strs w B' v ss := by
  refine ⟨h.1, ?_⟩
  rcases h.2 with h0 | ⟨g, cap, cur, q1, q2, q3⟩
  · exact .inl h0
  · exact .inr ⟨g, cap, cur, q1, Nat.le_trans hb q2, q3⟩

set_option maxRecDepth 100000 in
set_option maxHeartbeats 8000000 in
theorem implDrop_any {w : World} {B : Nat} {vp : Value} {ss : List ByteArray} (key : ByteArray) (hS : Strs w B vp ss) (hz : ∀ s ∈ ss, s.size ≤ 1048576) (hl : ss.length ≤ 1048576) {ty : TypeId} {pv : Value} (hg : ErrG w ty pv) :
    Calls Tryd.prog 17 #[vp, .string key] w fun e w' => ∃ v', e = .returned (.tuple #[v', .bool (dropA ss key).isSome]) ∧ Strs w' w.heap.size v' ((dropA ss key).getD []) ∧ Below w.heap.size w w' := by
  have BK := openBook_any hS hz hl hg
  obtain ⟨a, c, rfl, _⟩ := strs6_all hS
  obtain ⟨R, HR⟩ : ∃ R, Hid (dropA ss key = R) := ⟨_, rfl⟩
  rw [HR.out]
  clear hS hz hg
  cases hbk : bookF ss with
  | none =>
    have HA : Hid (R = none) := by show _ = _; rw [← HR.out]; exact dropA_bad hbk
    rw [hbk] at BK
    clear hbk
    go_enter Tryd.func17, Tryd.ntmps17
    go_wp2_with fail
    refine BK.mono ?_
    rintro e w2 ⟨v2, rfl, _, b2⟩
    have HB2 : Hid (Below w.heap.size w w2) := b2
    clear BK b2
    go_wp2
    go_ret2
    rw [HA.out]
    exact ⟨_, rfl, World.ownsRow_nil _ _ _ _, HB2.out⟩
  | some gs =>
    rw [hbk] at BK
    have HBK : Hid (bookF ss = some gs) := hbk
    obtain ⟨hgl, hg60⟩ := bookF_is hbk
    have HG60 : Hid (∀ l ∈ gs, 0 < l.length ∧ l.length ≤ 1048576) := fun l hl => ⟨(bookF_good hbk l hl).2, by have := hg60 l hl; omega⟩
    have HBO : Hid (Book gs ∧ (∀ g ∈ gs, lnP g ≤ 300) ∧ gs.length ≤ 40) := bookF_book hbk
    have hpp := (plF_is (gs := gs) key).1
    have HPF : Hid (∀ (u : World) (lo : Nat) (v : Value) (vs : List Value), NestR u lo u.heap.size v gs vs → ∃ lk : Nat, Calls Tryd.prog 35 #[v, .string key] u fun e w' => e = .returned (.tuple #[.int .i64 (plF gs key : Int), .int .i64 (lk : Int)]) ∧ w' = u) := fun u lo v vs h => by
      have q := pageFor_any key h (by omega) HG60.out
      rw [pageF_pl HBO.out.1] at q
      exact ⟨_, q⟩
    clear hg60 hbk
    obtain ⟨k, HK⟩ : ∃ k, Hid (plF gs key = k) := ⟨_, rfl⟩
    rw [HK.out] at hpp HPF
    by_cases hke : k = gs.length
    · have HA : Hid (R = none) := by show _ = _; rw [← HR.out]; exact dropA_end HBK.out (by rw [HK.out]; exact hke)
      subst hke
      go_enter Tryd.func17, Tryd.ntmps17
      go_wp2_with fail
      refine BK.mono ?_
      rintro e w2 ⟨v2, rfl, hN, b2⟩
      obtain ⟨vs, N2⟩ := hN gs rfl
      obtain ⟨lk, PF⟩ := HPF.out w2 _ _ _ N2
      obtain ⟨a2, c2, rfl, _⟩ := N2.form
      have HB2 : Hid (Below w.heap.size w w2) := b2
      clear BK b2 hN N2 HPF
      go_wp2_with fail
      refine PF.mono ?_
      rintro e w3 ⟨rfl, rfl⟩
      clear PF
      go_wp2
      go_ret2
      rw [HA.out]
      exact ⟨_, rfl, World.ownsRow_nil _ _ _ _, HB2.out⟩
    · have hkl : k < gs.length := by omega
      have hk8 : (k : Int) < (gs.length : Int) := by omega
      have hk9 : ¬ (k : Int) = (gs.length : Int) := by omega
      obtain ⟨l, hl'⟩ : ∃ l, gs[k]? = some l := ⟨_, List.getElem?_eq_getElem hkl⟩
      have HLK : Hid (gs[k]? = some l) := hl'
      have hlm := List.mem_of_getElem? hl'
      have HRI : Hid (Rise l) := goodR_rise (HBO.out.1.good l hlm).1
      have hl0 := (HG60.out l hlm).1
      have hl59 : l.length ≤ 59 := fit59 HRI.out (HBO.out.2.1 l hlm)
      have HPL : Hid (∀ (u : World) (al : Option Addr) (cl : Nat), SlRw u al l → Calls Tryd.prog 36 #[.slice al l.length cl, .string key] u fun e w' => e = .returned (.tuple #[.int .i64 (placeF l key : Int), .bool (thereF l key)]) ∧ Below u.heap.size u w') := fun u al cl h => placeOf_any key h (by omega)
      cases hth : thereF l key with
      | false =>
        have HA : Hid (R = none) := by show _ = _; rw [← HR.out]; exact dropA_no HBK.out (by rw [HK.out]; exact HLK.out) hth
        rw [hth] at HPL
        generalize placeF l key = P at *
        clear hl' hth
        go_enter Tryd.func17, Tryd.ntmps17
        go_wp2_with fail
        refine BK.mono ?_
        rintro e w2 ⟨v2, rfl, hN, b2⟩
        obtain ⟨vs, N2⟩ := hN gs rfl
        obtain ⟨lk, PF⟩ := HPF.out w2 _ _ _ N2
        obtain ⟨a2, c2, rfl, fm⟩ := N2.form
        obtain ⟨vl, hvl, hI, _⟩ := N2.ins k l HLK.out
        obtain ⟨gb, rfl, _, _, cb, _⟩ := fm k _ hvl
        obtain ⟨al, cl, rfl⟩ := rw_form hI
        have hcb := rw_cell_lt cb
        have PL := HPL.out w2 al cl (rws_sl hI)
        have HB2 : Hid (Below w.heap.size w w2) := b2
        clear BK b2 hN N2 HPF fm hvl hI HPL
        go_wp2_with fail
        refine PF.mono ?_
        rintro e w3 ⟨rfl, rfl⟩
        clear PF
        go_wp2_with fail
        refine PL.mono ?_
        rintro e w4 ⟨rfl, b4⟩
        have HB4 : Hid (Below w.heap.size w w4) := HB2.out.trans (b4.mono HB2.out.size)
        clear PL b4
        go_wp2
        go_ret2
        rw [HA.out]
        exact ⟨_, rfl, World.ownsRow_nil _ _ _ _, HB4.out⟩
      | true =>
        have hplt := (rowIn_there HRI.out hth).2
        have HRA : Hid (R = ansG (dropG gs k (dropR l key))) := by show _ = _; rw [← HR.out, dropA_yes HBK.out (by rw [HK.out]; exact HLK.out) hth, HK.out]
        obtain ⟨l', HL'⟩ : ∃ l', Hid (dropR l key = l') := ⟨_, rfl⟩
        have HDR : Hid (l.take (placeF l key) ++ l.drop (placeF l key + 1) = l') := HL'.out
        have HDL : Hid (l'.length = l.length - 1) := by show _ = _; rw [← HL'.out]; exact dropR_len HRI.out hth
        have HSUB : Hid (l'.Sublist l) := by show List.Sublist _ _; rw [← HL'.out]; exact dropR_sub l key
        rw [HL'.out] at HRA
        have HDB : Hid (Book (dropG gs k l')) := dropG_book HBO.out.1 HLK.out HSUB.out
        rw [hth] at HPL
        generalize placeF l key = P at *
        have hP8 : (P : Int) < (l.length : Int) := by omega
        have hwr : IntKind.i64.wrap ((P : Int) + 1) = (P : Int) + 1 := by rw [IntKind.wrap_i64]; omega
        have HBY : Hid (∀ (u : World) (v : Value), BkV u v (dropG gs k l') → Calls Tryd.prog 29 #[v] u fun e w' => ∃ v', e = .returned (.tuple #[v', .bool (ansG (dropG gs k l')).isSome]) ∧ Strs w' u.heap.size v' ((ansG (dropG gs k l')).getD []) ∧ Below u.heap.size u w') := fun u v h => by
          have hle := (dropG_cases gs k l' hkl).2.2
          have q := bytes_any h (by omega) (fun g hg => by have := goodR_len (HDB.out.good g hg).1; omega)
          rw [bytF_book HDB.out] at q
          exact q
        have HDT : Hid (∀ (u : World) (B g cap : Nat) (vs : List Value), OwnT u B (.slice (some ⟨g, 0, none⟩) gs.length cap) (gs.set k l') vs → Calls Tryd.prog 52 #[.slice (some ⟨g, 0, none⟩) gs.length cap, .int .i64 (k : Int)] u fun e w' => ∃ v' vs', e = .returned v' ∧ OwnT w' B v' (dropG gs k l') vs' ∧ u.grownBy w' (some g)) := fun u B g cap vs h => by
          have hk2 : (gs.set k l')[k]? = some l' := List.getElem?_set_self hkl
          have h' : OwnT u B (.slice (some ⟨g, 0, none⟩) (gs.set k l').length cap) (gs.set k l') vs := by rw [List.length_set]; exact h
          have q := drawTogether_any h' hk2 (by rw [List.length_set]; omega) (fun p hp => by
            rcases List.mem_or_eq_of_mem_set hp with hp | rfl
            · have := HBO.out.1.good p hp
              exact ⟨goodR_RwB this.1, goodR_len this.1⟩
            · have := HBO.out.1.good l hlm
              refine ⟨?_, by have := HDL.out; omega⟩
              have r := goodR_RwB this.1
              exact ⟨by have := HDL.out; omega, fun x hx => r.2 x (HSUB.out.subset hx)⟩)
          rw [List.length_set, dropG_set] at q
          exact q
        generalize ansG (dropG gs k l') = ans at *
        obtain ⟨G, HGG⟩ : ∃ G, Hid (dropG gs k l' = G) := ⟨_, rfl⟩
        rw [HGG.out] at HBY HDT
        clear hl' hth HBO HBK HG60 HDB hlm HL' HK HR
        go_enter Tryd.func17, Tryd.ntmps17
        go_wp2_with fail
        refine BK.mono ?_
        rintro e w2 ⟨v2, rfl, hN, b2⟩
        obtain ⟨vs, N2⟩ := hN gs rfl
        obtain ⟨lk, PF⟩ := HPF.out w2 _ _ _ N2
        obtain ⟨a2, c2, rfl, fm⟩ := N2.form
        obtain ⟨vl, hvl, hI, _⟩ := N2.ins k l HLK.out
        obtain ⟨gb, rfl, _, _, cb, _⟩ := fm k _ hvl
        obtain ⟨bk, cl, rfl, _⟩ := rws_at hI hl0
        have hcb := rw_cell_lt cb
        have PL := HPL.out w2 _ cl (rws_sl hI)
        have HB2 : Hid (Below w.heap.size w w2) := b2
        have HN2 : Hid (NestR w2 w.heap.size w2.heap.size (.slice (some ⟨gb, 0, none⟩) gs.length c2) gs vs) := N2
        have HVL : Hid (vs[k]? = some (.slice (some ⟨bk, 0, none⟩) l.length cl)) := hvl
        clear BK b2 hN N2 HPF fm hvl hI HPL
        go_wp2_with fail
        refine PF.mono ?_
        rintro e w3 ⟨rfl, rfl⟩
        clear PF
        go_wp2_with fail
        refine PL.mono ?_
        rintro e w4 ⟨rfl, b4⟩
        have HB4 : Hid (Below w.heap.size w w4) := HB2.out.trans (b4.mono HB2.out.size)
        have N4 := HN2.out.below b4
        obtain ⟨x2, hx2, hI4, _⟩ := N4.ins k l HLK.out
        rw [HVL.out] at hx2
        obtain rfl := Option.some.inj hx2
        have DE := delR_any (i := P) hI4 hplt
        have cb4 : w4.cell? ⟨gb, k, none⟩ = some (.slice (some ⟨bk, 0, none⟩) l.length cl) := (b4.cell (p := ⟨gb, k, none⟩) hcb).trans cb
        have hcb4 := rw_cell_lt cb4
        have hbkw : w.heap.size ≤ bk := (World.ownsRow.lt hI4 bk rfl).1
        have HN4 : Hid (NestR w4 w.heap.size _ (.slice (some ⟨gb, 0, none⟩) gs.length c2) gs vs) := N4
        clear PL b4 N4 hI4 hx2 cb hcb HN2 HB2
        go_wp2_with fail
        refine DE.mono ?_
        rintro e w5 ⟨rfl, r5, g5⟩
        rw [HDR.out, ← HDL.out] at r5
        rw [← HDL.out]
        obtain ⟨o5, cb5, fz5, hgb⟩ := HN4.out.cutRow HLK.out HVL.out rfl g5 r5
        have hcb5 := rw_cell_lt cb5
        have HB5 : Hid (Below w.heap.size w w5) := Below.grown HB4.out g5 HB4.out.size (fun j hj => by have := Option.some.inj hj; omega)
        have HB6 : Hid (Below w.heap.size w (w5.setCell ⟨gb, k, none⟩ (.slice (some ⟨bk, 0, none⟩) l'.length cl))) := HB5.out.setCell hgb _
        have DT := HDT.out _ _ _ _ _ o5
        clear DE r5 g5 o5 HN4 HB4 cb4 hcb4 HB5 HDT
        go_wp2_with fail
        refine DT.mono ?_
        rintro e w6 ⟨v6, vs6, rfl, o6, g6⟩
        have HB7 : Hid (Below w.heap.size w w6) := Below.grown HB6.out g6 HB6.out.size (fun j hj => by have := Option.some.inj hj; omega)
        have BY := HBY.out w6 v6 o6.bk
        clear DT o6 g6 HB6 HBY
        go_wp2_with fail
        refine BY.mono ?_
        rintro e w7 ⟨v7, rfl, s7, b7⟩
        have HB8 : Hid (Below w.heap.size w w7) := HB7.out.trans (b7.mono HB7.out.size)
        have HS7 : Hid (Strs w7 w.heap.size v7 (ans.getD [])) := strsD_low s7 HB7.out.size
        clear BY s7 b7
        go_wp2
        go_ret2
        rw [HRA.out]
        exact ⟨_, rfl, HS7.out, HB8.out⟩
end Go.Proofs.YticogafoopkflaaDoor

namespace Go.Proofs.YticogafoopkflaaDoor
open Go.RowKit

/-- The last digit of a number, as a text. -/
def dgB (j : Nat) : ByteArray := ⟨#[UInt8.ofNat (48 + j % 10)]⟩

/-- The decimal digits of k ahead of a text. -/
def digs : Nat → Nat → ByteArray → ByteArray
  | 0, _, out => out
  | f + 1, k, out => if k = 0 then out else digs f (k / 10) (dgB k ++ out)

/-- The text of a mark. -/
def mtx (k : Nat) : ByteArray := if k = 0 then ⟨#[109, 48]⟩ else ⟨#[109]⟩ ++ digs k k ⟨#[]⟩

theorem run_conv1 (w : World) (j : Nat) : (convert 22 9 (.slice (some ⟨w.heap.size, 0, none⟩) 1 1)).run Tryd.prog (w.alloc (.cells #[.int .u8 (48 + (j : Int) % 10)] 5)) = .ok (.string (dgB j)) (w.alloc (.cells #[.int .u8 (48 + (j : Int) % 10)] 5)) := by
  have h1 : (UInt8.ofNat (48 + j % 10)).toNat = 48 + j % 10 := by rw [UInt8.toNat_ofNat']; omega
  refine run_convert_bytes_back _ 22 9 5 ⟨w.heap.size, 0, none⟩ 1 [UInt8.ofNat (48 + j % 10)] Tryd.underlying22 Tryd.underlying5 Tryd.underlying9 (fun i hi => ?_)
  have hi0 : i = 0 := by simp at hi; exact hi
  subst hi0
  have e : (([UInt8.ofNat (48 + j % 10)][0]).toNat : Int) = 48 + (j : Int) % 10 := by show ((UInt8.ofNat (48 + j % 10)).toNat : Int) = _; rw [h1]; omega
  rw [e]
  simp [Addr.add]

set_option maxRecDepth 100000 in
set_option maxHeartbeats 1000000 in
theorem markText_pos (k : Nat) (w : World) (hk : 0 < k) (hk2 : k ≤ 1099511627776) : Calls Tryd.prog 53 #[.int .i64 (k : Int)] w fun e w' => e = .returned (.string (mtx k)) ∧ Below w.heap.size w w' := by
  have h1 : ¬ (k : Int) ≤ 0 := by omega
  go_enter Tryd.func53, Tryd.ntmps53
  go_wp2
  go_loopw [0, 3] (fun kv ov wr => ∃ (j f : Nat) (out : ByteArray), kv = .int .i64 j ∧ ov = .string out ∧ j ≤ k ∧ j ≤ f ∧ out.size + f ≤ k ∧ digs f j out = digs k k ⟨#[]⟩ ∧ Below w.heap.size w wr) (fun kv _ _ => (intOf kv).toNat)
  case atStart => exact ⟨k, k, ⟨#[]⟩, rfl, rfl, Nat.le_refl _, Nat.le_refl _, by simp [ByteArray.size], rfl, Below.refl _ _⟩
  case round =>
    obtain ⟨j, f, out, rfl, rfl, hj, hf, hs, hd, hb⟩ := hrel
    have HD : Hid _ := hd
    clear hd
    by_cases h0 : 0 < j
    · have h0' : (0 : Int) < (j : Int) := by omega
      obtain ⟨f', rfl⟩ : ∃ f', f = f' + 1 := ⟨f - 1, by omega⟩
      have HN : Hid (digs f' (j / 10) (dgB j ++ out) = digs k k ⟨#[]⟩) := by
        show _ = _
        rw [← HD.out, digs, if_neg (by omega)]
      have CV := run_conv1 wr j
      have hdz : (dgB j).size = 1 := rfl
      have hos : out.size ≤ 1099511627776 := by omega
      have hsz : (dgB j ++ out).size = 1 + out.size := by rw [ByteArray.size_append]; rfl
      have HSZ : Hid _ := hsz
      clear HD hsz
      go_wp2
      exact ⟨⟨j / 10, f', _, by go_num, rfl, by omega, by omega, by rw [HSZ.out]; omega, HN.out, hb.alloc hb.size _⟩, by simp [intOf]; omega⟩
    · have hj0 : j = 0 := by omega
      subst hj0
      have HF : Hid (digs k k ⟨#[]⟩ = out) := by
        show _ = _
        rw [← HD.out]
        cases f with
        | zero => rfl
        | succ f => rw [digs, if_pos rfl]
      have HM : Hid (mtx k = ⟨#[109]⟩ ++ out) := by show _ = _; unfold mtx; rw [if_neg (by omega), HF.out]
      clear HD HF
      go_wp2
      go_ret
      rw [HM.out]
      exact ⟨rfl, hb⟩

theorem Strs.slice {w : World} {B : Nat} {v : Value} {ss : List ByteArray} (h : Strs w B v ss) : ∃ a c, v = .slice a ss.length c := by
  rcases h.form with ⟨rfl, rfl⟩ | ⟨g, cap, rfl, _, _⟩
  · exact ⟨_, _, rfl⟩
  · exact ⟨_, _, rfl⟩

set_option maxRecDepth 100000 in
set_option maxHeartbeats 1000000 in
theorem eqStr_none (w : World) (a b : Option Addr) (c d : Nat) : Calls Tryd.prog 23 #[.slice a 0 c, .slice b 0 d] w fun e w' => e = .returned (.bool true) ∧ ∃ n, w' = w.drewN n := by
  go_enter Tryd.func23, Tryd.ntmps23
  go_wp2
  go_loopw [5] (fun i wr => i = .int .i64 0 ∧ wr = w) (fun _ _ => 0)
  case atStart => exact ⟨rfl, rfl⟩
  case round =>
    obtain ⟨rfl, rfl⟩ := hrel
    go_wp2
    go_ret
    exact ⟨rfl, 0, rfl⟩

set_option maxRecDepth 100000 in
set_option maxHeartbeats 1000000 in
theorem eqStr_row (w : World) (B B' g g' cap cap' : Nat) (ss : List ByteArray) (hz : ss.length ≤ 1048576) (h1 : Strs w B (.slice (some ⟨g, 0, none⟩) ss.length cap) ss) (h2 : Strs w B' (.slice (some ⟨g', 0, none⟩) ss.length cap') ss) :
    Calls Tryd.prog 23 #[.slice (some ⟨g, 0, none⟩) ss.length cap, .slice (some ⟨g', 0, none⟩) ss.length cap'] w fun e w' => e = .returned (.bool true) ∧ ∃ n, w' = w.drewN n := by
  go_enter Tryd.func23, Tryd.ntmps23
  go_wp2
  go_loopw [5] (fun i wr => ∃ k nq : Nat, k ≤ ss.length ∧ i = .int .i64 k ∧ wr = w.drewN nq) (fun i _ => ss.length - (intOf i).toNat)
  case atStart => exact ⟨0, 0, Nat.zero_le _, rfl, rfl⟩
  case round =>
    obtain ⟨k, nq, hk, rfl, rfl⟩ := hrel
    by_cases hlt : k < ss.length
    · obtain ⟨x, hx⟩ : ∃ x, ss[k]? = some x := ⟨_, List.getElem?_eq_getElem hlt⟩
      have a1 := h1.cell k x hx
      have a2 := h2.cell k x hx
      have hk8 : (k : Int) < (ss.length : Int) := by omega
      clear h1 h2 hx
      go_wp2
      go_quiet (fail)
      go_wp2
      exact ⟨⟨k + 1, _, by omega, by go_num, rfl⟩, by simp [intOf]; omega⟩
    · clear h1 h2
      go_wp2
      go_ret
      exact ⟨rfl, _, rfl⟩

theorem eqStr_any {w : World} {B B' : Nat} {a b : Value} {ss : List ByteArray} (hz : ss.length ≤ 1048576) (ha : Strs w B a ss) (hb : Strs w B' b ss) :
    Calls Tryd.prog 23 #[a, b] w fun e w' => e = .returned (.bool true) ∧ ∃ n, w' = w.drewN n := by
  rcases ha.form with ⟨rfl, rfl⟩ | ⟨g, cap, rfl, _, _⟩
  · rcases hb.form with ⟨rfl, _⟩ | ⟨g', cap', rfl, _, _⟩
    · exact eqStr_none w _ _ _ _
    · exact eqStr_none w _ _ _ _
  · rcases hb.form with ⟨rfl, rfl⟩ | ⟨g', cap', rfl, _, _⟩
    · exact eqStr_none w _ _ _ _
    · exact eqStr_row w B B' g g' cap cap' ss hz ha hb

/-- The texts of the marks from m on. -/
def seqT (m n : Nat) : List ByteArray := (List.range n).map fun j => mtx (m + j)

theorem seqT_len (m n : Nat) : (seqT m n).length = n := by simp [seqT]
theorem seqT_at (m n j : Nat) (h : j < n) : (seqT m n)[j]? = some (mtx (m + j)) := by simp [seqT, h]

/-- The row behind k marks. -/
def mkT (ss : List ByteArray) (m : Nat) : Nat → List ByteArray
  | 0 => ss
  | k + 1 => (mkT ss m k).set k (mtx (m + k))

theorem mkT_len (ss : List ByteArray) (m k : Nat) : (mkT ss m k).length = ss.length := by
  induction k with
  | zero => rfl
  | succ k ih => simp [mkT, ih]

theorem mkT_at (ss : List ByteArray) (m k j : Nat) (hj : j < k) (hl : j < ss.length) : (mkT ss m k)[j]? = some (mtx (m + j)) := by
  induction k with
  | zero => omega
  | succ k ih =>
    simp only [mkT, List.getElem?_set, mkT_len]
    by_cases e : k = j
    · subst e; simp [hl]
    · rw [if_neg e]; exact ih (by omega)

theorem mkT_all (ss : List ByteArray) (m : Nat) : mkT ss m ss.length = seqT m ss.length := by
  apply List.ext_getElem?
  intro j
  by_cases h : j < ss.length
  · rw [mkT_at ss m _ j h h, seqT_at m _ j h]
  · rw [List.getElem?_eq_none (by rw [mkT_len]; omega), List.getElem?_eq_none (by rw [seqT_len]; omega)]

theorem mkT_map (ss : List ByteArray) (m k : Nat) : ((mkT ss m k).map Value.string).set k (.string (mtx (m + k))) = (mkT ss m (k + 1)).map Value.string := by
  simp [mkT, List.map_set]

set_option maxRecDepth 100000 in
set_option maxHeartbeats 1000000 in
theorem markT_none (w : World) (a : Option Addr) (c : Nat) (m : Int) : Calls Tryd.prog 24 #[.slice a 0 c, .int .i64 m] w fun e w' => e = .returned (.int .i64 m) ∧ w' = w := by
  go_enter Tryd.func24, Tryd.ntmps24
  go_wp2
  go_loop [1, 5] (fun k i => k = .int .i64 m ∧ i = .int .i64 0) (fun _ _ => 0)
  case atStart => exact ⟨rfl, rfl⟩
  case round =>
    obtain ⟨rfl, rfl⟩ := hrel
    go_wp2
    go_ret
    exact ⟨rfl, rfl⟩

def MTRel (w : World) (B g cap : Nat) (ss : List ByteArray) (m : Nat) (mv i : Value) (wr : World) : Prop :=
  ∃ k : Nat, k ≤ ss.length ∧ i = .int .i64 k ∧ mv = .int .i64 ((m + k : Nat) : Int) ∧ wr.ownsRow B 9 1 (.slice (some ⟨g, 0, none⟩) ss.length cap) ss.length ((mkT ss m k).map Value.string) ∧ w.grownBy wr (some g)

set_option maxRecDepth 100000 in
set_option maxHeartbeats 1000000 in
theorem markT_row (w : World) (B g cap : Nat) (ss : List ByteArray) (m : Nat) (hm0 : 0 < m) (hm1 : m ≤ 1073741824) (hz : ss.length ≤ 1048576) (hI : w.ownsRow B 9 1 (.slice (some ⟨g, 0, none⟩) ss.length cap) ss.length (ss.map Value.string)) :
    Calls Tryd.prog 24 #[.slice (some ⟨g, 0, none⟩) ss.length cap, .int .i64 (m : Int)] w fun e w' => e = .returned (.int .i64 ((m + ss.length : Nat) : Int)) ∧ w'.ownsRow B 9 1 (.slice (some ⟨g, 0, none⟩) ss.length cap) ss.length ((mkT ss m ss.length).map Value.string) ∧ w.grownBy w' (some g) := by
  go_enter Tryd.func24, Tryd.ntmps24
  go_wp2
  go_loopw [1, 5] (fun mv i wr => MTRel w B g cap ss m mv i wr) (fun _ i _ => ss.length - (intOf i).toNat)
  case atStart => exact ⟨0, Nat.zero_le _, rfl, by simp, hI, World.grownBy.refl _ _⟩
  case round =>
    clear hI
    obtain ⟨k, hk, rfl, rfl, hown, hg⟩ := hrel
    by_cases hlt : k < ss.length
    · have hk8 : (k : Int) < (ss.length : Int) := by omega
      have MT := fun w => markText_pos (m + k) w (by omega) (by omega)
      obtain ⟨M, hM⟩ : ∃ M, M = m + k := ⟨_, rfl⟩
      have HW : Hid _ := hown
      rw [← hM] at MT
      rw [← hM]
      have HM : Hid _ := hM
      clear hM hown
      go_wp2_with fail
      refine (MT _).mono ?_
      rintro e w2 ⟨rfl, b2⟩
      have h2 := World.ownsRow.kept HW.out (row := none) ⟨b2.os, b2.tape, b2.output, b2.size, fun k hk _ => b2.block k hk⟩ (by simp [Value.ownBlock])
      have c1 := h2.cellAt k (by omega)
      have hm : ((mkT ss m k).map Value.string)[k]? = some (.string ((mkT ss m k)[k]?.getD ⟨#[]⟩)) := by
        have := mkT_len ss m k
        simp [this, hlt]
      rw [hm] at c1
      have c2 := h2.frozenAt k
      have hst := h2.stored k (.string (mtx (m + k)))
      rw [mkT_map] at hst
      rw [← HM.out] at hst
      have HST : Hid _ := hst
      have HG : Hid (w.grownBy w2 (some g)) := hg.trans ⟨b2.os, b2.tape, b2.output, b2.size, fun k hk _ => b2.block k hk⟩
      have hMb : M ≤ 2000000000 := by have := HM.out; omega
      clear hst hm h2 MT HW b2
      go_wp2
      exact ⟨⟨k + 1, by omega, by go_num, by rw [show m + (k + 1) = M + 1 by have := HM.out; omega]; go_num, HST.out.1, HG.out.trans HST.out.2⟩, by simp [intOf]; omega⟩
    · have hkz : k = ss.length := by omega
      subst hkz
      go_wp2
      go_ret
      exact ⟨rfl, hown, hg⟩

theorem markT_any {w : World} {B : Nat} {v : Value} {ss : List ByteArray} {m : Nat} (hm0 : 0 < m) (hm1 : m ≤ 1073741824) (hz : ss.length ≤ 1048576) (hI : Strs w B v ss) :
    Calls Tryd.prog 24 #[v, .int .i64 (m : Int)] w fun e w' => e = .returned (.int .i64 ((m + ss.length : Nat) : Int)) ∧ Strs w' B v (seqT m ss.length) ∧ w.grownBy w' v.ownBlock := by
  rcases hI.form with ⟨rfl, rfl⟩ | ⟨g, cap, rfl, _, _⟩
  · refine (markT_none w _ _ m).mono ?_
    rintro e w' ⟨rfl, rfl⟩
    exact ⟨by simp, hI, World.grownBy.refl _ _⟩
  · refine (markT_row w B g cap ss m hm0 hm1 hz hI).mono ?_
    rintro e w' ⟨rfl, h3, h4⟩
    refine ⟨rfl, ?_, h4⟩
    unfold Strs
    rw [seqT_len, ← mkT_all]
    exact h3
end Go.Proofs.YticogafoopkflaaDoor

namespace Go.Proofs.YticogafoopkflaaDoor
open Go.ChangeShapes Go.WideShapes Go.ChangeAt Go.WideMaps Go.WideElems Go.RowKit

/-- A list of strings handed in. -/
def ArgStrs (w : World) (a : Option Addr) (len cap : Nat) (ss : List ByteArray) : Prop :=
  ss.length = len ∧ len ≤ cap ∧ cap ≤ maxLen ∧ (∀ s ∈ ss, s.size ≤ maxLen) ∧ (len = 0 ∨ ∃ b o, a = some ⟨b, o, none⟩ ∧ ∀ (k : Nat) (x : ByteArray), ss[k]? = some x → w.cell? ⟨b, o + k, none⟩ = some (.string x))

theorem spot_none2 {w : World} {a : Addr} {v : Value} (h : w.cell? a = some v) : a.spot = none := by
  unfold World.cell? at h
  split at h
  · cases hs : a.spot with
    | none => rfl
    | some x => simp [hs] at h
  · simp at h

section
variable {H : Type} {enc : TypeId × Value → H} {w : World} {base : Nat}

theorem open_strings4 {n : Nat} {a : Option Addr} {len cap : Nat} {x : DataW H × List MemPlace} (h : DataW.trod enc Tryd.prog w base (fun _ => true) true n 25 [.slice a len cap] = some x) : ∃ ss, ArgStrs w a len cap ss := by
  rcases open_strings Tryd.underlying25 Tryd.underlying9 (by kernel_rfl) h with ⟨hcs, _⟩ | ⟨a', len', cap', ss, hcs, _, hl, hm, hss, _, hx, hz⟩
  · cases hcs
    exact ⟨[], rfl, Nat.le_refl _, Nat.zero_le _, by simp, .inl rfl⟩
  · cases hcs
    simp only [if_true] at hss
    refine ⟨ss.take len, by rw [List.length_take]; omega, hl, hm, fun s hs => hz s (List.mem_of_mem_take hs), ?_⟩
    by_cases h0 : len = 0
    · exact .inl h0
    · right
      have hsp : a'.spot = none := by
        have := spot_none2 (hx 0 (by omega))
        simpa [Addr.add] using this
      obtain ⟨b, o, sp⟩ := a'
      simp at hsp
      subst hsp
      refine ⟨b, o, rfl, fun k y hy => ?_⟩
      rw [List.getElem?_take] at hy
      split at hy
      · have hk := (List.getElem?_eq_some_iff.1 hy).1
        have h2 := hx k hk
        have e1 : (⟨b, o, none⟩ : Addr).add k = ⟨b, o + k, none⟩ := by
          unfold Addr.add
          split
          · rename_i hk0; subst hk0; rfl
          · rfl
        rw [e1] at h2
        rw [h2, List.getD, hy]
        rfl
      · cases hy
end

def szT : List ByteArray → Int → Int
  | [], left => left
  | s :: ss, left => if left - (s.size : Int) < 0 then -1 else szT ss (left - (s.size : Int))

def szSA (ss : List ByteArray) (left : Int) : Int := if left - (ss.length : Int) < 0 then -1 else szT ss (left - (ss.length : Int))

theorem szT_bd : ∀ (ss : List ByteArray) (left : Int), 0 ≤ left → 0 ≤ szT ss left → ∀ s ∈ ss, (s.size : Int) ≤ left
  | [], _, _, _ => fun e he => by simp at he
  | x :: ss, left, h0, h => fun e he => by
    unfold szT at h
    split at h
    · omega
    · rcases List.mem_cons.1 he with rfl | he
      · omega
      · have := szT_bd ss _ (by omega) h e he
        omega

theorem szSA_bd {ss : List ByteArray} {left : Int} (h : 0 ≤ szSA ss left) : (ss.length : Int) ≤ left ∧ ∀ s ∈ ss, (s.size : Int) ≤ left := by
  unfold szSA at h
  split at h
  · omega
  · refine ⟨by omega, fun e he => ?_⟩
    have := szT_bd ss _ (by omega) h e he
    omega

theorem str_drop {ss : List ByteArray} {k : Nat} {x : ByteArray} (h : ss[k]? = some x) : ss.drop k = x :: ss.drop (k + 1) := by
  obtain ⟨hk, rfl⟩ := List.getElem?_eq_some_iff.1 h
  exact List.drop_eq_getElem_cons hk

theorem cell_lt2 {w : World} {b o : Nat} {v : Value} (h : w.cell? ⟨b, o, none⟩ = some v) : b < w.heap.size := by
  apply Classical.byContradiction
  intro hn
  have : w.heap[b]? = none := by simp; omega
  simp [World.cell?, this] at h

set_option maxRecDepth 100000 in
set_option maxHeartbeats 2000000 in
theorem szStrs_any (w w1 : World) (a : Option Addr) (len cap : Nat) (ss : List ByteArray) (left : Int) (h0 : 0 ≤ left) (h1 : left ≤ 1048576) (hA : ArgStrs w a len cap ss) (hb : Below w.heap.size w w1) :
    Calls Tryd.prog 19 #[.slice a len cap, .int .i64 left] w1 fun e w' => e = .returned (.int .i64 (szSA ss left)) ∧ w' = w1 := by
  obtain ⟨hlen, hlc, hcm, hsz, hA⟩ := hA
  unfold maxLen at hcm hsz
  by_cases hneg : left - (len : Int) < 0
  · have HA : Hid (szSA ss left = -1) := by show _ = _; unfold szSA; rw [hlen, if_pos hneg]
    clear hA
    go_enter Tryd.func19, Tryd.ntmps19
    go_wp2
    go_ret
    rw [HA.out]
    exact ⟨rfl, rfl⟩
  · have HA : Hid (szSA ss left = szT ss (left - (len : Int))) := by show _ = _; unfold szSA; rw [hlen, if_neg hneg]
    subst hlen
    obtain ⟨ans, HANS⟩ : ∃ ans, Hid (szT ss (left - (ss.length : Int)) = ans) := ⟨_, rfl⟩
    rw [HA.out, HANS.out]
    go_enter Tryd.func19, Tryd.ntmps19
    go_wp2
    go_loop [1, 5] (fun lv i => ∃ (k : Nat) (lf : Int), k ≤ ss.length ∧ i = .int .i64 k ∧ lv = .int .i64 lf ∧ 0 ≤ lf ∧ lf ≤ 1048576 ∧ szT (ss.drop k) lf = ans) (fun _ i => ss.length - (intOf i).toNat)
    case atStart => exact ⟨0, _, Nat.zero_le _, rfl, rfl, by omega, by omega, by rw [List.drop_zero]; exact HANS.out⟩
    case round =>
      obtain ⟨k, lf, hk, rfl, rfl, hf0, hf1, hR⟩ := hrel
      have HR : Hid _ := hR
      clear hR
      by_cases hlt : k < ss.length
      · obtain ⟨x, hx⟩ : ∃ x, ss[k]? = some x := ⟨_, List.getElem?_eq_getElem hlt⟩
        obtain ⟨b, o, rfl, hE⟩ := hA.resolve_left (by omega)
        have c0 := hE k x hx
        have a0 : w1.cell? ⟨b, o + k, none⟩ = some (.string x) := by rw [hb.cell (cell_lt2 c0)]; exact c0
        have hxs := hsz x (List.mem_of_getElem? hx)
        have hk8 : (k : Int) < (ss.length : Int) := by omega
        have HR2 : Hid ((if lf - (x.size : Int) < 0 then -1 else szT (ss.drop (k + 1)) (lf - (x.size : Int))) = ans) := by
          show _ = _
          rw [← HR.out, str_drop hx]
          rfl
        clear hE hx c0 HR hsz
        by_cases hs : lf - (x.size : Int) < 0
        · have HF : Hid (-1 = ans) := by show _ = _; rw [← HR2.out, if_pos hs]
          clear HR2
          go_wp2
          go_ret
          rw [← HF.out]
          exact ⟨rfl, rfl⟩
        · have HF : Hid (szT (ss.drop (k + 1)) (lf - (x.size : Int)) = ans) := by show _ = _; rw [← HR2.out, if_neg hs]
          clear HR2
          go_wp2
          exact ⟨⟨k + 1, _, hlt, by go_num, rfl, by omega, by omega, HF.out⟩, by simp [intOf]; omega⟩
      · have hk3 : k = ss.length := by omega
        subst hk3
        have HF : Hid (lf = ans) := by show _ = _; rw [← HR.out, List.drop_length]; rfl
        clear HR hA hsz
        go_wp2
        go_ret
        rw [← HF.out]
        exact ⟨rfl, rfl⟩

def fillS (ss : List ByteArray) (k : Nat) : List ByteArray := ss.take k ++ List.replicate (ss.length - k) ⟨#[]⟩

theorem fillS_len (ss : List ByteArray) (k : Nat) (h : k ≤ ss.length) : (fillS ss k).length = ss.length := by
  unfold fillS
  rw [List.length_append, List.length_take, List.length_replicate]; omega

theorem fillS_set {ss : List ByteArray} {k : Nat} {e : ByteArray} (h : ss[k]? = some e) : (fillS ss k).set k e = fillS ss (k + 1) := by
  have hk := (List.getElem?_eq_some_iff.1 h).1
  unfold fillS
  rw [List.set_append_right _ _ (by simp; omega), List.length_take, show k - min k ss.length = 0 by omega, show ss.length - k = (ss.length - (k + 1)) + 1 by omega, List.replicate_succ, List.set_cons_zero, List.take_add_one, h]
  simp

theorem fillS_all (ss : List ByteArray) : fillS ss ss.length = ss := by simp [fillS]

theorem made_strs (n : Nat) : (madeCells (Value.string ⟨#[]⟩).cells (n * 1)).toList = (List.replicate n (⟨#[]⟩ : ByteArray)).map Value.string := by
  have h := toList_madeCells_one (Value.string ⟨#[]⟩) n
  simpa [Value.cells] using h

set_option maxRecDepth 100000 in
set_option maxHeartbeats 2000000 in
theorem toStrs_any (w0 w : World) (a : Option Addr) (len cap : Nat) (ss : List ByteArray) (hA : ArgStrs w0 a len cap ss) (hb : Below w0.heap.size w0 w) (hm : len ≤ 1048576) :
    Calls Tryd.prog 21 #[.slice a len cap] w fun e w' => ∃ g, e = .returned (.slice (some ⟨g, 0, none⟩) len len) ∧ Strs w' w.heap.size (.slice (some ⟨g, 0, none⟩) len len) ss ∧ Below w.heap.size w w' := by
  obtain ⟨hlen, hlc, hcm, _, hA⟩ := hA
  subst hlen
  obtain ⟨i0, hi, hz0, hz1, hz2⟩ := info_parts info_str
  go_enter Tryd.func21, Tryd.ntmps21
  go_wp2_with (at_make; refine wpList_make_full _ rfl _ _ 25 rfl w.heap.size 9 i0 (.string ⟨#[]⟩) 1 Tryd.underlying25 hi hz0 hz1 .i64 .i64 _ _ ss.length rfl rfl rfl rfl (by rw [hz2]; omega) (by unfold maxLen; omega) (Nat.le_refl _) ?_; intro w1 hown hgr)
  have hE1 : w1.ownsRow w.heap.size 9 1 (.slice (some ⟨w.heap.size, 0, none⟩) ss.length ss.length) ss.length ((fillS ss 0).map Value.string) := by
    rw [made_strs] at hown
    simpa [fillS] using hown
  have hb1 : Below w.heap.size w w1 := Below.grown (Below.refl _ _) hgr (Nat.le_refl _) (fun j hj => by cases hj)
  clear hown hgr
  go_loopw [4] (fun i wr => ∃ k : Nat, k ≤ ss.length ∧ i = .int .i64 k ∧ wr.ownsRow w.heap.size 9 1 (.slice (some ⟨w.heap.size, 0, none⟩) ss.length ss.length) ss.length ((fillS ss k).map Value.string) ∧ Below w.heap.size w wr) (fun i _ => ss.length - (intOf i).toNat)
  case atStart => exact ⟨0, Nat.zero_le _, rfl, hE1, hb1⟩
  case round =>
    clear hE1 hb1
    obtain ⟨k, hk, rfl, hown, hbr⟩ := hrel
    by_cases hlt : k < ss.length
    · obtain ⟨x, hx⟩ : ∃ x, ss[k]? = some x := ⟨_, List.getElem?_eq_getElem hlt⟩
      obtain ⟨b, o, rfl, hE⟩ := hA.resolve_left (by omega)
      have c0 := hE k x hx
      have a0 : wr.cell? ⟨b, o + k, none⟩ = some (.string x) := by rw [(hb.trans (hbr.mono hb.size)).cell (cell_lt2 c0)]; exact c0
      have hk8 : (k : Int) < (ss.length : Int) := by omega
      have c1 := hown.cellAt k (by omega)
      have hm2 : ((fillS ss k).map Value.string)[k]? = some (.string ((fillS ss k)[k]?.getD ⟨#[]⟩)) := by
        have := fillS_len ss k hk
        simp [this, hlt]
      rw [hm2] at c1
      have c2 := hown.frozenAt k
      have hst := hown.stored k (.string x)
      have e1 : ((fillS ss k).map Value.string).set k (.string x) = (fillS ss (k + 1)).map Value.string := by rw [← fillS_set hx, List.map_set]
      rw [e1] at hst
      have HST : Hid _ := hst
      clear hst hm2 hE hx c0 e1 hown
      go_wp2
      exact ⟨⟨k + 1, by omega, by go_num, HST.out.1, Below.grown hbr HST.out.2 hbr.size (fun j hj => by cases hj; exact Nat.le_refl _)⟩, by simp [intOf]; omega⟩
    · have hkz : k = ss.length := by omega
      subst hkz
      rw [fillS_all] at hown
      clear hA
      go_wp2
      go_ret
      exact ⟨_, rfl, hown, hbr⟩
end Go.Proofs.YticogafoopkflaaDoor

namespace Go.Proofs.YticogafoopkflaaDoor
open Go.RowKit

set_option maxRecDepth 100000 in
set_option maxHeartbeats 1000000 in
theorem heldT_none (w : World) (a : Option Addr) (c : Nat) (m : Int) : Calls Tryd.prog 25 #[.slice a 0 c, .int .i64 m] w fun e w' => e = .returned (.int .i64 m) ∧ Below w.heap.size w w' := by
  go_enter Tryd.func25, Tryd.ntmps25
  go_wp2
  go_loop [1, 5] (fun k i => k = .int .i64 m ∧ i = .int .i64 0) (fun _ _ => 0)
  case atStart => exact ⟨rfl, rfl⟩
  case round =>
    obtain ⟨rfl, rfl⟩ := hrel
    go_wp2
    go_ret
    exact ⟨rfl, Below.refl _ _⟩

theorem keep1 {w0 w1 w2 : World} {g k : Nat} {x : Value} (hg : g < w0.heap.size) (hb : Below w1.heap.size w1 w2) (h : w1.cell? ⟨g, k, none⟩ = some x ∧ Below w0.heap.size w0 w1) : w2.cell? ⟨g, k, none⟩ = some x ∧ Below w0.heap.size w0 w2 :=
  ⟨by rw [hb.cell (Nat.lt_of_lt_of_le hg h.2.size)]; exact h.1, h.2.trans (hb.mono h.2.size)⟩

set_option maxRecDepth 100000 in
set_option maxHeartbeats 2000000 in
theorem heldT_row (w : World) (B g cap n m : Nat) (hm0 : 0 < m) (hm1 : m ≤ 1073741824) (hz : n ≤ 1048576) (hI : Strs w B (.slice (some ⟨g, 0, none⟩) (seqT m n).length cap) (seqT m n)) :
    Calls Tryd.prog 25 #[.slice (some ⟨g, 0, none⟩) n cap, .int .i64 (m : Int)] w fun e w' => e = .returned (.int .i64 ((m + n : Nat) : Int)) ∧ Below w.heap.size w w' := by
  have hg := (World.ownsRow.lt hI g rfl).2
  go_enter Tryd.func25, Tryd.ntmps25
  go_wp2
  go_loopw [1, 5] (fun mv i wr => ∃ k : Nat, k ≤ n ∧ i = .int .i64 k ∧ mv = .int .i64 ((m + k : Nat) : Int) ∧ Below w.heap.size w wr) (fun _ i _ => n - (intOf i).toNat)
  case atStart => exact ⟨0, Nat.zero_le _, rfl, by simp, Below.refl _ _⟩
  case round =>
    obtain ⟨k, hk, rfl, rfl, hb⟩ := hrel
    by_cases hlt : k < n
    · have hk8 : (k : Int) < (n : Int) := by omega
      have c0 := hI.cell k _ (seqT_at m n k hlt)
      obtain ⟨M, hM⟩ : ∃ M, M = m + k := ⟨_, rfl⟩
      rw [← hM] at c0
      rw [← hM]
      have MT := fun w => markText_pos M w (by omega) (by omega)
      have hS0 : w.cell? ⟨g, k, none⟩ = some (.string (mtx M)) ∧ Below w.heap.size w w := ⟨c0, Below.refl _ _⟩
      have hS := keep1 hg hb hS0
      have hS2 := keep1 hg ((Below.refl wr.heap.size wr).drew) hS
      have K := fun (u1 u2 : World) (hb : Below u1.heap.size u1 u2) (hu : u1.cell? ⟨g, k, none⟩ = some (.string (mtx M)) ∧ Below w.heap.size w u1) => keep1 hg hb hu
      have HM : Hid _ := hM
      have hMb : M ≤ 2000000000 := by omega
      clear hM hI c0 hS0
      go_wp2_with fail
      go_region_held (fun u => u.cell? ⟨g, k, none⟩ = some (.string (mtx M)) ∧ Below w.heap.size w u)
        (first | exact hS2 | exact K _ _ (by assumption) (by assumption))
        (first | (go_at_call 53; refine (MT _).mono ?_; rintro e w' ⟨rfl, hbw⟩))
      all_goals
        have hE := (show w'.cell? ⟨g, k, none⟩ = _ ∧ Below w.heap.size w w' by assumption).2
        clear hS hS2 K MT
        go_wp2
        exact ⟨⟨k + 1, by omega, by go_num, by rw [show m + (k + 1) = M + 1 by have := HM.out; omega]; go_num, hE⟩, by simp [intOf]; omega⟩
    · have hkz : k = n := by omega
      subst hkz
      go_wp2
      go_ret
      exact ⟨rfl, hb⟩

theorem heldT_any {w : World} {B : Nat} {v : Value} {n m : Nat} (hm0 : 0 < m) (hm1 : m ≤ 1073741824) (hz : n ≤ 1048576) (hI : Strs w B v (seqT m n)) :
    Calls Tryd.prog 25 #[v, .int .i64 (m : Int)] w fun e w' => e = .returned (.int .i64 ((m + n : Nat) : Int)) ∧ Below w.heap.size w w' := by
  have hl := seqT_len m n
  rcases hI.form with ⟨rfl, h⟩ | ⟨g, cap, rfl, _, _⟩
  · rw [h] at hl
    have : n = 0 := by simpa using hl.symm
    subst this
    exact heldT_none w none 0 m
  · have := heldT_row w B g cap n m hm0 hm1 hz hI
    rw [hl]
    exact this
end Go.Proofs.YticogafoopkflaaDoor

namespace Go.Proofs.YticogafoopkflaaDoor
open Go.RowKit
theorem eqT6_any {u : World} {B B' : Nat} {v v' : Value} {gs : List ByteArray} (hz : gs.length ≤ 1048576) (h : Strs u B v gs) (h' : Strs u B' v' gs) : Calls Tryd.prog 23 #[v, v'] u fun e w' => e = .returned (.bool true) ∧ Below u.heap.size u w' :=
  (eqStr_any hz h h').mono fun e w' h => ⟨h.1, by obtain ⟨n, hn⟩ := h.2; rw [hn]; exact below_drewN6 (Below.refl _ _) n⟩
end Go.Proofs.YticogafoopkflaaDoor

namespace Go.Proofs.YticogafoopkflaaDoor
open Go.RowKit

theorem strsDr_keep {W W' : World} {B : Nat} {v : Value} {l : List ByteArray} {r : Option Nat} (h : Strs W B v l) (hg : W.grownBy W' r) (hn : ∀ j, v.ownBlock = some j → r ≠ some j) : Strs W' B v l :=
  World.ownsRow.kept h hg (by
    cases c : v.ownBlock with
    | none => exact .inl rfl
    | some j => exact .inr fun e => hn j c e.symm)

theorem szTDr_le : ∀ (ss : List ByteArray) (left : Int), -1 ≤ left → szT ss left ≤ left
  | [], _, _ => by unfold szT; omega
  | x :: ss, left, h0 => by
    unfold szT
    split
    · omega
    · have := szTDr_le ss (left - (x.size : Int)) (by omega)
      omega

theorem szSADr_le (ss : List ByteArray) (left : Int) (h : -1 ≤ left) : szSA ss left ≤ left := by
  unfold szSA
  split
  · omega
  · have := szTDr_le ss (left - (ss.length : Int)) (by omega)
    omega

theorem strsDr_heap {w u : World} {B : Nat} {v : Value} {ss : List ByteArray} (h : Strs w B v ss) (hu : u.heap = w.heap) : Strs u B v ss := ownsRow_heap h hu

set_option maxRecDepth 100000 in
set_option maxHeartbeats 8000000 in
theorem dropFromPages_walk (w : World) (a : Option Addr) (len cap : Nat) (ss : List ByteArray) (key : ByteArray) (hA : ArgStrs w a len cap ss) (hk : key.size ≤ maxLen) {ty : TypeId} {pv : Value} (hg : ErrG w ty pv) :
    Calls Tryd.prog 6 #[.slice a len cap, .string key] w fun e w' => e = .returned (.bool true) ∧ Below w.heap.size w w' := by
  unfold maxLen at hk
  have SZ : Calls Tryd.prog 19 #[.slice a len cap, .int .i64 1048576] w fun e w1 => e = .returned (.int .i64 (szSA ss 1048576)) ∧ Below w.heap.size w w1 :=
    (szStrs_any w w a len cap ss 1048576 (by omega) (by omega) hA (Below.refl _ _)).mono fun e w' h => ⟨h.1, by rw [h.2]; exact Below.refl _ _⟩
  have hlen := hA.1
  have HA : Hid (ArgStrs w a len cap ss) := hA
  have HG : Hid (ErrG w ty pv) := hg
  have hgl := hg.lt
  clear hA hg
  by_cases hkz : key.size ≤ 1048576
  case neg =>
    have n1 : (1048576 : Int) < (key.size : Int) := by omega
    clear SZ HA
    go_enter Tryd.func6, Tryd.ntmps6
    go_wp2
    go_ret
    exact ⟨rfl, Below.refl _ _⟩
  have n1 : ¬ (1048576 : Int) < (key.size : Int) := by omega
  by_cases hneg : szSA ss 1048576 < 0
  case pos =>
    generalize szSA ss 1048576 = sz at *
    go_enter Tryd.func6, Tryd.ntmps6
    go_wp2_with fail
    refine SZ.mono ?_
    rintro e w1 ⟨rfl, b1⟩
    clear SZ
    go_wp2
    go_ret
    exact ⟨rfl, b1⟩
  have hbd := szSA_bd (ss := ss) (left := 1048576) (by omega)
  have hsl : ss.length ≤ 1048576 := by omega
  have hln : len ≤ 1048576 := by omega
  have hs9 : szSA ss 1048576 ≤ 1048576 := szSADr_le ss _ (by omega)
  have HZ : Hid (∀ s ∈ ss, s.size ≤ 1048576) := fun s hs => by have := hbd.2 s hs; omega
  have HT : Hid (∀ (u : World), Below w.heap.size w u → Calls Tryd.prog 21 #[.slice a len cap] u fun e w' => ∃ g, e = .returned (.slice (some ⟨g, 0, none⟩) len len) ∧ Strs w' u.heap.size (.slice (some ⟨g, 0, none⟩) len len) ss ∧ Below u.heap.size u w') := fun u hu => toStrs_any w u a len cap ss HA.out hu hln
  have hg40 := dropA_len ss key
  obtain ⟨gs, HGS⟩ : ∃ gs, Hid ((dropA ss key).getD [] = gs) := ⟨_, rfl⟩
  obtain ⟨ok, HOK⟩ : ∃ ok, Hid ((dropA ss key).isSome = ok) := ⟨_, rfl⟩
  rw [HGS.out] at hg40
  have HSP : Hid (∀ (u : World) (B : Nat) (v : Value), Strs u B v ss → Calls Tryd.prog 26 #[v, .string key] u fun e w' => ∃ v', e = .returned (.tuple #[v', .bool ok]) ∧ Strs w' u.heap.size v' gs ∧ Below u.heap.size u w') := fun u B v h => by
    have q := specDrop_any key h HZ.out hsl
    rw [HGS.out, HOK.out] at q
    exact q
  have HIM : Hid (∀ (u : World) (B : Nat) (v : Value), Below w.heap.size w u → Strs u B v ss → Calls Tryd.prog 17 #[v, .string key] u fun e w' => ∃ v', e = .returned (.tuple #[v', .bool ok]) ∧ Strs w' u.heap.size v' gs ∧ Below u.heap.size u w') := fun u B v hu h => by
    have q := implDrop_any key h HZ.out hsl (show ErrG u ty pv from (hu.cell (p := ⟨0, 0, none⟩) hgl).trans HG.out)
    rw [HGS.out, HOK.out] at q
    exact q
  have EQN : Hid (∀ (u : World) (B B' : Nat) (v v' : Value), Strs u B v gs → Strs u B' v' gs → Calls Tryd.prog 23 #[v, v'] u fun e w' => e = .returned (.bool true) ∧ Below u.heap.size u w') := fun u B B' v v' h h' => eqT6_any (by omega) h h'
  have EQS : Hid (∀ (u : World) (B B' : Nat) (v v' : Value), Strs u B v ss → Strs u B' v' ss → Calls Tryd.prog 23 #[v, v'] u fun e w' => e = .returned (.bool true) ∧ Below u.heap.size u w') := fun u B B' v v' h h' => eqT6_any hsl h h'
  have MKS : Hid (∀ (u : World) (B : Nat) (v : Value), Strs u B v ss → Calls Tryd.prog 24 #[v, .int .i64 1] u fun e w' => e = .returned (.int .i64 ((1 + ss.length : Nat) : Int)) ∧ u.grownBy w' v.ownBlock) := fun u B v h => (markT_any (m := 1) (by omega) (by omega) hsl h).mono fun e w' h => ⟨h.1, h.2.2⟩
  have MKN : Hid (∀ (u : World) (B : Nat) (v : Value), Strs u B v gs → Calls Tryd.prog 24 #[v, .int .i64 1] u fun e w' => e = .returned (.int .i64 ((1 + gs.length : Nat) : Int)) ∧ Strs w' B v (seqT 1 gs.length) ∧ u.grownBy w' v.ownBlock) := fun u B v h => markT_any (m := 1) (by omega) (by omega) (by omega) h
  have HDN : Hid (∀ (u : World) (B : Nat) (v : Value), Strs u B v (seqT 1 gs.length) → Calls Tryd.prog 25 #[v, .int .i64 1] u fun e w' => e = .returned (.int .i64 ((1 + gs.length : Nat) : Int)) ∧ Below u.heap.size u w') := fun u B v h => heldT_any (m := 1) (n := gs.length) (by omega) (by omega) (by omega) h
  obtain ⟨tt, HTT⟩ : ∃ tt : Nat, Hid (1 + gs.length = tt) := ⟨_, rfl⟩
  have htt : tt ≤ 1000000 := by rw [← HTT.out]; omega
  have htt0 : ¬ (tt : Int) < 0 := by omega
  rw [HTT.out] at MKN HDN
  obtain ⟨kq, HKQ⟩ : ∃ kq : Nat, Hid (1 + ss.length = kq) := ⟨_, rfl⟩
  have hkq0 : ¬ (kq : Int) < 0 := by omega
  have hkq1 : kq ≤ 4000000 := by rw [← HKQ.out]; omega
  rw [HKQ.out] at MKS
  clear HA HGS HOK hg40 HTT HKQ hbd
  generalize szSA ss 1048576 = sz at *
  go_enter Tryd.func6, Tryd.ntmps6
  go_wp2_with fail
  refine SZ.mono ?_
  rintro e w2 ⟨rfl, b2⟩
  have HB2 : Hid (Below w.heap.size w w2) := b2
  have T1 := HT.out w2 b2
  clear SZ b2
  go_wp2_with fail
  refine T1.mono ?_
  rintro e w25 ⟨g25, rfl, s25, b25⟩
  have SP := HSP.out w25 _ _ s25
  have HB25 : Hid (Below w2.heap.size w2 w25) := b25
  clear T1 s25 b25
  go_wp2_with fail
  refine SP.mono ?_
  rintro e w3 ⟨u6, rfl, r30, b30⟩
  have r3 : Strs w3 w2.heap.size u6 gs := strsE_low r30 HB25.out.size
  have b3 : Below w2.heap.size w2 w3 := HB25.out.trans (b30.mono HB25.out.size)
  clear SP r30 b30 HB25
  obtain ⟨a3, c3, hv3⟩ := strs_formB r3
  subst hv3
  have HC3 : Hid (Below w2.heap.size w2 w3) := b3
  have HB3 : Hid (Below w.heap.size w w3) := HB2.out.trans (b3.mono HB2.out.size)
  have HW3 : Hid (Strs w3 w2.heap.size (.slice a3 gs.length c3) gs) := r3
  have HWB : Hid (∀ j, (Value.slice a3 gs.length c3).ownBlock = some j → j < w3.heap.size) := fun j hj => (World.ownsRow.lt r3 j hj).2
  have T3 := HT.out w3 HB3.out
  have hw23 := b3.size
  have hw02 := HB2.out.size
  clear b3 r3
  go_wp2_with fail
  refine T3.mono ?_
  rintro e w4 ⟨g4, rfl, s4, b4⟩
  have HB4 : Hid (Below w.heap.size w w4) := HB3.out.trans (b4.mono HB3.out.size)
  have HC4 : Hid (Below w2.heap.size w2 w4) := HC3.out.trans (b4.mono HC3.out.size)
  have HS4 : Hid (Strs w4 w3.heap.size (.slice (some ⟨g4, 0, none⟩) len len) ss) := s4
  have HW4 : Hid (Strs w4 w2.heap.size (.slice a3 gs.length c3) gs) := HW3.out.below b4
  have hg4 := World.ownsRow.lt s4 g4 rfl
  have hw34 := b4.size
  have IM := HIM.out w4 _ _ HB4.out s4
  clear T3 s4 b4 HB3 HC3 HW3
  go_wp2_with fail
  refine IM.mono ?_
  rintro e w5 ⟨v5, rfl, r5, b5⟩
  obtain ⟨a5, c5, rfl⟩ := strs_formB r5
  have HB5 : Hid (Below w.heap.size w w5) := HB4.out.trans (b5.mono HB4.out.size)
  have HS5 : Hid (Strs w5 w3.heap.size (.slice (some ⟨g4, 0, none⟩) len len) ss) := HS4.out.below b5
  have HW5 : Hid (Strs w5 w2.heap.size (.slice a3 gs.length c3) gs) := HW4.out.below b5
  have HR5 : Hid (Strs w5 w4.heap.size (.slice a5 gs.length c5) gs) := r5
  have EQ := EQN.out w5 _ _ _ _ r5 HW5.out
  have hw45s := b5.size
  clear IM b5 r5 HB4 HS4 HW4
  go_wp2_with fail
  refine EQ.mono ?_
  rintro e w6 ⟨rfl, b6⟩
  have HB6 : Hid (Below w.heap.size w w6) := HB5.out.trans (b6.mono HB5.out.size)
  have HS6 : Hid (Strs w6 w3.heap.size (.slice (some ⟨g4, 0, none⟩) len len) ss) := HS5.out.below b6
  have HW6 : Hid (Strs w6 w2.heap.size (.slice a3 gs.length c3) gs) := HW5.out.below b6
  have HR6 : Hid (Strs w6 w4.heap.size (.slice a5 gs.length c5) gs) := HR5.out.below b6
  have T6 := HT.out w6 HB6.out
  clear EQ b6 HB5 HS5 HW5 HR5
  go_wp2_with fail
  refine T6.mono ?_
  rintro e w7 ⟨g7, rfl, s7, b7⟩
  have HB7 : Hid (Below w.heap.size w w7) := HB6.out.trans (b7.mono HB6.out.size)
  have HS7 : Hid (Strs w7 w3.heap.size (.slice (some ⟨g4, 0, none⟩) len len) ss) := HS6.out.below b7
  have HW7 : Hid (Strs w7 w2.heap.size (.slice a3 gs.length c3) gs) := HW6.out.below b7
  have HR7 : Hid (Strs w7 w4.heap.size (.slice a5 gs.length c5) gs) := HR6.out.below b7
  have EQ := EQS.out w7 _ _ _ _ HS7.out s7
  clear T6 s7 b7 HB6 HS6 HW6 HR6
  go_wp2_with fail
  refine EQ.mono ?_
  rintro e w8 ⟨rfl, b8⟩
  have HB8 : Hid (Below w.heap.size w w8) := HB7.out.trans (b8.mono HB7.out.size)
  have HS8 : Hid (Strs w8 w3.heap.size (.slice (some ⟨g4, 0, none⟩) len len) ss) := HS7.out.below b8
  have HW8 : Hid (Strs w8 w2.heap.size (.slice a3 gs.length c3) gs) := HW7.out.below b8
  have HR8 : Hid (Strs w8 w4.heap.size (.slice a5 gs.length c5) gs) := HR7.out.below b8
  have MT := MKS.out w8 _ _ HS8.out
  clear EQ b8 HB7 HS7 HW7 HR7
  go_wp2_with fail
  refine MT.mono ?_
  rintro e w9 ⟨rfl, g9⟩
  have g9' : w8.grownBy w9 (some g4) := g9
  have HB9 : Hid (Below w.heap.size w w9) := Below.grown HB8.out g9' HB8.out.size (fun j hj => by have := Option.some.inj hj; omega)
  have HW9 : Hid (Strs w9 w2.heap.size (.slice a3 gs.length c3) gs) := strsDr_keep HW8.out g9' (fun j hj e => by have := Option.some.inj e; have := HWB.out j hj; omega)
  have HR9 : Hid (Strs w9 w4.heap.size (.slice a5 gs.length c5) gs) := strsDr_keep HR8.out g9' (fun j hj e => by have := Option.some.inj e; have := (World.ownsRow.lt HR8.out j hj).1; omega)
  have EQ := EQN.out w9 _ _ _ _ HR9.out HW9.out
  clear MT g9 g9' HB8 HS8 HW8 HR8
  go_wp2_with fail
  refine EQ.mono ?_
  rintro e w10 ⟨rfl, b10⟩
  have HB10 : Hid (Below w.heap.size w w10) := HB9.out.trans (b10.mono HB9.out.size)
  have HW10 : Hid (Strs w10 w2.heap.size (.slice a3 gs.length c3) gs) := HW9.out.below b10
  have HR10 : Hid (Strs w10 w4.heap.size (.slice a5 gs.length c5) gs) := HR9.out.below b10
  have MK := MKN.out w10 _ _ HR10.out
  clear EQ b10 HB9 HW9 HR9
  go_wp2_with fail
  refine MK.mono ?_
  rintro e w11 ⟨rfl, r11, m11⟩
  have HR11 : Hid (Strs w11 w4.heap.size (.slice a5 gs.length c5) (seqT 1 gs.length)) := r11
  have HW11 : Hid (Strs w11 w2.heap.size (.slice a3 gs.length c3) gs) := strsDr_keep HW10.out m11 (fun j hj e => by have h5 := (World.ownsRow.lt HR10.out j e).1; have h6 := HWB.out j hj; omega)
  have HB11 : Hid (Below w.heap.size w w11) := Below.grown HB10.out m11 HB10.out.size (fun j hj => by have h5 := (World.ownsRow.lt HR10.out j hj).1; omega)
  have HD := HDN.out w11 _ _ HR11.out
  clear MK r11 m11 HB10 HW10 HR10
  go_wp2_with fail
  refine HD.mono ?_
  rintro e w12 ⟨rfl, b12⟩
  have HB12 : Hid (Below w.heap.size w w12) := HB11.out.trans (b12.mono HB11.out.size)
  have HW12 : Hid (Strs w12 w2.heap.size (.slice a3 gs.length c3) gs) := HW11.out.below b12
  have HR12 : Hid (Strs w12 w4.heap.size (.slice a5 gs.length c5) (seqT 1 gs.length)) := HR11.out.below b12
  have T12 := HT.out w12 HB12.out
  clear HD b12 HR11 HW11 HB11
  go_wp2_with fail
  refine T12.mono ?_
  rintro e w13 ⟨g13, rfl, s13, b13⟩
  have HB13 : Hid (Below w.heap.size w w13) := HB12.out.trans (b13.mono HB12.out.size)
  have HW13 : Hid (Strs w13 w2.heap.size (.slice a3 gs.length c3) gs) := HW12.out.below b13
  have HR13 : Hid (Strs w13 w4.heap.size (.slice a5 gs.length c5) (seqT 1 gs.length)) := HR12.out.below b13
  have IM := HIM.out w13 _ _ HB13.out s13
  clear T12 b13 s13 HR12 HW12 HB12
  go_wp2_with fail
  refine IM.mono ?_
  rintro e w14 ⟨v14, rfl, r14, b14⟩
  obtain ⟨a14, c14, rfl⟩ := strs_formB r14
  have HB14 : Hid (Below w.heap.size w w14) := HB13.out.trans (b14.mono HB13.out.size)
  have HW14 : Hid (Strs w14 w2.heap.size (.slice a3 gs.length c3) gs) := HW13.out.below b14
  have HR14 : Hid (Strs w14 w4.heap.size (.slice a5 gs.length c5) (seqT 1 gs.length)) := HR13.out.below b14
  have EQ := EQN.out w14 _ _ _ _ r14 HW14.out
  clear r14 b14 HR13 HW13 HB13 IM
  go_wp2_with fail
  refine EQ.mono ?_
  rintro e w15 ⟨rfl, b15⟩
  have HB15 : Hid (Below w.heap.size w w15) := HB14.out.trans (b15.mono HB14.out.size)
  have HR15 : Hid (Strs w15 w4.heap.size (.slice a5 gs.length c5) (seqT 1 gs.length)) := HR14.out.below b15
  have HD := HDN.out w15 _ _ HR15.out
  clear EQ b15 HR14 HB14 HW14
  go_wp2_with fail
  refine HD.mono ?_
  rintro e w16 ⟨rfl, b16⟩
  have HB16 : Hid (Below w.heap.size w w16) := HB15.out.trans (b16.mono HB15.out.size)
  clear HD b16 HB15
  go_wp2
  go_ret
  exact ⟨rfl, HB16.out⟩
end Go.Proofs.YticogafoopkflaaDoor
