/- Contract of the program's PutInPages. -/
import Derived.Test.YticogafoopkflaaDoorIFor6
import Derived.Test.YticogafoopkflaaDoorIBook6
import Derived.Test.YticogafoopkflaaDoorIPage6
import Derived.Test.YticogafoopkflaaDoorIWith6
import Derived.Test.YticogafoopkflaaDoorIPart6
import Derived.Test.YticogafoopkflaaDoorIBytes6
import Derived.Test.YticogafoopkflaaDoorRepl6b
import Derived.Test.YticogafoopkflaaDoorPPutA
import Derived.Test.YticogafoopkflaaDoorSPart6
import Derived.Deep.RegionLaw
namespace Go.Proofs.YticogafoopkflaaDoor
open Go.RowKit

/-- One text, laid just now. -/
theorem strs_lit1 (w : World) (n B : Nat) (s : ByteArray) (hn : n = w.heap.size) (hB : B ≤ w.heap.size) : Strs (w.alloc (.cells #[.string s] 9)) B (.slice (some ⟨n, 0, none⟩) 1 1) [s] := by
  subst hn
  exact ⟨rfl, .inr ⟨w.heap.size, 1, _, rfl, hB, heap_alloc_new _ _, Nat.le_refl _, by unfold maxLen; omega, rfl, rfl⟩⟩

theorem row_low {w : World} {B B' n s : Nat} {t : TypeId} {v : Value} {vs : List Value} (h : w.ownsRow B t s v n vs) (hb : B' ≤ B) : w.ownsRow B' t s v n vs := by
  refine ⟨h.1, ?_⟩
  rcases h.2 with h0 | ⟨g, cap, cur, q1, q2, q3⟩
  · exact .inl h0
  · exact .inr ⟨g, cap, cur, q1, Nat.le_trans hb q2, q3⟩

theorem ownT_low {w : World} {B B' : Nat} {v : Value} {gs : List (List Rw)} {vs : List Value} (h : OwnT w B v gs vs) (hb : B' ≤ B) : OwnT w B' v gs vs := ⟨row_low h.1 hb, h.2⟩
theorem strs_low {w : World} {B B' : Nat} {v : Value} {ss : List ByteArray} (h : Strs w B v ss) (hb : B' ≤ B) : Strs w B' v ss := row_low h hb

theorem rws_cap {w : World} {B c : Nat} {a : Option Addr} {l : List Rw} (h : Rws w B (.slice a l.length c) l) : l.length ≤ c ∧ c ≤ 9223372036854775807 := by
  rcases h.form with ⟨q, rfl⟩ | ⟨g, cap, q, h1, h2⟩
  · injection q with _ q2 q3
    subst q3
    simp
  · injection q with _ _ q3
    subst q3
    unfold maxLen at h2
    omega

set_option maxRecDepth 100000 in
set_option maxHeartbeats 8000000 in
theorem implPut_any {w : World} {B : Nat} {vp : Value} {ss : List ByteArray} (x : Rw) (hS : Strs w B vp ss) (hz : ∀ s ∈ ss, s.size ≤ 1048576) (hl : ss.length ≤ 1048576) {ty : TypeId} {pv : Value} (hg : ErrG w ty pv) :
    Calls Tryd.prog 14 #[vp, rwV x] w fun e w' => ∃ v', e = .returned (.tuple #[v', .bool (putA ss x).isSome]) ∧ Strs w' w.heap.size v' ((putA ss x).getD []) ∧ Below w.heap.size w w' := by
  unfold rwV
  have hba := (Below.refl w.heap.size w).alloc (Nat.le_refl _) (.cells #[.string x.key, .string x.text, .string x.val] 32)
  have HX : Hid (BoxR6 (w.alloc (.cells #[.string x.key, .string x.text, .string x.val] 32)) w.heap.size x) := box_new6 w x
  have HB : Hid (Below _ _ _) := hba
  have BK := openBook_any (hS.below hba) hz hl (show ErrG _ ty pv from (hba.cell (p := ⟨0, 0, none⟩) hg.lt).trans hg)
  obtain ⟨a, c, rfl, _⟩ := strs6_all hS
  obtain ⟨R, HR⟩ : ∃ R, Hid (putA ss x = R) := ⟨_, rfl⟩
  rw [HR.out]
  have HPB : Hid (∀ u : World, Calls Tryd.prog 41 #[.slice (some ⟨u.heap.size, 0, none⟩) 1 1] (u.alloc (.cells #[.string x.key, .string x.text, .string x.val] 32)) fun e w' => e = .returned (.tuple #[.string (pbT [x]), .bool (okPB [x])]) ∧ Below u.heap.size u w') := fun u => by
    have q := implPB_any (cap := 1) (rws_sl (rws_lit1 u _ u.heap.size x rfl (Nat.le_refl _) : Rws _ _ (.slice _ [x].length 1) [x])) (by simp)
    refine Calls.mono q ?_
    rintro e w' ⟨rfl, b⟩
    have b1 := (Below.refl u.heap.size u).alloc (Nat.le_refl _) (.cells #[.string x.key, .string x.text, .string x.val] 32)
    exact ⟨rfl, b1.trans (b.mono b1.size)⟩
  clear hS hz hg hba
  cases hbk : bookF ss with
  | none =>
    have HA : Hid (R = none) := by show _ = _; rw [← HR.out]; exact putA_bad hbk
    rw [hbk] at BK
    clear hbk
    generalize okPB [x] = ok at *
    go_enter Tryd.func14, Tryd.ntmps14
    go_wp2_with fail
    refine BK.mono ?_
    rintro e w2 ⟨v2, rfl, _, b2⟩
    obtain ⟨x0, x1, x2⟩ := (HX.out.below b2).cells
    have hxl := (HX.out.below b2).lt
    have HB2 : Hid (Below w.heap.size w w2) := HB.out.trans (b2.mono HB.out.size)
    have PB := HPB.out w2
    clear BK HX HB b2 HPB
    go_wp2_with fail
    refine PB.mono ?_
    rintro e w3 ⟨rfl, b3⟩
    have HB3 : Hid (Below w.heap.size w w3) := HB2.out.trans (b3.mono HB2.out.size)
    clear PB b3 HB2
    go_wp2
    go_ret2
    rw [HA.out]
    exact ⟨_, rfl, World.ownsRow_nil _ _ _ _, HB3.out⟩
  | some gs =>
    rw [hbk] at BK
    have HBK : Hid (bookF ss = some gs) := hbk
    obtain ⟨hgl, hg60⟩ := bookF_is hbk
    have HG60 : Hid (∀ l ∈ gs, 0 < l.length ∧ l.length ≤ 1048576) := fun l hl => ⟨(bookF_good hbk l hl).2, by have := hg60 l hl; omega⟩
    have HBO : Hid (Book gs ∧ (∀ g ∈ gs, lnP g ≤ 300) ∧ gs.length ≤ 40) := bookF_book hbk
    clear hg60 hbk
    cases hok : okPB [x] with
    | false =>
      have HA : Hid (R = none) := by show _ = _; rw [← HR.out]; exact putA_no hok
      rw [hok] at HPB
      clear hok HBK HBO
      go_enter Tryd.func14, Tryd.ntmps14
      go_wp2_with fail
      refine BK.mono ?_
      rintro e w2 ⟨v2, rfl, _, b2⟩
      obtain ⟨x0, x1, x2⟩ := (HX.out.below b2).cells
      have hxl := (HX.out.below b2).lt
      have HB2 : Hid (Below w.heap.size w w2) := HB.out.trans (b2.mono HB.out.size)
      have PB := HPB.out w2
      clear BK HX HB b2 HPB
      go_wp2_with fail
      refine PB.mono ?_
      rintro e w3 ⟨rfl, b3⟩
      have HB3 : Hid (Below w.heap.size w w3) := HB2.out.trans (b3.mono HB2.out.size)
      clear PB b3 HB2
      go_wp2
      go_ret2
      rw [HA.out]
      exact ⟨_, rfl, World.ownsRow_nil _ _ _ _, HB3.out⟩
    | true =>
      have HOK : Hid (okPB [x] = true) := hok
      have HPG : Hid (pbT [x] = pgB [x]) := pbT_pg hok
      rw [hok] at HPB
      clear hok
      by_cases h0 : gs.length = 0
      · have HA : Hid (R = some [pgB [x]]) := by show _ = _; rw [← HR.out]; exact putA_one HBK.out HOK.out h0
        rw [HPG.out] at HPB
        obtain rfl : gs = [] := List.eq_nil_of_length_eq_zero h0
        clear HBK HBO HG60 hgl h0
        generalize pgB [x] = pg at *
        go_enter Tryd.func14, Tryd.ntmps14
        go_wp2_with fail
        refine BK.mono ?_
        rintro e w2 ⟨v2, rfl, hN, b2⟩
        obtain ⟨vs, N2⟩ := hN [] rfl
        obtain ⟨a2, c2, rfl, _⟩ := N2.form
        obtain ⟨x0, x1, x2⟩ := (HX.out.below b2).cells
        have hxl := (HX.out.below b2).lt
        have HB2 : Hid (Below w.heap.size w w2) := HB.out.trans (b2.mono HB.out.size)
        have PB := HPB.out w2
        clear BK HX HB b2 HPB hN N2
        go_wp2_with fail
        refine PB.mono ?_
        rintro e w3 ⟨rfl, b3⟩
        have HB3 : Hid (Below w.heap.size w w3) := HB2.out.trans (b3.mono HB2.out.size)
        have HS3 : Hid (Strs (w3.alloc (.cells #[.string pg] 9)) w.heap.size (.slice (some ⟨w3.heap.size, 0, none⟩) 1 1) [pg]) := strs_lit1 w3 _ _ pg rfl HB3.out.size
        have HB4 : Hid (Below w.heap.size w (w3.alloc (.cells #[.string pg] 9))) := HB3.out.alloc HB3.out.size _
        clear PB b3 HB2 HB3
        go_wp2
        go_ret2
        rw [HA.out]
        exact ⟨_, rfl, HS3.out, HB4.out⟩
      · obtain ⟨l, hal, hla, hlr, hl0, hl59, hRB, hRI, hi0, hi60, hi1, hp0, hp60, hput⟩ := put_page HBO.out.1 HBO.out.2.1 h0 HOK.out
        have hx1 := okPB_sz HOK.out
        have HPB2 : Hid (Book (putG gs x)) := putG_book HBO.out.1 HBO.out.2.1 h0 hx1.2.1 hx1.2.2
        have HPU : Hid (putG gs x = gs.take (atP gs x.key) ++ (partF (insR l x) ++ gs.drop (atP gs x.key + 1))) := hput
        have HPL : Hid ((pageF gs x.key).1 = plF gs x.key) := pageF_pl HBO.out.1 x.key
        obtain ⟨hpp, _⟩ := pageF_le gs x.key
        obtain ⟨P, HP⟩ : ∃ P, Hid (pageF gs x.key = P) := ⟨_, rfl⟩
        obtain ⟨A, HAA⟩ : ∃ A, Hid (atP gs x.key = A) := ⟨_, rfl⟩
        have HAM : Hid (min P.1 (gs.length - 1) = A) := by show _ = _; rw [← HP.out, HPL.out]; exact HAA.out
        rw [HAA.out] at hal hla HPU
        rw [HP.out] at hpp
        have HPF : Hid (∀ (u : World) (lo : Nat) (v : Value) (vs : List Value), NestR u lo u.heap.size v gs vs → Calls Tryd.prog 35 #[v, .string x.key] u fun e w' => e = .returned (.tuple #[.int .i64 (P.1 : Int), .int .i64 (P.2 : Int)]) ∧ w' = u) := fun u lo v vs h => by
          have q := pageFor_any x.key h (by omega) HG60.out
          rw [HP.out] at q
          exact q
        have HWR : Hid (∀ (u : World) (al : Option Addr) (cl : Nat), SlRw u al l → l.length ≤ cl → cl ≤ 9223372036854775807 → Calls Tryd.prog 44 #[.slice al l.length cl, .agg #[.string x.key, .string x.text, .string x.val]] u fun e w' => ∃ v, e = .returned v ∧ Rws w' u.heap.size v (insR l x) ∧ Below u.heap.size u w') := fun u al cl h1 h2 h3 => withRow_any x h1 hl0 h2 h3 (by omega) hlr
        obtain ⟨L, HL⟩ : ∃ L, Hid (insR l x = L) := ⟨_, rfl⟩
        rw [HL.out] at hRI hi0 hi60 hi1 hp0 hp60 HPU HWR
        have HPR : Hid (∀ (u : World) (al : Option Addr) (cl : Nat), SlT u al L → L.length ≤ cl → cl ≤ 9223372036854775807 → Calls Tryd.prog 43 #[.slice al L.length cl] u fun e w' => ∃ v vs, e = .returned v ∧ OwnT w' u.heap.size v (partF L) vs ∧ Below u.heap.size u w') := fun u al cl h1 h2 h3 => partRows_any h1 h2 h3 hRI hi0 hi1
        obtain ⟨ps, HPS⟩ : ∃ ps, Hid (partF L = ps) := ⟨_, rfl⟩
        rw [HPS.out] at hp0 hp60 HPU HPR
        obtain ⟨G, HGG⟩ : ∃ G, Hid (putG gs x = G) := ⟨_, rfl⟩
        rw [HGG.out] at HPU HPB2
        have HSZ : Hid (∀ g ∈ G, g.length ≤ 60) := fun g hg => goodR_len (HPB2.out.good g hg).1
        have hGl : G.length ≤ 100 := by
          have h40 := HBO.out.2.2
          rw [HPU.out]
          simp
          omega
        have HCR : Hid (∀ (u : World) (v : Value), BkV u v G → Calls Tryd.prog 45 #[v] u fun e w' => e = .returned (.int .i64 (G.flatten.length : Int)) ∧ w' = u) := fun u v h => countRows_any h (by omega) (fun g hg => by have := HSZ.out g hg; omega)
        have HBY : Hid (∀ (u : World) (v : Value), BkV u v G → Calls Tryd.prog 29 #[v] u fun e w' => ∃ v', e = .returned (.tuple #[v', .bool (ansG G).isSome]) ∧ Strs w' u.heap.size v' ((ansG G).getD []) ∧ Below u.heap.size u w') := fun u v h => by
          have q := bytes_any h (by omega) (fun g hg => by have := HSZ.out g hg; omega)
          rw [bytF_book HPB2.out] at q
          exact q
        have HRE : Hid (R = if G.flatten.length ≤ 60 then ansG G else none) := by
          show _ = _
          rw [← HR.out, ← HGG.out]
          by_cases hf : (putG gs x).flatten.length ≤ 60
          · rw [if_pos hf]; exact putA_more HBK.out HOK.out h0 hf
          · rw [if_neg hf]; exact putA_full HBK.out HOK.out h0 hf
        have hFL : G.flatten.length ≤ 255 * G.length := by
          have q := totC_le (gs := G) (fun g hg => by have := HSZ.out g hg; omega) G.length
          unfold totC at q
          rw [List.take_length] at q
          exact q
        obtain ⟨fl, HFL⟩ : ∃ fl, Hid (G.flatten.length = fl) := ⟨_, rfl⟩
        rw [HFL.out] at HCR HRE hFL
        have hgs40 : gs.length ≤ 40 := HBO.out.2.2
        have hA8 : (A : Int) < (gs.length : Int) := by omega
        have hgn0 : ¬ (gs.length : Int) = 0 := by omega
        obtain ⟨n1, hn1⟩ : ∃ n1, gs.length - 1 = n1 := ⟨_, rfl⟩
        have hm1 : (gs.length : Int) - 1 = (n1 : Int) := by omega
        obtain ⟨p, lk⟩ := P
        simp only [] at hpp HPF
        have hAM : min p n1 = A := by rw [← hn1]; exact HAM.out
        have HLA : Hid (gs[A]? = some l) := hla
        clear HR HBK HBO HOK HPG HG60 HPL HP HAA HAM hlr hRB hRI hi1 hx1 hput HL HPS HGG HFL HSZ HPB2 hla
        go_enter Tryd.func14, Tryd.ntmps14
        go_wp2_with fail
        refine BK.mono ?_
        rintro e w2 ⟨v2, rfl, hN, b2⟩
        obtain ⟨vs, N2⟩ := hN gs rfl
        obtain ⟨a2, c2, rfl, fm⟩ := N2.form
        have X2 := HX.out.below b2
        obtain ⟨x0, x1, x2⟩ := X2.cells
        have hxl := X2.lt
        have HX2 : Hid (BoxR6 w2 w.heap.size x) := X2
        have HB2 : Hid (Below w.heap.size w w2) := HB.out.trans (b2.mono HB.out.size)
        have HN2 : Hid (NestR w2 _ w2.heap.size (.slice a2 gs.length c2) gs vs) := N2
        have PB := HPB.out w2
        clear BK HX HB b2 HPB hN X2 N2 fm
        go_wp2_with fail
        refine PB.mono ?_
        rintro e w3 ⟨rfl, b3⟩
        have X3 := HX2.out.below b3
        obtain ⟨y0, y1, y2⟩ := X3.cells
        have hyl := X3.lt
        have HB3 : Hid (Below w.heap.size w w3) := HB2.out.trans (b3.mono HB2.out.size)
        have N3 := (HN2.out.below b3).high b3.size (Nat.le_refl _)
        have PF := HPF.out w3 _ _ _ N3
        obtain ⟨a3, c3, hv3, fm⟩ := N3.form
        injection hv3 with q1 _ q3
        subst q1
        subst q3
        obtain ⟨vl, hvl, hI, _⟩ := N3.ins A l HLA.out
        obtain ⟨gb, rfl, hgb0, hgb1, cb, _⟩ := fm A _ hvl
        obtain ⟨al, cl, rfl⟩ := rw_form hI
        obtain ⟨hlc1, hlc2⟩ := rws_cap hI
        have hcb := rw_cell_lt cb
        have HI3 : Hid (SlRw w3 al l) := rws_sl hI
        have HO3 : Hid (OwnT w3 _ (.slice (some ⟨gb, 0, none⟩) gs.length c2) gs vs) := N3.ownT
        have hgbw : w.heap.size ≤ gb := by simp at hgb0; omega
        clear PB b3 HB2 HPF HN2 HX2 x0 x1 x2 hxl X3 N3 fm hvl hI
        have hw3 := HB3.out.size
        have hwr : IntKind.i64.wrap ((A : Int) + 1) = (A : Int) + 1 := by rw [IntKind.wrap_i64]; omega
        have HRP : Hid (∀ (u : World) (B' : Nat) (vp : Value) (vsp : List Value), OwnT u w.heap.size (.slice (some ⟨gb, 0, none⟩) gs.length c2) gs vs → OwnT u B' vp ps vsp → (∀ gp, vp.ownBlock = some gp → gp ≠ gb) → w.heap.size ≤ u.heap.size → Calls Tryd.prog 42 #[.slice (some ⟨gb, 0, none⟩) gs.length c2, .int .i64 (A : Int), .int .i64 ((A : Int) + 1), vp] u fun e w' => ∃ v' vs', e = .returned v' ∧ OwnT w' w.heap.size v' G vs' ∧ u.grownBy w' (some gb)) := fun u B' vp vsp h1 h2 h3 h4 => by
          refine Calls.mono (replace_any h1 h2 h3 hal hp0 (by omega) h4) ?_
          rintro e w' ⟨v', rfl, q1, q2⟩
          rw [← HPU.out] at q1
          exact ⟨v', _, rfl, q1, q2⟩
        have HO4 : Hid (OwnT w3 w.heap.size (.slice (some ⟨gb, 0, none⟩) gs.length c2) gs vs) := ownT_low HO3.out (by simp)
        clear HO3 HPU
        have hmin : min (p : Int) (n1 : Int) = (A : Int) := by rw [← hAM]; omega
        go_wp2_with fail
        refine PF.mono ?_
        rintro e w4 ⟨rfl, rfl⟩
        clear PF hAM
        go_upto_region 9 with fail
        go_cut [6] from 46 to 57 (fun v6 wx => ∃ vs6, OwnT wx w.heap.size v6 G vs6 ∧ Below w.heap.size w wx)
        case first =>
          go_region_law (first
            | (go_simp; go_at_call 44; refine (HWR.out _ al cl (slRw_heap HI3.out (by rfl)) hlc1 hlc2).mono ?_; rintro e w5 ⟨v5, rfl, r5, q5⟩; obtain ⟨a5, c5, rfl⟩ := rw_form r5; have b5 : Below w4.heap.size w4 w5 := ⟨q5.os, q5.tape, q5.output, q5.size, q5.block⟩; have hc5 := rws_cap r5; have t5 : SlT w5 a5 L := Rws.slT r5; have o5 := HO4.out.below b5; clear r5 q5)
            | (go_simp; go_at_call 43; refine (HPR.out _ a5 c5 (slT_heap t5 (by rfl)) hc5.1 hc5.2).mono ?_; rintro e w6 ⟨v6, vs6, rfl, p6, q6⟩; have b6 : Below w5.heap.size w5 w6 := ⟨q6.os, q6.tape, q6.output, q6.size, q6.block⟩; have o6 := o5.below b6; have hne6 : ∀ gp, v6.ownBlock = some gp → gp ≠ gb := fun gp h e => by have h1 := (World.ownsRow.lt p6.1 gp h).1; have h2 := b5.size; have h3 : w5.heap.size ≤ gp := h1; omega)
            | (go_simp; go_at_call 42; refine (HRP.out _ _ v6 vs6 (ownT_heap o6 (by rfl)) (ownT_heap p6 (by rfl)) hne6 (Nat.le_trans hw3 (Nat.le_trans b5.size b6.size))).mono ?_; rintro e w7 ⟨v7, vs7, rfl, o7, q7⟩; have g7 : w6.grownBy w7 (some gb) := ⟨q7.os, q7.tape, q7.output, q7.size, q7.block⟩))
          all_goals
            have bb : Below w.heap.size w w6 := (HB3.out.trans (b5.mono HB3.out.size)).trans (b6.mono (Nat.le_trans HB3.out.size b5.size))
            have hb7 : Below w.heap.size w w7 := Below.grown bb g7 bb.size (fun j hj => by have := Option.some.inj hj; omega)
            go_wp2_with fail
            go_meet
            case rel => exact ⟨_, o7, hb7⟩
        case rest =>
          obtain ⟨vs6, o6, b6⟩ := hcut
          have CR := HCR.out wc u6 o6.bk
          have BY := HBY.out wc u6 o6.bk
          have HB6 : Hid (Below w.heap.size w wc) := b6
          clear o6 b6 HCR HBY HRP HO4 HWR HPR HB3 HI3
          by_cases hf : fl ≤ 60
          · have hf8 : ¬ (60 : Int) < (fl : Int) := by omega
            rw [if_pos hf] at HRE
            clear hf
            generalize ansG G = ans at *
            go_wp2_with fail
            refine CR.mono ?_
            rintro e w7 ⟨rfl, rfl⟩
            clear CR
            go_wp2_with fail
            refine BY.mono ?_
            rintro e w8 ⟨v8, rfl, s8, b8⟩
            have HB8 : Hid (Below w.heap.size w w8) := HB6.out.trans (b8.mono HB6.out.size)
            have HS8 : Hid (Strs w8 w.heap.size v8 (ans.getD [])) := strs_low s8 HB6.out.size
            clear BY s8 b8
            go_wp2
            go_ret2
            rw [HRE.out]
            exact ⟨_, rfl, HS8.out, HB8.out⟩
          · have hf8 : (60 : Int) < (fl : Int) := by omega
            rw [if_neg hf] at HRE
            clear hf BY
            go_wp2_with fail
            refine CR.mono ?_
            rintro e w7 ⟨rfl, rfl⟩
            clear CR
            go_wp2
            go_ret2
            rw [HRE.out]
            exact ⟨_, rfl, World.ownsRow_nil _ _ _ _, HB6.out⟩
end Go.Proofs.YticogafoopkflaaDoor
