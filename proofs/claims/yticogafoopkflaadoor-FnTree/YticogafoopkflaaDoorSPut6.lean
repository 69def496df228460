/- Contract of the specification's PutInPages. -/
import Derived.Test.YticogafoopkflaaDoorAppT6
import Derived.Test.YticogafoopkflaaDoorSBook6
import Derived.Test.YticogafoopkflaaDoorSGood6
import Derived.Test.YticogafoopkflaaDoorSTell6
import Derived.Test.YticogafoopkflaaDoorPPutA
import Derived.Test.YticogafoopkflaaDoorIPut6
namespace Go.Proofs.YticogafoopkflaaDoor
open Go.RowKit

theorem eqT6 {a b : ByteArray} (h : a = b) : (a.toList == b.toList) = true := by subst h; simp

/-- What is told of a book, where it may be one. -/
theorem ansG_tell {G : List (List Rw)} (hb : Book G) : (if G.flatten.length ≤ 60 then ansG G else none) = if (tellOk G && (bookF (G.map pgB)).isSome) = true then some (G.map pgB) else none := by
  rw [ansG_spec hb]
  cases h : ansG G with
  | none => simp
  | some ss =>
    obtain ⟨rfl, h40⟩ := ansG_some h
    unfold tellOk
    by_cases h60 : G.flatten.length ≤ 60
    · rw [if_pos h60, decide_eq_true h40, decide_eq_true h60]; rfl
    · rw [if_neg h60, decide_eq_false h60]; simp

/-- The three ways in which the place of a key may lie. -/
theorem place_three {l : List Rw} {key : ByteArray} (hr : Rise l) : ∃ d, d = (if thereF l key then placeF l key + 1 else placeF l key) ∧ ((placeF l key = l.length ∧ d = placeF l key) ∨ (∃ y, l[placeF l key]? = some y ∧ y.key ≠ key ∧ d = placeF l key) ∨ (∃ y, l[placeF l key]? = some y ∧ y.key = key ∧ d = placeF l key + 1)) := by
  refine ⟨_, rfl, ?_⟩
  obtain ⟨h1, _, _⟩ := placeF_is key hr
  cases ht : thereF l key
  · simp only [Bool.false_eq_true, if_false, and_true]
    by_cases e : placeF l key = l.length
    · exact .inl e
    · obtain ⟨y, hy⟩ : ∃ y, l[placeF l key]? = some y := ⟨_, List.getElem?_eq_getElem (by omega)⟩
      exact .inr (.inl ⟨y, hy, rowIn_not hr ht y (List.mem_of_getElem? hy)⟩)
  · simp only [if_true]
    have hp := (rowIn_there hr ht).2
    obtain ⟨y, hy⟩ : ∃ y, l[placeF l key]? = some y := ⟨_, List.getElem?_eq_getElem hp⟩
    refine .inr (.inr ⟨y, hy, ?_, trivial⟩)
    have h2 := ht
    unfold thereF at h2
    rw [Bool.and_eq_true, decide_eq_true_eq, decide_eq_true_eq, cmpK_zero, rwAt_of hy] at h2
    exact h2.2

theorem below_none {u w' : World} (g : u.grownBy w' none) : Below u.heap.size u w' := ⟨g.os, g.tape, g.output, g.size, fun k hk => g.block k hk (by simp)⟩

set_option maxRecDepth 100000 in
set_option maxHeartbeats 16000000 in
theorem specPut_any {w : World} {B : Nat} {vp : Value} {ss : List ByteArray} (x : Rw) (hS : Strs w B vp ss) (hz : ∀ s ∈ ss, s.size ≤ 1048576) (hl : ss.length ≤ 1048576) :
    Calls Tryd.prog 15 #[vp, rwV x] w fun e w' => ∃ v', e = .returned (.tuple #[v', .bool (putA ss x).isSome]) ∧ Strs w' w.heap.size v' ((putA ss x).getD []) ∧ Below w.heap.size w w' := by
  unfold rwV
  have hba := (Below.refl w.heap.size w).alloc (Nat.le_refl _) (.cells #[.string x.key, .string x.text, .string x.val] 32)
  have HX : Hid (BoxR6 (w.alloc (.cells #[.string x.key, .string x.text, .string x.val] 32)) w.heap.size x) := box_new6 w x
  have HB : Hid (Below _ _ _) := hba
  have BK := specAll_any (hS.below hba) hz hl
  obtain ⟨a, c, rfl, _⟩ := strs6_all hS
  obtain ⟨R, HR⟩ : ∃ R, Hid (putA ss x = R) := ⟨_, rfl⟩
  rw [HR.out]
  have HGR : Hid (∀ u : World, Calls Tryd.prog 30 #[.slice (some ⟨u.heap.size, 0, none⟩) 1 1] (u.alloc (.cells #[.string x.key, .string x.text, .string x.val] 32)) fun e w' => e = .returned (.bool (goodR [x])) ∧ Below u.heap.size u w') := fun u => by
    have q := specGR_any (cap := 1) (rws_sl (rws_lit1 u _ u.heap.size x rfl (Nat.le_refl _) : Rws _ _ (.slice _ [x].length 1) [x])) (by simp)
    refine Calls.mono q ?_
    rintro e w' ⟨rfl, b⟩
    have b1 := (Below.refl u.heap.size u).alloc (Nat.le_refl _) (.cells #[.string x.key, .string x.text, .string x.val] 32)
    exact ⟨rfl, b1.trans (b.mono b1.size)⟩
  clear hS hz hba
  cases hbk : bookF ss with
  | none =>
    have HA : Hid (R = none) := by show _ = _; rw [← HR.out]; exact putA_bad hbk
    rw [hbk] at BK
    clear hbk HGR
    go_enter Tryd.func15, Tryd.ntmps15
    go_wp2_with fail
    refine BK.mono ?_
    rintro e w2 ⟨v2, rfl, _, b2⟩
    have HB2 : Hid (Below w.heap.size w w2) := HB.out.trans (b2.mono HB.out.size)
    clear BK HX HB b2
    go_wp2
    go_ret2
    rw [HA.out]
    exact ⟨_, rfl, World.ownsRow_nil _ _ _ _, HB2.out⟩
  | some gs =>
    rw [hbk] at BK
    have HBK : Hid (bookF ss = some gs) := hbk
    obtain ⟨hgl, hg60⟩ := bookF_is hbk
    have HG60 : Hid (∀ l ∈ gs, 0 < l.length ∧ l.length ≤ 1048576) := fun l hl => ⟨(bookF_good hbk l hl).2, by have := hg60 l hl; omega⟩
    have HBO : Hid (Book gs ∧ (∀ g ∈ gs, lnP g ≤ 300) ∧ gs.length ≤ 40) := bookF_book hbk
    clear hg60 hbk
    cases hgd : goodR [x] with
    | false =>
      have HA : Hid (R = none) := by show _ = _; rw [← HR.out]; exact putA_no (by rw [okPB_one, hgd]; rfl)
      rw [hgd] at HGR
      clear hgd HBK HBO HG60
      go_enter Tryd.func15, Tryd.ntmps15
      go_wp2_with fail
      refine BK.mono ?_
      rintro e w2 ⟨v2, rfl, _, b2⟩
      obtain ⟨x0, x1, x2⟩ := (HX.out.below b2).cells
      have hxl := (HX.out.below b2).lt
      have HB2 : Hid (Below w.heap.size w w2) := HB.out.trans (b2.mono HB.out.size)
      have GR := HGR.out w2
      clear BK HX HB b2 HGR
      go_wp2_with fail
      refine GR.mono ?_
      rintro e w3 ⟨rfl, b3⟩
      have HB3 : Hid (Below w.heap.size w w3) := HB2.out.trans (b3.mono HB2.out.size)
      clear GR b3 HB2
      go_wp2
      go_ret2
      rw [HA.out]
      exact ⟨_, rfl, World.ownsRow_nil _ _ _ _, HB3.out⟩
    | true =>
      have HGD : Hid (goodR [x] = true) := hgd
      have hRB1 : RwB [x] := goodR_RwB hgd
      have HPG : Hid (∀ u : World, Calls Tryd.prog 47 #[.slice (some ⟨u.heap.size, 0, none⟩) 1 1] (u.alloc (.cells #[.string x.key, .string x.text, .string x.val] 32)) fun e w' => e = .returned (.string (pgB [x])) ∧ Below u.heap.size u w') := fun u => by
        have q := specPage_any (cap := 1) (rws_sl (rws_lit1 u _ u.heap.size x rfl (Nat.le_refl _) : Rws _ _ (.slice _ [x].length 1) [x])) hRB1
        refine Calls.mono q ?_
        rintro e w' ⟨rfl, b⟩
        have b1 := (Below.refl u.heap.size u).alloc (Nat.le_refl _) (.cells #[.string x.key, .string x.text, .string x.val] 32)
        exact ⟨rfl, b1.trans (b.mono b1.size)⟩
      rw [hgd] at HGR
      obtain ⟨pg, HPGE⟩ : ∃ pg, Hid (pgB [x] = pg) := ⟨_, rfl⟩
      have hpz : pg.size = lnP [x] := by rw [← HPGE.out]; exact pgB_size _
      have HRB1 : Hid (RwB [x]) := hRB1
      rw [HPGE.out] at HPG
      clear hgd hRB1
      by_cases hlx : lnP [x] ≤ 300
      case neg =>
        have HA : Hid (R = none) := by show _ = _; rw [← HR.out]; exact putA_no (by rw [okPB_one, decide_eq_false hlx, Bool.and_false])
        have hp8 : (300 : Int) < (pg.size : Int) := by omega
        have hp7 : pg.size ≤ 196098 := by have := lnP_take_le1 HRB1.out; omega
        clear HBK HBO HG60 hlx hpz
        go_enter Tryd.func15, Tryd.ntmps15
        go_wp2_with fail
        refine BK.mono ?_
        rintro e w2 ⟨v2, rfl, _, b2⟩
        have X2 := HX.out.below b2
        obtain ⟨x0, x1, x2⟩ := X2.cells
        have hxl := X2.lt
        have HB2 : Hid (Below w.heap.size w w2) := HB.out.trans (b2.mono HB.out.size)
        have GR := HGR.out w2
        clear BK HX HB b2 HGR
        go_wp2_with fail
        refine GR.mono ?_
        rintro e w3 ⟨rfl, b3⟩
        have HB3 : Hid (Below w.heap.size w w3) := HB2.out.trans (b3.mono HB2.out.size)
        have X3 := X2.below b3
        obtain ⟨y0, y1, y2⟩ := X3.cells
        have hyl := X3.lt
        have PG := HPG.out w3
        clear GR b3 HB2 HPG x0 x1 x2 hxl X2 X3
        go_wp2_with fail
        refine PG.mono ?_
        rintro e w4 ⟨rfl, b4⟩
        have HB4 : Hid (Below w.heap.size w w4) := HB3.out.trans (b4.mono HB3.out.size)
        clear PG b4 HB3 y0 y1 y2 hyl
        go_wp2
        go_ret2
        rw [HA.out]
        exact ⟨_, rfl, World.ownsRow_nil _ _ _ _, HB4.out⟩
      case pos =>
        have HOK : Hid (okPB [x] = true) := by show _ = _; rw [okPB_one, HGD.out, decide_eq_true hlx]; rfl
        have hp8 : ¬ (300 : Int) < (pg.size : Int) := by omega
        have hp7 : pg.size ≤ 300 := by omega
        clear hpz hlx
        by_cases h0 : gs.length = 0
        · have HA : Hid (R = some [pg]) := by show _ = _; rw [← HR.out, ← HPGE.out]; exact putA_one HBK.out HOK.out h0
          obtain rfl : gs = [] := List.eq_nil_of_length_eq_zero h0
          have HTE : Hid (∀ (u : World) (v : Value), BkV u v [[x]] → Calls Tryd.prog 48 #[v] u fun e w' => ∃ v', e = .returned (.tuple #[v', .bool true]) ∧ Strs w' u.heap.size v' [pg] ∧ Below u.heap.size u w') := fun u v h => by
            have q := tell_any h (by simp) (fun g hg => by simp at hg; subst hg; exact HRB1.out)
            rw [show tellOk [[x]] = true from rfl, show [[x]].map pgB = [pg] by rw [← HPGE.out]; rfl] at q
            exact q
          clear HBK HBO HG60 hgl h0 HOK
          go_enter Tryd.func15, Tryd.ntmps15
          go_wp2_with fail
          refine BK.mono ?_
          rintro e w2 ⟨v2, rfl, hN, b2⟩
          obtain ⟨vs, N2⟩ := hN [] rfl
          obtain ⟨a2, c2, rfl, _⟩ := N2.form
          have X2 := HX.out.below b2
          obtain ⟨x0, x1, x2⟩ := X2.cells
          have hxl := X2.lt
          have HB2 : Hid (Below w.heap.size w w2) := HB.out.trans (b2.mono HB.out.size)
          have GR := HGR.out w2
          clear BK HX HB b2 HGR hN N2
          go_wp2_with fail
          refine GR.mono ?_
          rintro e w3 ⟨rfl, b3⟩
          have HB3 : Hid (Below w.heap.size w w3) := HB2.out.trans (b3.mono HB2.out.size)
          have X3 := X2.below b3
          obtain ⟨y0, y1, y2⟩ := X3.cells
          have hyl := X3.lt
          have PG := HPG.out w3
          clear GR b3 HB2 HPG x0 x1 x2 hxl X2
          go_wp2_with fail
          refine PG.mono ?_
          rintro e w4 ⟨rfl, b4⟩
          have HB4 : Hid (Below w.heap.size w w4) := HB3.out.trans (b4.mono HB3.out.size)
          have X4 := X3.below b4
          obtain ⟨z0, z1, z2⟩ := X4.cells
          have hzl := X4.lt
          have SL : Hid (SlTV (w4.alloc (.cells #[.string x.key, .string x.text, .string x.val] 32)) (.slice (some ⟨w4.heap.size, 0, none⟩) 1 1) [x]) := ⟨_, 1, rfl, Rws.slT (l := [x]) (c := 1) (rws_lit1 w4 _ w4.heap.size x rfl (Nat.le_refl _))⟩
          have OT : Hid (OwnT ((w4.alloc (.cells #[.string x.key, .string x.text, .string x.val] 32)).alloc (.cells #[.slice (some ⟨w4.heap.size, 0, none⟩) 1 1] 23)) w4.heap.size (.slice (some ⟨w4.heap.size + 1, 0, none⟩) 1 1) [[x]] [.slice (some ⟨w4.heap.size, 0, none⟩) 1 1]) := ownT_lit1 _ _ _ _ [x] (by simp) (by simp) SL.out
          have TE := HTE.out _ _ OT.out.bk
          have bA := (HB4.out.alloc HB4.out.size (.cells #[.string x.key, .string x.text, .string x.val] 32))
          have HBA : Hid (Below w.heap.size w _) := bA.alloc bA.size (.cells #[.slice (some ⟨w4.heap.size, 0, none⟩) 1 1] 23)
          clear PG b4 HB3 y0 y1 y2 hyl X3 X4 SL OT bA HTE
          go_wp2_with fail
          refine TE.mono ?_
          rintro e w5 ⟨v5, rfl, s5, b5⟩
          have HB5 : Hid (Below w.heap.size w w5) := HBA.out.trans (b5.mono HBA.out.size)
          have HS5 : Hid (Strs w5 w.heap.size v5 [pg]) := strs_low s5 HBA.out.size
          clear TE b5 s5 HBA
          go_wp2
          go_ret2
          rw [HA.out]
          exact ⟨_, rfl, HS5.out, HB5.out⟩
        · obtain ⟨l, hal, hla, hlr, hl0, hl59, hRB, hRI, hi0, hi60, hi1, hp0, hp60, hput⟩ := put_page HBO.out.1 HBO.out.2.1 h0 HOK.out
          have hx1 := okPB_sz HOK.out
          have HPB2 : Hid (Book (putG gs x)) := putG_book HBO.out.1 HBO.out.2.1 h0 hx1.2.1 hx1.2.2
          have HPU : Hid (putG gs x = gs.take (atP gs x.key) ++ (partF (insR l x) ++ gs.drop (atP gs x.key + 1))) := hput
          have hpp := (plF_is (gs := gs) x.key).1
          have HPL : Hid (∀ (u : World) (v : Value), BkV u v gs → Calls Tryd.prog 49 #[v, .string x.key] u fun e w' => e = .returned (.int .i64 (plF gs x.key : Int)) ∧ Below u.heap.size u w') := fun u v h => place_any x.key h (by omega) HG60.out
          obtain ⟨A, HAA⟩ : ∃ A, Hid (atP gs x.key = A) := ⟨_, rfl⟩
          have hAM : min (plF gs x.key) (gs.length - 1) = A := HAA.out
          rw [HAA.out] at hal hla HPU
          generalize plF gs x.key = P0 at *
          obtain ⟨hq1, hq2, hq3⟩ := placeF_is x.key hlr
          obtain ⟨d, hd, hthree⟩ := place_three (key := x.key) hlr
          have HIN : Hid (insR l x = l.take (placeF l x.key) ++ ([x] ++ l.drop d)) := by show _ = _; rw [hd]; rfl
          have HQ2 : Hid (∀ (k : Nat) (y : Rw), k < placeF l x.key → l[k]? = some y → ltK y.key x.key = true) := fun k y h1 h2 => by have := hq2 k h1; rw [rwAt_of h2] at this; exact this
          have HQ3 : Hid (∀ y : Rw, l[placeF l x.key]? = some y → ltK y.key x.key = false) := fun y h2 => by have := hq3 _ (Nat.le_refl _) (List.getElem?_eq_some_iff.1 h2).1; rw [rwAt_of h2] at this; exact this
          clear hd hq2 hq3
          generalize placeF l x.key = P at *
          obtain ⟨L, HL⟩ : ∃ L, Hid (insR l x = L) := ⟨_, rfl⟩
          rw [HL.out] at hRI hi0 hi60 hi1 hp0 hp60 HPU HIN
          have HPT : Hid (∀ (u : World) (al : Option Addr) (cl : Nat), SlT u al L → L.length ≤ cl → cl ≤ 9223372036854775807 → Calls Tryd.prog 50 #[.slice al L.length cl] u fun e w' => ∃ v vs, e = .returned v ∧ OwnT w' u.heap.size v (partF L) vs ∧ Below u.heap.size u w') := fun u al cl h1 h2 h3 => specPart_any L.length u al L cl (Nat.le_refl _) h1 h2 h3 hRI hi0 hi1
          obtain ⟨ps, HPS⟩ : ∃ ps, Hid (partF L = ps) := ⟨_, rfl⟩
          rw [HPS.out] at hp0 hp60 HPU HPT
          obtain ⟨G, HGG⟩ : ∃ G, Hid (putG gs x = G) := ⟨_, rfl⟩
          rw [HGG.out] at HPU HPB2
          have HSZ : Hid (∀ g ∈ G, RwB g) := fun g hg => goodR_RwB (HPB2.out.good g hg).1
          have hgs40 : gs.length ≤ 40 := HBO.out.2.2
          have hGl : G.length ≤ 100 := by
            rw [HPU.out]
            simp
            omega
          have HRE : Hid (R = if (tellOk G && (bookF (G.map pgB)).isSome) = true then some (G.map pgB) else none) := by
            show _ = _
            rw [← ansG_tell HPB2.out, ← HR.out, ← HGG.out]
            by_cases hf : (putG gs x).flatten.length ≤ 60
            · rw [if_pos hf]; exact putA_more HBK.out HOK.out h0 hf
            · rw [if_neg hf]; exact putA_full HBK.out HOK.out h0 hf
          have HTE : Hid (∀ (u : World) (v : Value), BkV u v G → Calls Tryd.prog 48 #[v] u fun e w' => ∃ v', e = .returned (.tuple #[v', .bool (tellOk G)]) ∧ Strs w' u.heap.size v' (G.map pgB) ∧ Below u.heap.size u w') := fun u v h => tell_any h (by omega) HSZ.out
          have HAL : Hid (∀ (u : World) (B : Nat) (v : Value), Strs u B v (G.map pgB) → Calls Tryd.prog 46 #[v] u fun e w' => ∃ v', e = .returned (.tuple #[v', .bool (bookF (G.map pgB)).isSome]) ∧ Below u.heap.size u w') := fun u B v h => by
            refine Calls.mono (specAll_any h (fun s hs => ?_) (by rw [List.length_map]; omega)) ?_
            · obtain ⟨g, hg, rfl⟩ := List.mem_map.1 hs
              rw [pgB_size]
              have := lnP_take_le1 (HSZ.out g hg)
              omega
            · rintro e w' ⟨v', rfl, _, b⟩
              exact ⟨v', rfl, b⟩
          obtain ⟨tg, HTG⟩ : ∃ tg, Hid (G.map pgB = tg) := ⟨_, rfl⟩
          rw [HTG.out] at HRE HTE HAL
          obtain ⟨tk, HTK⟩ : ∃ tk, Hid (tellOk G = tk) := ⟨_, rfl⟩
          rw [HTK.out] at HRE HTE
          obtain ⟨ib, HIB⟩ : ∃ ib, Hid ((bookF tg).isSome = ib) := ⟨_, rfl⟩
          rw [HIB.out] at HRE HAL
          have hA8 : (A : Int) < (gs.length : Int) := by omega
          have hgn0 : ¬ (gs.length : Int) = 0 := by omega
          have HLA : Hid (gs[A]? = some l) := hla
          have hP8 : (P : Int) ≤ (l.length : Int) := by omega
          clear HR HBK HBO HOK HG60 HAA hlr hRB hRI hi1 hx1 hput HL HPS HGG HSZ HPB2 hla HTG HTK HIB HPGE HGD HRB1
          go_enter Tryd.func15, Tryd.ntmps15
          go_wp2_with fail
          refine BK.mono ?_
          rintro e w2 ⟨v2, rfl, hN, b2⟩
          obtain ⟨vs, N2⟩ := hN gs rfl
          obtain ⟨a2, c2, rfl, fm⟩ := N2.form
          have X2 := HX.out.below b2
          obtain ⟨x0, x1, x2⟩ := X2.cells
          have hxl := X2.lt
          have HB2 : Hid (Below w.heap.size w w2) := HB.out.trans (b2.mono HB.out.size)
          have HN2 : Hid (NestR w2 _ w2.heap.size (.slice a2 gs.length c2) gs vs) := N2
          have GR := HGR.out w2
          clear BK HX HB b2 HGR hN N2 fm
          go_wp2_with fail
          refine GR.mono ?_
          rintro e w3 ⟨rfl, b3⟩
          have HB3 : Hid (Below w.heap.size w w3) := HB2.out.trans (b3.mono HB2.out.size)
          have HN3 : Hid (NestR w3 _ w2.heap.size (.slice a2 gs.length c2) gs vs) := HN2.out.below b3
          have X3 := X2.below b3
          obtain ⟨y0, y1, y2⟩ := X3.cells
          have hyl := X3.lt
          have PG := HPG.out w3
          clear GR b3 HB2 HPG x0 x1 x2 hxl X2 HN2
          go_wp2_with fail
          refine PG.mono ?_
          rintro e w4 ⟨rfl, b4⟩
          have HB4 : Hid (Below w.heap.size w w4) := HB3.out.trans (b4.mono HB3.out.size)
          have N4 := HN3.out.below b4
          have X4 := X3.below b4
          obtain ⟨z0, z1, z2⟩ := X4.cells
          have hzl := X4.lt
          have PL := HPL.out w4 _ N4.bk
          have HX4 : Hid (BoxR6 w4 w.heap.size x) := X4
          have HN4 : Hid (NestR w4 _ w2.heap.size (.slice a2 gs.length c2) gs vs) := N4
          clear PG b4 HB3 y0 y1 y2 hyl X3 HN3 HPL X4 N4
          go_wp2_with fail
          refine PL.mono ?_
          rintro e w5 ⟨rfl, b5⟩
          have HB5 : Hid (Below w.heap.size w w5) := HB4.out.trans (b5.mono HB4.out.size)
          have N5 := (HN4.out.below b5)
          have HN5 : Hid (NestR w5 _ w2.heap.size (.slice a2 gs.length c2) gs vs) := N5
          have HX5 : Hid (BoxR6 w5 w.heap.size x) := HX4.out.below b5
          obtain ⟨a5, c5, hv5, fm⟩ := N5.form
          injection hv5 with q1 _ q3
          subst q1
          subst q3
          obtain ⟨vl, hvl, hI, _⟩ := N5.ins A l HLA.out
          obtain ⟨gb, rfl, _, _, cb, _⟩ := fm A _ hvl
          obtain ⟨al, cl, rfl⟩ := rw_form hI
          obtain ⟨hlc1, hlc2⟩ := rws_cap hI
          obtain ⟨b, o, rfl⟩ : ∃ b o, al = some ⟨b, o, none⟩ := by
            rcases rws_sl hI with h | ⟨b, o, h, _⟩
            · rw [h] at hl0; simp at hl0
            · exact ⟨b, o, h⟩
          have HCB : Hid (w5.cell? ⟨gb, A, none⟩ = some (.slice (some ⟨b, o, none⟩) l.length cl)) := cb
          have HSL : Hid (SlRw w5 (some ⟨b, o, none⟩) l) := rws_sl hI
          have HSV : Hid (SrcV w5 (.slice (some ⟨gb, 0, none⟩) gs.length c2) gs vs) := N5.ownT.srcV
          have hc2 : gs.length ≤ c2 ∧ c2 ≤ 9223372036854775807 := by
            rcases N5.row.2 with ⟨q, _⟩ | ⟨g', cap', cur, q, _, _, q3, q4, _⟩
            · cases q
            · injection q with _ _ q5
              subst q5
              unfold maxLen at q4
              omega
          have hPc : (P : Int) ≤ (cl : Int) := by omega
          have HTP : Hid ((l.take P).length = P) := by show _ = _; rw [List.length_take]; omega
          have HS5 : Hid (∀ u, Below w5.heap.size w5 u → SlV u (.slice (some ⟨b, o, none⟩) P cl) (l.take P)) := fun u hu => ⟨_, _, by rw [HTP.out], (HSL.out.take P).below hu (Nat.le_refl _)⟩
          clear PL b5 HB4 z0 z1 z2 hzl HN4 HX4 N5 fm hvl hI cb HN5
          go_upto_if 52 with fail
          go_cut [8] from 53 to 54 (fun v8 wx => v8 = .int .i64 (A : Int) ∧ wx = w5)
          case first =>
            by_cases hpl : P0 = gs.length
            · have hm1 : (gs.length : Int) - 1 = (A : Int) := by omega
              subst hpl
              go_wp2
              go_meet
              case rel => first | exact ⟨rfl, rfl⟩ | exact ⟨by simp [hm1], rfl⟩
            · obtain rfl : A = P0 := by omega
              have hm0 : ¬ (A : Int) = (gs.length : Int) := by omega
              have hm2 : ((A : Int) == (gs.length : Int)) = false := by simp; omega
              go_wp2
              go_meet
              case rel => exact ⟨rfl, rfl⟩
          case rest =>
            obtain ⟨hu8, hwc⟩ := hcut
            have hwc2 := hwc.symm
            subst hwc2
            subst hu8
            clear hAM hpp
            go_wp2_with fail
            go_loopw [10] (fun i wr => ∃ k : Nat, k ≤ P ∧ i = .int .i64 (k : Int) ∧ Below w5.heap.size w5 wr) (fun i _ => l.length - (intOf i).toNat)
            case atStart => exact ⟨0, Nat.zero_le _, rfl, Below.refl _ _⟩
            case round =>
              obtain ⟨k, hk, rfl, hb⟩ := hrel
              have HBr : Hid (Below w5.heap.size w5 wr) := hb
              obtain ⟨x0, x1, x2⟩ := (HX5.out.below hb).cells
              have hxl := (HX5.out.below hb).lt
              have cb : wr.cell? ⟨gb, A, none⟩ = some (.slice (some ⟨b, o, none⟩) l.length cl) := (hb.cell (p := ⟨gb, A, none⟩) (rw_cell_lt HCB.out)).trans HCB.out
              have hcb := rw_cell_lt cb
              have SL := HSL.out.below hb (Nat.le_refl _)
              by_cases hkP : k < P
              · obtain ⟨y, hy⟩ : ∃ y, l[k]? = some y := ⟨_, List.getElem?_eq_getElem (by omega)⟩
                rcases SL with h | ⟨b2, o2, hbo, hE⟩
                · rw [h] at hy; simp at hy
                cases hbo
                obtain ⟨e0, _, _⟩ := hE k y hy
                have hbl := rw_cell_lt e0
                have hk8 : (k : Int) < (l.length : Int) := by omega
                have hlk : ltK y.key x.key = true := HQ2.out k y hkP hy
                unfold ltK at hlk
                clear hE hy hb hthree
                go_wp2
                go_quiet (fail)
                go_wp2
                exact ⟨⟨k + 1, by omega, by go_num, below_drewN6 HBr.out _⟩, by simp [intOf]; omega⟩
              · obtain rfl : k = P := by omega
                clear hkP hk hb
                have hw5 := HBr.out.size
                rcases hthree with ⟨hkl, hd⟩ | ⟨y, hy, hyk, hd⟩ | ⟨y, hy, hyk, hd⟩
                · have hkn : ¬ k < l.length := by omega
                  clear hkl
                  go_wp2
                  have d1 : decide ((k : Int) < (l.length : Int)) = false := decide_eq_false (by omega)
                  go_quiet (fail)
                  go_wp2_with (at_builtin; refine append_rws rfl _ _ rfl w5.heap.size (.slice none 0 0) (.slice (some ⟨b, o, none⟩) k cl) [] (l.take k) rfl rfl (World.ownsRow_nil _ _ _ _) (slV_heap (HS5.out _ HBr.out) rfl) (by rw [HTP.out]; simp; omega) hw5 ?_)
                  intro v6 w6 i6 g6
                  have q6 : Below w5.heap.size w5 w6 := HBr.out.trans (Below.mono (below_none (u := wr) ⟨g6.os, g6.tape, g6.output, g6.size, fun j hj _ => g6.block j hj (by simp [Value.ownBlock])⟩) HBr.out.size)
                  have HQ6 : Hid (Below w5.heap.size w5 w6) := q6
                  obtain ⟨z0, z1, z2⟩ := (HX5.out.below q6).cells
                  have hzl := (HX5.out.below q6).lt
                  have hw6 := q6.size
                  have bA : Below w6.heap.size w6 (w6.alloc (.cells #[.string x.key, .string x.text, .string x.val] 32)) := (Below.refl _ _).alloc (Nat.le_refl _) _
                  have HI6 : Hid (Rws (w6.alloc (.cells #[.string x.key, .string x.text, .string x.val] 32)) w5.heap.size v6 (l.take k)) := i6.below bA
                  have HX6 : Hid (SlV (w6.alloc (.cells #[.string x.key, .string x.text, .string x.val] 32)) (.slice (some ⟨w6.heap.size, 0, none⟩) 1 1) [x]) := (rws_lit1 w6 _ w6.heap.size x rfl (Nat.le_refl _)).slV
                  have HBA : Hid (Below w5.heap.size w5 (w6.alloc (.cells #[.string x.key, .string x.text, .string x.val] 32))) := q6.trans (bA.mono q6.size)
                  have HIL : Hid (∀ j, v6.ownBlock = some j → w5.heap.size ≤ j) := fun j hj => (World.ownsRow.lt i6 j hj).1
                  clear g6 i6 q6 bA x0 x1 x2 hxl cb hcb SL HBr
                  go_wp2_with (at_builtin; refine append_rws rfl _ _ rfl w5.heap.size v6 (.slice (some ⟨w6.heap.size, 0, none⟩) 1 1) (l.take k) [x] rfl rfl HI6.out HX6.out (by rw [HTP.out]; simp; omega) HBA.out.size ?_)
                  intro v7 w7 i7 g7
                  have q7 : Below w5.heap.size w5 w7 := Below.grown HBA.out g7 HBA.out.size HIL.out
                  have HI7 : Hid (Rws w7 w5.heap.size v7 (l.take k ++ [x])) := i7
                  have HQ7 : Hid (Below w5.heap.size w5 w7) := q7
                  obtain ⟨x0, x1, x2⟩ := (HX5.out.below q7).cells
                  have hxl := (HX5.out.below q7).lt
                  have cb : w7.cell? ⟨gb, A, none⟩ = some (.slice (some ⟨b, o, none⟩) l.length cl) := (q7.cell (p := ⟨gb, A, none⟩) (rw_cell_lt HCB.out)).trans HCB.out
                  have hcb := rw_cell_lt cb
                  have hw7 := q7.size
                  clear i7 g7 HI6 HX6 HBA HIL z0 z1 z2 hzl HQ6
                  clear q7
                  go_wp2
                  have d2 : decide ((k : Int) < (l.length : Int)) = false := decide_eq_false (by omega)
                  go_quiet (fail)
                  obtain rfl : d = k := hd
                  go_upto_region 17 with fail
                  go_cut [9] from 111 to 118 (fun v9 wx => Rws wx w5.heap.size v9 L ∧ Below w5.heap.size w5 wx)
                  case first =>
                    have hdl : d ≤ l.length := by omega
                    have hdc : (d : Int) ≤ (cl : Int) := by omega
                    have hdl8 : (d : Int) ≤ (l.length : Int) := by omega
                    have HDL : Hid ((l.drop d).length = l.length - d) := List.length_drop
                    by_cases hcd : cl = d
                    · subst hcd
                      have hl0d : l.length - cl = 0 := by omega
                      have HD : Hid (SlV (w7) (.slice (some ⟨b, o, none⟩) 0 0) (l.drop cl)) := ⟨_, _, by rw [HDL.out, hl0d], .inl (List.drop_eq_nil_of_le (by omega))⟩
                      go_wp2_with (at_builtin; refine append_rws rfl _ _ rfl w5.heap.size v7 (.slice (some ⟨b, o, none⟩) 0 0) (l.take cl ++ [x]) (l.drop cl) rfl rfl (rws_heap HI7.out rfl) (slV_heap HD.out rfl) (by rw [List.length_append, HTP.out, HDL.out]; simp; omega) hw7 ?_)
                      intro v8 w8 i8 g8
                      have q8 : Below w5.heap.size w5 w8 := Below.grown (below_drewN6 HQ7.out _) g8 hw7 (fun j hj => (World.ownsRow.lt HI7.out j hj).1)
                      have r8 : Rws w8 w5.heap.size v8 L := by rw [HIN.out]; simpa using i8
                      clear i8 g8
                      go_wp2_with fail
                      go_meet
                      case rel => exact ⟨r8, q8⟩
                    · have hcd2 : (cl == d) = false := by simpa using hcd
                      have HD : Hid (SlV (w7) (.slice (some ⟨b, o + d * 3, none⟩) (l.length - d) (cl - d)) (l.drop d)) := ⟨_, _, by rw [HDL.out], (HSL.out.drop d).below HQ7.out (Nat.le_refl _)⟩
                      go_wp2_with (at_builtin; refine append_rws rfl _ _ rfl w5.heap.size v7 (.slice (some ⟨b, o + d * 3, none⟩) (l.length - d) (cl - d)) (l.take d ++ [x]) (l.drop d) rfl rfl (rws_heap HI7.out rfl) (slV_heap HD.out rfl) (by rw [List.length_append, HTP.out, HDL.out]; simp; omega) hw7 ?_)
                      intro v8 w8 i8 g8
                      have q8 : Below w5.heap.size w5 w8 := Below.grown (below_drewN6 HQ7.out _) g8 hw7 (fun j hj => (World.ownsRow.lt HI7.out j hj).1)
                      have r8 : Rws w8 w5.heap.size v8 L := by rw [HIN.out]; simpa using i8
                      clear i8 g8
                      go_wp2_with fail
                      go_meet
                      case rel => exact ⟨r8, q8⟩
                  case rest =>
                    obtain ⟨r8, q8⟩ := hcut
                    have HQ8 : Hid (Below w5.heap.size w5 wc) := q8
                    obtain ⟨a8, c8, hv8⟩ := rw_form r8
                    subst hv8
                    have hc8 := rws_cap r8
                    have HT8 : Hid (SlT wc a8 L) := Rws.slT r8
                    have HSA : Hid (SrcV wc (.slice (some ⟨gb, 0, none⟩) A c2) (gs.take A) (vs.take A)) := (HSV.out.take A (by omega)).below q8
                    have HGT : Hid ((gs.take A).length = A) := by show _ = _; rw [List.length_take]; omega
                    have hw8 := q8.size
                    have hAc : (A : Int) ≤ (c2 : Int) := by omega
                    clear r8 q8 HI7 HQ7 x0 x1 x2 hxl cb hcb HS5
                    go_wp2_with (at_builtin; refine append_ts rfl _ _ rfl w5.heap.size (.slice none 0 0) (.slice (some ⟨gb, 0, none⟩) A c2) [] (gs.take A) [] (vs.take A) rfl rfl (ownT_nil _ _) HSA.out (by rw [HGT.out]; simp; omega) hw8 ?_)
                    intro v9 w9 o9 g9
                    have q9 : Below wc.heap.size wc w9 := below_none g9
                    have HO9 : Hid (OwnT w9 w5.heap.size v9 (gs.take A) (vs.take A)) := o9
                    have HQ9 : Hid (Below w5.heap.size w5 w9) := HQ8.out.trans (q9.mono HQ8.out.size)
                    have PT := HPT.out w9 a8 c8 (HT8.out.below q9 (Nat.le_refl _)) hc8.1 hc8.2
                    clear o9 g9 q9 HSA HQ8 HT8
                    go_wp2_with fail
                    refine PT.mono ?_
                    rintro e w10 ⟨v10, vs10, rfl, o10, b10⟩
                    have HO10 : Hid (OwnT w10 w5.heap.size v9 (gs.take A) (vs.take A)) := HO9.out.below b10
                    have HS10 : Hid (SrcV w10 v10 ps vs10) := o10.srcV
                    have HQ10 : Hid (Below w5.heap.size w5 w10) := HQ9.out.trans (b10.mono HQ9.out.size)
                    have hw10 := HQ10.out.size
                    clear PT o10 b10 HO9 HQ9
                    go_wp2_with (at_builtin; refine append_ts rfl _ _ rfl w5.heap.size v9 v10 (gs.take A) ps (vs.take A) vs10 rfl rfl HO10.out HS10.out (by rw [HGT.out]; omega) hw10 ?_)
                    intro v11 w11 o11 g11
                    have q11 : Below w5.heap.size w5 w11 := Below.grown HQ10.out g11 hw10 (fun j hj => (World.ownsRow.lt HO10.out.1 j hj).1)
                    have HO11 : Hid (OwnT w11 w5.heap.size v11 (gs.take A ++ ps) (vs.take A ++ vs10)) := o11
                    have HQ11 : Hid (Below w5.heap.size w5 w11) := q11
                    have hw11 := q11.size
                    clear o11 g11 q11 HO10 HS10 HQ10
                    have hwA : IntKind.i64.wrap ((A : Int) + 1) = (A : Int) + 1 := by rw [IntKind.wrap_i64]; omega
                    have hA1 : (A : Int) + 1 = ((A + 1 : Nat) : Int) := by omega
                    obtain ⟨A1, hA1e⟩ : ∃ A1, A + 1 = A1 := ⟨_, rfl⟩
                    rw [hA1e] at hA1 HPU
                    have hA1c : (A1 : Int) ≤ (c2 : Int) := by omega
                    have hA1l : (A1 : Int) ≤ (gs.length : Int) := by omega
                    have HDG : Hid ((gs.drop A1).length = gs.length - A1) := List.length_drop
                    go_upto_region 21 with fail
                    go_cut [11] from 128 to 133 (fun v11 wx => ∃ vs, OwnT wx w5.heap.size v11 G vs ∧ Below w5.heap.size w5 wx)
                    case first =>
                      by_cases hcA : c2 = A1
                      · subst hcA
                        have hg0 : gs.length - c2 = 0 := by omega
                        have hgd0 : gs.drop c2 = [] := List.drop_eq_nil_of_le (by omega)
                        rw [hgd0] at HPU
                        have HD : Hid (SrcV w11 (.slice (some ⟨gb, 0, none⟩) 0 0) [] []) := SrcV.none
                        go_wp2_with (at_builtin; refine append_ts rfl _ _ rfl w5.heap.size v11 (.slice (some ⟨gb, 0, none⟩) 0 0) (gs.take A ++ ps) [] (vs.take A ++ vs10) [] rfl rfl HO11.out HD.out (by rw [List.length_append, HGT.out]; simp; omega) hw11 ?_)
                        intro v12 w12 o12 g12
                        have q12 : Below w5.heap.size w5 w12 := Below.grown HQ11.out g12 hw11 (fun j hj => (World.ownsRow.lt HO11.out.1 j hj).1)
                        have r12 : OwnT w12 w5.heap.size v12 G (vs.take A ++ (vs10 ++ [])) := by rw [HPU.out]; simpa using o12
                        clear o12 g12
                        go_wp2_with fail
                        go_meet
                        case rel => exact ⟨_, r12, q12⟩
                      · have hcA2 : (c2 == A1) = false := by simpa using hcA
                        have HD : Hid (SrcV w11 (.slice (some ⟨gb, A1, none⟩) (gs.length - A1) (c2 - A1)) (gs.drop A1) (vs.drop A1)) := by have q := (HSV.out.drop A1).below HQ11.out; rw [Nat.zero_add] at q; exact q
                        go_wp2_with (at_builtin; refine append_ts rfl _ _ rfl w5.heap.size v11 (.slice (some ⟨gb, A1, none⟩) (gs.length - A1) (c2 - A1)) (gs.take A ++ ps) (gs.drop A1) (vs.take A ++ vs10) (vs.drop A1) rfl rfl HO11.out HD.out (by rw [List.length_append, HGT.out]; simp; omega) hw11 ?_)
                        intro v12 w12 o12 g12
                        have q12 : Below w5.heap.size w5 w12 := Below.grown HQ11.out g12 hw11 (fun j hj => (World.ownsRow.lt HO11.out.1 j hj).1)
                        have r12 : OwnT w12 w5.heap.size v12 G (vs.take A ++ (vs10 ++ (vs.drop A1))) := by rw [HPU.out]; simpa using o12
                        clear o12 g12
                        go_wp2_with fail
                        go_meet
                        case rel => exact ⟨_, r12, q12⟩
                    case rest =>
                      obtain ⟨vs12, o12, q12⟩ := hcut
                      have TE := HTE.out wc _ o12.bk
                      have HQ12 : Hid (Below w.heap.size w wc) := HB5.out.trans (q12.mono HB5.out.size)
                      clear o12 q12 HO11 HQ11 HSV HSL HX5 HPT HCB
                      go_wp2_with fail
                      refine TE.mono ?_
                      rintro e w13 ⟨v13, rfl, s13, b13⟩
                      have HB13 : Hid (Below w.heap.size w w13) := HQ12.out.trans (b13.mono HQ12.out.size)
                      have HS13 : Hid (Strs w13 w.heap.size v13 tg) := strs_low s13 HQ12.out.size
                      have AL := HAL.out w13 _ _ HS13.out
                      clear TE s13 b13 HQ12
                      go_wp2_with fail
                      refine AL.mono ?_
                      rintro e w14 ⟨v14, rfl, b14⟩
                      have HB14 : Hid (Below w.heap.size w w14) := HB13.out.trans (b14.mono HB13.out.size)
                      have HS14 : Hid (Strs w14 w.heap.size v13 tg) := HS13.out.below b14
                      clear AL b14 HB13 HS13
                      cases tk
                      · go_wp2
                        go_ret2
                        rw [HRE.out]
                        exact ⟨_, rfl, World.ownsRow_nil _ _ _ _, HB14.out⟩
                      · cases ib
                        · go_wp2
                          go_ret2
                          rw [HRE.out]
                          exact ⟨_, rfl, World.ownsRow_nil _ _ _ _, HB14.out⟩
                        · go_wp2
                          go_ret2
                          rw [HRE.out]
                          exact ⟨_, rfl, HS14.out, HB14.out⟩
                · have HYK : Hid (y.key ≠ x.key) := hyk
                  clear hyk
                  have hk8 : (k : Int) < (l.length : Int) := by have := (List.getElem?_eq_some_iff.1 hy).1; omega
                  rcases HSL.out.below HBr.out (Nat.le_refl _) with h | ⟨b2, o2, hbo, hE⟩
                  · rw [h] at hl0; simp at hl0
                  cases hbo
                  obtain ⟨e0, _, _⟩ := hE k y hy
                  have hbl := rw_cell_lt e0
                  have hlk : ltK y.key x.key = false := HQ3.out y hy
                  unfold ltK at hlk
                  go_wp2
                  go_quiet (fail)
                  clear e0 hbl hE
                  go_wp2_with (at_builtin; refine append_rws rfl _ _ rfl w5.heap.size (.slice none 0 0) (.slice (some ⟨b, o, none⟩) k cl) [] (l.take k) rfl rfl (World.ownsRow_nil _ _ _ _) (slV_heap (HS5.out _ HBr.out) rfl) (by rw [HTP.out]; simp; omega) hw5 ?_)
                  intro v6 w6 i6 g6
                  have q6 : Below w5.heap.size w5 w6 := HBr.out.trans (Below.mono (below_none (u := wr) ⟨g6.os, g6.tape, g6.output, g6.size, fun j hj _ => g6.block j hj (by simp [Value.ownBlock])⟩) HBr.out.size)
                  have HQ6 : Hid (Below w5.heap.size w5 w6) := q6
                  obtain ⟨z0, z1, z2⟩ := (HX5.out.below q6).cells
                  have hzl := (HX5.out.below q6).lt
                  have hw6 := q6.size
                  have bA : Below w6.heap.size w6 (w6.alloc (.cells #[.string x.key, .string x.text, .string x.val] 32)) := (Below.refl _ _).alloc (Nat.le_refl _) _
                  have HI6 : Hid (Rws (w6.alloc (.cells #[.string x.key, .string x.text, .string x.val] 32)) w5.heap.size v6 (l.take k)) := i6.below bA
                  have HX6 : Hid (SlV (w6.alloc (.cells #[.string x.key, .string x.text, .string x.val] 32)) (.slice (some ⟨w6.heap.size, 0, none⟩) 1 1) [x]) := (rws_lit1 w6 _ w6.heap.size x rfl (Nat.le_refl _)).slV
                  have HBA : Hid (Below w5.heap.size w5 (w6.alloc (.cells #[.string x.key, .string x.text, .string x.val] 32))) := q6.trans (bA.mono q6.size)
                  have HIL : Hid (∀ j, v6.ownBlock = some j → w5.heap.size ≤ j) := fun j hj => (World.ownsRow.lt i6 j hj).1
                  clear g6 i6 q6 bA x0 x1 x2 hxl cb hcb SL HBr
                  go_wp2_with (at_builtin; refine append_rws rfl _ _ rfl w5.heap.size v6 (.slice (some ⟨w6.heap.size, 0, none⟩) 1 1) (l.take k) [x] rfl rfl HI6.out HX6.out (by rw [HTP.out]; simp; omega) HBA.out.size ?_)
                  intro v7 w7 i7 g7
                  have q7 : Below w5.heap.size w5 w7 := Below.grown HBA.out g7 HBA.out.size HIL.out
                  have HI7 : Hid (Rws w7 w5.heap.size v7 (l.take k ++ [x])) := i7
                  have HQ7 : Hid (Below w5.heap.size w5 w7) := q7
                  obtain ⟨x0, x1, x2⟩ := (HX5.out.below q7).cells
                  have hxl := (HX5.out.below q7).lt
                  have cb : w7.cell? ⟨gb, A, none⟩ = some (.slice (some ⟨b, o, none⟩) l.length cl) := (q7.cell (p := ⟨gb, A, none⟩) (rw_cell_lt HCB.out)).trans HCB.out
                  have hcb := rw_cell_lt cb
                  have hw7 := q7.size
                  clear i7 g7 HI6 HX6 HBA HIL z0 z1 z2 hzl HQ6
                  rcases HSL.out.below q7 (Nat.le_refl _) with h | ⟨b2, o2, hbo, hE⟩
                  · rw [h] at hl0; simp at hl0
                  cases hbo
                  obtain ⟨e0, _, _⟩ := hE k y hy
                  have hbl := rw_cell_lt e0
                  clear q7
                  have hkF := ne_list6 HYK.out
                  clear hE hlk hy HYK
                  go_wp2
                  go_quiet (fail)
                  clear e0 hbl hkF
                  obtain rfl : d = k := hd
                  go_upto_region 17 with fail
                  go_cut [9] from 111 to 118 (fun v9 wx => Rws wx w5.heap.size v9 L ∧ Below w5.heap.size w5 wx)
                  case first =>
                    have hdl : d ≤ l.length := by omega
                    have hdc : (d : Int) ≤ (cl : Int) := by omega
                    have hdl8 : (d : Int) ≤ (l.length : Int) := by omega
                    have HDL : Hid ((l.drop d).length = l.length - d) := List.length_drop
                    by_cases hcd : cl = d
                    · subst hcd
                      have hl0d : l.length - cl = 0 := by omega
                      have HD : Hid (SlV (w7) (.slice (some ⟨b, o, none⟩) 0 0) (l.drop cl)) := ⟨_, _, by rw [HDL.out, hl0d], .inl (List.drop_eq_nil_of_le (by omega))⟩
                      go_wp2_with (at_builtin; refine append_rws rfl _ _ rfl w5.heap.size v7 (.slice (some ⟨b, o, none⟩) 0 0) (l.take cl ++ [x]) (l.drop cl) rfl rfl (rws_heap HI7.out rfl) (slV_heap HD.out rfl) (by rw [List.length_append, HTP.out, HDL.out]; simp; omega) hw7 ?_)
                      intro v8 w8 i8 g8
                      have q8 : Below w5.heap.size w5 w8 := Below.grown (below_drewN6 HQ7.out _) g8 hw7 (fun j hj => (World.ownsRow.lt HI7.out j hj).1)
                      have r8 : Rws w8 w5.heap.size v8 L := by rw [HIN.out]; simpa using i8
                      clear i8 g8
                      go_wp2_with fail
                      go_meet
                      case rel => exact ⟨r8, q8⟩
                    · have hcd2 : (cl == d) = false := by simpa using hcd
                      have HD : Hid (SlV (w7) (.slice (some ⟨b, o + d * 3, none⟩) (l.length - d) (cl - d)) (l.drop d)) := ⟨_, _, by rw [HDL.out], (HSL.out.drop d).below HQ7.out (Nat.le_refl _)⟩
                      go_wp2_with (at_builtin; refine append_rws rfl _ _ rfl w5.heap.size v7 (.slice (some ⟨b, o + d * 3, none⟩) (l.length - d) (cl - d)) (l.take d ++ [x]) (l.drop d) rfl rfl (rws_heap HI7.out rfl) (slV_heap HD.out rfl) (by rw [List.length_append, HTP.out, HDL.out]; simp; omega) hw7 ?_)
                      intro v8 w8 i8 g8
                      have q8 : Below w5.heap.size w5 w8 := Below.grown (below_drewN6 HQ7.out _) g8 hw7 (fun j hj => (World.ownsRow.lt HI7.out j hj).1)
                      have r8 : Rws w8 w5.heap.size v8 L := by rw [HIN.out]; simpa using i8
                      clear i8 g8
                      go_wp2_with fail
                      go_meet
                      case rel => exact ⟨r8, q8⟩
                  case rest =>
                    obtain ⟨r8, q8⟩ := hcut
                    have HQ8 : Hid (Below w5.heap.size w5 wc) := q8
                    obtain ⟨a8, c8, hv8⟩ := rw_form r8
                    subst hv8
                    have hc8 := rws_cap r8
                    have HT8 : Hid (SlT wc a8 L) := Rws.slT r8
                    have HSA : Hid (SrcV wc (.slice (some ⟨gb, 0, none⟩) A c2) (gs.take A) (vs.take A)) := (HSV.out.take A (by omega)).below q8
                    have HGT : Hid ((gs.take A).length = A) := by show _ = _; rw [List.length_take]; omega
                    have hw8 := q8.size
                    have hAc : (A : Int) ≤ (c2 : Int) := by omega
                    clear r8 q8 HI7 HQ7 x0 x1 x2 hxl cb hcb HS5
                    go_wp2_with (at_builtin; refine append_ts rfl _ _ rfl w5.heap.size (.slice none 0 0) (.slice (some ⟨gb, 0, none⟩) A c2) [] (gs.take A) [] (vs.take A) rfl rfl (ownT_nil _ _) HSA.out (by rw [HGT.out]; simp; omega) hw8 ?_)
                    intro v9 w9 o9 g9
                    have q9 : Below wc.heap.size wc w9 := below_none g9
                    have HO9 : Hid (OwnT w9 w5.heap.size v9 (gs.take A) (vs.take A)) := o9
                    have HQ9 : Hid (Below w5.heap.size w5 w9) := HQ8.out.trans (q9.mono HQ8.out.size)
                    have PT := HPT.out w9 a8 c8 (HT8.out.below q9 (Nat.le_refl _)) hc8.1 hc8.2
                    clear o9 g9 q9 HSA HQ8 HT8
                    go_wp2_with fail
                    refine PT.mono ?_
                    rintro e w10 ⟨v10, vs10, rfl, o10, b10⟩
                    have HO10 : Hid (OwnT w10 w5.heap.size v9 (gs.take A) (vs.take A)) := HO9.out.below b10
                    have HS10 : Hid (SrcV w10 v10 ps vs10) := o10.srcV
                    have HQ10 : Hid (Below w5.heap.size w5 w10) := HQ9.out.trans (b10.mono HQ9.out.size)
                    have hw10 := HQ10.out.size
                    clear PT o10 b10 HO9 HQ9
                    go_wp2_with (at_builtin; refine append_ts rfl _ _ rfl w5.heap.size v9 v10 (gs.take A) ps (vs.take A) vs10 rfl rfl HO10.out HS10.out (by rw [HGT.out]; omega) hw10 ?_)
                    intro v11 w11 o11 g11
                    have q11 : Below w5.heap.size w5 w11 := Below.grown HQ10.out g11 hw10 (fun j hj => (World.ownsRow.lt HO10.out.1 j hj).1)
                    have HO11 : Hid (OwnT w11 w5.heap.size v11 (gs.take A ++ ps) (vs.take A ++ vs10)) := o11
                    have HQ11 : Hid (Below w5.heap.size w5 w11) := q11
                    have hw11 := q11.size
                    clear o11 g11 q11 HO10 HS10 HQ10
                    have hwA : IntKind.i64.wrap ((A : Int) + 1) = (A : Int) + 1 := by rw [IntKind.wrap_i64]; omega
                    have hA1 : (A : Int) + 1 = ((A + 1 : Nat) : Int) := by omega
                    obtain ⟨A1, hA1e⟩ : ∃ A1, A + 1 = A1 := ⟨_, rfl⟩
                    rw [hA1e] at hA1 HPU
                    have hA1c : (A1 : Int) ≤ (c2 : Int) := by omega
                    have hA1l : (A1 : Int) ≤ (gs.length : Int) := by omega
                    have HDG : Hid ((gs.drop A1).length = gs.length - A1) := List.length_drop
                    go_upto_region 21 with fail
                    go_cut [11] from 128 to 133 (fun v11 wx => ∃ vs, OwnT wx w5.heap.size v11 G vs ∧ Below w5.heap.size w5 wx)
                    case first =>
                      by_cases hcA : c2 = A1
                      · subst hcA
                        have hg0 : gs.length - c2 = 0 := by omega
                        have hgd0 : gs.drop c2 = [] := List.drop_eq_nil_of_le (by omega)
                        rw [hgd0] at HPU
                        have HD : Hid (SrcV w11 (.slice (some ⟨gb, 0, none⟩) 0 0) [] []) := SrcV.none
                        go_wp2_with (at_builtin; refine append_ts rfl _ _ rfl w5.heap.size v11 (.slice (some ⟨gb, 0, none⟩) 0 0) (gs.take A ++ ps) [] (vs.take A ++ vs10) [] rfl rfl HO11.out HD.out (by rw [List.length_append, HGT.out]; simp; omega) hw11 ?_)
                        intro v12 w12 o12 g12
                        have q12 : Below w5.heap.size w5 w12 := Below.grown HQ11.out g12 hw11 (fun j hj => (World.ownsRow.lt HO11.out.1 j hj).1)
                        have r12 : OwnT w12 w5.heap.size v12 G (vs.take A ++ (vs10 ++ [])) := by rw [HPU.out]; simpa using o12
                        clear o12 g12
                        go_wp2_with fail
                        go_meet
                        case rel => exact ⟨_, r12, q12⟩
                      · have hcA2 : (c2 == A1) = false := by simpa using hcA
                        have HD : Hid (SrcV w11 (.slice (some ⟨gb, A1, none⟩) (gs.length - A1) (c2 - A1)) (gs.drop A1) (vs.drop A1)) := by have q := (HSV.out.drop A1).below HQ11.out; rw [Nat.zero_add] at q; exact q
                        go_wp2_with (at_builtin; refine append_ts rfl _ _ rfl w5.heap.size v11 (.slice (some ⟨gb, A1, none⟩) (gs.length - A1) (c2 - A1)) (gs.take A ++ ps) (gs.drop A1) (vs.take A ++ vs10) (vs.drop A1) rfl rfl HO11.out HD.out (by rw [List.length_append, HGT.out]; simp; omega) hw11 ?_)
                        intro v12 w12 o12 g12
                        have q12 : Below w5.heap.size w5 w12 := Below.grown HQ11.out g12 hw11 (fun j hj => (World.ownsRow.lt HO11.out.1 j hj).1)
                        have r12 : OwnT w12 w5.heap.size v12 G (vs.take A ++ (vs10 ++ (vs.drop A1))) := by rw [HPU.out]; simpa using o12
                        clear o12 g12
                        go_wp2_with fail
                        go_meet
                        case rel => exact ⟨_, r12, q12⟩
                    case rest =>
                      obtain ⟨vs12, o12, q12⟩ := hcut
                      have TE := HTE.out wc _ o12.bk
                      have HQ12 : Hid (Below w.heap.size w wc) := HB5.out.trans (q12.mono HB5.out.size)
                      clear o12 q12 HO11 HQ11 HSV HSL HX5 HPT HCB
                      go_wp2_with fail
                      refine TE.mono ?_
                      rintro e w13 ⟨v13, rfl, s13, b13⟩
                      have HB13 : Hid (Below w.heap.size w w13) := HQ12.out.trans (b13.mono HQ12.out.size)
                      have HS13 : Hid (Strs w13 w.heap.size v13 tg) := strs_low s13 HQ12.out.size
                      have AL := HAL.out w13 _ _ HS13.out
                      clear TE s13 b13 HQ12
                      go_wp2_with fail
                      refine AL.mono ?_
                      rintro e w14 ⟨v14, rfl, b14⟩
                      have HB14 : Hid (Below w.heap.size w w14) := HB13.out.trans (b14.mono HB13.out.size)
                      have HS14 : Hid (Strs w14 w.heap.size v13 tg) := HS13.out.below b14
                      clear AL b14 HB13 HS13
                      cases tk
                      · go_wp2
                        go_ret2
                        rw [HRE.out]
                        exact ⟨_, rfl, World.ownsRow_nil _ _ _ _, HB14.out⟩
                      · cases ib
                        · go_wp2
                          go_ret2
                          rw [HRE.out]
                          exact ⟨_, rfl, World.ownsRow_nil _ _ _ _, HB14.out⟩
                        · go_wp2
                          go_ret2
                          rw [HRE.out]
                          exact ⟨_, rfl, HS14.out, HB14.out⟩
                · have HYK : Hid (y.key = x.key) := hyk
                  clear hyk
                  have hk8 : (k : Int) < (l.length : Int) := by have := (List.getElem?_eq_some_iff.1 hy).1; omega
                  rcases HSL.out.below HBr.out (Nat.le_refl _) with h | ⟨b2, o2, hbo, hE⟩
                  · rw [h] at hl0; simp at hl0
                  cases hbo
                  obtain ⟨e0, _, _⟩ := hE k y hy
                  have hbl := rw_cell_lt e0
                  have hlk : ltK y.key x.key = false := HQ3.out y hy
                  unfold ltK at hlk
                  go_wp2
                  go_quiet (fail)
                  clear e0 hbl hE
                  go_wp2_with (at_builtin; refine append_rws rfl _ _ rfl w5.heap.size (.slice none 0 0) (.slice (some ⟨b, o, none⟩) k cl) [] (l.take k) rfl rfl (World.ownsRow_nil _ _ _ _) (slV_heap (HS5.out _ HBr.out) rfl) (by rw [HTP.out]; simp; omega) hw5 ?_)
                  intro v6 w6 i6 g6
                  have q6 : Below w5.heap.size w5 w6 := HBr.out.trans (Below.mono (below_none (u := wr) ⟨g6.os, g6.tape, g6.output, g6.size, fun j hj _ => g6.block j hj (by simp [Value.ownBlock])⟩) HBr.out.size)
                  have HQ6 : Hid (Below w5.heap.size w5 w6) := q6
                  obtain ⟨z0, z1, z2⟩ := (HX5.out.below q6).cells
                  have hzl := (HX5.out.below q6).lt
                  have hw6 := q6.size
                  have bA : Below w6.heap.size w6 (w6.alloc (.cells #[.string x.key, .string x.text, .string x.val] 32)) := (Below.refl _ _).alloc (Nat.le_refl _) _
                  have HI6 : Hid (Rws (w6.alloc (.cells #[.string x.key, .string x.text, .string x.val] 32)) w5.heap.size v6 (l.take k)) := i6.below bA
                  have HX6 : Hid (SlV (w6.alloc (.cells #[.string x.key, .string x.text, .string x.val] 32)) (.slice (some ⟨w6.heap.size, 0, none⟩) 1 1) [x]) := (rws_lit1 w6 _ w6.heap.size x rfl (Nat.le_refl _)).slV
                  have HBA : Hid (Below w5.heap.size w5 (w6.alloc (.cells #[.string x.key, .string x.text, .string x.val] 32))) := q6.trans (bA.mono q6.size)
                  have HIL : Hid (∀ j, v6.ownBlock = some j → w5.heap.size ≤ j) := fun j hj => (World.ownsRow.lt i6 j hj).1
                  clear g6 i6 q6 bA x0 x1 x2 hxl cb hcb SL HBr
                  go_wp2_with (at_builtin; refine append_rws rfl _ _ rfl w5.heap.size v6 (.slice (some ⟨w6.heap.size, 0, none⟩) 1 1) (l.take k) [x] rfl rfl HI6.out HX6.out (by rw [HTP.out]; simp; omega) HBA.out.size ?_)
                  intro v7 w7 i7 g7
                  have q7 : Below w5.heap.size w5 w7 := Below.grown HBA.out g7 HBA.out.size HIL.out
                  have HI7 : Hid (Rws w7 w5.heap.size v7 (l.take k ++ [x])) := i7
                  have HQ7 : Hid (Below w5.heap.size w5 w7) := q7
                  obtain ⟨x0, x1, x2⟩ := (HX5.out.below q7).cells
                  have hxl := (HX5.out.below q7).lt
                  have cb : w7.cell? ⟨gb, A, none⟩ = some (.slice (some ⟨b, o, none⟩) l.length cl) := (q7.cell (p := ⟨gb, A, none⟩) (rw_cell_lt HCB.out)).trans HCB.out
                  have hcb := rw_cell_lt cb
                  have hw7 := q7.size
                  clear i7 g7 HI6 HX6 HBA HIL z0 z1 z2 hzl HQ6
                  rcases HSL.out.below q7 (Nat.le_refl _) with h | ⟨b2, o2, hbo, hE⟩
                  · rw [h] at hl0; simp at hl0
                  cases hbo
                  obtain ⟨e0, _, _⟩ := hE k y hy
                  have hbl := rw_cell_lt e0
                  clear q7
                  have hkT := eqT6 HYK.out
                  clear hE hlk hy HYK
                  go_wp2
                  go_quiet (fail)
                  have hwr1 : IntKind.i64.wrap (d : Int) = (d : Int) := by rw [IntKind.wrap_i64]; omega
                  have hk1e : (k : Int) + 1 = (d : Int) := by omega
                  clear hd
                  go_upto_region 17 with fail
                  clear e0 hbl hkT
                  go_cut [9] from 111 to 118 (fun v9 wx => Rws wx w5.heap.size v9 L ∧ Below w5.heap.size w5 wx)
                  case first =>
                    have hdl : d ≤ l.length := by omega
                    have hdc : (d : Int) ≤ (cl : Int) := by omega
                    have hdl8 : (d : Int) ≤ (l.length : Int) := by omega
                    have HDL : Hid ((l.drop d).length = l.length - d) := List.length_drop
                    by_cases hcd : cl = d
                    · subst hcd
                      have hl0d : l.length - cl = 0 := by omega
                      have HD : Hid (SlV (w7) (.slice (some ⟨b, o, none⟩) 0 0) (l.drop cl)) := ⟨_, _, by rw [HDL.out, hl0d], .inl (List.drop_eq_nil_of_le (by omega))⟩
                      go_wp2_with (at_builtin; refine append_rws rfl _ _ rfl w5.heap.size v7 (.slice (some ⟨b, o, none⟩) 0 0) (l.take k ++ [x]) (l.drop cl) rfl rfl (rws_heap HI7.out rfl) (slV_heap HD.out rfl) (by rw [List.length_append, HTP.out, HDL.out]; simp; omega) hw7 ?_)
                      intro v8 w8 i8 g8
                      have q8 : Below w5.heap.size w5 w8 := Below.grown (below_drewN6 HQ7.out _) g8 hw7 (fun j hj => (World.ownsRow.lt HI7.out j hj).1)
                      have r8 : Rws w8 w5.heap.size v8 L := by rw [HIN.out]; simpa using i8
                      clear i8 g8
                      go_wp2_with fail
                      go_meet
                      case rel => exact ⟨r8, q8⟩
                    · have hcd2 : (cl == d) = false := by simpa using hcd
                      have HD : Hid (SlV (w7) (.slice (some ⟨b, o + d * 3, none⟩) (l.length - d) (cl - d)) (l.drop d)) := ⟨_, _, by rw [HDL.out], (HSL.out.drop d).below HQ7.out (Nat.le_refl _)⟩
                      go_wp2_with (at_builtin; refine append_rws rfl _ _ rfl w5.heap.size v7 (.slice (some ⟨b, o + d * 3, none⟩) (l.length - d) (cl - d)) (l.take k ++ [x]) (l.drop d) rfl rfl (rws_heap HI7.out rfl) (slV_heap HD.out rfl) (by rw [List.length_append, HTP.out, HDL.out]; simp; omega) hw7 ?_)
                      intro v8 w8 i8 g8
                      have q8 : Below w5.heap.size w5 w8 := Below.grown (below_drewN6 HQ7.out _) g8 hw7 (fun j hj => (World.ownsRow.lt HI7.out j hj).1)
                      have r8 : Rws w8 w5.heap.size v8 L := by rw [HIN.out]; simpa using i8
                      clear i8 g8
                      go_wp2_with fail
                      go_meet
                      case rel => exact ⟨r8, q8⟩
                  case rest =>
                    obtain ⟨r8, q8⟩ := hcut
                    have HQ8 : Hid (Below w5.heap.size w5 wc) := q8
                    obtain ⟨a8, c8, hv8⟩ := rw_form r8
                    subst hv8
                    have hc8 := rws_cap r8
                    have HT8 : Hid (SlT wc a8 L) := Rws.slT r8
                    have HSA : Hid (SrcV wc (.slice (some ⟨gb, 0, none⟩) A c2) (gs.take A) (vs.take A)) := (HSV.out.take A (by omega)).below q8
                    have HGT : Hid ((gs.take A).length = A) := by show _ = _; rw [List.length_take]; omega
                    have hw8 := q8.size
                    have hAc : (A : Int) ≤ (c2 : Int) := by omega
                    clear r8 q8 HI7 HQ7 x0 x1 x2 hxl cb hcb HS5
                    go_wp2_with (at_builtin; refine append_ts rfl _ _ rfl w5.heap.size (.slice none 0 0) (.slice (some ⟨gb, 0, none⟩) A c2) [] (gs.take A) [] (vs.take A) rfl rfl (ownT_nil _ _) HSA.out (by rw [HGT.out]; simp; omega) hw8 ?_)
                    intro v9 w9 o9 g9
                    have q9 : Below wc.heap.size wc w9 := below_none g9
                    have HO9 : Hid (OwnT w9 w5.heap.size v9 (gs.take A) (vs.take A)) := o9
                    have HQ9 : Hid (Below w5.heap.size w5 w9) := HQ8.out.trans (q9.mono HQ8.out.size)
                    have PT := HPT.out w9 a8 c8 (HT8.out.below q9 (Nat.le_refl _)) hc8.1 hc8.2
                    clear o9 g9 q9 HSA HQ8 HT8
                    go_wp2_with fail
                    refine PT.mono ?_
                    rintro e w10 ⟨v10, vs10, rfl, o10, b10⟩
                    have HO10 : Hid (OwnT w10 w5.heap.size v9 (gs.take A) (vs.take A)) := HO9.out.below b10
                    have HS10 : Hid (SrcV w10 v10 ps vs10) := o10.srcV
                    have HQ10 : Hid (Below w5.heap.size w5 w10) := HQ9.out.trans (b10.mono HQ9.out.size)
                    have hw10 := HQ10.out.size
                    clear PT o10 b10 HO9 HQ9
                    go_wp2_with (at_builtin; refine append_ts rfl _ _ rfl w5.heap.size v9 v10 (gs.take A) ps (vs.take A) vs10 rfl rfl HO10.out HS10.out (by rw [HGT.out]; omega) hw10 ?_)
                    intro v11 w11 o11 g11
                    have q11 : Below w5.heap.size w5 w11 := Below.grown HQ10.out g11 hw10 (fun j hj => (World.ownsRow.lt HO10.out.1 j hj).1)
                    have HO11 : Hid (OwnT w11 w5.heap.size v11 (gs.take A ++ ps) (vs.take A ++ vs10)) := o11
                    have HQ11 : Hid (Below w5.heap.size w5 w11) := q11
                    have hw11 := q11.size
                    clear o11 g11 q11 HO10 HS10 HQ10
                    have hwA : IntKind.i64.wrap ((A : Int) + 1) = (A : Int) + 1 := by rw [IntKind.wrap_i64]; omega
                    have hA1 : (A : Int) + 1 = ((A + 1 : Nat) : Int) := by omega
                    obtain ⟨A1, hA1e⟩ : ∃ A1, A + 1 = A1 := ⟨_, rfl⟩
                    rw [hA1e] at hA1 HPU
                    have hA1c : (A1 : Int) ≤ (c2 : Int) := by omega
                    have hA1l : (A1 : Int) ≤ (gs.length : Int) := by omega
                    have HDG : Hid ((gs.drop A1).length = gs.length - A1) := List.length_drop
                    go_upto_region 21 with fail
                    go_cut [11] from 128 to 133 (fun v11 wx => ∃ vs, OwnT wx w5.heap.size v11 G vs ∧ Below w5.heap.size w5 wx)
                    case first =>
                      by_cases hcA : c2 = A1
                      · subst hcA
                        have hg0 : gs.length - c2 = 0 := by omega
                        have hgd0 : gs.drop c2 = [] := List.drop_eq_nil_of_le (by omega)
                        rw [hgd0] at HPU
                        have HD : Hid (SrcV w11 (.slice (some ⟨gb, 0, none⟩) 0 0) [] []) := SrcV.none
                        go_wp2_with (at_builtin; refine append_ts rfl _ _ rfl w5.heap.size v11 (.slice (some ⟨gb, 0, none⟩) 0 0) (gs.take A ++ ps) [] (vs.take A ++ vs10) [] rfl rfl HO11.out HD.out (by rw [List.length_append, HGT.out]; simp; omega) hw11 ?_)
                        intro v12 w12 o12 g12
                        have q12 : Below w5.heap.size w5 w12 := Below.grown HQ11.out g12 hw11 (fun j hj => (World.ownsRow.lt HO11.out.1 j hj).1)
                        have r12 : OwnT w12 w5.heap.size v12 G (vs.take A ++ (vs10 ++ [])) := by rw [HPU.out]; simpa using o12
                        clear o12 g12
                        go_wp2_with fail
                        go_meet
                        case rel => exact ⟨_, r12, q12⟩
                      · have hcA2 : (c2 == A1) = false := by simpa using hcA
                        have HD : Hid (SrcV w11 (.slice (some ⟨gb, A1, none⟩) (gs.length - A1) (c2 - A1)) (gs.drop A1) (vs.drop A1)) := by have q := (HSV.out.drop A1).below HQ11.out; rw [Nat.zero_add] at q; exact q
                        go_wp2_with (at_builtin; refine append_ts rfl _ _ rfl w5.heap.size v11 (.slice (some ⟨gb, A1, none⟩) (gs.length - A1) (c2 - A1)) (gs.take A ++ ps) (gs.drop A1) (vs.take A ++ vs10) (vs.drop A1) rfl rfl HO11.out HD.out (by rw [List.length_append, HGT.out]; simp; omega) hw11 ?_)
                        intro v12 w12 o12 g12
                        have q12 : Below w5.heap.size w5 w12 := Below.grown HQ11.out g12 hw11 (fun j hj => (World.ownsRow.lt HO11.out.1 j hj).1)
                        have r12 : OwnT w12 w5.heap.size v12 G (vs.take A ++ (vs10 ++ (vs.drop A1))) := by rw [HPU.out]; simpa using o12
                        clear o12 g12
                        go_wp2_with fail
                        go_meet
                        case rel => exact ⟨_, r12, q12⟩
                    case rest =>
                      obtain ⟨vs12, o12, q12⟩ := hcut
                      have TE := HTE.out wc _ o12.bk
                      have HQ12 : Hid (Below w.heap.size w wc) := HB5.out.trans (q12.mono HB5.out.size)
                      clear o12 q12 HO11 HQ11 HSV HSL HX5 HPT HCB
                      go_wp2_with fail
                      refine TE.mono ?_
                      rintro e w13 ⟨v13, rfl, s13, b13⟩
                      have HB13 : Hid (Below w.heap.size w w13) := HQ12.out.trans (b13.mono HQ12.out.size)
                      have HS13 : Hid (Strs w13 w.heap.size v13 tg) := strs_low s13 HQ12.out.size
                      have AL := HAL.out w13 _ _ HS13.out
                      clear TE s13 b13 HQ12
                      go_wp2_with fail
                      refine AL.mono ?_
                      rintro e w14 ⟨v14, rfl, b14⟩
                      have HB14 : Hid (Below w.heap.size w w14) := HB13.out.trans (b14.mono HB13.out.size)
                      have HS14 : Hid (Strs w14 w.heap.size v13 tg) := HS13.out.below b14
                      clear AL b14 HB13 HS13
                      cases tk
                      · go_wp2
                        go_ret2
                        rw [HRE.out]
                        exact ⟨_, rfl, World.ownsRow_nil _ _ _ _, HB14.out⟩
                      · cases ib
                        · go_wp2
                          go_ret2
                          rw [HRE.out]
                          exact ⟨_, rfl, World.ownsRow_nil _ _ _ _, HB14.out⟩
                        · go_wp2
                          go_ret2
                          rw [HRE.out]
                          exact ⟨_, rfl, HS14.out, HB14.out⟩
end Go.Proofs.YticogafoopkflaaDoor
