/- Contract of the specification's DropFromPages. -/
import Derived.Test.YticogafoopkflaaDoorAppT6
import Derived.Test.YticogafoopkflaaDoorSBook6
import Derived.Test.YticogafoopkflaaDoorSTell6
import Derived.Test.YticogafoopkflaaDoorPDropA
import Derived.Test.YticogafoopkflaaDoorIDraw6
import Derived.Deep.RegionLaw
import Derived.Deep.RegionHeldLaw
namespace Go.Proofs.YticogafoopkflaaDoor
open Go.RowKit

theorem append_rws_g {w : World} {ops : Array Oper} {rest : List Oper} {o : Oper} {a : Act} {Q : Exit → Act → World → Prop} (hw : Region.wanted o (yielded ops a.tmps) = true) (s x : Operand)
    (ho : o.op = .call { callee := .builtin .append, args := #[s, x], argTypes := #[23, 23] }) (B : Nat) (v vx : Value) (l l' : List Rw) (hs : a.eval s = v) (hx : a.eval x = vx) (hI : Rws w B v l) (hR : SlV w vx l')
    (h63 : l.length + l'.length ≤ 1048576) (hbase : B ≤ w.heap.size) (h : ∀ v' w', Rws w' B v' (l ++ l') → w.grownBy w' v.ownBlock → wpList Tryd.prog ops Q rest (a.put o.dst v') w') : wpList Tryd.prog ops Q (o :: rest) a w :=
  wpList_step fun _ hK => by
    rw [if_pos hw]
    exact wp_append_rws s x ho B v vx l l' hs hx hI hR h63 hbase fun v' w' h1 h2 => hK _ _ (h v' w' h1 h2)

theorem step_append_rws_g {w : World} {ops : Array Oper} {o : Oper} {a : Act} {K : Act → World → Prop} {Q : Exit → Act → World → Prop} {E : Prop} (hw : Region.wanted o (yielded ops a.tmps) = true) (s x : Operand)
    (ho : o.op = .call { callee := .builtin .append, args := #[s, x], argTypes := #[23, 23] }) (B : Nat) (v vx : Value) (l l' : List Rw) (hs : a.eval s = v) (hx : a.eval x = vx) (hI : Rws w B v l) (hR : SlV w vx l')
    (h63 : l.length + l'.length ≤ 1048576) (hbase : B ≤ w.heap.size) (h : ∀ v' w', Rws w' B v' (l ++ l') → w.grownBy w' v.ownBlock → K (a.put o.dst v') w') :
    if Region.wanted o (yielded ops a.tmps) = true then Oper.wp Tryd.prog o a w K Q else E := by
  rw [if_pos hw]
  exact wp_append_rws s x ho B v vx l l' hs hx hI hR h63 hbase h

theorem filter_step {l : List Rw} {key : ByteArray} {j : Nat} {y : Rw} (hy : l[j]? = some y) : (l.take (j + 1)).filter (fun y => decide (y.key ≠ key)) = (l.take j).filter (fun y => decide (y.key ≠ key)) ++ (if y.key = key then [] else [y]) := by
  rw [List.take_add_one, hy, List.filter_append]
  congr 1
  by_cases h : y.key = key
  · simp [h]
  · simp [h]

theorem ansG_is {G : List (List Rw)} (hb : Book G) : ansG G = if (bookF (G.map pgB)).isSome = true then some (G.map pgB) else none := by
  rw [ansG_spec hb]
  cases h : ansG G with
  | none => simp
  | some ss =>
    obtain ⟨rfl, _⟩ := ansG_some h
    simp

theorem strsE_low {w : World} {B B' : Nat} {v : Value} {ss : List ByteArray} (h : Strs w B v ss) (hb : B' ≤ B) : Strs w B' v ss := by
  refine ⟨h.1, ?_⟩
  rcases h.2 with h0 | ⟨g, cap, cur, q1, q2, q3⟩
  · exact .inl h0
  · exact .inr ⟨g, cap, cur, q1, Nat.le_trans hb q2, q3⟩

theorem below_noneD {u w' : World} (g : u.grownBy w' none) : Below u.heap.size u w' := ⟨g.os, g.tape, g.output, g.size, fun k hk => g.block k hk (by simp)⟩

def SdRel (w5 : World) (l : List Rw) (key : ByteArray) (v i : Value) (wr : World) : Prop :=
  ∃ j : Nat, j ≤ l.length ∧ i = .int .i64 (j : Int) ∧ Rws wr w5.heap.size v ((l.take j).filter (fun y => decide (y.key ≠ key))) ∧ Below w5.heap.size w5 wr

set_option maxRecDepth 100000 in
set_option maxHeartbeats 16000000 in
theorem specDrop_any {w : World} {B : Nat} {vp : Value} {ss : List ByteArray} (key : ByteArray) (hS : Strs w B vp ss) (hz : ∀ s ∈ ss, s.size ≤ 1048576) (hl : ss.length ≤ 1048576) :
    Calls Tryd.prog 26 #[vp, .string key] w fun e w' => ∃ v', e = .returned (.tuple #[v', .bool (dropA ss key).isSome]) ∧ Strs w' w.heap.size v' ((dropA ss key).getD []) ∧ Below w.heap.size w w' := by
  have BK := specAll_any hS hz hl
  obtain ⟨a, c, rfl, _⟩ := strs6_all hS
  obtain ⟨R, HR⟩ : ∃ R, Hid (dropA ss key = R) := ⟨_, rfl⟩
  rw [HR.out]
  clear hS hz
  cases hbk : bookF ss with
  | none =>
    have HA : Hid (R = none) := by show _ = _; rw [← HR.out]; exact dropA_bad hbk
    rw [hbk] at BK
    clear hbk
    go_enter Tryd.func26, Tryd.ntmps26
    go_wp2_with fail
    refine BK.mono ?_
    rintro e w2 ⟨v2, rfl, _, b2⟩
    have HB2 : Hid (Below w.heap.size w w2) := b2
    clear BK b2
    go_wp2
    go_ret2
    rw [HA.out]
    exact ⟨_, rfl, World.ownsRow_nil _ _ _ _, HB2.out⟩
  | some gs =>
    rw [hbk] at BK
    have HBK : Hid (bookF ss = some gs) := hbk
    obtain ⟨hgl, hg60⟩ := bookF_is hbk
    have HG60 : Hid (∀ l ∈ gs, 0 < l.length ∧ l.length ≤ 1048576) := fun l hl => ⟨(bookF_good hbk l hl).2, by have := hg60 l hl; omega⟩
    have HBO : Hid (Book gs ∧ (∀ g ∈ gs, lnP g ≤ 300) ∧ gs.length ≤ 40) := bookF_book hbk
    have hpp := (plF_is (gs := gs) key).1
    have HPL : Hid (∀ (u : World) (v : Value), BkV u v gs → Calls Tryd.prog 49 #[v, .string key] u fun e w' => e = .returned (.int .i64 (plF gs key : Int)) ∧ Below u.heap.size u w') := fun u v h => place_any key h (by omega) HG60.out
    clear hg60 hbk
    obtain ⟨k, HK⟩ : ∃ k, Hid (plF gs key = k) := ⟨_, rfl⟩
    rw [HK.out] at hpp HPL
    by_cases hke : k = gs.length
    · have HA : Hid (R = none) := by show _ = _; rw [← HR.out]; exact dropA_end HBK.out (by rw [HK.out]; exact hke)
      subst hke
      go_enter Tryd.func26, Tryd.ntmps26
      go_wp2_with fail
      refine BK.mono ?_
      rintro e w2 ⟨v2, rfl, hN, b2⟩
      obtain ⟨vs, N2⟩ := hN gs rfl
      have PL := HPL.out w2 _ N2.bk
      obtain ⟨a2, c2, rfl, _⟩ := N2.form
      have HB2 : Hid (Below w.heap.size w w2) := b2
      clear BK b2 hN N2 HPL
      go_wp2_with fail
      refine PL.mono ?_
      rintro e w3 ⟨rfl, b3⟩
      have HB3 : Hid (Below w.heap.size w w3) := HB2.out.trans (b3.mono HB2.out.size)
      clear PL b3
      go_wp2
      go_ret2
      rw [HA.out]
      exact ⟨_, rfl, World.ownsRow_nil _ _ _ _, HB3.out⟩
    · have hkl : k < gs.length := by omega
      have hk8 : (k : Int) < (gs.length : Int) := by omega
      have hk9 : ¬ (k : Int) = (gs.length : Int) := by omega
      have hk9b : ((k : Int) == (gs.length : Int)) = false := by simp; omega
      obtain ⟨l, hl'⟩ : ∃ l, gs[k]? = some l := ⟨_, List.getElem?_eq_getElem hkl⟩
      have HLK : Hid (gs[k]? = some l) := hl'
      have hlm := List.mem_of_getElem? hl'
      have HRI : Hid (Rise l) := goodR_rise (HBO.out.1.good l hlm).1
      have hl0 := (HG60.out l hlm).1
      have hl59 : l.length ≤ 59 := fit59 HRI.out (HBO.out.2.1 l hlm)
      have hgs40 : gs.length ≤ 40 := HBO.out.2.2
      have HZ : Hid (∀ q ∈ gs, RwB q ∧ q.length ≤ 60) := fun q hq => ⟨goodR_RwB (HBO.out.1.good q hq).1, goodR_len (HBO.out.1.good q hq).1⟩
      obtain ⟨l', HL'⟩ : ∃ l', Hid (l.filter (fun y => decide (y.key ≠ key)) = l') := ⟨_, rfl⟩
      have hl'b : l'.length ≤ l.length := by rw [← HL'.out]; exact List.length_filter_le _ _
      have HSUB : Hid (l'.Sublist l) := by show List.Sublist _ _; rw [← HL'.out]; exact List.filter_sublist
      have HRB' : Hid (RwB l') := ⟨by omega, fun x hx => (HZ.out l hlm).1.2 x (HSUB.out.subset hx)⟩
      have HDB : Hid (Book (dropG gs k l')) := dropG_book HBO.out.1 HLK.out HSUB.out
      have hGl : (dropG gs k l').length ≤ 40 := by have := (dropG_cases gs k l' hkl).2.2; omega
      have HTH : Hid ((thereF l key = false ∧ l' = l ∧ R = none) ∨ (l'.length + 1 = l.length ∧ R = if (bookF ((dropG gs k l').map pgB)).isSome = true then some ((dropG gs k l').map pgB) else none)) := by
        show _ ∨ _
        cases hth : thereF l key
        · exact .inl ⟨rfl, by rw [← HL'.out]; exact filter_not HRI.out hth, by rw [← HR.out]; exact dropA_no HBK.out (by rw [HK.out]; exact HLK.out) hth⟩
        · have e := filter_there HRI.out hth
          rw [HL'.out] at e
          refine .inr ⟨by rw [e, dropR_len HRI.out hth]; omega, ?_⟩
          rw [← HR.out, dropA_yes HBK.out (by rw [HK.out]; exact HLK.out) hth, HK.out, ← e]
          exact ansG_is HDB.out
      have HTE : Hid (∀ (u : World) (v : Value), BkV u v (dropG gs k l') → ∃ tk : Bool, Calls Tryd.prog 48 #[v] u fun e w' => ∃ v', e = .returned (.tuple #[v', .bool tk]) ∧ Strs w' u.heap.size v' ((dropG gs k l').map pgB) ∧ Below u.heap.size u w') := fun u v h => ⟨_, tell_any h (by omega) (fun g hg => goodR_RwB (HDB.out.good g hg).1)⟩
      have HAL : Hid (∀ (u : World) (B : Nat) (v : Value), Strs u B v ((dropG gs k l').map pgB) → Calls Tryd.prog 46 #[v] u fun e w' => ∃ v', e = .returned (.tuple #[v', .bool (bookF ((dropG gs k l').map pgB)).isSome]) ∧ Below u.heap.size u w') := fun u B v h => by
        refine Calls.mono (specAll_any h (fun s hs => ?_) (by rw [List.length_map]; omega)) ?_
        · obtain ⟨g, hg, rfl⟩ := List.mem_map.1 hs
          rw [pgB_size]
          have := lnP_take_le1 (goodR_RwB (HDB.out.good g hg).1)
          omega
        · rintro e w' ⟨v', rfl, _, b⟩
          exact ⟨v', rfl, b⟩
      obtain ⟨tg, HTG⟩ : ∃ tg, Hid ((dropG gs k l').map pgB = tg) := ⟨_, rfl⟩
      rw [HTG.out] at HTH HAL
      obtain ⟨ib, HIB⟩ : ∃ ib, Hid ((bookF tg).isSome = ib) := ⟨_, rfl⟩
      rw [HIB.out] at HTH HAL
      obtain ⟨G, HGG⟩ : ∃ G, Hid (dropG gs k l' = G) := ⟨_, rfl⟩
      have HTG2 : Hid (G.map pgB = tg) := by show _ = _; rw [← HGG.out]; exact HTG.out
      rw [HGG.out] at HTE
      have HPG : Hid (∀ (u : World) (al : Option Addr) (cl : Nat) (q : List Rw), SlRw u al q → RwB q → Calls Tryd.prog 47 #[.slice al q.length cl] u fun e w' => ∃ s : ByteArray, s.size = lnP q ∧ e = .returned (.string s) ∧ Below u.heap.size u w') := fun u al cl q h1 h2 => (specPage_any h1 h2).mono fun e w' h => ⟨_, byT_size _, h.1, h.2⟩
      clear hl' HBK HG60 hlm HK HR HDB HTG HIB hke
      go_enter Tryd.func26, Tryd.ntmps26
      go_wp2_with fail
      refine BK.mono ?_
      rintro e w2 ⟨v2, rfl, hN, b2⟩
      obtain ⟨vs, N2⟩ := hN gs rfl
      have PL := HPL.out w2 _ N2.bk
      obtain ⟨a2, c2, rfl, _⟩ := N2.form
      have HB2 : Hid (Below w.heap.size w w2) := b2
      have HN2 : Hid (NestR w2 _ w2.heap.size (.slice a2 gs.length c2) gs vs) := N2
      clear BK b2 hN N2 HPL
      go_wp2_with fail
      refine PL.mono ?_
      rintro e w5 ⟨rfl, b5⟩
      have HB5 : Hid (Below w.heap.size w w5) := HB2.out.trans (b5.mono HB2.out.size)
      have N5 := HN2.out.below b5
      obtain ⟨a5, c5, hv5, fm⟩ := N5.form
      injection hv5 with q1 _ q3
      subst q1
      subst q3
      obtain ⟨vl, hvl, hI, _⟩ := N5.ins k l HLK.out
      obtain ⟨gb, rfl, _, _, cbx, _⟩ := fm k _ hvl
      clear cbx
      have HOT : Hid (OwnT w5 _ (.slice (some ⟨gb, 0, none⟩) gs.length c2) gs vs) := N5.ownT
      have HAT : Hid (∀ (i : Nat) (q : List Rw), gs[i]? = some q → ∃ a c, (∀ u, Below w5.heap.size w5 u → u.cell? ⟨gb, i, none⟩ = some (.slice a q.length c) ∧ SlV u (.slice a q.length c) q)) := fun i q hq => by
        obtain ⟨a, c, h1, h2⟩ := HOT.out.at hq
        exact ⟨a, c, fun u hu => ⟨(hu.cell (p := ⟨gb, i, none⟩) (rw_cell_lt h1)).trans h1, ⟨a, c, rfl, h2.sl.below hu (Nat.le_refl _)⟩⟩⟩
      have HSV : Hid (SrcV w5 (.slice (some ⟨gb, 0, none⟩) gs.length c2) gs vs) := N5.ownT.srcV
      have hc2 : gs.length ≤ c2 ∧ c2 ≤ 9223372036854775807 := by
        rcases N5.row.2 with ⟨q, _⟩ | ⟨g', cap', cur, q, _, _, q3, q4, _⟩
        · cases q
        · injection q with _ _ q5
          subst q5
          unfold maxLen at q4
          omega
      obtain ⟨al, cl, hat⟩ := HAT.out k l HLK.out
      have HLA : Hid (∀ u, Below w5.heap.size w5 u → u.cell? ⟨gb, k, none⟩ = some (.slice al l.length cl) ∧ SlV u (.slice al l.length cl) l) := hat
      have cb := (hat w5 (Below.refl _ _)).1
      have hcb := rw_cell_lt cb
      clear PL b5 HB2 N5 HN2 fm hvl hI hat
      go_wp2_with fail
      go_loopw [9, 38] (fun v i wr => SdRel w5 l key v i wr) (fun _ i _ => l.length - (intOf i).toNat)
      case atStart => exact ⟨0, Nat.zero_le _, rfl, World.ownsRow_nil _ _ _ _, Below.refl _ _⟩
      case round =>
        clear cb hcb
        obtain ⟨j, hj, rfl, hI, hb⟩ := hrel
        have HBr : Hid (Below w5.heap.size w5 wr) := hb
        have hw5 := hb.size
        by_cases hjl : j < l.length
        · obtain ⟨y, hy⟩ : ∃ y, l[j]? = some y := ⟨_, List.getElem?_eq_getElem hjl⟩
          obtain ⟨a', c', hv', hsl⟩ := (HLA.out wr hb).2
          injection hv' with e1 _ e3
          subst e1
          subst e3
          rcases hsl with h | ⟨b, o, rfl, hE⟩
          · rw [h] at hy; simp at hy
          obtain ⟨e0, e1, e2⟩ := hE j y hy
          have hbl := rw_cell_lt e0
          have hj8 : (j : Int) < (l.length : Int) := by omega
          have HST : Hid ((l.take (j + 1)).filter (fun y => decide (y.key ≠ key)) = (l.take j).filter (fun y => decide (y.key ≠ key)) ++ (if y.key = key then [] else [y])) := filter_step hy
          have HFB : Hid (((l.take j).filter (fun y => decide (y.key ≠ key))).length ≤ 60) := by
            show _ ≤ _
            have h1 := List.length_filter_le (fun y : Rw => decide (y.key ≠ key)) (l.take j)
            rw [List.length_take] at h1
            omega
          obtain ⟨F, HF⟩ : ∃ F, Hid ((l.take j).filter (fun y => decide (y.key ≠ key)) = F) := ⟨_, rfl⟩
          rw [HF.out] at hI HST HFB
          have HI : Hid (Rws wr w5.heap.size u9 F) := hI
          have b1 : Below wr.heap.size wr (wr.alloc (.cells #[.string y.key, .string y.text, .string y.val] 32)) := (Below.refl _ _).alloc (Nat.le_refl _) _
          have HX1 : Hid (BoxR6 (wr.alloc (.cells #[.string y.key, .string y.text, .string y.val] 32)) wr.heap.size y) := box_new6 wr y
          have HB1 : Hid (Below wr.heap.size wr (wr.alloc (.cells #[.string y.key, .string y.text, .string y.val] 32))) := b1
          clear hE hy hb hI b1
          by_cases hyk : y.key = key
          · rw [if_pos hyk, List.append_nil] at HST
            have hkT : (y.key.toList == key.toList) = true := by rw [hyk]; simp
            have hkN : (y.key.toList != key.toList) = false := by rw [hyk]; simp
            have HBa : Hid (∀ o, Below w5.heap.size w5 (wr.alloc o)) := fun o => HBr.out.alloc HBr.out.size o
            have HIa : Hid (∀ o, Rws (wr.alloc o) w5.heap.size u9 F) := fun o => HI.out.below ((Below.refl _ _).alloc (Nat.le_refl _) o)
            clear hyk HB1 HX1 HI HBr
            go_wp2
            exact ⟨⟨j + 1, by omega, by go_num, by rw [HST.out]; exact HIa.out _, HBa.out _⟩, by simp [intOf]; omega⟩
          · rw [if_neg hyk] at HST
            have hkF := ne_list6 hyk
            have hkN : (y.key.toList != key.toList) = true := by simp only [bne, hkF]; rfl
            have b2 : Below (wr.alloc (.cells #[.string y.key, .string y.text, .string y.val] 32)).heap.size (wr.alloc (.cells #[.string y.key, .string y.text, .string y.val] 32)) ((wr.alloc (.cells #[.string y.key, .string y.text, .string y.val] 32)).alloc (.cells #[.string y.key, .string y.text, .string y.val] 32)) := (Below.refl _ _).alloc (Nat.le_refl _) _
            have HB2' : Hid (Below w5.heap.size w5 ((wr.alloc (.cells #[.string y.key, .string y.text, .string y.val] 32)).alloc (.cells #[.string y.key, .string y.text, .string y.val] 32))) := HBr.out.trans ((HB1.out.trans (b2.mono HB1.out.size)).mono HBr.out.size)
            have HI2 : Hid (Rws ((wr.alloc (.cells #[.string y.key, .string y.text, .string y.val] 32)).alloc (.cells #[.string y.key, .string y.text, .string y.val] 32)) w5.heap.size u9 F) := (HI.out.below HB1.out).below b2
            have HY2 : Hid (SlV ((wr.alloc (.cells #[.string y.key, .string y.text, .string y.val] 32)).alloc (.cells #[.string y.key, .string y.text, .string y.val] 32)) (.slice (some ⟨wr.heap.size + 1, 0, none⟩) 1 1) [y]) := (rws_lit1 (wr.alloc (.cells #[.string y.key, .string y.text, .string y.val] 32)) _ w5.heap.size y (by simp) (by simp; omega)).slV
            clear hyk b2
            go_wp2_with (at_builtin; refine append_rws rfl _ _ rfl w5.heap.size u9 (.slice (some ⟨wr.heap.size + 1, 0, none⟩) 1 1) F [y] rfl rfl HI2.out HY2.out (by have := HFB.out; simp; omega) HB2'.out.size ?_)
            intro v6 w6 i6 g6
            have HI6 : Hid (Rws w6 w5.heap.size v6 (F ++ [y])) := i6
            have HQ6 : Hid (Below w5.heap.size w5 w6) := Below.grown HB2'.out g6 HB2'.out.size (fun j hj => (World.ownsRow.lt HI2.out j hj).1)
            clear i6 g6 HI2 HY2 HB2' HB1 HX1 HI HBr e0 e1 e2 hbl
            go_wp2
            exact ⟨⟨j + 1, by omega, by go_num, by rw [HST.out]; exact HI6.out, HQ6.out⟩, by simp [intOf]; omega⟩
        · obtain rfl : j = l.length := by omega
          rw [List.take_length, HL'.out] at hI
          obtain ⟨w6, rfl⟩ : ∃ w6, w6 = wr := ⟨_, rfl⟩
          obtain ⟨a9, c9, hv9⟩ := rw_form hI
          subst hv9
          have HI6 : Hid (Rws w6 w5.heap.size (.slice a9 l'.length c9) l') := hI
          have cb := (HLA.out w6 hb).1
          have hcb := rw_cell_lt cb
          clear hI hb hjl hj
          rcases HTH.out with ⟨_, hll, hR⟩ | ⟨hll, hR⟩
          · have HA : Hid (R = none) := hR
            have hlen : (l'.length : Int) = (l.length : Int) := by rw [hll]
            have hlen2 : ((l'.length : Int) == (l.length : Int)) = true := by simp [hlen]
            have HBW : Hid (Below w.heap.size w w6) := HB5.out.trans (HBr.out.mono HB5.out.size)
            clear hll hR HTH
            go_wp2
            go_ret2
            rw [HA.out]
            exact ⟨_, rfl, World.ownsRow_nil _ _ _ _, HBW.out⟩
          · have HRE : Hid (R = if ib = true then some tg else none) := hR
            have hlen : ¬ (l'.length : Int) = (l.length : Int) := by omega
            have hlen2 : ((l'.length : Int) == (l.length : Int)) = false := by simp; omega
            have HLL : Hid (l'.length + 1 = l.length) := hll
            obtain ⟨k1, hk1⟩ : ∃ k1, k + 1 = k1 := ⟨_, rfl⟩
            have HK1 : Hid (k + 1 = k1) := hk1
            have hk18 : (k : Int) + 1 = (k1 : Int) := by omega
            have hwk1 : IntKind.i64.wrap (k1 : Int) = (k1 : Int) := by rw [IntKind.wrap_i64]; omega
            have hk1l : k1 ≤ gs.length := by omega
            clear hll hR HTH hk1
            by_cases hl0' : l'.length = 0
            · have hl08 : (l'.length : Int) = 0 := by omega
              have HGF : Hid (G = gs.take k ++ ([] ++ gs.drop k1)) := by show _ = _; rw [← HGG.out, dropG_none hl0', HK1.out]; rfl
              have hft : k ≤ gs.length := by omega
              have hfc : (k : Int) ≤ (c2 : Int) := by omega
              have HSA : Hid (SrcV w6 (.slice (some ⟨gb, 0, none⟩) k c2) (gs.take k) (vs.take k)) := (HSV.out.take k hft).below HBr.out
              have HGT : Hid ((gs.take k).length = k) := by show _ = _; rw [List.length_take]; omega
              have hw7 := (HBr.out).size
              go_wp2_with (at_builtin; refine append_ts rfl _ _ rfl w5.heap.size (.slice none 0 0) (.slice (some ⟨gb, 0, none⟩) k c2) [] (gs.take k) [] (vs.take k) rfl rfl (ownT_nil _ _) HSA.out (by rw [HGT.out]; simp; omega) hw7 ?_)
              intro v9 w9 o9 g9
              have q9 : Below w6.heap.size w6 w9 := below_noneD g9
              have HO9 : Hid (OwnT w9 w5.heap.size v9 (gs.take k) (vs.take k)) := o9
              have HQ9 : Hid (Below w5.heap.size w5 w9) := (HBr.out).trans (q9.mono (HBr.out).size)
              have hln0 : ¬ (0 : Int) < (l'.length : Int) := by omega
              clear o9 g9 q9 HSA
              have hw11 := HQ9.out.size
              have htc : (k1 : Int) ≤ (c2 : Int) := by omega
              have htl : (k1 : Int) ≤ (gs.length : Int) := by omega
              go_upto_region 29 with fail
              go_cut [14] from 135 to 139 (fun v14 wx => ∃ vs, OwnT wx w5.heap.size v14 G vs ∧ Below w5.heap.size w5 wx)
              case first =>
                by_cases hcA : c2 = k1
                · have hgd0 : gs.drop k1 = [] := List.drop_eq_nil_of_le (by omega)
                  rw [hgd0] at HGF
                  have hg0 : gs.length - k1 = 0 := by omega
                  have hc0 : (c2 == k1) = true := by simpa using hcA
                  have hcc0 : c2 - k1 = 0 := by omega
                  subst hcA
                  have HD : Hid (SrcV w9 (.slice (some ⟨gb, 0, none⟩) 0 0) [] []) := SrcV.none
                  go_wp2_with (at_builtin; refine append_ts rfl _ _ rfl w5.heap.size v9 (.slice (some ⟨gb, 0, none⟩) 0 0) (gs.take k) [] (vs.take k) [] rfl rfl HO9.out HD.out (by simp; omega) hw11 ?_)
                  intro v12 w12 o12 g12
                  have q12 : Below w5.heap.size w5 w12 := Below.grown HQ9.out g12 hw11 (fun j hj => (World.ownsRow.lt HO9.out.1 j hj).1)
                  have r12 : OwnT w12 w5.heap.size v12 G ((vs.take k) ++ []) := by rw [HGF.out]; simpa using o12
                  clear o12 g12
                  go_wp2_with fail
                  go_meet
                  case rel => exact ⟨_, r12, q12⟩
                · have hcA2 : (c2 == k1) = false := by simpa using hcA
                  have HD : Hid (SrcV w9 (.slice (some ⟨gb, k1, none⟩) (gs.length - k1) (c2 - k1)) (gs.drop k1) (vs.drop k1)) := by have q := (HSV.out.drop k1).below HQ9.out; rw [Nat.zero_add] at q; exact q
                  go_wp2_with (at_builtin; refine append_ts rfl _ _ rfl w5.heap.size v9 (.slice (some ⟨gb, k1, none⟩) (gs.length - k1) (c2 - k1)) (gs.take k) (gs.drop k1) (vs.take k) (vs.drop k1) rfl rfl HO9.out HD.out (by simp; omega) hw11 ?_)
                  intro v12 w12 o12 g12
                  have q12 : Below w5.heap.size w5 w12 := Below.grown HQ9.out g12 hw11 (fun j hj => (World.ownsRow.lt HO9.out.1 j hj).1)
                  have r12 : OwnT w12 w5.heap.size v12 G ((vs.take k) ++ (vs.drop k1)) := by rw [HGF.out]; simpa using o12
                  clear o12 g12
                  go_wp2_with fail
                  go_meet
                  case rel => exact ⟨_, r12, q12⟩
              case rest =>
                obtain ⟨vs12, o12, q12⟩ := hcut
                obtain ⟨tk, TE⟩ := HTE.out wc _ o12.bk
                have HQ12 : Hid (Below w.heap.size w wc) := HB5.out.trans (q12.mono HB5.out.size)
                clear o12 q12 HO9 HQ9 HSV HLA HAT HOT
                go_wp2_with fail
                refine TE.mono ?_
                rintro e w13 ⟨v13, rfl, s13, b13⟩
                have HB13 : Hid (Below w.heap.size w w13) := HQ12.out.trans (b13.mono HQ12.out.size)
                have HS13 : Hid (Strs w13 w.heap.size v13 tg) := strsE_low (by rw [← HTG2.out]; exact s13) HQ12.out.size
                have AL := HAL.out w13 _ _ HS13.out
                clear TE s13 b13 HQ12
                go_wp2_with fail
                refine AL.mono ?_
                rintro e w14 ⟨v14, rfl, b14⟩
                have HB14 : Hid (Below w.heap.size w w14) := HB13.out.trans (b14.mono HB13.out.size)
                have HS14 : Hid (Strs w14 w.heap.size v13 tg) := HS13.out.below b14
                clear AL b14 HB13 HS13
                cases ib
                · go_wp2
                  go_ret2
                  rw [HRE.out]
                  exact ⟨_, rfl, World.ownsRow_nil _ _ _ _, HB14.out⟩
                · go_wp2
                  go_ret2
                  rw [HRE.out]
                  exact ⟨_, rfl, HS14.out, HB14.out⟩
            · have hl08 : ¬ (l'.length : Int) = 0 := by omega
              have hl09 : ((l'.length : Int) == 0) = false := by simp; intro e; rw [e] at hl0'; simp at hl0'
              obtain ⟨b1, HB1⟩ : ∃ b1 : Bool, Hid (b1 = decide (0 < k ∧ lnP (gAt gs (k - 1) ++ l') ≤ 300)) := ⟨_, rfl⟩
              go_upto_region 19 with fail
              go_cut [66] from 67 to 82 (fun v66 wx => v66 = .bool b1 ∧ Rws wx w5.heap.size (.slice a9 l'.length c9) l' ∧ Below w5.heap.size w5 wx)
              case first =>
                by_cases hk0 : 0 < k
                · have hk08 : (0 : Int) < (k : Int) := by omega
                  obtain ⟨f, hf⟩ : ∃ f, k - 1 = f := ⟨_, rfl⟩
                  have hf8 : (k : Int) - 1 = (f : Int) := by omega
                  have hfl : (f : Int) < (gs.length : Int) := by omega
                  obtain ⟨p, hp⟩ : ∃ p, gs[f]? = some p := ⟨_, List.getElem?_eq_getElem (by omega)⟩
                  have HGA : Hid (gAt gs (k - 1) = p) := by show _ = _; rw [hf]; unfold gAt; rw [hp]; rfl
                  obtain ⟨ap, cp, hat⟩ := HAT.out f p hp
                  have zp := HZ.out p (List.mem_of_getElem? hp)
                  have hzp := zp.2
                  have HRB : Hid (RwB (p ++ l')) := rwb_app zp.1 HRB'.out (by omega)
                  have pb := (hat w6 HBr.out).1
                  have hpb := rw_cell_lt pb
                  have b0 : Below w6.heap.size w6 (w6.alloc (.cells #[] 32)) := (Below.refl _ _).alloc (Nat.le_refl _) _
                  have pb0 := (hat _ (HBr.out.trans (b0.mono HBr.out.size))).1
                  have hpb0 := rw_cell_lt pb0
                  have HR0 : Hid (Rws (w6.alloc (.cells #[] 32)) w6.heap.size (.slice (some ⟨w6.heap.size, 0, none⟩) 0 0) []) := rws_lit0 w6 _ _ rfl (Nat.le_refl _)
                  have HS0 : Hid (SlV (w6.alloc (.cells #[] 32)) (.slice ap p.length cp) p) := (hat _ (HBr.out.trans (b0.mono HBr.out.size))).2
                  have HB0 : Hid (Below w6.heap.size w6 (w6.alloc (.cells #[] 32))) := b0
                  clear hp zp b0 hat
                  go_wp2_with (at_builtin; refine append_rws_g (by kernel_rfl) _ _ rfl w6.heap.size (.slice (some ⟨w6.heap.size, 0, none⟩) 0 0) (.slice ap p.length cp) [] p rfl rfl HR0.out HS0.out (by simp; omega) HB0.out.size ?_)
                  intro v7 w7 i7 g7
                  have q7 : Below w6.heap.size w6 w7 := Below.grown HB0.out g7 HB0.out.size (fun j hj => by have h2 : w6.heap.size = j := Option.some.inj hj; omega)
                  have HI7 : Hid (Rws w7 w6.heap.size v7 p) := i7
                  have HQ7 : Hid (Below w6.heap.size w6 w7) := q7
                  have HL7 : Hid (SlV w7 (.slice a9 l'.length c9) l') := (HI6.out.slV).below q7 (Nat.le_refl _)
                  clear i7 g7 q7 HR0 HS0 HB0 pb hpb pb0 hpb0
                  go_wp2_with (at_builtin; refine append_rws_g (by kernel_rfl) _ _ rfl w6.heap.size v7 (.slice a9 l'.length c9) p l' rfl rfl HI7.out HL7.out (by omega) HQ7.out.size ?_)
                  intro v8 w8 i8 g8
                  have q8 : Below w6.heap.size w6 w8 := Below.grown HQ7.out g8 HQ7.out.size (fun j hj => (World.ownsRow.lt HI7.out j hj).1)
                  obtain ⟨a8, c8, hv8⟩ := rw_form i8
                  subst hv8
                  have HQ8 : Hid (Below w6.heap.size w6 w8) := q8
                  have PG := HPG.out w8 a8 c8 (p ++ l') (rws_sl i8) HRB.out
                  clear i8 g8 q8 HI7 HL7 HQ7
                  have hlnb := lnP_take_le1 HRB.out
                  obtain ⟨n8, HN8⟩ : ∃ n8, Hid (lnP (p ++ l') = n8) := ⟨_, rfl⟩
                  rw [HN8.out] at PG hlnb
                  obtain ⟨L8, HL8⟩ : ∃ L8, Hid (p ++ l' = L8) := ⟨_, rfl⟩
                  rw [HL8.out] at PG ⊢
                  go_wp2_with fail
                  refine PG.mono ?_
                  rintro e w10 ⟨s, hs, rfl, b10⟩
                  have HBE : Hid (b1 = decide ((s.size : Int) ≤ 300)) := by
                    show _ = _
                    rw [HB1.out, HGA.out, HL8.out, hs]
                    have hn := HN8.out
                    rw [HL8.out] at hn
                    rw [hn]
                    by_cases h : n8 ≤ 300
                    · rw [decide_eq_true (p := 0 < k ∧ n8 ≤ 300) ⟨hk0, h⟩, decide_eq_true (p := (n8 : Int) ≤ 300) (by omega)]
                    · rw [decide_eq_false (p := 0 < k ∧ n8 ≤ 300) (fun c => h c.2), decide_eq_false (p := (n8 : Int) ≤ 300) (by omega)]
                  have HQ10 : Hid (Below w6.heap.size w6 w10) := HQ8.out.trans (b10.mono HQ8.out.size)
                  have HI10 : Hid (Rws w10 w5.heap.size (.slice a9 l'.length c9) l') := HI6.out.below HQ10.out
                  have HQ11 : Hid (Below w5.heap.size w5 w10) := HBr.out.trans (HQ10.out.mono HBr.out.size)
                  have hsz : s.size ≤ 196098 := by rw [hs]; exact hlnb
                  clear PG b10 hs hk0
                  go_wp2
                  go_meet
                  case rel => exact ⟨by rw [HBE.out], HI10.out, HQ11.out⟩
                · have hk08 : ¬ (0 : Int) < (k : Int) := by omega
                  have HBE : Hid (b1 = false) := by show _ = _; rw [HB1.out]; exact decide_eq_false (fun c => hk0 c.1)
                  have hk0d : decide ((0 : Int) < (k : Int)) = false := decide_eq_false hk08
                  clear hk0
                  go_wp2
                  go_meet
                  case rel => exact ⟨by rw [HBE.out]; try simp, HI6.out, HBr.out⟩
              case rest =>
                obtain ⟨hu66, i7, q7⟩ := hcut
                subst hu66
                obtain ⟨w7, rfl⟩ : ∃ w7, w7 = wc := ⟨_, rfl⟩
                have HI7 : Hid (Rws w7 w5.heap.size (.slice a9 l'.length c9) l') := i7
                have HQ7 : Hid (Below w5.heap.size w5 w7) := q7
                clear i7 q7 HI6 HBr cb hcb
                by_cases hB1 : 0 < k ∧ lnP (gAt gs (k - 1) ++ l') ≤ 300
                · obtain rfl : b1 = true := by rw [HB1.out]; exact decide_eq_true hB1
                  obtain ⟨hk0, hfit⟩ := hB1
                  obtain ⟨f, hf⟩ : ∃ f, k - 1 = f := ⟨_, rfl⟩
                  have hf8 : (k : Int) - 1 = (f : Int) := by omega
                  have hwf : IntKind.i64.wrap (f : Int) = (f : Int) := by rw [IntKind.wrap_i64]; omega
                  have hfl : (f : Int) < (gs.length : Int) := by omega
                  obtain ⟨p, hp⟩ : ∃ p, gs[f]? = some p := ⟨_, List.getElem?_eq_getElem (by omega)⟩
                  have hga : gAt gs (k - 1) = p := by rw [hf]; unfold gAt; rw [hp]; rfl
                  rw [hga] at hfit
                  have HDG : Hid (dropG gs k l' = gs.take f ++ ([p ++ l'] ++ gs.drop (k + 1))) := by show _ = _; rw [dropG_ahead hl0' hk0 (by rw [hf]; exact hp) hfit, hf]
                  obtain ⟨ap, cp, hat⟩ := HAT.out f p hp
                  have zp := HZ.out p (List.mem_of_getElem? hp)
                  have hzp := zp.2
                  have pb := (hat w7 HQ7.out).1
                  have hpb := rw_cell_lt pb
                  have b0 : Below w7.heap.size w7 (w7.alloc (.cells #[] 32)) := (Below.refl _ _).alloc (Nat.le_refl _) _
                  have pb0 := (hat _ (HQ7.out.trans (b0.mono HQ7.out.size))).1
                  have hpb0 := rw_cell_lt pb0
                  have HR0 : Hid (Rws (w7.alloc (.cells #[] 32)) w7.heap.size (.slice (some ⟨w7.heap.size, 0, none⟩) 0 0) []) := rws_lit0 w7 _ _ rfl (Nat.le_refl _)
                  have HS0 : Hid (SlV (w7.alloc (.cells #[] 32)) (.slice ap p.length cp) p) := (hat _ (HQ7.out.trans (b0.mono HQ7.out.size))).2
                  have HB0 : Hid (Below w7.heap.size w7 (w7.alloc (.cells #[] 32))) := b0
                  clear hp zp b0 hat hfit hk0 hga hf
                  go_wp2_with (at_builtin; refine append_rws rfl _ _ rfl w7.heap.size (.slice (some ⟨w7.heap.size, 0, none⟩) 0 0) (.slice ap p.length cp) [] p rfl rfl HR0.out HS0.out (by simp; omega) HB0.out.size ?_)
                  intro v8 w8 i8 g8
                  have q8 : Below w7.heap.size w7 w8 := Below.grown HB0.out g8 HB0.out.size (fun j hj => by have h2 : w7.heap.size = j := Option.some.inj hj; omega)
                  have HI8 : Hid (Rws w8 w7.heap.size v8 p) := i8
                  have HQ8 : Hid (Below w7.heap.size w7 w8) := q8
                  have HL8 : Hid (SlV w8 (.slice a9 l'.length c9) l') := (HI7.out.slV).below q8 (Nat.le_refl _)
                  clear i8 g8 q8 HR0 HS0 HB0 pb hpb pb0 hpb0
                  go_wp2_with (at_builtin; refine append_rws rfl _ _ rfl w7.heap.size v8 (.slice a9 l'.length c9) p l' rfl rfl HI8.out HL8.out (by omega) HQ8.out.size ?_)
                  intro v9x w9x i9 g9
                  have q9 : Below w7.heap.size w7 w9x := Below.grown HQ8.out g9 HQ8.out.size (fun j hj => (World.ownsRow.lt HI8.out j hj).1)
                  obtain ⟨L8, HL8E⟩ : ∃ L8, Hid (p ++ l' = L8) := ⟨_, rfl⟩
                  have hL8 : 0 < L8.length := by rw [← HL8E.out, List.length_append]; omega
                  have hL9 : L8.length ≤ 255 := by rw [← HL8E.out, List.length_append]; omega
                  rw [HL8E.out] at i9 HDG
                  obtain ⟨a8, c8, hv8⟩ := rw_form i9
                  subst hv8
                  have HI9 : Hid (Rws w9x w7.heap.size (.slice a8 L8.length c8) L8) := i9
                  have HQ9x : Hid (Below w5.heap.size w5 w9x) := HQ7.out.trans (q9.mono HQ7.out.size)
                  clear i9 g9 q9 HI8 HL8 HQ8 HI7 HQ7
                  have HGF : Hid (G = gs.take f ++ ([L8] ++ gs.drop k1)) := by show _ = _; rw [← HGG.out, HDG.out, HK1.out]
                  have hft : f ≤ gs.length := by omega
                  have hfc : (f : Int) ≤ (c2 : Int) := by omega
                  have HSA : Hid (SrcV w9x (.slice (some ⟨gb, 0, none⟩) f c2) (gs.take f) (vs.take f)) := (HSV.out.take f hft).below HQ9x.out
                  have HGT : Hid ((gs.take f).length = f) := by show _ = _; rw [List.length_take]; omega
                  have hw7 := (HQ9x.out).size
                  go_wp2_with (at_builtin; refine append_ts rfl _ _ rfl w5.heap.size (.slice none 0 0) (.slice (some ⟨gb, 0, none⟩) f c2) [] (gs.take f) [] (vs.take f) rfl rfl (ownT_nil _ _) HSA.out (by rw [HGT.out]; simp; omega) hw7 ?_)
                  intro v9 w9 o9 g9
                  have q9 : Below w9x.heap.size w9x w9 := below_noneD g9
                  have HO9 : Hid (OwnT w9 w5.heap.size v9 (gs.take f) (vs.take f)) := o9
                  have HQ9 : Hid (Below w5.heap.size w5 w9) := (HQ9x.out).trans (q9.mono (HQ9x.out).size)
                  have HT9 : Hid (SlTV w9 (.slice a8 L8.length c8) L8) := ⟨_, _, rfl, (Rws.slT HI9.out).below q9 (Nat.le_refl _)⟩
                  have hln0 : (0 : Int) < (L8.length : Int) := by omega
                  clear o9 g9 q9 HSA
                  have b10 : Below w9.heap.size w9 (w9.alloc (.cells #[.slice a8 L8.length c8] 23)) := (Below.refl _ _).alloc (Nat.le_refl _) _
                  have HS10 : Hid (SrcV (w9.alloc (.cells #[.slice a8 L8.length c8] 23)) (.slice (some ⟨w9.heap.size, 0, none⟩) 1 1) [L8] [.slice a8 L8.length c8]) := (ownT_lit1 w9 _ w9.heap.size _ L8 rfl (Nat.le_refl _) HT9.out).srcV
                  have HO10 : Hid (OwnT (w9.alloc (.cells #[.slice a8 L8.length c8] 23)) w5.heap.size v9 (gs.take f) (vs.take f)) := HO9.out.below b10
                  have HQ10 : Hid (Below w5.heap.size w5 (w9.alloc (.cells #[.slice a8 L8.length c8] 23))) := HQ9.out.trans (b10.mono HQ9.out.size)
                  clear b10
                  go_wp2_with (at_builtin; refine append_ts rfl _ _ rfl w5.heap.size v9 (.slice (some ⟨w9.heap.size, 0, none⟩) 1 1) (gs.take f) [L8] (vs.take f) [.slice a8 L8.length c8] rfl rfl HO10.out HS10.out (by rw [HGT.out]; simp; omega) HQ10.out.size ?_)
                  intro v11 w11 o11 g11
                  have HO11 : Hid (OwnT w11 w5.heap.size v11 (gs.take f ++ [L8]) (vs.take f ++ [.slice a8 L8.length c8])) := o11
                  have HQ11 : Hid (Below w5.heap.size w5 w11) := Below.grown HQ10.out g11 HQ10.out.size (fun j hj => (World.ownsRow.lt HO10.out.1 j hj).1)
                  clear o11 g11 HO10 HS10 HQ10 HT9 HO9 HQ9
                  have hw11 := HQ11.out.size
                  have htc : (k1 : Int) ≤ (c2 : Int) := by omega
                  have htl : (k1 : Int) ≤ (gs.length : Int) := by omega
                  go_upto_region 29 with fail
                  go_cut [14] from 135 to 139 (fun v14 wx => ∃ vs, OwnT wx w5.heap.size v14 G vs ∧ Below w5.heap.size w5 wx)
                  case first =>
                    by_cases hcA : c2 = k1
                    · have hgd0 : gs.drop k1 = [] := List.drop_eq_nil_of_le (by omega)
                      rw [hgd0] at HGF
                      have hg0 : gs.length - k1 = 0 := by omega
                      have hc0 : (c2 == k1) = true := by simpa using hcA
                      have hcc0 : c2 - k1 = 0 := by omega
                      subst hcA
                      have HD : Hid (SrcV w11 (.slice (some ⟨gb, 0, none⟩) 0 0) [] []) := SrcV.none
                      go_wp2_with (at_builtin; refine append_ts rfl _ _ rfl w5.heap.size v11 (.slice (some ⟨gb, 0, none⟩) 0 0) (gs.take f ++ [L8]) [] (vs.take f ++ [.slice a8 L8.length c8]) [] rfl rfl HO11.out HD.out (by simp; omega) hw11 ?_)
                      intro v12 w12 o12 g12
                      have q12 : Below w5.heap.size w5 w12 := Below.grown HQ11.out g12 hw11 (fun j hj => (World.ownsRow.lt HO11.out.1 j hj).1)
                      have r12 : OwnT w12 w5.heap.size v12 G ((vs.take f ++ [.slice a8 L8.length c8]) ++ []) := by rw [HGF.out]; simpa using o12
                      clear o12 g12
                      go_wp2_with fail
                      go_meet
                      case rel => exact ⟨_, r12, q12⟩
                    · have hcA2 : (c2 == k1) = false := by simpa using hcA
                      have HD : Hid (SrcV w11 (.slice (some ⟨gb, k1, none⟩) (gs.length - k1) (c2 - k1)) (gs.drop k1) (vs.drop k1)) := by have q := (HSV.out.drop k1).below HQ11.out; rw [Nat.zero_add] at q; exact q
                      go_wp2_with (at_builtin; refine append_ts rfl _ _ rfl w5.heap.size v11 (.slice (some ⟨gb, k1, none⟩) (gs.length - k1) (c2 - k1)) (gs.take f ++ [L8]) (gs.drop k1) (vs.take f ++ [.slice a8 L8.length c8]) (vs.drop k1) rfl rfl HO11.out HD.out (by simp; omega) hw11 ?_)
                      intro v12 w12 o12 g12
                      have q12 : Below w5.heap.size w5 w12 := Below.grown HQ11.out g12 hw11 (fun j hj => (World.ownsRow.lt HO11.out.1 j hj).1)
                      have r12 : OwnT w12 w5.heap.size v12 G ((vs.take f ++ [.slice a8 L8.length c8]) ++ (vs.drop k1)) := by rw [HGF.out]; simpa using o12
                      clear o12 g12
                      go_wp2_with fail
                      go_meet
                      case rel => exact ⟨_, r12, q12⟩
                  case rest =>
                    obtain ⟨vs12, o12, q12⟩ := hcut
                    obtain ⟨tk, TE⟩ := HTE.out wc _ o12.bk
                    have HQ12 : Hid (Below w.heap.size w wc) := HB5.out.trans (q12.mono HB5.out.size)
                    clear o12 q12 HO11 HQ11 HSV HLA HAT HOT
                    go_wp2_with fail
                    refine TE.mono ?_
                    rintro e w13 ⟨v13, rfl, s13, b13⟩
                    have HB13 : Hid (Below w.heap.size w w13) := HQ12.out.trans (b13.mono HQ12.out.size)
                    have HS13 : Hid (Strs w13 w.heap.size v13 tg) := strsE_low (by rw [← HTG2.out]; exact s13) HQ12.out.size
                    have AL := HAL.out w13 _ _ HS13.out
                    clear TE s13 b13 HQ12
                    go_wp2_with fail
                    refine AL.mono ?_
                    rintro e w14 ⟨v14, rfl, b14⟩
                    have HB14 : Hid (Below w.heap.size w w14) := HB13.out.trans (b14.mono HB13.out.size)
                    have HS14 : Hid (Strs w14 w.heap.size v13 tg) := HS13.out.below b14
                    clear AL b14 HB13 HS13
                    cases ib
                    · go_wp2
                      go_ret2
                      rw [HRE.out]
                      exact ⟨_, rfl, World.ownsRow_nil _ _ _ _, HB14.out⟩
                    · go_wp2
                      go_ret2
                      rw [HRE.out]
                      exact ⟨_, rfl, HS14.out, HB14.out⟩
                · obtain rfl : b1 = false := by rw [HB1.out]; exact decide_eq_false hB1
                  have HNA : Hid (∀ a, 0 < k → gs[k - 1]? = some a → ¬ lnP (a ++ l') ≤ 300) := fun a h1 h2 h3 => hB1 ⟨h1, by unfold gAt; rw [h2]; exact h3⟩
                  clear hB1 HB1
                  obtain ⟨b2, HB2⟩ : ∃ b2 : Bool, Hid (b2 = decide (k1 < gs.length ∧ lnP (l' ++ gAt gs k1) ≤ 300)) := ⟨_, rfl⟩
                  go_upto_region 22 with fail
                  go_cut [94] from 95 to 113 (fun v94 wx => v94 = .bool b2 ∧ Rws wx w5.heap.size (.slice a9 l'.length c9) l' ∧ Below w5.heap.size w5 wx)
                  case first =>
                    by_cases hk0 : k1 < gs.length
                    · have hk08 : (k1 : Int) < (gs.length : Int) := by omega
                      obtain ⟨p, hp⟩ : ∃ p, gs[k1]? = some p := ⟨_, List.getElem?_eq_getElem (by omega)⟩
                      have HGA : Hid (gAt gs k1 = p) := by show _ = _; unfold gAt; rw [hp]; rfl
                      obtain ⟨ap, cp, hat⟩ := HAT.out k1 p hp
                      have HATP : Hid (∀ u, Below w5.heap.size w5 u → u.cell? ⟨gb, k1, none⟩ = some (.slice ap p.length cp) ∧ SlV u (.slice ap p.length cp) p) := hat
                      have zp := HZ.out p (List.mem_of_getElem? hp)
                      have hzp := zp.2
                      have HRB : Hid (RwB (l' ++ p)) := rwb_app HRB'.out zp.1 (by omega)
                      have pb := (hat w7 HQ7.out).1
                      have hpb := rw_cell_lt pb
                      have b0 : Below w7.heap.size w7 (w7.alloc (.cells #[] 32)) := (Below.refl _ _).alloc (Nat.le_refl _) _
                      have pb0 := (hat _ (HQ7.out.trans (b0.mono HQ7.out.size))).1
                      have hpb0 := rw_cell_lt pb0
                      have HR0 : Hid (Rws (w7.alloc (.cells #[] 32)) w7.heap.size (.slice (some ⟨w7.heap.size, 0, none⟩) 0 0) []) := rws_lit0 w7 _ _ rfl (Nat.le_refl _)
                      have HS0 : Hid (SlV (w7.alloc (.cells #[] 32)) (.slice a9 l'.length c9) l') := (HI7.out.slV).below b0 (Nat.le_refl _)
                      have HB0 : Hid (Below w7.heap.size w7 (w7.alloc (.cells #[] 32))) := b0
                      have hlnb := lnP_take_le1 HRB.out
                      obtain ⟨n8, HN8⟩ : ∃ n8, Hid (lnP (l' ++ p) = n8) := ⟨_, rfl⟩
                      rw [HN8.out] at hlnb
                      have HBE0 : Hid (∀ s : ByteArray, s.size = lnP (l' ++ p) → b2 = decide ((s.size : Int) ≤ 300) ∧ s.size ≤ 196098) := fun s hs => by
                        rw [HB2.out, HGA.out, hs, HN8.out]
                        refine ⟨?_, hlnb⟩
                        by_cases h : n8 ≤ 300
                        · rw [decide_eq_true (p := k1 < gs.length ∧ n8 ≤ 300) ⟨hk0, h⟩, decide_eq_true (p := (n8 : Int) ≤ 300) (by omega)]
                        · rw [decide_eq_false (p := k1 < gs.length ∧ n8 ≤ 300) (fun c => h c.2), decide_eq_false (p := (n8 : Int) ≤ 300) (by omega)]
                      obtain ⟨L8, HL8⟩ : ∃ L8, Hid (l' ++ p = L8) := ⟨_, rfl⟩
                      rw [HL8.out] at HRB HBE0 HN8
                      have HPG8 : Hid (∀ (u : World) (al : Option Addr) (cl : Nat), SlRw u al L8 → Calls Tryd.prog 47 #[.slice al L8.length cl] u fun e w' => ∃ s : ByteArray, s.size = lnP L8 ∧ e = .returned (.string s) ∧ Below u.heap.size u w') := fun u al cl h => HPG.out u al cl L8 h HRB.out
                      clear hp zp b0 hat hk0
                      go_region_held_law (fun u => u.cell? ⟨gb, k1, none⟩ = some (.slice ap p.length cp)) (first | exact pb10 | exact pb9x | exact pb8 | exact pb0 | exact pb) (first
                        | (refine step_append_rws_g (by kernel_rfl) (.tmp 101) (.tmp 102) rfl w7.heap.size (.slice (some ⟨w7.heap.size, 0, none⟩) 0 0) (.slice a9 l'.length c9) [] l' (by kernel_rfl) (by kernel_rfl) (rws_heap HR0.out (by rfl)) (slV_heap HS0.out (by rfl)) (by simp; omega) HB0.out.size ?_; intro v8 w8 i8 g8; have q8 : Below w7.heap.size w7 w8 := Below.grown (by repeat (first | with_reducible exact HB0.out | with_reducible refine Below.drew ?_)) g8 HB0.out.size (fun j hj => by have h2 : w7.heap.size = j := Option.some.inj hj; omega); have j8 : Rws w8 w7.heap.size v8 l' := i8; have pb8 := (HATP.out w8 (HQ7.out.trans (q8.mono HQ7.out.size))).1; have hpb8 := rw_cell_lt pb8; clear g8 i8)
                        | (refine step_append_rws_g (by kernel_rfl) (.tmp 103) (.tmp 108) rfl w7.heap.size v8 (.slice ap p.length cp) l' p (by kernel_rfl) (by kernel_rfl) (rws_heap j8 (by rfl)) (slV_heap (HATP.out w8 (HQ7.out.trans (q8.mono HQ7.out.size))).2 (by rfl)) (by omega) q8.size ?_; intro v9x w9x i9 g9; have q9 : Below w7.heap.size w7 w9x := Below.grown (by repeat (first | with_reducible exact q8 | with_reducible refine Below.drew ?_)) g9 q8.size (fun j hj => (World.ownsRow.lt j8 j hj).1); rw [HL8.out] at i9; obtain ⟨a8, c8, hv8⟩ := rw_form i9; subst hv8; have t9 := rws_sl i9; have pb9x := (HATP.out w9x (HQ7.out.trans (q9.mono HQ7.out.size))).1; clear g9)
                        | (go_simp; go_at_call 47; refine (HPG8.out _ a8 c8 (slRw_heap t9 (by rfl))).mono ?_; rintro e w10 ⟨s, hs, rfl, q10⟩; have HS10 : Hid (s.size = lnP L8) := hs; clear hs; have b10 : Below w9x.heap.size w9x w10 := ⟨q10.os, q10.tape, q10.output, q10.size, q10.block⟩; have pb10 := (HATP.out w10 (HQ7.out.trans ((q9.trans (b10.mono q9.size)).mono HQ7.out.size))).1))
                      all_goals
                        obtain ⟨hbe, hsz⟩ := HBE0.out s HS10.out
                        have HBE : Hid (b2 = decide ((s.size : Int) ≤ 300)) := hbe
                        have q11 : Below w7.heap.size w7 w10 := q9.trans (b10.mono q9.size)
                        have HI10 : Hid (Rws w10 w5.heap.size (.slice a9 l'.length c9) l') := HI7.out.below q11
                        have HQ11 : Hid (Below w5.heap.size w5 w10) := HQ7.out.trans (q11.mono HQ7.out.size)
                        clear hbe i9 t9 j8
                        go_wp2_with fail
                        go_meet
                        case rel => exact ⟨by rw [HBE.out], HI10.out, HQ11.out⟩
                    · have HBE : Hid (b2 = false) := by show _ = _; rw [HB2.out]; exact decide_eq_false (fun c => hk0 c.1)
                      have hk08 : ¬ (k1 : Int) < (gs.length : Int) := by omega
                      have hk0d : decide ((k1 : Int) < (gs.length : Int)) = false := decide_eq_false hk08
                      clear hk0
                      go_quiet (fail)
                      go_wp2
                      go_meet
                      case rel => exact ⟨by rw [HBE.out], rws_heap HI7.out rfl, ⟨HQ7.out.os, HQ7.out.tape, HQ7.out.output, HQ7.out.size, HQ7.out.block⟩⟩
                  case rest =>
                    obtain ⟨hu94, i8, q8⟩ := hcut
                    subst hu94
                    obtain ⟨w8, rfl⟩ : ∃ w8, w8 = wc := ⟨_, rfl⟩
                    have HI8 : Hid (Rws w8 w5.heap.size (.slice a9 l'.length c9) l') := i8
                    have HQ8 : Hid (Below w5.heap.size w5 w8) := q8
                    clear i8 q8 HI7 HQ7
                    by_cases hB2 : k1 < gs.length ∧ lnP (l' ++ gAt gs k1) ≤ 300
                    · obtain rfl : b2 = true := by rw [HB2.out]; exact decide_eq_true hB2
                      obtain ⟨hk0, hfit⟩ := hB2
                      obtain ⟨k2, hk2⟩ : ∃ k2, k + 2 = k2 := ⟨_, rfl⟩
                      have hk28 : (k : Int) + 2 = (k2 : Int) := by omega
                      have hwk2 : IntKind.i64.wrap (k2 : Int) = (k2 : Int) := by rw [IntKind.wrap_i64]; omega
                      have hk2l : k2 ≤ gs.length := by have := HK1.out; omega
                      have hk1l8 : (k1 : Int) < (gs.length : Int) := by omega
                      obtain ⟨p, hp⟩ : ∃ p, gs[k1]? = some p := ⟨_, List.getElem?_eq_getElem (by omega)⟩
                      have hga : gAt gs k1 = p := by unfold gAt; rw [hp]; rfl
                      rw [hga] at hfit
                      have HDG : Hid (dropG gs k l' = gs.take k ++ ([l' ++ p] ++ gs.drop k2)) := by show _ = _; rw [dropG_next hl0' HNA.out (by rw [HK1.out]; exact hp) hfit, hk2]
                      obtain ⟨ap, cp, hat⟩ := HAT.out k1 p hp
                      have zp := HZ.out p (List.mem_of_getElem? hp)
                      have hzp := zp.2
                      have pb := (hat w8 HQ8.out).1
                      have hpb := rw_cell_lt pb
                      have HS8 : Hid (SlV w8 (.slice ap p.length cp) p) := (hat w8 HQ8.out).2
                      clear hp zp hat hfit hk0 hga hk2
                      go_wp2_with (at_builtin; refine append_rws rfl _ _ rfl w5.heap.size (.slice a9 l'.length c9) (.slice ap p.length cp) l' p rfl rfl HI8.out HS8.out (by omega) HQ8.out.size ?_)
                      intro v9x w9x i9 g9
                      have q9 : Below w5.heap.size w5 w9x := Below.grown HQ8.out g9 HQ8.out.size (fun j hj => (World.ownsRow.lt HI8.out j hj).1)
                      obtain ⟨L8, HL8E⟩ : ∃ L8, Hid (l' ++ p = L8) := ⟨_, rfl⟩
                      have hL8 : 0 < L8.length := by rw [← HL8E.out, List.length_append]; omega
                      have hL9 : L8.length ≤ 255 := by rw [← HL8E.out, List.length_append]; omega
                      rw [HL8E.out] at i9 HDG
                      obtain ⟨a8, c8, hv8⟩ := rw_form i9
                      subst hv8
                      have HI9 : Hid (Rws w9x w5.heap.size (.slice a8 L8.length c8) L8) := i9
                      have HQ9x : Hid (Below w5.heap.size w5 w9x) := q9
                      clear i9 g9 q9 HI8 HQ8 HS8 pb hpb
                      have HGF : Hid (G = gs.take k ++ ([L8] ++ gs.drop k2)) := by show _ = _; rw [← HGG.out, HDG.out]
                      have hft : k ≤ gs.length := by omega
                      have hfc : (k : Int) ≤ (c2 : Int) := by omega
                      have HSA : Hid (SrcV w9x (.slice (some ⟨gb, 0, none⟩) k c2) (gs.take k) (vs.take k)) := (HSV.out.take k hft).below HQ9x.out
                      have HGT : Hid ((gs.take k).length = k) := by show _ = _; rw [List.length_take]; omega
                      have hw7 := (HQ9x.out).size
                      go_wp2_with (at_builtin; refine append_ts rfl _ _ rfl w5.heap.size (.slice none 0 0) (.slice (some ⟨gb, 0, none⟩) k c2) [] (gs.take k) [] (vs.take k) rfl rfl (ownT_nil _ _) HSA.out (by rw [HGT.out]; simp; omega) hw7 ?_)
                      intro v9 w9 o9 g9
                      have q9 : Below w9x.heap.size w9x w9 := below_noneD g9
                      have HO9 : Hid (OwnT w9 w5.heap.size v9 (gs.take k) (vs.take k)) := o9
                      have HQ9 : Hid (Below w5.heap.size w5 w9) := (HQ9x.out).trans (q9.mono (HQ9x.out).size)
                      have HT9 : Hid (SlTV w9 (.slice a8 L8.length c8) L8) := ⟨_, _, rfl, (Rws.slT HI9.out).below q9 (Nat.le_refl _)⟩
                      have hln0 : (0 : Int) < (L8.length : Int) := by omega
                      clear o9 g9 q9 HSA
                      have b10 : Below w9.heap.size w9 (w9.alloc (.cells #[.slice a8 L8.length c8] 23)) := (Below.refl _ _).alloc (Nat.le_refl _) _
                      have HS10 : Hid (SrcV (w9.alloc (.cells #[.slice a8 L8.length c8] 23)) (.slice (some ⟨w9.heap.size, 0, none⟩) 1 1) [L8] [.slice a8 L8.length c8]) := (ownT_lit1 w9 _ w9.heap.size _ L8 rfl (Nat.le_refl _) HT9.out).srcV
                      have HO10 : Hid (OwnT (w9.alloc (.cells #[.slice a8 L8.length c8] 23)) w5.heap.size v9 (gs.take k) (vs.take k)) := HO9.out.below b10
                      have HQ10 : Hid (Below w5.heap.size w5 (w9.alloc (.cells #[.slice a8 L8.length c8] 23))) := HQ9.out.trans (b10.mono HQ9.out.size)
                      clear b10
                      go_wp2_with (at_builtin; refine append_ts rfl _ _ rfl w5.heap.size v9 (.slice (some ⟨w9.heap.size, 0, none⟩) 1 1) (gs.take k) [L8] (vs.take k) [.slice a8 L8.length c8] rfl rfl HO10.out HS10.out (by rw [HGT.out]; simp; omega) HQ10.out.size ?_)
                      intro v11 w11 o11 g11
                      have HO11 : Hid (OwnT w11 w5.heap.size v11 (gs.take k ++ [L8]) (vs.take k ++ [.slice a8 L8.length c8])) := o11
                      have HQ11 : Hid (Below w5.heap.size w5 w11) := Below.grown HQ10.out g11 HQ10.out.size (fun j hj => (World.ownsRow.lt HO10.out.1 j hj).1)
                      clear o11 g11 HO10 HS10 HQ10 HT9 HO9 HQ9
                      have hw11 := HQ11.out.size
                      have htc : (k2 : Int) ≤ (c2 : Int) := by omega
                      have htl : (k2 : Int) ≤ (gs.length : Int) := by omega
                      go_upto_region 29 with fail
                      go_cut [14] from 135 to 139 (fun v14 wx => ∃ vs, OwnT wx w5.heap.size v14 G vs ∧ Below w5.heap.size w5 wx)
                      case first =>
                        by_cases hcA : c2 = k2
                        · have hgd0 : gs.drop k2 = [] := List.drop_eq_nil_of_le (by omega)
                          rw [hgd0] at HGF
                          have hg0 : gs.length - k2 = 0 := by omega
                          have hc0 : (c2 == k2) = true := by simpa using hcA
                          have hcc0 : c2 - k2 = 0 := by omega
                          subst hcA
                          have HD : Hid (SrcV w11 (.slice (some ⟨gb, 0, none⟩) 0 0) [] []) := SrcV.none
                          go_wp2_with (at_builtin; refine append_ts rfl _ _ rfl w5.heap.size v11 (.slice (some ⟨gb, 0, none⟩) 0 0) (gs.take k ++ [L8]) [] (vs.take k ++ [.slice a8 L8.length c8]) [] rfl rfl HO11.out HD.out (by simp; omega) hw11 ?_)
                          intro v12 w12 o12 g12
                          have q12 : Below w5.heap.size w5 w12 := Below.grown HQ11.out g12 hw11 (fun j hj => (World.ownsRow.lt HO11.out.1 j hj).1)
                          have r12 : OwnT w12 w5.heap.size v12 G ((vs.take k ++ [.slice a8 L8.length c8]) ++ []) := by rw [HGF.out]; simpa using o12
                          clear o12 g12
                          go_wp2_with fail
                          go_meet
                          case rel => exact ⟨_, r12, q12⟩
                        · have hcA2 : (c2 == k2) = false := by simpa using hcA
                          have HD : Hid (SrcV w11 (.slice (some ⟨gb, k2, none⟩) (gs.length - k2) (c2 - k2)) (gs.drop k2) (vs.drop k2)) := by have q := (HSV.out.drop k2).below HQ11.out; rw [Nat.zero_add] at q; exact q
                          go_wp2_with (at_builtin; refine append_ts rfl _ _ rfl w5.heap.size v11 (.slice (some ⟨gb, k2, none⟩) (gs.length - k2) (c2 - k2)) (gs.take k ++ [L8]) (gs.drop k2) (vs.take k ++ [.slice a8 L8.length c8]) (vs.drop k2) rfl rfl HO11.out HD.out (by simp; omega) hw11 ?_)
                          intro v12 w12 o12 g12
                          have q12 : Below w5.heap.size w5 w12 := Below.grown HQ11.out g12 hw11 (fun j hj => (World.ownsRow.lt HO11.out.1 j hj).1)
                          have r12 : OwnT w12 w5.heap.size v12 G ((vs.take k ++ [.slice a8 L8.length c8]) ++ (vs.drop k2)) := by rw [HGF.out]; simpa using o12
                          clear o12 g12
                          go_wp2_with fail
                          go_meet
                          case rel => exact ⟨_, r12, q12⟩
                      case rest =>
                        obtain ⟨vs12, o12, q12⟩ := hcut
                        obtain ⟨tk, TE⟩ := HTE.out wc _ o12.bk
                        have HQ12 : Hid (Below w.heap.size w wc) := HB5.out.trans (q12.mono HB5.out.size)
                        clear o12 q12 HO11 HQ11 HSV HLA HAT HOT
                        go_wp2_with fail
                        refine TE.mono ?_
                        rintro e w13 ⟨v13, rfl, s13, b13⟩
                        have HB13 : Hid (Below w.heap.size w w13) := HQ12.out.trans (b13.mono HQ12.out.size)
                        have HS13 : Hid (Strs w13 w.heap.size v13 tg) := strsE_low (by rw [← HTG2.out]; exact s13) HQ12.out.size
                        have AL := HAL.out w13 _ _ HS13.out
                        clear TE s13 b13 HQ12
                        go_wp2_with fail
                        refine AL.mono ?_
                        rintro e w14 ⟨v14, rfl, b14⟩
                        have HB14 : Hid (Below w.heap.size w w14) := HB13.out.trans (b14.mono HB13.out.size)
                        have HS14 : Hid (Strs w14 w.heap.size v13 tg) := HS13.out.below b14
                        clear AL b14 HB13 HS13
                        cases ib
                        · go_wp2
                          go_ret2
                          rw [HRE.out]
                          exact ⟨_, rfl, World.ownsRow_nil _ _ _ _, HB14.out⟩
                        · go_wp2
                          go_ret2
                          rw [HRE.out]
                          exact ⟨_, rfl, HS14.out, HB14.out⟩
                    · obtain rfl : b2 = false := by rw [HB2.out]; exact decide_eq_false hB2
                      have hnb : ∀ b, gs[k + 1]? = some b → ¬ lnP (l' ++ b) ≤ 300 := fun b h1 h2 => by
                        have h3 : gAt gs k1 = b := by unfold gAt; rw [← HK1.out, h1]; rfl
                        have h4 := (List.getElem?_eq_some_iff.1 h1).1
                        exact hB2 ⟨by have := HK1.out; omega, by rw [h3]; exact h2⟩
                      have HDG : Hid (dropG gs k l' = gs.take k ++ ([l'] ++ gs.drop (k + 1))) := dropG_same hl0' HNA.out hkl hnb
                      clear hnb
                      clear hB2
                      have HGF : Hid (G = gs.take k ++ ([l'] ++ gs.drop k1)) := by show _ = _; rw [← HGG.out, HDG.out, HK1.out]
                      have hft : k ≤ gs.length := by omega
                      have hfc : (k : Int) ≤ (c2 : Int) := by omega
                      have HSA : Hid (SrcV w8 (.slice (some ⟨gb, 0, none⟩) k c2) (gs.take k) (vs.take k)) := (HSV.out.take k hft).below HQ8.out
                      have HGT : Hid ((gs.take k).length = k) := by show _ = _; rw [List.length_take]; omega
                      have hw7 := (HQ8.out).size
                      go_wp2_with (at_builtin; refine append_ts rfl _ _ rfl w5.heap.size (.slice none 0 0) (.slice (some ⟨gb, 0, none⟩) k c2) [] (gs.take k) [] (vs.take k) rfl rfl (ownT_nil _ _) HSA.out (by rw [HGT.out]; simp; omega) hw7 ?_)
                      intro v9 w9 o9 g9
                      have q9 : Below w8.heap.size w8 w9 := below_noneD g9
                      have HO9 : Hid (OwnT w9 w5.heap.size v9 (gs.take k) (vs.take k)) := o9
                      have HQ9 : Hid (Below w5.heap.size w5 w9) := (HQ8.out).trans (q9.mono (HQ8.out).size)
                      have HT9 : Hid (SlTV w9 (.slice a9 l'.length c9) l') := ⟨_, _, rfl, (Rws.slT HI8.out).below q9 (Nat.le_refl _)⟩
                      have hln0 : (0 : Int) < (l'.length : Int) := by omega
                      clear o9 g9 q9 HSA
                      have b10 : Below w9.heap.size w9 (w9.alloc (.cells #[.slice a9 l'.length c9] 23)) := (Below.refl _ _).alloc (Nat.le_refl _) _
                      have HS10 : Hid (SrcV (w9.alloc (.cells #[.slice a9 l'.length c9] 23)) (.slice (some ⟨w9.heap.size, 0, none⟩) 1 1) [l'] [.slice a9 l'.length c9]) := (ownT_lit1 w9 _ w9.heap.size _ l' rfl (Nat.le_refl _) HT9.out).srcV
                      have HO10 : Hid (OwnT (w9.alloc (.cells #[.slice a9 l'.length c9] 23)) w5.heap.size v9 (gs.take k) (vs.take k)) := HO9.out.below b10
                      have HQ10 : Hid (Below w5.heap.size w5 (w9.alloc (.cells #[.slice a9 l'.length c9] 23))) := HQ9.out.trans (b10.mono HQ9.out.size)
                      clear b10
                      go_wp2_with (at_builtin; refine append_ts rfl _ _ rfl w5.heap.size v9 (.slice (some ⟨w9.heap.size, 0, none⟩) 1 1) (gs.take k) [l'] (vs.take k) [.slice a9 l'.length c9] rfl rfl HO10.out HS10.out (by rw [HGT.out]; simp; omega) HQ10.out.size ?_)
                      intro v11 w11 o11 g11
                      have HO11 : Hid (OwnT w11 w5.heap.size v11 (gs.take k ++ [l']) (vs.take k ++ [.slice a9 l'.length c9])) := o11
                      have HQ11 : Hid (Below w5.heap.size w5 w11) := Below.grown HQ10.out g11 HQ10.out.size (fun j hj => (World.ownsRow.lt HO10.out.1 j hj).1)
                      clear o11 g11 HO10 HS10 HQ10 HT9 HO9 HQ9
                      have hw11 := HQ11.out.size
                      have htc : (k1 : Int) ≤ (c2 : Int) := by omega
                      have htl : (k1 : Int) ≤ (gs.length : Int) := by omega
                      go_upto_region 29 with fail
                      go_cut [14] from 135 to 139 (fun v14 wx => ∃ vs, OwnT wx w5.heap.size v14 G vs ∧ Below w5.heap.size w5 wx)
                      case first =>
                        by_cases hcA : c2 = k1
                        · have hgd0 : gs.drop k1 = [] := List.drop_eq_nil_of_le (by omega)
                          rw [hgd0] at HGF
                          have hg0 : gs.length - k1 = 0 := by omega
                          have hc0 : (c2 == k1) = true := by simpa using hcA
                          have hcc0 : c2 - k1 = 0 := by omega
                          subst hcA
                          have HD : Hid (SrcV w11 (.slice (some ⟨gb, 0, none⟩) 0 0) [] []) := SrcV.none
                          go_wp2_with (at_builtin; refine append_ts rfl _ _ rfl w5.heap.size v11 (.slice (some ⟨gb, 0, none⟩) 0 0) (gs.take k ++ [l']) [] (vs.take k ++ [.slice a9 l'.length c9]) [] rfl rfl HO11.out HD.out (by simp; omega) hw11 ?_)
                          intro v12 w12 o12 g12
                          have q12 : Below w5.heap.size w5 w12 := Below.grown HQ11.out g12 hw11 (fun j hj => (World.ownsRow.lt HO11.out.1 j hj).1)
                          have r12 : OwnT w12 w5.heap.size v12 G ((vs.take k ++ [.slice a9 l'.length c9]) ++ []) := by rw [HGF.out]; simpa using o12
                          clear o12 g12
                          go_wp2_with fail
                          go_meet
                          case rel => exact ⟨_, r12, q12⟩
                        · have hcA2 : (c2 == k1) = false := by simpa using hcA
                          have HD : Hid (SrcV w11 (.slice (some ⟨gb, k1, none⟩) (gs.length - k1) (c2 - k1)) (gs.drop k1) (vs.drop k1)) := by have q := (HSV.out.drop k1).below HQ11.out; rw [Nat.zero_add] at q; exact q
                          go_wp2_with (at_builtin; refine append_ts rfl _ _ rfl w5.heap.size v11 (.slice (some ⟨gb, k1, none⟩) (gs.length - k1) (c2 - k1)) (gs.take k ++ [l']) (gs.drop k1) (vs.take k ++ [.slice a9 l'.length c9]) (vs.drop k1) rfl rfl HO11.out HD.out (by simp; omega) hw11 ?_)
                          intro v12 w12 o12 g12
                          have q12 : Below w5.heap.size w5 w12 := Below.grown HQ11.out g12 hw11 (fun j hj => (World.ownsRow.lt HO11.out.1 j hj).1)
                          have r12 : OwnT w12 w5.heap.size v12 G ((vs.take k ++ [.slice a9 l'.length c9]) ++ (vs.drop k1)) := by rw [HGF.out]; simpa using o12
                          clear o12 g12
                          go_wp2_with fail
                          go_meet
                          case rel => exact ⟨_, r12, q12⟩
                      case rest =>
                        obtain ⟨vs12, o12, q12⟩ := hcut
                        obtain ⟨tk, TE⟩ := HTE.out wc _ o12.bk
                        have HQ12 : Hid (Below w.heap.size w wc) := HB5.out.trans (q12.mono HB5.out.size)
                        clear o12 q12 HO11 HQ11 HSV HLA HAT HOT
                        go_wp2_with fail
                        refine TE.mono ?_
                        rintro e w13 ⟨v13, rfl, s13, b13⟩
                        have HB13 : Hid (Below w.heap.size w w13) := HQ12.out.trans (b13.mono HQ12.out.size)
                        have HS13 : Hid (Strs w13 w.heap.size v13 tg) := strsE_low (by rw [← HTG2.out]; exact s13) HQ12.out.size
                        have AL := HAL.out w13 _ _ HS13.out
                        clear TE s13 b13 HQ12
                        go_wp2_with fail
                        refine AL.mono ?_
                        rintro e w14 ⟨v14, rfl, b14⟩
                        have HB14 : Hid (Below w.heap.size w w14) := HB13.out.trans (b14.mono HB13.out.size)
                        have HS14 : Hid (Strs w14 w.heap.size v13 tg) := HS13.out.below b14
                        clear AL b14 HB13 HS13
                        cases ib
                        · go_wp2
                          go_ret2
                          rw [HRE.out]
                          exact ⟨_, rfl, World.ownsRow_nil _ _ _ _, HB14.out⟩
                        · go_wp2
                          go_ret2
                          rw [HRE.out]
                          exact ⟨_, rfl, HS14.out, HB14.out⟩
end Go.Proofs.YticogafoopkflaaDoor
