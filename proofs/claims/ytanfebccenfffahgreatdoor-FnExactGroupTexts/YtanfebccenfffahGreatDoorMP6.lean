/- Texts of mine laid together: ISortT, ICmp, IGrp, SMark. -/
import Derived.Test.YtanfebccenfffahGreatDoorMP1
import Derived.Test.YtanfebccenfffahGreatDoorMP2
import Derived.Test.YtanfebccenfffahGreatDoorMP5
import Derived.BigQuiet
import Derived.Test.YtanfebccenfffahGreatDoorPKey
import Derived.Deep.Cut
import Derived.Deep.CutRange
import Derived.Deep.RegionLaw
import Derived.Deep.DrawnRows
import Derived.Deep.RegionHeld3
import Derived.Deep.AppendLies
import Derived.Deep.MidRow
namespace Go.Proofs.YtanfebccenfffahGreatDoor
open Go.RowKit

theorem info_kt : (Tryz.prog.info? 68).map (fun i => (i.zero, i.size, i.bytes)) = some (some (.agg #[.string ⟨#[]⟩, .string ⟨#[]⟩]), 2, 32) := by kernel_rfl

set_option maxRecDepth 100000 in
set_option maxHeartbeats 1000000 in
theorem sortK_none (w : World) : Calls Tryz.prog 34 #[.slice none 0 0, .func (.func 35) #[] #[]] w fun e w' => e = .returned (.tuple #[]) ∧ w' = w := by
  go_enter Tryz.func34, Tryz.ntmps34
  go_wp2
  go_loop [8] (fun i => i = .int .i64 0) (fun _ => 0)
  case atStart => rfl
  case round =>
    subst hrel
    go_wp2
    go_end0
    exact ⟨rfl, rfl⟩

theorem sortK_any {w : World} {B : Nat} {v : Value} {l : List KT} (h : KTs w B v l) (hn : l.length ≤ 1048576) :
    Calls Tryz.prog 34 #[v, .func (.func 35) #[] #[]] w fun e w' => e = .returned (.tuple #[]) ∧ KTs w' B v (insK l l.length) ∧ w.grownBy w' v.ownBlock := by
  rcases h.form with ⟨rfl, rfl⟩ | ⟨g, cap, rfl⟩
  · refine (sortK_none w).mono ?_
    rintro e w' ⟨rfl, rfl⟩
    exact ⟨rfl, h, grown_refl _ _⟩
  · refine (sortK_row w B g cap l.length l rfl h hn).mono ?_
    rintro e w' ⟨rfl, h1, h2, h3⟩
    refine ⟨rfl, ?_, h3⟩
    rw [srtK_all] at h1 h2
    unfold KTs
    rw [h1]
    exact h2

theorem cellsK_at (w : World) (n : Nat) (x : KT) (t : TypeId) (hn : n = w.heap.size) : ∀ j u, (ktC x)[j]? = some u → (w.alloc (.cells #[.string x.key, .string x.text] t)).cell? ((⟨n, 0, none⟩ : Addr).add j) = some u := by
  subst hn
  intro j u hj
  match j, hj with
  | 0, hj => simp [ktC] at hj; subst hj; simp [Addr.add]
  | 1, hj => simp [ktC] at hj; subst hj; simp [Addr.add]
  | j + 2, hj => simp [ktC] at hj

theorem KTs.snoc {w : World} {B : Nat} {v : Value} {l : List KT} {x : KT} (h : w.ownsRow B 68 2 v (l.length + 1) (ktAll l ++ ktC x)) : KTs w B v (l ++ [x]) := by
  unfold KTs
  rw [ktAll_snoc, List.length_append]
  exact h

theorem Strs.sliceI {w : World} {B : Nat} {v : Value} {ss : List ByteArray} (h : Strs w B v ss) :
    ∃ a c, v = .slice a ss.length c ∧ ∀ k x, ss[k]? = some x → ∃ g, a = some ⟨g, 0, none⟩ ∧ g < w.heap.size ∧ w.cell? ⟨g, k, none⟩ = some (.string x) := by
  rcases h.form with ⟨rfl, rfl⟩ | ⟨g, cap, rfl, _, _⟩
  · exact ⟨_, _, rfl, fun k x hx => by simp at hx⟩
  · exact ⟨_, _, rfl, fun k x hx => ⟨g, rfl, (World.ownsRow.lt h g rfl).2, Strs.cell h k x hx⟩⟩

theorem KTs.sliceK {w : World} {B : Nat} {v : Value} {l : List KT} (h : KTs w B v l) : ∃ a c, v = .slice a l.length c ∧ (∀ k, k < l.length → ∃ g, a = some ⟨g, 0, none⟩ ∧ g < w.heap.size ∧ w.cell? ⟨g, k * 2, none⟩ = some (.string (ktAt l k).key) ∧ w.cell? ⟨g, k * 2 + 1, none⟩ = some (.string (ktAt l k).text)) := by
  rcases h.form with ⟨rfl, rfl⟩ | ⟨g, cap, rfl⟩
  · exact ⟨_, _, rfl, fun k hk => by simp at hk⟩
  · exact ⟨_, _, rfl, fun k hk => ⟨g, rfl, (World.ownsRow.lt h g rfl).2, KTs.cells h k _ (ktAt_of hk)⟩⟩

def I1R (W : World) (L : List KT) (n : Nat) (v6 i : Value) (wr : World) : Prop :=
  ∃ k : Nat, k ≤ n ∧ i = .int .i64 k ∧ KTs wr W.heap.size v6 (L.take k) ∧ Below W.heap.size W wr
def I2R (W : World) (L : List KT) (v11 i : Value) (wr : World) : Prop :=
  ∃ k : Nat, k ≤ L.length ∧ i = .int .i64 k ∧ Strs wr W.heap.size v11 ((L.take k).map KT.text) ∧ Below W.heap.size W wr

theorem take_kt {L : List KT} {k : Nat} (h : k < L.length) : L.take (k + 1) = L.take k ++ [ktAt L k] := by
  rw [List.take_add_one, ktAt_of h]; rfl

theorem low_strs {w : World} {B B' : Nat} {v : Value} {l : List ByteArray} (h : Strs w B' v l) (hB : B ≤ B') : Strs w B v l := by
  refine ⟨h.1, ?_⟩
  rcases h.2 with h | ⟨g, cap, cur, h1, h2, h3⟩
  · exact .inl h
  · exact .inr ⟨g, cap, cur, h1, Nat.le_trans hB h2, h3⟩

theorem cellU_at (w : World) (n : Nat) (x : ByteArray) (t : TypeId) (hn : n = w.heap.size) : ∀ j u, [Value.string x][j]? = some u → (w.alloc (.cells #[.string x] t)).cell? ((⟨n, 0, none⟩ : Addr).add j) = some u := by
  subst hn
  intro j u hj
  match j, hj with
  | 0, hj => simp at hj; subst hj; simp [Addr.add]

set_option maxRecDepth 100000 in
set_option maxHeartbeats 4000000 in
theorem implSort_any {w : World} {B B' : Nat} {ve vl : Value} {es : List Ent} {sh : Bool} {lv : Int} (ss : List ByteArray) (hE : Ents w B ve es) (hr : ∀ e ∈ es, e.runes.length ≤ 1048576) (ht : Tabs3 w) (hL : Strs w B' vl ss) (hsz : ∀ s ∈ ss, s.size ≤ 1048576) (hln : ss.length ≤ 1048576) :
    Calls Tryz.prog 21 #[.agg #[ve, .bool sh, .int .i64 lv], vl] w fun e w' => ∃ v', e = .returned (.tuple #[v', .bool (okS es lv ss)]) ∧ Strs w' w.heap.size v' (sortS es sh lv ss) ∧ Below w.heap.size w w' := by
  obtain ⟨va, vc, rfl⟩ : ∃ a c, ve = .slice a es.length c := by
    rcases hE.form with ⟨rfl, rfl⟩ | ⟨_, _, rfl, _, _, _, _⟩
    · exact ⟨_, _, rfl⟩
    · exact ⟨_, _, rfl⟩
  obtain ⟨la, lc, rfl, hcL⟩ := hL.sliceI
  obtain ⟨i0, hi0, hz0, hs0, hy0⟩ := info_parts info_str
  obtain ⟨i1, hi1, hz1, hs1, hy1⟩ := info_parts info_kt
  have hbx : Below w.heap.size w (w.alloc (.cells #[.slice va es.length vc, .bool sh, .int .i64 lv] 33)) := (Below.refl _ _).alloc (Nat.le_refl _) _
  have hbox : BoxR4 (w.alloc (.cells #[.slice va es.length vc, .bool sh, .int .i64 lv] 33)) w.heap.size (.slice va es.length vc) sh lv := heap_alloc_new w _
  have hlb : w.heap.size < (w.alloc (.cells #[.slice va es.length vc, .bool sh, .int .i64 lv] 33)).heap.size := by simp
  have GR := implGood3_any (sh := sh) (lv := lv) (hE.below hbx) hr (ht.below hbx)
  have HE : Hid (Ents _ _ _ _) := hE
  have HTT : Hid (Tabs3 _) := ht
  have HCL : Hid _ := hcL
  have HSZ : Hid (∀ s ∈ ss, s.size ≤ 1048576) := hsz
  clear hE hL hcL hsz ht
  by_cases h60 : 60 < ss.length
  · have h608 : (60 : Int) < (ss.length : Int) := by omega
    have h609 : decide ((60 : Int) < (ss.length : Int)) = true := decide_eq_true h608
    have hf := okS_long (es := es) (lv := lv) h60
    unfold sortS
    rw [hf, if_neg (by simp)]
    clear hf GR
    go_enter Tryz.func21, Tryz.ntmps21
    go_wp2
    go_ret2
    exact ⟨_, rfl, ⟨rfl, .inl ⟨rfl, rfl⟩⟩, hbx⟩
  · have h608 : ¬ (60 : Int) < (ss.length : Int) := by omega
    have h609 : decide ((60 : Int) < (ss.length : Int)) = false := decide_eq_false h608
    cases hro : rulesOk es lv
    · rw [hro] at GR
      have hf := okS_rules (ss := ss) hro
      unfold sortS
      rw [hf, if_neg (by simp)]
      clear hf hro
      go_enter Tryz.func21, Tryz.ntmps21
      go_wp2_with fail
      refine GR.mono ?_
      rintro e w2 ⟨rfl, b2⟩
      clear GR
      go_wp2
      go_ret2
      exact ⟨_, rfl, ⟨rfl, .inl ⟨rfl, rfl⟩⟩, hbx.trans (b2.mono hbx.size)⟩
    · rw [hro] at GR
      have KY2 : ∀ (u : World) (hu : Below w.heap.size w u) (x : ByteArray) (hx : x.size ≤ 1048576), Calls Tryz.prog 33 #[.agg #[.slice va es.length vc, .bool sh, .int .i64 lv], .string x] u fun e w' => e = .returned (.tuple #[.string (keyT es sh lv x), .bool (ok4 x)]) ∧ Below u.heap.size u w' := fun u hu x hx => by
        have := implKey_any (sh := sh) (lv := lv) x hx (HE.out.below hu) hr (HTT.out.below hu)
        rw [okE_rules x hro] at this
        exact this
      have HKY : Hid _ := KY2
      have HRO : Hid (rulesOk es lv = true) := hro
      clear KY2 hro
      obtain ⟨W0, HW0⟩ : ∃ W0, Hid (W0 = w.alloc (.cells #[.slice va es.length vc, .bool sh, .int .i64 lv] 33)) := ⟨_, rfl⟩
      rw [← HW0.out] at hbx hbox hlb GR
      go_enter Tryz.func21, Tryz.ntmps21
      go_wp2_with fail
      rw [← HW0.out]
      obtain ⟨c0, c1, c2⟩ := hbox.cells
      refine GR.mono ?_
      rintro e W ⟨rfl, bW⟩
      have HBO : Hid (BoxR4 W w.heap.size (.slice va es.length vc) sh lv) := hbox.below bW hlb
      have HBW : Hid (Below w.heap.size w W) := hbx.trans (bW.mono hbx.size)
      have hwW : w.heap.size < W.heap.size := Nat.lt_of_lt_of_le hlb bW.size
      obtain ⟨L, HL⟩ : ∃ L, Hid (ss.map (ktOf es sh lv) = L) := ⟨_, rfl⟩
      have HLL : Hid (L.length = ss.length) := by show _ = _; rw [← HL.out, List.length_map]
      clear GR c0 c1 c2 hbox hbx bW HW0 hlb
      go_wp2_with fail
      go_loopw [6, 24] (fun v6 i wr => (∀ j s, j < (intOf i).toNat → ss[j]? = some s → ok4 s = true) ∧ I1R W L ss.length v6 i wr) (fun _ i _ => ss.length - (intOf i).toNat)
      case atStart => exact ⟨fun j s hj => by simp [intOf] at hj, 0, Nat.zero_le _, rfl, ⟨rfl, .inl ⟨rfl, rfl⟩⟩, Below.refl _ _⟩
      case round =>
        obtain ⟨hgd, k, hk, rfl, hK, hbw⟩ := hrel
        have HGD : Hid (∀ j s, j < k → ss[j]? = some s → ok4 s = true) := fun j s hj hs => hgd j s (by simpa [intOf] using hj) hs
        clear hgd
        have hsz1 := hbw.size
        have hkl : (L.take k).length = k := by rw [List.length_take, HLL.out]; omega
        by_cases hlt : k < ss.length
        · obtain ⟨x, hx⟩ : ∃ x, ss[k]? = some x := ⟨_, List.getElem?_eq_getElem hlt⟩
          obtain ⟨g, rfl, hgl, y0⟩ := HCL.out k x hx
          have a0 : wr.cell? ⟨g, k, none⟩ = some (.string x) := ((HBW.out.trans (hbw.mono HBW.out.size)).cell (p := ⟨g, k, none⟩) hgl).trans y0
          have hk8 : (k : Int) < (ss.length : Int) := by omega
          obtain ⟨c0, c1, c2⟩ := (HBO.out.below hbw hwW).cells
          have K1 := HKY.out wr (HBW.out.trans (hbw.mono HBW.out.size)) x (HSZ.out x (List.mem_of_getElem? hx))
          have HX : Hid (ss[k]? = some x) := hx
          clear hx y0
          cases hok : ok4 x
          · rw [hok] at K1
            have hf := okS_bad (es := es) (lv := lv) HX.out hok
            have hf2 : sortS es sh lv ss = [] := by unfold sortS; rw [hf, if_neg (by simp)]
            have HF : Hid (okS es lv ss = false ∧ sortS es sh lv ss = []) := ⟨hf, hf2⟩
            clear hf hf2 hok hK
            go_wp2_with fail
            refine K1.mono ?_
            rintro e w2 ⟨rfl, b2⟩
            have HB2 : Hid (Below w.heap.size w w2) := HBW.out.trans ((hbw.trans (b2.mono hbw.size)).mono HBW.out.size)
            clear K1 c0 c1 c2 a0 b2 hbw
            go_wp2
            go_ret2
            rw [HF.out.1, HF.out.2]
            exact ⟨_, rfl, ⟨rfl, .inl ⟨rfl, rfl⟩⟩, HB2.out⟩
          · rw [hok] at K1
            have HGD2 : Hid (∀ j s, j < k + 1 → ss[j]? = some s → ok4 s = true) := fun j s hj hs => by
              by_cases c : j = k
              · subst c
                rw [HX.out] at hs
                cases hs
                exact hok
              · exact HGD.out j s (by omega) hs
            have HKA : Hid (L.take (k + 1) = L.take k ++ [⟨keyT es sh lv x, x⟩]) := by
              show _ = _
              rw [take_kt (by rw [HLL.out]; exact hlt), ← HL.out, ktAt_map HX.out]; rfl
            generalize keyT es sh lv x = kx at *
            have HK : Hid (KTs _ _ _ _) := hK
            clear hok HGD HX hK
            go_wp2_with fail
            refine K1.mono ?_
            rintro e w2 ⟨rfl, b2⟩
            have hK2 := HK.out.below b2
            have hb2 := hbw.trans (b2.mono hbw.size)
            have hsz2 := hb2.size
            unfold KTs at hK2
            clear K1 c0 c1 c2 a0 b2 hbw HK
            go_wp2_with (at_builtin; refine wpList_append_own _ rfl _ _ 66 rfl W.heap.size 68 i1 _ 2 32 Tryz.underlying66 hi1 hz1 hs1 hy1 rfl (by decide) _ _ _ rfl (hK2.alloc _) ⟨w2.heap.size, 0, none⟩ 1 1 (ktC ⟨kx, x⟩) rfl rfl (cellsK_at _ _ ⟨kx, x⟩ _ (by simp)) (fun u hu => by simp [ktC] at hu; rcases hu with rfl | rfl <;> rfl) (by unfold maxLen; omega) (by omega) (by simp; omega) ?_)
            intro v4 w4 ho4 hg4 _
            have hI4 : KTs w4 W.heap.size v4 (L.take k ++ [⟨kx, x⟩]) := KTs.snoc (by rw [hkl]; exact ho4)
            have hb4 : Below W.heap.size W w4 := Below.grown (hb2.alloc hb2.size _) hg4 (hb2.alloc hb2.size _).size (fun j hj => (World.ownsRow.lt hK2 j hj).1)
            have HI4 : Hid (KTs _ _ _ _) := hI4
            clear ho4 hg4 hK2 hI4 hb2
            go_wp2
            exact ⟨⟨fun j s hj hs => HGD2.out j s (by simp [intOf] at hj; omega) hs, k + 1, by omega, by go_num, by rw [HKA.out]; exact HI4.out, hb4⟩, by simp [intOf]; omega⟩
        · have hk3 : k = ss.length := by omega
          subst hk3
          have hfin := okS_good (es := es) (lv := lv) (ss := ss) (by omega) HRO.out (fun j s hj hs => HGD.out j s hj hs)
          have hfin2 : sortS es sh lv ss = (insK L L.length).map KT.text := by unfold sortS; rw [hfin, if_pos rfl, HL.out, HLL.out]
          have HF : Hid (okS es lv ss = true ∧ sortS es sh lv ss = (insK L L.length).map KT.text) := ⟨hfin, hfin2⟩
          have htk : L.take ss.length = L := by rw [← HLL.out, List.take_length]
          rw [htk] at hK
          have SK := sortK_any hK (by rw [HLL.out]; exact hln)
          have hG6 : ∀ b, u6.ownBlock = some b → W.heap.size ≤ b := fun b hb => (World.ownsRow.lt hK b hb).1
          have HG6 : Hid _ := hG6
          have HSZK : Hid (∀ j, j < (insK L L.length).length → (ktAt (insK L L.length) j).text.size ≤ 1048576) := fun j hj => by
            have hm : ktAt (insK L L.length) j ∈ insK L L.length := List.mem_of_getElem? (ktAt_of hj)
            have hm2 := (insK_all L).mem_iff.1 hm
            rw [← HL.out] at hm2
            obtain ⟨s, hs, he⟩ := List.mem_map.1 hm2
            rw [HL.out] at he
            rw [← he]
            exact HSZ.out s hs
          have hil : (insK L L.length).length ≤ 60 := by rw [insK_len, HLL.out]; omega
          obtain ⟨M, HM⟩ : ∃ M, Hid (insK L L.length = M) := ⟨_, rfl⟩
          rw [HM.out] at SK HF HSZK hil
          obtain ⟨a6, c6, hu6⟩ : ∃ a c, u6 = .slice a ss.length c := by
            obtain ⟨a, c, h, _⟩ := hK.sliceK
            rw [HLL.out] at h
            exact ⟨a, c, h⟩
          subst hu6
          clear hfin hfin2 hK HGD htk hG6 hkl
          go_wp2_with fail
          refine SK.mono ?_
          rintro e w3 ⟨rfl, k3, g3⟩
          have hb3 : Below W.heap.size W w3 := Below.grown hbw g3 hbw.size (fun b hb => HG6.out b hb)
          obtain ⟨a7, c7, hv7, hcK⟩ := k3.sliceK
          injection hv7 with q1 q2 q3
          subst q1
          subst q3
          have HML : Hid (M.length = ss.length) := q2.symm
          have HCK : Hid _ := hcK
          have hsz3 := hb3.size
          clear SK g3 hbw k3 q2 hcK HG6
          go_wp2_with fail
          go_loopw [11, 47] (fun v11 i wr => I2R w3 M v11 i wr) (fun _ i _ => ss.length - (intOf i).toNat)
          case atStart => exact ⟨0, Nat.zero_le _, rfl, ⟨rfl, .inl ⟨rfl, rfl⟩⟩, Below.refl _ _⟩
          case round =>
            obtain ⟨k, hk, rfl, hS, hbr⟩ := hrel
            have hml := HML.out
            have hkl : ((M.take k).map KT.text).length = k := by rw [List.length_map, List.length_take]; omega
            have hszr := hbr.size
            by_cases hlt : k < M.length
            · obtain ⟨g, rfl, hgl, y0, y1⟩ := HCK.out k hlt
              have a0 : wr.cell? ⟨g, k * 2, none⟩ = some (.string (ktAt M k).key) := (hbr.cell (p := ⟨g, k * 2, none⟩) hgl).trans y0
              have a1 : wr.cell? ⟨g, k * 2 + 1, none⟩ = some (.string (ktAt M k).text) := (hbr.cell (p := ⟨g, k * 2 + 1, none⟩) hgl).trans y1
              have hk8 : (k : Int) < (ss.length : Int) := by omega
              have hba := hbr.alloc hbr.size (.cells #[.string (ktAt M k).key, .string (ktAt M k).text] 68)
              have CL := clone_str (ktAt M k).text (wr.alloc (.cells #[.string (ktAt M k).key, .string (ktAt M k).text] 68)) (HSZK.out k hlt)
              have HTK : Hid ((M.take (k + 1)).map KT.text = (M.take k).map KT.text ++ [(ktAt M k).text]) := by show _ = _; rw [take_kt hlt, List.map_append]; rfl
              have HS : Hid (Strs _ _ _ _) := World.ownsRow.alloc hS (.cells #[.string (ktAt M k).key, .string (ktAt M k).text] 68)
              generalize (ktAt M k).text = tx at *
              generalize (ktAt M k).key = kk at *
              have HBA : Hid (Below _ _ _) := hba
              clear hS hbr y0 y1 hba hml
              go_wp2_with fail
              refine CL.mono ?_
              rintro e w4 ⟨rfl, b4⟩
              have hS4 := Strs.below HS.out b4
              have hb4 := HBA.out.trans (b4.mono HBA.out.size)
              have hsz4 := hb4.size
              unfold Strs at hS4
              rw [hkl] at hS4
              clear CL HS HBA b4 a0 a1
              go_wp2_with (at_builtin; refine wpList_append_own _ rfl _ _ 25 rfl w3.heap.size 9 i0 (.string ⟨#[]⟩) 1 16 Tryz.underlying25 hi0 hz0 hs0 hy0 rfl (by decide) _ _ _ rfl (hS4.alloc _) ⟨w4.heap.size, 0, none⟩ 1 1 [.string tx] rfl rfl (cellU_at _ _ _ _ (by simp)) (fun u hu => by simp at hu; subst hu; rfl) (by unfold maxLen; omega) (by omega) (by simp; omega) ?_)
              intro v5 w5 ho5 hg5 _
              have hI5 : Strs w5 w3.heap.size v5 ((M.take k).map KT.text ++ [tx]) := Strs.snoc (by rw [hkl]; simpa using ho5)
              have hb5 : Below w3.heap.size w3 w5 := Below.grown (hb4.alloc hb4.size _) hg5 (hb4.alloc hb4.size _).size (fun j hj => (World.ownsRow.lt hS4 j hj).1)
              have HI5 : Hid (Strs _ _ _ _) := hI5
              clear ho5 hg5 hS4 hI5 hb4
              go_wp2
              exact ⟨⟨k + 1, by omega, by go_num, by rw [HTK.out]; exact HI5.out, hb5⟩, by simp [intOf]; omega⟩
            · have hk4 : k = M.length := by omega
              subst hk4
              have HT : Hid (Strs wr w3.heap.size u11 (M.map KT.text)) := by show Strs _ _ _ _; rw [List.take_length] at hS; exact hS
              clear hS hkl
              go_wp2
              go_ret2
              rw [HF.out.1, HF.out.2]
              exact ⟨_, rfl, low_strs HT.out (by have := HBW.out.size; omega), HBW.out.trans ((hb3.trans (hbr.mono hb3.size)).mono HBW.out.size)⟩
end Go.Proofs.YtanfebccenfffahGreatDoor

namespace Go.Proofs.YtanfebccenfffahGreatDoor
open Go.RowKit

set_option maxRecDepth 100000 in
set_option maxHeartbeats 1000000 in
theorem nan_any (a : ByteArray) (w : World) : Calls Tryz.prog 71 #[.string a] w fun e w' => e = .returned (.bool false) ∧ w' = w := by
  have h : (a.toList == a.toList) = true := by simp
  go_enter Tryz.func71, Tryz.ntmps71
  go_wp2
  go_ret
  exact ⟨rfl, rfl⟩

set_option maxRecDepth 100000 in
set_option maxHeartbeats 1000000 in
theorem compare_any (ka kb : ByteArray) (w : World) : Calls Tryz.prog 56 #[.string ka, .string kb] w fun e w' => e = .returned (.int .i64 (cmpS ka kb)) ∧ w' = w := by
  have N := fun a w => nan_any a w
  cases hlt : Op.bytesLess ka.toList kb.toList
  · cases heq : (ka.toList == kb.toList)
    · have HV : Hid (cmpS ka kb = 1) := by show _ = _; simp [cmpS, ltS, gtS, eqS, hlt, heq]
      rw [HV.out]
      go_enter Tryz.func56, Tryz.ntmps56
      go_wp2_with (go_at_call 71; refine (N _ _).mono ?_; rintro e w' ⟨rfl, rfl⟩)
      go_ret
      exact ⟨rfl, rfl⟩
    · have HV : Hid (cmpS ka kb = 0) := by show _ = _; simp [cmpS, ltS, gtS, eqS, hlt, heq]
      rw [HV.out]
      go_enter Tryz.func56, Tryz.ntmps56
      go_wp2_with (go_at_call 71; refine (N _ _).mono ?_; rintro e w' ⟨rfl, rfl⟩)
      go_ret
      exact ⟨rfl, rfl⟩
  · have HV : Hid (cmpS ka kb = -1) := by show _ = _; simp [cmpS, ltS, hlt]
    rw [HV.out]
    go_enter Tryz.func56, Tryz.ntmps56
    go_wp2_with (go_at_call 71; refine (N _ _).mono ?_; rintro e w' ⟨rfl, rfl⟩)
    go_ret
    exact ⟨rfl, rfl⟩

set_option maxRecDepth 100000 in
set_option maxHeartbeats 4000000 in
theorem implCmp_any {w : World} {B : Nat} {ve : Value} {es : List Ent} {sh : Bool} {lv : Int} (x : ByteArray) (hx : x.size ≤ 1048576) (y : ByteArray) (hy : y.size ≤ 1048576) (hE : Ents w B ve es) (hr : ∀ e ∈ es, e.runes.length ≤ 1048576) (ht : Tabs3 w) :
    Calls Tryz.prog 37 #[.agg #[ve, .bool sh, .int .i64 lv], .string x, .string y] w fun e w' => e = .returned (.tuple #[.int .i64 (cmpT es sh lv x y), .bool (okE es lv x && okE es lv y)]) ∧ Below w.heap.size w w' := by
  obtain ⟨va, vc, rfl⟩ := (show ∃ a c, ve = .slice a es.length c by
    rcases hE.form with ⟨rfl, rfl⟩ | ⟨_, _, rfl, _, _, _, _⟩
    · exact ⟨_, _, rfl⟩
    · exact ⟨_, _, rfl⟩)
  have hbx : Below w.heap.size w (w.alloc (.cells #[.slice va es.length vc, .bool sh, .int .i64 lv] 33)) := (Below.refl _ _).alloc (Nat.le_refl _) _
  have hbox : BoxR4 (w.alloc (.cells #[.slice va es.length vc, .bool sh, .int .i64 lv] 33)) w.heap.size (.slice va es.length vc) sh lv := heap_alloc_new w _
  have hlb : w.heap.size < (w.alloc (.cells #[.slice va es.length vc, .bool sh, .int .i64 lv] 33)).heap.size := by simp
  have KX := implKey_any (sh := sh) (lv := lv) x hx (hE.below hbx) hr (ht.below hbx)
  have KY := fun (u : World) (hu : Below w.heap.size w u) => implKey_any (sh := sh) (lv := lv) y hy (hE.below hu) hr (ht.below hu)
  have HBX : Hid (Below _ _ _) := hbx
  have HBO : Hid (BoxR4 _ _ _ _ _) := hbox
  unfold cmpT
  generalize keyT es sh lv x = ka at *
  generalize keyT es sh lv y = kb at *
  generalize okE es lv x = oa at *
  generalize okE es lv y = ob at *
  clear hE hr hbx hbox ht
  cases oa
  · rw [Bool.false_and, if_neg (by simp)]
    go_enter Tryz.func37, Tryz.ntmps37
    go_wp2_with fail
    refine KX.mono ?_
    rintro e w1 ⟨rfl, b1⟩
    have hb1 := HBX.out.trans (b1.mono HBX.out.size)
    have K2 := KY _ hb1
    obtain ⟨c0, c1, c2⟩ := (HBO.out.below b1 hlb).cells
    clear KX KY b1
    go_wp2_with fail
    refine K2.mono ?_
    rintro e w2 ⟨rfl, b2⟩
    have hb2 := hb1.trans (b2.mono hb1.size)
    clear K2 c0 c1 c2 b2 hb1
    go_wp2
    go_ret2
    exact ⟨rfl, hb2⟩
  · cases ob
    · rw [Bool.and_false, if_neg (by simp)]
      go_enter Tryz.func37, Tryz.ntmps37
      go_wp2_with fail
      refine KX.mono ?_
      rintro e w1 ⟨rfl, b1⟩
      have hb1 := HBX.out.trans (b1.mono HBX.out.size)
      have K2 := KY _ hb1
      obtain ⟨c0, c1, c2⟩ := (HBO.out.below b1 hlb).cells
      clear KX KY b1
      go_wp2_with fail
      refine K2.mono ?_
      rintro e w2 ⟨rfl, b2⟩
      have hb2 := hb1.trans (b2.mono hb1.size)
      clear K2 c0 c1 c2 b2 hb1
      go_wp2
      go_ret2
      exact ⟨rfl, hb2⟩
    · rw [Bool.and_true, if_pos rfl]
      go_enter Tryz.func37, Tryz.ntmps37
      go_wp2_with fail
      refine KX.mono ?_
      rintro e w1 ⟨rfl, b1⟩
      have hb1 := HBX.out.trans (b1.mono HBX.out.size)
      have K2 := KY _ hb1
      obtain ⟨c0, c1, c2⟩ := (HBO.out.below b1 hlb).cells
      clear KX KY b1
      go_wp2_with fail
      refine K2.mono ?_
      rintro e w2 ⟨rfl, b2⟩
      have hb2 := hb1.trans (b2.mono hb1.size)
      clear K2 c0 c1 c2 b2 hb1
      have CM := compare_any ka kb w2
      go_wp2_with fail
      refine CM.mono ?_
      rintro e w3 ⟨rfl, hw3⟩
      obtain rfl : w2 = w3 := hw3.symm
      clear CM
      go_wp2
      go_ret2
      exact ⟨rfl, hb2⟩
end Go.Proofs.YtanfebccenfffahGreatDoor

namespace Go.Proofs.YtanfebccenfffahGreatDoor
open Go.RowKit

theorem blk_frozen {u u' : World} {g : Nat} (h : u'.heap[g]? = u.heap[g]?) (j : Nat) : u'.frozen? ⟨g, j, none⟩ = u.frozen? ⟨g, j, none⟩ := by
  simp only [World.frozen?, h]

theorem info_sl : (Tryz.prog.info? 25).map (fun i => (i.zero, i.size, i.bytes)) = some (some (.slice none 0 0), 1, 24) := by kernel_rfl

theorem grp_step {L : List ByteArray} {nw : Nat → Bool} {k q : Nat} {gs : List (List ByteArray)} {gq : List ByteArray} {s : ByteArray} (hs : L[k]? = some s) (hg : (if nw k = true then grpK L nw k ++ [[]] else grpK L nw k) = gs) (hq : gs.length = q + 1) (hgq : gs[q]? = some gq) : grpK L nw (k + 1) = gs.set q (gq ++ [s]) := by
  rw [grpK, hg]
  unfold addL txAt
  rw [hs, hq, show q + 1 - 1 = q by omega, hgq]
  rfl

theorem strs_all {w : World} {B : Nat} {v : Value} {ss : List ByteArray} (h : Strs w B v ss) : ∃ a c, v = .slice a ss.length c ∧ ∀ (k : Nat) (x : ByteArray), ss[k]? = some x → ∃ g, a = some ⟨g, 0, none⟩ ∧ ∀ u, Below w.heap.size w u → ∀ (j : Nat) (y : ByteArray), ss[j]? = some y → u.cell? ⟨g, j, none⟩ = some (.string y) := by
  rcases h.form with ⟨rfl, rfl⟩ | ⟨g, cap, rfl, _, _⟩
  · exact ⟨_, _, rfl, fun k x hx => by simp at hx⟩
  · exact ⟨_, _, rfl, fun k x hx => ⟨g, rfl, fun u hu j y hy => (h.below hu).cell j y hy⟩⟩

set_option maxRecDepth 100000 in
set_option maxHeartbeats 2000000 in
theorem sameKey_any {w : World} {B : Nat} {ve : Value} {es : List Ent} {sh : Bool} {lv : Int} (x : ByteArray) (hx : x.size ≤ 1048576) (y : ByteArray) (hy : y.size ≤ 1048576) (hE : Ents w B ve es) (hr : ∀ e ∈ es, e.runes.length ≤ 1048576) (ht : Tabs3 w) (o1 : okE es lv x = true) (o2 : okE es lv y = true) :
    Calls Tryz.prog 22 #[.agg #[ve, .bool sh, .int .i64 lv], .string x, .string y] w fun e w' => e = .returned (.bool (decide (keyT es sh lv x = keyT es sh lv y))) ∧ Below w.heap.size w w' := by
  obtain ⟨va, vc, rfl⟩ := (show ∃ a c, ve = .slice a es.length c by
    rcases hE.form with ⟨rfl, rfl⟩ | ⟨_, _, rfl, _, _, _, _⟩
    · exact ⟨_, _, rfl⟩
    · exact ⟨_, _, rfl⟩)
  have hbx : Below w.heap.size w (w.alloc (.cells #[.slice va es.length vc, .bool sh, .int .i64 lv] 33)) := (Below.refl _ _).alloc (Nat.le_refl _) _
  have C := implCmp_any (sh := sh) (lv := lv) x hx y hy (hE.below hbx) hr (ht.below hbx)
  rw [o1, o2, Bool.and_self] at C
  have HV : Hid ((cmpT es sh lv x y == 0) = decide (keyT es sh lv x = keyT es sh lv y)) := by
    show _ = _
    unfold cmpT
    rw [o1, o2, Bool.and_self, if_pos rfl]
    by_cases h : keyT es sh lv x = keyT es sh lv y
    · rw [decide_eq_true h, cmpS_zero.2 h]; rfl
    · rw [decide_eq_false h]
      have := fun c => h (cmpS_zero.1 c)
      simpa using this
  rw [← HV.out]
  generalize cmpT es sh lv x y = c at *
  clear hE hr ht o1 o2 HV
  go_enter Tryz.func22, Tryz.ntmps22
  go_wp2_with fail
  refine C.mono ?_
  rintro e w2 ⟨rfl, b2⟩
  clear C
  go_wp2
  go_ret
  exact ⟨rfl, hbx.trans (b2.mono hbx.size)⟩

def GrRel (w2 : World) (lo : Nat) (L : List ByteArray) (nw : Nat → Bool) (vg i : Value) (wr : World) : Prop :=
  ∃ (k hi : Nat) (vs : List Value), k ≤ L.length ∧ i = .int .i64 k ∧ Nest wr lo hi vg (grpK L nw k) vs ∧ Below w2.heap.size w2 wr

set_option maxRecDepth 100000 in
set_option maxHeartbeats 8000000 in
theorem implGrp_any {w : World} {B B' : Nat} {ve vl : Value} {es : List Ent} {sh : Bool} {lv : Int} (ss : List ByteArray) (hE : Ents w B ve es) (hr : ∀ e ∈ es, e.runes.length ≤ 1048576) (ht : Tabs3 w) (hL : Strs w B' vl ss) (hsz : ∀ s ∈ ss, s.size ≤ 1048576) (hln : ss.length ≤ 1048576) :
    Calls Tryz.prog 9 #[.agg #[ve, .bool sh, .int .i64 lv], vl] w fun e w' => ∃ v' vs, e = .returned (.tuple #[v', .bool (okS es lv ss)]) ∧ Nest w' w.heap.size w'.heap.size v' (grpS es sh lv ss) vs ∧ Below w.heap.size w w' := by
  obtain ⟨va, vc, rfl⟩ := (show ∃ a c, ve = .slice a es.length c by
    rcases hE.form with ⟨rfl, rfl⟩ | ⟨_, _, rfl, _, _, _, _⟩
    · exact ⟨_, _, rfl⟩
    · exact ⟨_, _, rfl⟩)
  have hbx : Below w.heap.size w (w.alloc (.cells #[.slice va es.length vc, .bool sh, .int .i64 lv] 33)) := (Below.refl _ _).alloc (Nat.le_refl _) _
  have hbox : BoxR4 (w.alloc (.cells #[.slice va es.length vc, .bool sh, .int .i64 lv] 33)) w.heap.size (.slice va es.length vc) sh lv := heap_alloc_new w _
  have hlb : w.heap.size < (w.alloc (.cells #[.slice va es.length vc, .bool sh, .int .i64 lv] 33)).heap.size := by simp
  have SO := implSort_any (sh := sh) (lv := lv) ss (hE.below hbx) hr (ht.below hbx) (hL.below hbx) hsz hln
  have HE : Hid (Ents w _ _ _) := hE
  have HT : Hid (Tabs3 w) := ht
  have HR : Hid (∀ e ∈ es, e.runes.length ≤ 1048576) := hr
  have HP : Hid (okS es lv ss = true → (sortS es sh lv ss).Perm ss) := fun h => sortS_perm h
  have HQ0 : Hid (∀ (i : Nat) (x y : ByteArray), (sortS es sh lv ss)[i]? = some x → (sortS es sh lv ss)[i + 1]? = some y → okE es lv x = true ∧ okE es lv y = true ∧ cmpT es sh lv x y ≤ 0) := fun i x y hx hy => sortS_srt hx hy
  have HN0 : Hid (okS es lv ss = false → grpS es sh lv ss = []) := fun h => by unfold grpS; rw [sortS_no h]; rfl
  have HGS0 : Hid (grpS es sh lv ss = grpK (sortS es sh lv ss) (nwAt es sh lv (sortS es sh lv ss)) (sortS es sh lv ss).length) := rfl
  have hl60 := sortS_len es sh lv ss
  have HSZ : Hid (∀ s ∈ ss, s.size ≤ 1048576) := hsz
  clear hE ht hr hL hsz
  cases hok : okS es lv ss
  · rw [hok] at SO
    rw [HN0.out hok]
    clear HP HQ0 HN0 HGS0
    go_enter Tryz.func9, Tryz.ntmps9
    go_wp2_with fail
    refine SO.mono ?_
    rintro e w1 ⟨v1, rfl, _, b1⟩
    clear SO
    go_wp2
    go_ret2
    exact ⟨_, [], rfl, Nest.nil _ _, hbx.trans (b1.mono hbx.size)⟩
  · rw [hok] at SO
    have hp := HP.out hok
    have HM : Hid (∀ x ∈ sortS es sh lv ss, x.size ≤ 1048576) := fun x hx => HSZ.out x (hp.mem_iff.1 hx)
    have HZ : Hid (nwAt es sh lv (sortS es sh lv ss) 0 = true) := rfl
    rw [HGS0.out]
    clear HP HN0 HGS0 hp hok HSZ
    generalize sortS es sh lv ss = L at *
    have HNA : Hid (∀ k, nwAt es sh lv L k = (decide (k = 0) || !decide (keyT es sh lv (txAt L (k - 1)) = keyT es sh lv (txAt L k)))) := fun k => rfl
    generalize nwAt es sh lv L = nw at *
    obtain ⟨i0, hi0, hz0, hz1, hz2⟩ := info_parts info_str
    obtain ⟨i1, hi1, hy0, hy1, hy2⟩ := info_parts info_sl
    go_enter Tryz.func9, Tryz.ntmps9
    go_wp2_with fail
    refine SO.mono ?_
    rintro e w2 ⟨v2, rfl, s2, b2⟩
    obtain ⟨a2, k2, rfl, qs⟩ := strs_all s2
    have HQS : Hid _ := qs
    have HX2 : Hid (BoxR4 w2 _ _ _ _) := hbox.below b2 hlb
    have HB2 : Hid (Below w.heap.size w w2) := hbx.trans (b2.mono hbx.size)
    have hl2 : w.heap.size < w2.heap.size := Nat.lt_of_lt_of_le hlb b2.size
    obtain ⟨lo, HLO⟩ : ∃ lo, Hid (lo = w2.heap.size) := ⟨_, rfl⟩
    have hlo : w2.heap.size ≤ lo := by rw [HLO.out]; exact Nat.le_refl _
    clear SO s2 b2 hbox qs
    go_wp2_with fail
    go_loopw [8, 22] (fun vg i wr => GrRel w2 lo L nw vg i wr) (fun _ i _ => L.length - (intOf i).toNat)
    case atStart => exact ⟨0, _, [], Nat.zero_le _, rfl, (by rw [HLO.out]; exact Nest.nil w2 _), Below.refl _ _⟩
    case round =>
      obtain ⟨k, hi, vs1, hk, rfl, hN, hbr⟩ := hrel
      by_cases hlt : k < L.length
      · obtain ⟨s, hs⟩ : ∃ s, L[k]? = some s := ⟨_, List.getElem?_eq_getElem hlt⟩
        obtain ⟨gs0, rfl, qc⟩ := HQS.out k s hs
        have c0 := qc wr hbr k s hs
        have hlt8 : (k : Int) < (L.length : Int) := by omega
        have HS : Hid (L[k]? = some s) := hs
        obtain ⟨gs1, HG⟩ : ∃ gs1, Hid (grpK L nw k = gs1) := ⟨_, rfl⟩
        rw [HG.out] at hN
        have HN1 : Hid (Nest wr lo hi _ gs1 vs1) := hN
        have HBU : Hid (Below w2.heap.size w2 wr) := hbr
        have HQC : Hid _ := qc
        clear hs hN hbr qc
        by_cases hk0 : k = 0
        · subst hk0
          have HNW : Hid (nw 0 = true) := HZ.out
          obtain ⟨U, HU⟩ : ∃ U, Hid (U = wr.drew) := ⟨_, rfl⟩
          have HN1' : Hid (Nest wr.drew lo hi u8 gs1 vs1) := HN1.out.below ((Below.refl _ _).drew)
          have HBU' : Hid (Below w2.heap.size w2 wr.drew) := HBU.out.drew
          clear HU U
          go_wp2_with fail
          go_quiet (fail)
          have HN1 : Hid (Nest (wr.drewN nq) lo hi u8 gs1 vs1) := HN1.out.below (below_drewN (Below.refl _ _) nq)
          have HBU : Hid (Below w2.heap.size w2 (wr.drewN nq)) := below_drewN HBU.out nq
          have hdq : (wr.drewN nq).heap.size = wr.heap.size := rfl
          clear HN1' HBU'
          have N1 := HN1.out
          have hgn : gs1.length ≤ 60 := by rw [← HG.out]; have := (grpK_facts L HZ.out 0).1; omega
          have hloU : lo ≤ (wr.drewN nq).heap.size := by rw [HLO.out]; exact HBU.out.size
          have hsU := HBU.out.size
          have htop := N1.top
          have bA := (Below.refl (wr.drewN nq).heap.size (wr.drewN nq)).alloc (Nat.le_refl _) (.cells #[.slice none 0 0] 25)
          have hrow := (N1.below bA).row
          obtain ⟨a1, c1, hv1, _⟩ := N1.form
          subst hv1
          clear N1
          go_wp2_with (at_builtin; refine wpList_append_lies _ rfl _ _ 28 rfl lo 25 i1 (.slice none 0 0) 1 24 Tryz.underlying28 hi1 hy0 hy1 hy2 rfl (by decide) _ _ _ rfl hrow ⟨_, 0, none⟩ 1 1 [.slice none 0 0] rfl rfl (cell_one_new _ _ _) (fun x hx => by simp at hx; subst hx; rfl) (by omega) (by unfold maxLen; omega) (by omega) (by simp; omega) _ rfl ?_)
          intro g5 c5 u5 ho5 hg5 hgo5 hlt5
          have N5 := HN1.out.push bA hg5 ho5
          have B5 : Below w2.heap.size w2 u5 := Below.grown (HBU.out.trans (bA.mono HBU.out.size)) hg5 (Nat.le_trans HBU.out.size bA.size) (fun j hj => Nat.le_trans hlo (World.ownsRow.lt hrow j hj).1)
          obtain ⟨q, HQ⟩ : ∃ q, Hid (gs1.length = q) := ⟨_, rfl⟩
          have HGS : Hid ((gs1 ++ [[]]).length = q + 1) := by show _ = _; rw [List.length_append, HQ.out]; rfl
          have HST : Hid ((if nw 0 = true then grpK L nw 0 ++ [[]] else grpK L nw 0) = gs1 ++ [[]]) := by show _ = _; rw [if_pos HNW.out, HG.out]
          have hq60 : q ≤ 60 := by rw [← HQ.out, ← HG.out]; have := (grpK_facts L HZ.out 0).1; omega
          rw [HQ.out]
          rw [HQ.out] at N5
          generalize gs1 ++ [[]] = gs2 at *
          generalize vs1 ++ [.slice none 0 0] = vs2 at *
          clear HN1 HBU hrow ho5 hg5 hgo5 bA hsU htop hloU hgn
          obtain ⟨gq, hgq⟩ : ∃ gq, gs2[q]? = some gq := ⟨_, List.getElem?_eq_getElem (by rw [HGS.out]; omega)⟩
          obtain ⟨x, hx, hI, _⟩ := N5.ins q gq hgq
          obtain ⟨a2, c2, hv2, fm⟩ := N5.form
          rw [HGS.out] at hv2
          obtain ⟨g, hag, hlog, hhig, hcl, hfz⟩ := fm q x hx
          subst hag
          injection hv2 with e1 e2 e3
          injection e1 with e1'
          injection e1' with e1''
          have e1x := e1''.symm
          subst e1x
          subst e3
          have hgl : gq.length ≤ 60 := by
            have h1 := tot_mem (List.mem_of_getElem? hgq)
            have h2 : totL gs2 ≤ 60 := by rw [← HST.out]; have h3 := (grpK_facts L HZ.out 0).2.1; have h4 : totL [[]] = 0 := rfl; split <;> first | (rw [totL_app, h3, h4]; omega) | (rw [h3]; omega)
            omega
          have bB := (Below.refl u5.heap.size u5).alloc (Nat.le_refl _) (.cells #[.string s] 9)
          have hrow2 := hI.below bB
          unfold Strs at hrow2
          have hsW := B5.size
          have hloW : lo ≤ u5.heap.size := by rw [HLO.out]; exact B5.size
          have htp := N5.top
          have hw1 : IntKind.i64.wrap ((q : Int) + 1 - 1) = (q : Int) := by rw [IntKind.wrap_i64]; omega
          have hw2 : IntKind.i64.wrap (((q + 1 : Nat) : Int) - 1) = (q : Int) := by rw [IntKind.wrap_i64]; omega
          have hw3 : IntKind.i64.wrap (q : Int) = (q : Int) := by rw [IntKind.wrap_i64]; omega
          have hq8 : (q : Int) < ((q + 1 : Nat) : Int) := by omega
          have hqq : q < q + 1 := by omega
          have HNN : Hid (Nest u5 lo _ _ gs2 vs2) := N5
          have HBB : Hid (Below w2.heap.size w2 u5) := B5
          have HXX : Hid (vs2[q]? = some x) := hx
          have HGQ : Hid (gs2[q]? = some gq) := hgq
          have HAP : Hid (some g ≠ x.ownBlock) := by
            rcases N5.apart hI with h | h
            · cases h
            · exact h
          have hgW : g < u5.heap.size := by omega
          obtain ⟨xa, xc, hxs⟩ := (show ∃ a c, x = .slice a gq.length c by
            rcases hI.form with ⟨rfl, rfl⟩ | ⟨_, _, rfl, _, _⟩
            · exact ⟨_, _, rfl⟩
            · exact ⟨_, _, rfl⟩)
          subst hxs
          clear N5 B5 hx hgq hI fm
          go_wp2_with (at_builtin; refine wpList_append_lies _ rfl _ _ 25 rfl lo 9 i0 (.string ⟨#[]⟩) 1 16 Tryz.underlying25 hi0 hz0 hz1 hz2 rfl (by decide) _ _ _ rfl hrow2 ⟨_, 0, none⟩ 1 1 [.string s] rfl rfl (cell_one_new _ _ _) (fun x hx => by simp at hx; subst hx; rfl) (by omega) (by unfold maxLen; omega) (by omega) (by simp; omega) _ rfl ?_)
          intro b6 c6 u6 ho6 hg6 hgo6 hlt6
          have eb : u6.heap[g]? = u5.heap[g]? := (hg6.block g (by simp; omega) HAP.out).trans (Below.heap_alloc _ _ _ hgW)
          have hc6 : u6.cell? ⟨g, q, none⟩ = some (.slice xa gq.length xc) := (World.cell?_of_block (w := u5) eb).trans hcl
          have hf6 : u6.frozen? ⟨g, q, none⟩ = false := (blk_frozen eb q).trans (hfz q)
          have N6 := HNN.out
          have HN7 : Hid (Nest (u6.setCell ⟨g, q, none⟩ (.slice (some ⟨b6, 0, none⟩) (gq.length + 1) c6)) lo u6.heap.size (.slice (some ⟨g, 0, none⟩) (q + 1) c5) (grpK L nw (0 + 1)) (vs2.set q (.slice (some ⟨b6, 0, none⟩) (gq.length + 1) c6))) := by
            have h7 := Nest.put (gv := g) (cv := c5) (by rw [HGS.out]; exact N6) bB HXX.out HGQ.out hg6 (Strs.snoc ho6) (by rcases hgo6 with h | h; exact .inl h; exact .inr (by have h9 : b6 = u5.heap.size + 1 := (by simpa using h); omega))
            rw [HGS.out] at h7
            rw [grp_step HS.out HST.out HGS.out HGQ.out]
            exact h7
          have HB7 : Hid (Below w2.heap.size w2 (u6.setCell ⟨g, q, none⟩ (.slice (some ⟨b6, 0, none⟩) (gq.length + 1) c6))) := by
            have h1 : Below w2.heap.size w2 u6 := Below.grown (HBB.out.trans (bB.mono HBB.out.size)) hg6 (Nat.le_trans HBB.out.size bB.size) (fun j hj => Nat.le_trans hlo (World.ownsRow.lt hrow2 j hj).1)
            exact Below.grown h1 (setCell_grown u6 g q _) h1.size (fun j hj => by have : g = j := Option.some.inj hj; omega)
          clear N6 hg6 ho6 hgo6 hrow2 bB HNN HBB HXX HGQ HAP eb hfz hcl
          go_wp2
          exact ⟨⟨0 + 1, _, _, by omega, by go_num, HN7.out, HB7.out⟩, by simp [intOf]; omega⟩
        · obtain ⟨p, rfl⟩ : ∃ p, k = p + 1 := ⟨k - 1, by omega⟩
          obtain ⟨r, hr1⟩ : ∃ r, L[p]? = some r := ⟨_, List.getElem?_eq_getElem (by omega)⟩
          obtain ⟨o1, o2, _⟩ := HQ0.out p r s hr1 HS.out
          have z1 := HM.out r (List.mem_of_getElem? hr1)
          have z2 := HM.out s (List.mem_of_getElem? HS.out)
          have HW0 : Hid (∀ u, Below wr.heap.size wr u → Below w.heap.size w u) := fun u hu => HB2.out.trans ((HBU.out.trans (hu.mono HBU.out.size)).mono HB2.out.size)
          have MK := fun (u : World) (hu : Below wr.heap.size wr u) => (⟨(HX2.out.below (HBU.out.trans (hu.mono HBU.out.size)) hl2).cells.1, (HX2.out.below (HBU.out.trans (hu.mono HBU.out.size)) hl2).cells.2.1, (HX2.out.below (HBU.out.trans (hu.mono HBU.out.size)) hl2).cells.2.2, HQC.out u (HBU.out.trans (hu.mono HBU.out.size)) p r hr1, hu⟩ : u.cell? ⟨w.heap.size, 0, none⟩ = some (.slice va es.length vc) ∧ u.cell? ⟨w.heap.size, 1, none⟩ = some (.bool sh) ∧ u.cell? ⟨w.heap.size, 2, none⟩ = some (.int .i64 lv) ∧ u.cell? ⟨gs0, p, none⟩ = some (.string r) ∧ Below wr.heap.size wr u)
          have hS := MK wr (Below.refl _ _)
          have hS2 := MK wr.drew ((Below.refl _ _).drew)
          have K := fun (u1 u2 : World) (hb : Below u1.heap.size u1 u2) (hu : u1.cell? ⟨w.heap.size, 0, none⟩ = some (.slice va es.length vc) ∧ u1.cell? ⟨w.heap.size, 1, none⟩ = some (.bool sh) ∧ u1.cell? ⟨w.heap.size, 2, none⟩ = some (.int .i64 lv) ∧ u1.cell? ⟨gs0, p, none⟩ = some (.string r) ∧ Below wr.heap.size wr u1) => MK u2 (hu.2.2.2.2.trans (hb.mono hu.2.2.2.2.size))
          have CM := fun (u : World) (hu : u.cell? ⟨w.heap.size, 0, none⟩ = some (.slice va es.length vc) ∧ u.cell? ⟨w.heap.size, 1, none⟩ = some (.bool sh) ∧ u.cell? ⟨w.heap.size, 2, none⟩ = some (.int .i64 lv) ∧ u.cell? ⟨gs0, p, none⟩ = some (.string r) ∧ Below wr.heap.size wr u) => sameKey_any (sh := sh) (lv := lv) r z1 s z2 (HE.out.below (HW0.out u hu.2.2.2.2)) HR.out (HT.out.below (HW0.out u hu.2.2.2.2)) o1 o2
          have HNV : Hid (nw (p + 1) = !decide (keyT es sh lv r = keyT es sh lv s)) := by
            show _ = _
            rw [HNA.out, decide_eq_false (by omega), Bool.false_or]
            unfold txAt
            rw [HS.out, show p + 1 - 1 = p by omega, hr1]
            rfl
          obtain ⟨bk, HBK⟩ : ∃ bk, Hid (decide (keyT es sh lv r = keyT es sh lv s) = bk) := ⟨_, rfl⟩
          rw [HBK.out] at CM
          rw [HBK.out] at HNV
          have hw1 : IntKind.i64.wrap ((p : Int) + 1 - 1) = (p : Int) := by rw [IntKind.wrap_i64]; omega
          have hw2 : IntKind.i64.wrap (((p + 1 : Nat) : Int) - 1) = (p : Int) := by rw [IntKind.wrap_i64]; omega
          have hw3 : IntKind.i64.wrap (p : Int) = (p : Int) := by rw [IntKind.wrap_i64]; omega
          have hp8 : (p : Int) < (L.length : Int) := by omega
          have hpz : ((((p + 1 : Nat) : Int)) == 0) = false := by simp; omega
          have hpz2 : (((p : Int) + 1) == 0) = false := by simp; omega
          have hpz3 : ¬ ((p : Int) + 1 = 0) := by omega
          clear MK o1 o2 hr1 HBK hk0
          go_wp2_with fail
          go_region_held (fun u => u.cell? ⟨w.heap.size, 0, none⟩ = some (.slice va es.length vc) ∧ u.cell? ⟨w.heap.size, 1, none⟩ = some (.bool sh) ∧ u.cell? ⟨w.heap.size, 2, none⟩ = some (.int .i64 lv) ∧ u.cell? ⟨gs0, p, none⟩ = some (.string r) ∧ Below wr.heap.size wr u)
            (first | exact hS2 | exact K _ _ (by assumption) (by assumption))
            (first | (go_at_call 22; refine (CM _ (by assumption)).mono ?_; rintro e w' ⟨rfl, hbw⟩))
          all_goals
            have hE9 := (show w'.cell? ⟨w.heap.size, 0, none⟩ = _ ∧ _ ∧ _ ∧ _ ∧ Below wr.heap.size wr w' by assumption).2.2.2.2
            have HN1 : Hid (Nest w' lo hi u8 gs1 vs1) := HN1.out.below hE9
            have HBU : Hid (Below w2.heap.size w2 w') := HBU.out.trans (hE9.mono HBU.out.size)
            clear hS hS2 K CM hw1 hw2 hw3 hp8 hE9
            cases bk
            · have HNW : Hid (nw (p + 1) = true) := HNV.out
              have N1 := HN1.out
              have hgn : gs1.length ≤ 60 := by rw [← HG.out]; have := (grpK_facts L HZ.out (p + 1)).1; omega
              have hloU : lo ≤ w'.heap.size := by rw [HLO.out]; exact HBU.out.size
              have hsU := HBU.out.size
              have htop := N1.top
              have bA := (Below.refl w'.heap.size w').alloc (Nat.le_refl _) (.cells #[.slice none 0 0] 25)
              have hrow := (N1.below bA).row
              obtain ⟨a1, c1, hv1, _⟩ := N1.form
              subst hv1
              clear N1
              go_wp2_with (at_builtin; refine wpList_append_lies _ rfl _ _ 28 rfl lo 25 i1 (.slice none 0 0) 1 24 Tryz.underlying28 hi1 hy0 hy1 hy2 rfl (by decide) _ _ _ rfl hrow ⟨_, 0, none⟩ 1 1 [.slice none 0 0] rfl rfl (cell_one_new _ _ _) (fun x hx => by simp at hx; subst hx; rfl) (by omega) (by unfold maxLen; omega) (by omega) (by simp; omega) _ rfl ?_)
              intro g5 c5 u5 ho5 hg5 hgo5 hlt5
              have N5 := HN1.out.push bA hg5 ho5
              have B5 : Below w2.heap.size w2 u5 := Below.grown (HBU.out.trans (bA.mono HBU.out.size)) hg5 (Nat.le_trans HBU.out.size bA.size) (fun j hj => Nat.le_trans hlo (World.ownsRow.lt hrow j hj).1)
              obtain ⟨q, HQ⟩ : ∃ q, Hid (gs1.length = q) := ⟨_, rfl⟩
              have HGS : Hid ((gs1 ++ [[]]).length = q + 1) := by show _ = _; rw [List.length_append, HQ.out]; rfl
              have HST : Hid ((if nw (p + 1) = true then grpK L nw (p + 1) ++ [[]] else grpK L nw (p + 1)) = gs1 ++ [[]]) := by show _ = _; rw [if_pos HNW.out, HG.out]
              have hq60 : q ≤ 60 := by rw [← HQ.out, ← HG.out]; have := (grpK_facts L HZ.out (p + 1)).1; omega
              rw [HQ.out]
              rw [HQ.out] at N5
              generalize gs1 ++ [[]] = gs2 at *
              generalize vs1 ++ [.slice none 0 0] = vs2 at *
              clear HN1 HBU hrow ho5 hg5 hgo5 bA hsU htop hloU hgn
              obtain ⟨gq, hgq⟩ : ∃ gq, gs2[q]? = some gq := ⟨_, List.getElem?_eq_getElem (by rw [HGS.out]; omega)⟩
              obtain ⟨x, hx, hI, _⟩ := N5.ins q gq hgq
              obtain ⟨a2, c2, hv2, fm⟩ := N5.form
              rw [HGS.out] at hv2
              obtain ⟨g, hag, hlog, hhig, hcl, hfz⟩ := fm q x hx
              subst hag
              injection hv2 with e1 e2 e3
              injection e1 with e1'
              injection e1' with e1''
              have e1x := e1''.symm
              subst e1x
              subst e3
              have hgl : gq.length ≤ 60 := by
                have h1 := tot_mem (List.mem_of_getElem? hgq)
                have h2 : totL gs2 ≤ 60 := by rw [← HST.out]; have h3 := (grpK_facts L HZ.out (p + 1)).2.1; have h4 : totL [[]] = 0 := rfl; split <;> first | (rw [totL_app, h3, h4]; omega) | (rw [h3]; omega)
                omega
              have bB := (Below.refl u5.heap.size u5).alloc (Nat.le_refl _) (.cells #[.string s] 9)
              have hrow2 := hI.below bB
              unfold Strs at hrow2
              have hsW := B5.size
              have hloW : lo ≤ u5.heap.size := by rw [HLO.out]; exact B5.size
              have htp := N5.top
              have hw1 : IntKind.i64.wrap ((q : Int) + 1 - 1) = (q : Int) := by rw [IntKind.wrap_i64]; omega
              have hw2 : IntKind.i64.wrap (((q + 1 : Nat) : Int) - 1) = (q : Int) := by rw [IntKind.wrap_i64]; omega
              have hw3 : IntKind.i64.wrap (q : Int) = (q : Int) := by rw [IntKind.wrap_i64]; omega
              have hq8 : (q : Int) < ((q + 1 : Nat) : Int) := by omega
              have hqq : q < q + 1 := by omega
              have HNN : Hid (Nest u5 lo _ _ gs2 vs2) := N5
              have HBB : Hid (Below w2.heap.size w2 u5) := B5
              have HXX : Hid (vs2[q]? = some x) := hx
              have HGQ : Hid (gs2[q]? = some gq) := hgq
              have HAP : Hid (some g ≠ x.ownBlock) := by
                rcases N5.apart hI with h | h
                · cases h
                · exact h
              have hgW : g < u5.heap.size := by omega
              obtain ⟨xa, xc, hxs⟩ := (show ∃ a c, x = .slice a gq.length c by
                rcases hI.form with ⟨rfl, rfl⟩ | ⟨_, _, rfl, _, _⟩
                · exact ⟨_, _, rfl⟩
                · exact ⟨_, _, rfl⟩)
              subst hxs
              clear N5 B5 hx hgq hI fm
              go_wp2_with (at_builtin; refine wpList_append_lies _ rfl _ _ 25 rfl lo 9 i0 (.string ⟨#[]⟩) 1 16 Tryz.underlying25 hi0 hz0 hz1 hz2 rfl (by decide) _ _ _ rfl hrow2 ⟨_, 0, none⟩ 1 1 [.string s] rfl rfl (cell_one_new _ _ _) (fun x hx => by simp at hx; subst hx; rfl) (by omega) (by unfold maxLen; omega) (by omega) (by simp; omega) _ rfl ?_)
              intro b6 c6 u6 ho6 hg6 hgo6 hlt6
              have eb : u6.heap[g]? = u5.heap[g]? := (hg6.block g (by simp; omega) HAP.out).trans (Below.heap_alloc _ _ _ hgW)
              have hc6 : u6.cell? ⟨g, q, none⟩ = some (.slice xa gq.length xc) := (World.cell?_of_block (w := u5) eb).trans hcl
              have hf6 : u6.frozen? ⟨g, q, none⟩ = false := (blk_frozen eb q).trans (hfz q)
              have N6 := HNN.out
              have HN7 : Hid (Nest (u6.setCell ⟨g, q, none⟩ (.slice (some ⟨b6, 0, none⟩) (gq.length + 1) c6)) lo u6.heap.size (.slice (some ⟨g, 0, none⟩) (q + 1) c5) (grpK L nw ((p + 1) + 1)) (vs2.set q (.slice (some ⟨b6, 0, none⟩) (gq.length + 1) c6))) := by
                have h7 := Nest.put (gv := g) (cv := c5) (by rw [HGS.out]; exact N6) bB HXX.out HGQ.out hg6 (Strs.snoc ho6) (by rcases hgo6 with h | h; exact .inl h; exact .inr (by have h9 : b6 = u5.heap.size + 1 := (by simpa using h); omega))
                rw [HGS.out] at h7
                rw [grp_step HS.out HST.out HGS.out HGQ.out]
                exact h7
              have HB7 : Hid (Below w2.heap.size w2 (u6.setCell ⟨g, q, none⟩ (.slice (some ⟨b6, 0, none⟩) (gq.length + 1) c6))) := by
                have h1 : Below w2.heap.size w2 u6 := Below.grown (HBB.out.trans (bB.mono HBB.out.size)) hg6 (Nat.le_trans HBB.out.size bB.size) (fun j hj => Nat.le_trans hlo (World.ownsRow.lt hrow2 j hj).1)
                exact Below.grown h1 (setCell_grown u6 g q _) h1.size (fun j hj => by have : g = j := Option.some.inj hj; omega)
              clear N6 hg6 ho6 hgo6 hrow2 bB HNN HBB HXX HGQ HAP eb hfz hcl
              go_wp2
              exact ⟨⟨p + 1 + 1, _, _, by omega, by go_num, HN7.out, HB7.out⟩, by simp [intOf]; omega⟩
            · have HNW : Hid (nw (p + 1) = false) := HNV.out
              have N5 := HN1.out
              have B5 := HBU.out
              obtain ⟨q, HQ⟩ : ∃ q, Hid (gs1.length = q + 1) := by
                have := (grpK_facts L HZ.out (p + 1)).2.2 (by omega)
                rw [HG.out] at this
                exact ⟨gs1.length - 1, by show _ = _; omega⟩
              have HGS : Hid (gs1.length = q + 1) := HQ.out
              have HST : Hid ((if nw (p + 1) = true then grpK L nw (p + 1) ++ [[]] else grpK L nw (p + 1)) = gs1) := by show _ = _; rw [if_neg (by rw [HNW.out]; simp), HG.out]
              have hq60 : q ≤ 60 := by have := HQ.out; have := (grpK_facts L HZ.out (p + 1)).1; rw [HG.out] at this; omega
              obtain ⟨a1, c5, hv1, _⟩ := N5.form
              rw [HQ.out] at hv1
              subst hv1
              generalize gs1 = gs2 at *
              generalize vs1 = vs2 at *
              clear HN1 HBU
              obtain ⟨gq, hgq⟩ : ∃ gq, gs2[q]? = some gq := ⟨_, List.getElem?_eq_getElem (by rw [HGS.out]; omega)⟩
              obtain ⟨x, hx, hI, _⟩ := N5.ins q gq hgq
              obtain ⟨a2, c2, hv2, fm⟩ := N5.form
              rw [HGS.out] at hv2
              obtain ⟨g, hag, hlog, hhig, hcl, hfz⟩ := fm q x hx
              subst hag
              injection hv2 with e1 e2 e3
              subst e1
              subst e3
              have hgl : gq.length ≤ 60 := by
                have h1 := tot_mem (List.mem_of_getElem? hgq)
                have h2 : totL gs2 ≤ 60 := by rw [← HST.out]; have h3 := (grpK_facts L HZ.out (p + 1)).2.1; have h4 : totL [[]] = 0 := rfl; split <;> first | (rw [totL_app, h3, h4]; omega) | (rw [h3]; omega)
                omega
              have bB := (Below.refl w'.heap.size w').alloc (Nat.le_refl _) (.cells #[.string s] 9)
              have hrow2 := hI.below bB
              unfold Strs at hrow2
              have hsW := B5.size
              have hloW : lo ≤ w'.heap.size := by rw [HLO.out]; exact B5.size
              have htp := N5.top
              have hw1 : IntKind.i64.wrap ((q : Int) + 1 - 1) = (q : Int) := by rw [IntKind.wrap_i64]; omega
              have hw2 : IntKind.i64.wrap (((q + 1 : Nat) : Int) - 1) = (q : Int) := by rw [IntKind.wrap_i64]; omega
              have hw3 : IntKind.i64.wrap (q : Int) = (q : Int) := by rw [IntKind.wrap_i64]; omega
              have hq8 : (q : Int) < ((q + 1 : Nat) : Int) := by omega
              have hqq : q < q + 1 := by omega
              have HNN : Hid (Nest w' lo _ _ gs2 vs2) := N5
              have HBB : Hid (Below w2.heap.size w2 w') := B5
              have HXX : Hid (vs2[q]? = some x) := hx
              have HGQ : Hid (gs2[q]? = some gq) := hgq
              have HAP : Hid (some g ≠ x.ownBlock) := by
                rcases N5.apart hI with h | h
                · cases h
                · exact h
              have hgW : g < w'.heap.size := by omega
              obtain ⟨xa, xc, hxs⟩ := (show ∃ a c, x = .slice a gq.length c by
                rcases hI.form with ⟨rfl, rfl⟩ | ⟨_, _, rfl, _, _⟩
                · exact ⟨_, _, rfl⟩
                · exact ⟨_, _, rfl⟩)
              subst hxs
              clear N5 B5 hx hgq hI fm
              go_wp2_with (at_builtin; refine wpList_append_lies _ rfl _ _ 25 rfl lo 9 i0 (.string ⟨#[]⟩) 1 16 Tryz.underlying25 hi0 hz0 hz1 hz2 rfl (by decide) _ _ _ rfl hrow2 ⟨_, 0, none⟩ 1 1 [.string s] rfl rfl (cell_one_new _ _ _) (fun x hx => by simp at hx; subst hx; rfl) (by omega) (by unfold maxLen; omega) (by omega) (by simp; omega) _ rfl ?_)
              intro b6 c6 u6 ho6 hg6 hgo6 hlt6
              have eb : u6.heap[g]? = w'.heap[g]? := (hg6.block g (by simp; omega) HAP.out).trans (Below.heap_alloc _ _ _ hgW)
              have hc6 : u6.cell? ⟨g, q, none⟩ = some (.slice xa gq.length xc) := (World.cell?_of_block (w := w') eb).trans hcl
              have hf6 : u6.frozen? ⟨g, q, none⟩ = false := (blk_frozen eb q).trans (hfz q)
              have N6 := HNN.out
              have HN7 : Hid (Nest (u6.setCell ⟨g, q, none⟩ (.slice (some ⟨b6, 0, none⟩) (gq.length + 1) c6)) lo u6.heap.size (.slice (some ⟨g, 0, none⟩) (q + 1) c5) (grpK L nw ((p + 1) + 1)) (vs2.set q (.slice (some ⟨b6, 0, none⟩) (gq.length + 1) c6))) := by
                have h7 := Nest.put (gv := g) (cv := c5) (by rw [HGS.out]; exact N6) bB HXX.out HGQ.out hg6 (Strs.snoc ho6) (by rcases hgo6 with h | h; exact .inl h; exact .inr (by have h9 : b6 = w'.heap.size + 1 := (by simpa using h); omega))
                rw [HGS.out] at h7
                rw [grp_step HS.out HST.out HGS.out HGQ.out]
                exact h7
              have HB7 : Hid (Below w2.heap.size w2 (u6.setCell ⟨g, q, none⟩ (.slice (some ⟨b6, 0, none⟩) (gq.length + 1) c6))) := by
                have h1 : Below w2.heap.size w2 u6 := Below.grown (HBB.out.trans (bB.mono HBB.out.size)) hg6 (Nat.le_trans HBB.out.size bB.size) (fun j hj => Nat.le_trans hlo (World.ownsRow.lt hrow2 j hj).1)
                exact Below.grown h1 (setCell_grown u6 g q _) h1.size (fun j hj => by have : g = j := Option.some.inj hj; omega)
              clear N6 hg6 ho6 hgo6 hrow2 bB HNN HBB HXX HGQ HAP eb hfz hcl
              go_wp2
              exact ⟨⟨p + 1 + 1, _, _, by omega, by go_num, HN7.out, HB7.out⟩, by simp [intOf]; omega⟩
      · obtain rfl : k = L.length := by omega
        go_wp2
        go_ret2
        exact ⟨_, vs1, rfl, (hN.high hN.top (Nat.le_refl _)).low (by omega), HB2.out.trans (hbr.mono HB2.out.size)⟩
end Go.Proofs.YtanfebccenfffahGreatDoor

namespace Go.Proofs.YtanfebccenfffahGreatDoor
open Go.RowKit

theorem step_app_i {ops : Array Oper} {o : Oper} {a : Act} {w : World} {K : Act → World → Prop} {Q : Exit → Act → World → Prop} {E : Prop} (hw : Region.wanted o (yielded ops a.tmps) = true) (s x : Operand)
    (ho : o.op = .call { callee := .builtin .append, args := #[s, x], argTypes := #[53, 53] }) (B : Nat) (v : Value) (l l' : List Int) (hs : a.eval s = v) (hown : Ints w B v l)
    (ad : Addr) (m c : Nat) (hx : a.eval x = .slice (some ad) m c) (hml : l'.length = m) (hnews : ∀ j u, (l'.map (Value.int .i64))[j]? = some u → w.cell? (ad.add j) = some u) (hm : 0 < m) (hb : l.length + m ≤ 1048576) (hbase : B ≤ w.heap.size) (N : Nat) (hN : N = l.length + m) (L : List Int) (hL : L = l ++ l')
    (h : ∀ g cap w', Ints w' B (.slice (some ⟨g, 0, none⟩) N cap) L → w.grownBy w' v.ownBlock → g < w'.heap.size → K (a.put o.dst (.slice (some ⟨g, 0, none⟩) N cap)) w') :
    if Region.wanted o (yielded ops a.tmps) = true then Oper.wp Tryz.prog o a w K Q else E := by
  obtain ⟨i0, hi, hzz, hz1, hz2⟩ := info_parts info_int
  rw [if_pos hw]
  subst hN
  subst hL
  subst hml
  refine wp_append_lies w s x 53 ho B 3 i0 (.int .i64 0) 1 8 Tryz.underlying53 hi hzz hz1 hz2 rfl (by decide) v l.length (l.map (Value.int .i64)) hs hown ad l'.length c (l'.map (Value.int .i64)) hx (by simp) hnews (fun u hu => by obtain ⟨y, _, rfl⟩ := List.mem_map.1 hu; rfl) hm (by unfold maxLen; omega) (by omega) hbase w.heap.size rfl fun g cap w' h1 h2 _ h4 => h g cap w' ?_ h2 h4
  unfold Ints
  rw [List.length_append, List.map_append]
  exact h1

theorem fresh0 (w : World) (n B : Nat) (hn : n = w.heap.size) (hB : B ≤ n) : Ints (w.alloc (.cells #[] 3)) B (.slice (some ⟨n, 0, none⟩) 0 0) [] := by
  subst hn
  exact ⟨rfl, .inr ⟨w.heap.size, 0, #[], rfl, hB, heap_alloc_new _ _, Nat.le_refl _, Nat.zero_le _, rfl, rfl⟩⟩

theorem ints_drew {w : World} {B : Nat} {v : Value} {l : List Int} (h : Ints w B v l) : Ints w.drew B v l := h
theorem ints_alloc {w : World} {B : Nat} {v : Value} {l : List Int} (h : Ints w B v l) (o : Obj) : Ints (w.alloc o) B v l := World.ownsRow.alloc h o

/-- A block of one int. -/
def NewsAt (w : World) (n : Nat) (x : Int) : Prop := n < w.heap.size ∧ w.cell? ⟨n, 0, none⟩ = some (.int .i64 x)
theorem NewsAt.new (w : World) (n : Nat) (x : Int) (hn : n = w.heap.size) : NewsAt (w.alloc (.cells #[.int .i64 x] 3)) n x := by
  subst hn
  exact ⟨by simp, by simp⟩
theorem NewsAt.drew {w : World} {n : Nat} {x : Int} (h : NewsAt w n x) : NewsAt w.drew n x := h
theorem NewsAt.alloc {w : World} {n : Nat} {x : Int} (h : NewsAt w n x) (o : Obj) : NewsAt (w.alloc o) n x :=
  ⟨Nat.lt_of_lt_of_le h.1 (by simp), (World.cell?_of_block (Below.heap_alloc _ _ _ h.1)).trans h.2⟩
theorem NewsAt.grown {w w' : World} {row : Option Nat} {n : Nat} {x : Int} (h : NewsAt w n x) (hg : w.grownBy w' row) (hne : some n ≠ row) : NewsAt w' n x :=
  ⟨Nat.lt_of_lt_of_le h.1 hg.size, (hg.cell_far _ h.1 hne).trans h.2⟩
theorem NewsAt.news {w : World} {n : Nat} {x : Int} (h : NewsAt w n x) : ∀ j u, (([x] : List Int).map (Value.int .i64))[j]? = some u → w.cell? ((⟨n, 0, none⟩ : Addr).add j) = some u := by
  intro j u hj
  match j, hj with
  | 0, hj => simp at hj; subst hj; simpa [Addr.add] using h.2

theorem NewsAt.of {w w' : World} {n : Nat} {x : Int} (h : NewsAt w n x) (e : w'.heap = w.heap) : NewsAt w' n x := by
  refine ⟨by rw [e]; exact h.1, ?_⟩
  rw [World.cell?_of_block (w := w) (w' := w') (by rw [e])]
  exact h.2
theorem ints_of {w w' : World} {B : Nat} {v : Value} {l : List Int} (h : Ints w B v l) (e : w'.heap = w.heap) : Ints w' B v l := by
  unfold Ints World.ownsRow at h ⊢
  rw [e]
  exact h
theorem own_ne_succ (n : Nat) : some (n + 1) ≠ (Value.slice (some ⟨n, 0, none⟩) 0 0).ownBlock := fun e => by injection e with e2; simp at e2
theorem own_ne_size (n : Nat) : some n ≠ (Value.slice (some ⟨n + 1, 0, none⟩) 0 0).ownBlock := fun e => by injection e with e2; simp at e2
/-- The three orders in which the two new lists are laid. -/
theorem freshA {u W : World} (e : W.heap = (u.alloc (.cells #[] 3)).heap) : Ints W u.heap.size (.slice (some ⟨u.heap.size, 0, none⟩) 0 0) [] := ints_of (fresh0 u _ _ rfl (Nat.le_refl _)) e
theorem freshB {u W : World} {x : Int} (e : W.heap = ((u.alloc (.cells #[] 3)).alloc (.cells #[.int .i64 x] 3)).heap) : Ints W u.heap.size (.slice (some ⟨u.heap.size, 0, none⟩) 0 0) [] := ints_of (ints_alloc (fresh0 u _ _ rfl (Nat.le_refl _)) _) e
theorem freshC {u W : World} {x : Int} (e : W.heap = ((u.alloc (.cells #[.int .i64 x] 3)).alloc (.cells #[] 3)).heap) : Ints W u.heap.size (.slice (some ⟨u.heap.size + 1, 0, none⟩) 0 0) [] := ints_of (fresh0 _ _ _ (by simp) (by omega)) e
theorem newsB {u W W' : World} {x : Int} (hg : W.grownBy W' (Value.slice (some ⟨u.heap.size, 0, none⟩) 0 0).ownBlock) (e : W.heap = ((u.alloc (.cells #[] 3)).alloc (.cells #[.int .i64 x] 3)).heap) : NewsAt W' (u.heap.size + 1) x := ((NewsAt.new _ _ x (by simp)).of e).grown hg (own_ne_succ _)
theorem newsC {u W W' : World} {x : Int} (hg : W.grownBy W' (Value.slice (some ⟨u.heap.size + 1, 0, none⟩) 0 0).ownBlock) (e : W.heap = ((u.alloc (.cells #[.int .i64 x] 3)).alloc (.cells #[] 3)).heap) : NewsAt W' u.heap.size x := (((NewsAt.new u _ x rfl).alloc _).of e).grown hg (own_ne_size _)

/-- The block of the rules. -/
def BoxR (w u : World) (v : Value) (sh : Bool) (lv : Int) : Prop := u.heap[w.heap.size]? = some (.cells #[v, .bool sh, .int .i64 lv] 33)

theorem BoxR.below {w u u' : World} {v : Value} {sh : Bool} {lv : Int} (h : BoxR w u v sh lv) (hb : Below u.heap.size u u') : BoxR w u' v sh lv := by
  unfold BoxR
  rw [hb.block _ (Array.getElem?_eq_some_iff.1 h).1]; exact h

def LMRel (w : World) (es : List Ent) (run rest : List Int) (v : Value) (sh : Bool) (lv : Int) (ans : Int) (i : Value) (wr : World) : Prop :=
  ∃ k : Nat, k ≤ rest.length ∧ i = .int .i64 k ∧ markFrom es run rest (rest.drop k) k = ans ∧ BoxR w wr v sh lv ∧ Below w.heap.size w wr

set_option maxRecDepth 100000 in
set_option maxHeartbeats 4000000 in
theorem mark4_row (w : World) (B Br Bs gr cr gs cs : Nat) (v : Value) (es : List Ent) (sh : Bool) (lv : Int) (run rest : List Int) (hE : Ents w B v es) (hn : es.length ≤ 1048576) (hr : ∀ e ∈ es, e.runes.length ≤ 1048576)
    (hR : Ints w Br (.slice (some ⟨gr, 0, none⟩) run.length cr) run) (hS : Ints w Bs (.slice (some ⟨gs, 0, none⟩) rest.length cs) rest) (h1 : 1 ≤ run.length) (hrl : run.length ≤ 4000) (hsl : rest.length ≤ 4000) :
    Calls Tryz.prog 64 #[.agg #[v, .bool sh, .int .i64 lv], .slice (some ⟨gr, 0, none⟩) run.length cr, .slice (some ⟨gs, 0, none⟩) rest.length cs] w fun e w' => e = .returned (.int .i64 (markAt es run rest)) ∧ Below w.heap.size w w' := by
  obtain ⟨i0, hi, hzz, hz1, hz2⟩ := info_parts info_int
  obtain ⟨ans, HANS⟩ : ∃ ans, Hid (markAt es run rest = ans) := ⟨_, rfl⟩
  rw [HANS.out]
  obtain ⟨va, vn, vc, rfl⟩ : ∃ a n c, v = .slice a n c := by
    rcases hE.form with ⟨rfl, _⟩ | ⟨_, _, rfl, _, _, _, _⟩
    · exact ⟨_, _, _, rfl⟩
    · exact ⟨_, _, _, rfl⟩
  have CL := fun r w => specClass_any r w
  have hcap : rest.length ≤ cs := by
    rcases hS.form with ⟨h, _⟩ | ⟨_, _, h, h2, _⟩
    · cases h
    · injection h with _ _ h3; omega
  go_enter Tryz.func64, Tryz.ntmps64
  go_wp2
  go_loopw [15] (fun i wr => LMRel w es run rest (.slice va vn vc) sh lv ans i wr) (fun i _ => rest.length - (intOf i).toNat)
  case atStart => exact ⟨0, Nat.zero_le _, rfl, by rw [List.drop_zero]; exact HANS.out, heap_alloc_new w _, (Below.refl _ _).alloc (Nat.le_refl _) _⟩
  case round =>
    clear HANS
    obtain ⟨k, hk, rfl, hA, hB, hb⟩ := hrel
    have HA : Hid _ := hA
    clear hA
    by_cases hlt : k < rest.length
    · obtain ⟨m, hm⟩ : ∃ m, rest[k]? = some m := ⟨_, List.getElem?_eq_getElem hlt⟩
      have c0 := ints_at0 (hS.below hb) k m hm
      have hk8 : (k : Int) < (rest.length : Int) := by omega
      have HA2 : Hid ((if cls m = 0 then -1 else if blkB rest k (cls m) = false ∧ 0 ≤ atE es (run ++ [m]) then (k : Int) else markFrom es run rest (rest.drop (k + 1)) (k + 1)) = ans) := by
        show _ = _
        rw [← HA.out, int_drop hm]
        rfl
      clear HA
      by_cases hc : cls m = 0
      · have HF : Hid (-1 = ans) := by show _ = _; rw [← HA2.out, if_pos hc]
        have C0 := fun w => CL m w
        rw [hc] at C0
        clear HA2 CL
        go_wp2_with fail
        refine (C0 _).mono ?_
        rintro e w3 ⟨rfl, rfl⟩
        go_wp2
        go_ret
        rw [← HF.out]
        exact ⟨rfl, hb⟩
      · have HA3 : Hid ((if blkB rest k (cls m) = false ∧ 0 ≤ atE es (run ++ [m]) then (k : Int) else markFrom es run rest (rest.drop (k + 1)) (k + 1)) = ans) := by show _ = _; rw [← HA2.out, if_neg hc]
        have hc' : (cls m == 0) = false := by simpa using hc
        clear HA2
        obtain ⟨c, HC⟩ : ∃ c, Hid (cls m = c) := ⟨_, rfl⟩
        have C0 := fun w => CL m w
        rw [HC.out] at C0 hc' HA3
        have hSb := hS.below hb
        have hkc : k ≤ cs := by omega
        go_wp2_with fail
        refine (C0 _).mono ?_
        rintro e w3 ⟨rfl, hw3⟩
        obtain rfl : wr = w3 := hw3.symm
        clear C0 c0
        go_wp2_with fail
        go_loop [10, 28] (fun bv i => ∃ j : Nat, j ≤ k ∧ i = .int .i64 j ∧ bv = .bool (blkB rest j c)) (fun _ i => k - (intOf i).toNat)
        case atStart => exact ⟨0, Nat.zero_le _, rfl, rfl⟩
        case round =>
          obtain ⟨j, hj, rfl, rfl⟩ := hrel
          by_cases hjl : j < k
          · obtain ⟨x, hx⟩ : ∃ x, rest[j]? = some x := ⟨_, List.getElem?_eq_getElem (by omega)⟩
            have cx := ints_at0 hSb j x hx
            have hj8 : (j : Int) < (k : Int) := by omega
            have hst := blk_step (c := c) hx
            cases hbl : blkB rest j c
            · have CX := fun w => CL x w
              rw [hbl, Bool.false_or] at hst
              have HST : Hid _ := hst
              clear hst hx
              go_wp2_with fail
              refine (CX _).mono ?_
              rintro e w4 ⟨rfl, hw4⟩
              obtain rfl : wr = w4 := hw4.symm
              clear CX
              go_wp2
              exact ⟨⟨j + 1, hjl, by go_num, by rw [HST.out]⟩, by simp [intOf]; omega⟩
            · rw [hbl, Bool.true_or] at hst
              have HST : Hid _ := hst
              clear hst hx
              go_wp2
              exact ⟨⟨j + 1, hjl, by go_num, by rw [HST.out]⟩, by simp [intOf]; omega⟩
          · have hjk : j = k := by omega
            subst hjk
            obtain ⟨p0, p1, p2⟩ : wr.cell? ⟨w.heap.size, 0, none⟩ = some (.slice va vn vc) ∧ wr.cell? ⟨w.heap.size, 1, none⟩ = some (.bool sh) ∧ wr.cell? ⟨w.heap.size, 2, none⟩ = some (.int .i64 lv) := ⟨cell_of_row _ _ 0 _ _ _ hB, cell_of_row _ _ 1 _ _ _ hB, cell_of_row _ _ 2 _ _ _ hB⟩
            generalize hbl : blkB rest j c = bb
            cases bb
            · have HB : Hid (BoxR _ _ _ _ _) := hB
              have HBE : Hid (Below _ _ _) := hb
              have RC : ∀ W : World, Below wr.heap.size wr W → ∀ i u, (run.map (Value.int .i64))[i]? = some u → W.cell? ((⟨gr, 0, none⟩ : Addr).add i) = some u := fun W hW i u hi => by
                rw [List.getElem?_map, Option.map_eq_some_iff] at hi
                obtain ⟨y, hy, rfl⟩ := hi
                rw [Addr.add_mid, hW.cell (Nat.lt_of_lt_of_le (World.ownsRow.lt hR gr rfl).2 hb.size), Nat.zero_add]
                exact ints_at0 (hR.below hb) i y hy
              have AT := fun (W : World) (B' : Nat) (v' : Value) (hW : Below wr.heap.size wr W) (hi : Ints W B' v' (run ++ [m])) => at3_any (sh := sh) (lv := lv) ((hE.below hb).below hW) hi hn (by rw [List.length_append]; simp; omega) hr
              go_wp2_with fail
              have KS : Hid (∀ u, Below wr.heap.size wr u → u.cell? ⟨w.heap.size, 0, none⟩ = some (.slice va vn vc) ∧ u.cell? ⟨w.heap.size, 1, none⟩ = some (.bool sh) ∧ u.cell? ⟨w.heap.size, 2, none⟩ = some (.int .i64 lv)) := fun u hu => (show _ from ⟨cell_of_row _ _ 0 _ _ _ (hB.below hu), cell_of_row _ _ 1 _ _ _ (hB.below hu), cell_of_row _ _ 2 _ _ _ (hB.below hu)⟩)
              go_region_held3 (fun u => u.cell? ⟨w.heap.size, 0, none⟩ = some (.slice va vn vc) ∧ u.cell? ⟨w.heap.size, 1, none⟩ = some (.bool sh) ∧ u.cell? ⟨w.heap.size, 2, none⟩ = some (.int .i64 lv)) (exact KS.out _ (by repeat (first | with_reducible exact Below.refl _ _ | with_reducible exact hbw4 | with_reducible exact hbw3 | with_reducible exact hbw2 | with_reducible refine Below.drew ?_ | with_reducible refine Below.alloc ?_ (by first | omega | (simp; done) | (simp; omega)) _))) ((first
                | (refine step_app_i (by rfl) (.tmp 44) (.tmp 45) rfl wr.heap.size (.slice (some ⟨wr.heap.size, 0, none⟩) 0 0) [] run rfl (freshA rfl) ⟨gr, 0, none⟩ run.length cr rfl rfl (RC _ (by repeat (first | with_reducible exact Below.refl _ _ | with_reducible exact hbw4 | with_reducible exact hbw3 | with_reducible exact hbw2 | with_reducible refine Below.drew ?_ | with_reducible refine Below.alloc ?_ (by first | omega | (simp; done) | (simp; omega)) _))) (by omega) (by simp; omega) (by first | omega | (simp; done) | (simp; omega)) run.length (by simp) run rfl ?_; intro g2 c2 w2 i2 hg2 hl2; have hbw2 : Below wr.heap.size wr w2 := Below.grown (by repeat (first | with_reducible exact Below.refl _ _ | with_reducible exact hbw4 | with_reducible exact hbw3 | with_reducible exact hbw2 | with_reducible refine Below.drew ?_ | with_reducible refine Below.alloc ?_ (by first | omega | (simp; done) | (simp; omega)) _)) hg2 (by first | omega | (simp; done) | (simp; omega)) (fun k hk => by simp [Value.ownBlock] at hk; omega); have hsw2 := hbw2.size; clear hg2)
                | (refine step_app_i (by rfl) (.tmp 44) (.tmp 45) rfl wr.heap.size (.slice (some ⟨wr.heap.size, 0, none⟩) 0 0) [] run rfl (freshB (x := m) rfl) ⟨gr, 0, none⟩ run.length cr rfl rfl (RC _ (by repeat (first | with_reducible exact Below.refl _ _ | with_reducible exact hbw4 | with_reducible exact hbw3 | with_reducible exact hbw2 | with_reducible refine Below.drew ?_ | with_reducible refine Below.alloc ?_ (by first | omega | (simp; done) | (simp; omega)) _))) (by omega) (by simp; omega) (by first | omega | (simp; done) | (simp; omega)) run.length (by simp) run rfl ?_; intro g2 c2 w2 i2 hg2 hl2; have hbw2 : Below wr.heap.size wr w2 := Below.grown (by repeat (first | with_reducible exact Below.refl _ _ | with_reducible exact hbw4 | with_reducible exact hbw3 | with_reducible exact hbw2 | with_reducible refine Below.drew ?_ | with_reducible refine Below.alloc ?_ (by first | omega | (simp; done) | (simp; omega)) _)) hg2 (by first | omega | (simp; done) | (simp; omega)) (fun k hk => by simp [Value.ownBlock] at hk; omega); have hsw2 := hbw2.size; have nw2 := newsB (x := m) hg2 rfl; clear hg2)
                | (refine step_app_i (by rfl) (.tmp 44) (.tmp 45) rfl wr.heap.size (.slice (some ⟨wr.heap.size + 1, 0, none⟩) 0 0) [] run rfl (freshC (x := m) rfl) ⟨gr, 0, none⟩ run.length cr rfl rfl (RC _ (by repeat (first | with_reducible exact Below.refl _ _ | with_reducible exact hbw4 | with_reducible exact hbw3 | with_reducible exact hbw2 | with_reducible refine Below.drew ?_ | with_reducible refine Below.alloc ?_ (by first | omega | (simp; done) | (simp; omega)) _))) (by omega) (by simp; omega) (by first | omega | (simp; done) | (simp; omega)) run.length (by simp) run rfl ?_; intro g2 c2 w2 i2 hg2 hl2; have hbw2 : Below wr.heap.size wr w2 := Below.grown (by repeat (first | with_reducible exact Below.refl _ _ | with_reducible exact hbw4 | with_reducible exact hbw3 | with_reducible exact hbw2 | with_reducible refine Below.drew ?_ | with_reducible refine Below.alloc ?_ (by first | omega | (simp; done) | (simp; omega)) _)) hg2 (by first | omega | (simp; done) | (simp; omega)) (fun k hk => by simp [Value.ownBlock] at hk; omega); have hsw2 := hbw2.size; have nw2 := newsC (x := m) hg2 rfl; clear hg2)
                | (refine step_app_i (by rfl) (.tmp 46) (.tmp 48) rfl wr.heap.size (.slice (some ⟨g2, 0, none⟩) run.length c2) run [m] rfl (ints_of (ints_alloc i2 (.cells #[.int .i64 m] 3)) rfl) ⟨w2.heap.size, 0, none⟩ 1 1 rfl rfl (NewsAt.news ((NewsAt.new w2 _ m rfl).of rfl)) (by omega) (by omega) (by have := hbw2.size; first | omega | (simp; done) | (simp; omega)) (run.length + 1) rfl (run ++ [m]) rfl ?_; intro g3 c3 w3 i3 hg3 hl3; have hbw3 : Below wr.heap.size wr w3 := Below.grown (by repeat (first | with_reducible exact Below.refl _ _ | with_reducible exact hbw4 | with_reducible exact hbw3 | with_reducible exact hbw2 | with_reducible refine Below.drew ?_ | with_reducible refine Below.alloc ?_ (by first | omega | (simp; done) | (simp; omega)) _)) hg3 (by have := hbw2.size; first | omega | (simp; done) | (simp; omega)) (fun k hk => (World.ownsRow.lt i2 k hk).1); have hsw3 := hbw3.size; clear hg3)
                | (refine step_app_i (by rfl) (.tmp 46) (.tmp 48) rfl wr.heap.size (.slice (some ⟨g2, 0, none⟩) run.length c2) run [m] rfl (ints_of i2 rfl) ⟨wr.heap.size + 1, 0, none⟩ 1 1 rfl rfl (NewsAt.news (nw2.of rfl)) (by omega) (by omega) (by have := hbw2.size; first | omega | (simp; done) | (simp; omega)) (run.length + 1) rfl (run ++ [m]) rfl ?_; intro g3 c3 w3 i3 hg3 hl3; have hbw3 : Below wr.heap.size wr w3 := Below.grown (by repeat (first | with_reducible exact Below.refl _ _ | with_reducible exact hbw4 | with_reducible exact hbw3 | with_reducible exact hbw2 | with_reducible refine Below.drew ?_ | with_reducible refine Below.alloc ?_ (by first | omega | (simp; done) | (simp; omega)) _)) hg3 (by have := hbw2.size; first | omega | (simp; done) | (simp; omega)) (fun k hk => (World.ownsRow.lt i2 k hk).1); have hsw3 := hbw3.size; clear hg3)
                | (refine step_app_i (by rfl) (.tmp 46) (.tmp 48) rfl wr.heap.size (.slice (some ⟨g2, 0, none⟩) run.length c2) run [m] rfl (ints_of i2 rfl) ⟨wr.heap.size, 0, none⟩ 1 1 rfl rfl (NewsAt.news (nw2.of rfl)) (by omega) (by omega) (by have := hbw2.size; first | omega | (simp; done) | (simp; omega)) (run.length + 1) rfl (run ++ [m]) rfl ?_; intro g3 c3 w3 i3 hg3 hl3; have hbw3 : Below wr.heap.size wr w3 := Below.grown (by repeat (first | with_reducible exact Below.refl _ _ | with_reducible exact hbw4 | with_reducible exact hbw3 | with_reducible exact hbw2 | with_reducible refine Below.drew ?_ | with_reducible refine Below.alloc ?_ (by first | omega | (simp; done) | (simp; omega)) _)) hg3 (by have := hbw2.size; first | omega | (simp; done) | (simp; omega)) (fun k hk => (World.ownsRow.lt i2 k hk).1); have hsw3 := hbw3.size; clear hg3)
                | (go_at_call 43; refine (AT _ _ _ (by repeat (first | with_reducible exact Below.refl _ _ | with_reducible exact hbw4 | with_reducible exact hbw3 | with_reducible exact hbw2 | with_reducible refine Below.drew ?_ | with_reducible refine Below.alloc ?_ (by first | omega | (simp; done) | (simp; omega)) _)) (by repeat (first | with_reducible exact i3 | with_reducible refine ints_drew ?_ | with_reducible refine ints_alloc ?_ _))).mono ?_; rintro e w4 ⟨rfl, b4⟩; have hbw4 : Below wr.heap.size wr w4 := hbw3.trans (Below.mono (by first | exact b4 | exact ((Below.refl _ _).drew).trans b4) hbw3.size))))
              all_goals
                have hbx : Below w.heap.size w w4 := HBE.out.trans (hbw4.mono HBE.out.size)
                have HBX : Hid (Below _ _ _) := hbx
                have HBR : Hid (BoxR _ _ _ _ _) := hB.below hbw4
                clear AT RC KS hbx hbw4 hbw3 hbw2 i3 i2 b4
                by_cases hp : 0 ≤ atE es (run ++ [m])
                · have HF : Hid ((j : Int) = ans) := by show _ = _; rw [← HA3.out, if_pos ⟨hbl, hp⟩]
                  clear HA3
                  go_wp2
                  go_ret
                  rw [← HF.out]
                  exact ⟨rfl, HBX.out⟩
                · have HF : Hid (markFrom es run rest (rest.drop (j + 1)) (j + 1) = ans) := by show _ = _; rw [← HA3.out, if_neg (fun c => hp c.2)]
                  clear HA3
                  go_wp2
                  exact ⟨⟨j + 1, hlt, by go_num, HF.out, HBR.out, HBX.out⟩, by simp [intOf]; omega⟩
            · have HF : Hid (markFrom es run rest (rest.drop (j + 1)) (j + 1) = ans) := by show _ = _; rw [← HA3.out, if_neg (by simp [hbl])]
              clear HA3 CL
              go_wp2_with fail
              go_quiet (fail)
              go_wp2
              exact ⟨⟨j + 1, hlt, by go_num, HF.out, hB.below (below_drewN (Below.refl _ _) _), below_drewN hb _⟩, by simp [intOf]; omega⟩
    · have hk3 : k = rest.length := by omega
      subst hk3
      have HF : Hid (-1 = ans) := by show _ = _; rw [← HA.out, List.drop_length]; rfl
      clear HA CL
      go_wp2
      go_ret
      rw [← HF.out]
      exact ⟨rfl, hb⟩
end Go.Proofs.YtanfebccenfffahGreatDoor
