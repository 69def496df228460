/- Contract of the specification's FindRow. -/
import Derived.Test.YtecgkekafbimaaaDoorIFRow6
namespace Go.Proofs.YtecgkekafbimaaaDoor
open Go.RowKit

def SfRel (w : World) (l : List Rw) (key : ByteArray) (vi : Value) (wr : World) : Prop :=
  ∃ k : Nat, k ≤ l.length ∧ vi = .int .i64 (k : Int) ∧ (∀ y ∈ l.take k, y.key ≠ key) ∧ Below w.heap.size w wr

theorem take_not {l : List Rw} {key : ByteArray} {k : Nat} {x : Rw} (h : ∀ y ∈ l.take k, y.key ≠ key) (hx : l[k]? = some x) (hk : x.key ≠ key) : ∀ y ∈ l.take (k + 1), y.key ≠ key := by
  intro y hy
  rw [List.take_add_one, hx] at hy
  rcases List.mem_append.1 hy with hy | hy
  · exact h y hy
  · simp at hy
    subst hy
    exact hk

theorem eqT {a b : ByteArray} (h : a = b) : (a.toList == b.toList) = true := by subst h; simp

set_option maxRecDepth 100000 in
set_option maxHeartbeats 8000000 in
theorem specFR_any {w : World} {B : Nat} {vp : Value} {ss : List ByteArray} (key : ByteArray) (hS : Strs w B vp ss) (hz : ∀ s ∈ ss, s.size ≤ 1048576) (hl : ss.length ≤ 1048576) :
    Calls Tryd.prog 7 #[vp, .string key] w fun e w' => e = .returned (frV (findA ss key) (bookF ss).isSome) ∧ Below w.heap.size w w' := by
  have hba := (Below.refl w.heap.size w).alloc (Nat.le_refl _) (.cells #[.string ⟨#[]⟩, .string ⟨#[]⟩, .string ⟨#[]⟩] 25)
  have HX : Hid (BoxR _ _) := boxR_new w
  have HB : Hid (Below _ _ _) := hba
  have BK := specAll_any (hS.below hba) hz hl
  obtain ⟨a, c, rfl, _⟩ := strs6_all hS
  obtain ⟨R, HR⟩ : ∃ R, Hid (findA ss key = R) := ⟨_, rfl⟩
  rw [HR.out]
  clear hS hz hba
  cases hbk : bookF ss with
  | none =>
    have HA : Hid (R = (rwZ, 0)) := by show _ = _; rw [← HR.out]; exact findA_bad hbk
    rw [hbk] at BK
    clear hbk
    go_enter Tryd.func7, Tryd.ntmps7
    go_wp2_with fail
    refine BK.mono ?_
    rintro e w2 ⟨v2, rfl, _, b2⟩
    obtain ⟨hx1, ⟨x0, x1, x2⟩, xf⟩ := (HX.out.below b2).facts
    have HB2 : Hid (Below w.heap.size w w2) := HB.out.trans (b2.mono HB.out.size)
    clear BK HX HB b2
    go_wp2
    refine bodyPost_ret (v := .tuple #[.agg #[.string ⟨#[]⟩, .string ⟨#[]⟩, .string ⟨#[]⟩], .int .i64 0, .bool false]) ?_ rfl ⟨by rw [HA.out]; rfl, below_res3 HB2.out _ _ _⟩
    rw [results_rw rfl]
    go_simp
  | some gs =>
    rw [hbk] at BK
    obtain ⟨hgl, hg60⟩ := bookF_is hbk
    have HG : Hid (∀ l ∈ gs, goodR l = true ∧ 0 < l.length) := bookF_good hbk
    have H60 : Hid (∀ l ∈ gs, 0 < l.length ∧ l.length ≤ 1048576) := fun l hl => ⟨(HG.out l hl).2, by have := hg60 l hl; omega⟩
    obtain ⟨hp1, hp2⟩ := pageF_le gs key
    have HBK : Hid (bookF ss = some gs) := hbk
    clear hg60 hbk
    go_enter Tryd.func7, Tryd.ntmps7
    go_wp2_with fail
    refine BK.mono ?_
    rintro e w2 ⟨v2, rfl, hN, b2⟩
    obtain ⟨vs, N2⟩ := hN gs rfl
    obtain ⟨a2, c2, rfl, fm⟩ := N2.form
    have HN : Hid (NestR w2 _ w2.heap.size _ gs vs) := N2
    have HFM : Hid _ := fm
    have HX2 : Hid (BoxR w2 w.heap.size) := HX.out.below b2
    have HB2 : Hid (Below w.heap.size w w2) := HB.out.trans (b2.mono HB.out.size)
    obtain ⟨P, HP⟩ : ∃ P, Hid (pageF gs key = P) := ⟨_, rfl⟩
    rw [HP.out] at hp1 hp2
    obtain ⟨p, lk⟩ := P
    simp only [] at hp1 hp2
    clear BK HX HB b2 hN N2 fm
    go_wp2_with fail
    go_loopw [9, 10, 11] (fun vlo vhi vlk wr => PfRel w2 gs key vlo vhi vlk wr) (fun vlo vhi _ _ => (intOf vhi).toNat - (intOf vlo).toNat)
    case atStart => exact ⟨0, gs.length, 0, by omega, by omega, by omega, rfl, rfl, rfl, rfl, rfl⟩
    case round =>
      obtain ⟨l0, h0, k0, q1, q2, q3, rfl, rfl, rfl, hE, rfl⟩ := hrel
      have HE : Hid _ := hE
      clear hE
      by_cases hlt : l0 < h0
      · have hlt8 : (l0 : Int) < (h0 : Int) := by omega
        obtain ⟨m, HM⟩ : ∃ m, Hid ((l0 + h0) / 2 = m) := ⟨_, rfl⟩
        have hm := HM.out
        have hm1 : l0 ≤ m := by omega
        have hm2 : m < h0 := by omega
        have hq : ((l0 : Int) + (h0 : Int)).tdiv 2 = (m : Int) := by rw [Int.tdiv_eq_ediv_of_nonneg (by omega)]; omega
        have hm8 : (m : Int) < (gs.length : Int) := by omega
        obtain ⟨l, hl⟩ : ∃ l, gs[m]? = some l := ⟨_, List.getElem?_eq_getElem (by omega)⟩
        obtain ⟨vl, hvl, hI, _⟩ := HN.out.ins m l hl
        obtain ⟨gb, rfl, _, _, cb, _⟩ := HFM.out m _ hvl
        have hcb := rw_cell_lt cb
        obtain ⟨p1, p2⟩ := H60.out l (List.mem_of_getElem? hl)
        obtain ⟨gl, cl, rfl, ql⟩ := rws_at hI p1
        obtain ⟨n, HN1⟩ : ∃ n, Hid (l.length = n + 1) := ⟨l.length - 1, (by show _ = _; omega)⟩
        obtain ⟨xl, hxl⟩ : ∃ xl, l[l.length - 1]? = some xl := ⟨_, List.getElem?_eq_getElem (by omega)⟩
        have cl0 := ql _ xl hxl
        have hgm : gs[(l0 + h0) / 2]? = some l := by rw [hm]; exact hl
        have hek := endK_at hxl
        have hgl2 := rw_cell_lt cl0
        have hn1 : (l.length : Int) - 1 = ((l.length - 1 : Nat) : Int) := by omega
        have hn2 : ((l.length - 1 : Nat) : Int) < (l.length : Int) := by omega
        clear hvl hI ql hxl hl hm
        cases hlk : ltK xl.key key
        · have HE2 : Hid (pfF gs key l0 m (k0 + 1) = pageF gs key) := by show _ = _; rw [← HE.out, pfF_down hlt hgm (by rw [hek]; exact hlk), HM.out]
          unfold ltK at hlk
          clear hgm hek HE
          go_wp2
          exact ⟨⟨l0, m, k0 + 1, by omega, by omega, by omega, rfl, rfl, by go_num, HE2.out, rfl⟩, by simp [intOf]; omega⟩
        · have HE2 : Hid (pfF gs key (m + 1) h0 (k0 + 1) = pageF gs key) := by show _ = _; rw [← HE.out, pfF_up hlt hgm (by rw [hek]; exact hlk), HM.out]
          unfold ltK at hlk
          clear hgm hek HE
          go_wp2
          exact ⟨⟨m + 1, h0, k0 + 1, by omega, by omega, by omega, by go_num, rfl, by go_num, HE2.out, rfl⟩, by simp [intOf]; omega⟩
      · have hlt8 : ¬ (l0 : Int) < (h0 : Int) := by omega
        have hPE : (p, lk) = (h0, k0) := by rw [← HP.out, ← HE.out, pfF_end hlt]
        obtain ⟨rfl, rfl⟩ : p = h0 ∧ lk = k0 := by
          injection hPE with e1 e2
          exact ⟨e1, e2⟩
        clear HE hPE
        by_cases hpe : p = gs.length
        · have HA : Hid (R = (rwZ, lk)) := by show _ = _; rw [← HR.out, findA_end HBK.out (by rw [HP.out]; exact hpe), HP.out]
          subst hpe
          obtain ⟨hx1, ⟨x0, x1, x2⟩, xf⟩ := HX2.out.facts
          clear HX2 HN HFM
          go_wp2
          refine bodyPost_ret (v := .tuple #[.agg #[.string ⟨#[]⟩, .string ⟨#[]⟩, .string ⟨#[]⟩], .int .i64 (lk : Int), .bool true]) ?_ rfl ⟨by rw [HA.out]; rfl, below_res3 HB2.out _ _ _⟩
          rw [results_rw rfl]
          go_simp
        · have hpl : p < gs.length := by omega
          have hp8 : (p : Int) < (gs.length : Int) := by omega
          have hpn : ¬ (p : Int) = (gs.length : Int) := by omega
          obtain ⟨l, hl'⟩ : ∃ l, gs[p]? = some l := ⟨_, List.getElem?_eq_getElem hpl⟩
          have HA : Hid (R = (rowIn l key, lk + 1)) := by show _ = _; rw [← HR.out, findA_page HBK.out (by rw [HP.out]; exact hl'), HP.out]
          obtain ⟨hll1, hll2⟩ := H60.out l (List.mem_of_getElem? hl')
          obtain ⟨vl, hvl, hI, _⟩ := HN.out.ins p l hl'
          obtain ⟨gb, rfl, _, hgb, cb, _⟩ := HFM.out p _ hvl
          have hcb := rw_cell_lt cb
          obtain ⟨al, cl, rfl⟩ := rw_form hI
          obtain ⟨w3, rfl⟩ : ∃ w3, w3 = wr := ⟨_, rfl⟩
          have HSL : Hid (∀ u, Below w3.heap.size w3 u → SlRw u al l) := fun u hu => rws_sl (hI.below hu)
          clear hI hvl hl' HN HFM HG H60
          go_wp2_with fail
          go_loopw [64] (fun i wr => SfRel w3 l key i wr) (fun i _ => l.length - (intOf i).toNat)
          case atStart => exact ⟨0, Nat.zero_le _, rfl, fun y hy => by simp at hy, Below.refl _ _⟩
          case round =>
            obtain ⟨j, hj, rfl, hne, hb⟩ := hrel
            by_cases hjl : j < l.length
            · obtain ⟨x, hx⟩ : ∃ x, l[j]? = some x := ⟨_, List.getElem?_eq_getElem hjl⟩
              rcases HSL.out wr hb with h0 | ⟨b, o, rfl, hE⟩
              · rw [h0] at hx; simp at hx
              obtain ⟨a0, a1, a2⟩ := hE j x hx
              have hbl := rw_cell_lt a0
              have hj8 : (j : Int) < (l.length : Int) := by omega
              obtain ⟨hx1, ⟨x0, x1, x2⟩, xf⟩ := (HX2.out.below hb).facts
              have HB1 : Hid (Below w.heap.size w wr) := HB2.out.trans (hb.mono HB2.out.size)
              have HBW : Hid (Below w3.heap.size w3 wr) := hb
              have HNE : Hid (∀ y ∈ l.take j, y.key ≠ key) := hne
              have HXJ : Hid (l[j]? = some x) := hx
              clear hb hne hx hE
              by_cases hk : x.key = key
              · have HRR : Hid (R = (x, lk + 1)) := by show _ = _; rw [HA.out, rowIn_first HXJ.out hk HNE.out]
                have hkT := eqT hk
                have HK : Hid (x.key = key) := hk
                clear hk
                have HBa : Hid (∀ o, Below w.heap.size w ((((wr.setCell ⟨w.heap.size, 0, none⟩ (.string x.key)).setCell ⟨w.heap.size, 1, none⟩ (.string x.text)).setCell ⟨w.heap.size, 2, none⟩ (.string x.val)).alloc o)) := fun o => (below_res3 HB1.out _ _ _).alloc (below_res3 HB1.out _ _ _).size o
                clear HB1 HBW HNE HXJ HSL HX2 HB2
                go_wp2
                refine bodyPost_ret (v := .tuple #[.agg #[.string x.key, .string x.text, .string x.val], .int .i64 ((lk : Int) + 1), .bool true]) ?_ rfl ⟨by rw [HRR.out]; unfold frV; simp [rwV], HBa.out _⟩
                rw [results_rw rfl]
                go_simp
              · have hkF := ne_list6 hk
                have HN2 : Hid (∀ y ∈ l.take (j + 1), y.key ≠ key) := take_not HNE.out HXJ.out hk
                have HBa : Hid (∀ o, Below w3.heap.size w3 (wr.alloc o)) := fun o => HBW.out.alloc HBW.out.size o
                clear HB1 HBW HNE HXJ
                go_wp2
                exact ⟨⟨j + 1, by omega, by go_num, HN2.out, HBa.out _⟩, by simp [intOf]; omega⟩
            · have hjz : j = l.length := by omega
              subst hjz
              rw [List.take_length] at hne
              have HRR : Hid (R = (rwZ, lk + 1)) := by show _ = _; rw [HA.out, rowIn_none hne]
              obtain ⟨hx1, ⟨x0, x1, x2⟩, xf⟩ := (HX2.out.below hb).facts
              have HB1 : Hid (Below w.heap.size w wr) := HB2.out.trans (hb.mono HB2.out.size)
              clear hb hne HSL
              go_wp2
              refine bodyPost_ret (v := .tuple #[.agg #[.string ⟨#[]⟩, .string ⟨#[]⟩, .string ⟨#[]⟩], .int .i64 ((lk : Int) + 1), .bool true]) ?_ rfl ⟨by rw [HRR.out]; unfold frV; simp [rwV, rwZ], below_res3 HB1.out _ _ _⟩
              rw [results_rw rfl]
              go_simp
end Go.Proofs.YtecgkekafbimaaaDoor
