/- Contracts of PagesOf, the program's and the specification's. -/
import Derived.Test.YtbgomhgohphglaaDoorIBytes6
import Derived.Test.YtbgomhgohphglaaDoorICut6
import Derived.Test.YtbgomhgohphglaaDoorSCutT6
namespace Go.Proofs.YtbgomhgohphglaaDoor
open Go.RowKit

/-- The bytes of a page. -/
def pgT (g : List Rw) : ByteArray := byT (pageI g)

/-- What PagesOf answers. -/
def pagesA (l : List Rw) : Option (List ByteArray) := match cutA l with
  | none => none
  | some gs => some (gs.map pbT)

theorem pagesA_none {l : List Rw} (h : cutA l = none) : pagesA l = none := by unfold pagesA; rw [h]
theorem pagesA_some {l : List Rw} {gs : List (List Rw)} (h : cutA l = some gs) : pagesA l = some (gs.map pbT) := by unfold pagesA; rw [h]

theorem scF_flat (l : List Rw) : ∀ (out r : List (List Rw)), scF out l = some r → r.flatten = out.flatten ++ l := by
  induction l with
  | nil =>
    intro out r h
    have h' : some out = some r := h
    cases h'
    simp
  | cons x l ih =>
    intro out r h
    by_cases h0 : 300 < lnP [x]
    · rw [scF_long h0] at h; cases h
    · cases hg : out.getLast? with
      | none =>
        obtain rfl : out = [] := List.getLast?_eq_none_iff.1 hg
        rw [scF_first h0] at h
        rw [ih _ _ h]
        simp
      | some p =>
        obtain ⟨o, rfl⟩ : ∃ o, out = o ++ [p] := List.getLast?_eq_some_iff.1 hg
        by_cases h1 : lnP (p ++ [x]) ≤ 300
        · rw [scF_more h0 h1] at h
          rw [ih _ _ h]
          simp
        · rw [scF_new h0 h1] at h
          rw [ih _ _ h]
          simp

theorem scF_rwb {l : List Rw} {r : List (List Rw)} (hg : goodR l = true) (h : scF [] l = some r) : (∀ g ∈ r, RwB g) := by
  have hf := scF_flat l [] r h
  intro g hm
  have hB := goodR_RwB hg
  have h60 := goodR_len hg
  obtain ⟨h1, h2⟩ := flat_mem (out := r) (l := l) (k := l.length) (by rw [hf]; simp) hm
  exact ⟨by omega, fun x hx => hB.2 x (h1 x hx)⟩

set_option maxRecDepth 100000 in
set_option maxHeartbeats 2000000 in
theorem implPO_any {w : World} {a : Option Addr} {l : List Rw} {c : Nat} (hS : SlRw w a l) (hl : l.length ≤ c) (hc : c ≤ 9223372036854775807) (hl2 : l.length ≤ 1048576) :
    Calls Tryd.prog 8 #[.slice a l.length c] w fun e w' => ∃ v, e = .returned (.tuple #[v, .bool (pagesA l).isSome]) ∧ Strs w' w.heap.size v ((pagesA l).getD []) ∧ Below w.heap.size w w' := by
  have CT := implCut_any hS hl hc hl2
  clear hS
  cases hcut : cutA l with
  | none =>
    rw [pagesA_none hcut]
    rw [hcut] at CT
    clear hcut
    go_enter Tryd.func8, Tryd.ntmps8
    go_wp2_with fail
    refine CT.mono ?_
    rintro e w1 ⟨v1, rfl, _, _, b1⟩
    clear CT
    go_wp2
    go_ret2
    exact ⟨_, rfl, World.ownsRow_nil _ _ _ _, b1⟩
  | some gs =>
    rw [pagesA_some hcut]
    obtain ⟨h40, hok⟩ := cutA_ok hcut
    rw [hcut] at CT
    have HBF : Hid (bytF gs = some (gs.map pbT)) := bytF_all h40 (fun j g hg => hok g (List.mem_of_getElem? hg))
    have HZ : Hid (∀ g ∈ gs, g.length ≤ 1048576) := fun g hg => by
      have h3 := hok g hg
      unfold okPB at h3
      simp only [Bool.and_eq_true] at h3
      have := goodR_len h3.1.2
      omega
    obtain ⟨ps, HPS⟩ : ∃ ps, Hid (gs.map pbT = ps) := ⟨_, rfl⟩
    rw [HPS.out] at HBF ⊢
    clear hcut hok HPS
    go_enter Tryd.func8, Tryd.ntmps8
    go_wp2_with fail
    refine CT.mono ?_
    rintro e w1 ⟨v1, rfl, n1, _, b1⟩
    obtain ⟨vs, N1⟩ := n1 gs rfl
    have BY := bytes_any N1.bk (by omega) HZ.out
    rw [HBF.out] at BY
    have HB1 : Hid (Below w.heap.size w w1) := b1
    clear CT n1 N1 b1
    go_wp2_with fail
    refine BY.mono ?_
    rintro e w2 ⟨v2, rfl, s2, b2⟩
    have HS2 : Hid (Strs w2 w.heap.size v2 ps) := by
      refine ⟨s2.1, ?_⟩
      rcases s2.2 with h | ⟨g, cap, cur, q1, q2, q3⟩
      · exact .inl h
      · exact .inr ⟨g, cap, cur, q1, Nat.le_trans HB1.out.size q2, q3⟩
    have HB2 : Hid (Below w.heap.size w w2) := HB1.out.trans (b2.mono HB1.out.size)
    clear BY s2 b2
    go_wp2
    go_ret2
    exact ⟨_, rfl, HS2.out, HB2.out⟩

set_option maxRecDepth 100000 in
set_option maxHeartbeats 4000000 in
theorem specPgs_any {w : World} {a : Option Addr} {l : List Rw} {c : Nat} (hS : SlRw w a l) (hg : goodR l = true) (hl : l.length ≤ c) (hc : c ≤ 9223372036854775807) :
    Calls Tryd.prog 31 #[.slice a l.length c] w fun e w' => ∃ v, e = .returned (.tuple #[v, .bool (cap40 (scF [] l)).isSome]) ∧ (∀ gs, scF [] l = some gs → Strs w' w.heap.size v (gs.map pgT)) ∧ Below w.heap.size w w' := by
  have CT := specCutL_any hS hg hl hc
  obtain ⟨i0, hi0, hy0, hy1, hy2⟩ := info_parts info_strB
  obtain ⟨ok, HOK⟩ : ∃ ok, Hid ((cap40 (scF [] l)).isSome = ok) := ⟨_, rfl⟩
  rw [HOK.out] at CT ⊢
  obtain ⟨gs, HGS⟩ : ∃ gs, Hid ((scF [] l).getD [] = gs) := ⟨_, rfl⟩
  have HRB : Hid (∀ g ∈ gs, RwB g) := by
    rw [← HGS.out]
    cases h : scF [] l with
    | none => exact fun g hg => by simp at hg
    | some r => exact scF_rwb hg h
  have HLN : Hid (gs.length ≤ 60) := by
    rw [← HGS.out]
    cases h : scF [] l with
    | none => exact Nat.zero_le _
    | some r =>
      have hf := scF_flat l [] r h
      have hp : ∀ (ll : List Rw) (out q : List (List Rw)), (∀ p ∈ out, 0 < p.length) → scF out ll = some q → ∀ p ∈ q, 0 < p.length := by
        intro ll
        induction ll with
        | nil =>
          intro out q ho h
          have h' : some out = some q := h
          cases h'
          exact ho
        | cons x ll ih =>
          intro out q ho h
          by_cases h0 : 300 < lnP [x]
          · rw [scF_long h0] at h; cases h
          · cases hgl : out.getLast? with
            | none =>
              obtain rfl : out = [] := List.getLast?_eq_none_iff.1 hgl
              rw [scF_first h0] at h
              exact ih _ _ (fun p hp => by simp at hp; subst hp; simp) h
            | some p =>
              obtain ⟨o, rfl⟩ : ∃ o, out = o ++ [p] := List.getLast?_eq_some_iff.1 hgl
              by_cases h1 : lnP (p ++ [x]) ≤ 300
              · rw [scF_more h0 h1] at h
                refine ih _ _ (fun y hy => ?_) h
                rcases List.mem_append.1 hy with hy | hy
                · exact ho y (List.mem_append_left _ hy)
                · simp at hy; rw [hy]; simp
              · rw [scF_new h0 h1] at h
                refine ih _ _ (fun y hy => ?_) h
                rcases List.mem_append.1 hy with hy | hy
                · exact ho y hy
                · simp at hy; rw [hy]; simp
      have h60 := goodR_len hg
      have hq := flat_len (out := r) (l := l) (k := l.length) (by rw [hf]; simp) (hp l [] r (fun p hp => by simp at hp) h)
      show r.length ≤ 60
      omega
  have HNS : Hid (∀ (u : World) (lo : Nat) (v : Value), (∀ gs, scF [] l = some gs → ∃ vs, NestR u lo u.heap.size v gs vs) → (scF [] l = none → v = .slice none 0 0) → BkV u v gs) := fun u lo v h1 h2 => by
    rw [← HGS.out]
    cases h : scF [] l with
    | none => rw [h2 h]; exact (NestR.nil u lo).bk
    | some r => obtain ⟨vs, q⟩ := h1 r h; exact q.bk
  have HEND : Hid (∀ gs', scF [] l = some gs' → gs' = gs) := fun gs' h => by rw [← HGS.out, h]; rfl
  clear hS hg HGS HOK
  generalize scF [] l = sc at *
  have h60 := HLN.out
  go_enter Tryd.func31, Tryd.ntmps31
  go_wp2_with fail
  refine CT.mono ?_
  rintro e w1 ⟨v1, rfl, n1, n2, b1⟩
  have V1 := HNS.out w1 _ v1 n1 n2
  obtain ⟨a1, c1, rfl, _⟩ := V1
  have HV : Hid (BkV w1 (.slice a1 gs.length c1) gs) := HNS.out w1 _ _ n1 n2
  have HB1 : Hid (Below w.heap.size w w1) := b1
  clear CT n1 n2 b1
  go_wp2_with fail
  go_loopw [6, 16] (fun v i wr => ByRel w1 gs pgT (fun _ => true) v i wr) (fun _ i _ => gs.length - (intOf i).toNat)
  case atStart => exact ⟨0, Nat.zero_le _, rfl, World.ownsRow_nil _ _ _ _, fun j g hj _ => rfl, Below.refl _ _⟩
  case round =>
    obtain ⟨k, hk, rfl, hS, _, hb⟩ := hrel
    by_cases hlt : k < gs.length
    · obtain ⟨g, hg⟩ : ∃ g, gs[k]? = some g := ⟨_, List.getElem?_eq_getElem hlt⟩
      obtain ⟨a', c', hv', hq⟩ := HV.out.below hb (Nat.le_refl _)
      injection hv' with q1 _ q3
      subst q1
      subst q3
      obtain ⟨b, o, ax, cx, rfl, d1, hsl⟩ := hq k g hg
      have hbl := rw_cell_lt d1
      have hk8 : (k : Int) < (gs.length : Int) := by omega
      have PB : Calls Tryd.prog 47 #[.slice ax g.length cx] wr fun e w' => e = .returned (.string (pgT g)) ∧ Below wr.heap.size wr w' := specPage_any (cap := cx) hsl (HRB.out g (List.mem_of_getElem? hg))
      have HT : Hid ((gs.take (k + 1)).map pgT = (gs.take k).map pgT ++ [pgT g]) := map_take_succ pgT hg
      have hlt1 : ((gs.take k).map pgT).length ≤ 60 := by simp; omega
      obtain ⟨ss, HSS⟩ : ∃ ss, Hid ((gs.take k).map pgT = ss) := ⟨_, rfl⟩
      rw [HSS.out] at HT hlt1 hS
      obtain ⟨a4, c4, hv4⟩ := strs_formB hS
      subst hv4
      have HS : Hid (Strs wr w1.heap.size (.slice a4 ss.length c4) ss) := hS
      have HB : Hid (Below w1.heap.size w1 wr) := hb
      clear hq hsl hg hS hb
      generalize pgT g = pg at *
      go_wp2_with fail
      refine PB.mono ?_
      rintro e w2 ⟨rfl, b2⟩
      have HB2 : Hid (Below w1.heap.size w1 w2) := HB.out.trans (b2.mono HB.out.size)
      have bA := (Below.refl w2.heap.size w2).alloc (Nat.le_refl _) (.cells #[.string pg] 9)
      have hrow := (HS.out.below b2).below bA
      have HBA : Hid (Below w1.heap.size w1 _) := HB2.out.trans (bA.mono HB2.out.size)
      have hsU := HB2.out.size
      unfold Strs at hrow
      clear PB b2 HS HB bA
      go_wp2_with (at_builtin; refine wpList_append_lies _ rfl _ _ 25 rfl w1.heap.size 9 i0 _ 1 16 Tryd.underlying25 hi0 hy0 hy1 hy2 rfl (by decide) _ _ _ rfl hrow ⟨_, 0, none⟩ 1 1 [.string pg] rfl rfl (cell_one_new _ _ _) (fun x hx => by simp at hx; subst hx; rfl) (by omega) (by unfold maxLen; omega) (by omega) (by simp; omega) _ rfl ?_)
      intro g5 c5 u5 ho5 hg5 hgo5 hlt5
      have HS5 : Hid (Strs u5 w1.heap.size (.slice (some ⟨g5, 0, none⟩) (ss.length + 1) c5) ((gs.take (k + 1)).map pgT)) := by rw [HT.out]; exact Strs.snoc ho5
      have HB5 : Hid (Below w1.heap.size w1 u5) := Below.grown HBA.out hg5 HBA.out.size (fun i hj => (World.ownsRow.lt hrow i hj).1)
      clear ho5 hg5 hrow HB2 HBA
      go_wp2
      exact ⟨⟨k + 1, by omega, by go_num, HS5.out, fun j g hj _ => rfl, HB5.out⟩, by simp [intOf]; omega⟩
    · have hkz : k = gs.length := by omega
      subst hkz
      rw [List.take_length] at hS
      have HS : Hid (Strs wr w.heap.size u6 (gs.map pgT)) := by
        refine ⟨hS.1, ?_⟩
        rcases hS.2 with h | ⟨g, cap, cur, q1, q2, q3⟩
        · exact .inl h
        · exact .inr ⟨g, cap, cur, q1, Nat.le_trans HB1.out.size q2, q3⟩
      have HB : Hid (Below w.heap.size w wr) := HB1.out.trans (hb.mono HB1.out.size)
      clear hS hb
      go_wp2
      go_ret2
      exact ⟨_, rfl, fun gs' h => by rw [HEND.out gs' h]; exact HS.out, HB.out⟩

set_option maxRecDepth 100000 in
set_option maxHeartbeats 2000000 in
theorem specPO_any {w : World} {a : Option Addr} {l : List Rw} {c : Nat} (hS : SlRw w a l) (hl : l.length ≤ c) (hc : c ≤ 9223372036854775807) (hl2 : l.length ≤ 1048576) :
    Calls Tryd.prog 9 #[.slice a l.length c] w fun e w' => ∃ v, e = .returned (.tuple #[v, .bool (pagesA l).isSome]) ∧ Strs w' w.heap.size v ((pagesA l).getD []) ∧ Below w.heap.size w w' := by
  have GD := specGR_any (cap := c) hS (by omega)
  cases hg : goodR l
  · have HA : Hid (pagesA l = none) := pagesA_none (by unfold cutA; rw [if_neg (by rw [hg]; decide)])
    rw [hg] at GD
    rw [HA.out]
    clear hS hg
    go_enter Tryd.func9, Tryd.ntmps9
    go_wp2_with fail
    refine GD.mono ?_
    rintro e w1 ⟨rfl, b1⟩
    clear GD
    go_wp2
    go_ret2
    exact ⟨_, rfl, World.ownsRow_nil _ _ _ _, b1⟩
  · have SC := fun (u : World) (hu : Below w.heap.size w u) => specPgs_any (hS.below hu (Nat.le_refl _)) hg hl hc
    rw [← cutA_is hg] at SC
    rw [hg] at GD
    cases hcut : cutA l with
    | none =>
      rw [pagesA_none hcut]
      rw [hcut] at SC
      clear hS hg hcut
      generalize scF [] l = sc at *
      go_enter Tryd.func9, Tryd.ntmps9
      go_wp2_with fail
      refine GD.mono ?_
      rintro e w1 ⟨rfl, b1⟩
      have S1 := SC w1 b1
      have HB1 : Hid (Below w.heap.size w w1) := b1
      clear GD SC b1
      go_wp2_with fail
      refine S1.mono ?_
      rintro e w2 ⟨v2, rfl, _, b2⟩
      have HB2 : Hid (Below w.heap.size w w2) := HB1.out.trans (b2.mono HB1.out.size)
      clear S1
      go_wp2
      go_ret2
      exact ⟨_, rfl, World.ownsRow_nil _ _ _ _, HB2.out⟩
    | some gs =>
      rw [pagesA_some hcut]
      obtain ⟨h40, hok⟩ := cutA_ok hcut
      have hsc : scF [] l = some gs := cap40_sc (by rw [← cutA_is hg]; exact hcut)
      have hpg : gs.map pgT = gs.map pbT := by
        apply List.map_congr_left
        intro g hgm
        exact (pbT_ok (hok g hgm)).symm
      rw [hcut, hsc] at SC
      have HSC : Hid (∀ (u : World), Below w.heap.size w u → Calls Tryd.prog 31 #[.slice a l.length c] u fun e w' => ∃ v, e = .returned (.tuple #[v, .bool true]) ∧ Strs w' w.heap.size v (gs.map pbT) ∧ Below u.heap.size u w') := fun u hu => (SC u hu).mono fun e w' ⟨v, h1, h2, h3⟩ => ⟨v, h1, by
        have s2 := h2 gs rfl
        rw [hpg] at s2
        refine ⟨s2.1, ?_⟩
        rcases s2.2 with h | ⟨g, cap, cur, q1, q2, q3⟩
        · exact .inl h
        · exact .inr ⟨g, cap, cur, q1, Nat.le_trans hu.size q2, q3⟩, h3⟩
      obtain ⟨ps, HPS⟩ : ∃ ps, Hid (gs.map pbT = ps) := ⟨_, rfl⟩
      rw [HPS.out] at HSC ⊢
      clear hS hg hcut hok hsc hpg SC HPS
      go_enter Tryd.func9, Tryd.ntmps9
      go_wp2_with fail
      refine GD.mono ?_
      rintro e w1 ⟨rfl, b1⟩
      have S1 := HSC.out w1 b1
      have HB1 : Hid (Below w.heap.size w w1) := b1
      clear GD HSC b1
      go_wp2_with fail
      refine S1.mono ?_
      rintro e w2 ⟨v2, rfl, s2, b2⟩
      have HB2 : Hid (Below w.heap.size w w2) := HB1.out.trans (b2.mono HB1.out.size)
      have HS2 : Hid (Strs w2 w.heap.size v2 ps) := s2
      clear S1 s2
      go_wp2
      go_ret2
      exact ⟨_, rfl, HS2.out, HB2.out⟩
end Go.Proofs.YtbgomhgohphglaaDoor
