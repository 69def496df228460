/- The walk of the law FnTree. -/
import Derived.Test.YticogafoopkflaaDoorDrawPP6
import Derived.Test.YticogafoopkflaaDoorPTree6
import Derived.Test.YticogafoopkflaaDoorIPut6
import Derived.Test.YticogafoopkflaaDoorIDrop6
import Derived.Test.YticogafoopkflaaDoorFrom6I
import Derived.Test.YticogafoopkflaaDoorLeast6I
import Derived.Test.YticogafoopkflaaDoorIFRow6
import Derived.Test.YticogafoopkflaaDoorSameR6
namespace Go.Proofs.YticogafoopkflaaDoor
open Go.RowKit

theorem rowsF_lenT (ss : List ByteArray) (lo hi : ByteArray) : (rowsF ss lo hi).length ≤ 2400 := by
  unfold rowsF
  cases h : bookF ss with
  | none => simp
  | some gs =>
    obtain ⟨h1, h2⟩ := bookF_is h
    have h3 := fromK_len lo hi gs h2 gs.length
    show (fromK lo hi gs gs.length).length ≤ 2400
    omega

theorem filter_all (key : ByteArray) (l : List Rw) : l.filter (fun y => decide (y.key ≠ key)) = notK key l := rfl

set_option maxRecDepth 100000 in
set_option maxHeartbeats 1000000 in
theorem tree_long (w : World) (a : Option Addr) (n cap : Nat) (hn : 1048576 < n) (_ : n ≤ 9223372036854775807) : Calls Tryd.prog 4 #[.slice a n cap] w fun e w' => e = .returned (.bool true) ∧ Below w.heap.size w w' := by
  have hn8 : (1048576 : Int) < (n : Int) := by omega
  go_enter Tryd.func4, Tryd.ntmps4
  go_wp2
  go_ret
  exact ⟨rfl, Below.refl _ _⟩

set_option maxRecDepth 100000 in
set_option maxHeartbeats 16000000 in
theorem tree_walk (w : World) (a : Option Addr) (n cap : Nat) (hn : n ≤ 1048576) (h : Came w a n) {ty : TypeId} {pv : Value} (hg : ErrG w ty pv) :
    Calls Tryd.prog 4 #[.slice a n cap] w fun e w' => e = .returned (.bool true) ∧ Below w.heap.size w w' := by
  have P := drawPut_any w a n cap hn h
  have hgl := hg.lt
  have HE : Hid (∀ u, Below w.heap.size w u → ErrG u ty pv) := fun u hu => (hu.cell (p := ⟨0, 0, none⟩) hgl).trans hg
  have hn8 : ¬ (1048576 : Int) < (n : Int) := by omega
  clear h hg
  go_enter Tryd.func4, Tryd.ntmps4
  go_wp2_with fail
  refine P.mono ?_
  rintro e w1 ⟨v1, ss, x, rfl, s1, pg, _, b1⟩
  obtain ⟨a1, c1, hv1⟩ := strs_formB s1
  subst hv1
  have hsl : ss.length ≤ 1048576 := by have := pg.1; omega
  have HZ : Hid (∀ s ∈ ss, s.size ≤ 1048576) := fun s hs => by have := pg.2 s hs; omega
  obtain ⟨bx, hbx⟩ : ∃ bx, bx = w1.heap.size := ⟨_, rfl⟩
  obtain ⟨w2, hw2⟩ : ∃ w2, w2 = w1.alloc (.cells #[.string x.key, .string x.text, .string x.val] 32) := ⟨_, rfl⟩
  have b12 : Below w1.heap.size w1 w2 := by rw [hw2]; exact (Below.refl _ _).alloc (Nat.le_refl _) _
  have HX2 : Hid (BoxR6 w2 bx x) := by show BoxR6 w2 bx x; rw [hw2, hbx]; exact box_new6 w1 x
  have HB2 : Hid (Below w.heap.size w w2) := b1.trans (b12.mono b1.size)
  have HS2 : Hid (Strs w2 w.heap.size (.slice a1 ss.length c1) ss) := s1.below b12
  obtain ⟨d0, d1, d2⟩ := HX2.out.cells
  have hdl := HX2.out.lt
  have IP : Calls Tryd.prog 14 #[.slice a1 ss.length c1, .agg #[.string x.key, .string x.text, .string x.val]] w2 fun e w' => ∃ v', e = .returned (.tuple #[v', .bool (putA ss x).isSome]) ∧ Strs w' w2.heap.size v' ((putA ss x).getD []) ∧ Below w2.heap.size w2 w' := implPut_any x HS2.out HZ.out hsl (HE.out _ HB2.out)
  clear P s1 b1 b12 pg
  go_wp2_with fail
  rw [← hw2, ← hbx]
  clear hw2 hbx
  go_wp2_with fail
  refine IP.mono ?_
  rintro e w3 ⟨v3, rfl, s3, b3⟩
  have HX3 : Hid (BoxR6 w3 bx x) := HX2.out.below b3
  have HB3 : Hid (Below w.heap.size w w3) := HB2.out.trans (b3.mono HB2.out.size)
  have HS3 : Hid (Strs w3 w.heap.size (.slice a1 ss.length c1) ss) := HS2.out.below b3
  have SP : Calls Tryd.prog 15 #[.slice a1 ss.length c1, .agg #[.string x.key, .string x.text, .string x.val]] w3 fun e w' => ∃ v', e = .returned (.tuple #[v', .bool (putA ss x).isSome]) ∧ Strs w' w3.heap.size v' ((putA ss x).getD []) ∧ Below w3.heap.size w3 w' := specPut_any x HS3.out HZ.out hsl
  have HQ3 : Hid (Strs w3 w.heap.size v3 ((putA ss x).getD [])) := strs_low s3 HB2.out.size
  clear IP b3 s3 d0 d1 d2 hdl HX2 HB2 HS2
  obtain ⟨d0, d1, d2⟩ := HX3.out.cells
  have hdl := HX3.out.lt
  go_wp2_with fail
  refine SP.mono ?_
  rintro e w4 ⟨v4, rfl, s4, b4⟩
  have HX4 : Hid (BoxR6 w4 bx x) := HX3.out.below b4
  have HB4 : Hid (Below w.heap.size w w4) := HB3.out.trans (b4.mono HB3.out.size)
  have HS4 : Hid (Strs w4 w.heap.size (.slice a1 ss.length c1) ss) := HS3.out.below b4
  have hQ4 : Strs w4 w.heap.size v3 ((putA ss x).getD []) := HQ3.out.below b4
  obtain ⟨a3, c3, hv3⟩ := strs_formB hQ4
  obtain ⟨a4, c4, hv4⟩ := strs_formB s4
  subst hv3
  subst hv4
  have h40 := putA_len ss x
  have HZQ : Hid (∀ s ∈ (putA ss x).getD [], s.size ≤ 1048576) := fun s hs => by have := putA_sz ss x s hs; omega
  have HQ4 : Hid (Strs w4 w.heap.size (.slice a3 ((putA ss x).getD []).length c3) ((putA ss x).getD [])) := hQ4
  clear SP b4 s4 d0 d1 d2 hdl HX3 HB3 HS3 HQ3 hQ4
  cases hp : putA ss x with
  | none =>
    go_wp2
    go_ret
    exact ⟨rfl, HB4.out⟩
  | some q =>
    rw [hp] at HQ4 HZQ h40
    obtain ⟨gs, G, hgs, hG, hxG, hnot⟩ := put_tree hp
    obtain ⟨d, G', hd, hdm, hG', hfl⟩ := drop_tree hG hxG
    have hLT := least_tree hdm hG'
    have hfr := (findA_row hG hxG).1
    have h2a : (rowsF ss ⟨#[]⟩ ⟨#[255, 255]⟩).length ≤ 2400 := rowsF_lenT _ _ _
    have h2b : (rowsF q ⟨#[]⟩ ⟨#[255, 255]⟩).length ≤ 2400 := rowsF_lenT _ _ _
    have HN1 : Hid (notK x.key (rowsF q ⟨#[]⟩ ⟨#[255, 255]⟩) = notK x.key (rowsF ss ⟨#[]⟩ ⟨#[255, 255]⟩)) := by
      show _ = _
      rw [rowsF_is _ _ hG, rowsF_is _ _ hgs, notK_from, notK_from, hnot]
    have HN2 : Hid (rowsF d ⟨#[]⟩ ⟨#[255, 255]⟩ = notK x.key (rowsF ss ⟨#[]⟩ ⟨#[255, 255]⟩)) := by
      show _ = _
      rw [rowsF_is _ _ hG', rowsF_is _ _ hgs, notK_from, hfl, hnot]
    have HRP : Hid (∀ (u : World), Below w.heap.size w u → Strs u w.heap.size (.slice a1 ss.length c1) ss → Calls Tryd.prog 16 #[.slice a1 ss.length c1, .string ⟨#[]⟩, .string ⟨#[255, 255]⟩] u fun e w' => ∃ v, e = .returned (.tuple #[v, .bool true]) ∧ Rws w' u.heap.size v (rowsF ss ⟨#[]⟩ ⟨#[255, 255]⟩) ∧ Below u.heap.size u w') := fun u hu hs => by
      have r := implRF_any ⟨#[]⟩ ⟨#[255, 255]⟩ hs HZ.out hsl (HE.out u hu)
      rw [hgs] at r
      exact r
    have HRQ : Hid (∀ (u : World) (v : Value), Below w.heap.size w u → Strs u w.heap.size v q → Calls Tryd.prog 16 #[v, .string ⟨#[]⟩, .string ⟨#[255, 255]⟩] u fun e w' => ∃ v, e = .returned (.tuple #[v, .bool true]) ∧ Rws w' u.heap.size v (rowsF q ⟨#[]⟩ ⟨#[255, 255]⟩) ∧ Below u.heap.size u w') := fun u v hu hs => by
      have r := implRF_any ⟨#[]⟩ ⟨#[255, 255]⟩ hs HZQ.out (by simp at h40; omega) (HE.out u hu)
      rw [hG] at r
      exact r
    have HFQ : Hid (∀ (u : World) (v : Value), Below w.heap.size w u → Strs u w.heap.size v q → Calls Tryd.prog 12 #[v, .string x.key] u fun e w' => ∃ k : Int, e = .returned (.tuple #[.agg #[.string x.key, .string x.text, .string x.val], .int .i64 k, .bool true]) ∧ Below u.heap.size u w') := fun u v hu hs => by
      have r := implFR_any x.key hs HZQ.out (by simp at h40; omega) (HE.out u hu)
      unfold frV rwV at r
      rw [hG, hfr] at r
      exact r.mono fun e w' h => ⟨_, h.1, h.2⟩
    have HDQ : Hid (∀ (u : World) (v : Value), Below w.heap.size w u → Strs u w.heap.size v q → Calls Tryd.prog 17 #[v, .string x.key] u fun e w' => ∃ v', e = .returned (.tuple #[v', .bool true]) ∧ Strs w' u.heap.size v' d ∧ Below u.heap.size u w') := fun u v hu hs => by
      have r := implDrop_any x.key hs HZQ.out (by simp at h40; omega) (HE.out u hu)
      rw [hd] at r
      exact r
    have hdl40 := dropA_len q x.key
    have hdsz := dropA_sz q x.key
    rw [hd] at hdl40 hdsz
    have HDZ : Hid (∀ s ∈ d, s.size ≤ 1048576) := fun s hs => by have := hdsz s hs; omega
    have hdl2 : d.length ≤ 1048576 := by simp at hdl40; omega
    have HRD : Hid (∀ (u : World) (v : Value), Below w.heap.size w u → Strs u w.heap.size v d → Calls Tryd.prog 16 #[v, .string ⟨#[]⟩, .string ⟨#[255, 255]⟩] u fun e w' => ∃ v, e = .returned (.tuple #[v, .bool true]) ∧ Rws w' u.heap.size v (notK x.key (rowsF ss ⟨#[]⟩ ⟨#[255, 255]⟩)) ∧ Below u.heap.size u w') := fun u v hu hs => by
      have r := implRF_any ⟨#[]⟩ ⟨#[255, 255]⟩ hs HDZ.out hdl2 (HE.out u hu)
      rw [hG', HN2.out] at r
      exact r
    have HLD : Hid (∀ (u : World) (v : Value), Below w.heap.size w u → Strs u w.heap.size v d → Calls Tryd.prog 18 #[v] u fun e w' => e = .returned (.tuple #[.int .i64 (leastA d), .bool true]) ∧ Below u.heap.size u w') := fun u v hu hs => by
      have r := implLF_any hs HDZ.out hdl2 (HE.out u hu)
      rw [hG'] at r
      exact r
    generalize rowsF ss ⟨#[]⟩ ⟨#[255, 255]⟩ = l at *
    generalize rowsF q ⟨#[]⟩ ⟨#[255, 255]⟩ = m at *
    generalize leastA d = ld at *
    have HQ5 : Hid (Strs w4 w.heap.size (.slice a3 q.length c3) q) := HQ4.out
    have hql : q.length ≤ 40 := by simpa using h40
    have hll : (notK x.key l).length ≤ 2400 := by unfold notK; exact Nat.le_trans (List.length_filter_le _ _) h2a
    clear hgs hG hxG hnot hd hdm hG' hfl hfr hp h40 HQ4 HN2 hdl40 hdsz HDZ HZQ
    have R1 := HRP.out w4 HB4.out HS4.out
    go_wp2_with fail
    refine R1.mono ?_
    rintro e w5 ⟨v5, rfl, r5, b5⟩
    obtain ⟨a5, c5, hv5⟩ := rw_form r5
    subst hv5
    have HX5 : Hid (BoxR6 w5 bx x) := HX4.out.below b5
    have HB5 : Hid (Below w.heap.size w w5) := HB4.out.trans (b5.mono HB4.out.size)
    have HQ6 : Hid (Strs w5 w.heap.size (.slice a3 q.length c3) q) := HQ5.out.below b5
    have HL5 : Hid (Rws w5 w4.heap.size (.slice a5 l.length c5) l) := r5
    have R2 := HRQ.out w5 _ HB5.out HQ6.out
    clear R1 b5 r5 HX4 HB4 HS4 HQ5 HRP
    go_wp2_with fail
    refine R2.mono ?_
    rintro e w6 ⟨v6, rfl, r6, b6⟩
    obtain ⟨a6, c6, hv6⟩ := rw_form r6
    subst hv6
    have HX6 : Hid (BoxR6 w6 bx x) := HX5.out.below b6
    have HB6 : Hid (Below w.heap.size w w6) := HB5.out.trans (b6.mono HB5.out.size)
    have HQ7 : Hid (Strs w6 w.heap.size (.slice a3 q.length c3) q) := HQ6.out.below b6
    have HL6 : Hid (Rws w6 w4.heap.size (.slice a5 l.length c5) l) := HL5.out.below b6
    have HM6 : Hid (Rws w6 w5.heap.size (.slice a6 m.length c6) m) := r6
    have R3 := HFQ.out w6 _ HB6.out HQ7.out
    clear R2 b6 r6 HX5 HB5 HQ6 HL5 HRQ
    obtain ⟨d0, d1, d2⟩ := HX6.out.cells
    have hdl := HX6.out.lt
    go_wp2_with fail
    refine R3.mono ?_
    rintro e w7 ⟨k7, rfl, b7⟩
    obtain ⟨w8, hw8⟩ : ∃ w8, w8 = w7.alloc (.cells #[.string x.key, .string x.text, .string x.val] 32) := ⟨_, rfl⟩
    have b78 : Below w7.heap.size w7 w8 := by rw [hw8]; exact (Below.refl _ _).alloc (Nat.le_refl _) _
    have HX8 : Hid (BoxR6 w8 bx x) := (HX6.out.below b7).below b78
    have HB8 : Hid (Below w.heap.size w w8) := (HB6.out.trans (b7.mono HB6.out.size)).trans (b78.mono (HB6.out.trans (b7.mono HB6.out.size)).size)
    have HQ8 : Hid (Strs w8 w.heap.size (.slice a3 q.length c3) q) := (HQ7.out.below b7).below b78
    have HL8 : Hid (Rws w8 w4.heap.size (.slice a5 l.length c5) l) := (HL6.out.below b7).below b78
    have HM8 : Hid (Rws w8 w5.heap.size (.slice a6 m.length c6) m) := (HM6.out.below b7).below b78
    have X7 := HX6.out.below b7
    clear R3 b7 b78 d0 d1 d2 hdl HX6 HB6 HQ7 HL6 HM6 HFQ
    obtain ⟨d0, d1, d2⟩ := X7.cells
    have hdl := X7.lt
    have HW8 : Hid (w8 = w7.alloc (.cells #[.string x.key, .string x.text, .string x.val] 32)) := hw8
    clear hw8 X7
    go_wp2_with fail
    rw [← HW8.out]
    clear d0 d1 d2 hdl HW8
    have HLA : Hid (∀ u, Below w8.heap.size w8 u → SlV u (.slice a5 l.length c5) l) := fun u hu => (HL8.out.below hu).slV
    clear HL8
    go_loopw [16, 98] (fun v i wr => SdRel w8 l x.key v i wr) (fun _ i _ => l.length - (intOf i).toNat)
    case atStart => exact ⟨0, Nat.zero_le _, rfl, World.ownsRow_nil _ _ _ _, Below.refl _ _⟩
    case round =>
      obtain ⟨j, hj, rfl, hI, hb⟩ := hrel
      have HBr : Hid (Below w8.heap.size w8 wr) := hb
      have hw5 := hb.size
      by_cases hjl : j < l.length
      · obtain ⟨y, hy⟩ : ∃ y, l[j]? = some y := ⟨_, List.getElem?_eq_getElem hjl⟩
        obtain ⟨a', c', hv', hsl'⟩ := HLA.out wr hb
        injection hv' with e1 _ e3
        subst e1
        subst e3
        rcases hsl' with h | ⟨b, o, rfl, hE⟩
        · rw [h] at hy; simp at hy
        obtain ⟨e0, e1, e2⟩ := hE j y hy
        have hbl := rw_cell_lt e0
        have XR := HX8.out.below hb
        obtain ⟨f0, f1, f2⟩ := XR.cells
        have hfl := XR.lt
        have hj8 : (j : Int) < (l.length : Int) := by omega
        have HST : Hid ((l.take (j + 1)).filter (fun y => decide (y.key ≠ x.key)) = (l.take j).filter (fun y => decide (y.key ≠ x.key)) ++ (if y.key = x.key then [] else [y])) := filter_step hy
        have HFB : Hid (((l.take j).filter (fun y => decide (y.key ≠ x.key))).length ≤ 2400) := by
          show _ ≤ _
          have h1 := List.length_filter_le (fun y : Rw => decide (y.key ≠ x.key)) (l.take j)
          rw [List.length_take] at h1
          omega
        obtain ⟨F, HF⟩ : ∃ F, Hid ((l.take j).filter (fun y => decide (y.key ≠ x.key)) = F) := ⟨_, rfl⟩
        rw [HF.out] at hI HST HFB
        have HI : Hid (Rws wr w8.heap.size u16 F) := hI
        have b1 : Below wr.heap.size wr (wr.alloc (.cells #[.string y.key, .string y.text, .string y.val] 32)) := (Below.refl _ _).alloc (Nat.le_refl _) _
        have HB1 : Hid (Below wr.heap.size wr (wr.alloc (.cells #[.string y.key, .string y.text, .string y.val] 32))) := b1
        clear hE hy hb hI b1 XR
        by_cases hyk : y.key = x.key
        · rw [if_pos hyk, List.append_nil] at HST
          have hkT : (y.key.toList == x.key.toList) = true := by rw [hyk]; simp
          have hkN : (y.key.toList != x.key.toList) = false := by rw [hyk]; simp
          have HBa : Hid (∀ o, Below w8.heap.size w8 (wr.alloc o)) := fun o => HBr.out.alloc HBr.out.size o
          have HIa : Hid (∀ o, Rws (wr.alloc o) w8.heap.size u16 F) := fun o => HI.out.below ((Below.refl _ _).alloc (Nat.le_refl _) o)
          clear hyk HB1 HI HBr
          go_wp2
          exact ⟨⟨j + 1, by omega, by go_num, by rw [HST.out]; exact HIa.out _, HBa.out _⟩, by simp [intOf]; omega⟩
        · rw [if_neg hyk] at HST
          have hkF := ne_list6 hyk
          have hkN : (y.key.toList != x.key.toList) = true := by simp only [bne, hkF]; rfl
          have b2 : Below (wr.alloc (.cells #[.string y.key, .string y.text, .string y.val] 32)).heap.size (wr.alloc (.cells #[.string y.key, .string y.text, .string y.val] 32)) ((wr.alloc (.cells #[.string y.key, .string y.text, .string y.val] 32)).alloc (.cells #[.string y.key, .string y.text, .string y.val] 32)) := (Below.refl _ _).alloc (Nat.le_refl _) _
          have HB2' : Hid (Below w8.heap.size w8 ((wr.alloc (.cells #[.string y.key, .string y.text, .string y.val] 32)).alloc (.cells #[.string y.key, .string y.text, .string y.val] 32))) := HBr.out.trans ((HB1.out.trans (b2.mono HB1.out.size)).mono HBr.out.size)
          have HI2 : Hid (Rws ((wr.alloc (.cells #[.string y.key, .string y.text, .string y.val] 32)).alloc (.cells #[.string y.key, .string y.text, .string y.val] 32)) w8.heap.size u16 F) := (HI.out.below HB1.out).below b2
          have HY2 : Hid (SlV ((wr.alloc (.cells #[.string y.key, .string y.text, .string y.val] 32)).alloc (.cells #[.string y.key, .string y.text, .string y.val] 32)) (.slice (some ⟨wr.heap.size + 1, 0, none⟩) 1 1) [y]) := (rws_lit1 (wr.alloc (.cells #[.string y.key, .string y.text, .string y.val] 32)) _ w8.heap.size y (by simp) (by simp; omega)).slV
          clear hyk b2
          go_wp2_with (at_builtin; refine append_rws rfl _ _ rfl w8.heap.size u16 (.slice (some ⟨wr.heap.size + 1, 0, none⟩) 1 1) F [y] rfl rfl HI2.out HY2.out (by have := HFB.out; simp; omega) HB2'.out.size ?_)
          intro v6 w6 i6 g6
          have HI6 : Hid (Rws w6 w8.heap.size v6 (F ++ [y])) := i6
          have HQ6 : Hid (Below w8.heap.size w8 w6) := Below.grown HB2'.out g6 HB2'.out.size (fun j hj => (World.ownsRow.lt HI2.out j hj).1)
          clear i6 g6 HI2 HY2 HB2' HB1 HI HBr e0 e1 e2 hbl f0 f1 f2 hfl
          go_wp2
          exact ⟨⟨j + 1, by omega, by go_num, by rw [HST.out]; exact HI6.out, HQ6.out⟩, by simp [intOf]; omega⟩
      · obtain rfl : j = l.length := by omega
        rw [List.take_length] at hI
        have hI2 : Rws wr w8.heap.size u16 (notK x.key l) := hI
        obtain ⟨w9, rfl⟩ : ∃ w9, w9 = wr := ⟨_, rfl⟩
        obtain ⟨a9, c9, hv9⟩ := rw_form hI2
        subst hv9
        have HO9 : Hid (Rws w9 w8.heap.size (.slice a9 (notK x.key l).length c9) (notK x.key l)) := hI2
        have HX9 : Hid (BoxR6 w9 bx x) := HX8.out.below hb
        have HB9 : Hid (Below w.heap.size w w9) := HB8.out.trans (hb.mono HB8.out.size)
        have HQ9 : Hid (Strs w9 w.heap.size (.slice a3 q.length c3) q) := HQ8.out.below hb
        have HMA : Hid (∀ u, Below w9.heap.size w9 u → SlV u (.slice a6 m.length c6) m) := fun u hu => ((HM8.out.below hb).below hu).slV
        clear hI hI2 hb hjl hj HBr HX8 HB8 HQ8 HM8 HLA
        go_wp2_with fail
        go_loopw [17, 114] (fun v i wr => SdRel w9 m x.key v i wr) (fun _ i _ => m.length - (intOf i).toNat)
        case atStart => exact ⟨0, Nat.zero_le _, rfl, World.ownsRow_nil _ _ _ _, Below.refl _ _⟩
        case round =>
          obtain ⟨j, hj, rfl, hI, hb⟩ := hrel
          have HBr : Hid (Below w9.heap.size w9 wr) := hb
          have hw5 := hb.size
          by_cases hjl : j < m.length
          · obtain ⟨y, hy⟩ : ∃ y, m[j]? = some y := ⟨_, List.getElem?_eq_getElem hjl⟩
            obtain ⟨a', c', hv', hsl'⟩ := HMA.out wr hb
            injection hv' with e1 _ e3
            subst e1
            subst e3
            rcases hsl' with h | ⟨b, o, rfl, hE⟩
            · rw [h] at hy; simp at hy
            obtain ⟨e0, e1, e2⟩ := hE j y hy
            have hbl := rw_cell_lt e0
            have XR := HX9.out.below hb
            obtain ⟨f0, f1, f2⟩ := XR.cells
            have hfl := XR.lt
            have hj8 : (j : Int) < (m.length : Int) := by omega
            have HST : Hid ((m.take (j + 1)).filter (fun y => decide (y.key ≠ x.key)) = (m.take j).filter (fun y => decide (y.key ≠ x.key)) ++ (if y.key = x.key then [] else [y])) := filter_step hy
            have HFB : Hid (((m.take j).filter (fun y => decide (y.key ≠ x.key))).length ≤ 2400) := by
              show _ ≤ _
              have h1 := List.length_filter_le (fun y : Rw => decide (y.key ≠ x.key)) (m.take j)
              rw [List.length_take] at h1
              omega
            obtain ⟨F, HF⟩ : ∃ F, Hid ((m.take j).filter (fun y => decide (y.key ≠ x.key)) = F) := ⟨_, rfl⟩
            rw [HF.out] at hI HST HFB
            have HI : Hid (Rws wr w9.heap.size u17 F) := hI
            have b1 : Below wr.heap.size wr (wr.alloc (.cells #[.string y.key, .string y.text, .string y.val] 32)) := (Below.refl _ _).alloc (Nat.le_refl _) _
            have HB1 : Hid (Below wr.heap.size wr (wr.alloc (.cells #[.string y.key, .string y.text, .string y.val] 32))) := b1
            clear hE hy hb hI b1 XR
            by_cases hyk : y.key = x.key
            · rw [if_pos hyk, List.append_nil] at HST
              have hkT : (y.key.toList == x.key.toList) = true := by rw [hyk]; simp
              have hkN : (y.key.toList != x.key.toList) = false := by rw [hyk]; simp
              have HBa : Hid (∀ o, Below w9.heap.size w9 (wr.alloc o)) := fun o => HBr.out.alloc HBr.out.size o
              have HIa : Hid (∀ o, Rws (wr.alloc o) w9.heap.size u17 F) := fun o => HI.out.below ((Below.refl _ _).alloc (Nat.le_refl _) o)
              clear hyk HB1 HI HBr
              go_wp2
              exact ⟨⟨j + 1, by omega, by go_num, by rw [HST.out]; exact HIa.out _, HBa.out _⟩, by simp [intOf]; omega⟩
            · rw [if_neg hyk] at HST
              have hkF := ne_list6 hyk
              have hkN : (y.key.toList != x.key.toList) = true := by simp only [bne, hkF]; rfl
              have b2 : Below (wr.alloc (.cells #[.string y.key, .string y.text, .string y.val] 32)).heap.size (wr.alloc (.cells #[.string y.key, .string y.text, .string y.val] 32)) ((wr.alloc (.cells #[.string y.key, .string y.text, .string y.val] 32)).alloc (.cells #[.string y.key, .string y.text, .string y.val] 32)) := (Below.refl _ _).alloc (Nat.le_refl _) _
              have HB2' : Hid (Below w9.heap.size w9 ((wr.alloc (.cells #[.string y.key, .string y.text, .string y.val] 32)).alloc (.cells #[.string y.key, .string y.text, .string y.val] 32))) := HBr.out.trans ((HB1.out.trans (b2.mono HB1.out.size)).mono HBr.out.size)
              have HI2 : Hid (Rws ((wr.alloc (.cells #[.string y.key, .string y.text, .string y.val] 32)).alloc (.cells #[.string y.key, .string y.text, .string y.val] 32)) w9.heap.size u17 F) := (HI.out.below HB1.out).below b2
              have HY2 : Hid (SlV ((wr.alloc (.cells #[.string y.key, .string y.text, .string y.val] 32)).alloc (.cells #[.string y.key, .string y.text, .string y.val] 32)) (.slice (some ⟨wr.heap.size + 1, 0, none⟩) 1 1) [y]) := (rws_lit1 (wr.alloc (.cells #[.string y.key, .string y.text, .string y.val] 32)) _ w9.heap.size y (by simp) (by simp; omega)).slV
              clear hyk b2
              go_wp2_with (at_builtin; refine append_rws rfl _ _ rfl w9.heap.size u17 (.slice (some ⟨wr.heap.size + 1, 0, none⟩) 1 1) F [y] rfl rfl HI2.out HY2.out (by have := HFB.out; simp; omega) HB2'.out.size ?_)
              intro v6 w6 i6 g6
              have HI6 : Hid (Rws w6 w9.heap.size v6 (F ++ [y])) := i6
              have HQ6 : Hid (Below w9.heap.size w9 w6) := Below.grown HB2'.out g6 HB2'.out.size (fun j hj => (World.ownsRow.lt HI2.out j hj).1)
              clear i6 g6 HI2 HY2 HB2' HB1 HI HBr e0 e1 e2 hbl f0 f1 f2 hfl
              go_wp2
              exact ⟨⟨j + 1, by omega, by go_num, by rw [HST.out]; exact HI6.out, HQ6.out⟩, by simp [intOf]; omega⟩
          · obtain rfl : j = m.length := by omega
            rw [List.take_length] at hI
            have hI2 : Rws wr w9.heap.size u17 (notK x.key m) := hI
            rw [HN1.out] at hI2
            obtain ⟨w10, rfl⟩ : ∃ w10, w10 = wr := ⟨_, rfl⟩
            obtain ⟨a10, c10, hv10⟩ := rw_form hI2
            subst hv10
            have HO10 : Hid (Rws w10 w8.heap.size (.slice a9 (notK x.key l).length c9) (notK x.key l)) := HO9.out.below hb
            have SM := sameR_any (by omega) HO10.out hI2
            have HX10 : Hid (BoxR6 w10 bx x) := HX9.out.below hb
            have HB10 : Hid (Below w.heap.size w w10) := HB9.out.trans (hb.mono HB9.out.size)
            have HQ10 : Hid (Strs w10 w.heap.size (.slice a3 q.length c3) q) := HQ9.out.below hb
            clear hI hI2 hb hjl hj HBr HX9 HB9 HQ9 HMA HO9 HN1
            generalize notK x.key l = O at *
            go_wp2_with fail
            refine SM.mono ?_
            rintro e w11 ⟨rfl, b11⟩
            have HX11 : Hid (BoxR6 w11 bx x) := HX10.out.below b11
            have HB11 : Hid (Below w.heap.size w w11) := HB10.out.trans (b11.mono HB10.out.size)
            have HQ11 : Hid (Strs w11 w.heap.size (.slice a3 q.length c3) q) := HQ10.out.below b11
            have HO11 : Hid (Rws w11 w8.heap.size (.slice a9 O.length c9) O) := HO10.out.below b11
            have DQ := HDQ.out w11 _ HB11.out HQ11.out
            obtain ⟨d0, d1, d2⟩ := HX11.out.cells
            have hdl := HX11.out.lt
            clear SM b11 HX10 HB10 HQ10 HO10 HDQ
            go_wp2_with fail
            refine DQ.mono ?_
            rintro e w12 ⟨v12, rfl, s12, b12⟩
            have HB12 : Hid (Below w.heap.size w w12) := HB11.out.trans (b12.mono HB11.out.size)
            have HS12 : Hid (Strs w12 w.heap.size v12 d) := strs_low s12 HB11.out.size
            have HO12 : Hid (Rws w12 w8.heap.size (.slice a9 O.length c9) O) := HO11.out.below b12
            obtain ⟨a12, c12, hv12⟩ := strs_formB s12
            subst hv12
            have RD := HRD.out w12 _ HB12.out HS12.out
            clear DQ s12 b12 HX11 HB11 HQ11 HO11 d0 d1 d2 hdl HRD
            go_wp2_with fail
            refine RD.mono ?_
            rintro e w13 ⟨v13, rfl, r13, b13⟩
            have HB13 : Hid (Below w.heap.size w w13) := HB12.out.trans (b13.mono HB12.out.size)
            have HS13 : Hid (Strs w13 w.heap.size (.slice a12 d.length c12) d) := HS12.out.below b13
            have HO13 : Hid (Rws w13 w8.heap.size (.slice a9 O.length c9) O) := HO12.out.below b13
            have HR13 : Hid (Rws w13 w12.heap.size v13 O) := r13
            have LD := HLD.out w13 _ HB13.out HS13.out
            clear RD r13 b13 HB12 HS12 HO12 HLD
            go_wp2_with fail
            refine LD.mono ?_
            rintro e w14 ⟨rfl, b14⟩
            have HB14 : Hid (Below w.heap.size w w14) := HB13.out.trans (b14.mono HB13.out.size)
            have SM := sameR_any (by omega) (HR13.out.below b14) (HO13.out.below b14)
            clear LD b14 HB13 HS13 HO13 HR13
            by_cases hd0 : 0 < d.length
            · have h1 : 0 < ld := hLT.2 hd0
              have h2 : (0 : Int) < (d.length : Int) := by omega
              clear hLT
              go_wp2_with fail
              refine SM.mono ?_
              rintro e w15 ⟨rfl, b15⟩
              have HB15 : Hid (Below w.heap.size w w15) := HB14.out.trans (b15.mono HB14.out.size)
              clear SM b15
              go_wp2
              go_ret
              exact ⟨rfl, HB15.out⟩
            · have h1 : ¬ 0 < ld := fun h => hd0 (hLT.1 h)
              have h2 : ¬ (0 : Int) < (d.length : Int) := by omega
              clear hLT
              go_wp2_with fail
              refine SM.mono ?_
              rintro e w15 ⟨rfl, b15⟩
              have HB15 : Hid (Below w.heap.size w w15) := HB14.out.trans (b15.mono HB14.out.size)
              clear SM b15
              go_wp2
              go_ret
              exact ⟨by show Ending.returned (.bool (!decide (0 < ld))) = _; rw [decide_eq_false (show ¬ 0 < ld by omega)]; rfl, HB15.out⟩
end Go.Proofs.YticogafoopkflaaDoor
