/- Texts of mine laid together: IShort, PFind4, PFind5, PFind6, ICut, IPieces. -/
import Derived.Test.YtddelohmppdndaaGreatDoorMF5
import Derived.Test.YtddelohmppdndaaGreatDoorEqual2
import Derived.Test.YtddelohmppdndaaGreatDoorMF6
import Derived.Test.YtddelohmppdndaaGreatDoorMF4
import Derived.Test.YtddelohmppdndaaGreatDoorMF3
import Derived.Test.YtddelohmppdndaaGreatDoorIClass
import Derived.Test.YtddelohmppdndaaGreatDoorMF2
namespace Go.Proofs.YtddelohmppdndaaGreatDoor
open Go.RowKit

theorem equal_bw {w : World} {B B' : Nat} {a b : Value} {za zb : List Int} (hza : za.length ≤ 1048576) (hzb : zb.length ≤ 1048576) (ha : Ints w B a za) (hb : Ints w B' b zb) :
    Calls Tryz.prog 63 #[a, b] w fun e w' => e = .returned (.bool (decide (za = zb))) ∧ Below w.heap.size w w' :=
  (equal_any hza hzb ha hb).mono fun e w' ⟨h1, n, h2⟩ => ⟨h1, by rw [h2]; exact below_drewN (Below.refl _ _) n⟩

theorem alike_bw {w : World} {B B' : Nat} {va vb : Value} {a b : List Int} (ha : a.length ≤ 1048576) (hb : b.length ≤ 1048576) (hra : ∀ x ∈ a, 1 ≤ x ∧ x ≤ 65535) (hrb : ∀ x ∈ b, 1 ≤ x ∧ x ≤ 65535) (h1 : Ints w B va a) (h2 : Ints w B' vb b) :
    Calls Tryz.prog 65 #[va, vb] w fun e w' => e = .returned (.int .i64 (alike a b)) ∧ Below w.heap.size w w' :=
  (alike_any ha hb hra hrb h1 h2).mono fun e w' ⟨h1, n, h2⟩ => ⟨h1, by rw [h2]; exact below_drewN (Below.refl _ _) n⟩

/-- What shortest answers. -/
def shV : Option Nat → Value
  | none => .tuple #[.int .i64 0, .bool false]
  | some m => .tuple #[.int .i64 m, .bool true]

/-- What is held from one piece to the next. -/
def ShRel (W : World) (b : Nat) (ve : Value) (sh : Bool) (lv : Int) (es : List Ent) (want : List Int) (pc : Nat → List Int) (N k : Nat) (R : Option Nat) (v : Value) (wr : World) : Prop :=
  ∃ a vs vr st rest, v = .int .i64 (a : Nat) ∧ k ≤ a ∧ a ≤ N ∧ Str W wr b ve sh lv vs vr st rest ∧ st.length + 2 * rest.length ≤ 2 * (catP pc k (a - k)).length ∧ (∀ x ∈ rest, goodB x = true) ∧ (∀ y ∈ st, 1 ≤ y ∧ y ≤ 65535) ∧ shortF es sh want pc (N - a) a st rest = R

set_option maxRecDepth 100000 in
set_option maxHeartbeats 8000000 in
theorem shortest_any {w : World} {B BW : Nat} {ve vc vp vw : Value} {es : List Ent} {sh : Bool} {lv : Int} {want : List Int} {pc : Nat → List Int} {N k : Nat} (hE : Ents w B ve es) (hne : es.length ≤ 1048576) (hr : ∀ e ∈ es, e.runes.length ≤ 1048576) (ht : Tabs3 w)
    (hP : Pcs w vp pc N) (hW : Ints w BW vw want) (hwl : want.length ≤ 4000) (hN : N ≤ 1048576) (hk : k ≤ N) (hcat : ∀ n, k + n ≤ N → (catP pc k n).length ≤ 200) (hg : ∀ i, ∀ x ∈ pc i, goodB x = true)
    (hww : ∀ y ∈ want, 1 ≤ y ∧ y ≤ 65535) (hes : ∀ run, (∀ x ∈ run, goodB x = true) → ∀ y ∈ firstsE sh (elsOf es run), 1 ≤ y ∧ y ≤ 65535) :
    Calls Tryz.prog 43 #[.agg #[ve, .bool sh, .int .i64 lv, vc, vp, vw], .int .i64 k] w fun e w' => e = .returned (shV (if want = [] then none else shortF es sh want pc (N - k) k [] [])) ∧ Below w.heap.size w w' := by
  obtain ⟨ea, ec, rfl⟩ : ∃ a c, ve = .slice a es.length c := by
    rcases hE.form with ⟨rfl, rfl⟩ | ⟨_, _, rfl, _, _, _, _⟩
    · exact ⟨_, _, rfl⟩
    · exact ⟨_, _, rfl⟩
  obtain ⟨pa, pcap, rfl, hPi⟩ := hP
  obtain ⟨wa, wc0, rfl⟩ := ints_form hW
  have hbx : Below w.heap.size w (w.alloc (.cells #[.slice ea es.length ec, .bool sh, .int .i64 lv, vc, .slice pa N pcap, .slice wa want.length wc0] 53)) := (Below.refl _ _).alloc (Nat.le_refl _) _
  have hbox : (w.alloc (.cells #[.slice ea es.length ec, .bool sh, .int .i64 lv, vc, .slice pa N pcap, .slice wa want.length wc0] 53)).heap[w.heap.size]? = some (.cells #[.slice ea es.length ec, .bool sh, .int .i64 lv, vc, .slice pa N pcap, .slice wa want.length wc0] 53) := heap_alloc_new w _
  by_cases h0 : want = []
  · subst h0
    rw [if_pos rfl]
    go_enter Tryz.func43, Tryz.ntmps43
    go_wp2
    go_ret2
    exact ⟨rfl, hbx⟩
  · have hw8 : ¬ ((want.length : Int) = 0) := by
      have := List.length_pos_iff.2 h0
      omega
    have hw9 : ((want.length : Int) == 0) = false := by simpa using hw8
    rw [if_neg h0]
    obtain ⟨R, HR⟩ : ∃ R, Hid (shortF es sh want pc (N - k) k [] [] = R) := ⟨_, rfl⟩
    rw [HR.out]
    obtain ⟨W, HWe⟩ : ∃ W, Hid (W = w.alloc (.cells #[.slice ea es.length ec, .bool sh, .int .i64 lv, vc, .slice pa N pcap, .slice wa want.length wc0] 53)) := ⟨_, rfl⟩
    have hWs : W.heap.size = w.heap.size + 1 := by rw [HWe.out]; simp
    rw [← HWe.out] at hbx hbox
    have HE : Hid (Ents W B (.slice ea es.length ec) es) := hE.below hbx
    have HT : Hid (Tabs3 W) := ht.below hbx
    have HWW : Hid (Ints W BW (.slice wa want.length wc0) want) := hW.below hbx
    have HPP : Hid (Pcs W (.slice pa N pcap) pc N) := Pcs.below ⟨pa, pcap, rfl, hPi⟩ hbx
    have HBX : Hid (Below w.heap.size w W) := hbx
    have HBB : Hid (W.heap[w.heap.size]? = _) := hbox
    have HCAT : Hid (∀ n, k + n ≤ N → (catP pc k n).length ≤ 200) := hcat
    have HGG : Hid (∀ i, ∀ x ∈ pc i, goodB x = true) := hg
    have HST0 : Hid (Str W (W.alloc (.cells #[.slice ea es.length ec, .bool sh, .int .i64 lv, .slice none 0 0, .slice none 0 0] 105)) (w.heap.size + 1) (.slice ea es.length ec) sh lv (.slice none 0 0) (.slice none 0 0) [] []) := by
      refine ⟨by omega, ?_, ⟨rfl, .inl ⟨rfl, rfl⟩⟩, .inl ⟨rfl, rfl⟩, .inl rfl, (Below.refl _ _).alloc (Nat.le_refl _) _⟩
      rw [← hWs]
      exact heap_alloc_new W _
    have hN8 : (N : Int) ≤ 1048576 := by omega
    clear hE ht hW hPi hbx hbox hcat hg
    go_enter Tryz.func43, Tryz.ntmps43
    go_wp2_with fail
    rw [← HWe.out]
    clear HWe
    go_loopw [7] (fun v wr => ShRel W (w.heap.size + 1) (.slice ea es.length ec) sh lv es want pc N k R v wr) (fun v _ => N - (intOf v).toNat)
    case atStart => exact ⟨k, _, _, [], [], rfl, Nat.le_refl _, hk, HST0.out, by simp, (fun x hx => by cases hx), (fun y hy => by cases hy), HR.out⟩
    case round =>
      clear HST0 HR
      obtain ⟨a, vs, vr, st, rest, rfl, hka, haN, hS, hlen, hgd, hst, hsh⟩ := hrel
      have hbr := hS.2.2.2.2.2
      have hbx' : wr.heap[w.heap.size]? = _ := (hbr.block w.heap.size (by omega)).trans HBB.out
      have x4 := cell_of_row _ _ 4 _ _ _ hbx'
      have x5 := cell_of_row _ _ 5 _ _ _ hbx'
      have hbl : w.heap.size + 1 < wr.heap.size := (Array.getElem?_eq_some_iff.1 hS.2.1).1
      by_cases haN2 : a < N
      · have ha8 : (a : Int) < (N : Int) := by omega
        obtain ⟨pa', pc', hpv, hPi⟩ := HPP.out.below hbr
        obtain ⟨rfl, _, rfl⟩ := Value.slice.inj hpv
        obtain ⟨g, gx, fx, cx, rfl, hgl, hgc, hgxl, hgy⟩ := hPi a haN2
        have hcl : (catP pc k (a - k)).length + (pc a).length ≤ 200 := by
          have := HCAT.out (a - k + 1) (by omega)
          rw [catP, List.length_append, show k + (a - k) = a by omega] at this
          exact this
        have GR := grow_any (cx := cx) HE.out hne hr HT.out hS hgxl hgy (by omega) (by omega) hgd (HGG.out a)
        obtain ⟨q1, q2, q3⟩ := growS_bd (es := es) (sh := sh) (st := st) (rest := rest) hgd (HGG.out a) hes hst
        have HSH : Hid ((if (growS es sh st rest (pc a)).1 ++ firstsB es sh (growS es sh st rest (pc a)).2 = want then some (a + 1) else if alike (growS es sh st rest (pc a)).1 want < (growS es sh st rest (pc a)).1.length then none else shortF es sh want pc (N - (a + 1)) (a + 1) (growS es sh st rest (pc a)).1 (growS es sh st rest (pc a)).2) = R) := by
          show _ = _
          rw [← hsh, show N - a = (N - (a + 1)) + 1 by omega, shortF]
        generalize growS es sh st rest (pc a) = gs at *
        have hlen2 : gs.1.length + 2 * gs.2.length ≤ 2 * (catP pc k (a + 1 - k)).length := by
          rw [show a + 1 - k = (a - k) + 1 by omega, catP, List.length_append, show k + (a - k) = a by omega]
          omega
        have hlen3 : gs.1.length + 2 * gs.2.length ≤ 400 := by omega
        have HPI : Hid _ := hPi
        clear hS hsh hgd hst hPi hgy hlen hbr hbx'
        go_wp2_with fail
        refine GR.mono ?_
        rintro e w2 ⟨rfl, vs2, vr2, hS2⟩
        obtain ⟨sa, sc, rfl⟩ := ints_form hS2.2.2.1
        have HS2 : Hid (Str _ _ _ _ _ _ _ _ _ _) := hS2
        have hb2 := hS2.2.2.2.2.2
        have hbx2 : w2.heap[w.heap.size]? = _ := (hb2.block w.heap.size (by omega)).trans HBB.out
        have y5 := cell_of_row _ _ 5 _ _ _ hbx2
        have hbl2 : w.heap.size + 1 < w2.heap.size := (Array.getElem?_eq_some_iff.1 hS2.2.1).1
        have hbl3 : w.heap.size < w2.heap.size := by omega
        have FI := fun (u : World) (hu : Below w2.heap.size w2 u) => firsts_any HE.out hne hr HT.out (HS2.out.below hu) (by omega) (by omega) q2
        have HW2 : Hid (Ints w2 BW (.slice wa want.length wc0) want) := HWW.out.below hb2
        have HB2 : Hid (Below w.heap.size w w2) := HBX.out.trans (hb2.mono HBX.out.size)
        have hfB : (gs.1 ++ firstsB es sh gs.2).length ≤ 4000 := by
          rw [firstsB_eq, List.length_append]
          have := Nat.le_trans (firstsE_len sh (elems4 es gs.2)) (elems4_len es gs.2)
          omega
        generalize firstsB es sh gs.2 = fB at *
        clear GR hS2 hbx2 hb2 x4 x5 hbl hgc
        go_upto_region 8 with fail
        go_cut [32] from 29 to 31 (fun v32 wx => v32 = .bool (decide (gs.1 ++ fB = want)) ∧ Below w2.heap.size w2 wx)
        case first =>
          go_region_law
            (first
              | (go_simp; go_at_call 64; refine (FI _ (by repeat (first | with_reducible exact Below.refl _ _ | with_reducible refine Below.drew ?_))).mono ?_; rintro e w3 ⟨v3, rfl, i3, b3⟩; have b3' : Below w2.heap.size w2 w3 := (by first | exact b3 | exact ((Below.refl _ _).drew).trans b3); have z5 : w3.cell? ⟨w.heap.size, 5, none⟩ = some _ := (b3'.cell hbl3).trans y5; have EQ := fun (u : World) (hu : Below w3.heap.size w3 u) => equal_bw (by omega) (by omega) (i3.below hu) ((HW2.out.below b3').below hu))
              | (go_simp; go_at_call 63; refine (EQ _ (by repeat (first | with_reducible exact Below.refl _ _ | with_reducible refine Below.drew ?_))).mono ?_; rintro e w4 ⟨rfl, bq4⟩))
          all_goals
            have b4 : Below w2.heap.size w2 w4 := by
              first
                | exact b3'.trans (bq4.mono b3'.size)
                | exact b3'.drew.trans (bq4.mono b3'.drew.size)
            clear bq4 b3 b3' i3 EQ z5 FI
            go_wp2_with fail
            go_meet
            case rel => exact ⟨rfl, b4⟩
        case rest =>
          obtain ⟨rfl, b4⟩ := hcut
          obtain ⟨w4, rfl⟩ : ∃ w4, w4 = wc := ⟨_, rfl⟩
          have HS4 : Hid (Str _ _ _ _ _ _ _ _ _ _) := HS2.out.below b4
          have HW4 : Hid (Ints w4 BW (.slice wa want.length wc0) want) := HW2.out.below b4
          have HB4 : Hid (Below w.heap.size w w4) := HB2.out.trans (b4.mono HB2.out.size)
          have t5 : w4.cell? ⟨w.heap.size, 5, none⟩ = some _ := (b4.cell hbl3).trans y5
          obtain ⟨_, _, _, t3, _, _⟩ := HS4.out.cells
          have hbl4 : w.heap.size + 1 < w4.heap.size := Nat.lt_of_lt_of_le hbl2 b4.size
          have hbl5 : w.heap.size < w4.heap.size := by omega
          clear b4 FI y5 HS2 HW2 HB2
          by_cases hq : gs.1 ++ fB = want
          · have hR : R = some (a + 1) := by rw [← HSH.out, if_pos hq]
            subst hR
            rw [decide_eq_true hq]
            clear HSH
            go_wp2
            go_ret2
            exact ⟨by show _ = Ending.returned (Value.tuple #[.int .i64 ((a + 1 : Nat) : Int), .bool true]); congr, HB4.out⟩
          · have HSH2 : Hid ((if alike gs.1 want < gs.1.length then none else shortF es sh want pc (N - (a + 1)) (a + 1) gs.1 gs.2) = R) := by
              show _ = _
              rw [← HSH.out, if_neg hq]
            rw [decide_eq_false hq]
            have AK := fun (u : World) (hu : Below w4.heap.size w4 u) => alike_bw (by omega) (by omega) q3 hww (HS4.out.2.2.1.below hu) (HW4.out.below hu)
            clear HSH hq
            go_upto_region 10 with fail
            go_cut [43] from 35 to 42 (fun v43 wx => v43 = .bool (decide (alike gs.1 want < gs.1.length)) ∧ Below w4.heap.size w4 wx)
            case first =>
              go_region_law (go_simp; go_at_call 65; refine (AK _ (by repeat (first | with_reducible exact Below.refl _ _ | with_reducible refine Below.drew ?_))).mono ?_; rintro e w6 ⟨rfl, bq6⟩; have b6 : Below w4.heap.size w4 w6 := (by first | exact bq6 | exact ((Below.refl _ _).drew).trans bq6); have s3 : w6.cell? ⟨w.heap.size + 1, 3, none⟩ = some _ := (b6.cell hbl4).trans t3)
              all_goals
                have B6 : Hid (Below w4.heap.size w4 w6) := b6
                clear b6 bq6 s3 AK
                go_wp2_with fail
                go_meet
                case rel => exact ⟨rfl, B6.out⟩
            case rest =>
              obtain ⟨rfl, b6⟩ := hcut
              have HB6 : Hid (Below w.heap.size w wc) := HB4.out.trans (b6.mono HB4.out.size)
              have HS6 : Hid (Str _ _ _ _ _ _ _ _ _ _) := HS4.out.below b6
              clear AK b6 t3 t5 HS4 HW4 HB4
              by_cases hA : alike gs.1 want < gs.1.length
              · have hR : R = none := by rw [← HSH2.out, if_pos hA]
                subst hR
                rw [decide_eq_true hA]
                clear HSH2
                go_wp2
                go_ret2
                exact ⟨rfl, HB6.out⟩
              · rw [decide_eq_false hA]
                have HSH3 : Hid (shortF es sh want pc (N - (a + 1)) (a + 1) gs.1 gs.2 = R) := by
                  show _ = _
                  rw [← HSH2.out, if_neg hA]
                clear HSH2 hA
                go_wp2
                have hrel2 : ShRel W (w.heap.size + 1) (.slice ea es.length ec) sh lv es want pc N k R (.int .i64 ((a : Int) + 1)) wc := ⟨a + 1, _, _, gs.1, gs.2, by go_num, by omega, by omega, HS6.out, hlen2, q2, q3, HSH3.out⟩
                exact ⟨hrel2, by simp [intOf]; omega⟩
      · have ha8 : ¬ (a : Int) < (N : Int) := by omega
        have hR : R = none := by rw [← hsh, show N - a = 0 by omega]; rfl
        subst hR
        have HB : Hid (Below w.heap.size w wr) := HBX.out.trans (hbr.mono HBX.out.size)
        clear hS hsh hbr hbx'
        go_wp2
        go_ret2
        exact ⟨rfl, HB.out⟩
end Go.Proofs.YtddelohmppdndaaGreatDoor

namespace Go.Proofs.YtddelohmppdndaaGreatDoor

/-- The cuts, as places. -/
def cutN (s : ByteArray) : Nat → Nat → List Nat
  | 0, _ => []
  | f + 1, a => if a < s.size then (if a = 0 ∨ cutB (rnAt s a) = true then [a] else []) ++ cutN s f (a + wid s a) else []

theorem cutN_ints (s : ByteArray) : ∀ f a, cutsFrom s f a = (cutN s f a).map (fun n : Nat => (n : Int)) := by
  intro f
  induction f with
  | zero => intro a; rfl
  | succ f ih =>
    intro a
    simp only [cutsFrom, cutN]
    split
    · rw [List.map_append, ih]
      show (if a = 0 ∨ cutB (rnAt s a) = true then [(a : Int)] else []) ++ _ = _
      split <;> rfl
    · rfl

def cutsNat (s : ByteArray) : List Nat := cutN s s.size 0 ++ [s.size]

theorem cutsL_nat (s : ByteArray) : cutsL s = (cutsNat s).map (fun n : Nat => (n : Int)) := by
  unfold cutsL cutsNat
  rw [cutN_ints, List.map_append]
  rfl

/-- Places that are come to one from the other, each but the first one a cut. -/
inductive Chain (s : ByteArray) : Nat → List Nat → Prop
  | last {a : Nat} (h : Reach s a s.size) (hl : a < s.size) : Chain s a [s.size]
  | cons {a b : Nat} {l : List Nat} (h : Reach s a b) (hb : b < s.size) (hc : cutB (rnAt s b) = true) (ht : Chain s b l) (hab : a < b) : Chain s a (b :: l)

theorem chain_from (s : ByteArray) : ∀ (f a b : Nat), Reach s b a → b < a → a ≤ s.size → s.size ≤ a + f → Chain s b (cutN s f a ++ [s.size]) := by
  intro f
  induction f with
  | zero =>
    intro a b hr hba ha hf
    have : a = s.size := by omega
    subst this
    exact .last hr (by omega)
  | succ f ih =>
    intro a b hr hba ha hf
    rw [cutN]
    by_cases h : a < s.size
    · have hw := wid_bd s h
      rw [if_pos h]
      by_cases c : cutB (rnAt s a) = true
      · rw [if_pos (.inr c), List.append_assoc]
        exact .cons hr h c (ih _ a (.step h (.refl _)) (by omega) (by omega) (by omega)) hba
      · rw [if_neg (fun d => by rcases d with d | d; omega; exact c d), List.nil_append]
        exact ih _ b (hr.trans (.step h (.refl _))) (by omega) (by omega) (by omega)
    · rw [if_neg h]
      have : a = s.size := by omega
      subst this
      exact .last hr (by omega)

/-- The first cut is 0. -/
theorem cuts_head (s : ByteArray) : ∃ l, cutsNat s = 0 :: l ∧ (s.size = 0 → l = []) ∧ (0 < s.size → Chain s 0 l) := by
  unfold cutsNat
  by_cases h : 0 < s.size
  · obtain ⟨f, hf⟩ : ∃ f, s.size = f + 1 := ⟨s.size - 1, by omega⟩
    have hw := wid_bd s h
    refine ⟨cutN s f (0 + wid s 0) ++ [s.size], ?_, fun c => by omega, fun _ => chain_from s f _ 0 (.step h (.refl _)) (by omega) (by omega) (by omega)⟩
    rw [hf]
    rw [cutN, if_pos h, if_pos (.inl rfl)]
    rw [← hf]
    rfl
  · refine ⟨[], ?_, fun _ => rfl, fun c => absurd c h⟩
    have : s.size = 0 := by omega
    rw [this]
    rfl

theorem sort_head {y : Int} {m : List Int} (h : cls y = 0) : at0 (sortM (y :: m)) 0 = y := by
  have i1 : ∀ (a : List Int) (x : Int), ∃ a', insR (a ++ [y]) x = a' ++ [y] := by
    intro a
    induction a with
    | nil => intro x; exact ⟨[x], by show insR [y] x = _; rw [insR_stop (by omega)]; rfl⟩
    | cons z t ih =>
      intro x
      by_cases c : 0 < cls x ∧ cls x < cls z
      · obtain ⟨a', ha⟩ := ih x
        exact ⟨z :: a', by show insR (z :: (t ++ [y])) x = _; rw [insR_go c, ha]; rfl⟩
      · exact ⟨x :: z :: t, by show insR (z :: (t ++ [y])) x = _; rw [insR_stop c]; rfl⟩
  have i2 : ∀ (m a : List Int), ∃ a', m.foldl insR (a ++ [y]) = a' ++ [y] := by
    intro m
    induction m with
    | nil => intro a; exact ⟨a, rfl⟩
    | cons x m ih =>
      intro a
      obtain ⟨a1, h1⟩ := i1 a x
      rw [List.foldl_cons, h1]
      exact ih a1
  obtain ⟨a', ha⟩ := i2 m []
  have e : stk (y :: m) = a' ++ [y] := by
    unfold stk
    rw [List.foldl_cons]
    exact ha
  rw [sortM_stk, e, List.reverse_append]
  rfl

/-- What begins at a cut begins with a starter. -/
theorem piece_sta {s : ByteArray} {b c : Nat} (hc : cutB (rnAt s b) = true) (hbc : b < c) (hcs : c ≤ s.size) (hw : b + wid s b ≤ c) : (apD (decL (s.extract b c)) = [] ∨ cls (at0 (apD (decL (s.extract b c))) 0) = 0) ∧ Sta (rn4 (s.extract b c)) ∧ rn4 (s.extract b c) ≠ [] := by
  have hd := decL_step s hbc hcs hw
  have h1 := cut_head hc (decL (s.extract (b + wid s b) c))
  have hr : rn4 (s.extract b c) = nD (decL (s.extract b c)) := rfl
  rw [hr, hd]
  refine ⟨.inr h1, ?_, ?_⟩
  · obtain ⟨y, m, hy⟩ : ∃ y m, apD (rnAt s b :: decL (s.extract (b + wid s b) c)) = y :: m := by
      have hl := len_apD (rnAt s b :: decL (s.extract (b + wid s b) c))
      cases e : apD (rnAt s b :: decL (s.extract (b + wid s b) c)) with
      | nil => rw [e] at hl; simp at hl
      | cons y m => exact ⟨y, m, rfl⟩
    refine .inr ?_
    unfold nD
    rw [hy] at h1 ⊢
    have h2 : cls y = 0 := h1
    rw [sort_head h2]
    exact h2
  · intro e
    have hl := len_apD (rnAt s b :: decL (s.extract (b + wid s b) c))
    have hl2 := congrArg List.length e
    rw [nD_len] at hl2
    simp at hl hl2
    rw [hl2] at hl
    simp at hl

theorem rn4_cut {s : ByteArray} {a b c : Nat} (hr : Reach s a b) (hc : cutB (rnAt s b) = true) (hbc : b < c) (hcs : c ≤ s.size) (hw : b + wid s b ≤ c) : rn4 (s.extract a c) = rn4 (s.extract a b) ++ rn4 (s.extract b c) := by
  have e1 : rn4 (s.extract a c) = nD (decL (s.extract a c)) := rfl
  rw [e1, decL_cut hr (by omega) hcs, nD_app (piece_sta hc hbc hcs hw).1]
  rfl

theorem Reach.wid {s : ByteArray} {a p : Nat} (h : Reach s a p) (hne : a < p) : a + Go.Proofs.YtddelohmppdndaaGreatDoor.wid s a ≤ p := by
  cases h with
  | refl => omega
  | step h r => exact r.le.1
end Go.Proofs.YtddelohmppdndaaGreatDoor

namespace Go.Proofs.YtddelohmppdndaaGreatDoor

theorem chain_at {s : ByteArray} : ∀ {a : Nat} {l : List Nat}, Chain s a l → ∀ (k x y : Nat), (a :: l)[k]? = some x → (a :: l)[k + 1]? = some y → Reach s x y ∧ x < y ∧ y ≤ s.size ∧ (1 ≤ k → cutB (rnAt s x) = true) := by
  intro a l h
  induction h with
  | @last a h hl =>
    intro k x y hx hy
    cases k with
    | zero =>
      simp at hx hy
      subst hx
      subst hy
      exact ⟨h, hl, Nat.le_refl _, fun c => by omega⟩
    | succ k => simp at hy
  | @cons a b l h hb hc ht hab ih =>
    intro k x y hx hy
    cases k with
    | zero =>
      simp at hx hy
      subst hx
      subst hy
      exact ⟨h, hab, by omega, fun c => by omega⟩
    | succ k =>
      have hx2 : (b :: l)[k]? = some x := by simpa using hx
      have hy2 : (b :: l)[k + 1]? = some y := by simpa using hy
      obtain ⟨r1, r2, r3, r4⟩ := ih k x y hx2 hy2
      refine ⟨r1, r2, r3, fun _ => ?_⟩
      cases k with
      | zero =>
        simp at hx2
        subst hx2
        exact hc
      | succ k => exact r4 (by omega)

/-- Two cuts that follow one another. -/
theorem cuts_at {s : ByteArray} {k x y : Nat} (hx : (cutsNat s)[k]? = some x) (hy : (cutsNat s)[k + 1]? = some y) : Reach s x y ∧ x < y ∧ y ≤ s.size ∧ (1 ≤ k → cutB (rnAt s x) = true) := by
  obtain ⟨l, h1, h2, h3⟩ := cuts_head s
  rw [h1] at hx hy
  by_cases h : 0 < s.size
  · exact chain_at (h3 h) k x y hx hy
  · rw [h2 (by omega)] at hy
    simp at hy

theorem cuts_zero (s : ByteArray) : (cutsNat s)[0]? = some 0 := by
  obtain ⟨l, h1, _⟩ := cuts_head s
  rw [h1]
  rfl

theorem cuts_le {s : ByteArray} {k x : Nat} (hx : (cutsNat s)[k]? = some x) : x ≤ s.size := by
  cases k with
  | zero =>
    rw [cuts_zero] at hx
    have := Option.some.inj hx
    omega
  | succ k =>
    have hl := (List.getElem?_eq_some_iff.1 hx).1
    exact (cuts_at (List.getElem?_eq_getElem (by omega)) hx).2.2.1

theorem cuts_reach {s : ByteArray} : ∀ (n i x y : Nat), (cutsNat s)[i]? = some x → (cutsNat s)[i + n]? = some y → Reach s x y ∧ x + n ≤ y := by
  intro n
  induction n with
  | zero =>
    intro i x y hx hy
    rw [Nat.add_zero, hx] at hy
    have := Option.some.inj hy
    subst this
    exact ⟨.refl _, by omega⟩
  | succ n ih =>
    intro i x y hx hy
    have hl := (List.getElem?_eq_some_iff.1 hy).1
    obtain ⟨z, hz⟩ : ∃ z, (cutsNat s)[i + n]? = some z := ⟨_, List.getElem?_eq_getElem (by omega)⟩
    obtain ⟨r1, r2⟩ := ih i x z hx hz
    obtain ⟨q1, q2, _⟩ := cuts_at hz (show (cutsNat s)[i + n + 1]? = some y from hy)
    exact ⟨r1.trans q1, by omega⟩

def cutAt (s : ByteArray) (k : Nat) : Nat := ((cutsNat s)[k]?).getD 0

/-- The runes from each cut to the next one. -/
def pcS (s : ByteArray) (k : Nat) : List Int := if k + 1 < (cutsNat s).length then rn4 (s.extract (cutAt s k) (cutAt s (k + 1))) else [65]

theorem cutAt_of {s : ByteArray} {k x : Nat} (h : (cutsNat s)[k]? = some x) : cutAt s k = x := by unfold cutAt; rw [h]; rfl

theorem pcS_sta (s : ByteArray) (k : Nat) (hk : 1 ≤ k) : Sta (pcS s k) ∧ pcS s k ≠ [] := by
  unfold pcS
  split
  · rename_i h
    obtain ⟨x, hx⟩ : ∃ x, (cutsNat s)[k]? = some x := ⟨_, List.getElem?_eq_getElem (by omega)⟩
    obtain ⟨y, hy⟩ : ∃ y, (cutsNat s)[k + 1]? = some y := ⟨_, List.getElem?_eq_getElem h⟩
    obtain ⟨q1, q2, q3, q4⟩ := cuts_at hx hy
    rw [cutAt_of hx, cutAt_of hy]
    exact (piece_sta (q4 hk) q2 q3 (q1.wid q2)).2
  · exact ⟨.inr (by decide), by simp⟩

/-- A stretch is its pieces one behind the other. -/
theorem cat_rn {s : ByteArray} : ∀ (n i x y : Nat), (cutsNat s)[i]? = some x → (cutsNat s)[i + (n + 1)]? = some y → catP (pcS s) i (n + 1) = rn4 (s.extract x y) := by
  intro n
  induction n with
  | zero =>
    intro i x y hx hy
    have hl := (List.getElem?_eq_some_iff.1 hy).1
    show [] ++ pcS s (i + 0) = _
    rw [List.nil_append, Nat.add_zero]
    unfold pcS
    rw [if_pos (by omega), cutAt_of hx, cutAt_of (show (cutsNat s)[i + 1]? = some y from hy)]
  | succ n ih =>
    intro i x y hx hy
    have hl := (List.getElem?_eq_some_iff.1 hy).1
    obtain ⟨z, hz⟩ : ∃ z, (cutsNat s)[i + (n + 1)]? = some z := ⟨_, List.getElem?_eq_getElem (by omega)⟩
    obtain ⟨q1, q2, q3, q4⟩ := cuts_at hz (show (cutsNat s)[i + (n + 1) + 1]? = some y from hy)
    show catP (pcS s) i (n + 1) ++ pcS s (i + (n + 1)) = _
    rw [ih i x z hx hz]
    have e : pcS s (i + (n + 1)) = rn4 (s.extract z y) := by
      unfold pcS
      rw [if_pos (by omega), cutAt_of hz, cutAt_of (show (cutsNat s)[i + (n + 1) + 1]? = some y from hy)]
    rw [e, rn4_cut (cuts_reach (n + 1) i x z hx hz).1 (q4 (by omega)) q2 q3 (q1.wid q2)]

/-- A stretch has no more runes than the whole. -/
theorem rn4_part {s : ByteArray} {i k x y : Nat} (hik : i < k) (hx : (cutsNat s)[i]? = some x) (hy : (cutsNat s)[k]? = some y) : (rn4 (s.extract x y)).length ≤ (rn4 s).length := by
  obtain ⟨l, h1, h2, h3⟩ := cuts_head s
  have hl := (List.getElem?_eq_some_iff.1 hy).1
  obtain ⟨m, hm⟩ : ∃ m, (cutsNat s).length = m + 1 := ⟨(cutsNat s).length - 1, by omega⟩
  have hlast : (cutsNat s)[m]? = some s.size := by
    unfold cutsNat at hm ⊢
    rw [List.length_append] at hm
    have : m = (cutN s s.size 0).length := by simp at hm; omega
    rw [this]
    simp
  have hall : catP (pcS s) 0 (m - 1 + 1) = rn4 (s.extract 0 s.size) := cat_rn (m - 1) 0 0 s.size (cuts_zero s) (by rw [show 0 + (m - 1 + 1) = m by omega]; exact hlast)
  have hsub : catP (pcS s) i (k - i - 1 + 1) = rn4 (s.extract x y) := cat_rn (k - i - 1) i x y hx (by rw [show i + (k - i - 1 + 1) = k by omega]; exact hy)
  have e0 : s.extract 0 s.size = s := by simp
  rw [e0] at hall
  have hlen : ∀ (n j : Nat), (catP (pcS s) j n).length ≤ (catP (pcS s) 0 (j + n)).length := by
    intro n
    induction n with
    | zero => intro j; show 0 ≤ _; omega
    | succ n ih =>
      intro j
      have := ih j
      show (catP (pcS s) j n ++ pcS s (j + n)).length ≤ (catP (pcS s) 0 (j + n) ++ pcS s (0 + (j + n))).length
      rw [List.length_append, List.length_append, Nat.zero_add]
      omega
  have hmono : ∀ (a b : Nat), a ≤ b → (catP (pcS s) 0 a).length ≤ (catP (pcS s) 0 b).length := by
    intro a b hab
    induction b with
    | zero => have : a = 0 := by omega
              subst this
              exact Nat.le_refl _
    | succ b ih =>
      by_cases c : a = b + 1
      · rw [c]; exact Nat.le_refl _
      · have := ih (by omega)
        show _ ≤ (catP (pcS s) 0 b ++ pcS s (0 + b)).length
        rw [List.length_append]
        omega
  rw [← hsub, ← hall]
  refine Nat.le_trans (hlen _ i) (hmono _ _ ?_)
  omega
end Go.Proofs.YtddelohmppdndaaGreatDoor

namespace Go.Proofs.YtddelohmppdndaaGreatDoor

def spn (s : ByteArray) (p : Nat × Nat) : Int × Int := ((cutAt s p.1 : Int), (cutAt s p.2 : Int))
def nPc (s : ByteArray) : Nat := (cutsNat s).length - 1
def wantT (es : List Ent) (sh : Bool) (t : ByteArray) : List Int := firstsB es sh (rn4 t)

/-- All spans that match. -/
def findL (es : List Ent) (sh : Bool) (s t : ByteArray) : List (Int × Int) := (spansF es sh (wantT es sh t) (pcS s) (nPc s) (nPc s + 1) 0).map (spn s)

def okF (es : List Ent) (sh : Bool) (lv : Int) (s t : ByteArray) : Bool := (okE es lv s && okE es lv t) && decide ((findL es sh s t).length ≤ 60)
def findA (es : List Ent) (sh : Bool) (lv : Int) (s t : ByteArray) : List (Int × Int) := if okF es sh lv s t = true then findL es sh s t else []

theorem cuts_len (s : ByteArray) : (cutsNat s).length = nPc s + 1 := by
  obtain ⟨l, h, _⟩ := cuts_head s
  unfold nPc
  rw [h]
  simp

theorem cutAt_some {s : ByteArray} {k : Nat} (h : k ≤ nPc s) : (cutsNat s)[k]? = some (cutAt s k) := by
  have hl := cuts_len s
  have : (cutsNat s)[k]? = some (cutsNat s)[k] := List.getElem?_eq_getElem (by omega)
  rw [this]
  unfold cutAt
  rw [this]
  rfl

theorem cutsL_some {s : ByteArray} {k : Nat} (h : k ≤ nPc s) : (cutsL s)[k]? = some (cutAt s k : Int) := by
  rw [cutsL_nat, List.getElem?_map, cutAt_some h]
  rfl

theorem cutsL_len (s : ByteArray) : (cutsL s).length = nPc s + 1 := by
  rw [cutsL_nat, List.length_map, cuts_len]

theorem nPc_le {s : ByteArray} : nPc s ≤ s.size := by
  have h := cutsFrom_len s s.size 0
  have hl := cutsL_len s
  unfold cutsL at hl
  rw [List.length_append] at hl
  simp at hl
  omega

/-- The stretch between two cuts, as its pieces. -/
theorem stretch_cat {s : ByteArray} {i n : Nat} (hn : 1 ≤ n) (h : i + n ≤ nPc s) : rn4 (s.extract (cutAt s i) (cutAt s (i + n))) = catP (pcS s) i n := by
  obtain ⟨m, rfl⟩ : ∃ m, n = m + 1 := ⟨n - 1, by omega⟩
  rw [cat_rn m i (cutAt s i) (cutAt s (i + (m + 1))) (cutAt_some (by omega)) (cutAt_some h)]

theorem stretch_ok {s : ByteArray} {i k : Nat} (hik : i < k) (h : k ≤ nPc s) (hok : ok4 s = true) : ok4 (s.extract (cutAt s i) (cutAt s k)) = true ∧ cutAt s i ≤ cutAt s k ∧ cutAt s k ≤ s.size := by
  obtain ⟨h1, h2⟩ := ok4_parts hok
  have hx := cutAt_some (s := s) (k := i) (by omega)
  have hy := cutAt_some (s := s) (k := k) h
  have hp := rn4_part hik hx hy
  have hr := (cuts_reach (k - i) i (cutAt s i) (cutAt s k) hx (by rw [show i + (k - i) = k by omega]; exact hy)).2
  have hle := cuts_le hy
  have hz := size_part s (a := cutAt s i) hle
  exact ⟨decide_eq_true ⟨by omega, by omega⟩, by omega, hle⟩

theorem spansF_end {es : List Ent} {sh : Bool} {want : List Int} {pc : Nat → List Int} {N f i : Nat} (h : ¬ i < N) : spansF es sh want pc N f i = [] := by
  cases f with
  | zero => rfl
  | succ f => rw [spansF, if_neg h]

theorem spansF_some {es : List Ent} {sh : Bool} {want : List Int} {pc : Nat → List Int} {N f i k : Nat} (h : i < N) (hm : (if want = [] then none else matchF es sh want pc i (N - i) 1) = some k) : spansF es sh want pc N (f + 1) i = (i, k) :: spansF es sh want pc N f k := by
  rw [spansF, if_pos h, hm]

theorem spansF_none {es : List Ent} {sh : Bool} {want : List Int} {pc : Nat → List Int} {N f i : Nat} (h : i < N) (hm : (if want = [] then none else matchF es sh want pc i (N - i) 1) = none) : spansF es sh want pc N (f + 1) i = spansF es sh want pc N f (i + 1) := by
  rw [spansF, if_pos h, hm]
end Go.Proofs.YtddelohmppdndaaGreatDoor

namespace Go.Proofs.YtddelohmppdndaaGreatDoor
open Go.RowKit

theorem ints_headI {w : World} {B : Nat} {v : Value} {l : List Int} (h : Ints w B v l) (h1 : 1 ≤ l.length) : ∃ g c, v = .slice (some ⟨g, 0, none⟩) l.length c ∧ w.cell? ⟨g, 0, none⟩ = some (.int .i64 (at0 l 0)) := by
  rcases h.form with ⟨rfl, rfl⟩ | ⟨g, cap, rfl, _, _⟩
  · simp at h1
  · refine ⟨g, cap, rfl, ?_⟩
    have := h.cell 0 (by omega)
    unfold at0
    exact this

/-- What CutsOf answers. -/
def cutI (s : ByteArray) : List Int := if ok4 s = true then cutsL s else []

set_option maxRecDepth 100000 in
set_option maxHeartbeats 1000000 in
theorem mayCut_any (u : ByteArray) (r : Int) (w : World) (hu : u.size ≤ 200) (hd : (Dec.decT u.size u).1 = [r]) (ht : Tabs3 w) :
    Calls Tryz.prog 40 #[.string u] w fun e w' => e = .returned (.bool (cutB r)) ∧ Below w.heap.size w w' := by
  have A := apartT_any u (by omega) w ht
  have hr : rn4 u = nD [r] := by unfold rn4; rw [hd]
  have h1 := nD_one r
  have hok : ok4 u = true := decide_eq_true ⟨hu, by rw [hr]; omega⟩
  have hA : aR u = nD [r] := by unfold aR; rw [hok, if_pos rfl, hr]
  rw [hok, hA] at A
  have C := fun (x : Int) (u : World) (hb : Below w.heap.size w u) => implClass_any x u ((ht.below hb).1)
  have HCB : Hid (cutB r = (decide (cls (at0 (nD [r]) 0) = 0) && !decide (4449 ≤ at0 (nD [r]) 0 ∧ at0 (nD [r]) 0 ≤ 4546))) := rfl
  obtain ⟨x, HX⟩ : ∃ x, Hid (at0 (nD [r]) 0 = x) := ⟨_, rfl⟩
  obtain ⟨b, HB⟩ : ∃ b, Hid ((decide (cls x = 0) && !decide (4449 ≤ x ∧ x ≤ 4546)) = b) := ⟨_, rfl⟩
  rw [HCB.out, HX.out, HB.out]
  have C := C x
  generalize nD [r] = dl at *
  clear hr hok hA ht hd HCB
  have hl : (0 : Int) < (dl.length : Int) := by omega
  by_cases hc : cls x = 0
  · rw [hc] at C
    by_cases h4 : x < 4449
    · obtain rfl : b = true := by rw [← HB.out, decide_eq_true hc, decide_eq_false (fun d => by omega)]; rfl
      clear HB hc
      go_enter Tryz.func40, Tryz.ntmps40
      go_wp2_with fail
      refine A.mono ?_
      rintro e w1 ⟨v1, rfl, i1, b1⟩
      obtain ⟨g1, c1, rfl, hc0⟩ := ints_headI i1 h1.1
      rw [HX.out] at hc0
      have C1 := C w1 b1
      clear A C i1
      go_wp2_with fail
      refine C1.mono ?_
      rintro e w2 ⟨rfl, b2⟩
      have hb2 := b1.trans (b2.mono b1.size)
      clear C1 b2
      go_wp2
      go_ret
      exact ⟨rfl, hb2⟩
    · by_cases h5 : 4546 < x
      · obtain rfl : b = true := by rw [← HB.out, decide_eq_true hc, decide_eq_false (fun d => by omega)]; rfl
        clear HB hc
        go_enter Tryz.func40, Tryz.ntmps40
        go_wp2_with fail
        refine A.mono ?_
        rintro e w1 ⟨v1, rfl, i1, b1⟩
        obtain ⟨g1, c1, rfl, hc0⟩ := ints_headI i1 h1.1
        rw [HX.out] at hc0
        have C1 := C w1 b1
        clear A C i1
        go_wp2_with fail
        refine C1.mono ?_
        rintro e w2 ⟨rfl, b2⟩
        have hb2 := b1.trans (b2.mono b1.size)
        clear C1 b2
        go_wp2
        go_ret
        exact ⟨rfl, hb2⟩
      · obtain rfl : b = false := by rw [← HB.out, decide_eq_true hc, decide_eq_true (by omega)]; rfl
        clear HB hc
        go_enter Tryz.func40, Tryz.ntmps40
        go_wp2_with fail
        refine A.mono ?_
        rintro e w1 ⟨v1, rfl, i1, b1⟩
        obtain ⟨g1, c1, rfl, hc0⟩ := ints_headI i1 h1.1
        rw [HX.out] at hc0
        have C1 := C w1 b1
        clear A C i1
        go_wp2_with fail
        refine C1.mono ?_
        rintro e w2 ⟨rfl, b2⟩
        have hb2 := b1.trans (b2.mono b1.size)
        clear C1 b2
        go_wp2
        go_ret
        exact ⟨ret_b (by simp; omega), hb2⟩
  · have hc8 : (cls x == 0) = false := by simp; exact hc
    obtain rfl : b = false := by rw [← HB.out, decide_eq_false hc]; rfl
    clear HB hc
    go_enter Tryz.func40, Tryz.ntmps40
    go_wp2_with fail
    refine A.mono ?_
    rintro e w1 ⟨v1, rfl, i1, b1⟩
    obtain ⟨g1, c1, rfl, hc0⟩ := ints_headI i1 h1.1
    rw [HX.out] at hc0
    have C1 := C w1 b1
    clear A C i1
    go_wp2_with fail
    refine C1.mono ?_
    rintro e w2 ⟨rfl, b2⟩
    have hb2 := b1.trans (b2.mono b1.size)
    clear C1 b2
    go_wp2
    go_ret
    exact ⟨rfl, hb2⟩

def CutIRel (s : ByteArray) (w : World) (v i : Value) (wr : World) : Prop :=
  ∃ (a f : Nat) (acc : List Int), i = .int .i64 a ∧ Ints wr w.heap.size v acc ∧ acc ++ cutsPr s f a = [(0 : Int)] ++ cutsPr s s.size 0 ∧ s.size ≤ a + f ∧ a ≤ s.size ∧ acc.length ≤ a + 1 ∧ Below w.heap.size w wr

set_option maxRecDepth 100000 in
set_option maxHeartbeats 2000000 in
theorem implCut_any (s : ByteArray) (w : World) (hs : s.size ≤ 1048576) (ht : Tabs3 w) :
    Calls Tryz.prog 20 #[.string s] w fun e w' => ∃ v, e = .returned (.tuple #[v, .bool (ok4 s)]) ∧ Ints w' w.heap.size v (cutI s) ∧ Below w.heap.size w w' := by
  have A := apartT_any s hs w ht
  unfold cutI
  cases hok : ok4 s
  · rw [hok] at A
    rw [if_neg (by simp)]
    clear hok ht
    go_enter Tryz.func20, Tryz.ntmps20
    go_wp2_with fail
    refine A.mono ?_
    rintro e w1 ⟨v1, rfl, _, b1⟩
    clear A
    go_wp2
    go_ret2
    exact ⟨_, rfl, ⟨rfl, .inl ⟨rfl, rfl⟩⟩, b1⟩
  · rw [hok] at A
    rw [if_pos rfl]
    have hs2 : s.size ≤ 200 := (of_decide_eq_true hok).1
    have HT : Hid (Tabs3 w) := ht
    clear hok ht
    obtain ⟨i0, hi, hz0, hz1, hz2⟩ := info_parts info_int
    go_enter Tryz.func20, Tryz.ntmps20
    go_wp2_with fail
    refine A.mono ?_
    rintro e w1 ⟨v1, rfl, _, b1⟩
    clear A
    have bA : Below w.heap.size w (w1.alloc (.cells #[.int .i64 0] 3)) := b1.alloc b1.size _
    have HI1 : Hid (Ints (w1.alloc (.cells #[.int .i64 0] 3)) w.heap.size (.slice (some ⟨w1.heap.size, 0, none⟩) 1 1) [0]) := ints_block [0] rfl (heap_alloc_new w1 _) b1.size (by unfold maxLen; simp)
    have HB1 : Hid (Below _ _ _) := bA
    clear bA b1
    go_wp2_with fail
    go_loopw [6, 7] (fun v i wr => CutIRel s w v i wr) (fun _ i _ => s.size - (intOf i).toNat)
    case atStart => exact ⟨0, s.size, [0], rfl, HI1.out, rfl, by omega, by omega, by simp, HB1.out⟩
    case round =>
      clear HI1 HB1
      obtain ⟨a, f, acc, rfl, hown, hA, hf, ha, hal, hbw⟩ := hrel
      have hsz := hbw.size
      by_cases hp : a < s.size
      · have hd := dec_alone s hp
        have hex := Dec.size_extract s a
        have O := fun w => front_any (s.extract a s.size) (by omega) (by unfold maxLen; omega) w
        obtain ⟨f', rfl⟩ : ∃ f', f = f' + 1 := ⟨f - 1, by omega⟩
        have hst : cutsPr s (f' + 1) a = (if 0 < a ∧ cutB (Dec.one (s.extract a s.size)).1 = true then [(a : Int)] else []) ++ cutsPr s f' (a + (Dec.one (s.extract a s.size)).2.1) := by simp only [cutsPr]; rw [if_pos hp]
        rw [hst] at hA
        obtain ⟨d1, d2, d3⟩ := hd
        obtain ⟨r, n, ok, HO⟩ : ∃ r n ok, Hid (Dec.one (s.extract a s.size) = (r, n, ok)) := ⟨_, _, _, rfl⟩
        rw [HO.out] at O hA d1 d2 d3
        have hn1 : 1 ≤ n := d2
        have hn2 : a + n ≤ s.size := d1
        have hd3 : (Dec.decT (s.extract a (a + n)).size (s.extract a (a + n))).1 = [r] := d3
        have M := mayCut_any (s.extract a (a + n)) r wr (by rw [size_cut s hn2]; omega) hd3 (HT.out.below hbw)
        have hA2 : acc ++ ((if 0 < a ∧ cutB r = true then [(a : Int)] else []) ++ cutsPr s f' (a + n)) = [(0 : Int)] ++ cutsPr s s.size 0 := hA
        have HA : Hid _ := hA2
        clear hA hA2 hst d1 d2 d3 hd3 HO
        have HOW : Hid (Ints wr w.heap.size _ acc) := hown
        have HBW : Hid (Below _ _ _) := hbw
        clear hown hbw
        go_wp2_with fail
        refine (O _).mono ?_
        rintro e w1 ⟨rfl, rfl⟩
        clear O
        by_cases h0 : a = 0
        · have HA3 : Hid (acc ++ cutsPr s f' (a + n) = [(0 : Int)] ++ cutsPr s s.size 0) := by
            show _ = _
            have := HA.out
            rw [if_neg (fun d => by omega)] at this
            simpa using this
          clear HA M
          subst h0
          go_wp2
          exact ⟨⟨0 + n, f', acc, by go_num, HOW.out, HA3.out, by omega, by omega, by omega, HBW.out⟩, by simp [intOf]; omega⟩
        · have h08 : (0 : Int) < (a : Int) := by omega
          have h09 : decide ((0 : Int) < (a : Int)) = true := decide_eq_true h08
          have hn8 : (a : Int) + (n : Int) ≤ (s.size : Int) := by omega
          have hn9 : (a : Int) ≤ (a : Int) + (n : Int) := by omega
          cases hcb : cutB r
          · rw [hcb] at M
            have HA3 : Hid (acc ++ cutsPr s f' (a + n) = [(0 : Int)] ++ cutsPr s s.size 0) := by
              show _ = _
              have := HA.out
              rw [if_neg (fun d => by rw [hcb] at d; exact absurd d.2 (by simp))] at this
              simpa using this
            clear HA hcb
            go_wp2_with fail
            refine M.mono ?_
            rintro e w2 ⟨rfl, b2⟩
            clear M
            have HOW2 : Hid (Ints w2 w.heap.size _ acc) := HOW.out.below b2
            have HBW2 : Hid (Below w.heap.size w w2) := HBW.out.trans (b2.mono HBW.out.size)
            clear HOW HBW b2
            go_wp2
            exact ⟨⟨a + n, f', acc, by go_num, HOW2.out, HA3.out, by omega, by omega, by omega, HBW2.out⟩, by simp [intOf]; omega⟩
          · rw [hcb] at M
            have HA3 : Hid ((acc ++ [(a : Int)]) ++ cutsPr s f' (a + n) = [(0 : Int)] ++ cutsPr s s.size 0) := by
              show _ = _
              have := HA.out
              rw [if_pos ⟨by omega, hcb⟩] at this
              simpa using this
            clear HA hcb
            go_wp2_with fail
            refine M.mono ?_
            rintro e w2 ⟨rfl, b2⟩
            clear M
            have hown := HOW.out.below b2
            have HBW2 : Hid (Below w.heap.size w w2) := HBW.out.trans (b2.mono HBW.out.size)
            have hsz2 := HBW2.out.size
            unfold Ints at hown
            clear HOW HBW b2
            go_wp2_with (at_builtin; refine wpList_append_own _ rfl _ _ 39 rfl w.heap.size 3 i0 (.int .i64 0) 1 8 Tryz.underlying39 hi hz0 hz1 hz2 rfl (by decide) _ _ _ rfl (hown.alloc _) ⟨_, 0, none⟩ 1 1 [.int .i64 (a : Int)] rfl rfl (cell_one_new _ _ _) (fun x hx => by simp at hx; subst hx; rfl) (by unfold maxLen; omega) (by omega) (by simp; omega) ?_; intro v' w5 hown' hgrow5 _)
            have hb5 := Below.grown (HBW2.out.alloc (by omega) _) hgrow5 (by simp; omega) (fun j hj => (hown.lt _ hj).1)
            exact ⟨⟨a + n, f', acc ++ [(a : Int)], by go_num, Ints.snoc hown', HA3.out, by omega, by omega, by simp; omega, hb5⟩, by simp [intOf]; omega⟩
      · have hn8 : ¬ (a : Int) < (s.size : Int) := by omega
        rw [cutsPr_end s f a hp, List.append_nil] at hA
        by_cases hz : 0 < s.size
        · have hz8 : (0 : Int) < (s.size : Int) := by omega
          have HE : Hid (acc ++ [(s.size : Int)] = cutsL s) := by
            show _ = _
            rw [hA, cuts_prog s hz]
            rfl
          clear hA
          unfold Ints at hown
          go_wp2_with (at_builtin; refine wpList_append_own _ rfl _ _ 39 rfl w.heap.size 3 i0 (.int .i64 0) 1 8 Tryz.underlying39 hi hz0 hz1 hz2 rfl (by decide) _ _ _ rfl (hown.alloc _) ⟨_, 0, none⟩ 1 1 [.int .i64 (s.size : Int)] rfl rfl (cell_one_new _ _ _) (fun x hx => by simp at hx; subst hx; rfl) (by unfold maxLen; omega) (by omega) (by simp; omega) ?_; intro v' w3 hown' hgrow3 _)
          go_ret2
          have hb3 := Below.grown (hbw.alloc (by omega) _) hgrow3 (by simp; omega) (fun j hj => (hown.lt _ hj).1)
          refine ⟨_, rfl, ?_, hb3⟩
          rw [← HE.out]
          exact Ints.snoc hown'
        · have hz0' : s.size = 0 := by omega
          have HE : Hid (acc = cutsL s) := by
            show _ = _
            rw [hA, cutsPr_end s _ _ hz]
            unfold cutsL
            rw [cutsFrom_end s _ _ hz, hz0']
            rfl
          have hz8 : ¬ (0 : Int) < (s.size : Int) := by omega
          clear hA
          go_wp2
          go_ret2
          rw [← HE.out]
          exact ⟨_, rfl, hown, hbw⟩
end Go.Proofs.YtddelohmppdndaaGreatDoor

namespace Go.Proofs.YtddelohmppdndaaGreatDoor
open Go.RowKit

theorem entOf_in {es : List Ent} {l : List Int} {e : El} (h : entOf es l = some e) : ∃ x ∈ es, x.el = e := by
  unfold entOf at h
  split at h
  · obtain ⟨x, hx, rfl⟩ := Option.map_eq_some_iff.1 h
    exact ⟨x, List.mem_of_getElem? hx, rfl⟩
  · cases h

/-- The first weights of good runes lie in 1 .. 65535. -/
theorem hes_of {es : List Ent} {lv : Int} {sh : Bool} (h : rulesOk es lv = true) : ∀ run, (∀ x ∈ run, goodB x = true) → ∀ y ∈ firstsE sh (elsOf es run), 1 ≤ y ∧ y ≤ 65535 := by
  intro run hg y hy
  unfold firstsE at hy
  obtain ⟨e, he, hy⟩ := List.mem_flatMap.1 hy
  have hr : rngE e := by
    unfold elsOf at he
    split at he
    · rename_i e' hx
      obtain ⟨x, hx1, hx2⟩ := entOf_in hx
      simp only [List.mem_singleton] at he
      rw [he, ← hx2]
      exact ents_rng h x hx1
    · have hb : 0 ≤ at0 run 0 ∧ at0 run 0 ≤ 1114111 := by
        cases run with
        | nil => decide
        | cons z zs =>
          have := goodB_true (hg z (by simp))
          show 0 ≤ z ∧ z ≤ 1114111
          omega
      exact base_rng hb.1 hb.2 e he
  unfold ifNot at hy
  split at hy
  · cases hy
  · rename_i hz
    simp only [List.mem_singleton] at hy
    subst hy
    have h1 := hr.1
    unfold fw at hz ⊢
    split
    · rename_i c
      rw [if_pos c] at hz
      exact absurd rfl hz
    · rename_i c
      rw [if_neg c] at hz
      omega

theorem piece_ne {s : ByteArray} {b c : Nat} (hbc : b < c) (hcs : c ≤ s.size) (hw : b + wid s b ≤ c) : rn4 (s.extract b c) ≠ [] := by
  have hd := decL_step s hbc hcs hw
  have hr : rn4 (s.extract b c) = nD (decL (s.extract b c)) := rfl
  rw [hr, hd]
  intro e
  have hl := len_apD (rnAt s b :: decL (s.extract (b + wid s b) c))
  have hl2 := congrArg List.length e
  rw [nD_len] at hl2
  simp at hl hl2
  rw [hl2] at hl
  simp at hl

theorem pcS_at {s : ByteArray} {k : Nat} (h : k < nPc s) : pcS s k = rn4 (s.extract (cutAt s k) (cutAt s (k + 1))) := by
  unfold pcS
  rw [if_pos (by have := cuts_len s; omega)]

theorem pcS_ne {s : ByteArray} {k : Nat} (h : k < nPc s) : pcS s k ≠ [] ∧ cutAt s k < cutAt s (k + 1) := by
  rw [pcS_at h]
  obtain ⟨q1, q2, q3, _⟩ := cuts_at (cutAt_some (s := s) (k := k) (by omega)) (cutAt_some (s := s) (k := k + 1) (by omega))
  exact ⟨piece_ne q2 q3 (q1.wid q2), q2⟩

theorem pcS_good (s : ByteArray) : ∀ i, ∀ x ∈ pcS s i, goodB x = true := by
  intro i x hx
  unfold pcS at hx
  split at hx
  · exact rn4_good _ x hx
  · simp only [List.mem_singleton] at hx
    subst hx
    decide

/-- The pieces up to k, in memory. -/
def PcRel (W : World) (s : ByteArray) (v5 v6 : Value) (wr : World) : Prop :=
  ∃ (k : Nat) (vs : List Value), k ≤ nPc s ∧ v6 = .int .i64 ((k + 1 : Nat) : Int) ∧ wr.ownsRow W.heap.size 39 1 v5 k vs ∧
    (∀ i, i < k → ∃ gx cx, vs[i]? = some (.slice (some ⟨gx, 0, none⟩) (pcS s i).length cx) ∧ Ints wr W.heap.size (.slice (some ⟨gx, 0, none⟩) (pcS s i).length cx) (pcS s i)) ∧ Below W.heap.size W wr

theorem cells1_p (w : World) (n : Nat) (x : Value) (ty : TypeId) (hn : n = w.heap.size) : ∀ j u, [x][j]? = some u → (w.alloc (.cells #[x] ty)).cell? ((⟨n, 0, none⟩ : Addr).add j) = some u := by
  subst hn
  intro j u hj
  match j, hj with
  | 0, hj => simp at hj; subst hj; simp [Addr.add]
  | j + 1, hj => simp at hj

theorem ints_addr {w : World} {B : Nat} {v : Value} {l : List Int} (h : Ints w B v l) (hne : l ≠ []) : ∃ g c, v = .slice (some ⟨g, 0, none⟩) l.length c := by
  rcases h.form with ⟨_, h0⟩ | ⟨g, c, hv, _⟩
  · exact absurd h0 hne
  · exact ⟨g, c, hv⟩

/-- The pieces in memory, all their blocks from B on. -/
def PcsB (w : World) (B : Nat) (v : Value) (pc : Nat → List Int) (n : Nat) : Prop :=
  ∃ a c, v = .slice a n c ∧ ∀ i, i < n → ∃ g gx fx cx, a = some ⟨g, 0, none⟩ ∧ g < w.heap.size ∧ w.cell? ⟨g, i, none⟩ = some (.slice (some ⟨gx, fx, none⟩) (pc i).length cx) ∧ gx < w.heap.size ∧ (∀ j y, (pc i)[j]? = some y → w.cell? ⟨gx, fx + j, none⟩ = some (.int .i64 y)) ∧ B ≤ g ∧ B ≤ gx

theorem PcsB.pcs {w : World} {B : Nat} {v : Value} {pc : Nat → List Int} {n : Nat} (h : PcsB w B v pc n) : Pcs w v pc n := by
  obtain ⟨a, c, h1, h2⟩ := h
  refine ⟨a, c, h1, fun i hi => ?_⟩
  obtain ⟨g, gx, fx, cx, q1, q2, q3, q4, q5, _⟩ := h2 i hi
  exact ⟨g, gx, fx, cx, q1, q2, q3, q4, q5⟩

theorem PcsB.kept {w w' : World} {B : Nat} {v : Value} {pc : Nat → List Int} {n : Nat} (h : PcsB w B v pc n) (hs : w.heap.size ≤ w'.heap.size) (hb : ∀ k, B ≤ k → k < w.heap.size → w'.heap[k]? = w.heap[k]?) : PcsB w' B v pc n := by
  obtain ⟨a, c, h1, h2⟩ := h
  refine ⟨a, c, h1, fun i hi => ?_⟩
  obtain ⟨g, gx, fx, cx, q1, q2, q3, q4, q5, q6, q7⟩ := h2 i hi
  exact ⟨g, gx, fx, cx, q1, Nat.lt_of_lt_of_le q2 hs, (World.cell?_of_block (a := ⟨g, i, none⟩) (hb g q6 q2)).trans q3, Nat.lt_of_lt_of_le q4 hs, fun j y hy => (World.cell?_of_block (a := ⟨gx, fx + j, none⟩) (hb gx q7 q4)).trans (q5 j y hy), q6, q7⟩

theorem pcs_of {W wr : World} {s : ByteArray} {v5 : Value} {vs : List Value} (h : wr.ownsRow W.heap.size 39 1 v5 (nPc s) vs) (hi : ∀ i, i < nPc s → ∃ gx cx, vs[i]? = some (.slice (some ⟨gx, 0, none⟩) (pcS s i).length cx) ∧ Ints wr W.heap.size (.slice (some ⟨gx, 0, none⟩) (pcS s i).length cx) (pcS s i)) : PcsB wr W.heap.size v5 (pcS s) (nPc s) := by
  rcases h.2 with ⟨rfl, h0⟩ | ⟨g, cap, cur, rfl, hg, hh, hr⟩
  · exact ⟨none, 0, by rw [h0], fun i hi' => by omega⟩
  · refine ⟨some ⟨g, 0, none⟩, cap, rfl, fun i hi' => ?_⟩
    obtain ⟨gx, cx, h1, h2⟩ := hi i hi'
    refine ⟨g, gx, 0, cx, rfl, (Array.getElem?_eq_some_iff.1 hh).1, ?_, (World.ownsRow.lt h2 gx rfl).2, fun j y hy => ?_, hg, (World.ownsRow.lt h2 gx rfl).1⟩
    · have := World.ownsRow.cellAt (g := g) h i (by omega)
      rw [this, h1]
    · have hj := (List.getElem?_eq_some_iff.1 hy).1
      rw [Nat.zero_add, h2.cell j hj, hy]
      rfl

set_option maxRecDepth 100000 in
set_option maxHeartbeats 4000000 in
theorem pieces_any {w : World} {B : Nat} {vc : Value} {s : ByteArray} (hs : ok4 s = true) (hC : Ints w B vc (cutsL s)) (ht : Tabs3 w) :
    Calls Tryz.prog 22 #[.string s, vc] w fun e w' => ∃ v, e = .returned v ∧ PcsB w' w.heap.size v (pcS s) (nPc s) ∧ Below w.heap.size w w' := by
  have hsz : s.size ≤ 200 := (of_decide_eq_true hs).1
  have hnp := nPc_le (s := s)
  have hcl := cutsL_len s
  obtain ⟨ca, cc, rfl⟩ := ints_form hC
  obtain ⟨ii, hii, hiz, hi1, hi2⟩ := info_parts info_ints
  have HC : Hid (Ints w B (.slice ca (cutsL s).length cc) (cutsL s)) := hC
  rw [hcl] at HC ⊢
  have HCL : Hid _ := hcl
  have HT : Hid (Tabs3 w) := ht
  clear hC ht hcl
  go_enter Tryz.func22, Tryz.ntmps22
  go_wp2
  go_loopw [5, 6] (fun v5 v6 wr => PcRel w s v5 v6 wr) (fun _ i _ => nPc s + 1 - (intOf i).toNat)
  case atStart => exact ⟨0, [], Nat.zero_le _, rfl, World.ownsRow_nil _ _ _ _, (fun i hi => by omega), Below.refl _ _⟩
  case round =>
    obtain ⟨k, vs, hk, rfl, hV, hI, hb⟩ := hrel
    by_cases hlt : k < nPc s
    · have hk8 : ((k + 1 : Nat) : Int) < ((nPc s + 1 : Nat) : Int) := by omega
      have HV : Hid (World.ownsRow _ _ _ _ _ _ _) := hV
      have HI : Hid _ := hI
      have HB : Hid (Below _ _ _) := hb
      clear hV hI hb
      obtain ⟨gc, rfl⟩ : ∃ gc, ca = some ⟨gc, 0, none⟩ := by
        rcases HC.out.form with ⟨h, _⟩ | ⟨g, c, h, _⟩
        · cases h
        · exact ⟨g, (Value.slice.inj h).1⟩
      have hCw : Ints wr B (.slice (some ⟨gc, 0, none⟩) (cutsL s).length cc) (cutsL s) := by rw [HCL.out]; exact HC.out.below HB.out
      have c0 := hCw.cell k (by rw [HCL.out]; omega)
      have c1 := hCw.cell (k + 1) (by rw [HCL.out]; omega)
      rw [cutsL_some (by omega)] at c0 c1
      simp only [Option.getD_some] at c0 c1
      have hgl : gc < wr.heap.size := (World.ownsRow.lt hCw gc rfl).2
      obtain ⟨o1, o2, o3⟩ := stretch_ok (s := s) (i := k) (k := k + 1) (by omega) (by omega) hs
      obtain ⟨pn, pl⟩ := pcS_ne hlt
      have hat := pcS_at hlt
      have haR : aR (s.extract (cutAt s k) (cutAt s (k + 1))) = pcS s k := by rw [hat]; unfold aR; rw [if_pos o1]
      have hpl : (pcS s k).length ≤ 200 := by rw [← haR]; exact aR_len _
      have hss : (s.extract (cutAt s k) (cutAt s (k + 1))).size ≤ 1048576 := by rw [size_part s o3]; omega
      have AP := fun (u : World) (hu : Below wr.heap.size wr u) => apartT_any (s.extract (cutAt s k) (cutAt s (k + 1))) hss u ((HT.out.below HB.out).below hu)
      rw [haR, o1] at AP
      generalize cutAt s k = p at *
      generalize cutAt s (k + 1) = q at *
      have hp8 : (p : Int) ≤ (q : Int) := by omega
      have hq8 : (q : Int) ≤ (s.size : Int) := by omega
      have hj1 : ((k + 1 : Nat) : Int) - 1 = (k : Int) := by omega
      have hj2 : (((k + 1 : Nat) : Int) - 1).toNat = k := by omega
      have hwk : IntKind.i64.wrap (k : Int) = (k : Int) := by rw [IntKind.wrap_i64]; omega
      have hki : (k : Int) < (nPc s : Int) + 1 := by omega
      have hki2 : (k : Int) + 1 < (nPc s : Int) + 1 := by omega
      have htn : ((k : Int) + 1).toNat = k + 1 := by omega
      have hk0 : 0 ≤ (k : Int) + 1 := by omega
      have HPN : Hid (pcS s k ≠ []) := pn
      clear hCw hat haR o1 pn hss
      go_wp2_with fail
      go_region_law (go_simp; go_at_call 38; refine (AP _ (by repeat (first | with_reducible exact Below.refl _ _ | with_reducible refine Below.drew ?_))).mono ?_; rintro e w6 ⟨v6, rfl, i6, b6⟩)
      all_goals
        obtain ⟨gx, cx, rfl⟩ := ints_addr i6 HPN.out
        have b6' : Below wr.heap.size wr w6 := (by first | exact b6 | exact ((Below.refl _ _).drew).trans b6)
        have V6 : w6.ownsRow w.heap.size 39 1 u5 k vs := World.ownsRow.kept HV.out (row := none) ⟨b6'.os, b6'.tape, b6'.output, b6'.size, fun k hk _ => b6'.block k hk⟩ (by cases h : u5.ownBlock <;> simp)
        have I6 : Ints w6 w.heap.size (.slice (some ⟨gx, 0, none⟩) (pcS s k).length cx) (pcS s k) := low_ints i6 (by have := HB.out.size; simpa using this)
        have HI6 : Hid (∀ i, i < k + 1 → ∃ gx' cx', (vs ++ [.slice (some ⟨gx, 0, none⟩) (pcS s k).length cx])[i]? = some (.slice (some ⟨gx', 0, none⟩) (pcS s i).length cx') ∧ Ints w6 w.heap.size (.slice (some ⟨gx', 0, none⟩) (pcS s i).length cx') (pcS s i)) := by
          intro i hi
          have hvl : vs.length = k := by simpa using HV.out.1
          by_cases e : i = k
          · subst e
            exact ⟨gx, cx, by rw [List.getElem?_append_right (by omega), hvl]; simp, I6⟩
          · obtain ⟨g', c', h1, h2⟩ := HI.out i (by omega)
            exact ⟨g', c', by rw [List.getElem?_append_left (by omega)]; exact h1, h2.below b6'⟩
        have HB6 : Hid (Below w.heap.size w w6) := HB.out.trans (b6'.mono HB.out.size)
        have hs6 := HB6.out.size
        clear AP i6 b6 b6' I6 HV HI HB c0 c1 hgl
        go_wp2_with (at_builtin; refine wpList_append_own _ rfl _ _ 50 rfl w.heap.size 39 ii (.slice none 0 0) 1 24 Tryz.underlying50 hii hiz hi1 hi2 rfl (by decide) _ _ _ rfl (V6.alloc _) ⟨w6.heap.size, 0, none⟩ 1 1 [.slice (some ⟨gx, 0, none⟩) (pcS s k).length cx] rfl rfl (cells1_p _ _ _ _ (by simp)) (fun u hu => by simp at hu; subst hu; rfl) (by unfold maxLen; omega) (by omega) (by simp; omega) ?_)
        intro v7 w7 ho7 hg7 _
        have hal := (Below.refl w6.heap.size w6).alloc (Nat.le_refl _) (.cells #[.slice (some ⟨gx, 0, none⟩) (pcS s k).length cx] 39)
        have HI7 : Hid (∀ i, i < k + 1 → ∃ gx' cx', (vs ++ [.slice (some ⟨gx, 0, none⟩) (pcS s k).length cx])[i]? = some (.slice (some ⟨gx', 0, none⟩) (pcS s i).length cx') ∧ Ints w7 w.heap.size (.slice (some ⟨gx', 0, none⟩) (pcS s i).length cx') (pcS s i)) := by
          intro i hi
          obtain ⟨g', c', h1, h2⟩ := HI6.out i hi
          exact ⟨g', c', h1, World.ownsRow.kept (h2.below hal) hg7 (own_type (h2.below hal) (V6.alloc _) (by decide))⟩
        have HO7 : Hid (World.ownsRow _ _ _ _ _ _ _) := ho7
        have HB7 : Hid (Below w.heap.size w w7) := Below.grown (HB6.out.alloc HB6.out.size _) hg7 (by simp; omega) (fun j hj => (World.ownsRow.lt V6 j hj).1)
        clear ho7 hg7 V6 HI6 HB6 hal
        go_wp2
        exact ⟨⟨k + 1, _, hlt, by go_num, HO7.out, HI7.out, HB7.out⟩, by simp [intOf]; omega⟩
    · have hkz : k = nPc s := by omega
      subst hkz
      have HP : Hid _ := pcs_of hV hI
      clear hV hI HC
      go_wp2
      go_ret
      exact ⟨_, rfl, HP.out, hb⟩
end Go.Proofs.YtddelohmppdndaaGreatDoor
