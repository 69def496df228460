/- Texts of mine laid together: DrawF, WFound, IsRow, CameOf. -/
import Derived.Test.YtinjldagfhbioaaGreatDoorMD14
import Derived.Test.YtinjldagfhbioaaGreatDoorMD8
import Derived.Test.YtinjldagfhbioaaGreatDoorMD12
import Derived.Test.YtinjldagfhbioaaGreatDoorMD11
import Derived.Test.YtinjldagfhbioaaGreatDoorProg
import Derived.WalkKit
import Derived.ProofKit
import Derived.OpenShut
namespace Go.Proofs.YtinjldagfhbioaaGreatDoor
open Go.RowKit

/-- What the draw of rules, a text and a short one gives. -/
def DrewF (w : World) (e : Ending) (w' : World) : Prop :=
  ∃ v es sh lv x y, e = .returned (.tuple #[.agg #[v, .bool sh, .int .i64 lv], .string x, .string y]) ∧ Ents w' w.heap.size v es ∧ (∀ e ∈ es, e.runes.length ≤ 1048576) ∧ x.size ≤ 1048576 ∧ y.size ≤ 60 ∧ Below w.heap.size w w'

def FdRel (w : World) (b g2 g3 B2 : Nat) (v : Value) (es : List Ent) (sh : Bool) (lv : Int) (K : Nat) (sv i : Value) (wr : World) : Prop :=
  ∃ (j k : Nat) (s : ByteArray), i = .int .i64 (j : Int) ∧ j ≤ 3 ∧ sv = .string s ∧ s.size + 16 * j ≤ 48 ∧ k + 20 * j ≤ K ∧ DcS w wr b k g2 g3 B2 v es sh lv

def FeRel (w : World) (b g2 g3 B2 : Nat) (v : Value) (es : List Ent) (sh : Bool) (lv : Int) (K : Nat) (sv i : Value) (wr : World) : Prop :=
  ∃ (j k : Nat) (s : ByteArray), i = .int .i64 (j : Int) ∧ j ≤ 62 ∧ sv = .string s ∧ s.size = j ∧ k ≤ K + 2 * j ∧ DcS w wr b k g2 g3 B2 v es sh lv

theorem enc_two8 {zs : List Int} (h : zs.length ≤ 2) : (⟨(encAll zs).toArray⟩ : ByteArray).size ≤ 8 := by
  show (encAll zs).toArray.size ≤ 8
  have := enc_sz zs
  simp
  omega

set_option maxRecDepth 100000 in
set_option maxHeartbeats 4000000 in
theorem drawFind_any (w : World) (a : Option Addr) (n cap : Nat) (hn : n ≤ 1048576) (h : Came w a n) :
    Calls Tryz.prog 4 #[.slice a n cap] w fun e w' => DrewF w e w' := by
  have hbs : (w.alloc (.cells #[.slice none 0 0, .bool false, .int .i64 0] 25)).heap.size = w.heap.size + 1 := by simp
  have hC0 := cur_new (w.alloc (.cells #[.slice none 0 0, .bool false, .int .i64 0] 25)) a n cap hn (h.below ((Below.refl _ _).alloc (Nat.le_refl _) _))
  rw [hbs] at hC0
  have R := rules_any _ _ _ 0 hC0 (by omega)
  clear h hC0
  go_enter Tryz.func4, Tryz.ntmps4
  go_wp2_with fail
  refine R.mono ?_
  rintro e w2 ⟨v1, es, sh, lv, rfl, e2, hbd, ⟨⟨k2, hk2, hC2⟩, hg2⟩⟩
  obtain ⟨va, vc, rfl⟩ := ents_slice e2
  have hDS := dc_start (sh := sh) (lv := lv) hbs.symm hC2 hg2 e2
  have HBD : Hid (∀ e ∈ es, e.runes.length ≤ 1048576) := fun e he => Nat.le_trans (hbd e he) (by decide)
  have W3 := runes_any _ _ _ _ 2 hDS.cur (by omega) (by omega)
  have HS : Hid (DcS w (w2.alloc (.cells #[.slice va es.length vc, .bool sh, .int .i64 lv] 25)) (w.heap.size + 1) k2 w.heap.size w2.heap.size (w.heap.size + 1 + 1) (.slice va es.length vc) es sh lv) := hDS
  clear R e2 hg2 hC2 hbd hbs hDS
  go_wp2_with fail
  refine W3.mono ?_
  rintro e w3 ⟨v3, zs, rfl, i3, hzl, hgd, hM⟩
  obtain ⟨k3, hk3, S3⟩ := HS.out.moved hM
  have E3 := l1Encode_any (by omega) i3 hgd
  have hT := enc_two8 hzl
  have HS3 : Hid (DcS _ _ _ _ _ _ _ _ _ _ _) := S3
  generalize (⟨(encAll zs).toArray⟩ : ByteArray) = t at *
  clear W3 hM HS S3 i3 hgd
  go_wp2_with fail
  refine E3.mono ?_
  rintro e w4 ⟨rfl, b4⟩
  have P := pick_any _ _ _ _ (HS3.out.below b4).cur (by omega) 4 (by omega) (by omega)
  have HS4 : Hid (DcS _ _ _ _ _ _ _ _ _ _ _) := HS3.out.below b4
  clear E3 b4 HS3
  go_wp2_with fail
  refine P.mono ?_
  rintro e w5 ⟨x0, rfl, hx0, hx1, hM⟩
  obtain ⟨j0, rfl⟩ := Int.eq_ofNat_of_zero_le hx0
  obtain ⟨k5, hk5, S5⟩ := HS4.out.moved hM
  have HS5 : Hid (DcS _ _ _ _ _ _ _ _ _ _ _) := S5
  have hj0 : j0 ≤ 3 := by omega
  clear P hM S5 HS4 hx0 hx1
  go_wp2_with fail
  go_loopw [8, 9] (fun sv i wr => FdRel w (w.heap.size + 1) w.heap.size w2.heap.size (w.heap.size + 1 + 1) (.slice va es.length vc) es sh lv 400 sv i wr) (fun _ i _ => (intOf i).toNat)
  case atStart => exact ⟨j0, k5, ⟨#[]⟩, rfl, hj0, rfl, by show 0 + 16 * j0 ≤ 48; omega, by omega, HS5.out⟩
  case round =>
    clear HS5 hk5 hk3 hk2 hj0
    obtain ⟨j, k, s, rfl, hj, rfl, hs, hk, hS⟩ := hrel
    have HSr : Hid (DcS _ _ _ _ _ _ _ _ _ _ _) := hS
    by_cases hj0 : 0 < j
    · have hj8 : (0 : Int) < (j : Int) := by omega
      have W6 := runes_any _ _ _ _ 2 hS.cur (by omega) (by omega)
      clear hS
      go_wp2_with fail
      refine W6.mono ?_
      rintro e w6 ⟨v6, ys, rfl, i6, hyl, hyd, hM⟩
      obtain ⟨k6, hk6, S6⟩ := HSr.out.moved hM
      have E6 := l1Encode_any (by omega) i6 hyd
      have hU := enc_two8 hyl
      have HS6 : Hid (DcS _ _ _ _ _ _ _ _ _ _ _) := S6
      generalize (⟨(encAll ys).toArray⟩ : ByteArray) = u at *
      clear W6 hM HSr S6 i6 hyd
      go_wp2_with fail
      refine E6.mono ?_
      rintro e w7 ⟨rfl, b7⟩
      have O := of_any w7 _ _ _ (HS6.out.below b7).cur (by omega) [⟨#[]⟩, t] 2 rfl (by omega) (by omega) _ rfl
      have HS7 : Hid (DcS _ _ _ _ _ _ _ _ _ _ _) := HS6.out.below b7
      clear E6 b7 HS6
      go_wp2_with fail
      refine O.mono ?_
      rintro e w8 ⟨y, rfl, hy, hM⟩
      obtain ⟨k8, hk8, S8⟩ := HS7.out.moved hM
      have HS8 : Hid (DcS _ _ _ _ _ _ _ _ _ _ _) := S8
      have hyz : y.size ≤ 8 := by
        simp at hy
        rcases hy with rfl | rfl
        · show 0 ≤ 8; omega
        · exact hT
      have hz : (s ++ (u ++ y)).size = s.size + (u.size + y.size) := by rw [ByteArray.size_append, ByteArray.size_append]
      have HZ : Hid ((s ++ (u ++ y)).size = s.size + (u.size + y.size)) := hz
      clear O hM S8 HS7 hy hz
      go_wp2
      exact ⟨⟨j - 1, k8, _, by go_num, by omega, rfl, by rw [HZ.out]; omega, by omega, HS8.out⟩, by simp [intOf]; omega⟩
    · obtain rfl : j = 0 := by omega
      clear hj0
      have O := oneIn_any _ _ _ _ hS.cur (by omega) 30 (by omega) (by omega)
      clear hS
      go_wp2_with fail
      refine O.mono ?_
      rintro e w6 ⟨yes, rfl, hM⟩
      obtain ⟨k6, hk6, S6⟩ := HSr.out.moved hM
      have HS6 : Hid (DcS _ _ _ _ _ _ _ _ _ _ _) := S6
      clear O hM S6 HSr
      cases yes
      · have SF := HS6.out
        clear HS6
        obtain ⟨p0, p1, p2⟩ := SF.c3
        obtain ⟨r0, r1, r2⟩ := SF.c2
        have f2 := SF.f2
        have hgl := SF.lt
        obtain ⟨d1, d2⟩ := SF.done
        have HD1 : Hid (Ents _ _ _ _) := d1
        have HD2 : Hid (Below _ _ _) := d2
        clear SF d1 d2
        go_wp2
        refine bodyPost_ret (v := .tuple #[.agg #[.slice va es.length vc, .bool sh, .int .i64 lv], .string s, .string t]) ?_ rfl ⟨_, es, sh, lv, s, t, rfl, HD1.out, HBD.out, by omega, by omega, HD2.out⟩
        rw [results_cell_tmp2 rfl]
        go_simp
      · go_wp2_with fail
        go_loopw [8, 10] (fun sv i wr => FeRel w (w.heap.size + 1) w.heap.size w2.heap.size (w.heap.size + 1 + 1) (.slice va es.length vc) es sh lv k6 sv i wr) (fun _ i _ => 62 - (intOf i).toNat)
        case atStart => exact ⟨0, k6, ⟨#[]⟩, rfl, by omega, rfl, rfl, by omega, HS6.out⟩
        case round =>
          clear HS6 hs
          obtain ⟨m, k7, s7, rfl, hm, rfl, hs7, hk7, hS7⟩ := hrel
          have P7 := pick_any _ _ _ _ hS7.cur (by omega) 4 (by omega) (by omega)
          have HS7 : Hid (DcS _ _ _ _ _ _ _ _ _ _ _) := hS7
          have HZ7 : Hid (s7.size = m) := hs7
          have hz7 : s7.size ≤ 62 := by omega
          clear hS7 hs7
          go_wp2_with fail
          refine P7.mono ?_
          rintro e w8 ⟨r, rfl, hr0, hr1, hM⟩
          obtain ⟨y, rfl⟩ := Int.eq_ofNat_of_zero_le hr0
          obtain ⟨k8, hk8, S8⟩ := HS7.out.moved hM
          have HS8 : Hid (DcS _ _ _ _ _ _ _ _ _ _ _) := S8
          have hy4 : y ≤ 3 := by omega
          clear P7 hM S8 HS7 hr0 hr1
          by_cases hmy : m < 59 + y
          · have hm8 : (m : Int) < 59 + (y : Int) := by omega
            have hz : (s7 ++ (⟨#[97]⟩ : ByteArray)).size = m + 1 := by rw [ByteArray.size_append, HZ7.out]; rfl
            have HZ : Hid ((s7 ++ (⟨#[97]⟩ : ByteArray)).size = m + 1) := hz
            clear hz
            go_wp2
            exact ⟨⟨m + 1, k8, _, by go_num, by omega, rfl, HZ.out, by omega, HS8.out⟩, by simp [intOf]; omega⟩
          · have hm8 : ¬ (m : Int) < 59 + (y : Int) := by omega
            have SF := HS8.out
            clear HS8
            obtain ⟨p0, p1, p2⟩ := SF.c3
            obtain ⟨r0, r1, r2⟩ := SF.c2
            have f2 := SF.f2
            have hgl := SF.lt
            obtain ⟨d1, d2⟩ := SF.done
            have HD1 : Hid (Ents _ _ _ _) := d1
            have HD2 : Hid (Below _ _ _) := d2
            clear SF d1 d2
            go_wp2
            refine bodyPost_ret (v := .tuple #[.agg #[.slice va es.length vc, .bool sh, .int .i64 lv], .string s7, .string ⟨#[97]⟩]) ?_ rfl ⟨_, es, sh, lv, s7, ⟨#[97]⟩, rfl, HD1.out, HBD.out, by omega, by decide, HD2.out⟩
            rw [results_cell_tmp2 rfl]
            go_simp
end Go.Proofs.YtinjldagfhbioaaGreatDoor

namespace Go.Proofs.YtinjldagfhbioaaGreatDoor
open Go.RowKit

/-- Where the law is behind k of the spans: the end of the one ahead. -/
def FnRel (W : World) (L : List (Int × Int)) (at_ i : Value) (wr : World) : Prop :=
  ∃ (k : Nat) (e : Int), i = .int .i64 (k : Int) ∧ k ≤ L.length ∧ at_ = .int .i64 e ∧ (∀ p, L[k]? = some p → e ≤ p.1) ∧ Below W.heap.size W wr

set_option maxRecDepth 100000 in
set_option maxHeartbeats 4000000 in
theorem found_walk (w : World) (a0 : Option Addr) (len0 cap0 : Nat) (ht : Tabs3 w) (_ : len0 ≤ 9223372036854775807)
    (D : len0 ≤ 1048576 → Calls Tryz.prog 4 #[.slice a0 len0 cap0] w fun e w' => DrewF w e w') :
    Calls Tryz.prog 3 #[.slice a0 len0 cap0] w fun e w' => e = .returned (.bool true) ∧ Below w.heap.size w w' := by
  by_cases h1 : 1048576 < len0
  · have h18 : (1048576 : Int) < (len0 : Int) := by omega
    clear D
    go_enter Tryz.func3, Tryz.ntmps3
    go_wp2
    go_ret
    exact ⟨rfl, Below.refl _ _⟩
  have h18 : ¬ (1048576 : Int) < (len0 : Int) := by omega
  have D1 := D (by omega)
  have HT : Hid (Tabs3 w) := ht
  clear D ht
  go_enter Tryz.func3, Tryz.ntmps3
  go_wp2_with fail
  refine D1.mono ?_
  rintro e w1 ⟨v1, es, sh, lv, s, t, rfl, e1, hr, hs, ht60, b1⟩
  obtain ⟨va, vc, rfl⟩ := ents_slice e1
  have b12 := (Below.refl w1.heap.size w1).alloc (Nat.le_refl _) (.cells #[.slice va es.length vc, .bool sh, .int .i64 lv] 25)
  have hbox : BoxU (w1.alloc (.cells #[.slice va es.length vc, .bool sh, .int .i64 lv] 25)) w1.heap.size (.slice va es.length vc) sh lv := heap_alloc_new w1 _
  obtain ⟨W, HW⟩ : ∃ W, Hid (W = w1.alloc (.cells #[.slice va es.length vc, .bool sh, .int .i64 lv] 25)) := ⟨_, rfl⟩
  rw [← HW.out] at b12 hbox
  have HE : Hid (Ents W w.heap.size (.slice va es.length vc) es) := e1.below b12
  have HB2 : Hid (Below w.heap.size w W) := b1.trans (b12.mono b1.size)
  have HTW : Hid (Tabs3 W) := HT.out.below HB2.out
  have htz : t.size ≤ 1048576 := by omega
  have HRR : Hid (∀ e ∈ es, e.runes.length ≤ 1048576) := hr
  have HF : Hid (∀ (u : World) (x : ByteArray), x.size ≤ 1048576 → Below W.heap.size W u → Calls Tryz.prog 5 #[.agg #[.slice va es.length vc, .bool sh, .int .i64 lv], .string x, .string t] u fun e w' => ∃ v', e = .returned (.tuple #[v', .bool (okF es sh lv x t)]) ∧ Spans w' u.heap.size v' (findA es sh lv x t) ∧ Below u.heap.size u w') := fun u x hx hu => implFind_any (sh := sh) (lv := lv) x t hx htz (HE.out.below hu) HRR.out (HTW.out.below hu)
  have HSF : Hid (∀ (u : World), Below W.heap.size W u → Calls Tryz.prog 6 #[.agg #[.slice va es.length vc, .bool sh, .int .i64 lv], .string s, .string t] u fun e w' => ∃ v', e = .returned (.tuple #[v', .bool (okF es sh lv s t)]) ∧ Spans w' u.heap.size v' (findA es sh lv s t) ∧ Below u.heap.size u w') := fun u hu => specFind_any (sh := sh) (lv := lv) s hs t htz (HE.out.below hu) HRR.out
  have I1 := HF.out W s hs (Below.refl _ _)
  have HBX : Hid (BoxU W w1.heap.size (.slice va es.length vc) sh lv) := hbox
  obtain ⟨hpl, p0, p1, p2⟩ := hbox.facts
  clear D1 e1 b1 b12 hbox HT hr
  go_wp2_with fail
  rw [← HW.out]
  clear HW
  refine I1.mono ?_
  rintro e w2 ⟨v2, rfl, s2, b2⟩
  have S1 := HSF.out w2 b2
  have HB22 : Hid (Below W.heap.size W w2) := b2
  have HX2 : Hid (BoxU w2 w1.heap.size (.slice va es.length vc) sh lv) := HBX.out.below b2
  have HP2 : Hid (Spans w2 W.heap.size v2 (findA es sh lv s t)) := s2
  obtain ⟨hql, q0, q1, q2⟩ := HX2.out.facts
  clear I1 s2 b2 p0 p1 p2 hpl HSF
  go_wp2_with fail
  refine S1.mono ?_
  rintro e w3 ⟨v3, rfl, s3, b3⟩
  have HB3 : Hid (Below W.heap.size W w3) := HB22.out.trans (b3.mono HB22.out.size)
  have HX3 : Hid (BoxU w3 w1.heap.size (.slice va es.length vc) sh lv) := HX2.out.below b3
  have hP3 : Spans w3 W.heap.size v2 (findA es sh lv s t) := HP2.out.below b3
  clear S1 b3 q0 q1 q2 hql HX2 HP2 HB22
  cases hok : okF es sh lv s t
  · have hfa : findA es sh lv s t = [] := by unfold findA; rw [hok]; rfl
    rw [hfa] at hP3 s3
    obtain ⟨a2, c2, hv2⟩ := spans_form hP3
    obtain ⟨a3, c3, hv3⟩ := spans_form s3
    subst hv2
    subst hv3
    have HB9 : Hid (Below w.heap.size w w3) := HB2.out.trans (HB3.out.mono HB2.out.size)
    clear hP3 s3 hfa hok
    go_wp2
    go_ret
    exact ⟨rfl, HB9.out⟩
  · have hfa : findA es sh lv s t = findL es sh s t := by unfold findA; rw [if_pos hok]
    rw [hfa] at hP3 s3
    obtain ⟨ho1, ho2, hl60⟩ : okE es lv s = true ∧ okE es lv t = true ∧ (findL es sh s t).length ≤ 60 := by
      unfold okF at hok
      rw [Bool.and_eq_true, Bool.and_eq_true] at hok
      exact ⟨hok.1.1, hok.1.2, of_decide_eq_true hok.2⟩
    have HAT : Hid (∀ (j : Nat) (p : Int × Int), (findL es sh s t)[j]? = some p → SpAt es sh s t p ∧ ∀ q, 0 < j → (findL es sh s t)[j - 1]? = some q → q.2 ≤ p.1) := fun j p h => found_at h
    have HMS : Hid (∀ (u : World) (p : Int × Int), SpAt es sh s t p → Below W.heap.size W u → Calls Tryz.prog 7 #[.agg #[.slice va es.length vc, .bool sh, .int .i64 lv], .string s, .agg #[.int .i64 p.1, .int .i64 p.2], .string t] u fun e w' => e = .returned (.tuple #[.bool true, .bool true]) ∧ Below u.heap.size u w') := fun u p hp hu => match_any s t hs htz (HE.out.below hu) HRR.out (HTW.out.below hu) ho1 ho2 hp
    have HOK : Hid (okF es sh lv t t = true ∧ findA es sh lv t t = findL es sh t t) := by
      have h60 : (findL es sh t t).length ≤ 60 := Nat.le_trans (find_len es sh t t) ht60
      have e : okF es sh lv t t = true := by unfold okF; rw [ho2, decide_eq_true h60]; rfl
      exact ⟨e, by unfold findA; rw [if_pos e]⟩
    have HFI : Hid (∀ u : World, Below W.heap.size W u → Calls Tryz.prog 8 #[.agg #[.slice va es.length vc, .bool sh, .int .i64 lv], .string t] u fun e w' => ∃ v, e = .returned (.tuple #[v, .bool true]) ∧ Ints w' u.heap.size v (wantT es sh t) ∧ Below u.heap.size u w') := fun u hu => by
      have r := implFirsts_any (sh := sh) (lv := lv) t htz (HE.out.below hu) HRR.out (HTW.out.below hu)
      rw [ho2, show firsT es sh lv t = wantT es sh t by unfold firsT wantT; rw [if_pos ho2]] at r
      exact r
    have HSE : Hid ((0 < (findL es sh t t).length) = (0 < (wantT es sh t).length)) := find_self es sh t
    obtain ⟨L, hL⟩ : ∃ L, L = findL es sh s t := ⟨_, rfl⟩
    rw [← hL] at hP3 s3 HAT hl60
    obtain ⟨a2, c2, hv2⟩ := spans_form hP3
    obtain ⟨a3, c3, hv3⟩ := spans_form s3
    subst hv2
    subst hv3
    have HP3 : Hid (Spans w3 W.heap.size (.slice a2 L.length c2) L) := hP3
    clear hP3 s3 hfa hok ho1 hL
    go_wp2_with fail
    go_loopw [10, 56] (fun at_ i wr => FnRel w3 L at_ i wr) (fun _ i _ => L.length - (intOf i).toNat)
    case atStart => exact ⟨0, 0, rfl, Nat.zero_le _, rfl, fun p hp => by obtain ⟨i, k, _, _, e, _⟩ := (HAT.out 0 p hp).1; rw [e]; show (0 : Int) ≤ (cutAt s i : Int); omega, Below.refl _ _⟩
    case round =>
      obtain ⟨k, e, rfl, hk, rfl, he, hb⟩ := hrel
      have HBr : Hid (Below w3.heap.size w3 wr) := hb
      obtain ⟨hql, q0, q1, q2⟩ := (HX3.out.below hb).facts
      by_cases hkl : k < L.length
      · obtain ⟨p, hp⟩ : ∃ p, L[k]? = some p := by exact ⟨_, List.getElem?_eq_getElem hkl⟩
        obtain ⟨x, y⟩ := p
        rcases (Spans.form HP3.out) with ⟨_, hl⟩ | ⟨g, cap, hv, _, _⟩
        · rw [hl] at hp; simp at hp
        injection hv with e1 _ e3
        subst e1
        subst e3
        have hPr : Spans wr W.heap.size (.slice (some ⟨g, 0, none⟩) L.length c2) L := HP3.out.below hb
        obtain ⟨c0, c1⟩ := hPr.cells k (x, y) hp
        have hgl := (World.ownsRow.lt hPr g rfl).2
        have hk8 : (k : Int) < (L.length : Int) := by omega
        have hxe : ¬ x < e := by have := he (x, y) hp; show ¬ x < e; simp at this; omega
        have b4 : Below wr.heap.size wr (wr.alloc (.cells #[.int .i64 x, .int .i64 y] 32)) := (Below.refl _ _).alloc (Nat.le_refl _) _
        have b43 := hb.trans (b4.mono hb.size)
        have HP4 : Hid (BoxP (wr.alloc (.cells #[.int .i64 x, .int .i64 y] 32)) wr.heap.size x y) := heap_alloc_new wr _
        have HX4 : Hid (BoxU (wr.alloc (.cells #[.int .i64 x, .int .i64 y] 32)) w1.heap.size (.slice va es.length vc) sh lv) := HX3.out.below b43
        have HB4 : Hid (Below w3.heap.size w3 (wr.alloc (.cells #[.int .i64 x, .int .i64 y] 32))) := b43
        have M := HMS.out (wr.alloc (.cells #[.int .i64 x, .int .i64 y] 32)) (x, y) (HAT.out k (x, y) hp).1 (HB3.out.trans (b43.mono HB3.out.size))
        have HNX : Hid (∀ p, L[k + 1]? = some p → y ≤ p.1) := fun p hp2 => (HAT.out (k + 1) p hp2).2 (x, y) (by omega) (by simpa using hp)
        have hsz : (wr.alloc (.cells #[.int .i64 x, .int .i64 y] 32)).heap.size = wr.heap.size + 1 := by simp
        clear hp hPr hb he b4 b43
        go_wp2_with fail
        refine M.mono ?_
        rintro e2 w5 ⟨rfl, b5⟩
        obtain ⟨hpl, p0, p1⟩ := (HP4.out.below b5).facts
        have HB5 : Hid (Below w3.heap.size w3 w5) := HB4.out.trans (b5.mono HB4.out.size)
        clear M b5 HP4 HX4 HB4 q0 q1 q2 c0 c1 hql hgl hsz
        go_wp2
        exact ⟨⟨k + 1, y, by go_num, by omega, rfl, HNX.out, HB5.out⟩, by simp [intOf]; omega⟩
      · obtain rfl : k = L.length := by omega
        obtain ⟨w4, rfl⟩ : ∃ w4, w4 = wr := ⟨_, rfl⟩
        have hb4 := HB3.out.trans (hb.mono HB3.out.size)
        have FI := HFI.out w4 hb4
        have HX4 : Hid (BoxU w4 w1.heap.size (.slice va es.length vc) sh lv) := HX3.out.below hb
        have HB4 : Hid (Below W.heap.size W w4) := hb4
        clear hb he hkl hb4 HBr HX3 HB3 HFI HMS HAT
        go_wp2_with fail
        refine FI.mono ?_
        rintro e2 w5 ⟨v5, rfl, i5, b5⟩
        obtain ⟨a5, c5, rfl⟩ := ints_form i5
        have HB5 : Hid (Below W.heap.size W w5) := HB4.out.trans (b5.mono HB4.out.size)
        obtain ⟨hpl, p0, p1, p2⟩ := (HX4.out.below b5).facts
        have F2 := HF.out w5 t htz HB5.out
        rw [HOK.out.1, HOK.out.2] at F2
        clear FI i5 b5 HX4 HB4 q0 q1 q2 hql
        go_wp2_with fail
        refine F2.mono ?_
        rintro e2 w6 ⟨v6, rfl, s6, b6⟩
        obtain ⟨a6, c6, hv6⟩ := spans_form s6
        subst hv6
        have HB6 : Hid (Below w.heap.size w w6) := HB2.out.trans ((HB5.out.trans (b6.mono HB5.out.size)).mono HB2.out.size)
        have HEQ := HSE.out
        generalize (findL es sh t t).length = N at *
        generalize (wantT es sh t).length = M at *
        clear F2 s6 b6 HB5 p0 p1 p2 hpl HF HOK HSE
        by_cases hM : 0 < M
        · have hN : 0 < N := by rw [HEQ]; exact hM
          have hM8 : (0 : Int) < (M : Int) := by omega
          have hN8 : (0 : Int) < (N : Int) := by omega
          clear HEQ
          go_wp2
          go_ret
          exact ⟨rfl, HB6.out⟩
        · have hN : ¬ 0 < N := by rw [HEQ]; exact hM
          have hM8 : ¬ (0 : Int) < (M : Int) := by omega
          have hN8 : ¬ (0 : Int) < (N : Int) := by omega
          clear HEQ
          go_wp2
          go_ret
          exact ⟨rfl, HB6.out⟩
end Go.Proofs.YtinjldagfhbioaaGreatDoor

namespace Go.Proofs.YtinjldagfhbioaaGreatDoor
open Go.RowKit

def IsRow (k : IntKind) (w : World) (a : Option Addr) (len cap : Nat) (zs : List Int) : Prop :=
  (a = none ∧ len = 0 ∧ cap = 0 ∧ zs = []) ∨
  ∃ x, a = some x ∧ len ≤ cap ∧ cap ≤ maxLen ∧ zs.length = cap ∧ (∀ i, i < zs.length → w.cell? (x.add i) = some (.int k (zs.getD i 0))) ∧ ∀ n ∈ zs, (Lit.int k n).wf = true
end Go.Proofs.YtinjldagfhbioaaGreatDoor

namespace Go.Proofs.YtinjldagfhbioaaGreatDoor
open Go.ChangeShapes Go.WideShapes Go.ChangeAt Go.WideMaps Go.WideElems Go.RowKit

theorem came_of {w : World} {a : Option Addr} {len cap : Nat} {zs : List Int} (h : IsRow .u8 w a len cap zs) : Came w a len := by
  rcases h with ⟨rfl, rfl, rfl, rfl⟩ | ⟨x, rfl, hl, hc, hz, hcell, hwf⟩
  · exact .inl rfl
  · by_cases h0 : len = 0
    · exact .inl h0
    · obtain ⟨b, off, rfl, hc2⟩ := ints_at hcell (by omega)
      have hlt : b < w.heap.size := by
        have h1 := hc2 0 (by omega)
        apply Classical.byContradiction
        intro hn
        have : w.heap[b]? = none := by simp; omega
        simp [World.cell?, this] at h1
      refine .inr ⟨b, off, rfl, hlt, fun j hj => ?_⟩
      have hm : zs.getD j 0 ∈ zs := by
        rw [List.getD_eq_getElem?_getD, List.getElem?_eq_getElem (show j < zs.length by omega)]; exact List.getElem_mem _
      have hw := hwf _ hm
      have hx : 0 ≤ zs.getD j 0 ∧ zs.getD j 0 ≤ 255 := by simpa [Lit.wf, IntKind.min, IntKind.max, IntKind.signed, IntKind.bits] using hw
      exact ⟨_, hx.1, hx.2, hc2 j (by omega)⟩
end Go.Proofs.YtinjldagfhbioaaGreatDoor
