/- Contract of the specification's l3Behind, level 3. -/
import Derived.Test.YtakfnmhokijcoaaGreatDoorSBehind2
namespace Go.Proofs.YtakfnmhokijcoaaGreatDoor
open Go.RowKit

theorem nx3_eq (n : Int) (h : n + 1 = 8) : nx3 n = n + 1 + 1 := if_pos h
theorem nx3_ne (n : Int) (h : n + 1 ≠ 8) : nx3 n = n + 1 := if_neg h
theorem nx3_lt (n : Int) : n < nx3 n := by unfold nx3; split <;> omega

set_option maxRecDepth 100000 in
set_option maxHeartbeats 8000000 in
theorem behind3_at8 {w : World} {B : Nat} {v : Value} {es : List Ent} {sh : Bool} {lv : Int} {e : El} (hE : Ents w B v es) (hn : es.length ≤ 40) (hF : ∀ x ∈ es, x.el.third ≤ 99) (h8 : e.third + 1 = 8) :
    Calls Tryz.prog 22 #[.agg #[v, .bool sh, .int .i64 lv], .agg #[.int .i64 e.first, .int .i64 e.second, .int .i64 e.third, .bool e.varies], .int .i64 3] w fun x w' => x = .returned (elV (behind3 es e)) ∧ Below w.heap.size w w' := by
  obtain ⟨a, c, rfl⟩ : ∃ a c, v = .slice a es.length c := by
    rcases hE.form with ⟨rfl, rfl⟩ | ⟨g, cap, rfl, _, _, _, _⟩
    · exact ⟨_, _, rfl⟩
    · exact ⟨_, _, rfl⟩
  have HB : Hid (Below _ _ _) := below_new5 w (.slice a es.length c) sh lv e
  have HX : Hid (Box5 _ _ _ _ _ _) := box5_new w (.slice a es.length c) sh lv e
  have HE : Hid (Ents _ _ _ _) := hE
  unfold behind3
  obtain ⟨N, HS⟩ : ∃ N, Hid (stepN (fun n => hasQ es (q3 e n)) nx3 1001 (nx3 e.third) = N) := ⟨_, rfl⟩
  rw [HS.out]
  have HS2 : Hid (Left (fun n => hasQ es (q3 e n)) nx3 1000 (e.third + 1 + 1) N) := ⟨1001, by omega, by rw [← nx3_eq _ h8]; exact HS.out⟩
  have h8' : (e.third + 1 == 8) = true := by simpa using h8
  clear hE HS
  go_enter Tryz.func22, Tryz.ntmps22
  go_wp2_with fail
  go_loopw [11, 12] (fun i j wr => B2Rel w (.slice a es.length c) sh lv e es (q3 e) nx3 N i j wr) (fun i j _ => (1003 - intOf i).toNat * 100 + (50 - (intOf j).toNat))
  case atStart => exact ⟨e.third + 1 + 1, 0, by rw [show e.third + 1 + 1 = 9 by omega], rfl, ⟨by omega, by omega, by omega⟩, fun j x hj => by omega, HS2.out, HX.out, HB.out⟩
  case round =>
    clear HS2 HX HB h8 h8'
    obtain ⟨m, k, rfl, rfl, ⟨m0, m1, hk⟩, hq, hl, hx, hb⟩ := hrel
    have HQ : Hid (NotQ _ _ _) := hq
    have HL : Hid (Left _ _ _ _ _) := hl
    have HX : Hid (Box5 _ _ _ _ _ _) := hx
    obtain ⟨p0, p1, p2⟩ := hx.rules
    obtain ⟨s0, s1, s2, s3⟩ := hx.elem
    obtain ⟨z0, z1, z2, z3, f0⟩ := hx.result
    obtain ⟨n0, n1, n2⟩ := hx.sizes
    clear hq hl hx
    by_cases hlt : k < es.length
    · obtain ⟨x, he⟩ : ∃ x, es[k]? = some x := ⟨_, List.getElem?_eq_getElem hlt⟩
      have hF' := hF x (List.mem_of_getElem? he)
      rcases HE.out.form with ⟨_, h⟩ | ⟨g, cap, h, _, _, _, _⟩
      · rw [h] at hlt; simp at hlt
      · cases h
        obtain ⟨y, hI, a0, a1, a2, a3, a4⟩ := (HE.out.below hb).cells k x he
        have hk8 : (k : Int) < (es.length : Int) := by omega
        have HX2 : Hid (Box5 _ _ _ _ _ _) := HX.out.below ((Below.refl wr.heap.size wr).alloc (Nat.le_refl _) (.cells #[.int .i64 x.el.first, .int .i64 x.el.second, .int .i64 x.el.third, .bool x.el.varies] 41))
        have HB2 : Hid (Below _ _ _) := hb.alloc hb.size (.cells #[.int .i64 x.el.first, .int .i64 x.el.second, .int .i64 x.el.third, .bool x.el.varies] 41)
        have HK : Hid _ := he
        clear hI he HE hF HX hb
        by_cases c1 : x.el.first = e.first
        · have c1' : (x.el.first == e.first) = true := by simpa using c1
          by_cases c2 : x.el.second = e.second
          · have c2' : (x.el.second == e.second) = true := by simpa using c2
            by_cases c3 : x.el.third = m
            · have c3' : (x.el.third == m) = true := by simpa using c3
              have HL2 : Hid (Left (fun n => hasQ es (q3 e n)) nx3 1000 (nx3 m) N) := HL.out.next (hasQ_hit HK.out (by show (_ && _) = true; rw [c1', c2', c3']; rfl)) (by omega) (nx3_lt m)
              have m2 : m ≤ 99 := by omega
              clear HQ HL HK c1 c2 c3 hF'
              by_cases c8 : m + 1 = 8
              · have c8' : (m + 1 == 8) = true := by simpa using c8
                have HL3 : Hid (Left (fun n => hasQ es (q3 e n)) nx3 1000 (m + 1 + 1) N) := by rw [nx3_eq m c8] at HL2; exact HL2
                clear HL2 c8
                go_wp2
                exact ⟨⟨m + 1 + 1, 0, by go_num, by go_num, ⟨by omega, by omega, by omega⟩, fun j x hj => by omega, HL3.out, HX2.out, HB2.out⟩, by simp [intOf]; omega⟩
              · have c8' : (m + 1 == 8) = false := by simpa using c8
                have HL3 : Hid (Left (fun n => hasQ es (q3 e n)) nx3 1000 (m + 1) N) := by rw [nx3_ne m c8] at HL2; exact HL2
                clear HL2 c8
                go_wp2
                exact ⟨⟨m + 1, 0, by go_num, by go_num, ⟨by omega, by omega, by omega⟩, fun j x hj => by omega, HL3.out, HX2.out, HB2.out⟩, by simp [intOf]; omega⟩
            · have c3' : (x.el.third == m) = false := by simpa using c3
              have HQ2 : Hid (NotQ es (q3 e m) (k + 1)) := HQ.out.succ HK.out (by show (_ && _) = false; rw [c3', Bool.and_false])
              clear HQ HK c1 c2 c3 hF'
              go_wp2
              exact ⟨⟨m, k + 1, by go_num, by go_num, ⟨by omega, by omega, by omega⟩, HQ2.out, HL.out, HX2.out, HB2.out⟩, by simp [intOf]; omega⟩
          · have c2' : (x.el.second == e.second) = false := by simpa using c2
            have HQ2 : Hid (NotQ es (q3 e m) (k + 1)) := HQ.out.succ HK.out (by show ((_ && _) && _) = false; rw [c2', Bool.and_false, Bool.false_and])
            clear HQ HK c1 c2 hF'
            go_wp2
            exact ⟨⟨m, k + 1, by go_num, by go_num, ⟨by omega, by omega, by omega⟩, HQ2.out, HL.out, HX2.out, HB2.out⟩, by simp [intOf]; omega⟩
        · have c1' : (x.el.first == e.first) = false := by simpa using c1
          have HQ2 : Hid (NotQ es (q3 e m) (k + 1)) := HQ.out.succ HK.out (by show ((_ && _) && _) = false; rw [c1', Bool.false_and, Bool.false_and])
          clear HQ HK c1 hF'
          go_wp2
          exact ⟨⟨m, k + 1, by go_num, by go_num, ⟨by omega, by omega, by omega⟩, HQ2.out, HL.out, HX2.out, HB2.out⟩, by simp [intOf]; omega⟩
    · have hN : m = N := HL.out.last (hasQ_none HQ.out (by omega))
      subst hN
      have hk8 : ¬ (k : Int) < (es.length : Int) := by omega
      clear HQ HL HX HE hF
      go_wp2
      refine bodyPost_ret (v := .agg #[.int .i64 e.first, .int .i64 e.second, .int .i64 m, .bool false]) ?_ rfl ⟨rfl, below_res5 hb _ _ _ _⟩
      rw [results_cell1 rfl]
      go_simp

set_option maxRecDepth 100000 in
set_option maxHeartbeats 8000000 in
theorem behind3_no8 {w : World} {B : Nat} {v : Value} {es : List Ent} {sh : Bool} {lv : Int} {e : El} (hE : Ents w B v es) (hn : es.length ≤ 40) (hF : ∀ x ∈ es, x.el.third ≤ 99) (h0 : 0 ≤ e.third) (h1 : e.third ≤ 99) (h8 : e.third + 1 ≠ 8) :
    Calls Tryz.prog 22 #[.agg #[v, .bool sh, .int .i64 lv], .agg #[.int .i64 e.first, .int .i64 e.second, .int .i64 e.third, .bool e.varies], .int .i64 3] w fun x w' => x = .returned (elV (behind3 es e)) ∧ Below w.heap.size w w' := by
  obtain ⟨a, c, rfl⟩ : ∃ a c, v = .slice a es.length c := by
    rcases hE.form with ⟨rfl, rfl⟩ | ⟨g, cap, rfl, _, _, _, _⟩
    · exact ⟨_, _, rfl⟩
    · exact ⟨_, _, rfl⟩
  have HB : Hid (Below _ _ _) := below_new5 w (.slice a es.length c) sh lv e
  have HX : Hid (Box5 _ _ _ _ _ _) := box5_new w (.slice a es.length c) sh lv e
  have HE : Hid (Ents _ _ _ _) := hE
  unfold behind3
  obtain ⟨N, HS⟩ : ∃ N, Hid (stepN (fun n => hasQ es (q3 e n)) nx3 1001 (nx3 e.third) = N) := ⟨_, rfl⟩
  rw [HS.out]
  have HS2 : Hid (Left (fun n => hasQ es (q3 e n)) nx3 1000 (e.third + 1) N) := ⟨1001, by omega, by rw [← nx3_ne _ h8]; exact HS.out⟩
  have h8' : (e.third + 1 == 8) = false := by simpa using h8
  clear hE HS
  go_enter Tryz.func22, Tryz.ntmps22
  go_wp2_with fail
  go_loopw [11, 12] (fun i j wr => B2Rel w (.slice a es.length c) sh lv e es (q3 e) nx3 N i j wr) (fun i j _ => (1003 - intOf i).toNat * 100 + (50 - (intOf j).toNat))
  case atStart => exact ⟨e.third + 1, 0, rfl, rfl, ⟨by omega, by omega, by omega⟩, fun j x hj => by omega, HS2.out, HX.out, HB.out⟩
  case round =>
    clear HS2 HX HB h8 h8'
    obtain ⟨m, k, rfl, rfl, ⟨m0, m1, hk⟩, hq, hl, hx, hb⟩ := hrel
    have HQ : Hid (NotQ _ _ _) := hq
    have HL : Hid (Left _ _ _ _ _) := hl
    have HX : Hid (Box5 _ _ _ _ _ _) := hx
    obtain ⟨p0, p1, p2⟩ := hx.rules
    obtain ⟨s0, s1, s2, s3⟩ := hx.elem
    obtain ⟨z0, z1, z2, z3, f0⟩ := hx.result
    obtain ⟨n0, n1, n2⟩ := hx.sizes
    clear hq hl hx
    by_cases hlt : k < es.length
    · obtain ⟨x, he⟩ : ∃ x, es[k]? = some x := ⟨_, List.getElem?_eq_getElem hlt⟩
      have hF' := hF x (List.mem_of_getElem? he)
      rcases HE.out.form with ⟨_, h⟩ | ⟨g, cap, h, _, _, _, _⟩
      · rw [h] at hlt; simp at hlt
      · cases h
        obtain ⟨y, hI, a0, a1, a2, a3, a4⟩ := (HE.out.below hb).cells k x he
        have hk8 : (k : Int) < (es.length : Int) := by omega
        have HX2 : Hid (Box5 _ _ _ _ _ _) := HX.out.below ((Below.refl wr.heap.size wr).alloc (Nat.le_refl _) (.cells #[.int .i64 x.el.first, .int .i64 x.el.second, .int .i64 x.el.third, .bool x.el.varies] 41))
        have HB2 : Hid (Below _ _ _) := hb.alloc hb.size (.cells #[.int .i64 x.el.first, .int .i64 x.el.second, .int .i64 x.el.third, .bool x.el.varies] 41)
        have HK : Hid _ := he
        clear hI he HE hF HX hb
        by_cases c1 : x.el.first = e.first
        · have c1' : (x.el.first == e.first) = true := by simpa using c1
          by_cases c2 : x.el.second = e.second
          · have c2' : (x.el.second == e.second) = true := by simpa using c2
            by_cases c3 : x.el.third = m
            · have c3' : (x.el.third == m) = true := by simpa using c3
              have HL2 : Hid (Left (fun n => hasQ es (q3 e n)) nx3 1000 (nx3 m) N) := HL.out.next (hasQ_hit HK.out (by show (_ && _) = true; rw [c1', c2', c3']; rfl)) (by omega) (nx3_lt m)
              have m2 : m ≤ 99 := by omega
              clear HQ HL HK c1 c2 c3 hF'
              by_cases c8 : m + 1 = 8
              · have c8' : (m + 1 == 8) = true := by simpa using c8
                have HL3 : Hid (Left (fun n => hasQ es (q3 e n)) nx3 1000 (m + 1 + 1) N) := by rw [nx3_eq m c8] at HL2; exact HL2
                clear HL2 c8
                go_wp2
                exact ⟨⟨m + 1 + 1, 0, by go_num, by go_num, ⟨by omega, by omega, by omega⟩, fun j x hj => by omega, HL3.out, HX2.out, HB2.out⟩, by simp [intOf]; omega⟩
              · have c8' : (m + 1 == 8) = false := by simpa using c8
                have HL3 : Hid (Left (fun n => hasQ es (q3 e n)) nx3 1000 (m + 1) N) := by rw [nx3_ne m c8] at HL2; exact HL2
                clear HL2 c8
                go_wp2
                exact ⟨⟨m + 1, 0, by go_num, by go_num, ⟨by omega, by omega, by omega⟩, fun j x hj => by omega, HL3.out, HX2.out, HB2.out⟩, by simp [intOf]; omega⟩
            · have c3' : (x.el.third == m) = false := by simpa using c3
              have HQ2 : Hid (NotQ es (q3 e m) (k + 1)) := HQ.out.succ HK.out (by show (_ && _) = false; rw [c3', Bool.and_false])
              clear HQ HK c1 c2 c3 hF'
              go_wp2
              exact ⟨⟨m, k + 1, by go_num, by go_num, ⟨by omega, by omega, by omega⟩, HQ2.out, HL.out, HX2.out, HB2.out⟩, by simp [intOf]; omega⟩
          · have c2' : (x.el.second == e.second) = false := by simpa using c2
            have HQ2 : Hid (NotQ es (q3 e m) (k + 1)) := HQ.out.succ HK.out (by show ((_ && _) && _) = false; rw [c2', Bool.and_false, Bool.false_and])
            clear HQ HK c1 c2 hF'
            go_wp2
            exact ⟨⟨m, k + 1, by go_num, by go_num, ⟨by omega, by omega, by omega⟩, HQ2.out, HL.out, HX2.out, HB2.out⟩, by simp [intOf]; omega⟩
        · have c1' : (x.el.first == e.first) = false := by simpa using c1
          have HQ2 : Hid (NotQ es (q3 e m) (k + 1)) := HQ.out.succ HK.out (by show ((_ && _) && _) = false; rw [c1', Bool.false_and, Bool.false_and])
          clear HQ HK c1 hF'
          go_wp2
          exact ⟨⟨m, k + 1, by go_num, by go_num, ⟨by omega, by omega, by omega⟩, HQ2.out, HL.out, HX2.out, HB2.out⟩, by simp [intOf]; omega⟩
    · have hN : m = N := HL.out.last (hasQ_none HQ.out (by omega))
      subst hN
      have hk8 : ¬ (k : Int) < (es.length : Int) := by omega
      clear HQ HL HX HE hF
      go_wp2
      refine bodyPost_ret (v := .agg #[.int .i64 e.first, .int .i64 e.second, .int .i64 m, .bool false]) ?_ rfl ⟨rfl, below_res5 hb _ _ _ _⟩
      rw [results_cell1 rfl]
      go_simp

theorem behind3_any {w : World} {B : Nat} {v : Value} {es : List Ent} {sh : Bool} {lv : Int} {e : El} (hE : Ents w B v es) (hn : es.length ≤ 40) (hF : ∀ x ∈ es, x.el.third ≤ 99) (h0 : 0 ≤ e.third) (h1 : e.third ≤ 99) :
    Calls Tryz.prog 22 #[.agg #[v, .bool sh, .int .i64 lv], .agg #[.int .i64 e.first, .int .i64 e.second, .int .i64 e.third, .bool e.varies], .int .i64 3] w fun x w' => x = .returned (elV (behind3 es e)) ∧ Below w.heap.size w w' := by
  by_cases h8 : e.third + 1 = 8
  · exact behind3_at8 hE hn hF h8
  · exact behind3_no8 hE hn hF h0 h1 h8
end Go.Proofs.YtakfnmhokijcoaaGreatDoor
