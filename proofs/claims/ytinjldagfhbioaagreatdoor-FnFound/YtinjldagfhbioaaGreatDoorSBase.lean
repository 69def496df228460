/- Contract of the specification's l3Base: what a rune weighs. -/
import Derived.Test.YtinjldagfhbioaaGreatDoorEl
import Derived.Test.YtinjldagfhbioaaGreatDoorGood
namespace Go.Proofs.YtinjldagfhbioaaGreatDoor
open Go.RowKit

def vsl : List Int := [32, 95, 45, 44, 59, 58, 33, 63, 46]
def mkl : List Int := [824, 807, 808, 803, 817, 768, 769, 770, 771, 772, 774, 775, 776, 778, 780]
def placeIn (l : List Int) (r : Int) : Option Nat := l.findIdx? (fun x => x == r)

/-- What a rune weighs that stands in neither list. -/
def baseRest (r : Int) : List El :=
  if r < 32 ∨ r = 127 then []
  else if 48 ≤ r ∧ r ≤ 57 then [⟨2000 + 100 * (r - 48), 32, 2, false⟩]
  else if 97 ≤ r ∧ r ≤ 122 then [⟨4000 + 200 * (r - 97), 32, 2, false⟩]
  else if 65 ≤ r ∧ r ≤ 90 then [⟨4000 + 200 * (r - 65), 32, 8, false⟩]
  else [⟨60000 + r / 32768, 32, 2, false⟩, ⟨32768 + r % 32768, 0, 0, false⟩]

def base (r : Int) : List El :=
  match placeIn vsl r with
  | some i => [⟨1 + (i : Int), 32, 2, true⟩]
  | none => match placeIn mkl r with
    | some i => [⟨0, 40 + (i : Int), 2, false⟩]
    | none => baseRest r

theorem base_len (r : Int) : (base r).length ≤ 2 := by
  unfold base baseRest
  repeat' split
  all_goals simp

def NotYet (l : List Int) (r : Int) (k : Nat) : Prop := ∀ j x, j < k → l[j]? = some x → x ≠ r

theorem NotYet.succ {l : List Int} {r x : Int} {k : Nat} (h : NotYet l r k) (hx : l[k]? = some x) (hn : x ≠ r) : NotYet l r (k + 1) := by
  intro j y hj hy
  by_cases e : j = k
  · subst e; rw [hx] at hy; cases hy; exact hn
  · exact h j y (by omega) hy

theorem place_hit {l : List Int} {r : Int} {k : Nat} (h : NotYet l r k) (hx : l[k]? = some r) : placeIn l r = some k := by
  unfold placeIn
  rw [List.findIdx?_eq_some_iff_getElem]
  obtain ⟨hk, e⟩ := List.getElem?_eq_some_iff.1 hx
  refine ⟨hk, by simp [e], fun j hj => ?_⟩
  have := h j l[j] hj (List.getElem?_eq_getElem (by omega))
  simpa using this

theorem place_none {l : List Int} {r : Int} {k : Nat} (h : NotYet l r k) (hk : l.length ≤ k) : placeIn l r = none := by
  unfold placeIn
  rw [List.findIdx?_eq_none_iff]
  intro x hx
  obtain ⟨j, hj⟩ := List.mem_iff_getElem?.1 hx
  have h1 := (List.getElem?_eq_some_iff.1 hj).1
  simpa using h j x (by omega) hj

theorem vs_index (k : Nat) (hk : k < 9) (w : World) : (Instr.index 9 (.string ⟨#[32, 95, 45, 44, 59, 58, 33, 63, 46]⟩) (.int .i64 k)).run Tryz.prog w = .ok (.int .u8 (vsl[k]?.getD 0)) w := by
  iterate 9 (rcases k with _ | k; · kernel_rfl)
  omega

theorem elems_block {w : World} {B g n : Nat} {cs : Array Value} (es : List El) (hn : es.length = n) (hcs : cs = (elAll es).toArray) (h : w.heap[g]? = some (.cells cs 72 (0, 0))) (hB : B ≤ g) (hz : n ≤ maxLen) : Elems w B (.slice (some ⟨g, 0, none⟩) n n) es := by
  subst hcs
  subst hn
  exact ⟨elAll_len es, .inr ⟨g, es.length, _, rfl, hB, h, Nat.le_refl _, hz, by simp [elAll_len], by simp [← elAll_len]⟩⟩

theorem elems_lit (w : World) (es : List El) (n : Nat) (hn : es.length = n) (hz : n ≤ maxLen) (cs : Array Value) (hcs : cs = (elAll es).toArray) : Elems (w.alloc (.cells cs 72)) w.heap.size (.slice (some ⟨w.heap.size, 0, none⟩) n n) es :=
  elems_block es hn hcs (heap_alloc_new w _) (Nat.le_refl _) hz

theorem in_yes3 (r lo hi : Int) (h : lo ≤ r ∧ r ≤ hi) (w : World) : Calls Tryz.prog 40 #[.int .i64 r, .int .i64 lo, .int .i64 hi] w fun e w' => e = .returned (.bool true) ∧ w' = w := by
  obtain ⟨h1, h2⟩ := h
  go_enter Tryz.func40, Tryz.ntmps40
  go_wp2
  go_ret
  exact ⟨ret_b (by simp; try omega), rfl⟩

theorem in_no3 (r lo hi : Int) (h : ¬ (lo ≤ r ∧ r ≤ hi)) (w : World) : Calls Tryz.prog 40 #[.int .i64 r, .int .i64 lo, .int .i64 hi] w fun e w' => e = .returned (.bool false) ∧ w' = w := by
  by_cases h1 : lo ≤ r
  · have h2 : ¬ r ≤ hi := fun h2 => h ⟨h1, h2⟩
    clear h
    go_enter Tryz.func40, Tryz.ntmps40
    go_wp2
    go_ret
    exact ⟨ret_b (by simp; try omega), rfl⟩
  · clear h
    go_enter Tryz.func40, Tryz.ntmps40
    go_wp2
    go_ret
    exact ⟨ret_b (by simp; try omega), rfl⟩

set_option maxRecDepth 100000 in
set_option maxHeartbeats 1000000 in
theorem marks3_any (w : World) : Calls Tryz.prog 89 #[] w fun e w' => ∃ g, e = .returned (.slice (some ⟨g, 0, none⟩) 15 15) ∧ Ints w' w.heap.size (.slice (some ⟨g, 0, none⟩) 15 15) mkl ∧ Below w.heap.size w w' := by
  go_enter Tryz.func89, Tryz.ntmps89
  go_wp2
  go_ret
  refine ⟨_, rfl, ?_, (Below.refl _ _).alloc (Nat.le_refl _) _⟩
  exact ⟨by simp [mkl], .inr ⟨w.heap.size, 15, _, rfl, Nat.le_refl _, heap_alloc_new w _, Nat.le_refl _, by unfold maxLen; omega, rfl, rfl⟩⟩

set_option maxRecDepth 100000 in
set_option maxHeartbeats 4000000 in
theorem specBase_any (r : Int) (hr0 : 0 ≤ r) (hr1 : r ≤ 1114111) (w : World) : Calls Tryz.prog 74 #[.int .i64 r] w fun e w' => ∃ v, e = .returned v ∧ Elems w' w.heap.size v (base r) ∧ Below w.heap.size w w' := by
  have MK := fun w => marks3_any w
  go_enter Tryz.func74, Tryz.ntmps74
  go_wp2
  go_loop [3] (fun i => ∃ k : Nat, k ≤ 9 ∧ i = .int .i64 k ∧ Hid (NotYet vsl r k)) (fun i => 9 - (intOf i).toNat)
  case atStart => exact ⟨0, Nat.zero_le _, rfl, fun j x hj => by omega⟩
  case round =>
    obtain ⟨k, hk, rfl, HN⟩ := hrel
    by_cases hlt : k < 9
    · have hi := fun w => vs_index k hlt w
      obtain ⟨x, hx⟩ : ∃ x, vsl[k]? = some x := ⟨_, List.getElem?_eq_getElem (show k < vsl.length from hlt)⟩
      have hxb : 0 ≤ x ∧ x ≤ 255 := (by decide : ∀ y ∈ vsl, 0 ≤ y ∧ y ≤ 255) x (List.mem_of_getElem? hx)
      rw [hx] at hi
      simp only [Option.getD_some] at hi
      have hk8 : (k : Int) < 9 := by omega
      have HX : Hid _ := hx
      obtain ⟨hxb0, hxb1⟩ := hxb
      clear hx MK
      by_cases e : x = r
      · subst e
        have HB : Hid (base x = [⟨1 + (k : Int), 32, 2, true⟩]) := by
          show _ = _
          unfold base; rw [place_hit HN.out HX.out]
        clear HN HX
        go_wp2
        go_ret
        rw [HB.out]
        exact ⟨_, rfl, elems_lit w _ 1 rfl (by unfold maxLen; omega) _ rfl, (Below.refl _ _).alloc (Nat.le_refl _) _⟩
      · have e' : (x == r) = false := by simpa using e
        have HN2 : Hid (NotYet vsl r (k + 1)) := HN.out.succ HX.out e
        clear HN HX e
        go_wp2
        exact ⟨⟨k + 1, by omega, by go_num, HN2⟩, by simp [intOf]; omega⟩
    · have HV : Hid (placeIn vsl r = none) := place_none HN.out (by show 9 ≤ k; omega)
      clear HN
      go_wp2_with fail
      refine (MK _).mono ?_
      rintro e w1 ⟨g, rfl, hI, hb⟩
      clear MK
      go_wp2_with fail
      go_loop [21] (fun i => ∃ k : Nat, k ≤ 15 ∧ i = .int .i64 k ∧ Hid (NotYet mkl r k)) (fun i => 15 - (intOf i).toNat)
      case atStart => exact ⟨0, Nat.zero_le _, rfl, fun j x hj => by omega⟩
      case round =>
        obtain ⟨k, hk, rfl, HN⟩ := hrel
        by_cases hlt : k < 15
        · obtain ⟨x, hx⟩ : ∃ x, mkl[k]? = some x := ⟨_, List.getElem?_eq_getElem (show k < mkl.length from hlt)⟩
          have c0 : w1.cell? ⟨g, k, none⟩ = some (.int .i64 x) := by
            have h3 := World.ownsRow.cellAt (n := 15) hI k (by omega)
            rw [h3]; simp [hx]
          have hk8 : (k : Int) < 15 := by omega
          have HX : Hid _ := hx
          clear hx hI
          by_cases e : x = r
          · subst e
            have HB : Hid (base x = [⟨0, 40 + (k : Int), 2, false⟩]) := by
              show _ = _
              unfold base; rw [HV.out]; simp only; rw [place_hit HN.out HX.out]
            clear HN HX HV
            go_wp2
            go_ret
            rw [HB.out]
            exact ⟨_, rfl, elems_block _ rfl rfl (heap_alloc_new w1 _) hb.size (by unfold maxLen; simp), hb.alloc hb.size _⟩
          · have e' : (x == r) = false := by simpa using e
            have HN2 : Hid (NotYet mkl r (k + 1)) := HN.out.succ HX.out e
            clear HN HX e
            go_wp2
            exact ⟨⟨k + 1, by omega, by go_num, HN2⟩, by simp [intOf]; omega⟩
        · have HB : Hid (base r = baseRest r) := by
            show _ = _
            unfold base; rw [HV.out]; simp only; rw [place_none HN.out (by show 15 ≤ k; omega)]
          clear HN HV hI
          by_cases q0 : r < 32 ∨ r = 127
          · have HR : Hid (base r = []) := by show _ = _; rw [HB.out]; unfold baseRest; rw [if_pos q0]
            clear HB
            by_cases q1 : r < 32
            · clear q0
              go_wp2
              go_ret
              rw [HR.out]
              exact ⟨_, rfl, ⟨rfl, .inl ⟨rfl, rfl⟩⟩, hb⟩
            · have q2 : r = 127 := by omega
              subst q2
              clear q0
              go_wp2
              go_ret
              rw [HR.out]
              exact ⟨_, rfl, ⟨rfl, .inl ⟨rfl, rfl⟩⟩, hb⟩
          · have q1 : ¬ r < 32 := fun h => q0 (.inl h)
            have q2 : (r == 127) = false := by simp; omega
            by_cases d : 48 ≤ r ∧ r ≤ 57
            · have D := fun w => in_yes3 r 48 57 d w
              have HR : Hid (base r = [⟨2000 + 100 * (r - 48), 32, 2, false⟩]) := by show _ = _; rw [HB.out]; unfold baseRest; rw [if_neg q0, if_pos d]
              clear HB q0
              go_wp2_with fail
              refine (D _).mono ?_
              rintro e w2 ⟨rfl, rfl⟩
              clear D
              go_wp2
              go_ret
              rw [HR.out]
              exact ⟨_, rfl, elems_block _ rfl rfl (heap_alloc_new w2 _) hb.size (by unfold maxLen; simp), hb.alloc hb.size _⟩
            · have D := fun w => in_no3 r 48 57 d w
              by_cases l : 97 ≤ r ∧ r ≤ 122
              · have L := fun w => in_yes3 r 97 122 l w
                have HR : Hid (base r = [⟨4000 + 200 * (r - 97), 32, 2, false⟩]) := by show _ = _; rw [HB.out]; unfold baseRest; rw [if_neg q0, if_neg d, if_pos l]
                clear HB q0 d
                go_wp2_with fail
                refine (D _).mono ?_
                rintro e w2 ⟨rfl, rfl⟩
                go_wp2_with fail
                refine (L _).mono ?_
                rintro e w2 ⟨rfl, rfl⟩
                clear D L
                go_wp2
                go_ret
                rw [HR.out]
                exact ⟨_, rfl, elems_block _ rfl rfl (heap_alloc_new w2 _) hb.size (by unfold maxLen; simp), hb.alloc hb.size _⟩
              · have L := fun w => in_no3 r 97 122 l w
                by_cases u : 65 ≤ r ∧ r ≤ 90
                · have U := fun w => in_yes3 r 65 90 u w
                  have HR : Hid (base r = [⟨4000 + 200 * (r - 65), 32, 8, false⟩]) := by show _ = _; rw [HB.out]; unfold baseRest; rw [if_neg q0, if_neg d, if_neg l, if_pos u]
                  clear HB q0 d l
                  go_wp2_with fail
                  refine (D _).mono ?_
                  rintro e w2 ⟨rfl, rfl⟩
                  go_wp2_with fail
                  refine (L _).mono ?_
                  rintro e w2 ⟨rfl, rfl⟩
                  go_wp2_with fail
                  refine (U _).mono ?_
                  rintro e w2 ⟨rfl, rfl⟩
                  clear D L U
                  go_wp2
                  go_ret
                  rw [HR.out]
                  exact ⟨_, rfl, elems_block _ rfl rfl (heap_alloc_new w2 _) hb.size (by unfold maxLen; simp), hb.alloc hb.size _⟩
                · have U := fun w => in_no3 r 65 90 u w
                  have HR : Hid (base r = [⟨60000 + r / 32768, 32, 2, false⟩, ⟨32768 + r % 32768, 0, 0, false⟩]) := by show _ = _; rw [HB.out]; unfold baseRest; rw [if_neg q0, if_neg d, if_neg l, if_neg u]
                  clear HB q0 d l u
                  go_wp2_with fail
                  refine (D _).mono ?_
                  rintro e w2 ⟨rfl, rfl⟩
                  go_wp2_with fail
                  refine (L _).mono ?_
                  rintro e w2 ⟨rfl, rfl⟩
                  go_wp2_with fail
                  refine (U _).mono ?_
                  rintro e w2 ⟨rfl, rfl⟩
                  clear D L U
                  go_wp2
                  go_ret
                  rw [HR.out]
                  exact ⟨_, rfl, elems_block _ rfl rfl (heap_alloc_new w2 _) hb.size (by unfold maxLen; simp), hb.alloc hb.size _⟩
end Go.Proofs.YtinjldagfhbioaaGreatDoor
