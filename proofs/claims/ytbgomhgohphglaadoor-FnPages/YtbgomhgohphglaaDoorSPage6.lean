/- Contract of the specification's l6Page. -/
import Derived.Test.YtbgomhgohphglaaDoorBy6
import Derived.Test.YtbgomhgohphglaaDoorISh6
namespace Go.Proofs.YtbgomhgohphglaaDoor
open Go.RowKit

def SpRel (W : World) (l : List Rw) (v3 v4 i : Value) (wr : World) : Prop :=
  ∃ k : Nat, k ≤ l.length ∧ i = .int .i64 k ∧ By6 wr W.heap.size v3 ([80, 71, (l.length : Int)] ++ rowsI ⟨#[]⟩ (l.take k)) ∧ v4 = .string (lastK ⟨#[]⟩ (l.take k)) ∧ Below W.heap.size W wr

def SpIn (W : World) (v3 : Value) (bs : List Int) (x : Rw) (bx : Nat) (a : ByteArray) (i : Value) (wr : World) : Prop :=
  ∃ n : Nat, i = .int .i64 n ∧ n ≤ a.size ∧ n ≤ x.key.size ∧ n + shL (a.data.toList.drop n) (x.key.data.toList.drop n) = shB a x.key ∧ By6 wr W.heap.size v3 bs ∧ BoxR6 wr bx x ∧ Below W.heap.size W wr

theorem drew_below6 {w : World} (n : Nat) : Below w.heap.size w (w.drewN n) := ⟨rfl, rfl, rfl, Nat.le_refl _, fun _ _ => rfl⟩

theorem row_num (p : ByteArray) (x : Rw) : rowI p x = [(shB p x.key : Int), (x.key.size : Int) - (shB p x.key : Int), (x.text.size : Int), (x.val.size : Int)] ++ bI (x.key.extract (shB p x.key) x.key.size) ++ bI x.text ++ bI x.val := rfl

set_option maxRecDepth 100000 in
set_option maxHeartbeats 4000000 in
theorem specPage_any {w : World} {a : Option Addr} {l : List Rw} {cap : Nat} (hS : SlRw w a l) (hB : RwB l) :
    Calls Tryd.prog 47 #[.slice a l.length cap] w fun e w' => e = .returned (.string (byT (pageI l))) ∧ Below w.heap.size w w' := by
  have hl := hB.1
  have HB : Hid (RwB l) := hB
  clear hB
  obtain ⟨i0, hi0, hz0, hs0, hy0⟩ := info_parts info_u8'
  have N0 := new_by6 w w.heap.size rfl [80, 71, (l.length : Int)] (by simp)
  have HN0 : Hid (By6 _ _ _ _) := N0
  clear N0
  go_enter Tryd.func47, Tryd.ntmps47
  go_wp2
  go_loopw [3, 4, 14] (fun v3 v4 i wr => SpRel w l v3 v4 i wr) (fun _ _ i _ => l.length - (intOf i).toNat)
  case atStart => exact ⟨0, Nat.zero_le _, rfl, HN0.out, rfl, (Below.refl _ _).alloc (Nat.le_refl _) _⟩
  case round =>
    clear HN0
    obtain ⟨k, hk, rfl, hY, rfl, hb⟩ := hrel
    by_cases hlt : k < l.length
    · obtain ⟨x, hx⟩ : ∃ x, l[k]? = some x := ⟨_, List.getElem?_eq_getElem hlt⟩
      have hS2 := hS.below hb (Nat.le_refl _)
      rcases hS2 with rfl | ⟨b, o, rfl, hE⟩
      · simp at hx
      obtain ⟨a0, a1, a2⟩ := hE k x hx
      have hbl := rw_cell_lt a0
      have hk8 : (k : Int) < (l.length : Int) := by omega
      have hsz := HB.out.at hx
      have hpl := lastK_take_le HB.out k
      have hrl := take_len_le HB.out k
      have HR : Hid _ := rowsI_take ⟨#[]⟩ hx
      have HK : Hid _ := lastK_take ⟨#[]⟩ hx
      have hnl : ([80, 71, (l.length : Int)] ++ rowsI ⟨#[]⟩ (l.take k)).length ≤ 196098 := by rw [List.length_append]; simp; omega
      have HBX : Hid (Below w.heap.size w (wr.alloc (.cells #[.string x.key, .string x.text, .string x.val] 32))) := hb.alloc hb.size _
      have HYX : Hid (By6 (wr.alloc (.cells #[.string x.key, .string x.text, .string x.val] 32)) w.heap.size _ _) := hY.below ((Below.refl _ _).alloc (Nat.le_refl _) _)
      have HXX : Hid (BoxR6 _ _ _) := box_new6 wr x
      have HRK : Hid ([80, 71, (l.length : Int)] ++ rowsI ⟨#[]⟩ (l.take (k + 1)) = ([80, 71, (l.length : Int)] ++ rowsI ⟨#[]⟩ (l.take k)) ++ rowI (lastK ⟨#[]⟩ (l.take k)) x) := by show _ = _; rw [HR.out, List.append_assoc]
      have hwb := hb.size
      generalize lastK ⟨#[]⟩ (l.take k) = pk at *
      generalize [80, 71, (l.length : Int)] ++ rowsI ⟨#[]⟩ (l.take k) = bs at *
      obtain ⟨y0, y1, y2⟩ := hsz
      obtain ⟨bx, HX0⟩ : ∃ bx, Hid (bx = wr.heap.size) := ⟨_, rfl⟩
      clear hE hx hS hb hY HR hrl
      go_wp2_with fail
      rw [← HX0.out] at HXX
      rw [← HX0.out]
      go_loopw [7] (fun i wr2 => SpIn w u3 bs x bx pk i wr2) (fun i _ => pk.size - (intOf i).toNat)
      case atStart => exact ⟨0, rfl, Nat.zero_le _, Nat.zero_le _, by simp [shB], HYX.out, HXX.out, HBX.out⟩
      case round =>
        clear HYX HXX HBX HX0 a0 a1 a2 hbl hwb
        obtain ⟨n, rfl, hn1, hn2, hR, hY, hX, hb⟩ := hrel
        obtain ⟨q0, q1, q2⟩ := hX.cells
        have hxl := hX.lt
        have HY : Hid (By6 _ _ _ _) := hY
        have HX : Hid (BoxR6 _ _ _) := hX
        have HBW : Hid (Below w.heap.size w wr) := hb
        have HRn : Hid _ := hR
        clear hY hX hR hb
        by_cases hst : n < pk.size ∧ n < x.key.size ∧ bAt pk n = bAt x.key n
        · obtain ⟨c1, c2, hq⟩ := hst
          have d1 : (n : Int) < (pk.size : Int) := by omega
          have d2 : (n : Int) < (x.key.size : Int) := by omega
          have x1 := index_str pk n c1
          have x2 := index_str x.key n c2
          have HN : Hid (n + 1 + shL (pk.data.toList.drop (n + 1)) (x.key.data.toList.drop (n + 1)) = shB pk x.key) := by
            show _ = _
            rw [← HRn.out, bAt_drop c1, bAt_drop c2, shL, if_pos hq]; omega
          rw [hq] at x1
          clear HRn hq
          go_wp2
          go_quiet (fail)
          go_wp2
          exact ⟨⟨n + 1, by go_num, c1, c2, HN.out, HY.out.below (drew_below6 _), HX.out.below (drew_below6 _), HBW.out.trans ((drew_below6 _).mono HBW.out.size)⟩, by simp [intOf]; omega⟩
        · have hsn : shB pk x.key = n := by
            have h := HRn.out
            by_cases c1 : n < pk.size
            · by_cases c2 : n < x.key.size
              · rw [bAt_drop c1, bAt_drop c2, shL, if_neg (fun hq => hst ⟨c1, c2, hq⟩)] at h
                omega
              · rw [shL_end2 _ _ (drop_end c2)] at h; omega
            · rw [shL_end1 _ _ (drop_end c1)] at h; omega
          have h3 : ¬ n < pk.size ∨ (n < pk.size ∧ ¬ n < x.key.size) ∨ (n < pk.size ∧ n < x.key.size ∧ ((bAt pk n).toNat : Int) ≠ ((bAt x.key n).toNat : Int)) := by
            by_cases c1 : n < pk.size
            · by_cases c2 : n < x.key.size
              · exact .inr (.inr ⟨c1, c2, fun h => hst ⟨c1, c2, UInt8.toNat_inj.1 (by omega)⟩⟩)
              · exact .inr (.inl ⟨c1, c2⟩)
            · exact .inl c1
          have HRX : Hid (rowI pk x = [(n : Int), (x.key.size : Int) - (n : Int), (x.text.size : Int), (x.val.size : Int)] ++ bI (x.key.extract n x.key.size) ++ bI x.text ++ bI x.val) := by show _ = _; rw [row_num, hsn]
          have hex := extract_size x.key n hn2
          have HEX : Hid _ := hex
          clear hst hsn HRn hex
          rcases h3 with c1 | ⟨c1, c2⟩ | ⟨c1, c2, hq⟩
          all_goals (first
            | (have d0 : ¬ n < pk.size := c1
               go_wp2
               have d1 : decide ((n : Int) < (pk.size : Int)) = false := decide_eq_false (by omega)
               go_quiet (fail))
            | (have d0 : ¬ n < x.key.size := c2
               have e1 : (n : Int) < (pk.size : Int) := by omega
               go_wp2
               have d1 : decide ((n : Int) < (x.key.size : Int)) = false := decide_eq_false (by omega)
               go_quiet (fail))
            | (have d0 : ((bAt pk n).toNat : Int) ≠ ((bAt x.key n).toNat : Int) := hq
               have e1 : (n : Int) < (pk.size : Int) := by omega
               have e2 : (n : Int) < (x.key.size : Int) := by omega
               have x1 := index_str pk n c1
               have x2 := index_str x.key n c2
               generalize ((bAt pk n).toNat : Int) = z1 at *
               generalize ((bAt x.key n).toNat : Int) = z2 at *
               clear hq
               go_wp2
               go_quiet (fail)))
          all_goals
            obtain ⟨w2, HW2⟩ : ∃ w2, Hid (w2 = wr.drewN nq) := ⟨_, rfl⟩
            have Y2 : By6 w2 w.heap.size u3 bs := by rw [HW2.out]; exact HY.out.below (drew_below6 _)
            have X2 : BoxR6 w2 bx x := by rw [HW2.out]; exact HX.out.below (drew_below6 _)
            have B2 : Below w.heap.size w w2 := by rw [HW2.out]; exact HBW.out.trans ((drew_below6 _).mono HBW.out.size)
            rw [← HW2.out]
            clear HW2 HY HX HBW q0 q1 q2 hxl
            obtain ⟨q0, q1, q2⟩ := X2.cells
            have hxl := X2.lt
            have hs2 := B2.size
            unfold By6 at Y2
            go_wp2_with (at_builtin; refine wpList_append_own _ rfl _ _ 22 rfl w.heap.size 5 i0 (.int .u8 0) 1 1 Tryd.underlying22 hi0 hz0 hs0 hy0 rfl (by decide) _ _ _ rfl (Y2.alloc _) ⟨w2.heap.size, 0, none⟩ 4 4 [.int .u8 (n : Int), .int .u8 ((x.key.size : Int) - (n : Int)), .int .u8 (x.text.size : Int), .int .u8 (x.val.size : Int)] rfl rfl (cells4_at _ _ _ _ _ _ _ (by simp)) (fun u hu => by simp at hu; rcases hu with rfl | rfl | rfl | rfl <;> rfl) (by unfold maxLen; omega) (by omega) (by simp; omega) ?_)
            intro v4 w4 ho4 hg4 _
            have X4 := (X2.alloc (.cells #[.int .u8 (n : Int), .int .u8 ((x.key.size : Int) - (n : Int)), .int .u8 (x.text.size : Int), .int .u8 (x.val.size : Int)] 5)).kept (Y2.alloc _) hg4
            have B4 : Below w.heap.size w w4 := below_app6 (B2.alloc B2.size _) (Y2.alloc _) hg4 (by simp; omega)
            have I4 : By6 w4 w.heap.size v4 (bs ++ [(n : Int), (x.key.size : Int) - (n : Int), (x.text.size : Int), (x.val.size : Int)]) := By6.app (n := 4) rfl ho4
            clear q0 q1 q2 hxl hg4 ho4 Y2 X2 B2 hs2
            have hez : (x.key.extract n x.key.size).size ≤ 255 := by have := HEX.out; omega
            have Y4 := I4
            unfold By6 at Y4
            have hl4 : (bs ++ [(n : Int), (x.key.size : Int) - (n : Int), (x.text.size : Int), (x.val.size : Int)]).length ≤ 196102 := by simp only [List.length_append, List.length_cons, List.length_nil]; omega
            obtain ⟨q0, q1, q2⟩ := X4.cells
            have hxl := X4.lt
            have hs4 := B4.size
            generalize hbs4 : (bs ++ [(n : Int), (x.key.size : Int) - (n : Int), (x.text.size : Int), (x.val.size : Int)]) = b4 at *
            have HE4 : Hid _ := hbs4
            clear hbs4
            go_wp2_with (at_builtin; refine Lib.wpList_append_own_string _ rfl _ _ 22 9 rfl w.heap.size 5 i0 Tryd.underlying22 Tryd.underlying9 hi0 hz0 hs0 hy0 _ _ _ rfl Y4 (x.key.extract n x.key.size) rfl (by unfold maxLen; omega) (by omega) (by omega) ?_)
            intro v5 w5 ho5 hg5 _
            have X5 := X4.kept Y4 hg5
            have B5 : Below w.heap.size w w5 := below_app6 B4 Y4 hg5 (by omega)
            have I5 : By6 w5 w.heap.size v5 (b4 ++ bI (x.key.extract n x.key.size)) := By6.str HEX.out.symm ho5
            clear q0 q1 q2 hxl hg5 ho5 Y4 X4 B4 hs4 I4
            have Y5 := I5
            unfold By6 at Y5
            have hl5 : (b4 ++ bI (x.key.extract n x.key.size)).length ≤ 196357 := by simp only [List.length_append, bI_len]; omega
            obtain ⟨q0, q1, q2⟩ := X5.cells
            have hxl := X5.lt
            have hs5 := B5.size
            generalize hbs5 : (b4 ++ bI (x.key.extract n x.key.size)) = b5 at *
            have HE5 : Hid _ := hbs5
            clear hbs5
            go_wp2_with (at_builtin; refine Lib.wpList_append_own_string _ rfl _ _ 22 9 rfl w.heap.size 5 i0 Tryd.underlying22 Tryd.underlying9 hi0 hz0 hs0 hy0 _ _ _ rfl Y5 x.text rfl (by unfold maxLen; omega) (by omega) (by omega) ?_)
            intro v6 w6 ho6 hg6 _
            have X6 := X5.kept Y5 hg6
            have B6 : Below w.heap.size w w6 := below_app6 B5 Y5 hg6 (by omega)
            have I6 : By6 w6 w.heap.size v6 (b5 ++ bI x.text) := By6.str rfl ho6
            clear q0 q1 q2 hxl hg6 ho6 Y5 X5 B5 hs5 I5
            have Y6 := I6
            unfold By6 at Y6
            have hl6 : (b5 ++ bI x.text).length ≤ 196612 := by simp only [List.length_append, bI_len]; omega
            obtain ⟨q0, q1, q2⟩ := X6.cells
            have hxl := X6.lt
            have hs6 := B6.size
            generalize hbs6 : (b5 ++ bI x.text) = b6 at *
            have HE6 : Hid _ := hbs6
            clear hbs6
            go_wp2_with (at_builtin; refine Lib.wpList_append_own_string _ rfl _ _ 22 9 rfl w.heap.size 5 i0 Tryd.underlying22 Tryd.underlying9 hi0 hz0 hs0 hy0 _ _ _ rfl Y6 x.val rfl (by unfold maxLen; omega) (by omega) (by omega) ?_)
            intro v7 w7 ho7 hg7 _
            have X7 := X6.kept Y6 hg7
            have B7 : Below w.heap.size w w7 := below_app6 B6 Y6 hg7 (by omega)
            have I7 : By6 w7 w.heap.size v7 (b6 ++ bI x.val) := By6.str rfl ho7
            clear q0 q1 q2 hxl hg7 ho7 Y6 X6 B6 hs6 I6
            obtain ⟨q0, q1, q2⟩ := X7.cells
            have hxl := X7.lt
            have HI7 : Hid (By6 _ _ _ _) := I7
            have HB7 : Hid (Below _ _ _) := B7
            clear I7 X7 B7
            go_wp2
            refine ⟨⟨k + 1, hlt, by go_num, ?_, by rw [HK.out], HB7.out⟩, by simp [intOf]; omega⟩
            rw [HRK.out, HRX.out]
            have h := HI7.out
            rw [← HE6.out, ← HE5.out, ← HE4.out] at h
            simpa only [List.append_assoc] using h
    · have hkz : k = l.length := by omega
      subst hkz
      rw [take_fullR] at hY
      have CV := conv_by6 hY
      rw [show [80, 71, (l.length : Int)] ++ rowsI ⟨#[]⟩ l = pageI l from rfl] at CV
      clear hS hY
      go_wp2
      go_ret
      exact ⟨rfl, hb⟩
end Go.Proofs.YtbgomhgohphglaaDoor
