/- Contract of the program's PageBytes. -/
import Derived.Test.YtbgomhgohphglaaDoorBy6
import Derived.Test.YtbgomhgohphglaaDoorISh6
import Derived.Test.YtbgomhgohphglaaDoorIGood6
import Derived.Deep.RegionHeldLaw
import Derived.Deep.RegionLaw
import Derived.Lib.SmallJoins
import Derived.ArgAppend
namespace Go.Proofs.YtbgomhgohphglaaDoor
open Go.RowKit

theorem step_append_str {w : World} {ops : Array Oper} {o : Oper} {a : Act} {K : Act → World → Prop} {Q : Exit → Act → World → Prop} {E : Prop} (hgd : o.guard = none) (sl x : Operand)
    (ho : o.op = .call { callee := .builtin .append, args := #[sl, x], argTypes := #[22, 9] }) (base : Nat)
    (v : Value) (bs : List Int) (hs : a.eval sl = v) (hown : By6 w base v bs) (s : ByteArray) (hx : a.eval x = .string s) (h63 : bs.length + s.size ≤ 1099511627776) (hbase : base ≤ w.heap.size)
    (h : ∀ v' w', By6 w' base v' (bs ++ bI s) → w.grownBy w' v.ownBlock → K (a.put o.dst v') w') :
    if Region.wanted o (yielded ops a.tmps) = true then Oper.wp Tryd.prog o a w K Q else E := by
  rw [if_pos (by simp [Region.wanted, hgd])]
  obtain ⟨i0, hi0, hz0, hs0, hy0⟩ := info_parts info_u8'
  obtain ⟨v', w', hr, h2, h3, h4⟩ := Lib.run_append_own_string (P := Tryd.prog) w base 22 9 o.type 5 i0 Tryd.underlying22 Tryd.underlying9 hi0 hz0 hs0 hy0 v bs.length _ hown s (by unfold maxLen; omega) (by omega) hbase
  unfold Oper.wp execOp
  simp only [ho, resolve, invoke, builtin, Sem.run_bind, Sem.run_pure, Result.andThen_ok, List.map_toArray, List.map_cons, List.map_nil, hs, hx, hr]
  exact h v' w' (By6.str rfl h2) h3

theorem grown_drews6 {w w' : World} {row : Option Nat} (h : w.drew.grownBy w' row) : w.grownBy w' row := ⟨h.os, h.tape, h.output, h.size, h.block⟩

def IpRel (W : World) (B : Nat) (l : List Rw) (v4 v5 i : Value) (wr : World) : Prop :=
  ∃ k : Nat, k ≤ l.length ∧ i = .int .i64 k ∧ By6 wr B v4 ([80, 71, (l.length : Int)] ++ rowsI ⟨#[]⟩ (l.take k)) ∧ v5 = .string (lastK ⟨#[]⟩ (l.take k)) ∧ Below B W wr

theorem pbT_ok {l : List Rw} (h : okPB l = true) : pbT l = byT (pageI l) := by unfold pbT; rw [if_pos h]
theorem pbT_no {l : List Rw} (h : okPB l = false) : pbT l = ⟨#[]⟩ := by unfold pbT; rw [h]; rfl

theorem drew_heap6 {w w' : World} (n : Nat) (h : w' = w.drewN n) : Below w.heap.size w w' := by subst h; exact ⟨rfl, rfl, rfl, Nat.le_refl _, fun _ _ => rfl⟩

theorem row_num' (p : ByteArray) (x : Rw) : rowI p x = [(shB p x.key : Int), (x.key.size : Int) - (shB p x.key : Int), (x.text.size : Int), (x.val.size : Int)] ++ bI (x.key.extract (shB p x.key) x.key.size ++ x.text ++ x.val) := by
  unfold rowI
  rw [bI_append, bI_append, List.append_assoc, List.append_assoc, List.append_assoc]

set_option maxRecDepth 100000 in
set_option maxHeartbeats 4000000 in
theorem implPB_any {w : World} {a : Option Addr} {l : List Rw} {cap : Nat} (hS : SlRw w a l) (hl : l.length ≤ 1048576) :
    Calls Tryd.prog 41 #[.slice a l.length cap] w fun e w' => e = .returned (.tuple #[.string (pbT l), .bool (okPB l)]) ∧ Below w.heap.size w w' := by
  have GR := implGR_any (cap := cap) hS (by omega)
  by_cases h0 : l.length = 0
  · have hok : okPB l = false := by unfold okPB; rw [h0]; rfl
    rw [hok, pbT_no hok, h0]
    clear GR hS hok
    go_enter Tryd.func41, Tryd.ntmps41
    go_wp2
    go_ret2
    exact ⟨rfl, Below.refl _ _⟩
  · have hn0 : ((l.length : Int) == 0) = false := by rw [beq_eq_false_iff_ne]; omega
    cases hg : goodR l
    · have hok : okPB l = false := by unfold okPB; rw [hg, Bool.and_false]; rfl
      rw [hok, pbT_no hok]
      rw [hg] at GR
      clear hS hok hg
      go_enter Tryd.func41, Tryd.ntmps41
      go_wp2_with fail
      refine GR.mono ?_
      rintro e w2 ⟨rfl, b2⟩
      clear GR
      go_wp2
      go_ret2
      exact ⟨rfl, b2⟩
    · have hB := goodR_RwB hg
      rw [hg] at GR
      have FT := fun (u : World) (hu : Below w.heap.size w u) => fit_any (cap := cap) (hS.below hu (Nat.le_refl _)) hB
      by_cases hf : (pageI l).length ≤ 300
      · have hok : okPB l = true := by unfold okPB; rw [hg, decide_eq_true hf, show (l.length == 0) = false from by simpa using h0]; rfl
        rw [hok, pbT_ok hok]
        rw [decide_eq_true hf] at FT
        have HB : Hid (RwB l) := hB
        have hl5 := hB.1
        clear hok hg hB hf
        obtain ⟨i0, hi0, hz0, hs0, hy0⟩ := info_parts info_u8'
        go_enter Tryd.func41, Tryd.ntmps41
        go_wp2_with fail
        refine GR.mono ?_
        rintro e w2 ⟨rfl, b2⟩
        have F2 := FT _ b2
        clear GR FT
        go_wp2_with fail
        refine F2.mono ?_
        rintro e w3 ⟨rfl, b3⟩
        have B3 : Below w.heap.size w w3 := b2.trans (b3.mono b2.size)
        have HS3 : Hid (SlRw w3 a l) := hS.below B3 (Nat.le_refl _)
        have hs3 := B3.size
        clear F2 b2 b3 hS
        have CV := Joins.run_convert_bytes_const_at (P := Tryd.prog) w3 22 5 #[.int .u8 80, .int .u8 71] 2 2 w3.heap.size rfl Tryd.underlying22 Tryd.underlying5
        go_wp2_with (at_builtin; refine wpList_append_grows _ rfl _ _ 22 rfl 5 i0 (.int .u8 0) 1 1 Tryd.underlying22 hi0 hz0 hs0 hy0 rfl (by decide) (some ⟨w3.heap.size, 0, none⟩) 2 2 [.int .u8 80, .int .u8 71] rfl (fun h => by cases h) rfl (olds2_at6 _ _ rfl _ _ _ _ _) ⟨w3.heap.size + 1, 0, none⟩ 1 1 [.int .u8 (l.length : Int)] rfl rfl (cells1_at6 _ _ _ _ (by simp)) (fun u hu => by simp at hu; subst hu; rfl) (by decide) (by unfold maxLen; omega) (by omega) ?_)
        intro v4 w4 ho4 hg4
        have I4 : By6 w4 w3.heap.size v4 ([80, 71] ++ [(l.length : Int)]) := By6.app (n := 1) rfl (Joins.ownsRow_le ho4 (by omega))
        have B4 : Below w3.heap.size w3 w4 := Below.grown (((Below.refl w3.heap.size w3).alloc (Nat.le_refl _) _).alloc (by simp) _) hg4 (by simp; omega) (fun j hj => by cases hj)
        have HI4 : Hid (By6 _ _ _ _) := I4
        have HB4 : Hid (Below _ _ _) := B4
        have HB3 : Hid (Below _ _ _) := B3
        clear CV ho4 hg4 I4 B4 B3
        go_wp2
        go_loopw [4, 5, 31] (fun v4 v5 i wr => IpRel w3 w3.heap.size l v4 v5 i wr) (fun _ _ i _ => l.length - (intOf i).toNat)
        case atStart => exact ⟨0, Nat.zero_le _, rfl, HI4.out, rfl, HB4.out⟩
        case round =>
          clear HI4 HB4
          obtain ⟨k, hk, rfl, hY, rfl, hb⟩ := hrel
          by_cases hlt : k < l.length
          · obtain ⟨x, hx⟩ : ∃ x, l[k]? = some x := ⟨_, List.getElem?_eq_getElem hlt⟩
            have hS2 := HS3.out.below hb (Nat.le_refl _)
            rcases hS2 with rfl | ⟨b, o, rfl, hE⟩
            · simp at hx
            obtain ⟨a0, a1, a2⟩ := hE k x hx
            have hbl := rw_cell_lt a0
            have hk8 : (k : Int) < (l.length : Int) := by omega
            have hsz := HB.out.at hx
            have hpl := lastK_take_le HB.out k
            have hrl := take_len_le HB.out k
            have HR : Hid _ := rowsI_take ⟨#[]⟩ hx
            have HK : Hid _ := lastK_take ⟨#[]⟩ hx
            have hnl : ([80, 71, (l.length : Int)] ++ rowsI ⟨#[]⟩ (l.take k)).length ≤ 196098 := by rw [List.length_append]; simp; omega
            have BX : Below w3.heap.size w3 (wr.alloc (.cells #[.string x.key, .string x.text, .string x.val] 32)) := hb.alloc hb.size _
            have YX : By6 (wr.alloc (.cells #[.string x.key, .string x.text, .string x.val] 32)) w3.heap.size _ _ := hY.below ((Below.refl _ _).alloc (Nat.le_refl _) _)
            have XX : BoxR6 _ _ _ := box_new6 wr x
            have HRK : Hid ([80, 71, (l.length : Int)] ++ rowsI ⟨#[]⟩ (l.take (k + 1)) = ([80, 71, (l.length : Int)] ++ rowsI ⟨#[]⟩ (l.take k)) ++ rowI (lastK ⟨#[]⟩ (l.take k)) x) := by show _ = _; rw [HR.out, List.append_assoc]
            generalize lastK ⟨#[]⟩ (l.take k) = pk at *
            generalize [80, 71, (l.length : Int)] ++ rowsI ⟨#[]⟩ (l.take k) = bs at *
            obtain ⟨y0, y1, y2⟩ := hsz
            have SH := fun u => shared_any pk x.key (by omega) (by omega) u
            have hsl := shB_le2 pk x.key
            have HRX : Hid _ := row_num' pk x
            generalize shB pk x.key = n at *
            have HBX : Hid (Below _ _ _) := BX
            have HYX : Hid (By6 _ _ _ _) := YX
            have HXX : Hid (BoxR6 _ _ _) := XX
            obtain ⟨bx, HX0⟩ : ∃ bx, Hid (bx = wr.heap.size) := ⟨_, rfl⟩
            have HS4 : Hid (SlRw w3 (some ⟨b, o, none⟩) l) := HS3.out
            clear hE hx hb hY HR hrl BX YX XX HS3
            go_wp2_with fail
            refine (SH _).mono ?_
            rintro e w5 ⟨rfl, nq, h5⟩
            have b5 := drew_heap6 nq h5
            have Y5 := HYX.out.below b5
            have X5 := HXX.out.below b5
            have B5 : Below w3.heap.size w3 w5 := HBX.out.trans (b5.mono HBX.out.size)
            clear h5 b5 HYX HXX HBX SH a0 a1 a2 hbl
            rw [← HX0.out] at X5
            rw [← HX0.out]
            obtain ⟨q0, q1, q2⟩ := X5.cells
            have hxl := X5.lt
            have hs5 := B5.size
            unfold By6 at Y5
            go_wp2_with (at_builtin; refine wpList_append_own _ rfl _ _ 22 rfl w3.heap.size 5 i0 (.int .u8 0) 1 1 Tryd.underlying22 hi0 hz0 hs0 hy0 rfl (by decide) _ _ _ rfl (Y5.alloc _) ⟨w5.heap.size, 0, none⟩ 4 4 [.int .u8 (n : Int), .int .u8 ((x.key.size : Int) - (n : Int)), .int .u8 (x.text.size : Int), .int .u8 (x.val.size : Int)] rfl rfl (cells4_at _ _ _ _ _ _ _ (by simp)) (fun u hu => by simp at hu; rcases hu with rfl | rfl | rfl | rfl <;> rfl) (by unfold maxLen; omega) (by omega) (by simp; omega) ?_)
            intro v6 w6 ho6 hg6 _
            have X6 := (X5.alloc (.cells #[.int .u8 (n : Int), .int .u8 ((x.key.size : Int) - (n : Int)), .int .u8 (x.text.size : Int), .int .u8 (x.val.size : Int)] 5)).kept (Y5.alloc _) hg6
            have B6 : Below w3.heap.size w3 w6 := below_app6 (B5.alloc B5.size _) (Y5.alloc _) hg6 (by simp; omega)
            have I6 : By6 w6 w3.heap.size v6 (bs ++ [(n : Int), (x.key.size : Int) - (n : Int), (x.text.size : Int), (x.val.size : Int)]) := By6.app (n := 4) rfl ho6
            clear q0 q1 q2 hxl hg6 ho6 Y5 X5 B5 hs5
            have hl6 : (bs ++ [(n : Int), (x.key.size : Int) - (n : Int), (x.text.size : Int), (x.val.size : Int)]).length ≤ 196102 := by simp only [List.length_append, List.length_cons, List.length_nil]; omega
            obtain ⟨q0, q1, q2⟩ := X6.cells
            have hxl := X6.lt
            have hs6 := B6.size
            generalize hbs6 : bs ++ [(n : Int), (x.key.size : Int) - (n : Int), (x.text.size : Int), (x.val.size : Int)] = b6 at *
            have HE6 : Hid _ := hbs6
            have hez : (x.key.extract n x.key.size ++ x.text ++ x.val).size ≤ 1000 := by rw [ByteArray.size_append, ByteArray.size_append, extract_size _ _ hsl]; omega
            have HZ : Hid _ := hez
            have YD : ∀ u : World, u.heap = w6.heap → By6 u w3.heap.size v6 b6 := fun u hu => by unfold By6 World.ownsRow; rw [hu]; exact I6
            clear hbs6 hez
            go_wp2_with fail
            have hc1 : ¬ 9223372036854775807 < x.key.size - n + x.text.size := by omega
            have hc2 : ¬ 9223372036854775807 < x.key.size - n + x.text.size + x.val.size := by omega
            go_region_law (refine step_append_str rfl (.tmp 58) (.tmp 68) rfl w3.heap.size v6 b6 rfl (YD _ rfl) (x.key.extract n x.key.size ++ x.text ++ x.val) rfl (by have := HZ.out; omega) (by simpa using hs6) ?_; intro v7 w7 I7 hg7)
            all_goals
              have hg7' : w6.grownBy w7 v6.ownBlock := grown_drews6 hg7
              have X7 := X6.kept I6 hg7'
              have B7 : Below w3.heap.size w3 w7 := below_app6 B6 I6 hg7' hs6
              obtain ⟨r0, r1, r2⟩ := X7.cells
              have hxl7 := X7.lt
              have HI7 : Hid (By6 _ _ _ _) := I7
              have HB7 : Hid (Below _ _ _) := B7
              clear I7 X7 B7 hg7 hg7' q0 q1 q2 hxl YD I6 X6 B6 hc1 hc2
              go_wp2
              refine ⟨⟨k + 1, hlt, by go_num, ?_, by rw [HK.out], HB7.out⟩, by simp [intOf]; omega⟩
              rw [HRK.out, HRX.out, ← List.append_assoc, HE6.out]
              exact HI7.out
          · have hkz : k = l.length := by omega
            subst hkz
            rw [take_fullR] at hY
            have CV := conv_by6 hY
            rw [show [80, 71, (l.length : Int)] ++ rowsI ⟨#[]⟩ l = pageI l from rfl] at CV
            have HBF : Hid (Below w.heap.size w wr) := HB3.out.trans (hb.mono HB3.out.size)
            clear HS3 hY
            go_wp2
            go_ret2
            exact ⟨rfl, HBF.out⟩
      · have hok : okPB l = false := by unfold okPB; rw [decide_eq_false hf, Bool.and_false]
        rw [hok, pbT_no hok]
        rw [decide_eq_false hf] at FT
        clear hS hok hg hB hf
        go_enter Tryd.func41, Tryd.ntmps41
        go_wp2_with fail
        refine GR.mono ?_
        rintro e w2 ⟨rfl, b2⟩
        have F2 := FT _ b2
        clear GR FT
        go_wp2_with fail
        refine F2.mono ?_
        rintro e w3 ⟨rfl, b3⟩
        clear F2
        go_wp2
        go_ret2
        exact ⟨rfl, b2.trans (b3.mono b2.size)⟩
end Go.Proofs.YtbgomhgohphglaaDoor
