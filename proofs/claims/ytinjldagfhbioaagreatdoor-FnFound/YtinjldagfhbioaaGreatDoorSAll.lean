/- Contracts of the specification's l2All (a rune taken apart till nothing more can be), l2D and NormalD. -/
import Derived.Test.YtinjldagfhbioaaGreatDoorApart2
namespace Go.Proofs.YtinjldagfhbioaaGreatDoor
open Go.RowKit

theorem full_ne (n : Nat) (r : Int) : 1 ≤ (full n r).length := by
  induction n generalizing r with
  | zero => simp [full]
  | succ n ih =>
    by_cases h : apart r = [r]
    · rw [full_leaf h]; simp
    · rw [full_go h]
      have h1 := (apart_len r).1
      cases ha : apart r with
      | nil => rw [ha] at h1; simp at h1
      | cons x l => simp only [List.flatMap_cons, List.length_append]; have := ih x; omega

theorem take_flat {f : Int → List Int} {zs : List Int} {k : Nat} {x : Int} (h : zs[k]? = some x) : (zs.take (k + 1)).flatMap f = (zs.take k).flatMap f ++ f x := by
  rw [List.take_add_one, h]; simp [List.flatMap_append]

theorem take_flat_len {f : Int → List Int} {n : Nat} (zs : List Int) (k : Nat) (h : ∀ x, (f x).length ≤ n) : ((zs.take k).flatMap f).length ≤ zs.length * n := by
  have h1 := flatMap_len f n (zs.take k) h
  have h2 : (zs.take k).length ≤ zs.length := by simp; omega
  exact Nat.le_trans h1 (Nat.mul_le_mul_right _ h2)

theorem ints_some {w : World} {B : Nat} {v : Value} {zs : List Int} (h : Ints w B v zs) (hz : 1 ≤ zs.length) : ∃ g cap, v = .slice (some ⟨g, 0, none⟩) zs.length cap := by
  rcases h.form with ⟨_, rfl⟩ | ⟨g, cap, rfl, _, _⟩
  · simp at hz
  · exact ⟨g, cap, rfl⟩

theorem ints_at0 {w : World} {B g cap : Nat} {zs : List Int} (h : Ints w B (.slice (some ⟨g, 0, none⟩) zs.length cap) zs) (j : Nat) (x : Int) (hj : zs[j]? = some x) : w.cell? ⟨g, j, none⟩ = some (.int .i64 x) := by
  have h1 := (List.getElem?_eq_some_iff.1 hj).1
  have := h.cell j h1
  rw [hj] at this
  exact this

/-- The cells of a row that is appended. -/
theorem news_of {w : World} {B g cap : Nat} {zs : List Int} (h : Ints w B (.slice (some ⟨g, 0, none⟩) zs.length cap) zs) : ∀ j u, (zs.map (Value.int .i64))[j]? = some u → w.cell? ((⟨g, 0, none⟩ : Addr).add j) = some u := by
  intro j u hu
  rw [List.getElem?_map, Option.map_eq_some_iff] at hu
  obtain ⟨y, hy, rfl⟩ := hu
  rw [show (⟨g, 0, none⟩ : Addr).add j = ⟨g, j, none⟩ by unfold Addr.add; split <;> simp_all]
  exact ints_at0 h j y hy

theorem ints_joined {w : World} {B g cap : Nat} {xs ys : List Int} (h : w.ownsRow B 3 1 (.slice (some ⟨g, 0, none⟩) (xs.length + ys.length) cap) (xs.length + ys.length) (xs.map (Value.int .i64) ++ ys.map (Value.int .i64))) :
    Ints w B (.slice (some ⟨g, 0, none⟩) (xs.length + ys.length) cap) (xs ++ ys) := by
  unfold Ints
  rw [List.length_append, List.map_append]; exact h

/-- So far taken apart: the first k runes of the list. -/
def FRel (w1 : World) (f : Int → List Int) (ls : List Int) (out i : Value) (wr : World) : Prop :=
  ∃ k : Nat, k ≤ ls.length ∧ i = .int .i64 k ∧ Ints wr w1.heap.size out ((ls.take k).flatMap f) ∧ Below w1.heap.size w1 wr

theorem frel_step {w1 w2 w3 wr : World} {f : Int → List Int} {ls : List Int} {k : Nat} {x : Int} {out : Value} {g cap n m : Nat} (hk : k < ls.length) (hx : ls[k]? = some x) (hn : ((ls.take k).flatMap f).length = n) (hm : (f x).length = m)
    (hb : Below w1.heap.size w1 wr) (hb2 : Below wr.heap.size wr w2) (ho : Ints w2 w1.heap.size out ((ls.take k).flatMap f)) (hgr : w2.grownBy w3 out.ownBlock)
    (hown : w3.ownsRow w1.heap.size 3 1 (.slice (some ⟨g, 0, none⟩) (n + m) cap) (n + m) (((ls.take k).flatMap f).map (Value.int .i64) ++ (f x).map (Value.int .i64))) :
    FRel w1 f ls (.slice (some ⟨g, 0, none⟩) (n + m) cap) (.int .i64 ((k : Int) + 1)) w3 := by
  subst hn
  subst hm
  refine ⟨k + 1, hk, by go_num, ?_, Below.grown (hb.trans (hb2.mono hb.size)) hgr (Nat.le_trans hb.size hb2.size) (fun j hj => (World.ownsRow.lt ho j hj).1)⟩
  rw [take_flat hx]
  exact ints_joined hown

set_option maxRecDepth 100000 in
set_option maxHeartbeats 2000000 in
theorem all_leaf (n : Nat) (r : Int) (w : World) (h : apart r = [r]) : Calls Tryz.prog 61 #[.int .i64 r] w fun e w' => ∃ v, e = .returned v ∧ Ints w' w.heap.size v (full n r) ∧ Below w.heap.size w w' := by
  have A := apart_any w r
  rw [full_leaf h]
  rw [h] at A
  clear h
  go_enter Tryz.func61, Tryz.ntmps61
  go_wp2_with fail
  refine A.mono ?_
  rintro e w1 ⟨v, rfl, hI, hb⟩
  obtain ⟨g, cap, rfl⟩ := ints_some hI (by simp)
  have c0 := ints_at0 hI 0 r rfl
  simp only [List.length_cons, List.length_nil] at hI
  clear A
  go_wp2
  go_ret
  exact ⟨_, rfl, hI, hb⟩

set_option maxRecDepth 100000 in
set_option maxHeartbeats 2000000 in
theorem all_n (n : Nat) (hn2 : n ≤ 2) : ∀ (r : Int) (w : World), levB n r = true → Calls Tryz.prog 61 #[.int .i64 r] w fun e w' => ∃ v, e = .returned v ∧ Ints w' w.heap.size v (full n r) ∧ Below w.heap.size w w' := by
  induction n with
  | zero => exact fun r w h => all_leaf 0 r w (levB_zero h)
  | succ n ih0 =>
    intro r w hlev
    have ih := ih0 (by omega)
    by_cases hl : apart r = [r]
    · exact all_leaf _ r w hl
    · have hlv := (levB_succ hlev).resolve_left hl
      have A := apart_any w r
      have hal := apart_len r
      have HF : Hid (full (n + 1) r = (apart r).flatMap (full n)) := full_go hl
      have IH : Hid (∀ x ∈ apart r, ∀ w, Calls Tryz.prog 61 #[.int .i64 x] w fun e w' => ∃ v, e = .returned v ∧ Ints w' w.heap.size v (full n x) ∧ Below w.heap.size w w') := fun x hx w => ih x w (hlv x hx)
      clear ih ih0 hlev hlv
      generalize apart r = ls at *
      obtain ⟨i0, hi, hzz, hz1, hz2⟩ := info_parts info_int
      have HL : Hid (∀ x, (full n x).length ≤ 9) := fun x => Nat.le_trans (full_len n x) (Nat.le_trans (Nat.pow_le_pow_right (by omega) (show n ≤ 2 by omega)) (by decide))
      have HB : Hid (∀ k, ((ls.take k).flatMap (full n)).length ≤ 27) := fun k => Nat.le_trans (take_flat_len ls k HL.out) (by omega)
      obtain ⟨hal1, hal2⟩ := hal
      by_cases h1 : ls.length = 1
      · obtain ⟨y, hy⟩ : ∃ y, ls[0]? = some y := ⟨_, List.getElem?_eq_getElem (by omega)⟩
        have hyr : (y == r) = false := by
          simp only [beq_eq_false_iff_ne, ne_eq]
          intro e
          subst e
          apply hl
          match ls, h1, hy with
          | [z], _, hy => simp at hy; rw [hy]
        have h1' : ((ls.length : Int) == 1) = true := by simp; omega
        have h1'' : (0 : Int) < (ls.length : Int) := by omega
        clear hl
        go_enter Tryz.func61, Tryz.ntmps61
        go_wp2_with fail
        refine A.mono ?_
        rintro e w1 ⟨v, rfl, hI, hb⟩
        obtain ⟨g, cap, rfl⟩ := ints_some hI (by omega)
        have c0 := ints_at0 hI 0 y hy
        clear A hy h1
        go_wp2_with fail
        go_loopw [4, 22] (fun out i wr => FRel w1 (full n) ls out i wr) (fun _ i _ => ls.length - (intOf i).toNat)
        case atStart => exact ⟨0, Nat.zero_le _, rfl, ⟨rfl, .inl ⟨rfl, rfl⟩⟩, Below.refl _ _⟩
        case round =>
          obtain ⟨k, hk, rfl, ho, hbr⟩ := hrel
          by_cases hlt : k < ls.length
          · obtain ⟨x, hx⟩ : ∃ x, ls[k]? = some x := ⟨_, List.getElem?_eq_getElem hlt⟩
            have c1 := ints_at0 (hI.below hbr) k x hx
            have CA := IH.out x (List.mem_of_getElem? hx) wr
            obtain ⟨N, hN⟩ : ∃ N, ((ls.take k).flatMap (full n)).length = N := ⟨_, rfl⟩
            have hNb : N ≤ 27 := by rw [← hN]; exact HB.out k
            have HX1 : Hid _ := hx
            have HN : Hid _ := hN
            clear hx hN
            go_wp2_with fail
            refine CA.mono ?_
            rintro e w2 ⟨vx, rfl, hIx, hb2⟩
            obtain ⟨gx, capx, rfl⟩ := ints_some hIx (full_ne n x)
            have ho3 := ho.below hb2
            unfold Ints at ho3
            rw [HN.out] at ho3
            have news := news_of hIx
            obtain ⟨M, hM⟩ : ∃ M, (full n x).length = M := ⟨_, rfl⟩
            have hMb : 1 ≤ M ∧ M ≤ 9 := by rw [← hM]; exact ⟨full_ne n x, HL.out x⟩
            rw [hM]
            have HM : Hid _ := hM
            have hsz := Nat.le_trans hbr.size hb2.size
            clear CA c1 hM
            go_wp2_with (at_builtin; refine wpList_append_lies _ rfl _ _ 35 rfl w1.heap.size 3 i0 (.int .i64 0) 1 8 Tryz.underlying35 hi hzz hz1 hz2 rfl (by decide) _ N _ rfl ho3 ⟨gx, 0, none⟩ M capx ((full n x).map (Value.int .i64)) rfl (by rw [List.length_map, HM.out, Nat.mul_one]) news (fun u hu => by obtain ⟨y, _, rfl⟩ := List.mem_map.1 hu; rfl) (by omega) (by unfold maxLen; omega) (by omega) hsz w2.heap.size rfl ?_; intro g' cap' w3 hown hgr hgg hlt')
            exact ⟨frel_step hlt HX1.out HN.out HM.out hbr hb2 (ho.below hb2) hgr hown, by simp [intOf]; omega⟩
          · have hk3 : k = ls.length := by omega
            subst hk3
            rw [List.take_length] at ho
            go_wp2
            go_ret
            rw [HF.out]
            exact ⟨_, rfl, ints_low2 ho hb.size, hb.trans (hbr.mono hb.size)⟩
      · have h1' : ((ls.length : Int) == 1) = false := by simp; omega
        clear hl h1
        go_enter Tryz.func61, Tryz.ntmps61
        go_wp2_with fail
        refine A.mono ?_
        rintro e w1 ⟨v, rfl, hI, hb⟩
        obtain ⟨g, cap, rfl⟩ := ints_some hI (by omega)
        clear A
        go_wp2_with fail
        go_loopw [4, 22] (fun out i wr => FRel w1 (full n) ls out i wr) (fun _ i _ => ls.length - (intOf i).toNat)
        case atStart => exact ⟨0, Nat.zero_le _, rfl, ⟨rfl, .inl ⟨rfl, rfl⟩⟩, Below.refl _ _⟩
        case round =>
          obtain ⟨k, hk, rfl, ho, hbr⟩ := hrel
          by_cases hlt : k < ls.length
          · obtain ⟨x, hx⟩ : ∃ x, ls[k]? = some x := ⟨_, List.getElem?_eq_getElem hlt⟩
            have c1 := ints_at0 (hI.below hbr) k x hx
            have CA := IH.out x (List.mem_of_getElem? hx) wr
            obtain ⟨N, hN⟩ : ∃ N, ((ls.take k).flatMap (full n)).length = N := ⟨_, rfl⟩
            have hNb : N ≤ 27 := by rw [← hN]; exact HB.out k
            have HX1 : Hid _ := hx
            have HN : Hid _ := hN
            clear hx hN
            go_wp2_with fail
            refine CA.mono ?_
            rintro e w2 ⟨vx, rfl, hIx, hb2⟩
            obtain ⟨gx, capx, rfl⟩ := ints_some hIx (full_ne n x)
            have ho3 := ho.below hb2
            unfold Ints at ho3
            rw [HN.out] at ho3
            have news := news_of hIx
            obtain ⟨M, hM⟩ : ∃ M, (full n x).length = M := ⟨_, rfl⟩
            have hMb : 1 ≤ M ∧ M ≤ 9 := by rw [← hM]; exact ⟨full_ne n x, HL.out x⟩
            rw [hM]
            have HM : Hid _ := hM
            have hsz := Nat.le_trans hbr.size hb2.size
            clear CA c1 hM
            go_wp2_with (at_builtin; refine wpList_append_lies _ rfl _ _ 35 rfl w1.heap.size 3 i0 (.int .i64 0) 1 8 Tryz.underlying35 hi hzz hz1 hz2 rfl (by decide) _ N _ rfl ho3 ⟨gx, 0, none⟩ M capx ((full n x).map (Value.int .i64)) rfl (by rw [List.length_map, HM.out, Nat.mul_one]) news (fun u hu => by obtain ⟨y, _, rfl⟩ := List.mem_map.1 hu; rfl) (by omega) (by unfold maxLen; omega) (by omega) hsz w2.heap.size rfl ?_; intro g' cap' w3 hown hgr hgg hlt')
            exact ⟨frel_step hlt HX1.out HN.out HM.out hbr hb2 (ho.below hb2) hgr hown, by simp [intOf]; omega⟩
          · have hk3 : k = ls.length := by omega
            subst hk3
            rw [List.take_length] at ho
            go_wp2
            go_ret
            rw [HF.out]
            exact ⟨_, rfl, ints_low2 ho hb.size, hb.trans (hbr.mono hb.size)⟩

theorem all_any (r : Int) (w : World) : Calls Tryz.prog 61 #[.int .i64 r] w fun e w' => ∃ v, e = .returned v ∧ Ints w' w.heap.size v (all2 r) ∧ Below w.heap.size w w' := all_n 2 (Nat.le_refl _) r w (lev2 r)
end Go.Proofs.YtinjldagfhbioaaGreatDoor
