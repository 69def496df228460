/- Contract of the program's bytes of a book. -/
import Derived.Test.YtbgomhgohphglaaDoorBkV
import Derived.Test.YtbgomhgohphglaaDoorIPage6
import Derived.Deep.AppendLies
import Derived.Maps.AppendAt
namespace Go.Proofs.YtbgomhgohphglaaDoor
open Go.RowKit

theorem info_strB : (Tryd.prog.info? 9).map (fun i => (i.zero, i.size, i.bytes)) = some (some (.string ⟨#[]⟩), 1, 16) := by kernel_rfl

theorem strs_formB {w : World} {B : Nat} {v : Value} {ss : List ByteArray} (h : Strs w B v ss) : ∃ a c, v = .slice a ss.length c := by
  rcases h.form with ⟨rfl, rfl⟩ | ⟨g, cap, rfl, _, _⟩
  · exact ⟨_, _, rfl⟩
  · exact ⟨_, _, rfl⟩

def ByRel (w : World) (gs : List (List Rw)) (f : List Rw → ByteArray) (ok : List Rw → Bool) (v i : Value) (wr : World) : Prop :=
  ∃ k : Nat, k ≤ gs.length ∧ i = .int .i64 (k : Int) ∧ Strs wr w.heap.size v ((gs.take k).map f) ∧ (∀ (j : Nat) (g : List Rw), j < k → gs[j]? = some g → ok g = true) ∧ Below w.heap.size w wr

theorem map_take_succ {gs : List (List Rw)} {k : Nat} {g : List Rw} (f : List Rw → ByteArray) (h : gs[k]? = some g) : (gs.take (k + 1)).map f = (gs.take k).map f ++ [f g] := by
  rw [List.take_add_one, h]
  simp

set_option maxRecDepth 100000 in
set_option maxHeartbeats 4000000 in
theorem bytes_any {w : World} {v : Value} {gs : List (List Rw)} (hV : BkV w v gs) (hl : gs.length ≤ 1048576) (hz : ∀ g ∈ gs, g.length ≤ 1048576) :
    Calls Tryd.prog 29 #[v] w fun e w' => ∃ v', e = .returned (.tuple #[v', .bool (bytF gs).isSome]) ∧ Strs w' w.heap.size v' ((bytF gs).getD []) ∧ Below w.heap.size w w' := by
  obtain ⟨a, c, rfl, hq⟩ := hV
  obtain ⟨R, HR⟩ : ∃ R, Hid (bytF gs = R) := ⟨_, rfl⟩
  rw [HR.out]
  by_cases h40 : gs.length ≤ 40
  · have n40 : ¬ (40 : Int) < (gs.length : Int) := by omega
    have HQ : Hid _ := hq
    have HZ : Hid (∀ g ∈ gs, g.length ≤ 1048576) := hz
    have HV : Hid (BkV w (.slice a gs.length c) gs) := ⟨a, c, rfl, hq⟩
    obtain ⟨i0, hi0, hy0, hy1, hy2⟩ := info_parts info_strB
    clear hq hz
    go_enter Tryd.func29, Tryd.ntmps29
    go_wp2_with fail
    go_loopw [4, 14] (fun v i wr => ByRel w gs pbT okPB v i wr) (fun _ i _ => gs.length - (intOf i).toNat)
    case atStart => exact ⟨0, Nat.zero_le _, rfl, World.ownsRow_nil _ _ _ _, fun j g hj => by omega, Below.refl _ _⟩
    case round =>
      obtain ⟨k, hk, rfl, hS, ho, hb⟩ := hrel
      by_cases hlt : k < gs.length
      · obtain ⟨g, hg⟩ : ∃ g, gs[k]? = some g := ⟨_, List.getElem?_eq_getElem hlt⟩
        obtain ⟨a', c', hv', hq⟩ := HV.out.below hb (Nat.le_refl _)
        injection hv' with q1 _ q3
        subst q1
        subst q3
        obtain ⟨b, o, ax, cx, rfl, c1, hsl⟩ := hq k g hg
        have hbl := rw_cell_lt c1
        have hk8 : (k : Int) < (gs.length : Int) := by omega
        have PB := implPB_any (cap := cx) hsl (HZ.out g (List.mem_of_getElem? hg))
        have HT : Hid ((gs.take (k + 1)).map pbT = (gs.take k).map pbT ++ [pbT g]) := map_take_succ pbT hg
        have HG : Hid (gs[k]? = some g) := hg
        have HO : Hid (∀ (j : Nat) (g : List Rw), j < k → gs[j]? = some g → okPB g = true) := ho
        have hlt1 : ((gs.take k).map pbT).length ≤ 40 := by simp; omega
        obtain ⟨ss, HSS⟩ : ∃ ss, Hid ((gs.take k).map pbT = ss) := ⟨_, rfl⟩
        rw [HSS.out] at HT hlt1 hS
        obtain ⟨a4, c4, hv4⟩ := strs_formB hS
        subst hv4
        have HS : Hid (Strs wr w.heap.size (.slice a4 ss.length c4) ss) := hS
        have HB : Hid (Below w.heap.size w wr) := hb
        clear hq hsl hg ho hS hb
        cases hok : okPB g
        · rw [hok] at PB
          have HRE : Hid (R = none) := by show _ = _; rw [← HR.out]; exact bytF_bad HG.out hok
          clear hok
          generalize pbT g = pg at *
          go_wp2_with fail
          refine PB.mono ?_
          rintro e w2 ⟨rfl, b2⟩
          have HB2 : Hid (Below w.heap.size w w2) := HB.out.trans (b2.mono HB.out.size)
          clear PB b2
          go_wp2
          go_ret2
          rw [HRE.out]
          exact ⟨_, rfl, World.ownsRow_nil _ _ _ _, HB2.out⟩
        · rw [hok] at PB
          have HO2 : Hid (∀ (j : Nat) (g : List Rw), j < k + 1 → gs[j]? = some g → okPB g = true) := fun j q hj hq => by
            by_cases e : j = k
            · rw [e, HG.out] at hq
              rw [← Option.some.inj hq]
              exact hok
            · exact HO.out j q (by omega) hq
          clear hok HO
          generalize pbT g = pg at *
          go_wp2_with fail
          refine PB.mono ?_
          rintro e w2 ⟨rfl, b2⟩
          have HB2 : Hid (Below w.heap.size w w2) := HB.out.trans (b2.mono HB.out.size)
          have bA := (Below.refl w2.heap.size w2).alloc (Nat.le_refl _) (.cells #[.string pg] 9)
          have hrow := (HS.out.below b2).below bA
          have HBA : Hid (Below w.heap.size w _) := HB2.out.trans (bA.mono HB2.out.size)
          have hsU := HB2.out.size
          unfold Strs at hrow
          clear PB b2 HS HB bA
          go_wp2_with (at_builtin; refine wpList_append_lies _ rfl _ _ 25 rfl w.heap.size 9 i0 _ 1 16 Tryd.underlying25 hi0 hy0 hy1 hy2 rfl (by decide) _ _ _ rfl hrow ⟨_, 0, none⟩ 1 1 [.string pg] rfl rfl (cell_one_new _ _ _) (fun x hx => by simp at hx; subst hx; rfl) (by omega) (by unfold maxLen; omega) (by omega) (by simp; omega) _ rfl ?_)
          intro g5 c5 u5 ho5 hg5 hgo5 hlt5
          have HS5 : Hid (Strs u5 w.heap.size (.slice (some ⟨g5, 0, none⟩) (ss.length + 1) c5) ((gs.take (k + 1)).map pbT)) := by rw [HT.out]; exact Strs.snoc ho5
          have HB5 : Hid (Below w.heap.size w u5) := Below.grown HBA.out hg5 HBA.out.size (fun i hj => (World.ownsRow.lt hrow i hj).1)
          clear ho5 hg5 hrow HB2 HBA
          go_wp2
          exact ⟨⟨k + 1, by omega, by go_num, HS5.out, HO2.out, HB5.out⟩, by simp [intOf]; omega⟩
      · have hkz : k = gs.length := by omega
        subst hkz
        rw [List.take_length] at hS
        have HRE : Hid (R = some (gs.map pbT)) := by
          show _ = _
          rw [← HR.out]
          exact bytF_all h40 (fun j g hg => ho j g (List.getElem?_eq_some_iff.1 hg).1 hg)
        have HS : Hid (Strs wr w.heap.size _ (gs.map pbT)) := hS
        have HB : Hid (Below w.heap.size w wr) := hb
        clear hS ho hb
        go_wp2
        go_ret2
        rw [HRE.out]
        exact ⟨_, rfl, HS.out, HB.out⟩
  · have n40 : (40 : Int) < (gs.length : Int) := by omega
    have HRE : Hid (R = none) := by show _ = _; rw [← HR.out]; exact bytF_long h40
    clear hq
    go_enter Tryd.func29, Tryd.ntmps29
    go_wp2
    go_ret2
    rw [HRE.out]
    exact ⟨_, rfl, World.ownsRow_nil _ _ _ _, Below.refl _ _⟩
end Go.Proofs.YtbgomhgohphglaaDoor
