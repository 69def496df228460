/- Contract of the specification's l2D; whether NormalD answers, and what. -/
import Derived.Test.YtinjldagfhbioaaGreatDoorSAll
namespace Go.Proofs.YtinjldagfhbioaaGreatDoor
open Go.RowKit

set_option maxRecDepth 100000 in
set_option maxHeartbeats 1000000 in
theorem d_none (w : World) (a : Option Addr) (c : Nat) : Calls Tryz.prog 39 #[.slice a 0 c] w fun e w' => ∃ v, e = .returned v ∧ Ints w' w.heap.size v [] ∧ Below w.heap.size w w' := by
  have R : Calls Tryz.prog 62 #[.slice none 0 0] w fun e w' => ∃ v', e = .returned v' ∧ Ints w' w.heap.size v' [] ∧ Below w.heap.size w w' := sort_nil w
  go_enter Tryz.func39, Tryz.ntmps39
  go_wp2
  go_loop [3, 8] (fun o i => o = .slice none 0 0 ∧ i = .int .i64 0) (fun _ _ => 0)
  case atStart => exact ⟨rfl, rfl⟩
  case round =>
    obtain ⟨rfl, rfl⟩ := hrel
    go_wp2_with fail
    refine R.mono ?_
    rintro e w1 ⟨v, rfl, h1, h2⟩
    clear R
    go_wp2
    go_ret
    exact ⟨_, rfl, h1, h2⟩

set_option maxRecDepth 100000 in
set_option maxHeartbeats 2000000 in
theorem d_row (w : World) (B g cap : Nat) (zs : List Int) (hz : zs.length ≤ 200) (hI : Ints w B (.slice (some ⟨g, 0, none⟩) zs.length cap) zs) :
    Calls Tryz.prog 39 #[.slice (some ⟨g, 0, none⟩) zs.length cap] w fun e w' => ∃ v, e = .returned v ∧ Ints w' w.heap.size v (nD zs) ∧ Below w.heap.size w w' := by
  obtain ⟨i0, hi, hzz, hz1, hz2⟩ := info_parts info_int
  have HB : Hid (∀ k, ((zs.take k).flatMap all2).length ≤ 1800) := fun k => Nat.le_trans (take_flat_len zs k all2_len) (by omega)
  go_enter Tryz.func39, Tryz.ntmps39
  go_wp2
  go_loopw [3, 8] (fun out i wr => FRel w all2 zs out i wr) (fun _ i _ => zs.length - (intOf i).toNat)
  case atStart => exact ⟨0, Nat.zero_le _, rfl, ⟨rfl, .inl ⟨rfl, rfl⟩⟩, Below.refl _ _⟩
  case round =>
    obtain ⟨k, hk, rfl, ho, hbr⟩ := hrel
    by_cases hlt : k < zs.length
    · obtain ⟨x, hx⟩ : ∃ x, zs[k]? = some x := ⟨_, List.getElem?_eq_getElem hlt⟩
      have c1 := ints_at0 (hI.below hbr) k x hx
      have CA := all_any x wr
      obtain ⟨N, hN⟩ : ∃ N, ((zs.take k).flatMap all2).length = N := ⟨_, rfl⟩
      have hNb : N ≤ 1800 := by rw [← hN]; exact HB.out k
      have HX1 : Hid _ := hx
      have HN : Hid _ := hN
      clear hx hN
      go_wp2_with fail
      refine CA.mono ?_
      rintro e w2 ⟨vx, rfl, hIx, hb2⟩
      obtain ⟨gx, capx, rfl⟩ := ints_some hIx (full_ne 2 x)
      have ho3 := ho.below hb2
      unfold Ints at ho3
      rw [HN.out] at ho3
      have news := news_of hIx
      obtain ⟨M, hM⟩ : ∃ M, (all2 x).length = M := ⟨_, rfl⟩
      have hMb : 1 ≤ M ∧ M ≤ 9 := by rw [← hM]; exact ⟨full_ne 2 x, all2_len x⟩
      rw [hM]
      have HM : Hid _ := hM
      have hsz := Nat.le_trans hbr.size hb2.size
      clear CA c1 hM
      go_wp2_with (at_builtin; refine wpList_append_lies _ rfl _ _ 35 rfl w.heap.size 3 i0 (.int .i64 0) 1 8 Tryz.underlying35 hi hzz hz1 hz2 rfl (by decide) _ N _ rfl ho3 ⟨gx, 0, none⟩ M capx ((all2 x).map (Value.int .i64)) rfl (by rw [List.length_map, HM.out, Nat.mul_one]) news (fun u hu => by obtain ⟨y, _, rfl⟩ := List.mem_map.1 hu; rfl) (by omega) (by unfold maxLen; omega) (by omega) hsz w2.heap.size rfl ?_; intro g' cap' w3 hown hgr hgg hlt')
      exact ⟨frel_step hlt HX1.out HN.out HM.out hbr hb2 (ho.below hb2) hgr hown, by simp [intOf]; omega⟩
    · have hk3 : k = zs.length := by omega
      subst hk3
      rw [List.take_length] at ho
      have R := sort_any (zs := zs.flatMap all2) (Nat.le_trans (flatMap_len all2 9 zs all2_len) (by omega)) ho
      go_wp2_with fail
      refine R.mono ?_
      rintro e w2 ⟨v, rfl, h1, h2⟩
      clear R
      go_wp2
      go_ret
      exact ⟨_, rfl, ints_low2 h1 hbr.size, hbr.trans (h2.mono hbr.size)⟩

theorem d_any {w : World} {B : Nat} {v : Value} {zs : List Int} (hz : zs.length ≤ 200) (hI : Ints w B v zs) :
    Calls Tryz.prog 39 #[v] w fun e w' => ∃ v', e = .returned v' ∧ Ints w' w.heap.size v' (nD zs) ∧ Below w.heap.size w w' := by
  rcases hI.form with ⟨rfl, rfl⟩ | ⟨g, cap, rfl, h1, h2⟩
  · exact d_none w _ _
  · exact d_row w B g cap zs hz hI

/-- Whether NormalD answers, and what. -/
def okD (zs : List Int) : Bool := okR zs && decide ((apD zs).length ≤ 200)
def ansD (zs : List Int) : List Int := if okD zs = true then nD zs else []

theorem okD_no {zs : List Int} (h : okR zs = false) : okD zs = false := by simp [okD, h]
theorem okD_long {zs : List Int} (h : 200 < (nD zs).length) : okD zs = false := by
  rw [nD_len] at h
  simp [okD]; intro _; omega
theorem okD_yes {zs : List Int} (h : okR zs = true) (h2 : ¬ 200 < (nD zs).length) : okD zs = true := by
  rw [nD_len] at h2
  simp [okD, h]; omega
end Go.Proofs.YtinjldagfhbioaaGreatDoor
