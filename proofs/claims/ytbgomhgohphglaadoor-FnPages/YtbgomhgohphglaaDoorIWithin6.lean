/- Contract of the program's rowsWithin. -/
import Derived.Test.YtbgomhgohphglaaDoorISh6
import Derived.Test.YtbgomhgohphglaaDoorPCut6
namespace Go.Proofs.YtbgomhgohphglaaDoor
open Go.RowKit

def WnRel (w : World) (l : List Rw) (lim : Nat) (v3 v4 i : Value) (wr : World) : Prop :=
  ∃ k : Nat, k ≤ l.length ∧ i = .int .i64 k ∧ v3 = .int .i64 ((lnP (l.take k) : Nat) : Int) ∧ v4 = .string (lastK ⟨#[]⟩ (l.take k)) ∧ (∀ j, j < k → lnP (l.take (j + 1)) ≤ lim) ∧ Below w.heap.size w wr

theorem lnP_take {l : List Rw} {k : Nat} {x : Rw} (h : l[k]? = some x) : lnP (l.take (k + 1)) = lnP (l.take k) + (rowI (lastK ⟨#[]⟩ (l.take k)) x).length := by
  rw [List.take_add_one, h]
  exact lnP_snoc _ x

theorem lnP_take_le {l : List Rw} (h : RwB l) (k : Nat) : lnP (l.take k) ≤ 196098 := by
  rw [lnP_is]
  have := take_len_le h k
  omega

set_option maxRecDepth 100000 in
set_option maxHeartbeats 2000000 in
theorem within_any {w : World} {a : Option Addr} {l : List Rw} {cap : Nat} (lim : Nat) (hS : SlRw w a l) (hB : RwB l) (hlim : lim ≤ 1048576) :
    Calls Tryd.prog 56 #[.slice a l.length cap, .int .i64 (lim : Int)] w fun e w' => e = .returned (.int .i64 (wn l lim : Int)) ∧ Below w.heap.size w w' := by
  have hl := hB.1
  have HB : Hid (RwB l) := hB
  clear hB
  obtain ⟨P, HP⟩ : ∃ P, Hid (wn l lim = P) := ⟨_, rfl⟩
  rw [HP.out]
  go_enter Tryd.func56, Tryd.ntmps56
  go_wp2
  go_loopw [5, 6, 11] (fun v3 v4 i wr => WnRel w l lim v3 v4 i wr) (fun _ _ i _ => l.length - (intOf i).toNat)
  case atStart => exact ⟨0, Nat.zero_le _, rfl, rfl, rfl, fun j hj => by omega, Below.refl _ _⟩
  case round =>
    obtain ⟨k, hk, rfl, rfl, rfl, hw, hb⟩ := hrel
    by_cases hlt : k < l.length
    · obtain ⟨x, hx⟩ : ∃ x, l[k]? = some x := ⟨_, List.getElem?_eq_getElem hlt⟩
      have hS2 := hS.below hb (Nat.le_refl _)
      rcases hS2 with rfl | ⟨b, o, rfl, hE⟩
      · simp at hx
      obtain ⟨a0, a1, a2⟩ := hE k x hx
      have hbl := rw_cell_lt a0
      have hk8 : (k : Int) < (l.length : Int) := by omega
      have hbx := hb.alloc hb.size (.cells #[.string x.key, .string x.text, .string x.val] 32)
      have hsz := HB.out.at hx
      have hpl := lastK_take_le HB.out k
      have hrl := lnP_take_le HB.out k
      have hnl := rowI_len_le (p := lastK ⟨#[]⟩ (l.take k)) hsz
      have RL := fun u => rowLen_any (lastK ⟨#[]⟩ (l.take k)) x (by omega) (by omega) (by omega) (by omega) u
      have HR : Hid _ := lnP_take hx
      have HK : Hid _ := lastK_take ⟨#[]⟩ hx
      have HBX : Hid (Below _ _ _) := hbx
      have HW : Hid (∀ j, j < k → lnP (l.take (j + 1)) ≤ lim) := hw
      have hbk : wr.heap.size < (wr.alloc (.cells #[.string x.key, .string x.text, .string x.val] 32)).heap.size := by simp
      have bc : (wr.alloc (.cells #[.string x.key, .string x.text, .string x.val] 32)).cell? ⟨wr.heap.size, 0, none⟩ = some (.string x.key) := by simp
      obtain ⟨m, HM⟩ : ∃ m, Hid (m = lnP (l.take k)) := ⟨_, rfl⟩
      rw [← HM.out]
      have hm : m ≤ 200000 := by have := HM.out; omega
      obtain ⟨n, HN⟩ : ∃ n, Hid (n = (rowI (lastK ⟨#[]⟩ (l.take k)) x).length) := ⟨_, rfl⟩
      rw [← HN.out] at RL
      have hn : n ≤ 769 := by have := HN.out; omega
      have HMN : Hid (lnP (l.take (k + 1)) = m + n) := by show _ = _; rw [HR.out, ← HM.out, ← HN.out]
      generalize lastK ⟨#[]⟩ (l.take k) = pk at *
      have BC : Hid _ := bc
      clear hE hx hS hb hbx hsz hpl hrl hnl bc hw HR HM HN
      by_cases hgt : lim < m + n
      · have hgt8 : (lim : Int) < (m : Int) + (n : Int) := by omega
        have HPK : Hid (P = k) := by show _ = _; rw [← HP.out]; exact wn_at hlt HW.out (by rw [HMN.out]; exact hgt)
        clear HW HMN HK
        go_wp2_with fail
        refine (RL _).mono ?_
        rintro e w3 ⟨rfl, b3⟩
        have HB3 : Hid (Below w.heap.size w w3) := HBX.out.trans (b3.mono HBX.out.size)
        clear BC HBX b3 RL a0 a1 a2 hbl
        go_wp2
        go_ret
        rw [HPK.out]
        exact ⟨rfl, HB3.out⟩
      · have hgt8 : ¬ (lim : Int) < (m : Int) + (n : Int) := by omega
        have HW2 : Hid (∀ j, j < k + 1 → lnP (l.take (j + 1)) ≤ lim) := fun j hj => by
          by_cases e : j = k
          · rw [e, HMN.out]; omega
          · exact HW.out j (by omega)
        clear HW
        go_wp2_with fail
        refine (RL _).mono ?_
        rintro e w3 ⟨rfl, b3⟩
        have bc3 : w3.cell? ⟨wr.heap.size, 0, none⟩ = some (.string x.key) := by rw [b3.cell hbk]; exact BC.out
        have HB3 : Hid (Below w.heap.size w w3) := HBX.out.trans (b3.mono HBX.out.size)
        clear BC HBX b3 RL a0 a1 a2 hbl
        go_wp2
        refine ⟨⟨k + 1, hlt, by go_num, ?_, by rw [HK.out], HW2.out, HB3.out⟩, by simp [intOf]; omega⟩
        rw [HMN.out]
        go_num
    · have hkz : k = l.length := by omega
      subst hkz
      have HPK : Hid (P = l.length) := by show _ = _; rw [← HP.out]; exact wn_all hw
      clear hS hw
      go_wp2
      go_ret
      rw [HPK.out]
      exact ⟨rfl, hb⟩
end Go.Proofs.YtbgomhgohphglaaDoor
