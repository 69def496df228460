/- Contracts of the program's sharedFront, rowLength, pageLength and fitPage. -/
import Derived.Test.YtbgomhgohphglaaDoorPPage6
import Derived.BigQuiet
import Derived.Deep.QuietTactic
namespace Go.Proofs.YtbgomhgohphglaaDoor
open Go.RowKit

theorem index_str (s : ByteArray) (n : Nat) (h : n < s.size) (u : World) : (Instr.index 9 (.string s) (.int .i64 (n : Int))).run Tryd.prog u = .ok (.int .u8 ((bAt s n).toNat : Int)) u := by
  rw [run_index_string (h := Tryd.underlying9), dif_pos ⟨by omega, by omega⟩]
  congr 3
  have h' : n < s.data.toList.length := by rw [Array.length_toList]; exact h
  simp only [bAt, List.getD, List.getElem?_eq_getElem h', Option.getD_some, Int.toNat_natCast]
  rfl

theorem drew2 (w : World) (p q : Nat) : (w.drewN p).drewN q = w.drewN (p + q) := by rw [World.drewN_drewN]

def ShRel (w : World) (a k : ByteArray) (i : Value) (wr : World) : Prop :=
  ∃ n q : Nat, i = .int .i64 n ∧ n ≤ a.size ∧ n ≤ k.size ∧ n + shL (a.data.toList.drop n) (k.data.toList.drop n) = shB a k ∧ wr = w.drewN q

set_option maxRecDepth 100000 in
set_option maxHeartbeats 2000000 in
theorem shared_any (a k : ByteArray) (ha : a.size ≤ 1048576) (_hk : k.size ≤ 1048576) (w : World) :
    Calls Tryd.prog 71 #[.string a, .string k] w fun e w' => e = .returned (.int .i64 (shB a k)) ∧ ∃ n, w' = w.drewN n := by
  obtain ⟨s, HS⟩ : ∃ s, Hid (shB a k = s) := ⟨_, rfl⟩
  rw [HS.out]
  go_enter Tryd.func71, Tryd.ntmps71
  go_wp2
  go_loopw [5] (fun i wr => ShRel w a k i wr) (fun i _ => a.size - (intOf i).toNat)
  case atStart => exact ⟨0, 0, rfl, Nat.zero_le _, Nat.zero_le _, by simp [shB], rfl⟩
  case round =>
    obtain ⟨n, q, rfl, hn1, hn2, hR, rfl⟩ := hrel
    have HR : Hid _ := hR
    clear hR
    by_cases c1 : n < a.size
    · by_cases c2 : n < k.size
      · have d1 : (n : Int) < (a.size : Int) := by omega
        have d2 : (n : Int) < (k.size : Int) := by omega
        have x1 := index_str a n c1
        have x2 := index_str k n c2
        have e1 := bAt_drop c1
        have e2 := bAt_drop c2
        by_cases hb : bAt a n = bAt k n
        · have HN : Hid (n + 1 + shL (a.data.toList.drop (n + 1)) (k.data.toList.drop (n + 1)) = shB a k) := by
            show _ = _
            rw [← HR.out, e1, e2, shL, if_pos hb]; omega
          rw [hb] at x1
          clear HR e1 e2 hb HS
          go_wp2
          go_quiet (fail)
          go_wp2
          exact ⟨⟨n + 1, _, by go_num, c1, c2, HN.out, rfl⟩, by simp [intOf]; omega⟩
        · have HN : Hid (n = s) := by
            show _ = _
            have := HR.out
            rw [e1, e2, shL, if_neg hb, HS.out] at this
            omega
          have hb' : ((bAt a n).toNat : Int) ≠ ((bAt k n).toNat : Int) := fun h => hb (UInt8.toNat_inj.1 (by omega))
          generalize ((bAt a n).toNat : Int) = z1 at *
          generalize ((bAt k n).toNat : Int) = z2 at *
          clear HR e1 e2 hb HS
          go_wp2
          go_quiet (fail)
          go_wp2
          go_ret
          rw [HN.out]
          exact ⟨rfl, _, drew2 _ _ _⟩
      · have d1 : (n : Int) < (a.size : Int) := by omega
        have HN : Hid (n = s) := by
          show _ = _
          have := HR.out
          rw [shL_end2 _ _ (drop_end c2), HS.out] at this
          omega
        clear HR HS
        go_wp2
        have d2 : decide ((n : Int) < (k.size : Int)) = false := decide_eq_false (by omega)
        go_quiet (fail)
        go_wp2
        go_ret
        rw [HN.out]
        exact ⟨rfl, _, drew2 _ _ _⟩
    · have HN : Hid (n = s) := by
        show _ = _
        have := HR.out
        rw [shL_end1 _ _ (drop_end c1), HS.out] at this
        omega
      clear HR HS
      go_wp2
      have d1 : decide ((n : Int) < (a.size : Int)) = false := decide_eq_false (by omega)
      go_quiet (fail)
      go_wp2
      go_ret
      rw [HN.out]
      exact ⟨rfl, _, drew2 _ _ _⟩

theorem rowLen_num (p : ByteArray) (x : Rw) : 4 + (x.key.size : Int) - (shB p x.key : Int) + (x.text.size : Int) + (x.val.size : Int) = ((rowI p x).length : Int) := (rowI_len p x).symm

set_option maxRecDepth 100000 in
set_option maxHeartbeats 2000000 in
theorem rowLen_any (p : ByteArray) (x : Rw) (hp : p.size ≤ 1048576) (h0 : x.key.size ≤ 1048576) (h1 : x.text.size ≤ 1048576) (h2 : x.val.size ≤ 1048576) (w : World) :
    Calls Tryd.prog 81 #[.string p, .agg #[.string x.key, .string x.text, .string x.val]] w fun e w' => e = .returned (.int .i64 ((rowI p x).length : Int)) ∧ Below w.heap.size w w' := by
  have SH := fun u => shared_any p x.key hp h0 u
  have hle := shB_le2 p x.key
  have HL : Hid _ := rowLen_num p x
  have HB : Hid (∀ o n, Below w.heap.size w ((w.alloc o).drewN n)) := fun o n => ⟨((Below.refl w.heap.size w).alloc (Nat.le_refl _) o).os, ((Below.refl w.heap.size w).alloc (Nat.le_refl _) o).tape, ((Below.refl w.heap.size w).alloc (Nat.le_refl _) o).output, ((Below.refl w.heap.size w).alloc (Nat.le_refl _) o).size, ((Below.refl w.heap.size w).alloc (Nat.le_refl _) o).block⟩
  generalize (rowI p x).length = L at *
  generalize shB p x.key = s at *
  go_enter Tryd.func81, Tryd.ntmps81
  go_wp2
  go_quiet ((go_at_call 71; exact (SH _).mono fun e w' h => ⟨h.1, by obtain ⟨n, hn⟩ := h.2; exact ⟨_, hn.trans (drew2 _ _ _)⟩⟩))
  go_wp2
  go_ret
  have e := HL.out
  exact ⟨by rw [← e]; rfl, HB.out _ _⟩

def PlRel (w : World) (l : List Rw) (v3 v4 i : Value) (wr : World) : Prop :=
  ∃ k : Nat, k ≤ l.length ∧ i = .int .i64 k ∧ v3 = .int .i64 ((3 + (rowsI ⟨#[]⟩ (l.take k)).length : Nat) : Int) ∧ v4 = .string (lastK ⟨#[]⟩ (l.take k)) ∧ Below w.heap.size w wr

theorem pageI_len (l : List Rw) : (pageI l).length = 3 + (rowsI ⟨#[]⟩ l).length := by
  unfold pageI
  rw [List.length_append]
  rfl

set_option maxRecDepth 100000 in
set_option maxHeartbeats 2000000 in
theorem pageLen_any {w : World} {a : Option Addr} {l : List Rw} {cap : Nat} (hS : SlRw w a l) (hB : RwB l) :
    Calls Tryd.prog 76 #[.slice a l.length cap] w fun e w' => e = .returned (.int .i64 ((pageI l).length : Int)) ∧ Below w.heap.size w w' := by
  have hl := hB.1
  have HB : Hid (RwB l) := hB
  have HP : Hid _ := pageI_len l
  clear hB
  generalize (pageI l).length = P at *
  go_enter Tryd.func76, Tryd.ntmps76
  go_wp2
  go_loopw [3, 4, 9] (fun v3 v4 i wr => PlRel w l v3 v4 i wr) (fun _ _ i _ => l.length - (intOf i).toNat)
  case atStart => exact ⟨0, Nat.zero_le _, rfl, rfl, rfl, Below.refl _ _⟩
  case round =>
    obtain ⟨k, hk, rfl, rfl, rfl, hb⟩ := hrel
    by_cases hlt : k < l.length
    · obtain ⟨x, hx⟩ : ∃ x, l[k]? = some x := ⟨_, List.getElem?_eq_getElem hlt⟩
      have hS2 := hS.below hb (Nat.le_refl _)
      rcases hS2 with rfl | ⟨b, o, rfl, hE⟩
      · simp at hx
      obtain ⟨a0, a1, a2⟩ := hE k x hx
      have hbl := rw_cell_lt a0
      have hk8 : (k : Int) < (l.length : Int) := by omega
      have hbx := hb.alloc hb.size (.cells #[.string x.key, .string x.text, .string x.val] 32)
      have hsz := HB.out.at hx
      have hpl := lastK_take_le HB.out k
      have hrl := take_len_le HB.out k
      have hnl := rowI_len_le (p := lastK ⟨#[]⟩ (l.take k)) hsz
      have RL := fun u => rowLen_any (lastK ⟨#[]⟩ (l.take k)) x (by omega) (by omega) (by omega) (by omega) u
      have HR : Hid _ := rowsI_take ⟨#[]⟩ hx
      have HK : Hid _ := lastK_take ⟨#[]⟩ hx
      have HBX : Hid (Below _ _ _) := hbx
      have hbk : wr.heap.size < (wr.alloc (.cells #[.string x.key, .string x.text, .string x.val] 32)).heap.size := by simp
      have bc : (wr.alloc (.cells #[.string x.key, .string x.text, .string x.val] 32)).cell? ⟨wr.heap.size, 0, none⟩ = some (.string x.key) := by simp
      obtain ⟨m, HM⟩ : ∃ m, Hid (m = 3 + (rowsI ⟨#[]⟩ (l.take k)).length) := ⟨_, rfl⟩
      rw [← HM.out]
      have hm : m ≤ 200000 := by have := HM.out; omega
      obtain ⟨n, HN⟩ : ∃ n, Hid (n = (rowI (lastK ⟨#[]⟩ (l.take k)) x).length) := ⟨_, rfl⟩
      rw [← HN.out] at RL
      have hn : n ≤ 769 := by have := HN.out; omega
      generalize lastK ⟨#[]⟩ (l.take k) = pk at *
      have BC : Hid _ := bc
      clear hE hx hS hb hbx hsz hpl hrl hnl bc
      go_wp2_with fail
      refine (RL _).mono ?_
      rintro e w3 ⟨rfl, b3⟩
      have bc3 : w3.cell? ⟨wr.heap.size, 0, none⟩ = some (.string x.key) := by rw [b3.cell hbk]; exact BC.out
      have HB3 : Hid (Below w.heap.size w w3) := HBX.out.trans (b3.mono HBX.out.size)
      clear BC HBX b3 RL a0 a1 a2 hbl
      go_wp2
      refine ⟨⟨k + 1, hlt, by go_num, ?_, by rw [HK.out], HB3.out⟩, by simp [intOf]; omega⟩
      rw [HR.out, List.length_append, ← HN.out, ← Nat.add_assoc, ← HM.out]
      go_num
    · have hkz : k = l.length := by omega
      subst hkz
      rw [take_fullR, ← HP.out]
      clear hS
      go_wp2
      go_ret
      exact ⟨rfl, hb⟩

set_option maxRecDepth 100000 in
set_option maxHeartbeats 1000000 in
theorem fit_any {w : World} {a : Option Addr} {l : List Rw} {cap : Nat} (hS : SlRw w a l) (hB : RwB l) :
    Calls Tryd.prog 70 #[.slice a l.length cap] w fun e w' => e = .returned (.bool (decide ((pageI l).length ≤ 300))) ∧ Below w.heap.size w w' := by
  have PL := pageLen_any (cap := cap) hS hB
  have HD : Hid (decide (((pageI l).length : Int) ≤ 300) = decide ((pageI l).length ≤ 300)) := by
    show _ = _
    by_cases h : (pageI l).length ≤ 300
    · rw [decide_eq_true h, decide_eq_true (by omega)]
    · rw [decide_eq_false h, decide_eq_false (by omega)]
  generalize (pageI l).length = P at *
  clear hS hB
  go_enter Tryd.func70, Tryd.ntmps70
  go_wp2_with fail
  refine PL.mono ?_
  rintro e w3 ⟨rfl, b3⟩
  clear PL
  go_wp2
  go_ret
  have e := HD.out
  exact ⟨by rw [← e]; rfl, b3⟩
end Go.Proofs.YtbgomhgohphglaaDoor
