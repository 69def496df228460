/- Contract of the library's strings.IndexRune at the bytes that vary, for good runes. -/
import Derived.Test.YtddelohmppdndaaGreatDoorPBase
import Derived.Lib.Bytealg
import Derived.WalkMore
import Derived.Lib.OthersKept
import Derived.WalkSmall
import Derived.Lib.IndexLaws
import Derived.Deep.QuietTactic
import Derived.BigQuiet
namespace Go.Proofs.YtddelohmppdndaaGreatDoor
open Go.RowKit

def vsB : ByteArray := ⟨#[32, 95, 45, 44, 59, 58, 33, 63, 46]⟩

set_option maxRecDepth 100000 in
set_option maxHeartbeats 1000000 in
theorem liteByte_any (s : ByteArray) (c : Int) (w : World) :
    Calls Tryz.prog 113 #[.string s, .int .u8 c] w fun e w' => e = .returned (.int .i64 (Lib.indexByte s.data.toList c.toNat.toUInt8)) ∧ w' = w := by
  go_enter Tryz.func113, Tryz.ntmps113
  go_wp2
  rw [run_callFunc_extern Tryz.func114 (by kernel_rfl) (by kernel_rfl) (by kernel_rfl) (e := Extern.BytealgIndexByte.indexByte) (by kernel_rfl), Lib.run_indexByteString]
  simp only [Result.andThen]
  rw [Oper.upon_value]
  go_wp2
  go_ret
  exact ⟨rfl, rfl⟩

set_option maxRecDepth 100000 in
set_option maxHeartbeats 1000000 in
theorem strByte_any (s : ByteArray) (c : Int) (w : World) :
    Calls Tryz.prog 108 #[.string s, .int .u8 c] w fun e w' => e = .returned (.int .i64 (Lib.indexByte s.data.toList c.toNat.toUInt8)) ∧ w' = w := by
  have A := fun w => liteByte_any s c w
  go_enter Tryz.func108, Tryz.ntmps108
  go_wp2_with fail
  refine (A _).mono ?_
  rintro e w1 ⟨rfl, rfl⟩
  clear A
  go_wp2
  go_ret
  exact ⟨rfl, rfl⟩

theorem idx_low : ((List.range 128).all fun k => Lib.indexByte vsB.data.toList ((k : Int).toNat.toUInt8) == idxV (k : Int)) = true := by kernel_rfl

theorem idx_lowAt {r : Int} (h0 : 0 ≤ r) (h1 : r < 128) : Lib.indexByte vsB.data.toList (r.toNat.toUInt8) = idxV r := by
  obtain ⟨k, rfl⟩ : ∃ k : Nat, r = (k : Int) := ⟨r.toNat, by omega⟩
  exact eq_of_beq (List.all_eq_true.1 idx_low k (List.mem_range.2 (by omega)))

theorem vs_dec (p : Nat) (hp : p < 9) : (Utf8.decode ⟨#[32, 95, 45, 44, 59, 58, 33, 63, 46]⟩ p).2 = 1 ∧ ((Utf8.decode ⟨#[32, 95, 45, 44, 59, 58, 33, 63, 46]⟩ p).1 : Int) ≠ 65533 :=
  (by decide : ∀ q : Fin 9, (Utf8.decode ⟨#[32, 95, 45, 44, 59, 58, 33, 63, 46]⟩ q.1).2 = 1 ∧ ((Utf8.decode ⟨#[32, 95, 45, 44, 59, 58, 33, 63, 46]⟩ q.1).1 : Int) ≠ 65533) ⟨p, hp⟩

theorem idx_none {r : Int} (h : 128 ≤ r) : idxV r = -1 := by
  unfold idxV
  rw [vs_far (by omega)]

set_option maxRecDepth 100000 in
set_option maxHeartbeats 4000000 in
theorem idxRune_low (r : Int) (h0 : 0 ≤ r) (h1 : r < 128) (w : World) :
    Calls Tryz.prog 104 #[.string ⟨#[32, 95, 45, 44, 59, 58, 33, 63, 46]⟩, .int .i32 r] w fun e w' => e = .returned (.int .i64 (idxV r)) ∧ w' = w := by
  have A := fun w => strByte_any vsB r w
  rw [idx_lowAt h0 h1] at A
  unfold vsB at A
  go_enter Tryz.func104, Tryz.ntmps104
  go_wp2_with fail
  refine (A _).mono ?_
  rintro e w1 ⟨rfl, rfl⟩
  clear A
  go_wp2
  go_ret
  exact ⟨rfl, rfl⟩

set_option maxRecDepth 100000 in
set_option maxHeartbeats 4000000 in
theorem idxRune_bad (w : World) :
    Calls Tryz.prog 104 #[.string ⟨#[32, 95, 45, 44, 59, 58, 33, 63, 46]⟩, .int .i32 65533] w fun e w' => e = .returned (.int .i64 (-1)) ∧ Below w.heap.size w w' := by
  go_enter Tryz.func104, Tryz.ntmps104
  go_wp2_with fail
  go_loopw [4] (fun v wr => v = .int .i64 0 ∧ ∃ p : Nat, p ≤ 9 ∧ wr.heap[w.heap.size]? = some (.stringIter ⟨#[32, 95, 45, 44, 59, 58, 33, 63, 46]⟩ p) ∧ Below w.heap.size w wr) (fun _ wr => 9 - wr.iterPos w.heap.size)
  case atStart => exact ⟨rfl, 0, Nat.zero_le _, World.iter_heap w _ 0, (Below.refl _ _).alloc (Nat.le_refl _) _⟩
  case round =>
    obtain ⟨rfl, p, hp, hit, hbw⟩ := hrel
    have hpos0 := iterPos_of hit
    by_cases hlt : p < 9
    · have hnx : ∀ ty, (Instr.next (.pointer (some ⟨w.heap.size, 0, none⟩)) true ty).run Tryz.prog wr = _ := fun ty => Lib.run_next_any_at wr w.heap.size ⟨#[32, 95, 45, 44, 59, 58, 33, 63, 46]⟩ p ty hit hlt
      obtain ⟨d1, d2⟩ := vs_dec p hlt
      have hit2 := Lib.iterAt_heap wr w.heap.size ⟨#[32, 95, 45, 44, 59, 58, 33, 63, 46]⟩ p (p + (Utf8.decode ⟨#[32, 95, 45, 44, 59, 58, 33, 63, 46]⟩ p).2) hit
      have hbw2 := Lib.below_iterAt hbw (k := w.heap.size) (Nat.le_refl _) ⟨#[32, 95, 45, 44, 59, 58, 33, 63, 46]⟩ (p + (Utf8.decode ⟨#[32, 95, 45, 44, 59, 58, 33, 63, 46]⟩ p).2)
      obtain ⟨W1, hW1⟩ : ∃ W1, W1 = wr.iterAt w.heap.size ⟨#[32, 95, 45, 44, 59, 58, 33, 63, 46]⟩ (p + (Utf8.decode ⟨#[32, 95, 45, 44, 59, 58, 33, 63, 46]⟩ p).2) := ⟨_, rfl⟩
      rw [← hW1] at hnx hit2 hbw2
      rw [d1] at hit2
      have d3 : (((Utf8.decode ⟨#[32, 95, 45, 44, 59, 58, 33, 63, 46]⟩ p).1 : Int) == 65533) = false := by simpa using d2
      generalize ((Utf8.decode ⟨#[32, 95, 45, 44, 59, 58, 33, 63, 46]⟩ p).1 : Int) = x at *
      clear hW1 hit hbw d1 d2
      go_wp2
      exact ⟨⟨rfl, p + 1, by omega, hit2, hbw2⟩, by rw [iterPos_of hit2, hpos0]; omega⟩
    · have hnx : ∀ ty, (Instr.next (.pointer (some ⟨w.heap.size, 0, none⟩)) true ty).run Tryz.prog wr = _ := fun ty => Lib.run_next_end_at wr w.heap.size ⟨#[32, 95, 45, 44, 59, 58, 33, 63, 46]⟩ p ty hit hlt
      go_wp2
      go_ret
      exact ⟨rfl, hbw⟩

set_option maxRecDepth 100000 in
set_option maxHeartbeats 4000000 in
theorem valid_any (r : Int) (h0 : 128 ≤ r) (h1 : r ≤ 1114111) (h2 : ¬ (55296 ≤ r ∧ r ≤ 57343)) (w : World) :
    Calls Tryz.prog 109 #[.int .i32 r] w fun e w' => e = .returned (.bool true) ∧ w' = w := by
  go_enter Tryz.func109, Tryz.ntmps109
  by_cases h3 : r < 55296
  · go_wp2
    go_ret
    exact ⟨rfl, rfl⟩
  · have h4 : 57343 < r := by omega
    clear h2
    go_wp2
    go_ret
    exact ⟨rfl, rfl⟩

theorem enc_cases (r : Int) (h0 : 128 ≤ r) (h1 : r ≤ 1114111) (h2 : ¬ (55296 ≤ r ∧ r ≤ 57343)) : (∃ a z : UInt8, Utf8.encode r = ⟨#[a, z]⟩ ∧ 128 ≤ z.toNat) ∨ (∃ a b z : UInt8, Utf8.encode r = ⟨#[a, b, z]⟩ ∧ 128 ≤ z.toNat) ∨ (∃ a b c z : UInt8, Utf8.encode r = ⟨#[a, b, c, z]⟩ ∧ 128 ≤ z.toNat) := by
  have hv : Utf8.valid r = true := by
    unfold Utf8.valid
    simp
    omega
  have hz : ∀ n : Nat, 128 ≤ (UInt8.ofNat (0x80 + n % 64)).toNat := by
    intro n
    rw [UInt8.toNat_ofNat']
    omega
  unfold Utf8.encode
  rw [hv]
  simp only [if_true]
  rw [if_neg (by omega)]
  split
  · exact .inl ⟨_, _, rfl, hz _⟩
  · split
    · exact .inr (.inl ⟨_, _, _, rfl, hz _⟩)
    · exact .inr (.inr ⟨_, _, _, _, rfl, hz _⟩)

theorem vs_miss {z : UInt8} (h : 128 ≤ z.toNat) (n : Nat) : Lib.indexByte ((⟨#[32, 95, 45, 44, 59, 58, 33, 63, 46]⟩ : ByteArray).extract n 9).data.toList ((z.toNat : Int).toNat.toUInt8) = -1 := by
  have hz2 : (z.toNat : Int).toNat.toUInt8 = z := by simp
  rw [hz2]
  have hge := Lib.indexByte_ge ((⟨#[32, 95, 45, 44, 59, 58, 33, 63, 46]⟩ : ByteArray).extract n 9).data.toList z
  by_cases c : Lib.indexByte ((⟨#[32, 95, 45, 44, 59, 58, 33, 63, 46]⟩ : ByteArray).extract n 9).data.toList z = -1
  · exact c
  · exfalso
    obtain ⟨m, hm⟩ : ∃ m : Nat, Lib.indexByte ((⟨#[32, 95, 45, 44, 59, 58, 33, 63, 46]⟩ : ByteArray).extract n 9).data.toList z = (m : Int) := ⟨(Lib.indexByte ((⟨#[32, 95, 45, 44, 59, 58, 33, 63, 46]⟩ : ByteArray).extract n 9).data.toList z).toNat, by omega⟩
    obtain ⟨h1, _⟩ := Lib.indexByte_some hm
    have h2 := List.mem_of_getElem? h1
    rw [ByteArray.data_extract, Array.toList_extract, List.extract_eq_take_drop] at h2
    have h3 := List.mem_of_mem_drop (List.mem_of_mem_take h2)
    have h4 : ∀ x ∈ (⟨#[32, 95, 45, 44, 59, 58, 33, 63, 46]⟩ : ByteArray).data.toList, x.toNat < 128 := by decide
    have := h4 z h3
    omega

set_option maxRecDepth 100000 in
set_option maxHeartbeats 4000000 in
theorem idxRune_two (r : Int) (a z : UInt8) (hE : Utf8.encode r = ⟨#[a, z]⟩) (hz : 128 ≤ z.toNat) (h0 : 128 ≤ r) (h1 : r ≤ 1114111) (h2 : ¬ (55296 ≤ r ∧ r ≤ 57343)) (h3 : r ≠ 65533) (w : World) :
    Calls Tryz.prog 104 #[.string ⟨#[32, 95, 45, 44, 59, 58, 33, 63, 46]⟩, .int .i32 r] w fun e w' => e = .returned (.int .i64 (-1)) ∧ Below w.heap.size w w' := by
  have V := fun w => valid_any r h0 h1 h2 w
  have h4 : (r == 65533) = false := by simpa using h3
  go_enter Tryz.func104, Tryz.ntmps104
  go_wp2_with fail
  refine (V _).mono ?_
  rintro e w1 ⟨rfl, rfl⟩
  clear V
  go_wp2_with fail
  go_step3
  go_wp2_with fail
  go_loopw [9] (fun v wr => wr = w1 ∧ v = .int .i64 1) (fun _ _ => 0)
  case atStart => exact ⟨rfl, rfl⟩
  case round =>
    obtain ⟨rfl, rfl⟩ := hrel
    have i1 : ∀ w, (Instr.index 9 (.string ⟨#[32, 95, 45, 44, 59, 58, 33, 63, 46]⟩) (.int .i64 1)).run Tryz.prog w = .ok (.int .u8 95) w := fun _ => by kernel_rfl
    have i2 : ∀ w, (Instr.index 9 (.string ⟨#[a, z]⟩) (.int .i64 1)).run Tryz.prog w = .ok (.int .u8 z.toNat) w := fun _ => by kernel_rfl
    have i3 : ((95 : Int) != (z.toNat : Int)) = true := by simp; omega
    have i4 : ∀ w, (Instr.slice 9 (.string ⟨#[32, 95, 45, 44, 59, 58, 33, 63, 46]⟩) (some (.int .i64 (IntKind.i64.wrap 2))) none none).run Tryz.prog w = .ok (.string ((⟨#[32, 95, 45, 44, 59, 58, 33, 63, 46]⟩ : ByteArray).extract 2 9)) w := fun _ => by kernel_rfl
    have A := fun w => strByte_any ((⟨#[32, 95, 45, 44, 59, 58, 33, 63, 46]⟩ : ByteArray).extract 2 9) z.toNat w
    rw [vs_miss hz 2] at A
    generalize ((⟨#[32, 95, 45, 44, 59, 58, 33, 63, 46]⟩ : ByteArray).extract 2 9) = sx at *
    go_wp2_with fail
    go_step3
    go_wp2_with fail
    go_quiet (fail)
    go_wp2_with fail
    go_quiet ((go_at_call 108; exact (A _).mono fun e w' h => ⟨h.1, _, h.2⟩))
    go_wp2
    change bodyPost _ _ (fun e w' => e = Ending.returned (.int .i64 (-1)) ∧ Below wr.heap.size wr w') Exit.ret _ _
    go_ret
    exact ⟨rfl, below_drewN (Below.refl _ _) _⟩

set_option maxRecDepth 100000 in
set_option maxHeartbeats 4000000 in
theorem idxRune_three (r : Int) (a b z : UInt8) (hE : Utf8.encode r = ⟨#[a, b, z]⟩) (hz : 128 ≤ z.toNat) (h0 : 128 ≤ r) (h1 : r ≤ 1114111) (h2 : ¬ (55296 ≤ r ∧ r ≤ 57343)) (h3 : r ≠ 65533) (w : World) :
    Calls Tryz.prog 104 #[.string ⟨#[32, 95, 45, 44, 59, 58, 33, 63, 46]⟩, .int .i32 r] w fun e w' => e = .returned (.int .i64 (-1)) ∧ Below w.heap.size w w' := by
  have V := fun w => valid_any r h0 h1 h2 w
  have h4 : (r == 65533) = false := by simpa using h3
  go_enter Tryz.func104, Tryz.ntmps104
  go_wp2_with fail
  refine (V _).mono ?_
  rintro e w1 ⟨rfl, rfl⟩
  clear V
  go_wp2_with fail
  go_step3
  go_wp2_with fail
  go_loopw [9] (fun v wr => wr = w1 ∧ v = .int .i64 2) (fun _ _ => 0)
  case atStart => exact ⟨rfl, rfl⟩
  case round =>
    obtain ⟨rfl, rfl⟩ := hrel
    have i1 : ∀ w, (Instr.index 9 (.string ⟨#[32, 95, 45, 44, 59, 58, 33, 63, 46]⟩) (.int .i64 2)).run Tryz.prog w = .ok (.int .u8 45) w := fun _ => by kernel_rfl
    have i2 : ∀ w, (Instr.index 9 (.string ⟨#[a, b, z]⟩) (.int .i64 2)).run Tryz.prog w = .ok (.int .u8 z.toNat) w := fun _ => by kernel_rfl
    have i3 : ((45 : Int) != (z.toNat : Int)) = true := by simp; omega
    have i4 : ∀ w, (Instr.slice 9 (.string ⟨#[32, 95, 45, 44, 59, 58, 33, 63, 46]⟩) (some (.int .i64 (IntKind.i64.wrap 3))) none none).run Tryz.prog w = .ok (.string ((⟨#[32, 95, 45, 44, 59, 58, 33, 63, 46]⟩ : ByteArray).extract 3 9)) w := fun _ => by kernel_rfl
    have A := fun w => strByte_any ((⟨#[32, 95, 45, 44, 59, 58, 33, 63, 46]⟩ : ByteArray).extract 3 9) z.toNat w
    rw [vs_miss hz 3] at A
    generalize ((⟨#[32, 95, 45, 44, 59, 58, 33, 63, 46]⟩ : ByteArray).extract 3 9) = sx at *
    go_wp2_with fail
    go_step3
    go_wp2_with fail
    go_quiet (fail)
    go_wp2_with fail
    go_quiet ((go_at_call 108; exact (A _).mono fun e w' h => ⟨h.1, _, h.2⟩))
    go_wp2
    change bodyPost _ _ (fun e w' => e = Ending.returned (.int .i64 (-1)) ∧ Below wr.heap.size wr w') Exit.ret _ _
    go_ret
    exact ⟨rfl, below_drewN (Below.refl _ _) _⟩

set_option maxRecDepth 100000 in
set_option maxHeartbeats 4000000 in
theorem idxRune_four (r : Int) (a b c z : UInt8) (hE : Utf8.encode r = ⟨#[a, b, c, z]⟩) (hz : 128 ≤ z.toNat) (h0 : 128 ≤ r) (h1 : r ≤ 1114111) (h2 : ¬ (55296 ≤ r ∧ r ≤ 57343)) (h3 : r ≠ 65533) (w : World) :
    Calls Tryz.prog 104 #[.string ⟨#[32, 95, 45, 44, 59, 58, 33, 63, 46]⟩, .int .i32 r] w fun e w' => e = .returned (.int .i64 (-1)) ∧ Below w.heap.size w w' := by
  have V := fun w => valid_any r h0 h1 h2 w
  have h4 : (r == 65533) = false := by simpa using h3
  go_enter Tryz.func104, Tryz.ntmps104
  go_wp2_with fail
  refine (V _).mono ?_
  rintro e w1 ⟨rfl, rfl⟩
  clear V
  go_wp2_with fail
  go_step3
  go_wp2_with fail
  go_loopw [9] (fun v wr => wr = w1 ∧ v = .int .i64 3) (fun _ _ => 0)
  case atStart => exact ⟨rfl, rfl⟩
  case round =>
    obtain ⟨rfl, rfl⟩ := hrel
    have i1 : ∀ w, (Instr.index 9 (.string ⟨#[32, 95, 45, 44, 59, 58, 33, 63, 46]⟩) (.int .i64 3)).run Tryz.prog w = .ok (.int .u8 44) w := fun _ => by kernel_rfl
    have i2 : ∀ w, (Instr.index 9 (.string ⟨#[a, b, c, z]⟩) (.int .i64 3)).run Tryz.prog w = .ok (.int .u8 z.toNat) w := fun _ => by kernel_rfl
    have i3 : ((44 : Int) != (z.toNat : Int)) = true := by simp; omega
    have i4 : ∀ w, (Instr.slice 9 (.string ⟨#[32, 95, 45, 44, 59, 58, 33, 63, 46]⟩) (some (.int .i64 (IntKind.i64.wrap 4))) none none).run Tryz.prog w = .ok (.string ((⟨#[32, 95, 45, 44, 59, 58, 33, 63, 46]⟩ : ByteArray).extract 4 9)) w := fun _ => by kernel_rfl
    have A := fun w => strByte_any ((⟨#[32, 95, 45, 44, 59, 58, 33, 63, 46]⟩ : ByteArray).extract 4 9) z.toNat w
    rw [vs_miss hz 4] at A
    generalize ((⟨#[32, 95, 45, 44, 59, 58, 33, 63, 46]⟩ : ByteArray).extract 4 9) = sx at *
    go_wp2_with fail
    go_step3
    go_wp2_with fail
    go_quiet (fail)
    go_wp2_with fail
    go_quiet ((go_at_call 108; exact (A _).mono fun e w' h => ⟨h.1, _, h.2⟩))
    go_wp2
    change bodyPost _ _ (fun e w' => e = Ending.returned (.int .i64 (-1)) ∧ Below wr.heap.size wr w') Exit.ret _ _
    go_ret
    exact ⟨rfl, below_drewN (Below.refl _ _) _⟩

theorem idxRune_any (r : Int) (h0 : 0 ≤ r) (h1 : r ≤ 1114111) (h2 : ¬ (55296 ≤ r ∧ r ≤ 57343)) (w : World) :
    Calls Tryz.prog 104 #[.string ⟨#[32, 95, 45, 44, 59, 58, 33, 63, 46]⟩, .int .i32 r] w fun e w' => e = .returned (.int .i64 (idxV r)) ∧ Below w.heap.size w w' := by
  by_cases c : r < 128
  · exact (idxRune_low r h0 c w).mono fun e w' h => ⟨h.1, by rw [h.2]; exact Below.refl _ _⟩
  · rw [idx_none (by omega)]
    by_cases d : r = 65533
    · subst d
      exact idxRune_bad w
    · rcases enc_cases r (by omega) h1 h2 with ⟨a, z, hE, hz⟩ | ⟨a, b, z, hE, hz⟩ | ⟨a, b, c, z, hE, hz⟩
      · exact idxRune_two r a z hE hz (by omega) h1 h2 d w
      · exact idxRune_three r a b z hE hz (by omega) h1 h2 d w
      · exact idxRune_four r a b c z hE hz (by omega) h1 h2 d w
end Go.Proofs.YtddelohmppdndaaGreatDoor
