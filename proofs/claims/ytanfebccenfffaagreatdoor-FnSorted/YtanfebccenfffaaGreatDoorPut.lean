/- Contract of the specification's l1Put: a good rune's UTF-8. -/
import Derived.Test.YtanfebccenfffaaGreatDoorGood
import Derived.Lib.RuneBytes
import Derived.WalkKit
import Derived.WalkSpells
import Derived.WalkLawsBesides
namespace Go.Proofs.YtanfebccenfffaaGreatDoor
open Go.RowKit

theorem foldl_push : ∀ (xs : List Int) (r : ByteArray), xs.foldl (fun r n => r.push (UInt8.ofNat n.toNat)) r = ⟨r.data ++ (xs.map fun x => x.toNat.toUInt8).toArray⟩
  | [], r => by simp
  | x :: xs, r => by
    simp only [List.map_cons, List.foldl_cons]
    rw [foldl_push xs]
    simp [ByteArray.push]

theorem add_zero_addr (b j : Nat) : (⟨b, 0, none⟩ : Addr).add j = ⟨b, j, none⟩ := by
  unfold Addr.add
  split
  · rename_i h; subst h; rfl
  · simp

theorem conv_new (w : World) (xs : List Int) (n : Nat) (hn : xs.length = n) (cs : Array Value) (hcs : cs = (xs.map (Value.int .u8)).toArray) :
    (convert 22 9 (.slice (some ⟨w.heap.size, 0, none⟩) n n)).run Tryz.prog (w.alloc (.cells cs 5)) = .ok (.string ⟨(xs.map fun x => x.toNat.toUInt8).toArray⟩) (w.alloc (.cells cs 5)) := by
  subst hcs
  rw [run_convert_bytes_string _ _ _ _ _ _ _ Tryz.underlying22 Tryz.underlying5 Tryz.underlying9]
  have hl := run_loadCells_list (P := Tryz.prog) (w.alloc (.cells (xs.map (Value.int .u8)).toArray 5)) ⟨w.heap.size, 0, none⟩ (xs.map (Value.int .u8)) (fun j v hj => by
    rw [add_zero_addr, World.cell?_alloc_new]; simpa using hj)
  simp only [List.length_map, hn] at hl
  rw [run_bytesToString _ _ n n xs hl, foldl_push]
  have he0 : ByteArray.empty.data = #[] := rfl
  rw [he0]
  simp

theorem ret_s {a b : ByteArray} (h : a = b) : Ending.returned (.string a) = .returned (.string b) := by rw [h]

theorem enc_one {r : Int} (h : [r] = Lib.encodeRuneZ r) : (⟨#[r.toNat.toUInt8]⟩ : ByteArray) = ⟨(Lib.encodeRune r).toArray⟩ := by
  unfold Lib.encodeRune; rw [← h]; rfl
theorem enc_two {r a b : Int} (h : [a, b] = Lib.encodeRuneZ r) : (⟨#[a.toNat.toUInt8, b.toNat.toUInt8]⟩ : ByteArray) = ⟨(Lib.encodeRune r).toArray⟩ := by
  unfold Lib.encodeRune; rw [← h]; rfl
theorem enc_three {r a b c : Int} (h : [a, b, c] = Lib.encodeRuneZ r) : (⟨#[a.toNat.toUInt8, b.toNat.toUInt8, c.toNat.toUInt8]⟩ : ByteArray) = ⟨(Lib.encodeRune r).toArray⟩ := by
  unfold Lib.encodeRune; rw [← h]; rfl
theorem enc_four {r a b c d : Int} (h : [a, b, c, d] = Lib.encodeRuneZ r) : (⟨#[a.toNat.toUInt8, b.toNat.toUInt8, c.toNat.toUInt8, d.toNat.toUInt8]⟩ : ByteArray) = ⟨(Lib.encodeRune r).toArray⟩ := by
  unfold Lib.encodeRune; rw [← h]; rfl

set_option maxRecDepth 100000 in
set_option maxHeartbeats 1000000 in
theorem put_any (r : Int) (h : goodB r = true) (w : World) :
    Calls Tryz.prog 45 #[.int .i64 r] w fun e w' => e = .returned (.string ⟨(Lib.encodeRune r).toArray⟩) ∧ Below w.heap.size w w' := by
  obtain ⟨h1, h2, h3⟩ := goodB_true h
  clear h
  by_cases c1 : r < 128
  · have V := fun a : Int => conv_new w [a] 1 rfl #[.int .u8 a] rfl
    go_enter Tryz.func45, Tryz.ntmps45
    go_wp2
    go_ret
    exact ⟨ret_s (enc_one (Lib.encodeRuneZ_one h1 (by omega)).symm), (Below.refl _ _).alloc (Nat.le_refl _) _⟩
  by_cases c2 : r < 2048
  · have V := fun a b : Int => conv_new w [a, b] 2 rfl #[.int .u8 a, .int .u8 b] rfl
    go_enter Tryz.func45, Tryz.ntmps45
    go_wp2
    go_ret
    exact ⟨ret_s (enc_two (Lib.encodeRuneZ_two (by omega) (by omega)).symm), (Below.refl _ _).alloc (Nat.le_refl _) _⟩
  by_cases c3 : r < 65536
  · have V := fun a b c : Int => conv_new w [a, b, c] 3 rfl #[.int .u8 a, .int .u8 b, .int .u8 c] rfl
    go_enter Tryz.func45, Tryz.ntmps45
    go_wp2
    go_ret
    exact ⟨ret_s (enc_three (Lib.encodeRuneZ_three (by omega)).symm), (Below.refl _ _).alloc (Nat.le_refl _) _⟩
  · have V := fun a b c d : Int => conv_new w [a, b, c, d] 4 rfl #[.int .u8 a, .int .u8 b, .int .u8 c, .int .u8 d] rfl
    go_enter Tryz.func45, Tryz.ntmps45
    go_wp2
    go_ret
    exact ⟨ret_s (enc_four (Lib.encodeRuneZ_four (by omega) (by omega)).symm), (Below.refl _ _).alloc (Nat.le_refl _) _⟩
end Go.Proofs.YtanfebccenfffaaGreatDoor
