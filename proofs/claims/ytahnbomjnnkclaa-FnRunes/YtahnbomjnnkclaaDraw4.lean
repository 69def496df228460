/- Contract of the specification's DrawDecodeText and DrawCleanText: a text of at most 300 bytes, whatever the bytes. -/
import Derived.Test.YtahnbomjnnkclaaDraw3
import Derived.Laws.BytesArg
namespace Go.Proofs.Ytahnbomjnnkclaa
open Go.RowKit

theorem conv_row {w : World} {B : Nat} {v : Value} {xs : List Int} (h : Bys w B v xs) :
    (convert 22 9 v).run Try.prog w = .ok (.string ⟨(xs.map fun x => x.toNat.toUInt8).toArray⟩) w := by
  rcases h.2 with ⟨rfl, hn⟩ | ⟨g, cap, cur, rfl, _, hg, _, _, _, htk⟩
  · have e : xs = [] := by simpa using hn
    subst e
    exact run_convert_bytes_nil w 22 5 Try.underlying22 Try.underlying5 0 0 9 Try.underlying9
  · rw [run_convert_bytes_string _ _ _ _ _ _ _ Try.underlying22 Try.underlying5 Try.underlying9]
    have hl := run_loadCells_list (P := Try.prog) w ⟨g, 0, none⟩ (xs.map (Value.int .u8)) (fun j v hj => h.cells (g := g) rfl j v hj)
    simp only [List.length_map] at hl
    rw [run_bytesToString _ _ _ _ xs hl, foldl_push]
    have he0 : ByteArray.empty.data = #[] := rfl
    rw [he0]
    simp

theorem size_map (xs : List Int) : (⟨(xs.map fun x => x.toNat.toUInt8).toArray⟩ : ByteArray).size = xs.length := by
  show (xs.map fun x => x.toNat.toUInt8).toArray.size = xs.length
  simp

theorem made_bytes (n : Nat) : (madeCells (Value.int .u8 0).cells (n * 1)).toList = (List.replicate n (0 : Int)).map (Value.int .u8) := by
  have h := toList_madeCells_one (Value.int .u8 0) n
  simpa [Value.cells] using h

theorem conv_made {w : World} {B m g : Nat} (h : w.ownsRow B 5 1 (.slice (some ⟨g, 0, none⟩) m m) m (madeCells (Value.int .u8 0).cells (m * 1)).toList) :
    (convert 22 9 (.slice (some ⟨g, 0, none⟩) m m)).run Try.prog w = .ok (.string ⟨((List.replicate m (0 : Int)).map fun x => x.toNat.toUInt8).toArray⟩) w := by
  rw [made_bytes] at h
  exact conv_row (B := B) (by unfold Bys; simpa using h)

def PartsRel (w : World) (B b K : Nat) (s n : Value) (wr : World) : Prop :=
  ∃ (j k : Nat) (t : ByteArray), n = .int .i64 j ∧ s = .string t ∧ t.size + 4 * j ≤ 20 ∧ k + 2 * j ≤ K ∧ Cur wr B b k ∧ w.grownBy wr (some b)

def parts : List ByteArray := [⟨#[224, 160]⟩, ⟨#[237, 160, 128]⟩, ⟨#[240, 144, 128]⟩, ⟨#[244, 144]⟩, ⟨#[195]⟩, ⟨#[195, 169]⟩, ⟨#[226, 130, 172]⟩, ⟨#[240, 159, 152, 128]⟩, ⟨#[239, 191, 189]⟩, ⟨#[97]⟩, ⟨#[192, 128]⟩]

theorem parts_le : ∀ s ∈ parts, s.size ≤ 4 := by decide

set_option maxRecDepth 100000 in
set_option maxHeartbeats 4000000 in
theorem drawDec_any (w : World) (a : Option Addr) (n cap : Nat) (hn : n ≤ 1048576) (h : Came w a n) :
    Calls Try.prog 22 #[.slice a n cap] w fun e w' => ∃ t : ByteArray, e = .returned (.string t) ∧ t.size ≤ 300 ∧ Below w.heap.size w w' := by
  obtain ⟨i0, hi, hz0, hz1, hz2⟩ := info_parts info_byte
  have hC0 := cur_new w a n cap hn h
  have P := pick_any _ _ _ 0 hC0 (by omega) 3 (by omega) (by omega)
  clear h hC0
  go_enter Try.func22, Try.ntmps22
  go_wp2_with fail
  refine P.mono ?_
  rintro e w1 ⟨x, rfl, x0, x1, ⟨⟨k1, hk1, hC1⟩, hg1⟩⟩
  clear P
  have hx : x = 0 ∨ x = 1 ∨ 2 ≤ x := by omega
  rcases hx with rfl | rfl | hx
  · have T := text_any w1 _ _ k1 hC1 (by omega)
    go_wp2_with fail
    refine T.mono ?_
    rintro e w2 ⟨t, rfl, ht, ⟨_, hg2⟩⟩
    go_wp2
    go_ret
    exact ⟨t, rfl, by omega, cur_below (grown_and hg1 hg2)⟩
  · have T := bytes_any w1 _ _ k1 12 hC1 (by omega) (by omega)
    go_wp2_with fail
    refine T.mono ?_
    rintro e w2 ⟨v, xs, rfl, hI, hl, ⟨_, hg2⟩⟩
    have V := conv_row hI
    have hsm := size_map xs
    generalize (⟨(xs.map fun x => x.toNat.toUInt8).toArray⟩ : ByteArray) = u at *
    clear T
    go_wp2
    go_ret
    exact ⟨u, rfl, by omega, cur_below (grown_and hg1 hg2)⟩
  · have P := pick_any w1 _ _ k1 hC1 (by omega) 6 (by omega) (by omega)
    go_wp2_with fail
    refine P.mono ?_
    rintro e w2 ⟨m, rfl, m0, m1, ⟨⟨k2, hk2, hC2⟩, hg2⟩⟩
    obtain ⟨m, rfl⟩ := Int.eq_ofNat_of_zero_le m0
    have hg22 := grown_and hg1 hg2
    have hm : m ≤ 5 := by omega
    clear P hg1 hg2 m0 m1 hC1
    go_wp2_with fail
    go_loopw [4, 5] (fun s nn wr => PartsRel (w.alloc (.cells #[.slice a n cap, .int .i64 0, .int .u64 0] 38)) (w.heap.size + 1) w.heap.size 20 s nn wr) (fun _ nn _ => (intOf nn).toNat)
    case atStart => exact ⟨m, k2, ⟨#[]⟩, rfl, rfl, by show 0 + 4 * m ≤ 20; omega, by omega, hC2, hg22⟩
    case round =>
      clear hC2 hg22 hk2
      obtain ⟨j, k3, t, rfl, rfl, hts, hk3, hC3, hg3⟩ := hrel
      by_cases hj : 0 < j
      · go_wp2_with fail
        refine (of_any wr _ _ k3 hC3 (by omega) parts 11 rfl (by omega) (by omega) _ rfl).mono ?_
        rintro e w4 ⟨s, rfl, hs, ⟨⟨k4, hk4, hC4⟩, hg4⟩⟩
        have hsl := parts_le s hs
        have hg44 := grown_and hg3 hg4
        clear hC3 hg3 hg4 hs
        go_wp2
        exact ⟨⟨j - 1, k4, t ++ s, by go_num, rfl, by rw [ByteArray.size_append]; omega, by omega, hC4, hg44⟩, by simp [intOf]; omega⟩
      · have O := oneIn_any wr _ _ k3 hC3 (by omega) 30 (by omega) (by omega)
        clear hC3
        go_wp2_with fail
        refine O.mono ?_
        rintro e w4 ⟨bo, rfl, ⟨⟨k4, hk4, hC4⟩, hg4⟩⟩
        have hg44 := grown_and hg3 hg4
        clear O hg3 hg4
        cases bo
        · go_wp2
          go_ret
          exact ⟨t, rfl, by omega, cur_below hg44⟩
        · have P := pick_any w4 _ _ k4 hC4 (by omega) 2 (by omega) (by omega)
          go_wp2_with fail
          refine P.mono ?_
          rintro e w5 ⟨y, rfl, y0, y1, ⟨⟨k5, hk5, hC5⟩, hg5⟩⟩
          obtain ⟨y, rfl⟩ := Int.eq_ofNat_of_zero_le y0
          have hy : y ≤ 1 := by omega
          have hg55 := grown_and hg44 hg5
          have hsz5 : w.heap.size + 1 ≤ w5.heap.size := hC5.lt.2
          clear P hg44 hg5 y0 y1 hC4
          go_wp2_with (at_make; refine wpList_make_full _ rfl _ _ 22 rfl (w.heap.size + 1) 5 i0 (.int .u8 0) 1 Try.underlying22 hi hz0 hz1 .i64 .i64 _ _ (200 + y) rfl rfl (by omega) (by omega) (by rw [hz2]; omega) (by unfold maxLen; omega) (by omega) ?_; intro w6 hown hgr; have V := conv_made hown; have hsm := size_map (List.replicate (200 + y) 0); rw [List.length_replicate] at hsm; generalize (ByteArray.mk ((List.replicate (200 + y) (0 : Int)).map fun x => x.toNat.toUInt8).toArray) = u at V hsm)
          go_ret
          have hb := Below.grown (cur_below hg55) hgr (by omega) (fun j hj => by cases hj)
          exact ⟨u, rfl, by omega, hb⟩

set_option maxRecDepth 100000 in
set_option maxHeartbeats 1000000 in
theorem drawClean_any (w : World) (a : Option Addr) (n cap : Nat) (hn : n ≤ 1048576) (h : Came w a n) :
    Calls Try.prog 9 #[.slice a n cap] w fun e w' => ∃ t : ByteArray, e = .returned (.string t) ∧ t.size ≤ 300 ∧ Below w.heap.size w w' := by
  have D := drawDec_any w a n cap hn h
  clear h
  go_enter Try.func9, Try.ntmps9
  go_wp2_with fail
  refine D.mono ?_
  rintro e w1 ⟨t, rfl, ht, hb⟩
  go_wp2
  go_ret
  exact ⟨t, rfl, ht, hb⟩
end Go.Proofs.Ytahnbomjnnkclaa
