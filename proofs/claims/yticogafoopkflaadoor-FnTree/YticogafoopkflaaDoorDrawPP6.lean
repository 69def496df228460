/- Contract of the specification's DrawPutInPages: pages of bounded number and length, and a Row of bounded texts. -/
import Derived.Test.YticogafoopkflaaDoorCurD6
import Derived.Test.YticogafoopkflaaDoorSPut6
import Derived.Test.YticogafoopkflaaDoorSDrop6
import Derived.Test.YticogafoopkflaaDoorCell6
import Derived.Test.YticogafoopkflaaDoorResC
import Derived.Test.YticogafoopkflaaDoorIFRow6
import Derived.Deep.RegionLaw
namespace Go.Proofs.YticogafoopkflaaDoor
open Go.RowKit

theorem below_gD {w w' : World} (h : Below w.heap.size w w') (row : Option Nat) : w.grownBy w' row := ⟨h.os, h.tape, h.output, h.size, fun k hk _ => h.block k hk⟩

theorem ansG_sz (G : List (List Rw)) : ∀ s ∈ (ansG G).getD [], s.size ≤ 300 := by
  intro s hs
  unfold ansG at hs
  split at hs
  · rename_i hc
    obtain ⟨g, hg, rfl⟩ := List.mem_map.1 (show s ∈ G.map pgB from hs)
    rw [pgB_size]
    have := List.all_eq_true.1 hc.2 g hg
    simpa using this
  · simp at hs

theorem putA_sz (ss : List ByteArray) (x : Rw) : ∀ s ∈ (putA ss x).getD [], s.size ≤ 300 := by
  unfold putA
  split
  · simp
  · split
    · rename_i hx
      split
      · intro s hs
        simp at hs
        subst hs
        rw [pgB_size]
        exact (okPB_sz hx).2.2
      · split
        · exact ansG_sz _
        · simp
    · simp

theorem dropA_sz (ss : List ByteArray) (key : ByteArray) : ∀ s ∈ (dropA ss key).getD [], s.size ≤ 300 := by
  unfold dropA
  split
  · simp
  · split
    · exact ansG_sz _
    · simp

/-- Pages of bounded number and length. -/
def PgOk (m : Nat) (ss : List ByteArray) : Prop := ss.length ≤ m ∧ ∀ s ∈ ss, s.size ≤ 300

def txt (zs : List Int) : ByteArray := ⟨(zs.map fun x => x.toNat.toUInt8).toArray⟩

theorem Cur.allocD {w : World} {B b k : Nat} (h : Cur w B b k) (o : Obj) : Cur (w.alloc o) B b k := h.kept (World.grownBy_alloc w o none) (fun k hk => by cases hk)
theorem grownA {w u : World} {o : Obj} {r : Option Nat} (h : (w.alloc o).grownBy u r) : w.grownBy u r := (World.grownBy_alloc w o r).trans h

/-- A Row's block, still zero. -/
def BoxZ (u : World) (p : Nat) : Prop := u.heap[p]? = some (.cells #[.string ⟨#[]⟩, .string ⟨#[]⟩, .string ⟨#[]⟩] 32)
theorem boxz_new (w : World) : BoxZ (w.alloc (.cells #[.string ⟨#[]⟩, .string ⟨#[]⟩, .string ⟨#[]⟩] 32)) w.heap.size := heap_alloc_new w _
theorem BoxZ.facts {u : World} {b : Nat} (h : BoxZ u b) : b < u.heap.size ∧ u.cell? ⟨b, 0, none⟩ = some (.string ⟨#[]⟩) ∧ u.cell? ⟨b, 1, none⟩ = some (.string ⟨#[]⟩) ∧ u.cell? ⟨b, 2, none⟩ = some (.string ⟨#[]⟩) ∧ ∀ j, u.frozen? ⟨b, j, none⟩ = false :=
  ⟨(Array.getElem?_eq_some_iff.1 h).1, cell_of_row _ _ 0 _ _ _ h, cell_of_row _ _ 1 _ _ _ h, cell_of_row _ _ 2 _ _ _ h, fun j => by
    have h' : u.heap[b]? = _ := h
    simp [World.frozen?, h']⟩
theorem BoxZ.kept {u u' : World} {b p : Nat} (h : BoxZ u p) (hg : u.grownBy u' (some b)) (hn : p ≠ b) : BoxZ u' p := (hg.block p h.facts.1 (fun e => hn (Option.some.inj e))).trans h
theorem BoxZ.store {u : World} {p : Nat} (h : BoxZ u p) (x : Rw) : BoxR6 (((u.setCell ⟨p, 0, none⟩ (.string x.key)).setCell ⟨p, 1, none⟩ (.string x.text)).setCell ⟨p, 2, none⟩ (.string x.val)) p x := by
  have h' : u.heap[p]? = some (.cells [Value.string ⟨#[]⟩, .string ⟨#[]⟩, .string ⟨#[]⟩].toArray 32 (0, 0)) := h
  have e := row_set6 (k := 2) (.string x.val) (row_set6 (k := 1) (.string x.text) (row_set6 (k := 0) (.string x.key) h'))
  exact e
theorem grown_store3 (u : World) (p : Nat) (x y z : Value) : u.grownBy (((u.setCell ⟨p, 0, none⟩ x).setCell ⟨p, 1, none⟩ y).setCell ⟨p, 2, none⟩ z) (some p) := ((grown_set6 u p 0 x).trans (grown_set6 _ p 1 y)).trans (grown_set6 _ p 2 z)

theorem box_set {u : World} {p : Nat} {x : Rw} (h : BoxR6 u p x) (s : ByteArray) : BoxR6 (u.setCell ⟨p, 0, none⟩ (.string s)) p ⟨s, x.text, x.val⟩ ∧ BoxR6 (u.setCell ⟨p, 2, none⟩ (.string s)) p ⟨x.key, x.text, s⟩ := by
  have h' : u.heap[p]? = some (.cells [Value.string x.key, .string x.text, .string x.val].toArray 32 (0, 0)) := h
  exact ⟨row_set6 (k := 0) (.string s) h', row_set6 (k := 2) (.string s) h'⟩
theorem box_frozen {u : World} {p : Nat} {x : Rw} (h : BoxR6 u p x) : ∀ j, u.frozen? ⟨p, j, none⟩ = false := fun j => by
  have h' : u.heap[p]? = _ := h
  simp [World.frozen?, h']
theorem BoxR6.keptD {u u' : World} {r : Option Nat} {p : Nat} {x : Rw} (h : BoxR6 u p x) (hg : u.grownBy u' r) (hn : some p ≠ r) : BoxR6 u' p x := (hg.block p h.lt hn).trans h

theorem strs_ne_box {w : World} {B b : Nat} {v : Value} {x : Rw} {ss : List ByteArray} (h : BoxR6 w b x) (ho : Strs w B v ss) : v.ownBlock = none ∨ v.ownBlock ≠ some b := by
  rcases ho.2 with ⟨rfl, _⟩ | ⟨g, cap, cur, rfl, _, hg, _⟩
  · exact .inl rfl
  · refine .inr fun e => ?_
    have e2 : g = b := Option.some.inj e
    subst e2
    unfold BoxR6 at h
    rw [hg] at h
    injection h with q1
    injection q1 with _ q2
    exact absurd q2 (by decide)

/-- Behind the drawing of a row. -/
def RowAt6 (wr wx : World) (B b k : Nat) (v : Value) : Prop :=
  ∃ (bx k' : Nat) (x : Rw), v = .pointer (some ⟨bx, 0, none⟩) ∧ B ≤ bx ∧ BoxR6 wx bx x ∧ x.key.size ≤ 13 ∧ x.text.size ≤ 20 ∧ x.val.size ≤ 20 ∧ k' ≤ k + 48 ∧ Cur wx B b k' ∧ wr.grownBy wx (some b)

theorem rowAt_old {wr w5 : World} {B b k k5 p : Nat} {x : Rw} (hz : BoxZ w5 p) (hp : B ≤ p) (hw : wr.heap.size ≤ p) (h1 : x.key.size ≤ 13) (h2 : x.text.size ≤ 20) (h3 : x.val.size ≤ 20) (hk : k5 ≤ k + 48) (hC : Cur w5 B b k5) (hg : wr.grownBy w5 (some b)) :
    RowAt6 wr (((w5.setCell ⟨p, 0, none⟩ (.string x.key)).setCell ⟨p, 1, none⟩ (.string x.text)).setCell ⟨p, 2, none⟩ (.string x.val)) B b k (.pointer (some ⟨p, 0, none⟩)) :=
  ⟨p, k5, x, rfl, hp, hz.store x, h1, h2, h3, hk, hC.kept (grown_store3 w5 p _ _ _) (fun j hj => by have := Option.some.inj hj; omega), grown_own hg (grown_store3 w5 p _ _ _) (fun j hj => by have := Option.some.inj hj; omega)⟩

theorem rowAt_new {wr w5 : World} {B b k k5 : Nat} {x : Rw} (h1 : x.key.size ≤ 13) (h2 : x.text.size ≤ 20) (h3 : x.val.size ≤ 20) (hk : k5 ≤ k + 48) (hC : Cur w5 B b k5) (hg : wr.grownBy w5 (some b)) :
    RowAt6 wr (w5.alloc (.cells #[.string x.key, .string x.text, .string x.val] 32)) B b k (.pointer (some ⟨w5.heap.size, 0, none⟩)) :=
  ⟨w5.heap.size, k5, x, rfl, hC.lt.2, box_new6 w5 x, h1, h2, h3, hk, hC.allocD _, hg.trans (World.grownBy_alloc _ _ _)⟩

def DpRel (w1 : World) (B b K : Nat) (v n : Value) (wr : World) : Prop :=
  ∃ (j k : Nat) (ss : List ByteArray), n = .int .i64 (j : Int) ∧ j ≤ 11 ∧ Strs wr B v ss ∧ PgOk 40 ss ∧ k + 60 * j ≤ K ∧ Cur wr B b k ∧ w1.grownBy wr (some b)

theorem strs_keptD {w w' : World} {B b : Nat} {v : Value} {ss : List ByteArray} (h : Strs w B v ss) (hg : w.grownBy w' (some b)) (hb : b < B) : Strs w' B v ss := World.ownsRow.kept h hg (own_ne h hb)

theorem Byz.keptD {w w' : World} {B b : Nat} {v : Value} {zs : List Int} (h : Byz w B v zs) (hg : w.grownBy w' (some b)) (hb : b < B) : Byz w' B v zs := World.ownsRow.kept h hg (own_ne h hb)

set_option maxRecDepth 100000 in
set_option maxHeartbeats 16000000 in
theorem drawPut_any (w : World) (a : Option Addr) (n cap : Nat) (hn : n ≤ 1048576) (h : Came w a n) :
    Calls Tryd.prog 13 #[.slice a n cap] w fun e w' => ∃ (v : Value) (ss : List ByteArray) (x : Rw), e = .returned (.tuple #[v, .agg #[.string x.key, .string x.text, .string x.val]]) ∧ Strs w' w.heap.size v ss ∧ PgOk 41 ss ∧ (x.key.size ≤ 201 ∧ x.text.size ≤ 20 ∧ x.val.size ≤ 81) ∧ Below w.heap.size w w' := by
  have bz := (Below.refl w.heap.size w).alloc (Nat.le_refl _) (.cells #[.string ⟨#[]⟩, .string ⟨#[]⟩, .string ⟨#[]⟩] 32)
  have C1 := cur_new (w.alloc (.cells #[.string ⟨#[]⟩, .string ⟨#[]⟩, .string ⟨#[]⟩] 32)) a n cap hn (h.below bz)
  have HX0 : Hid (((w.alloc (.cells #[.string ⟨#[]⟩, .string ⟨#[]⟩, .string ⟨#[]⟩] 32)).alloc (.cells #[.slice a n cap, .int .i64 0, .int .u64 0] 68)).heap[w.heap.size]? = some (.cells #[.string ⟨#[]⟩, .string ⟨#[]⟩, .string ⟨#[]⟩] 32)) := by
    show _ = _
    rw [Below.heap_alloc _ _ _ (by simp)]
    exact heap_alloc_new w _
  obtain ⟨b, hb⟩ : ∃ b, b = w.heap.size + 1 := ⟨_, rfl⟩
  obtain ⟨B, hB⟩ : ∃ B, B = w.heap.size + 1 + 1 := ⟨_, rfl⟩
  have hsz1 : (w.alloc (.cells #[.string ⟨#[]⟩, .string ⟨#[]⟩, .string ⟨#[]⟩] 32)).heap.size = w.heap.size + 1 := by simp
  rw [hsz1, ← hB, ← hb] at C1
  have HBW1 : Hid (Below w.heap.size w ((w.alloc (.cells #[.string ⟨#[]⟩, .string ⟨#[]⟩, .string ⟨#[]⟩] 32)).alloc (.cells #[.slice a n cap, .int .i64 0, .int .u64 0] 68))) := bz.alloc bz.size _
  have P := pick_any _ B b 0 C1 (by omega) 12 (by omega) (by omega)
  obtain ⟨i0, hi0, hz0, hz1, hz2⟩ := info_parts info_byteC
  obtain ⟨i1, hi1, hy0, hy1, hy2⟩ := info_parts info_strB
  rw [hb] at P
  have HNE : Hid (w.heap.size ≠ b ∧ w.heap.size < b ∧ b < B) := ⟨by omega, by omega, by omega⟩
  have HBB : Hid (w.heap.size + 1 = b ∧ w.heap.size + 1 + 1 = B) := ⟨hb.symm, hB.symm⟩
  clear h bz C1 hsz1
  go_enter Tryd.func13, Tryd.ntmps13
  go_wp2_with fail
  refine P.mono ?_
  rintro e w1 ⟨x0, rfl, hx0, hx1, M⟩
  obtain ⟨j0, rfl⟩ := Int.eq_ofNat_of_zero_le hx0
  obtain ⟨⟨k1, hk1, C1⟩, g1⟩ := M
  rw [← hb] at C1 g1
  have HB1 : Hid (Below w.heap.size w w1) := Below.grown HBW1.out g1 HBW1.out.size (fun i hi => by have := Option.some.inj hi; omega)
  have HX1 : Hid (w1.heap[w.heap.size]? = some (.cells #[.string ⟨#[]⟩, .string ⟨#[]⟩, .string ⟨#[]⟩] 32)) := (g1.block _ (Array.getElem?_eq_some_iff.1 HX0.out).1 (fun e => by have := Option.some.inj e; omega)).trans HX0.out
  have HC1 : Hid (Cur w1 B b k1) := C1
  have HKB : Hid (∀ (u : World) (k : Nat), Cur u B b k → k ≤ 3000 → Calls Tryd.prog 38 #[.pointer (some ⟨b, 0, none⟩)] u fun e w' => ∃ s : ByteArray, e = .returned (.string s) ∧ s.size ≤ 13 ∧ Moved u w' B b k 4) := fun u k hc hk => keyBytes_any u B b k hc (by omega)
  have HBT : Hid (∀ (u : World) (k : Nat), Cur u B b k → k ≤ 3000 → Calls Tryd.prog 39 #[.pointer (some ⟨b, 0, none⟩), .int .i64 20] u fun e w' => ∃ v zs, e = .returned v ∧ Byz w' u.heap.size v zs ∧ zs.length ≤ 20 ∧ Moved u w' B b k 22) := fun u k hc hk => cbytes_any u B b k 20 hc (by omega) (by omega)
  have HON : Hid (∀ (u : World) (k : Nat) (m : Int), Cur u B b k → k ≤ 3000 → 0 ≤ m → m ≤ 100 → Calls Tryd.prog 40 #[.pointer (some ⟨b, 0, none⟩), .int .i64 m] u fun e w' => ∃ x : Bool, e = .returned (.bool x) ∧ Moved u w' B b k 2) := fun u k m hc hk h0 h1 => oneIn_any u B b k hc (by omega) m (by omega) (by omega)
  have HPK : Hid (∀ (u : World) (k : Nat) (m : Int), Cur u B b k → k ≤ 3000 → 0 ≤ m → m ≤ 100 → Calls Tryd.prog 37 #[.pointer (some ⟨b, 0, none⟩), .int .i64 m] u fun e w' => ∃ x : Int, e = .returned (.int .i64 x) ∧ 0 ≤ x ∧ (x < m ∨ x = 0) ∧ Moved u w' B b k 2) := fun u k m hc hk h0 h1 => pick_any u B b k hc (by omega) m (by omega) (by omega)
  have hj11 : j0 ≤ 11 := by omega
  have hbB : b < B := by omega
  have hwb : w.heap.size < b := by omega
  have hBw1 := C1.lt.2
  clear P g1 C1 hx0 hx1 HX0 HBW1
  rw [← hb]
  clear hb hB
  go_wp2_with fail
  go_loopw [5, 6] (fun v n wr => DpRel w1 B b 800 v n wr) (fun _ n _ => (intOf n).toNat)
  case atStart => exact ⟨j0, k1, [], rfl, hj11, World.ownsRow_nil _ _ _ _, ⟨by simp, fun s hs => by simp at hs⟩, by omega, HC1.out, World.grownBy.refl _ _⟩
  case round =>
    clear HC1 hk1
    obtain ⟨j, k, ss, rfl, hj, hS, hP, hk, hC, hg⟩ := hrel
    obtain ⟨hsl, hsz⟩ := hP
    obtain ⟨va, vc, hv⟩ := strs_formB hS
    subst hv
    have HS : Hid (Strs wr B (.slice va ss.length vc) ss) := hS
    have HSZ : Hid (∀ s ∈ ss, s.size ≤ 300) := hsz
    have HC : Hid (Cur wr B b k) := hC
    have HG : Hid (w1.grownBy wr (some b)) := hg
    have hBr := hC.lt.2
    clear hS hsz hC hg
    by_cases hj0 : 0 < j
    · have hj8 : (0 : Int) < (j : Int) := by omega
      go_upto_region 6 with fail
      go_cut [5, 6, 7] from 18 to 49 (fun v5 v6 v7 wx => v5 = .slice va ss.length vc ∧ v6 = .int .i64 (j : Int) ∧ RowAt6 wr wx B b k v7)
      case first =>
        go_region_law (first
          | (go_simp; go_at_call 38; refine (HKB.out _ k (by first | exact HC.out | exact HC.out.allocD (.cells #[.string ⟨#[]⟩, .string ⟨#[]⟩, .string ⟨#[]⟩] 32)) (by omega)).mono ?_; rintro e w3 ⟨s3, rfl, z3, ⟨⟨k3, hk3, C3⟩, q3⟩⟩; have g3 : wr.grownBy w3 (some b) := (by first | exact ⟨q3.os, q3.tape, q3.output, q3.size, q3.block⟩ | exact grownA (o := .cells #[.string ⟨#[]⟩, .string ⟨#[]⟩, .string ⟨#[]⟩] 32) ⟨q3.os, q3.tape, q3.output, q3.size, q3.block⟩); have hs3 := g3.size; have hner : wr.heap.size ≠ b := (by omega); have hne3 : w3.heap.size ≠ b := (by omega); (try (have x3 : BoxZ w3 wr.heap.size := BoxZ.kept (boxz_new wr) ⟨q3.os, q3.tape, q3.output, q3.size, q3.block⟩ hner; obtain ⟨l3, c30, c31, c32, f3⟩ := x3.facts)))
          | (go_simp; go_at_call 39; refine (HBT.out _ k4 (by first | exact C4 | exact C4.allocD _) (by omega)).mono ?_; rintro e w5 ⟨v5, zs5, rfl, y5, z5, ⟨⟨k5, hk5, C5⟩, q5⟩⟩; have g5 : w4.grownBy w5 (some b) := (by first | exact q5 | exact grownA q5); have hs5 := g5.size; have y4 := Byz.keptD y4b g5 (by have h9 := C3.lt; first | omega | (simp; omega)); have cv45 := conv_row y4; have cv55 := conv_row y5; have ya4 : Byz (w5.alloc (.cells #[.string ⟨#[]⟩, .string ⟨#[]⟩, .string ⟨#[]⟩] 32)) _ v4 zs4 := World.ownsRow.alloc y4 _; have ya5 : Byz (w5.alloc (.cells #[.string ⟨#[]⟩, .string ⟨#[]⟩, .string ⟨#[]⟩] 32)) _ v5 zs5 := World.ownsRow.alloc y5 _; have cv45a := conv_row ya4; have cv55a := conv_row ya5; (try (have x53 : BoxZ w5 wr.heap.size := BoxZ.kept x43 g5 hner; obtain ⟨l53, c530, c531, c532, f53⟩ := x53.facts)); (try (have x54 : BoxZ w5 w3.heap.size := BoxZ.kept x44 g5 hne3; obtain ⟨l54, c540, c541, c542, f54⟩ := x54.facts)); (try (have x55 : BoxZ w5 w4.heap.size := BoxZ.kept (boxz_new w4) q5 hne4; obtain ⟨l55, c550, c551, c552, f55⟩ := x55.facts)))
          | (go_simp; go_at_call 39; refine (HBT.out _ k3 (by first | exact C3 | exact C3.allocD _) (by omega)).mono ?_; rintro e w4 ⟨v4, zs4, rfl, y4b, z4, ⟨⟨k4, hk4, C4⟩, q4⟩⟩; have g4 : w3.grownBy w4 (some b) := (by first | exact q4 | exact grownA q4); have hs4 := g4.size; have hne4 : w4.heap.size ≠ b := (by omega); have cv44 := conv_row y4b; have yb4 : Byz (w4.alloc (.cells #[.string ⟨#[]⟩, .string ⟨#[]⟩, .string ⟨#[]⟩] 32)) _ v4 zs4 := World.ownsRow.alloc y4b _; have cv44a := conv_row yb4; (try (have x43 : BoxZ w4 wr.heap.size := BoxZ.kept x3 g4 hner; obtain ⟨l43, c430, c431, c432, f43⟩ := x43.facts)); (try (have x44 : BoxZ w4 w3.heap.size := BoxZ.kept (boxz_new w3) q4 hne3; obtain ⟨l44, c440, c441, c442, f44⟩ := x44.facts))))
        all_goals
          have hg5 : wr.grownBy w5 (some b) := grown_and (grown_and g3 g4) g5
          have h1 : (⟨s3, txt zs4, txt zs5⟩ : Rw).text.size ≤ 20 := by show (txt zs4).size ≤ 20; unfold txt; rw [size_map]; exact z4
          have h2 : (⟨s3, txt zs4, txt zs5⟩ : Rw).val.size ≤ 20 := by show (txt zs5).size ≤ 20; unfold txt; rw [size_map]; exact z5
          go_wp2_with fail
          go_meet
          case rel => first | exact ⟨rfl, rfl, rowAt_new (x := ⟨s3, txt zs4, txt zs5⟩) z3 h1 h2 (by omega) C5 hg5⟩ | exact ⟨rfl, rfl, rowAt_old (x := ⟨s3, txt zs4, txt zs5⟩) x53 (by omega) (by omega) z3 h1 h2 (by omega) C5 hg5⟩ | exact ⟨rfl, rfl, rowAt_old (x := ⟨s3, txt zs4, txt zs5⟩) x54 (by omega) (by omega) z3 h1 h2 (by omega) C5 hg5⟩ | exact ⟨rfl, rfl, rowAt_old (x := ⟨s3, txt zs4, txt zs5⟩) x55 (by omega) (by omega) z3 h1 h2 (by omega) C5 hg5⟩
      case rest =>
        obtain ⟨hu5, hu6, bx, k6, x, hu7, hbx, X, z1, z2, z3, hk6, C6, g6⟩ := hcut
        subst hu5
        subst hu6
        subst hu7
        obtain ⟨w6, rfl⟩ : ∃ w6, w6 = wc := ⟨_, rfl⟩
        obtain ⟨c0, c1, c2⟩ := X.cells
        have hxl := X.lt
        have S6 := strs_keptD HS.out g6 hbB
        have SP : Calls Tryd.prog 15 #[.slice va ss.length vc, .agg #[.string x.key, .string x.text, .string x.val]] w6 fun e w' => ∃ v', e = .returned (.tuple #[v', .bool (putA ss x).isSome]) ∧ Strs w' w6.heap.size v' ((putA ss x).getD []) ∧ Below w6.heap.size w6 w' := specPut_any x S6 (fun s hs => by have := HSZ.out s hs; omega) (by omega)
        have HPO : Hid (PgOk 40 ((putA ss x).getD [])) := ⟨putA_len ss x, putA_sz ss x⟩
        have HPO0 : Hid (PgOk 40 ss) := ⟨hsl, HSZ.out⟩
        have hB6 := C6.lt.2
        have HC6 : Hid (Cur w6 B b k6) := C6
        have HG6 : Hid (w1.grownBy w6 (some b)) := grown_and HG.out g6
        have HS6 : Hid (Strs w6 B (.slice va ss.length vc) ss) := S6
        clear S6 C6 g6 X HS HC HG
        go_wp2_with fail
        refine SP.mono ?_
        rintro e w7 ⟨v7, rfl, s7, b7⟩
        have HC7 : Hid (Cur w7 B b k6) := HC6.out.kept (below_gD b7 none) (fun i hi => by cases hi)
        have HG7 : Hid (w1.grownBy w7 (some b)) := grown_and HG6.out (below_gD b7 (some b))
        have HSn : Hid (Strs w7 B v7 ((putA ss x).getD [])) := strs_low s7 hB6
        have HSo : Hid (Strs w7 B (.slice va ss.length vc) ss) := HS6.out.below b7
        clear SP s7 b7 HC6 HG6 HS6 c0 c1 c2 hxl
        generalize (putA ss x).getD [] = pp at *
        cases hok : (putA ss x).isSome
        case' false =>
          obtain ⟨ps, rfl⟩ : ∃ ps, ps = ss := ⟨_, rfl⟩
          have HSP := HSo
          have HPP := HPO0
          have ON := HON.out w7 k6 4 HC7.out (by omega) (by omega) (by omega)
          clear HSn HSo HPO HPO0
          go_wp2_with fail
        case' true =>
          obtain ⟨ps, rfl⟩ : ∃ ps, ps = pp := ⟨_, rfl⟩
          obtain ⟨a7, c7, hv7⟩ := strs_formB HSn.out
          subst hv7
          have HSP := HSn
          have HPP := HPO
          have ON := HON.out w7 k6 4 HC7.out (by omega) (by omega) (by omega)
          clear HSn HSo HPO HPO0
          go_wp2_with fail
        all_goals
          clear hok
          refine ON.mono ?_
          rintro e w8 ⟨yes, rfl, ⟨⟨k8, hk8, C8⟩, g8⟩⟩
          have HC8 : Hid (Cur w8 B b k8) := C8
          have HG8 : Hid (w1.grownBy w8 (some b)) := grown_and HG7.out g8
          have HS8 : Hid (Strs w8 B _ _) := strs_keptD HSP.out g8 hbB
          clear ON C8 g8 HSP HC7 HG7
          cases yes
          · go_wp2
            exact ⟨⟨j - 1, k8, _, by go_num, by omega, HS8.out, HPP.out, by omega, HC8.out, HG8.out⟩, by simp [intOf]; omega⟩
          · have KB := HKB.out w8 k8 HC8.out (by omega)
            go_wp2_with fail
            refine KB.mono ?_
            rintro e w9 ⟨s9, rfl, _, ⟨⟨k9, hk9, C9⟩, g9⟩⟩
            have HC9 : Hid (Cur w9 B b k9) := C9
            have HG9 : Hid (w1.grownBy w9 (some b)) := grown_and HG8.out g9
            have S9 := strs_keptD HS8.out g9 hbB
            have SD := specDrop_any s9 S9 (fun s hs => by have := HPP.out.2 s hs; omega) (by have := HPP.out.1; omega)
            have hB9 := C9.lt.2
            have HS9 : Hid (Strs w9 B _ _) := S9
            clear KB C9 g9 S9 HS8 HC8 HG8
            go_wp2_with fail
            refine SD.mono ?_
            rintro e w10 ⟨v10, rfl, s10, b10⟩
            have HC10 : Hid (Cur w10 B b k9) := HC9.out.kept (below_gD b10 none) (fun i hi => by cases hi)
            have HG10 : Hid (w1.grownBy w10 (some b)) := grown_and HG9.out (below_gD b10 (some b))
            have HSn : Hid (Strs w10 B v10 _) := strs_low s10 hB9
            have HSo := HS9.out.below b10
            have HSO : Hid (Strs w10 B _ _) := HSo
            have HPN : Hid (PgOk 40 ((dropA ps s9).getD [])) := ⟨dropA_len ps s9, dropA_sz ps s9⟩
            clear SD s10 b10 HC9 HG9 HS9 HSo
            cases hok : (dropA ps s9).isSome
            · go_wp2
              exact ⟨⟨j - 1, k9, _, by go_num, by omega, HSO.out, HPP.out, by omega, HC10.out, HG10.out⟩, by simp [intOf]; omega⟩
            · go_wp2
              exact ⟨⟨j - 1, k9, _, by go_num, by omega, HSn.out, HPN.out, by omega, HC10.out, HG10.out⟩, by simp [intOf]; omega⟩
    · obtain rfl : j = 0 := by omega
      clear hj0 hj
      go_upto_region 14 with fail
      go_cut [5, 12] from 50 to 58 (fun v5 v12 wx => v5 = .slice va ss.length vc ∧ RowAt6 wr wx B b k v12)
      case first =>
        go_region_law (first
          | (go_simp; go_at_call 38; refine (HKB.out _ k (by first | exact HC.out | exact HC.out.allocD (.cells #[.string ⟨#[]⟩, .string ⟨#[]⟩, .string ⟨#[]⟩] 32)) (by omega)).mono ?_; rintro e w3 ⟨s3, rfl, z3, ⟨⟨k3, hk3, C3⟩, q3⟩⟩; have g3 : wr.grownBy w3 (some b) := (by first | exact ⟨q3.os, q3.tape, q3.output, q3.size, q3.block⟩ | exact grownA (o := .cells #[.string ⟨#[]⟩, .string ⟨#[]⟩, .string ⟨#[]⟩] 32) ⟨q3.os, q3.tape, q3.output, q3.size, q3.block⟩); have hs3 := g3.size; have hner : wr.heap.size ≠ b := (by omega); have hne3 : w3.heap.size ≠ b := (by omega); (try (have x3 : BoxZ w3 wr.heap.size := BoxZ.kept (boxz_new wr) ⟨q3.os, q3.tape, q3.output, q3.size, q3.block⟩ hner; obtain ⟨l3, c30, c31, c32, f3⟩ := x3.facts)))
          | (go_simp; go_at_call 39; refine (HBT.out _ k4 (by first | exact C4 | exact C4.allocD _) (by omega)).mono ?_; rintro e w5 ⟨v5, zs5, rfl, y5, z5, ⟨⟨k5, hk5, C5⟩, q5⟩⟩; have g5 : w4.grownBy w5 (some b) := (by first | exact q5 | exact grownA q5); have hs5 := g5.size; have y4 := Byz.keptD y4b g5 (by have h9 := C3.lt; first | omega | (simp; omega)); have cv45 := conv_row y4; have cv55 := conv_row y5; have ya4 : Byz (w5.alloc (.cells #[.string ⟨#[]⟩, .string ⟨#[]⟩, .string ⟨#[]⟩] 32)) _ v4 zs4 := World.ownsRow.alloc y4 _; have ya5 : Byz (w5.alloc (.cells #[.string ⟨#[]⟩, .string ⟨#[]⟩, .string ⟨#[]⟩] 32)) _ v5 zs5 := World.ownsRow.alloc y5 _; have cv45a := conv_row ya4; have cv55a := conv_row ya5; (try (have x53 : BoxZ w5 wr.heap.size := BoxZ.kept x43 g5 hner; obtain ⟨l53, c530, c531, c532, f53⟩ := x53.facts)); (try (have x54 : BoxZ w5 w3.heap.size := BoxZ.kept x44 g5 hne3; obtain ⟨l54, c540, c541, c542, f54⟩ := x54.facts)); (try (have x55 : BoxZ w5 w4.heap.size := BoxZ.kept (boxz_new w4) q5 hne4; obtain ⟨l55, c550, c551, c552, f55⟩ := x55.facts)))
          | (go_simp; go_at_call 39; refine (HBT.out _ k3 (by first | exact C3 | exact C3.allocD _) (by omega)).mono ?_; rintro e w4 ⟨v4, zs4, rfl, y4b, z4, ⟨⟨k4, hk4, C4⟩, q4⟩⟩; have g4 : w3.grownBy w4 (some b) := (by first | exact q4 | exact grownA q4); have hs4 := g4.size; have hne4 : w4.heap.size ≠ b := (by omega); have cv44 := conv_row y4b; have yb4 : Byz (w4.alloc (.cells #[.string ⟨#[]⟩, .string ⟨#[]⟩, .string ⟨#[]⟩] 32)) _ v4 zs4 := World.ownsRow.alloc y4b _; have cv44a := conv_row yb4; (try (have x43 : BoxZ w4 wr.heap.size := BoxZ.kept x3 g4 hner; obtain ⟨l43, c430, c431, c432, f43⟩ := x43.facts)); (try (have x44 : BoxZ w4 w3.heap.size := BoxZ.kept (boxz_new w3) q4 hne3; obtain ⟨l44, c440, c441, c442, f44⟩ := x44.facts))))
        all_goals
          have hg5 : wr.grownBy w5 (some b) := grown_and (grown_and g3 g4) g5
          have h1 : (⟨s3, txt zs4, txt zs5⟩ : Rw).text.size ≤ 20 := by show (txt zs4).size ≤ 20; unfold txt; rw [size_map]; exact z4
          have h2 : (⟨s3, txt zs4, txt zs5⟩ : Rw).val.size ≤ 20 := by show (txt zs5).size ≤ 20; unfold txt; rw [size_map]; exact z5
          go_wp2_with fail
          go_meet
          case rel => first | exact ⟨rfl, rowAt_new (x := ⟨s3, txt zs4, txt zs5⟩) z3 h1 h2 (by omega) C5 hg5⟩ | exact ⟨rfl, rowAt_old (x := ⟨s3, txt zs4, txt zs5⟩) x53 (by omega) (by omega) z3 h1 h2 (by omega) C5 hg5⟩ | exact ⟨rfl, rowAt_old (x := ⟨s3, txt zs4, txt zs5⟩) x54 (by omega) (by omega) z3 h1 h2 (by omega) C5 hg5⟩ | exact ⟨rfl, rowAt_old (x := ⟨s3, txt zs4, txt zs5⟩) x55 (by omega) (by omega) z3 h1 h2 (by omega) C5 hg5⟩
      case rest =>
        obtain ⟨hu5, bx, k6, x, hu12, hbx, X, z1, z2, z3, hk6, C6, g6⟩ := hcut
        subst hu5
        subst hu12
        obtain ⟨w6, rfl⟩ : ∃ w6, w6 = wc := ⟨_, rfl⟩
        have P := HPK.out w6 k6 30 C6 (by omega) (by omega) (by omega)
        have HX6 : Hid (BoxR6 w6 bx x) := X
        have HS6 : Hid (Strs w6 B (.slice va ss.length vc) ss) := strs_keptD HS.out g6 hbB
        have HG6 : Hid (w1.grownBy w6 (some b)) := grown_and HG.out g6
        clear X C6 g6 HS HC HG
        go_wp2_with fail
        refine P.mono ?_
        rintro e w7 ⟨q, rfl, hq0, hq1, ⟨⟨k7, hk7, C7⟩, g7⟩⟩
        have hbxb : some bx ≠ some b := fun e => by have := Option.some.inj e; omega
        have hwne : w.heap.size ≠ b := by omega
        have HX7 : Hid (BoxR6 w7 bx x) := HX6.out.keptD g7 hbxb
        have HS7 : Hid (Strs w7 B (.slice va ss.length vc) ss) := strs_keptD HS6.out g7 hbB
        have HG7 : Hid (w1.grownBy w7 (some b)) := grown_and HG6.out g7
        have HZ7 : Hid (BoxZ w7 w.heap.size) := BoxZ.kept HX1.out HG7.out hwne
        have HB7 : Hid (Below w.heap.size w w7) := Below.grown HB1.out HG7.out HB1.out.size (fun i hi => by have := Option.some.inj hi; omega)
        have hB7 := C7.lt.2
        have hw7 := HB7.out.size
        clear P g7 HX6 HS6 HG6
        by_cases q0 : q = 0
        · subst q0
          have P2 := HPK.out w7 k7 2 C7 (by omega) (by omega) (by omega)
          clear C7
          go_wp2_with fail
          refine P2.mono ?_
          rintro e w8 ⟨r, rfl, hr0, hr1, ⟨⟨k8, hk8, C8⟩, g8⟩⟩
          obtain ⟨y, rfl⟩ := Int.eq_ofNat_of_zero_le hr0
          have HX8 : Hid (BoxR6 w8 bx x) := HX7.out.keptD g8 hbxb
          have HS8 : Hid (Strs w8 B (.slice va ss.length vc) ss) := strs_keptD HS7.out g8 hbB
          have HZ8 : Hid (BoxZ w8 w.heap.size) := BoxZ.kept HZ7.out g8 hwne
          have HB8 : Hid (Below w.heap.size w w8) := Below.grown HB7.out g8 HB7.out.size (fun i hi => by have := Option.some.inj hi; omega)
          have hB8 := C8.lt.2
          clear P2 C8 g8 HX7 HS7 HZ7 HB7 HG7
          go_wp2_with (at_make; refine wpList_make_full _ rfl _ _ 22 rfl B 5 i0 (.int .u8 0) 1 Tryd.underlying22 hi0 hz0 hz1 .i64 .i64 _ _ (200 + y) rfl rfl (by omega) (by omega) (by rw [hz2]; omega) (by unfold maxLen; omega) (by omega) ?_; intro w9 hown hgr; have V := conv_made hown; have hsm := size_map (List.replicate (200 + y) 0); rw [List.length_replicate] at hsm; generalize (ByteArray.mk ((List.replicate (200 + y) (0 : Int)).map fun x => x.toNat.toUInt8).toArray) = u at V hsm; have X9 := HX8.out.keptD hgr (by simp); obtain ⟨x90, x91, x92⟩ := X9.cells; have xf := box_frozen X9; have xl := X9.lt)
          have b9 : Below w8.heap.size w8 w9 := below_noneD hgr
          have BX : BoxR6 (w9.setCell ⟨bx, 0, none⟩ (.string u)) bx ((⟨u, x.text, x.val⟩ : Rw)) := (box_set X9 u).1
          have BZ9 : BoxZ w9 w.heap.size := (hgr.block _ HZ8.out.facts.1 (by simp)).trans HZ8.out
          have BZ : BoxZ (w9.setCell ⟨bx, 0, none⟩ (.string u)) w.heap.size := BoxZ.kept BZ9 (grown_set6 w9 bx 0 _) (by omega)
          have S9 : Strs w9 B (.slice va ss.length vc) ss := HS8.out.below b9
          have SU : Strs (w9.setCell ⟨bx, 0, none⟩ (.string u)) B (.slice va ss.length vc) ss := World.ownsRow.kept S9 (grown_set6 w9 bx 0 _) (strs_ne_box X9 S9)
          have HBU : Below w.heap.size w (w9.setCell ⟨bx, 0, none⟩ (.string u)) := (HB8.out.trans (b9.mono HB8.out.size)).setCell (show w.heap.size ≤ bx by omega) _
          clear X9 x90 x91 x92 BZ9 b9 hown hgr V
          obtain ⟨d0, d1, d2⟩ := BX.cells
          have hdl := BX.lt
          obtain ⟨rl, r0, r1, r2, rf⟩ := BZ.facts
          have HFS : Hid (Strs ((((w9.setCell ⟨bx, 0, none⟩ (.string u)).setCell ⟨w.heap.size, 0, none⟩ (.string ((⟨u, x.text, x.val⟩ : Rw)).key)).setCell ⟨w.heap.size, 1, none⟩ (.string ((⟨u, x.text, x.val⟩ : Rw)).text)).setCell ⟨w.heap.size, 2, none⟩ (.string ((⟨u, x.text, x.val⟩ : Rw)).val)) B (.slice va ss.length vc) ss) := strs_keptD SU (grown_store3 _ _ _ _ _) (by omega)
          have HFB : Hid (Below w.heap.size w ((((w9.setCell ⟨bx, 0, none⟩ (.string u)).setCell ⟨w.heap.size, 0, none⟩ (.string ((⟨u, x.text, x.val⟩ : Rw)).key)).setCell ⟨w.heap.size, 1, none⟩ (.string ((⟨u, x.text, x.val⟩ : Rw)).text)).setCell ⟨w.heap.size, 2, none⟩ (.string ((⟨u, x.text, x.val⟩ : Rw)).val))) := below_res3 HBU _ _ _
          have HFP : Hid (PgOk 41 ss) := ⟨by omega, HSZ.out⟩
          have HFZ : Hid (((⟨u, x.text, x.val⟩ : Rw)).key.size ≤ 201 ∧ ((⟨u, x.text, x.val⟩ : Rw)).text.size ≤ 20 ∧ ((⟨u, x.text, x.val⟩ : Rw)).val.size ≤ 81) := ⟨by show u.size ≤ 201; omega, z2, by show x.val.size ≤ 81; omega⟩
          clear BX BZ HBU
          go_upto_region 22 with fail
          go_region
          all_goals
            go_wp2
            refine bodyPost_ret (v := .tuple #[.slice va ss.length vc, .agg #[.string ((⟨u, x.text, x.val⟩ : Rw)).key, .string ((⟨u, x.text, x.val⟩ : Rw)).text, .string ((⟨u, x.text, x.val⟩ : Rw)).val]]) ?_ rfl ⟨_, ss, (⟨u, x.text, x.val⟩ : Rw), rfl, strs_low HFS.out (by omega), HFP.out, HFZ.out, ⟨HFB.out.os, HFB.out.tape, HFB.out.output, HFB.out.size, HFB.out.block⟩⟩
            rw [results_tmp_cell rfl]
            go_simp
        · by_cases q1 : q = 1
          · subst q1
            have P2 := HPK.out w7 k7 2 C7 (by omega) (by omega) (by omega)
            clear C7
            go_wp2_with fail
            refine P2.mono ?_
            rintro e w8 ⟨r, rfl, hr0, hr1, ⟨⟨k8, hk8, C8⟩, g8⟩⟩
            obtain ⟨y, rfl⟩ := Int.eq_ofNat_of_zero_le hr0
            have HX8 : Hid (BoxR6 w8 bx x) := HX7.out.keptD g8 hbxb
            have HS8 : Hid (Strs w8 B (.slice va ss.length vc) ss) := strs_keptD HS7.out g8 hbB
            have HZ8 : Hid (BoxZ w8 w.heap.size) := BoxZ.kept HZ7.out g8 hwne
            have HB8 : Hid (Below w.heap.size w w8) := Below.grown HB7.out g8 HB7.out.size (fun i hi => by have := Option.some.inj hi; omega)
            have hB8 := C8.lt.2
            clear P2 C8 g8 HX7 HS7 HZ7 HB7 HG7
            go_wp2_with (at_make; refine wpList_make_full _ rfl _ _ 22 rfl B 5 i0 (.int .u8 0) 1 Tryd.underlying22 hi0 hz0 hz1 .i64 .i64 _ _ (80 + y) rfl rfl (by omega) (by omega) (by rw [hz2]; omega) (by unfold maxLen; omega) (by omega) ?_; intro w9 hown hgr; have V := conv_made hown; have hsm := size_map (List.replicate (80 + y) 0); rw [List.length_replicate] at hsm; generalize (ByteArray.mk ((List.replicate (80 + y) (0 : Int)).map fun x => x.toNat.toUInt8).toArray) = u at V hsm; have X9 := HX8.out.keptD hgr (by simp); obtain ⟨x90, x91, x92⟩ := X9.cells; have xf := box_frozen X9; have xl := X9.lt)
            have b9 : Below w8.heap.size w8 w9 := below_noneD hgr
            have BX : BoxR6 (w9.setCell ⟨bx, 2, none⟩ (.string u)) bx ((⟨x.key, x.text, u⟩ : Rw)) := (box_set X9 u).2
            have BZ9 : BoxZ w9 w.heap.size := (hgr.block _ HZ8.out.facts.1 (by simp)).trans HZ8.out
            have BZ : BoxZ (w9.setCell ⟨bx, 2, none⟩ (.string u)) w.heap.size := BoxZ.kept BZ9 (grown_set6 w9 bx 2 _) (by omega)
            have S9 : Strs w9 B (.slice va ss.length vc) ss := HS8.out.below b9
            have SU : Strs (w9.setCell ⟨bx, 2, none⟩ (.string u)) B (.slice va ss.length vc) ss := World.ownsRow.kept S9 (grown_set6 w9 bx 2 _) (strs_ne_box X9 S9)
            have HBU : Below w.heap.size w (w9.setCell ⟨bx, 2, none⟩ (.string u)) := (HB8.out.trans (b9.mono HB8.out.size)).setCell (show w.heap.size ≤ bx by omega) _
            clear X9 x90 x91 x92 BZ9 b9 hown hgr V
            obtain ⟨d0, d1, d2⟩ := BX.cells
            have hdl := BX.lt
            obtain ⟨rl, r0, r1, r2, rf⟩ := BZ.facts
            have HFS : Hid (Strs ((((w9.setCell ⟨bx, 2, none⟩ (.string u)).setCell ⟨w.heap.size, 0, none⟩ (.string ((⟨x.key, x.text, u⟩ : Rw)).key)).setCell ⟨w.heap.size, 1, none⟩ (.string ((⟨x.key, x.text, u⟩ : Rw)).text)).setCell ⟨w.heap.size, 2, none⟩ (.string ((⟨x.key, x.text, u⟩ : Rw)).val)) B (.slice va ss.length vc) ss) := strs_keptD SU (grown_store3 _ _ _ _ _) (by omega)
            have HFB : Hid (Below w.heap.size w ((((w9.setCell ⟨bx, 2, none⟩ (.string u)).setCell ⟨w.heap.size, 0, none⟩ (.string ((⟨x.key, x.text, u⟩ : Rw)).key)).setCell ⟨w.heap.size, 1, none⟩ (.string ((⟨x.key, x.text, u⟩ : Rw)).text)).setCell ⟨w.heap.size, 2, none⟩ (.string ((⟨x.key, x.text, u⟩ : Rw)).val))) := below_res3 HBU _ _ _
            have HFP : Hid (PgOk 41 ss) := ⟨by omega, HSZ.out⟩
            have HFZ : Hid (((⟨x.key, x.text, u⟩ : Rw)).key.size ≤ 201 ∧ ((⟨x.key, x.text, u⟩ : Rw)).text.size ≤ 20 ∧ ((⟨x.key, x.text, u⟩ : Rw)).val.size ≤ 81) := ⟨by show x.key.size ≤ 201; omega, z2, by show u.size ≤ 81; omega⟩
            clear BX BZ HBU
            go_upto_region 22 with fail
            go_region
            all_goals
              go_wp2
              refine bodyPost_ret (v := .tuple #[.slice va ss.length vc, .agg #[.string ((⟨x.key, x.text, u⟩ : Rw)).key, .string ((⟨x.key, x.text, u⟩ : Rw)).text, .string ((⟨x.key, x.text, u⟩ : Rw)).val]]) ?_ rfl ⟨_, ss, (⟨x.key, x.text, u⟩ : Rw), rfl, strs_low HFS.out (by omega), HFP.out, HFZ.out, ⟨HFB.out.os, HFB.out.tape, HFB.out.output, HFB.out.size, HFB.out.block⟩⟩
              rw [results_tmp_cell rfl]
              go_simp
          · by_cases q2 : q = 2
            · subst q2
              have bA : Below w7.heap.size w7 (w7.alloc (.cells #[.string ⟨#[80, 71]⟩] 9)) := (Below.refl _ _).alloc (Nat.le_refl _) _
              have hrow : Strs (w7.alloc (.cells #[.string ⟨#[80, 71]⟩] 9)) B (.slice va ss.length vc) ss := HS7.out.below bA
              have HRW : Hid (Strs (w7.alloc (.cells #[.string ⟨#[80, 71]⟩] 9)) B (.slice va ss.length vc) ss) := hrow
              have XA : Hid (BoxR6 (w7.alloc (.cells #[.string ⟨#[80, 71]⟩] 9)) bx x) := HX7.out.below bA
              have ZA : Hid (BoxZ (w7.alloc (.cells #[.string ⟨#[80, 71]⟩] 9)) w.heap.size) := (bA.block _ HZ7.out.facts.1).trans HZ7.out
              have HBA : Hid (Below w.heap.size w (w7.alloc (.cells #[.string ⟨#[80, 71]⟩] 9))) := HB7.out.trans (bA.mono HB7.out.size)
              unfold Strs at hrow
              clear bA C7
              go_wp2_with (at_builtin; refine wpList_append_lies _ rfl _ _ 25 rfl B 9 i1 _ 1 16 Tryd.underlying25 hi1 hy0 hy1 hy2 rfl (by decide) _ _ _ rfl hrow ⟨_, 0, none⟩ 1 1 [.string ⟨#[80, 71]⟩] rfl rfl (cell_one_new _ _ _) (fun x hx => by simp at hx; subst hx; rfl) (by omega) (by unfold maxLen; omega) (by omega) (by simp; omega) _ rfl ?_)
              intro g9 c9 w9 ho9 hg9 hgo9 hlt9
              have BX : BoxR6 w9 bx x := XA.out.keptD hg9 (fun e => by rcases strs_ne_box XA.out HRW.out with h | h; (rw [h] at e; cases e); exact h e.symm)
              have BZ : BoxZ w9 w.heap.size := (hg9.block _ ZA.out.facts.1 (fun e => by have := (World.ownsRow.lt HRW.out _ e.symm).1; omega)).trans ZA.out
              have SU : Strs w9 B (.slice (some ⟨g9, 0, none⟩) (ss.length + 1) c9) (ss ++ [(⟨#[80, 71]⟩ : ByteArray)]) := Strs.snoc ho9
              have HBU : Below w.heap.size w w9 := Below.grown HBA.out hg9 HBA.out.size (fun i hi => by have := (World.ownsRow.lt HRW.out i hi).1; omega)
              have hPO : PgOk 41 (ss ++ [(⟨#[80, 71]⟩ : ByteArray)]) := ⟨by simp; omega, fun s hs => by rcases List.mem_append.1 hs with hs | hs; (exact HSZ.out s hs); (simp at hs; subst hs; decide)⟩
              clear ho9 hg9 hrow XA ZA HBA HRW
              obtain ⟨d0, d1, d2⟩ := BX.cells
              have hdl := BX.lt
              obtain ⟨rl, r0, r1, r2, rf⟩ := BZ.facts
              have HFS : Hid (Strs (((w9.setCell ⟨w.heap.size, 0, none⟩ (.string (x).key)).setCell ⟨w.heap.size, 1, none⟩ (.string (x).text)).setCell ⟨w.heap.size, 2, none⟩ (.string (x).val)) B (.slice (some ⟨g9, 0, none⟩) (ss.length + 1) c9) (ss ++ [(⟨#[80, 71]⟩ : ByteArray)])) := strs_keptD SU (grown_store3 _ _ _ _ _) (by omega)
              have HFB : Hid (Below w.heap.size w (((w9.setCell ⟨w.heap.size, 0, none⟩ (.string (x).key)).setCell ⟨w.heap.size, 1, none⟩ (.string (x).text)).setCell ⟨w.heap.size, 2, none⟩ (.string (x).val))) := below_res3 HBU _ _ _
              have HFP : Hid (PgOk 41 (ss ++ [(⟨#[80, 71]⟩ : ByteArray)])) := hPO
              have HFZ : Hid ((x).key.size ≤ 201 ∧ (x).text.size ≤ 20 ∧ (x).val.size ≤ 81) := ⟨by omega, z2, by omega⟩
              clear BX BZ HBU
              go_upto_region 22 with fail
              go_region
              all_goals
                go_wp2
                refine bodyPost_ret (v := .tuple #[.slice (some ⟨g9, 0, none⟩) (ss.length + 1) c9, .agg #[.string (x).key, .string (x).text, .string (x).val]]) ?_ rfl ⟨_, (ss ++ [(⟨#[80, 71]⟩ : ByteArray)]), x, rfl, strs_low HFS.out (by omega), HFP.out, HFZ.out, ⟨HFB.out.os, HFB.out.tape, HFB.out.output, HFB.out.size, HFB.out.block⟩⟩
                rw [results_tmp_cell rfl]
                go_simp
            · have hq3 : ¬ q = 0 := q0
              have BX := HX7.out
              have BZ := HZ7.out
              have HBU := HB7.out
              obtain ⟨d0, d1, d2⟩ := BX.cells
              have hdl := BX.lt
              obtain ⟨rl, r0, r1, r2, rf⟩ := BZ.facts
              have HFS : Hid (Strs (((w7.setCell ⟨w.heap.size, 0, none⟩ (.string (x).key)).setCell ⟨w.heap.size, 1, none⟩ (.string (x).text)).setCell ⟨w.heap.size, 2, none⟩ (.string (x).val)) B (.slice va ss.length vc) ss) := strs_keptD HS7.out (grown_store3 _ _ _ _ _) (by omega)
              have HFB : Hid (Below w.heap.size w (((w7.setCell ⟨w.heap.size, 0, none⟩ (.string (x).key)).setCell ⟨w.heap.size, 1, none⟩ (.string (x).text)).setCell ⟨w.heap.size, 2, none⟩ (.string (x).val))) := below_res3 HBU _ _ _
              have HFP : Hid (PgOk 41 ss) := ⟨by omega, HSZ.out⟩
              have HFZ : Hid ((x).key.size ≤ 201 ∧ (x).text.size ≤ 20 ∧ (x).val.size ≤ 81) := ⟨by omega, z2, by omega⟩
              clear BX BZ HBU
              go_upto_region 22 with fail
              go_region
              all_goals
                go_wp2
                refine bodyPost_ret (v := .tuple #[.slice va ss.length vc, .agg #[.string (x).key, .string (x).text, .string (x).val]]) ?_ rfl ⟨_, ss, x, rfl, strs_low HFS.out (by omega), HFP.out, HFZ.out, ⟨HFB.out.os, HFB.out.tape, HFB.out.output, HFB.out.size, HFB.out.block⟩⟩
                rw [results_tmp_cell rfl]
                go_simp
end Go.Proofs.YticogafoopkflaaDoor
