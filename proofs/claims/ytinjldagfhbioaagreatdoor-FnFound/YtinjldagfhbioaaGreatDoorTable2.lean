/- A list of rows in memory of the call's own, the rows of the specification's l2Table, and what its loops do to them. -/
import Derived.Test.YtinjldagfhbioaaGreatDoorSort2
import Derived.Test.YtinjldagfhbioaaGreatDoorNorm2
import Derived.Deep.RegionHeldLaw
namespace Go.Proofs.YtinjldagfhbioaaGreatDoor
open Go.RowKit

/-- A list of rows, in memory of the call's own. -/
def Tab (w : World) (B : Nat) (v : Value) (ls : List (List Int)) : Prop :=
  ∃ vs : List Value, w.ownsRow B 35 1 v ls.length vs ∧ ∀ (k : Nat) (l : List Int), ls[k]? = some l → ∃ x, vs[k]? = some x ∧ Ints w B x l

theorem ints_block {w : World} {B g : Nat} {cs : Array Value} (zs : List Int) (hcs : cs = (zs.map (Value.int .i64)).toArray) (h : w.heap[g]? = some (.cells cs 3 (0, 0))) (hB : B ≤ g) (hz : zs.length ≤ maxLen) : Ints w B (.slice (some ⟨g, 0, none⟩) zs.length zs.length) zs := by
  subst hcs
  refine ⟨by simp, .inr ⟨g, zs.length, _, rfl, hB, h, Nat.le_refl _, hz, by simp, List.take_of_length_le (by simp)⟩⟩

theorem ints_tab {w : World} {B B' n : Nat} {x v : Value} {l : List Int} {vs : List Value} (h : Ints w B x l) (ht : w.ownsRow B' 35 1 v n vs) : x.ownBlock = none ∨ x.ownBlock ≠ v.ownBlock := by
  rcases h.2 with ⟨rfl, _⟩ | ⟨g, cap, cur, rfl, _, hg, _⟩
  · exact .inl rfl
  · refine .inr fun e => ?_
    rcases ht.2 with ⟨rfl, _⟩ | ⟨g', cap', cur', rfl, _, hg', _⟩
    · cases e
    · have e2 : g = g' := Option.some.inj e
      rw [e2, hg'] at hg
      have := Option.some.inj hg
      injection this with _ e3
      exact absurd e3 (by decide)

theorem Tab.kept {w w' : World} {B : Nat} {v : Value} {ls : List (List Int)} (h : Tab w B v ls) {row : Option Nat} (hg : w.grownBy w' row) (h1 : v.ownBlock = none ∨ v.ownBlock ≠ row) (h2 : ∀ x l, Ints w B x l → x.ownBlock = none ∨ x.ownBlock ≠ row) : Tab w' B v ls := by
  obtain ⟨vs, a, b⟩ := h
  refine ⟨vs, a.kept hg h1, fun k l hl => ?_⟩
  obtain ⟨x, hx, hi⟩ := b k l hl
  exact ⟨x, hx, World.ownsRow.kept hi hg (h2 x l hi)⟩

theorem info_ints : (Tryz.prog.info? 35).map (fun i => (i.zero, i.size, i.bytes)) = some (some (.slice none 0 0), 1, 24) := by kernel_rfl

theorem len_bd : ∀ k, k < 9 → (first5 ++ (rows8.take k).flatMap expand).length ≤ 60 := by decide

theorem ints_app {w : World} {B g c : Nat} {cs : Array Value} (zs : List Int) (n : Nat) (hn : zs.length = n) (hcs : cs.toList.take n = zs.map (Value.int .i64)) (hc : cs.size = c) (h : w.heap[g]? = some (.cells cs 3 (0, 0))) (hB : B ≤ g) (hz : n ≤ c) (hm : c ≤ maxLen) : Ints w B (.slice (some ⟨g, 0, none⟩) n c) zs := by
  subst hn
  exact ⟨by simp, .inr ⟨g, c, cs, rfl, hB, h, hz, hm, by omega, by simpa using hcs⟩⟩

theorem cut_bd (w : World) : 6 ≤ (Question.appendCap 6 2 3).cut (w.tape w.drawn (Question.appendCap 6 2 3)) ∧ (Question.appendCap 6 2 3).cut (w.tape w.drawn (Question.appendCap 6 2 3)) ≤ maxLen :=
  ⟨grownCap_ge w 6 2 3, grownCap_le_maxLen w 6 2 3 (by unfold maxLen; omega)⟩

def TRel (w : World) (out i : Value) (wr : World) : Prop :=
  ∃ k : Nat, k ≤ 8 ∧ i = .int .i64 k ∧ Tab wr w.heap.size out (first5 ++ (rows8.take k).flatMap expand) ∧ Tab wr w.heap.size (.slice (some ⟨w.heap.size + 1 + 1 + 1 + 1 + 1 + 1 + 1 + 1 + 1 + 1 + 1 + 1 + 1 + 1 + 1 + 1 + 1 + 1, 0, none⟩) 8 8) rows8 ∧ out.ownBlock ≠ some (w.heap.size + 1 + 1 + 1 + 1 + 1 + 1 + 1 + 1 + 1 + 1 + 1 + 1 + 1 + 1 + 1 + 1 + 1 + 1) ∧ Below w.heap.size w wr

def IRel (w : World) (h cap : Nat) (r0 r1 : Int) (ms : List Int) (L : List (List Int)) (out i : Value) (wr : World) : Prop :=
  ∃ j : Nat, j ≤ ms.length ∧ i = .int .i64 j ∧ Tab wr w.heap.size out (L ++ (expand (r0 :: r1 :: ms)).take (2 * j)) ∧ Tab wr w.heap.size (.slice (some ⟨w.heap.size + 1 + 1 + 1 + 1 + 1 + 1 + 1 + 1 + 1 + 1 + 1 + 1 + 1 + 1 + 1 + 1 + 1 + 1, 0, none⟩) 8 8) rows8 ∧ Ints wr w.heap.size (.slice (some ⟨h, 0, none⟩) (ms.length + 1 + 1) cap) (r0 :: r1 :: ms) ∧ out.ownBlock ≠ some (w.heap.size + 1 + 1 + 1 + 1 + 1 + 1 + 1 + 1 + 1 + 1 + 1 + 1 + 1 + 1 + 1 + 1 + 1 + 1) ∧ Below w.heap.size w wr

theorem far3 (w : World) (o1 o2 o3 : Obj) (h i : Nat) {v : Value} (hlt : h < w.heap.size) (hc : w.cell? ⟨h, i, none⟩ = some v) : (((w.alloc o1).alloc o2).alloc o3).cell? ⟨h, i, none⟩ = some v := by
  rw [World.cell?_alloc_past _ _ _ (by simp; omega), World.cell?_alloc_past _ _ _ (by simp; omega), World.cell?_alloc_past _ _ _ hlt]
  exact hc

theorem news2 (w : World) (o1 o2 : Obj) (a b : Value) (t : TypeId) : ∀ j u, [a, b][j]? = some u → (((w.alloc o1).alloc o2).alloc (.cells #[a, b] t)).cell? ((⟨w.heap.size + 1 + 1, 0, none⟩ : Addr).add j) = some u := by
  have h := cell_two_new ((w.alloc o1).alloc o2) a b t
  have e : ((w.alloc o1).alloc o2).heap.size = w.heap.size + 1 + 1 := by simp
  rw [e] at h
  exact h

theorem expand_snoc (r0 r1 : Int) (ms : List Int) (j : Nat) (m : Int) (h : ms[j]? = some m) :
    (expand (r0 :: r1 :: ms)).take (2 * (j + 1)) = (expand (r0 :: r1 :: ms)).take (2 * j) ++ [[r0 + (j : Int), r1, m], [r0 + (j : Int) + 32, r1 + 32, m]] := by
  have key : ∀ (ms : List Int) (s j : Nat), ms[j]? = some m → (((ms.zipIdx s).flatMap fun p => [[r0 + (p.2 : Int), r1, p.1], [r0 + (p.2 : Int) + 32, r1 + 32, p.1]]).take (2 * (j + 1))) = (((ms.zipIdx s).flatMap fun p => [[r0 + (p.2 : Int), r1, p.1], [r0 + (p.2 : Int) + 32, r1 + 32, p.1]]).take (2 * j)) ++ [[r0 + ((s + j : Nat) : Int), r1, m], [r0 + ((s + j : Nat) : Int) + 32, r1 + 32, m]] := by
    intro ms
    induction ms with
    | nil => intro s j h; simp at h
    | cons a ms ih =>
      intro s j h
      cases j with
      | zero =>
        simp at h; subst h
        simp [List.zipIdx_cons]
      | succ j =>
        have h' : ms[j]? = some m := by simpa using h
        have := ih (s + 1) j h'
        rw [show 2 * (j + 1 + 1) = 2 * (j + 1) + 1 + 1 by omega, show 2 * (j + 1) = 2 * j + 1 + 1 by omega]
        simp only [List.zipIdx_cons, List.flatMap_cons, List.cons_append, List.nil_append, List.take_succ_cons]
        rw [show 2 * j + 1 + 1 = 2 * (j + 1) by omega, this, show s + 1 + j = s + (j + 1) by omega]
  have := key ms 0 j h
  simpa [expand] using this

theorem tab_push {wr X w' : World} {B : Nat} {u v' : Value} {ls : List (List Int)} {vs : List Value} (hown : wr.ownsRow B 35 1 u ls.length vs) (hin : ∀ (k : Nat) (l : List Int), ls[k]? = some l → ∃ x, vs[k]? = some x ∧ Ints wr B x l)
    (hX : wr.grownBy X none) (a b : List Int) (sa sb : Value) (ia : Ints X B sa a) (ib : Ints X B sb b) (hgr : X.grownBy w' u.ownBlock) {n : Nat} (hn : n = ls.length + 2) (hown' : w'.ownsRow B 35 1 v' n (vs ++ [sa, sb])) : Tab w' B v' (ls ++ [a, b]) := by
  have hownX : X.ownsRow B 35 1 u ls.length vs := hown.kept hX (by cases u.ownBlock <;> simp)
  have hl : vs.length = ls.length := by simpa using hown.1
  refine ⟨vs ++ [sa, sb], by simpa [hn] using hown', fun k l h => ?_⟩
  by_cases hk : k < ls.length
  · rw [List.getElem?_append_left hk] at h
    obtain ⟨x, hx, hi⟩ := hin k l h
    have hiX : Ints X B x l := World.ownsRow.kept hi hX (by cases x.ownBlock <;> simp)
    exact ⟨x, by rw [List.getElem?_append_left (by omega)]; exact hx, World.ownsRow.kept hiX hgr (ints_tab hiX hownX)⟩
  · rw [List.getElem?_append_right (by omega)] at h
    rw [List.getElem?_append_right (by omega)]
    match hd : k - ls.length, h with
    | 0, h =>
      simp at h; subst h
      exact ⟨sa, by rw [show k - vs.length = 0 by omega]; rfl, World.ownsRow.kept ia hgr (ints_tab ia hownX)⟩
    | 1, h =>
      simp at h; subst h
      exact ⟨sb, by rw [show k - vs.length = 1 by omega]; rfl, World.ownsRow.kept ib hgr (ints_tab ib hownX)⟩
    | d + 2, h => simp at h

theorem heap3 (w : World) (o1 o2 o3 : Obj) : (((w.alloc o1).alloc o2).alloc o3).heap[w.heap.size]? = some o1 ∧ (((w.alloc o1).alloc o2).alloc o3).heap[w.heap.size + 1]? = some o2 := by
  have e1 : (w.alloc o1).heap.size = w.heap.size + 1 := by simp
  refine ⟨?_, ?_⟩
  · rw [Below.heap_alloc _ _ _ (by simp; omega), Below.heap_alloc _ _ _ (by simp)]
    exact heap_alloc_new w o1
  · rw [Below.heap_alloc _ _ _ (by simp), ← e1]
    exact heap_alloc_new _ o2

theorem grown3 (w : World) (o1 o2 o3 : Obj) : w.grownBy (((w.alloc o1).alloc o2).alloc o3) none :=
  ((World.grownBy_alloc w o1 none).trans (World.grownBy_alloc _ o2 none)).trans (World.grownBy_alloc _ o3 none)

theorem irel_step {w wr w' : World} {h cap j : Nat} {r0 r1 m : Int} {ms : List Int} {L : List (List Int)} {u : Value} {vs : List Value} {n : Nat} (hn : n = (L ++ (expand (r0 :: r1 :: ms)).take (2 * j)).length) (o1 o2 o3 : Obj)
    (hj : j < ms.length) (hm : ms[j]? = some m)
    (hown : wr.ownsRow w.heap.size 35 1 u n vs)
    (hin : ∀ (k : Nat) (l : List Int), (L ++ (expand (r0 :: r1 :: ms)).take (2 * j))[k]? = some l → ∃ x, vs[k]? = some x ∧ Ints wr w.heap.size x l)
    (hR : Tab wr w.heap.size (.slice (some ⟨w.heap.size + 1 + 1 + 1 + 1 + 1 + 1 + 1 + 1 + 1 + 1 + 1 + 1 + 1 + 1 + 1 + 1 + 1 + 1, 0, none⟩) 8 8) rows8) (hI : Ints wr w.heap.size (.slice (some ⟨h, 0, none⟩) (ms.length + 1 + 1) cap) (r0 :: r1 :: ms)) (hne : u.ownBlock ≠ some (w.heap.size + 1 + 1 + 1 + 1 + 1 + 1 + 1 + 1 + 1 + 1 + 1 + 1 + 1 + 1 + 1 + 1 + 1 + 1)) (hbw : Below w.heap.size w wr)
    (sa sb : Value) (ia : Ints (((wr.alloc o1).alloc o2).alloc o3) w.heap.size sa [r0 + (j : Int), r1, m]) (ib : Ints (((wr.alloc o1).alloc o2).alloc o3) w.heap.size sb [r0 + (j : Int) + 32, r1 + 32, m])
    {g' cap' : Nat} (hown' : w'.ownsRow w.heap.size 35 1 (.slice (some ⟨g', 0, none⟩) (n + 2) cap') (n + 2) (vs ++ [sa, sb]))
    (hgr : (((wr.alloc o1).alloc o2).alloc o3).grownBy w' u.ownBlock) (hgg : u.ownBlock = some g' ∨ g' = wr.heap.size + 1 + 1 + 1) :
    IRel w h cap r0 r1 ms L (.slice (some ⟨g', 0, none⟩) (n + 2) cap') (.int .i64 ((j : Int) + 1)) w' := by
  subst hn
  have hX := grown3 wr o1 o2 o3
  have hownX := hown.kept hX (by cases u.ownBlock <;> simp)
  have hRX := hR.kept hX (.inr (by simp [Value.ownBlock])) (fun x l _ => by cases x.ownBlock <;> simp)
  have hIX : Ints _ _ _ _ := World.ownsRow.kept hI hX (.inr (by simp [Value.ownBlock]))
  have hlt : w.heap.size + 1 + 1 + 1 + 1 + 1 + 1 + 1 + 1 + 1 + 1 + 1 + 1 + 1 + 1 + 1 + 1 + 1 + 1 < wr.heap.size := by
    obtain ⟨vr, hvr, _⟩ := hR
    exact (hvr.lt _ rfl).2
  have hT := tab_push hown hin hX _ _ sa sb ia ib hgr rfl hown'
  rw [List.append_assoc, ← expand_snoc r0 r1 ms j m hm] at hT
  refine ⟨j + 1, by omega, by simp, hT, hRX.kept hgr (.inr (fun e => hne e.symm)) (fun x l hx => ints_tab hx hownX), World.ownsRow.kept hIX hgr (ints_tab hIX hownX), ?_, ?_⟩
  · intro e
    have e1 : g' = w.heap.size + 1 + 1 + 1 + 1 + 1 + 1 + 1 + 1 + 1 + 1 + 1 + 1 + 1 + 1 + 1 + 1 + 1 + 1 := Option.some.inj e
    rcases hgg with h1 | h1
    · exact hne (by rw [h1, e1])
    · omega
  · refine Below.grown (((hbw.alloc hbw.size _).alloc (by simp; have := hbw.size; omega) _).alloc (by simp; have := hbw.size; omega) _) hgr (by simp; have := hbw.size; omega) (fun k hk => (hown.lt k hk).1)

theorem allocs_old : ∀ (os : List Obj) (w : World) (k : Nat), k < w.heap.size → (os.foldl World.alloc w).heap[k]? = w.heap[k]?
  | [], _, _, _ => rfl
  | o :: os, w, k, h => (allocs_old os (w.alloc o) k (by simp; omega)).trans (Below.heap_alloc w o k h)

theorem allocs_size : ∀ (os : List Obj) (w : World), (os.foldl World.alloc w).heap.size = w.heap.size + os.length
  | [], _ => rfl
  | o :: os, w => by
    show (os.foldl World.alloc (w.alloc o)).heap.size = _
    rw [allocs_size os (w.alloc o)]; simp; omega

theorem allocs_heap : ∀ (os : List Obj) (w : World) (k : Nat) (o : Obj), os[k]? = some o → (os.foldl World.alloc w).heap[w.heap.size + k]? = some o
  | [], _, _, _, h => by simp at h
  | a :: os, w, 0, o, h => by
    have e : a = o := by simpa using h
    subst e
    show (os.foldl World.alloc (w.alloc a)).heap[w.heap.size]? = some a
    rw [allocs_old os (w.alloc a) w.heap.size (by simp)]
    exact heap_alloc_new w a
  | a :: os, w, k + 1, o, h => by
    have e : os[k]? = some o := by simpa using h
    have := allocs_heap os (w.alloc a) k o e
    rw [show (w.alloc a).heap.size = w.heap.size + 1 by simp, show w.heap.size + 1 + k = w.heap.size + (k + 1) by omega] at this
    exact this

theorem allocs_below (os : List Obj) (w : World) : Below w.heap.size w (os.foldl World.alloc w) := by
  refine ⟨?_, ?_, ?_, by rw [allocs_size]; omega, fun k hk => allocs_old os w k hk⟩
  all_goals
    induction os generalizing w with
    | nil => rfl
    | cons o os ih => exact ih (w.alloc o)

theorem zero_size (c : Nat) : (Builtin.zeroCells #[Value.int .i64 0] c).size = c := by simp [size_zeroCells]

def objs (w : World) (c1 c2 c3 : Nat) : List Obj := [
  .cells #[.int .i64 255, .int .i64 121, .int .i64 776] 3,
  .cells #[.int .i64 7844, .int .i64 194, .int .i64 769] 3,
  .cells #[.int .i64 7845, .int .i64 226, .int .i64 769] 3,
  .cells #[.int .i64 7779, .int .i64 115, .int .i64 803] 3,
  .cells #[.int .i64 7785, .int .i64 7779, .int .i64 775] 3,
  .cells #[.slice (some ⟨w.heap.size, 0, none⟩) 3 3, .slice (some ⟨w.heap.size + 1, 0, none⟩) 3 3, .slice (some ⟨w.heap.size + 1 + 1, 0, none⟩) 3 3, .slice (some ⟨w.heap.size + 1 + 1 + 1, 0, none⟩) 3 3, .slice (some ⟨w.heap.size + 1 + 1 + 1 + 1, 0, none⟩) 3 3] 35,
  .cells #[.int .i64 768, .int .i64 769, .int .i64 770, .int .i64 776] 3,
  .cells #[.int .i64 192, .int .i64 65, .int .i64 768, .int .i64 769, .int .i64 770, .int .i64 771, .int .i64 776, .int .i64 778] 3,
  .cells #[.int .i64 199, .int .i64 67, .int .i64 807] 3,
  .cells #[.int .i64 200, .int .i64 69] 3,
  .cells (#[.int .i64 200, .int .i64 69] ++ (#[.int .i64 768, .int .i64 769, .int .i64 770, .int .i64 776] ++ Builtin.zeroCells #[.int .i64 0] (c1 - 6))) 3,
  .cells #[.int .i64 204, .int .i64 73] 3,
  .cells (#[.int .i64 204, .int .i64 73] ++ (#[.int .i64 768, .int .i64 769, .int .i64 770, .int .i64 776] ++ Builtin.zeroCells #[.int .i64 0] (c2 - 6))) 3,
  .cells #[.int .i64 209, .int .i64 78, .int .i64 771] 3,
  .cells #[.int .i64 210, .int .i64 79, .int .i64 768, .int .i64 769, .int .i64 770, .int .i64 771, .int .i64 776] 3,
  .cells #[.int .i64 217, .int .i64 85] 3,
  .cells (#[.int .i64 217, .int .i64 85] ++ (#[.int .i64 768, .int .i64 769, .int .i64 770, .int .i64 776] ++ Builtin.zeroCells #[.int .i64 0] (c3 - 6))) 3,
  .cells #[.int .i64 221, .int .i64 89, .int .i64 769] 3,
  .cells #[.slice (some ⟨w.heap.size + 1 + 1 + 1 + 1 + 1 + 1 + 1, 0, none⟩) 8 8, .slice (some ⟨w.heap.size + 1 + 1 + 1 + 1 + 1 + 1 + 1 + 1, 0, none⟩) 3 3, .slice (some ⟨w.heap.size + 1 + 1 + 1 + 1 + 1 + 1 + 1 + 1 + 1 + 1, 0, none⟩) 6 c1, .slice (some ⟨w.heap.size + 1 + 1 + 1 + 1 + 1 + 1 + 1 + 1 + 1 + 1 + 1 + 1, 0, none⟩) 6 c2, .slice (some ⟨w.heap.size + 1 + 1 + 1 + 1 + 1 + 1 + 1 + 1 + 1 + 1 + 1 + 1 + 1, 0, none⟩) 3 3, .slice (some ⟨w.heap.size + 1 + 1 + 1 + 1 + 1 + 1 + 1 + 1 + 1 + 1 + 1 + 1 + 1 + 1, 0, none⟩) 7 7, .slice (some ⟨w.heap.size + 1 + 1 + 1 + 1 + 1 + 1 + 1 + 1 + 1 + 1 + 1 + 1 + 1 + 1 + 1 + 1, 0, none⟩) 6 c3, .slice (some ⟨w.heap.size + 1 + 1 + 1 + 1 + 1 + 1 + 1 + 1 + 1 + 1 + 1 + 1 + 1 + 1 + 1 + 1 + 1, 0, none⟩) 3 3] 35]

theorem start5 {W : World} (w : World) (c1 c2 c3 : Nat) (hp : ∀ (k : Nat) (o : Obj), (objs w c1 c2 c3)[k]? = some o → W.heap[w.heap.size + k]? = some o) : Tab W w.heap.size (.slice (some ⟨w.heap.size + 1 + 1 + 1 + 1 + 1, 0, none⟩) 5 5) first5 := by
  have i0 : Ints W w.heap.size (.slice (some ⟨w.heap.size, 0, none⟩) 3 3) [255, 121, 776] := ints_block _ rfl (hp 0 _ rfl) (by omega) (by unfold maxLen; simp)
  have i1 : Ints W w.heap.size (.slice (some ⟨w.heap.size + 1, 0, none⟩) 3 3) [7844, 194, 769] := ints_block _ rfl (hp 1 _ rfl) (by omega) (by unfold maxLen; simp)
  have i2 : Ints W w.heap.size (.slice (some ⟨w.heap.size + 1 + 1, 0, none⟩) 3 3) [7845, 226, 769] := ints_block _ rfl (hp 2 _ rfl) (by omega) (by unfold maxLen; simp)
  have i3 : Ints W w.heap.size (.slice (some ⟨w.heap.size + 1 + 1 + 1, 0, none⟩) 3 3) [7779, 115, 803] := ints_block _ rfl (hp 3 _ rfl) (by omega) (by unfold maxLen; simp)
  have i4 : Ints W w.heap.size (.slice (some ⟨w.heap.size + 1 + 1 + 1 + 1, 0, none⟩) 3 3) [7785, 7779, 775] := ints_block _ rfl (hp 4 _ rfl) (by omega) (by unfold maxLen; simp)
  refine ⟨[.slice (some ⟨w.heap.size, 0, none⟩) 3 3, .slice (some ⟨w.heap.size + 1, 0, none⟩) 3 3, .slice (some ⟨w.heap.size + 1 + 1, 0, none⟩) 3 3, .slice (some ⟨w.heap.size + 1 + 1 + 1, 0, none⟩) 3 3, .slice (some ⟨w.heap.size + 1 + 1 + 1 + 1, 0, none⟩) 3 3], ⟨rfl, .inr ⟨_, 5, _, rfl, by omega, hp 5 _ rfl, by simp [first5], by unfold maxLen; omega, rfl, rfl⟩⟩, ?_⟩
  intro k l hk
  match k, hk with
  | 0, hk => cases hk; exact ⟨_, rfl, i0⟩
  | 1, hk => cases hk; exact ⟨_, rfl, i1⟩
  | 2, hk => cases hk; exact ⟨_, rfl, i2⟩
  | 3, hk => cases hk; exact ⟨_, rfl, i3⟩
  | 4, hk => cases hk; exact ⟨_, rfl, i4⟩
  | k + 5, hk => simp [first5] at hk

theorem start8 {W : World} (w : World) (c1 c2 c3 : Nat) (hp : ∀ (k : Nat) (o : Obj), (objs w c1 c2 c3)[k]? = some o → W.heap[w.heap.size + k]? = some o) (h1 : 6 ≤ c1 ∧ c1 ≤ maxLen) (h2 : 6 ≤ c2 ∧ c2 ≤ maxLen) (h3 : 6 ≤ c3 ∧ c3 ≤ maxLen) : Tab W w.heap.size (.slice (some ⟨w.heap.size + 1 + 1 + 1 + 1 + 1 + 1 + 1 + 1 + 1 + 1 + 1 + 1 + 1 + 1 + 1 + 1 + 1 + 1, 0, none⟩) 8 8) rows8 := by
  have r0 : Ints W w.heap.size (.slice (some ⟨w.heap.size + 1 + 1 + 1 + 1 + 1 + 1 + 1, 0, none⟩) 8 8) [192, 65, 768, 769, 770, 771, 776, 778] := ints_block _ rfl (hp 7 _ rfl) (by omega) (by unfold maxLen; simp)
  have r1 : Ints W w.heap.size (.slice (some ⟨w.heap.size + 1 + 1 + 1 + 1 + 1 + 1 + 1 + 1, 0, none⟩) 3 3) [199, 67, 807] := ints_block _ rfl (hp 8 _ rfl) (by omega) (by unfold maxLen; simp)
  have r2 : Ints W w.heap.size (.slice (some ⟨w.heap.size + 1 + 1 + 1 + 1 + 1 + 1 + 1 + 1 + 1 + 1, 0, none⟩) 6 c1) [200, 69, 768, 769, 770, 776] := ints_app _ 6 rfl (by simp) (by simp [size_zeroCells]; omega) (hp 10 _ rfl) (by omega) (by omega) (by omega)
  have r3 : Ints W w.heap.size (.slice (some ⟨w.heap.size + 1 + 1 + 1 + 1 + 1 + 1 + 1 + 1 + 1 + 1 + 1 + 1, 0, none⟩) 6 c2) [204, 73, 768, 769, 770, 776] := ints_app _ 6 rfl (by simp) (by simp [size_zeroCells]; omega) (hp 12 _ rfl) (by omega) (by omega) (by omega)
  have r4 : Ints W w.heap.size (.slice (some ⟨w.heap.size + 1 + 1 + 1 + 1 + 1 + 1 + 1 + 1 + 1 + 1 + 1 + 1 + 1, 0, none⟩) 3 3) [209, 78, 771] := ints_block _ rfl (hp 13 _ rfl) (by omega) (by unfold maxLen; simp)
  have r5 : Ints W w.heap.size (.slice (some ⟨w.heap.size + 1 + 1 + 1 + 1 + 1 + 1 + 1 + 1 + 1 + 1 + 1 + 1 + 1 + 1, 0, none⟩) 7 7) [210, 79, 768, 769, 770, 771, 776] := ints_block _ rfl (hp 14 _ rfl) (by omega) (by unfold maxLen; simp)
  have r6 : Ints W w.heap.size (.slice (some ⟨w.heap.size + 1 + 1 + 1 + 1 + 1 + 1 + 1 + 1 + 1 + 1 + 1 + 1 + 1 + 1 + 1 + 1, 0, none⟩) 6 c3) [217, 85, 768, 769, 770, 776] := ints_app _ 6 rfl (by simp) (by simp [size_zeroCells]; omega) (hp 16 _ rfl) (by omega) (by omega) (by omega)
  have r7 : Ints W w.heap.size (.slice (some ⟨w.heap.size + 1 + 1 + 1 + 1 + 1 + 1 + 1 + 1 + 1 + 1 + 1 + 1 + 1 + 1 + 1 + 1 + 1, 0, none⟩) 3 3) [221, 89, 769] := ints_block _ rfl (hp 17 _ rfl) (by omega) (by unfold maxLen; simp)
  refine ⟨[.slice (some ⟨w.heap.size + 1 + 1 + 1 + 1 + 1 + 1 + 1, 0, none⟩) 8 8, .slice (some ⟨w.heap.size + 1 + 1 + 1 + 1 + 1 + 1 + 1 + 1, 0, none⟩) 3 3, .slice (some ⟨w.heap.size + 1 + 1 + 1 + 1 + 1 + 1 + 1 + 1 + 1 + 1, 0, none⟩) 6 c1, .slice (some ⟨w.heap.size + 1 + 1 + 1 + 1 + 1 + 1 + 1 + 1 + 1 + 1 + 1 + 1, 0, none⟩) 6 c2, .slice (some ⟨w.heap.size + 1 + 1 + 1 + 1 + 1 + 1 + 1 + 1 + 1 + 1 + 1 + 1 + 1, 0, none⟩) 3 3, .slice (some ⟨w.heap.size + 1 + 1 + 1 + 1 + 1 + 1 + 1 + 1 + 1 + 1 + 1 + 1 + 1 + 1, 0, none⟩) 7 7, .slice (some ⟨w.heap.size + 1 + 1 + 1 + 1 + 1 + 1 + 1 + 1 + 1 + 1 + 1 + 1 + 1 + 1 + 1 + 1, 0, none⟩) 6 c3, .slice (some ⟨w.heap.size + 1 + 1 + 1 + 1 + 1 + 1 + 1 + 1 + 1 + 1 + 1 + 1 + 1 + 1 + 1 + 1 + 1, 0, none⟩) 3 3], ⟨rfl, .inr ⟨_, 8, _, rfl, by omega, hp 18 _ rfl, by simp [rows8], by unfold maxLen; omega, rfl, rfl⟩⟩, ?_⟩
  intro k l hk
  match k, hk with
  | 0, hk => cases hk; exact ⟨_, rfl, r0⟩
  | 1, hk => cases hk; exact ⟨_, rfl, r1⟩
  | 2, hk => cases hk; exact ⟨_, rfl, r2⟩
  | 3, hk => cases hk; exact ⟨_, rfl, r3⟩
  | 4, hk => cases hk; exact ⟨_, rfl, r4⟩
  | 5, hk => cases hk; exact ⟨_, rfl, r5⟩
  | 6, hk => cases hk; exact ⟨_, rfl, r6⟩
  | 7, hk => cases hk; exact ⟨_, rfl, r7⟩
  | k + 8, hk => simp [rows8] at hk

theorem table_start (w : World) (c1 c2 c3 : Nat) (h1 : 6 ≤ c1 ∧ c1 ≤ maxLen) (h2 : 6 ≤ c2 ∧ c2 ≤ maxLen) (h3 : 6 ≤ c3 ∧ c3 ≤ maxLen) :
    TRel w (.slice (some ⟨w.heap.size + 1 + 1 + 1 + 1 + 1, 0, none⟩) 5 5) (.int .i64 0) ((objs w c1 c2 c3).foldl World.alloc w) := by
  have hp := allocs_heap (objs w c1 c2 c3) w
  refine ⟨0, by omega, rfl, by simpa using start5 w c1 c2 c3 hp, start8 w c1 c2 c3 hp h1 h2 h3, by simp [Value.ownBlock], allocs_below _ w⟩

theorem TRel.drew {w W : World} {a b : Value} (h : TRel w a b W) : TRel w a b W.drew := by
  obtain ⟨k, h1, h2, ⟨vs, t1, t2⟩, ⟨vr, u1, u2⟩, h5, h6⟩ := h
  exact ⟨k, h1, h2, ⟨vs, t1, t2⟩, ⟨vr, u1, u2⟩, h5, h6.drew⟩

theorem nested (w : World) (c1 c2 c3 : Nat) : (objs w c1 c2 c3).foldl World.alloc w = (((((((((((((((((((w.alloc (.cells #[.int .i64 255, .int .i64 121, .int .i64 776] 3)).alloc (.cells #[.int .i64 7844, .int .i64 194, .int .i64 769] 3)).alloc (.cells #[.int .i64 7845, .int .i64 226, .int .i64 769] 3)).alloc (.cells #[.int .i64 7779, .int .i64 115, .int .i64 803] 3)).alloc (.cells #[.int .i64 7785, .int .i64 7779, .int .i64 775] 3)).alloc (.cells #[.slice (some ⟨w.heap.size, 0, none⟩) 3 3, .slice (some ⟨w.heap.size + 1, 0, none⟩) 3 3, .slice (some ⟨w.heap.size + 1 + 1, 0, none⟩) 3 3, .slice (some ⟨w.heap.size + 1 + 1 + 1, 0, none⟩) 3 3, .slice (some ⟨w.heap.size + 1 + 1 + 1 + 1, 0, none⟩) 3 3] 35)).alloc (.cells #[.int .i64 768, .int .i64 769, .int .i64 770, .int .i64 776] 3)).alloc (.cells #[.int .i64 192, .int .i64 65, .int .i64 768, .int .i64 769, .int .i64 770, .int .i64 771, .int .i64 776, .int .i64 778] 3)).alloc (.cells #[.int .i64 199, .int .i64 67, .int .i64 807] 3)).alloc (.cells #[.int .i64 200, .int .i64 69] 3)).alloc (.cells (#[.int .i64 200, .int .i64 69] ++ (#[.int .i64 768, .int .i64 769, .int .i64 770, .int .i64 776] ++ Builtin.zeroCells #[.int .i64 0] (c1 - 6))) 3)).alloc (.cells #[.int .i64 204, .int .i64 73] 3)).alloc (.cells (#[.int .i64 204, .int .i64 73] ++ (#[.int .i64 768, .int .i64 769, .int .i64 770, .int .i64 776] ++ Builtin.zeroCells #[.int .i64 0] (c2 - 6))) 3)).alloc (.cells #[.int .i64 209, .int .i64 78, .int .i64 771] 3)).alloc (.cells #[.int .i64 210, .int .i64 79, .int .i64 768, .int .i64 769, .int .i64 770, .int .i64 771, .int .i64 776] 3)).alloc (.cells #[.int .i64 217, .int .i64 85] 3)).alloc (.cells (#[.int .i64 217, .int .i64 85] ++ (#[.int .i64 768, .int .i64 769, .int .i64 770, .int .i64 776] ++ Builtin.zeroCells #[.int .i64 0] (c3 - 6))) 3)).alloc (.cells #[.int .i64 221, .int .i64 89, .int .i64 769] 3)).alloc (.cells #[.slice (some ⟨w.heap.size + 1 + 1 + 1 + 1 + 1 + 1 + 1, 0, none⟩) 8 8, .slice (some ⟨w.heap.size + 1 + 1 + 1 + 1 + 1 + 1 + 1 + 1, 0, none⟩) 3 3, .slice (some ⟨w.heap.size + 1 + 1 + 1 + 1 + 1 + 1 + 1 + 1 + 1 + 1, 0, none⟩) 6 c1, .slice (some ⟨w.heap.size + 1 + 1 + 1 + 1 + 1 + 1 + 1 + 1 + 1 + 1 + 1 + 1, 0, none⟩) 6 c2, .slice (some ⟨w.heap.size + 1 + 1 + 1 + 1 + 1 + 1 + 1 + 1 + 1 + 1 + 1 + 1 + 1, 0, none⟩) 3 3, .slice (some ⟨w.heap.size + 1 + 1 + 1 + 1 + 1 + 1 + 1 + 1 + 1 + 1 + 1 + 1 + 1 + 1, 0, none⟩) 7 7, .slice (some ⟨w.heap.size + 1 + 1 + 1 + 1 + 1 + 1 + 1 + 1 + 1 + 1 + 1 + 1 + 1 + 1 + 1 + 1, 0, none⟩) 6 c3, .slice (some ⟨w.heap.size + 1 + 1 + 1 + 1 + 1 + 1 + 1 + 1 + 1 + 1 + 1 + 1 + 1 + 1 + 1 + 1 + 1, 0, none⟩) 3 3] 35)) := rfl

theorem table_begin (w : World) (c1 c2 c3 : Nat) (h1 : 6 ≤ c1 ∧ c1 ≤ maxLen) (h2 : 6 ≤ c2 ∧ c2 ≤ maxLen) (h3 : 6 ≤ c3 ∧ c3 ≤ maxLen) :
    TRel w (.slice (some ⟨w.heap.size + 1 + 1 + 1 + 1 + 1, 0, none⟩) 5 5) (.int .i64 0) ((((((((((((((((((((w.alloc (.cells #[.int .i64 255, .int .i64 121, .int .i64 776] 3)).alloc (.cells #[.int .i64 7844, .int .i64 194, .int .i64 769] 3)).alloc (.cells #[.int .i64 7845, .int .i64 226, .int .i64 769] 3)).alloc (.cells #[.int .i64 7779, .int .i64 115, .int .i64 803] 3)).alloc (.cells #[.int .i64 7785, .int .i64 7779, .int .i64 775] 3)).alloc (.cells #[.slice (some ⟨w.heap.size, 0, none⟩) 3 3, .slice (some ⟨w.heap.size + 1, 0, none⟩) 3 3, .slice (some ⟨w.heap.size + 1 + 1, 0, none⟩) 3 3, .slice (some ⟨w.heap.size + 1 + 1 + 1, 0, none⟩) 3 3, .slice (some ⟨w.heap.size + 1 + 1 + 1 + 1, 0, none⟩) 3 3] 35)).alloc (.cells #[.int .i64 768, .int .i64 769, .int .i64 770, .int .i64 776] 3)).alloc (.cells #[.int .i64 192, .int .i64 65, .int .i64 768, .int .i64 769, .int .i64 770, .int .i64 771, .int .i64 776, .int .i64 778] 3)).alloc (.cells #[.int .i64 199, .int .i64 67, .int .i64 807] 3)).alloc (.cells #[.int .i64 200, .int .i64 69] 3)).alloc (.cells (#[.int .i64 200, .int .i64 69] ++ (#[.int .i64 768, .int .i64 769, .int .i64 770, .int .i64 776] ++ Builtin.zeroCells #[.int .i64 0] (c1 - 6))) 3)).alloc (.cells #[.int .i64 204, .int .i64 73] 3)).alloc (.cells (#[.int .i64 204, .int .i64 73] ++ (#[.int .i64 768, .int .i64 769, .int .i64 770, .int .i64 776] ++ Builtin.zeroCells #[.int .i64 0] (c2 - 6))) 3)).alloc (.cells #[.int .i64 209, .int .i64 78, .int .i64 771] 3)).alloc (.cells #[.int .i64 210, .int .i64 79, .int .i64 768, .int .i64 769, .int .i64 770, .int .i64 771, .int .i64 776] 3)).alloc (.cells #[.int .i64 217, .int .i64 85] 3)).alloc (.cells (#[.int .i64 217, .int .i64 85] ++ (#[.int .i64 768, .int .i64 769, .int .i64 770, .int .i64 776] ++ Builtin.zeroCells #[.int .i64 0] (c3 - 6))) 3)).alloc (.cells #[.int .i64 221, .int .i64 89, .int .i64 769] 3)).alloc (.cells #[.slice (some ⟨w.heap.size + 1 + 1 + 1 + 1 + 1 + 1 + 1, 0, none⟩) 8 8, .slice (some ⟨w.heap.size + 1 + 1 + 1 + 1 + 1 + 1 + 1 + 1, 0, none⟩) 3 3, .slice (some ⟨w.heap.size + 1 + 1 + 1 + 1 + 1 + 1 + 1 + 1 + 1 + 1, 0, none⟩) 6 c1, .slice (some ⟨w.heap.size + 1 + 1 + 1 + 1 + 1 + 1 + 1 + 1 + 1 + 1 + 1 + 1, 0, none⟩) 6 c2, .slice (some ⟨w.heap.size + 1 + 1 + 1 + 1 + 1 + 1 + 1 + 1 + 1 + 1 + 1 + 1 + 1, 0, none⟩) 3 3, .slice (some ⟨w.heap.size + 1 + 1 + 1 + 1 + 1 + 1 + 1 + 1 + 1 + 1 + 1 + 1 + 1 + 1, 0, none⟩) 7 7, .slice (some ⟨w.heap.size + 1 + 1 + 1 + 1 + 1 + 1 + 1 + 1 + 1 + 1 + 1 + 1 + 1 + 1 + 1 + 1, 0, none⟩) 6 c3, .slice (some ⟨w.heap.size + 1 + 1 + 1 + 1 + 1 + 1 + 1 + 1 + 1 + 1 + 1 + 1 + 1 + 1 + 1 + 1 + 1, 0, none⟩) 3 3] 35)).drew.drew.drew) := by
  have h := table_start w c1 c2 c3 h1 h2 h3
  rw [nested] at h
  exact h.drew.drew.drew

theorem grown_drew {X w' : World} {row : Option Nat} (h : X.drew.grownBy w' row) : X.grownBy w' row := ⟨h.os, h.tape, h.output, h.size, h.block⟩

theorem take_next {k : Nat} {row : List Int} (h : rows8[k]? = some row) : first5 ++ (rows8.take (k + 1)).flatMap expand = first5 ++ (rows8.take k).flatMap expand ++ expand row := by
  have hk : k < rows8.length := (List.getElem?_eq_some_iff.1 h).1
  have e : rows8[k] = row := by
    have := List.getElem?_eq_getElem hk
    rw [h] at this; exact (Option.some.inj this).symm
  rw [List.take_succ_eq_append_getElem hk, e]
  simp

theorem expand_all (r0 r1 : Int) (ms : List Int) (j : Nat) (hj : ¬ j < ms.length) : (expand (r0 :: r1 :: ms)).take (2 * j) = expand (r0 :: r1 :: ms) := by
  apply List.take_of_length_le
  have : ∀ (ms : List Int) (s : Nat), ((ms.zipIdx s).flatMap fun p => [[r0 + (p.2 : Int), r1, p.1], [r0 + (p.2 : Int) + 32, r1 + 32, p.1]]).length = 2 * ms.length := by
    intro ms
    induction ms with
    | nil => intro s; rfl
    | cons a ms ih => intro s; simp only [List.zipIdx_cons, List.flatMap_cons, List.length_append, ih]; simp; omega
  have h := this ms 0
  show (expand (r0 :: r1 :: ms)).length ≤ 2 * j
  unfold expand
  simp only
  rw [h]; omega

end Go.Proofs.YtinjldagfhbioaaGreatDoor
