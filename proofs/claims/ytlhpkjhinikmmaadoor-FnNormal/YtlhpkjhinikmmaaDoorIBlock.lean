/- Contract of the program's isBlocked. -/
import Derived.Test.YtlhpkjhinikmmaaDoorIClass
import Derived.Test.YtlhpkjhinikmmaaDoorNorm2
import Derived.Test.YtlhpkjhinikmmaaDoorISort
namespace Go.Proofs.YtlhpkjhinikmmaaDoor
open Go.RowKit

/-- Whether one of these blocks r. -/
def blk (l : List Int) (r : Int) : Bool := l.any fun b => cls b == 0 || decide (cls r ≤ cls b)

theorem freeI_blk (s : List Int × Nat) (r : Int) (h : 0 < s.2) : freeI s r = !blk (s.1.drop s.2) r := by
  unfold freeI blk
  cases hb : (s.1.drop s.2).any fun b => cls b == 0 || decide (cls r ≤ cls b) with
  | false =>
    simp only [Bool.not_false]
    refine decide_eq_true ⟨h, fun b hb2 => ?_⟩
    have := (List.any_eq_false.1 hb) b hb2
    simpa using this
  | true =>
    simp only [Bool.not_true]
    refine decide_eq_false fun c => ?_
    obtain ⟨b, hb1, hb2⟩ := List.any_eq_true.1 hb
    exact c.2 b hb1 (by simpa using hb2)

def BlkTo (l : List Int) (r : Int) (k : Nat) : Prop := ∀ j b, j < k → l[j]? = some b → ¬ (cls b = 0 ∨ cls r ≤ cls b)

theorem blk_hit {l : List Int} {r b : Int} {k : Nat} (hb : l[k]? = some b) (h : cls b = 0 ∨ cls r ≤ cls b) : blk l r = true :=
  List.any_eq_true.2 ⟨b, List.mem_of_getElem? hb, by simpa using h⟩
theorem blk_none {l : List Int} {r : Int} {k : Nat} (h : BlkTo l r k) (hk : ¬ k < l.length) : blk l r = false := by
  refine List.any_eq_false.2 fun b hb => ?_
  obtain ⟨j, hj⟩ := List.mem_iff_getElem?.1 hb
  have := (List.getElem?_eq_some_iff.1 hj).1
  simpa using h j b (by omega) hj
theorem BlkTo.succ {l : List Int} {r b : Int} {k : Nat} (h : BlkTo l r k) (hb : l[k]? = some b) (hn : ¬ (cls b = 0 ∨ cls r ≤ cls b)) : BlkTo l r (k + 1) := by
  intro j c hj hc
  by_cases e : j = k
  · subst e; rw [hb] at hc; cases hc; exact hn
  · exact h j c (by omega) hc

def BRel (w : World) (l : List Int) (r : Int) (i : Value) (wr : World) : Prop := ∃ k : Nat, k ≤ l.length ∧ i = .int .i64 k ∧ BlkTo l r k ∧ Below w.heap.size w wr

set_option maxRecDepth 100000 in
set_option maxHeartbeats 2000000 in
theorem blocked_any (w : World) (g f c : Nat) (l : List Int) (r : Int) (hl : l.length ≤ 1048576) (hg : g < w.heap.size) (hc : ∀ j b, l[j]? = some b → w.cell? ⟨g, f + j, none⟩ = some (.int .i64 b)) (hm : Held w 2 marksF) :
    Calls Tryd.prog 36 #[.slice (some ⟨g, f, none⟩) l.length c, .int .i64 r] w fun e w' => e = .returned (.bool (blk l r)) ∧ Below w.heap.size w w' := by
  have C0 := implClass_any r w hm
  go_enter Tryd.func36, Tryd.ntmps36
  go_wp2_with fail
  refine C0.mono ?_
  rintro e w1 ⟨rfl, hb1⟩
  clear C0
  go_wp2_with fail
  go_loopw [13] (fun i wr => BRel w l r i wr) (fun i _ => l.length - (intOf i).toNat)
  case atStart => exact ⟨0, Nat.zero_le _, rfl, fun j b hj => by omega, hb1⟩
  case round =>
    clear hb1
    obtain ⟨k, hk, rfl, HB0, hb⟩ := hrel
    have HB : Hid (BlkTo l r k) := HB0
    clear HB0
    by_cases hlt : k < l.length
    · obtain ⟨b, hx⟩ : ∃ b, l[k]? = some b := ⟨_, List.getElem?_eq_getElem hlt⟩
      have c1 := hc k b hx
      rw [← hb.cell (p := ⟨g, f + k, none⟩) hg] at c1
      have CC := implClass_any b wr (hm.below hb hm.lt)
      have hk8 : (k : Int) < (l.length : Int) := by omega
      have HX : Hid _ := hx
      clear hx
      go_wp2_with fail
      refine CC.mono ?_
      rintro e w2 ⟨rfl, hb2⟩
      have hbb := hb.trans (hb2.mono hb.size)
      clear CC c1 hb2 hb hc
      by_cases e1 : cls b = 0
      · have HY : Hid (true = blk l r) := (blk_hit HX.out (.inl e1)).symm
        have e1' : (cls b == 0) = true := by simpa using e1
        clear HB HX e1
        go_wp2
        go_ret
        exact ⟨ret_b HY.out, hbb⟩
      · have e1' : (cls b == 0) = false := by simpa using e1
        by_cases e2 : cls r ≤ cls b
        · have HY : Hid (true = blk l r) := (blk_hit HX.out (.inr e2)).symm
          clear HB HX e1
          go_wp2
          go_ret
          exact ⟨ret_b HY.out, hbb⟩
        · have HN : Hid (BlkTo l r (k + 1)) := HB.out.succ HX.out (fun h => h.elim e1 e2)
          have e2' : decide (cls r ≤ cls b) = false := by simpa using e2
          clear HB HX e1 e2
          go_wp2
          exact ⟨⟨k + 1, by omega, by go_num, HN.out, hbb⟩, by simp [intOf]; omega⟩
    · have HY : Hid (false = blk l r) := (blk_none HB.out hlt).symm
      clear HB hc
      go_wp2
      go_ret
      exact ⟨ret_b HY.out, hb⟩

set_option maxRecDepth 100000 in
set_option maxHeartbeats 1000000 in
theorem blocked_none (w : World) (a : Option Addr) (c : Nat) (r : Int) (hm : Held w 2 marksF) :
    Calls Tryd.prog 36 #[.slice a 0 c, .int .i64 r] w fun e w' => e = .returned (.bool false) ∧ Below w.heap.size w w' := by
  have C0 := implClass_any r w hm
  go_enter Tryd.func36, Tryd.ntmps36
  go_wp2_with fail
  refine C0.mono ?_
  rintro e w1 ⟨rfl, hb1⟩
  clear C0
  go_wp2_with fail
  go_loopw [13] (fun i wr => i = .int .i64 0 ∧ Below w.heap.size w wr) (fun _ _ => 0)
  case atStart => exact ⟨rfl, hb1⟩
  case round =>
    clear hb1
    obtain ⟨rfl, hb⟩ := hrel
    go_wp2
    go_ret
    exact ⟨rfl, hb⟩
end Go.Proofs.YtlhpkjhinikmmaaDoor
