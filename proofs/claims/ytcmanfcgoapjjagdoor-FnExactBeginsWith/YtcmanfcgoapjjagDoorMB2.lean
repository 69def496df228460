/- Texts of mine laid together: IBlock, IMark, ITake, ITake2, ElApp, Dec, One, Rn4, INorm2. -/
import Derived.Test.YtcmanfcgoapjjagDoorIClass
import Derived.Test.YtcmanfcgoapjjagDoorNorm2
import Derived.Test.YtcmanfcgoapjjagDoorISort
import Derived.Test.YtcmanfcgoapjjagDoorMB1
import Derived.Test.YtcmanfcgoapjjagDoorPKey
import Derived.Deep.Cut
import Derived.Deep.CutRange
import Derived.Deep.RegionWith
import Derived.Deep.Upon
import Derived.Test.YtcmanfcgoapjjagDoorFour
import Derived.Lib.AppendZeros
import GoSem.Core.Utf8
import Derived.Test.YtcmanfcgoapjjagDoorProg
import Derived.WalkKit
import Derived.WalkSpells
import Derived.WalkLawsBesides
import Derived.Test.YtcmanfcgoapjjagDoorIFull
namespace Go.Proofs.YtcmanfcgoapjjagDoor
open Go.RowKit

/-- Whether one of these blocks r. -/
def blk (l : List Int) (r : Int) : Bool := l.any fun b => cls b == 0 || decide (cls r ≤ cls b)

theorem freeI_blk (s : List Int × Nat) (r : Int) (h : 0 < s.2) : freeI s r = !blk (s.1.drop s.2) r := by
  unfold freeI blk
  cases hb : (s.1.drop s.2).any fun b => cls b == 0 || decide (cls r ≤ cls b) with
  | false =>
    simp only [Bool.not_false]
    refine decide_eq_true ⟨h, fun b hb2 => ?_⟩
    have := (List.any_eq_false.1 hb) b hb2
    simpa using this
  | true =>
    simp only [Bool.not_true]
    refine decide_eq_false fun c => ?_
    obtain ⟨b, hb1, hb2⟩ := List.any_eq_true.1 hb
    exact c.2 b hb1 (by simpa using hb2)

def BlkTo (l : List Int) (r : Int) (k : Nat) : Prop := ∀ j b, j < k → l[j]? = some b → ¬ (cls b = 0 ∨ cls r ≤ cls b)

theorem blk_hit {l : List Int} {r b : Int} {k : Nat} (hb : l[k]? = some b) (h : cls b = 0 ∨ cls r ≤ cls b) : blk l r = true :=
  List.any_eq_true.2 ⟨b, List.mem_of_getElem? hb, by simpa using h⟩
theorem blk_none {l : List Int} {r : Int} {k : Nat} (h : BlkTo l r k) (hk : ¬ k < l.length) : blk l r = false := by
  refine List.any_eq_false.2 fun b hb => ?_
  obtain ⟨j, hj⟩ := List.mem_iff_getElem?.1 hb
  have := (List.getElem?_eq_some_iff.1 hj).1
  simpa using h j b (by omega) hj
theorem BlkTo.succ {l : List Int} {r b : Int} {k : Nat} (h : BlkTo l r k) (hb : l[k]? = some b) (hn : ¬ (cls b = 0 ∨ cls r ≤ cls b)) : BlkTo l r (k + 1) := by
  intro j c hj hc
  by_cases e : j = k
  · subst e; rw [hb] at hc; cases hc; exact hn
  · exact h j c (by omega) hc

def BRel (w : World) (l : List Int) (r : Int) (i : Value) (wr : World) : Prop := ∃ k : Nat, k ≤ l.length ∧ i = .int .i64 k ∧ BlkTo l r k ∧ Below w.heap.size w wr

set_option maxRecDepth 100000 in
set_option maxHeartbeats 2000000 in
theorem blocked_any (w : World) (g f c : Nat) (l : List Int) (r : Int) (hl : l.length ≤ 1048576) (hg : g < w.heap.size) (hc : ∀ j b, l[j]? = some b → w.cell? ⟨g, f + j, none⟩ = some (.int .i64 b)) (hm : Held w 0 marksF) :
    Calls Tryd.prog 75 #[.slice (some ⟨g, f, none⟩) l.length c, .int .i64 r] w fun e w' => e = .returned (.bool (blk l r)) ∧ Below w.heap.size w w' := by
  have C0 := implClass_any r w hm
  go_enter Tryd.func75, Tryd.ntmps75
  go_wp2_with fail
  refine C0.mono ?_
  rintro e w1 ⟨rfl, hb1⟩
  clear C0
  go_wp2_with fail
  go_loopw [13] (fun i wr => BRel w l r i wr) (fun i _ => l.length - (intOf i).toNat)
  case atStart => exact ⟨0, Nat.zero_le _, rfl, fun j b hj => by omega, hb1⟩
  case round =>
    clear hb1
    obtain ⟨k, hk, rfl, HB0, hb⟩ := hrel
    have HB : Hid (BlkTo l r k) := HB0
    clear HB0
    by_cases hlt : k < l.length
    · obtain ⟨b, hx⟩ : ∃ b, l[k]? = some b := ⟨_, List.getElem?_eq_getElem hlt⟩
      have c1 := hc k b hx
      rw [← hb.cell (p := ⟨g, f + k, none⟩) hg] at c1
      have CC := implClass_any b wr (hm.below hb hm.lt)
      have hk8 : (k : Int) < (l.length : Int) := by omega
      have HX : Hid _ := hx
      clear hx
      go_wp2_with fail
      refine CC.mono ?_
      rintro e w2 ⟨rfl, hb2⟩
      have hbb := hb.trans (hb2.mono hb.size)
      clear CC c1 hb2 hb hc
      by_cases e1 : cls b = 0
      · have HY : Hid (true = blk l r) := (blk_hit HX.out (.inl e1)).symm
        have e1' : (cls b == 0) = true := by simpa using e1
        clear HB HX e1
        go_wp2
        go_ret
        exact ⟨ret_b HY.out, hbb⟩
      · have e1' : (cls b == 0) = false := by simpa using e1
        by_cases e2 : cls r ≤ cls b
        · have HY : Hid (true = blk l r) := (blk_hit HX.out (.inr e2)).symm
          clear HB HX e1
          go_wp2
          go_ret
          exact ⟨ret_b HY.out, hbb⟩
        · have HN : Hid (BlkTo l r (k + 1)) := HB.out.succ HX.out (fun h => h.elim e1 e2)
          have e2' : decide (cls r ≤ cls b) = false := by simpa using e2
          clear HB HX e1 e2
          go_wp2
          exact ⟨⟨k + 1, by omega, by go_num, HN.out, hbb⟩, by simp [intOf]; omega⟩
    · have HY : Hid (false = blk l r) := (blk_none HB.out hlt).symm
      clear HB hc
      go_wp2
      go_ret
      exact ⟨ret_b HY.out, hb⟩

set_option maxRecDepth 100000 in
set_option maxHeartbeats 1000000 in
theorem blocked_none (w : World) (a : Option Addr) (c : Nat) (r : Int) (hm : Held w 0 marksF) :
    Calls Tryd.prog 75 #[.slice a 0 c, .int .i64 r] w fun e w' => e = .returned (.bool false) ∧ Below w.heap.size w w' := by
  have C0 := implClass_any r w hm
  go_enter Tryd.func75, Tryd.ntmps75
  go_wp2_with fail
  refine C0.mono ?_
  rintro e w1 ⟨rfl, hb1⟩
  clear C0
  go_wp2_with fail
  go_loopw [13] (fun i wr => i = .int .i64 0 ∧ Below w.heap.size w wr) (fun _ _ => 0)
  case atStart => exact ⟨rfl, hb1⟩
  case round =>
    clear hb1
    obtain ⟨rfl, hb⟩ := hrel
    go_wp2
    go_ret
    exact ⟨rfl, hb⟩
end Go.Proofs.YtcmanfcgoapjjagDoor

namespace Go.Proofs.YtcmanfcgoapjjagDoor
open Go.RowKit

/-- None of the first k has class 0. -/
def MarksTo (rest : List Int) (k : Nat) : Prop := ∀ j x, j < k → rest[j]? = some x → cls x ≠ 0

theorem MarksTo.succ {rest : List Int} {k : Nat} {m : Int} (h : MarksTo rest k) (hm : rest[k]? = some m) (hc : cls m ≠ 0) : MarksTo rest (k + 1) := by
  intro j x hj hx
  by_cases e : j = k
  · subst e; rw [hm] at hx; cases hx; exact hc
  · exact h j x (by omega) hx

theorem blk_take {rest : List Int} {k : Nat} {m : Int} (h : MarksTo rest k) : blk (rest.take k) m = blkB rest k (cls m) := by
  unfold blk blkB
  rw [Bool.eq_iff_iff, List.any_eq_true, List.any_eq_true]
  constructor
  · rintro ⟨b, hb, hp⟩
    refine ⟨b, hb, ?_⟩
    obtain ⟨j, hj⟩ := List.mem_iff_getElem?.1 hb
    have hjk : j < k := by
      have := (List.getElem?_eq_some_iff.1 hj).1
      rw [List.length_take] at this
      omega
    rw [List.getElem?_take_of_lt hjk] at hj
    have := h j b hjk hj
    simpa [this] using hp
  · rintro ⟨b, hb, hp⟩
    exact ⟨b, hb, by simp only [Bool.or_eq_true]; exact .inr hp⟩

def ansV (n : Int) : Value := .tuple #[.int .i64 (if n < 0 then 0 else n), .bool (decide (0 ≤ n))]

theorem ret_none {n : Int} (h : n = -1) : Ending.returned (.tuple #[.int .i64 0, .bool false]) = .returned (ansV n) := by subst h; rfl
theorem ret_some {n : Int} {k : Nat} (h : n = (k : Int)) : Ending.returned (.tuple #[.int .i64 (k : Int), .bool true]) = .returned (ansV n) := by
  subst h
  unfold ansV
  rw [if_neg (by omega), decide_eq_true (by omega)]

def MiRel (w : World) (es : List Ent) (run rest : List Int) (ans : Int) (i : Value) (wr : World) : Prop :=
  ∃ k : Nat, k ≤ rest.length ∧ i = .int .i64 k ∧ MarksTo rest k ∧ markFrom es run rest (rest.drop k) k = ans ∧ Below w.heap.size w wr

set_option maxRecDepth 100000 in
set_option maxHeartbeats 8000000 in
theorem markInto_row (w : World) (B g1 f1 c1 g2 f2 c2 : Nat) (ve : Value) (es : List Ent) (run rest : List Int) (hE : Ents w B ve es) (hn : es.length ≤ 1048576) (hr : ∀ e ∈ es, e.runes.length ≤ 1048576) (ht : Tabs3 w)
    (hg1 : g1 < w.heap.size) (hg2 : g2 < w.heap.size) (h1 : 1 ≤ run.length) (hl1 : run.length ≤ 3000) (hl2 : rest.length ≤ 3000) (hcap : rest.length ≤ c2)
    (hc1 : ∀ j x, run[j]? = some x → w.cell? ⟨g1, f1 + j, none⟩ = some (.int .i64 x)) (hc2 : ∀ j x, rest[j]? = some x → w.cell? ⟨g2, f2 + j, none⟩ = some (.int .i64 x)) :
    Calls Tryd.prog 66 #[ve, .slice (some ⟨g1, f1, none⟩) run.length c1, .slice (some ⟨g2, f2, none⟩) rest.length c2] w fun e w' => e = .returned (ansV (markAt es run rest)) ∧ Below w.heap.size w w' := by
  obtain ⟨ans, HANS⟩ : ∃ ans, Hid (markAt es run rest = ans) := ⟨_, rfl⟩
  rw [HANS.out]
  obtain ⟨va, vn, vc, rfl⟩ : ∃ a n c, ve = .slice a n c := by
    rcases hE.form with ⟨rfl, _⟩ | ⟨_, _, rfl, _, _, _, _⟩
    · exact ⟨_, _, _, rfl⟩
    · exact ⟨_, _, _, rfl⟩
  have HC1 : Hid _ := hc1
  have HC2 : Hid _ := hc2
  have HE : Hid (Ents _ _ _ _) := hE
  have HT : Hid (Tabs3 _) := ht
  clear hc1 hc2 hE ht
  go_enter Tryd.func66, Tryd.ntmps66
  go_wp2
  go_loopw [14] (fun i wr => MiRel w es run rest ans i wr) (fun i _ => rest.length - (intOf i).toNat)
  case atStart => exact ⟨0, Nat.zero_le _, rfl, fun j x hj => by omega, by rw [List.drop_zero]; exact HANS.out, Below.refl _ _⟩
  case round =>
    clear HANS
    obtain ⟨k, hk, rfl, hM, hA, hb⟩ := hrel
    have HA : Hid _ := hA
    have HM : Hid (MarksTo _ _) := hM
    clear hA hM
    by_cases hlt : k < rest.length
    · obtain ⟨m, hm⟩ : ∃ m, rest[k]? = some m := ⟨_, List.getElem?_eq_getElem hlt⟩
      have c0 : wr.cell? ⟨g2, f2 + k, none⟩ = some (.int .i64 m) := (hb.cell hg2).trans (HC2.out k m hm)
      have hk8 : (k : Int) < (rest.length : Int) := by omega
      have hkc : k < c2 := by omega
      have HA2 : Hid ((if cls m = 0 then -1 else if blkB rest k (cls m) = false ∧ 0 ≤ atE es (run ++ [m]) then (k : Int) else markFrom es run rest (rest.drop (k + 1)) (k + 1)) = ans) := by
        show _ = _
        rw [← HA.out, int_drop hm]
        rfl
      have HMM : Hid (rest[k]? = some m) := hm
      clear HA hm
      have CL := implClass_any m wr ((HT.out.below hb).1)
      by_cases hc : cls m = 0
      · have HF : Hid (-1 = ans) := by show _ = _; rw [← HA2.out, if_pos hc]
        rw [hc] at CL
        clear HA2
        go_wp2_with fail
        refine CL.mono ?_
        rintro e w3 ⟨rfl, b3⟩
        clear CL c0
        go_wp2
        go_ret2
        exact ⟨ret_none HF.out.symm, hb.trans (b3.mono hb.size)⟩
      · have HA3 : Hid ((if blkB rest k (cls m) = false ∧ 0 ≤ atE es (run ++ [m]) then (k : Int) else markFrom es run rest (rest.drop (k + 1)) (k + 1)) = ans) := by show _ = _; rw [← HA2.out, if_neg hc]
        have hc' : (cls m == 0) = false := by simpa using hc
        have HM2 : Hid (MarksTo rest (k + 1)) := HM.out.succ HMM.out hc
        have HBT : Hid (blk (rest.take k) m = blkB rest k (cls m)) := blk_take HM.out
        clear HA2 HM
        go_wp2_with fail
        refine CL.mono ?_
        rintro e w3 ⟨rfl, b3⟩
        clear CL c0
        have b3' := hb.trans (b3.mono hb.size)
        have hgw3 : g2 < w3.heap.size := Nat.lt_of_lt_of_le hg2 b3'.size
        have BL := blocked_any w3 g2 f2 c2 (rest.take k) m (by rw [List.length_take]; omega) hgw3 (fun j x hx => by
          have hjk : j < k := by
            have := (List.getElem?_eq_some_iff.1 hx).1
            rw [List.length_take] at this
            omega
          rw [List.getElem?_take_of_lt hjk] at hx
          exact (b3'.cell hg2).trans (HC2.out j x hx)) ((HT.out.below b3').1)
        rw [HBT.out, show (rest.take k).length = k by rw [List.length_take]; omega] at BL
        have hkc2 : k ≤ c2 := by omega
        clear HBT b3 hb
        generalize hbb : blkB rest k (cls m) = bb at *
        cases bb
        · go_wp2_with fail
          refine BL.mono ?_
          rintro e w4 ⟨rfl, b4⟩
          have b4' := b3'.trans (b4.mono b3'.size)
          clear BL b4 b3' hgw3
          have hsz4 := b4'.size
          have hx0 : ∀ o : Obj, Below w.heap.size w (w4.alloc o) := fun o => b4'.alloc b4'.size o
          have CC := fun (tb : Nat) (u : World) (htb : tb = w4.heap.size) (hu : u = w4.alloc (.cells #[.slice (some ⟨g1, f1, none⟩) run.length c1, .slice (some ⟨g2, f2 + k, none⟩) ([m] : List Int).length (c2 - k)] 35)) => concat_two u tb g1 f1 c1 g2 (f2 + k) (c2 - k) run [m] (by subst htb; rw [hu]; exact heap_alloc_new _ _) (by rw [hu]; simp; omega) (by rw [hu]; simp; omega) h1 (by omega) (by simp) (fun j x hx => by rw [hu]; exact ((hx0 _).cell hg1).trans (HC1.out j x hx)) (fun j x hx => by
            have hj0 : j = 0 := by
              have := (List.getElem?_eq_some_iff.1 hx).1
              simp at this
              omega
            subst hj0
            simp at hx
            subst hx
            rw [hu, Nat.add_zero]
            exact ((hx0 _).cell hg2).trans (HC2.out k m HMM.out))
          have CC1 := CC w4.heap.size _ rfl rfl
          clear CC
          go_wp2_with fail
          refine CC1.mono ?_
          rintro e w5 ⟨v5, rfl, i5, b5⟩
          have b5' : Below w.heap.size w w5 := (hx0 _).trans (b5.mono (hx0 _).size)
          clear CC1 b5 b4' hx0
          have EN := entryAt_any (HE.out.below b5') i5.rowAt hn hr
          obtain ⟨o, ho⟩ : ∃ o, entOf es (run ++ [m]) = o := ⟨_, rfl⟩
          have HO : Hid (o.isSome = decide (0 ≤ atE es (run ++ [m]))) := by show _ = _; rw [← ho]; exact entOf_some
          rw [ho] at EN
          clear ho i5
          unfold elRes elV at EN
          generalize elOf o = eo at *
          generalize o.isSome = ob at *
          go_wp2_with fail
          refine EN.mono ?_
          rintro e w6 ⟨rfl, b6⟩
          have b6' := b5'.trans (b6.mono b5'.size)
          clear EN b6 b5'
          cases ob
          · have hneg : ¬ 0 ≤ atE es (run ++ [m]) := of_decide_eq_false HO.out.symm
            have HF : Hid (markFrom es run rest (rest.drop (k + 1)) (k + 1) = ans) := by show _ = _; rw [← HA3.out, if_neg (fun c => hneg c.2)]
            clear HA3 HO hneg
            go_wp2
            exact ⟨⟨k + 1, hlt, by go_num, HM2.out, HF.out, b6'.alloc b6'.size _⟩, by simp [intOf]; omega⟩
          · have hpos : 0 ≤ atE es (run ++ [m]) := of_decide_eq_true HO.out.symm
            have HF : Hid ((k : Int) = ans) := by show _ = _; rw [← HA3.out, if_pos (by simp [hpos])]
            clear HA3 HO hpos
            go_wp2
            go_ret2
            exact ⟨ret_some HF.out.symm, b6'.alloc b6'.size _⟩
        · have HF : Hid (markFrom es run rest (rest.drop (k + 1)) (k + 1) = ans) := by show _ = _; rw [← HA3.out, if_neg (fun c => by cases c.1)]
          clear HA3
          go_wp2_with fail
          refine BL.mono ?_
          rintro e w4 ⟨rfl, b4⟩
          clear BL
          go_wp2
          exact ⟨⟨k + 1, hlt, by go_num, HM2.out, HF.out, b3'.trans (b4.mono b3'.size)⟩, by simp [intOf]; omega⟩
    · have hk3 : k = rest.length := by omega
      subst hk3
      have HF : Hid (-1 = ans) := by show _ = _; rw [← HA.out, List.drop_length]; rfl
      clear HA
      go_wp2
      go_ret2
      exact ⟨ret_none HF.out.symm, hb⟩

set_option maxRecDepth 100000 in
set_option maxHeartbeats 1000000 in
theorem markInto_nil (w : World) (ve vr : Value) (a : Option Addr) (c : Nat) (es : List Ent) (run : List Int) : Calls Tryd.prog 66 #[ve, vr, .slice a 0 c] w fun e w' => e = .returned (ansV (markAt es run [])) ∧ Below w.heap.size w w' := by
  have HF : Hid (markAt es run [] = -1) := rfl
  go_enter Tryd.func66, Tryd.ntmps66
  go_wp2
  go_loopw [14] (fun i wr => i = .int .i64 0 ∧ wr = w) (fun _ _ => 0)
  case atStart => exact ⟨rfl, rfl⟩
  case round =>
    obtain ⟨rfl, rfl⟩ := hrel
    go_wp2
    go_ret2
    exact ⟨ret_none HF.out, Below.refl _ _⟩
end Go.Proofs.YtcmanfcgoapjjagDoor

namespace Go.Proofs.YtcmanfcgoapjjagDoor
open Go.RowKit

/-- A list of ints in the midst of a block of the call's own, which may be written into. -/
def MidI (w : World) (B : Nat) (v : Value) (l : List Int) : Prop :=
  (∃ a c, v = .slice a 0 c ∧ l = []) ∨ ∃ g f c cs, v = .slice (some ⟨g, f, none⟩) l.length c ∧ l.length ≤ c ∧ c ≤ maxLen ∧ B ≤ g ∧ w.heap[g]? = some (.cells cs 3) ∧ ∀ j x, l[j]? = some x → w.cell? ⟨g, f + j, none⟩ = some (.int .i64 x)

theorem Ints.midI {w : World} {B : Nat} {v : Value} {l : List Int} (h : Ints w B v l) : MidI w B v l := by
  rcases h.2 with ⟨a, b⟩ | ⟨g, cap, cur, a, b, c, d, e, _⟩
  · exact .inl ⟨_, _, a, by simpa using b⟩
  · subst a
    refine .inr ⟨g, 0, cap, cur, rfl, d, e, b, c, fun j x hx => ?_⟩
    have hj := (List.getElem?_eq_some_iff.1 hx).1
    rw [Nat.zero_add, h.cell j hj, hx]
    rfl

def RfRel (es : List Ent) (l : List Int) (w : World) (i : Value) (wr : World) : Prop :=
  ∃ n : Nat, 1 ≤ n ∧ n ≤ 4 ∧ n ≤ l.length ∧ i = .int .i64 n ∧ (∀ j, n < j → j ≤ 4 → hitN es l j = false) ∧ Below w.heap.size w wr

theorem rowAt_take {w : World} {g f c : Nat} {l : List Int} (n : Nat) (hn : n ≤ l.length) (hg : g < w.heap.size) (hc : ∀ j x, l[j]? = some x → w.cell? ⟨g, f + j, none⟩ = some (.int .i64 x)) : RowAt w (.slice (some ⟨g, f, none⟩) n c) (l.take n) := by
  refine .inr ⟨g, f, c, ?_, hg, fun j x hx => ?_⟩
  · rw [List.length_take, Nat.min_eq_left hn]
  · have hjn : j < n := by
      have := (List.getElem?_eq_some_iff.1 hx).1
      rw [List.length_take] at this
      omega
    rw [List.getElem?_take_of_lt hjn] at hx
    exact hc j x hx

set_option maxRecDepth 100000 in
set_option maxHeartbeats 4000000 in
theorem runAt_any (w : World) (B g f c : Nat) (ve : Value) (es : List Ent) (l : List Int) (hE : Ents w B ve es) (hn : es.length ≤ 1048576) (hr : ∀ e ∈ es, e.runes.length ≤ 1048576)
    (hg : g < w.heap.size) (h1 : 1 ≤ l.length) (hl : l.length ≤ 3000) (hcap : l.length ≤ c) (hc : ∀ j x, l[j]? = some x → w.cell? ⟨g, f + j, none⟩ = some (.int .i64 x)) :
    Calls Tryd.prog 64 #[ve, .slice (some ⟨g, f, none⟩) l.length c] w fun e w' => e = .returned (.int .i64 (runN es l)) ∧ Below w.heap.size w w' := by
  obtain ⟨va, vn, vc, rfl⟩ : ∃ a n c, ve = .slice a n c := by
    rcases hE.form with ⟨rfl, _⟩ | ⟨_, _, rfl, _, _, _, _⟩
    · exact ⟨_, _, _, rfl⟩
    · exact ⟨_, _, _, rfl⟩
  have HC : Hid _ := hc
  have HE : Hid (Ents _ _ _ _) := hE
  clear hc hE
  obtain ⟨s0, hs0, hs1, hs2, HS⟩ : ∃ s0 : Nat, min (4 : Int) (l.length : Int) = (s0 : Int) ∧ 1 ≤ s0 ∧ s0 ≤ 4 ∧ Hid (s0 ≤ l.length ∧ (s0 = 4 ∨ s0 = l.length)) := ⟨min 4 l.length, by omega, by omega, by omega, by show _ ∧ _; omega⟩
  go_enter Tryd.func64, Tryd.ntmps64
  go_wp2
  go_loopw [5] (fun i wr => RfRel es l w i wr) (fun i _ => (intOf i).toNat)
  case atStart =>
    refine ⟨s0, hs1, hs2, HS.out.1, ?_, fun j h1 h2 => hitN_far ?_, Below.refl _ _⟩
    · rw [← hs0]
    · have := HS.out
      omega
  case round =>
    clear hs0 HS hs1 hs2
    obtain ⟨n, hn1, hn4, hnl, rfl, HN0, hb⟩ := hrel
    have HN : Hid (∀ j, n < j → j ≤ 4 → hitN es l j = false) := HN0
    clear HN0
    by_cases hlt : 1 < n
    · have hk8 : (1 : Int) < (n : Int) := by omega
      have hnc : n ≤ c := by omega
      have hgr : g < wr.heap.size := Nat.lt_of_lt_of_le hg hb.size
      have EN := entryAt_any (HE.out.below hb) (rowAt_take (c := c) n hnl hgr (fun j x hx => (hb.cell hg).trans (HC.out j x hx))) hn hr
      obtain ⟨o, ho⟩ : ∃ o, entOf es (l.take n) = o := ⟨_, rfl⟩
      have HO : Hid (o.isSome = hitN es l n) := by show _ = _; rw [hitN_near hnl, ← ho]; exact entOf_some
      rw [ho] at EN
      clear ho
      unfold elRes elV at EN
      generalize elOf o = eo at *
      generalize o.isSome = ob at *
      go_wp2_with fail
      refine EN.mono ?_
      rintro e w6 ⟨rfl, b6⟩
      have b6' := hb.trans (b6.mono hb.size)
      clear EN b6 hb
      cases ob
      · have HN2 : Hid (∀ j, n - 1 < j → j ≤ 4 → hitN es l j = false) := fun j h3 h4 => by
          by_cases e : j = n
          · subst e; exact HO.out.symm
          · exact HN.out j (by omega) h4
        clear HN HO
        go_wp2
        exact ⟨⟨n - 1, by omega, by omega, by omega, by go_num, HN2.out, b6'.alloc b6'.size _⟩, by simp [intOf]; omega⟩
      · have HF : Hid (runN es l = n) := runN_hit (by omega) hn4 HO.out.symm HN.out
        clear HN HO
        go_wp2
        go_ret
        rw [HF.out]
        exact ⟨rfl, b6'.alloc b6'.size _⟩
    · have hn0 : n = 1 := by omega
      subst hn0
      have HF : Hid (runN es l = 1) := runN_one HN.out
      clear HN
      go_wp2
      go_ret
      rw [HF.out]
      exact ⟨rfl, hb⟩
end Go.Proofs.YtcmanfcgoapjjagDoor

namespace Go.Proofs.YtcmanfcgoapjjagDoor
open Go.RowKit

/-- A list of ints in the block g, which may be written into. -/
def MidG (w : World) (g : Nat) (v : Value) (l : List Int) : Prop :=
  (∃ a c, v = .slice a 0 c ∧ l = []) ∨ ∃ f c cs, v = .slice (some ⟨g, f, none⟩) l.length c ∧ l.length ≤ c ∧ c ≤ maxLen ∧ w.heap[g]? = some (.cells cs 3) ∧ ∀ j x, l[j]? = some x → w.cell? ⟨g, f + j, none⟩ = some (.int .i64 x)

def sliceLen : Value → Nat
  | .slice _ n _ => n
  | _ => 0

theorem MidG.len {w : World} {g : Nat} {v : Value} {l : List Int} (h : MidG w g v l) : sliceLen v = l.length := by
  rcases h with ⟨a, c, rfl, rfl⟩ | ⟨f, c, cs, rfl, _⟩ <;> rfl

theorem MidG.below {w w' : World} {g : Nat} {v : Value} {l : List Int} (h : MidG w g v l) (hb : Below w.heap.size w w') : MidG w' g v l := by
  rcases h with h | ⟨f, c, cs, h1, h2, h3, h4, h5⟩
  · exact .inl h
  · have hg := (Array.getElem?_eq_some_iff.1 h4).1
    exact .inr ⟨f, c, cs, h1, h2, h3, (hb.block g hg).trans h4, fun j x hx => (hb.cell hg).trans (h5 j x hx)⟩

theorem MidG.kept {w w' : World} {g : Nat} {v : Value} {l : List Int} {row : Option Nat} (h : MidG w g v l) (hg : w.grownBy w' row) (hne : some g ≠ row) : MidG w' g v l := by
  rcases h with h | ⟨f, c, cs, h1, h2, h3, h4, h5⟩
  · exact .inl h
  · have hlt := (Array.getElem?_eq_some_iff.1 h4).1
    exact .inr ⟨f, c, cs, h1, h2, h3, (hg.block g hlt hne).trans h4, fun j x hx => (World.cell?_of_block (hg.block g hlt hne)).trans (h5 j x hx)⟩

theorem setCells_block {T : TypeId} (g : Nat) : ∀ (vs : List Value) (f : Nat) (w : World) (cs : Array Value), w.heap[g]? = some (.cells cs T) → ∃ cs', (w.setCells g f vs).heap[g]? = some (.cells cs' T)
  | [], _, _, cs, h => ⟨cs, h⟩
  | v :: vs, f, w, cs, h => by
    rw [World.setCells]
    exact setCells_block g vs (f + 1) _ _ (heap_setCell_same w g f cs T v h)

theorem setCells_size (g : Nat) : ∀ (vs : List Value) (f : Nat) (w : World), (w.setCells g f vs).heap.size = w.heap.size
  | [], _, _ => rfl
  | v :: vs, f, w => by
    rw [World.setCells, setCells_size g vs (f + 1)]
    simp [World.setCell]

theorem setCells_tape (g : Nat) : ∀ (vs : List Value) (f : Nat) (w : World), (w.setCells g f vs).tape = w.tape
  | [], _, _ => rfl
  | v :: vs, f, w => by
    rw [World.setCells, setCells_tape g vs (f + 1)]
    rfl

theorem setCells_grown (w : World) (q g f : Nat) (vs : List Value) : w.grownBy ((w.drewN q).setCells g f vs) (some g) :=
  ⟨World.os_setCells _ g f vs, setCells_tape g vs f _, World.output_setCells _ g f vs, by rw [setCells_size]; exact Nat.le_refl _, fun k hk hne => World.heap_setCells_other _ g f vs hk (fun e => hne (by rw [e]))⟩

/-- What is left behind a mark that was taken out. -/
theorem midG_del {w : World} {g f c q k : Nat} {cs : Array Value} {l : List Int} (hk : k < l.length) (h2 : l.length ≤ c) (h3 : c ≤ maxLen) (h4 : w.heap[g]? = some (.cells cs 3)) (h5 : ∀ j x, l[j]? = some x → w.cell? ⟨g, f + j, none⟩ = some (.int .i64 x)) :
    MidG ((w.drewN q).setCells g f ((l.eraseIdx k ++ [0]).map (Value.int .i64))) g (.slice (some ⟨g, f, none⟩) (l.eraseIdx k).length c) (l.eraseIdx k) := by
  have h4' : (w.drewN q).heap[g]? = some (.cells cs 3) := h4
  obtain ⟨cs', hcs⟩ := setCells_block g ((l.eraseIdx k ++ [0]).map (Value.int .i64)) f (w.drewN q) cs h4'
  have hlen := List.length_eraseIdx_of_lt hk
  refine .inr ⟨f, c, cs', rfl, by omega, h3, hcs, fun j x hx => ?_⟩
  have hth : (w.drewN q).there g f ((l.eraseIdx k ++ [0]).map (Value.int .i64)).length := fun j hj => by
    have hj2 : j < l.length := by simp [hlen] at hj; omega
    refine ⟨?_, by simp [World.frozen?, h4]⟩
    have := h5 j l[j] (List.getElem?_eq_getElem hj2)
    show (w.cell? ⟨g, f + j, none⟩).isSome = true
    rw [this]; rfl
  have hj : j < (l.eraseIdx k).length := (List.getElem?_eq_some_iff.1 hx).1
  refine World.rangeAt_setCells_same _ g f _ hth j (.int .i64 x) ?_
  rw [List.getElem?_map, List.getElem?_append_left hj, hx]
  rfl

theorem cells1_new (w : World) (n : Nat) (x : Value) (t : TypeId) (hn : n = w.heap.size) : ∀ j u, [x][j]? = some u → (w.alloc (.cells #[x] t)).cell? ((⟨n, 0, none⟩ : Addr).add j) = some u := by
  subst hn
  intro j u hj
  match j, hj with
  | 0, hj => simp at hj; subst hj; simp [Addr.add]

def TkRel (w w0 : World) (es : List Ent) (g N : Nat) (goal : List Int × List Int) (v7 v8 : Value) (wr : World) : Prop :=
  ∃ run rest, 1 ≤ run.length ∧ run.length + rest.length = N ∧ Ints wr w.heap.size v7 run ∧ MidG wr g v8 rest ∧ grab es run rest = goal ∧ Below w0.heap.size w0 wr ∧ w.grownBy wr (some g)

theorem midG_drop {w : World} {g f c n : Nat} {cs : Array Value} {l : List Int} (hn : n ≤ l.length) (h2 : l.length ≤ c) (h3 : c ≤ maxLen) (h4 : w.heap[g]? = some (.cells cs 3)) (h5 : ∀ j x, l[j]? = some x → w.cell? ⟨g, f + j, none⟩ = some (.int .i64 x)) :
    MidG w g (.slice (some ⟨g, f + n, none⟩) (l.length - n) (c - n)) (l.drop n) := by
  refine .inr ⟨f + n, c - n, cs, by rw [List.length_drop], by rw [List.length_drop]; omega, by omega, h4, fun j x hx => ?_⟩
  rw [List.getElem?_drop] at hx
  rw [Nat.add_assoc]
  exact h5 (n + j) x hx

theorem ints_form1 {w : World} {B : Nat} {v : Value} {l : List Int} (h : Ints w B v l) (h1 : 1 ≤ l.length) : ∃ g c, v = .slice (some ⟨g, 0, none⟩) l.length c ∧ B ≤ g ∧ g < w.heap.size ∧ ∀ j x, l[j]? = some x → w.cell? ⟨g, 0 + j, none⟩ = some (.int .i64 x) := by
  rcases h.form with ⟨rfl, rfl⟩ | ⟨g, cap, rfl, _, _⟩
  · simp at h1
  · refine ⟨g, cap, rfl, (World.ownsRow.lt h g rfl).1, (World.ownsRow.lt h g rfl).2, fun j x hx => ?_⟩
    have hj := (List.getElem?_eq_some_iff.1 hx).1
    rw [Nat.zero_add, h.cell j hj, hx]
    rfl

theorem markInto_any {w w0 : World} {B B' g : Nat} {ve v7 v8 : Value} {es : List Ent} {run rest : List Int} (hE : Ents w0 B ve es) (hn : es.length ≤ 1048576) (hr : ∀ e ∈ es, e.runes.length ≤ 1048576) (ht : Tabs3 w0) (hb : Below w0.heap.size w0 w)
    (i7 : Ints w B' v7 run) (i8 : MidG w g v8 rest) (h1 : 1 ≤ run.length) (hl : run.length + rest.length ≤ 3000) :
    Calls Tryd.prog 66 #[ve, v7, v8] w fun e w' => e = .returned (ansV (markAt es run rest)) ∧ Below w.heap.size w w' := by
  rcases i8 with ⟨a, c, rfl, rfl⟩ | ⟨f, c, cs, rfl, h2, h3, h4, h5⟩
  · exact markInto_nil w ve v7 a c es run
  · obtain ⟨g7, c7, rfl, _, hg7, hc7⟩ := ints_form1 i7 h1
    exact markInto_row w B g7 0 c7 g f c ve es run rest (hE.below hb) hn hr (ht.below hb) hg7 (Array.getElem?_eq_some_iff.1 h4).1 h1 (by omega) (by omega) h2 hc7 h5

set_option maxRecDepth 100000 in
set_option maxHeartbeats 8000000 in
theorem takeRun_row (w w0 : World) (B g f c : Nat) (cs : Array Value) (ve : Value) (es : List Ent) (l : List Int) (hb0 : Below w0.heap.size w0 w) (hE : Ents w0 B ve es) (hn : es.length ≤ 1048576) (hr : ∀ e ∈ es, e.runes.length ≤ 1048576) (ht : Tabs3 w0)
    (hg0 : w0.heap.size ≤ g) (h1 : 1 ≤ l.length) (hl : l.length ≤ 3000) (h2 : l.length ≤ c) (h3 : c ≤ maxLen) (h4 : w.heap[g]? = some (.cells cs 3)) (h5 : ∀ j x, l[j]? = some x → w.cell? ⟨g, f + j, none⟩ = some (.int .i64 x)) :
    Calls Tryd.prog 47 #[ve, .slice (some ⟨g, f, none⟩) l.length c] w fun e w' => ∃ vr vq, e = .returned (.tuple #[vr, vq]) ∧ Ints w' w.heap.size vr (take4 es l).1 ∧ MidG w' g vq (take4 es l).2 ∧ Below w0.heap.size w0 w' ∧ w.grownBy w' (some g) := by
  obtain ⟨i0, hi, hzz, hz1, hz2⟩ := info_parts info_int
  have hg : g < w.heap.size := (Array.getElem?_eq_some_iff.1 h4).1
  have RF := runAt_any w B g f c ve es l (hE.below hb0) hn hr hg h1 hl h2 h5
  obtain ⟨bd1, bd2, bd3⟩ := runN_bd (es := es) h1
  obtain ⟨goal, HG⟩ : ∃ goal, Hid (take4 es l = goal) := ⟨_, rfl⟩
  have HGR : Hid (grab es (l.take (runN es l)) (l.drop (runN es l)) = goal) := HG.out
  rw [HG.out]
  clear HG
  generalize runN es l = n at *
  obtain ⟨va, vn, vc, hve⟩ : ∃ a n c, ve = .slice a n c := by
    rcases hE.form with ⟨rfl, _⟩ | ⟨_, _, rfl, _, _, _, _⟩
    · exact ⟨_, _, _, rfl⟩
    · exact ⟨_, _, _, rfl⟩
  subst hve
  have HE : Hid (Ents _ _ _ _) := hE
  have HT : Hid (Tabs3 _) := ht
  have HB0 : Hid (Below _ _ _) := hb0
  have H5 : Hid (∀ j x, l[j]? = some x → w.cell? ⟨g, f + j, none⟩ = some (.int .i64 x)) := h5
  have H4 : Hid (w.heap[g]? = some (.cells cs 3)) := h4
  have hnc : n ≤ c := by omega
  clear hE ht hb0 h5 h4
  go_enter Tryd.func47, Tryd.ntmps47
  go_wp2_with fail
  refine RF.mono ?_
  rintro e w1 ⟨rfl, b1⟩
  clear RF
  have CLN := fun (u : World) (hu : Below w1.heap.size w1 u) => clone_at u g f c (l.take n) (by rw [List.length_take]; omega) (fun j x hx => by
    have hjn : j < n := by
      have := (List.getElem?_eq_some_iff.1 hx).1
      rw [List.length_take] at this
      omega
    rw [List.getElem?_take_of_lt hjn] at hx
    rw [hu.cell (Nat.lt_of_lt_of_le hg b1.size), b1.cell hg]
    exact H5.out j x hx)
  rw [show (l.take n).length = n by rw [List.length_take]; omega] at CLN
  go_upto_region 2 with fail
  go_cut [7, 8] from 14 to 20 (fun v7 v8 wx => Ints wx w1.heap.size v7 (l.take n) ∧ v8 = .slice (if c = n then some ⟨g, f, none⟩ else some ⟨g, f + n, none⟩) (l.length - n) (c - n) ∧ Below w1.heap.size w1 wx)
  case first =>
    by_cases hcn : c = n
    · subst hcn
      go_region_with (go_at_call 65; refine (CLN _ (by repeat (first | exact Below.refl _ _ | refine Below.drew ?_))).mono ?_; rintro e u6 ⟨v6, rfl, i6, b6⟩)
      all_goals
        have hK : Ints u6 w1.heap.size v6 (l.take c) ∧ Below w1.heap.size w1 u6 := ⟨i6, by first | exact b6 | exact ((Below.refl _ _).drew).trans b6⟩
        clear i6 b6 CLN
        go_wp2_with fail
        go_meet
        case rel => exact ⟨hK.1, by simp; omega, hK.2⟩
    · have hcn2 : (c == n) = false := by simpa using hcn
      go_region_with (go_at_call 65; refine (CLN _ (by repeat (first | exact Below.refl _ _ | refine Below.drew ?_))).mono ?_; rintro e u6 ⟨v6, rfl, i6, b6⟩)
      all_goals
        have hK : Ints u6 w1.heap.size v6 (l.take n) ∧ Below w1.heap.size w1 u6 := ⟨i6, by first | exact b6 | exact ((Below.refl _ _).drew).trans b6⟩
        clear i6 b6 CLN
        go_wp2_with fail
        go_meet
        case rel => exact ⟨hK.1, by rw [if_neg hcn], hK.2⟩
  case rest =>
    obtain ⟨i7, rfl, bc⟩ := hcut
    clear CLN
    have b1' : Below w0.heap.size w0 w1 := HB0.out.trans (b1.mono HB0.out.size)
    have bw : Below w.heap.size w wc := b1.trans (bc.mono b1.size)
    have b0c : Below w0.heap.size w0 wc := b1'.trans (bc.mono b1'.size)
    have H4c : wc.heap[g]? = some (.cells cs 3) := (bw.block g hg).trans H4.out
    have H5c : ∀ j x, l[j]? = some x → wc.cell? ⟨g, f + j, none⟩ = some (.int .i64 x) := fun j x hx => (bw.cell hg).trans (H5.out j x hx)
    have hM : MidG wc g (.slice (if c = n then some ⟨g, f, none⟩ else some ⟨g, f + n, none⟩) (l.length - n) (c - n)) (l.drop n) := by
      by_cases hcn : c = n
      · refine .inl ⟨if c = n then some ⟨g, f, none⟩ else some ⟨g, f + n, none⟩, c - n, ?_, List.drop_eq_nil_of_le (by omega)⟩
        rw [show l.length - n = 0 by omega]
      · rw [if_neg hcn]
        exact midG_drop bd2 h2 h3 H4c H5c
    have hst : TkRel w w0 es g l.length goal u7 (.slice (if c = n then some ⟨g, f, none⟩ else some ⟨g, f + n, none⟩) (l.length - n) (c - n)) wc :=
      ⟨l.take n, l.drop n, by rw [List.length_take]; omega, by rw [List.length_take, List.length_drop]; omega, ints_low2 i7 b1.size, hM, HGR.out, b0c, ⟨bw.os, bw.tape, bw.output, bw.size, fun k hk _ => bw.block k hk⟩⟩
    have HST : Hid (TkRel _ _ _ _ _ _ _ _ _) := hst
    clear hst hM H4c H5c b0c bw b1' i7 bc b1 HGR H4 H5 HB0
    generalize (Value.slice (if c = n then some ⟨g, f, none⟩ else some ⟨g, f + n, none⟩) (l.length - n) (c - n)) = v8 at *
    go_wp2_with fail
    go_loopw [7, 8] (fun v7 v8 wr => TkRel w w0 es g l.length goal v7 v8 wr) (fun _ v8 _ => sliceLen v8)
    case atStart => exact HST.out
    case round =>
      clear HST
      obtain ⟨run, rest, hr1, hrl, j7, j8, hgr, jb, jg⟩ := hrel
      have MI := markInto_any HE.out hn hr HT.out jb j7 j8 hr1 (by omega)
      have hl8 := j8.len
      have HGR : Hid (grab es run rest = goal) := hgr
      have HJB : Hid (Below _ _ _) := jb
      have HJG : Hid (World.grownBy _ _ _) := jg
      have H7 : Hid (Ints _ _ _ _) := j7
      have H8 : Hid (MidG _ _ _ _) := j8
      clear hgr jb jg j7 j8
      rcases mark_cases es run rest with hmk | ⟨k, hkl, hmk⟩
      · rw [hmk] at MI
        have HF : Hid (goal = (run, rest)) := by show _ = _; rw [← HGR.out]; exact grab_stop hmk
        clear HGR hmk
        unfold ansV at MI
        simp only [show (-1 : Int) < 0 from by decide, if_true, show decide ((0 : Int) ≤ -1) = false from rfl] at MI
        go_wp2_with fail
        refine MI.mono ?_
        rintro e w2 ⟨rfl, b2⟩
        clear MI
        go_wp2
        go_ret2
        rw [HF.out]
        exact ⟨_, _, rfl, H7.out.below b2, H8.out.below b2, HJB.out.trans (b2.mono HJB.out.size), HJG.out.trans ⟨b2.os, b2.tape, b2.output, b2.size, fun k hk _ => b2.block k hk⟩⟩
      · obtain ⟨x, hx⟩ : ∃ x, rest[k]? = some x := ⟨_, List.getElem?_eq_getElem hkl⟩
        have HF : Hid (grab es (run ++ [x]) (rest.eraseIdx k) = goal) := by
          show _ = _
          rw [← HGR.out, grab_go hkl hmk]
          unfold at0
          rw [hx]
          rfl
        rw [hmk] at MI
        clear HGR hmk
        unfold ansV at MI
        simp only [show ¬ ((k : Int) < 0) from by omega, if_false, show decide ((0 : Int) ≤ (k : Int)) = true from decide_eq_true (by omega)] at MI
        obtain ⟨f8, c8, cs8, h81, h82, h83, h84, h85⟩ : ∃ f c cs, u8 = .slice (some ⟨g, f, none⟩) rest.length c ∧ rest.length ≤ c ∧ c ≤ maxLen ∧ wr.heap[g]? = some (.cells cs 3) ∧ ∀ j x, rest[j]? = some x → wr.cell? ⟨g, f + j, none⟩ = some (.int .i64 x) := by
          rcases H8.out with ⟨a, c, _, h⟩ | h
          · subst h; simp at hkl
          · exact h
        subst h81
        have hgr : g < wr.heap.size := (Array.getElem?_eq_some_iff.1 h84).1
        have hk8 : (k : Int) < (rest.length : Int) := by omega
        go_wp2_with fail
        refine MI.mono ?_
        rintro e w2 ⟨rfl, b2⟩
        clear MI
        have hcx : w2.cell? ⟨g, f8 + k, none⟩ = some (.int .i64 x) := (b2.cell hgr).trans (h85 k x hx)
        have H82 : Hid (w2.heap[g]? = some (.cells cs8 3)) := (b2.block g hgr).trans h84
        have H85 : Hid (∀ j x, rest[j]? = some x → w2.cell? ⟨g, f8 + j, none⟩ = some (.int .i64 x)) := fun j x hx => (b2.cell hgr).trans (h85 j x hx)
        have i72 : Ints w2 w.heap.size u7 run := H7.out.below b2
        have b02 : Below w0.heap.size w0 w2 := HJB.out.trans (b2.mono HJB.out.size)
        have g02 : w.grownBy w2 (some g) := HJG.out.trans ⟨b2.os, b2.tape, b2.output, b2.size, fun k hk _ => b2.block k hk⟩
        have hsz2 : w.heap.size ≤ w2.heap.size := g02.size
        have HB02 : Hid (Below _ _ _) := b02
        have HG02 : Hid (World.grownBy _ _ _) := g02
        have hgw2 : g < w2.heap.size := Nat.lt_of_lt_of_le hgr b2.size
        clear h84 h85 H7 H8 HJB HJG b2 b02 g02 hgr hx
        unfold Ints at i72
        go_wp2_with (at_builtin; refine wpList_append_own _ rfl _ _ 35 rfl w.heap.size 3 i0 (.int .i64 0) 1 8 Tryd.underlying35 hi hzz hz1 hz2 rfl (by decide) _ _ _ rfl (i72.alloc _) ⟨w2.heap.size, 0, none⟩ 1 1 [.int .i64 x] rfl rfl (cells1_new _ _ _ _ (by simp)) (fun u hu => by simp at hu; subst hu; rfl) (by unfold maxLen; omega) (by omega) (by simp; omega) ?_)
        intro v7' w4 ho4 hg4 _
        have i74 : Ints w4 w.heap.size v7' (run ++ [x]) := Ints.snoc ho4
        have hne : some g ≠ u7.ownBlock := fun e => by have := (World.ownsRow.lt i72 g e.symm).1; omega
        have h44 : w4.heap[g]? = some (.cells cs8 3) := (hg4.block g (by simp; omega) hne).trans ((Below.heap_alloc _ _ _ hgw2).trans H82.out)
        have h45 : ∀ j x, rest[j]? = some x → w4.cell? ⟨g, f8 + j, none⟩ = some (.int .i64 x) := fun j y hy => by
          rw [World.cell?_of_block ((hg4.block g (by simp; omega) hne).trans (Below.heap_alloc _ _ _ hgw2))]
          exact H85.out j y hy
        have b04 : Below w0.heap.size w0 w4 := Below.grown (HB02.out.alloc HB02.out.size _) hg4 (HB02.out.alloc HB02.out.size _).size (fun j hj => Nat.le_trans (Nat.le_trans hg0 (Nat.le_of_lt hg)) (World.ownsRow.lt i72 j hj).1)
        have g04 : w.grownBy w4 (some g) := by
          refine ⟨hg4.os.trans HG02.out.os, hg4.tape.trans HG02.out.tape, hg4.output.trans HG02.out.output, Nat.le_trans hsz2 (Nat.le_trans (by simp) hg4.size), fun k hk hkn => ?_⟩
          have hk2 : k < w2.heap.size := Nat.lt_of_lt_of_le hk hsz2
          rw [hg4.block k (by simp; omega) (fun e => by have := (World.ownsRow.lt i72 k e.symm).1; omega), Below.heap_alloc _ _ _ hk2]
          exact HG02.out.block k hk hkn
        have DEL := delete_at w4 g f8 c8 k rest hkl h82 h83 h45 (fun j => by simp [World.frozen?, h44])
        have HMD := fun q => midG_del (q := q) hkl h82 h83 h44 h45
        have HMD' : Hid (∀ q, MidG ((w4.drewN q).setCells g f8 ((rest.eraseIdx k ++ [0]).map (Value.int .i64))) g (.slice (some ⟨g, f8, none⟩) (rest.eraseIdx k).length c8) (rest.eraseIdx k)) := HMD
        have hlen := List.length_eraseIdx_of_lt hkl
        have H74 : Hid (Ints _ _ _ _) := i74
        have HB04 : Hid (Below _ _ _) := b04
        have HG04 : Hid (World.grownBy _ _ _) := g04
        clear ho4 hg4 h44 h45 HMD i74 b04 g04 i72 HB02 HG02 H82 H85 hcx
        go_wp2_with fail
        refine DEL.mono ?_
        rintro e w5 ⟨rfl, q, rfl⟩
        clear DEL
        go_wp2
        refine ⟨⟨run ++ [x], rest.eraseIdx k, by simp, by rw [List.length_append]; simp; omega, ?_, (by have hq := HMD'.out q; rw [List.map_append, hlen] at hq; exact hq), HF.out, ?_, HG04.out.trans (setCells_grown w4 q g f8 _)⟩, ?_⟩
        · refine World.ownsRow.kept H74.out (setCells_grown w4 q g f8 _) ?_
          cases hv : v7'.ownBlock with
          | none => exact .inl rfl
          | some j => exact .inr fun c => by have := (World.ownsRow.lt H74.out j hv).1; have := Option.some.inj c; omega
        · exact Below.grown HB04.out (setCells_grown w4 q g f8 _) HB04.out.size (fun j hj => by cases hj; exact hg0)
        · show sliceLen _ < sliceLen _
          simp [sliceLen]
          omega
end Go.Proofs.YtcmanfcgoapjjagDoor

namespace Go.Proofs.YtcmanfcgoapjjagDoor
open Go.RowKit

theorem run_append_none {P : Program} (w : World) (t ty e : TypeId) (i : TypeInfo) (ht : P.underlying t = some (.slice e)) (hi : P.info? e = some i) (b : Option Addr) (n c : Nat) (hle : n ≤ c) :
    (Builtin.append_ #[t, t] ty #[.slice b n c, .slice none 0 0]).run P w = .ok (.slice b n c) w := by
  cases b <;> simp [Builtin.append_, run_underlying ht, sizeOf, typeInfo, hi, hle, storeCells, Builtin.lenOf, Builtin.firstCells]

theorem elAll_app (es fs : List El) : elAll (es ++ fs) = elAll es ++ elAll fs := by simp [elAll]

theorem elAll_one (es : List El) : ∀ u ∈ elAll es, u.oneCell' = true := by
  intro u hu
  unfold elAll at hu
  obtain ⟨e, _, he⟩ := List.mem_flatMap.1 hu
  simp [elC] at he
  rcases he with rfl | rfl | rfl | rfl <;> rfl

theorem append_els {w : World} {ops : Array Oper} {rest : List Oper} {o : Oper} {a : Act} {Q : Exit → Act → World → Prop} (hgd : o.guard = none) (s x : Operand)
    (ho : o.op = .call { callee := .builtin .append, args := #[s, x], argTypes := #[54, 54] }) (B B' : Nat) (v vx : Value) (es fs : List El) (hs : a.eval s = v) (hx : a.eval x = vx) (hE : Elems w B v es) (hF : Elems w B' vx fs)
    (h63 : es.length + fs.length ≤ 1048576) (hbase : B ≤ w.heap.size) (h : ∀ v' w', Elems w' B v' (es ++ fs) → w.grownBy w' v.ownBlock → wpList Tryd.prog ops Q rest (a.put o.dst v') w') : wpList Tryd.prog ops Q (o :: rest) a w := by
  obtain ⟨i1, hi1, hz1, hs1, hy1⟩ := info_parts info_elem
  rcases hF.form with ⟨rfl, rfl⟩ | ⟨g, cap, rfl, _, _⟩
  · obtain ⟨b, n, c, rfl, hnc⟩ : ∃ b n c, v = .slice b n c ∧ n ≤ c := by
      rcases hE.form with ⟨rfl, rfl⟩ | ⟨g, cap, rfl, h1, _⟩
      · exact ⟨_, _, _, rfl, Nat.le_refl _⟩
      · exact ⟨_, _, _, rfl, h1⟩
    refine Go.Lib.wpList_append_run w hgd s x 54 54 ho _ _ hs hx _ _ (run_append_none w _ _ _ i1 Tryd.underlying54 hi1 b n c hnc) ?_
    refine h _ _ ?_ ⟨rfl, rfl, rfl, Nat.le_refl _, fun _ _ _ => rfl⟩
    rw [List.append_nil]
    exact hE
  · refine wpList_append_own w hgd s x 54 ho B 50 i1 _ 4 32 Tryd.underlying54 hi1 hz1 hs1 hy1 rfl (by decide) v es.length (elAll es) hs hE ⟨g, 0, none⟩ fs.length cap (elAll fs) hx (elAll_len fs) (fun j u hj => ?_) (elAll_one fs) (by unfold maxLen; omega) (by omega) hbase (fun v' w' h1 h2 _ => h v' w' ?_ h2)
    · have hjl : j < fs.length * 4 := by
        have := (List.getElem?_eq_some_iff.1 hj).1
        rw [elAll_len] at this
        exact this
      have := World.ownsRow.cellAt hF j hjl
      rw [hj] at this
      show w.cell? ((⟨g, 0, none⟩ : Addr).add j) = some u
      rw [← this]
      unfold Addr.add
      split
      · rename_i h0; subst h0; rfl
      · simp
    · unfold Elems
      rw [elAll_app, List.length_append]
      exact h1
end Go.Proofs.YtcmanfcgoapjjagDoor

namespace Go.Proofs.YtcmanfcgoapjjagDoor.Dec

def bt (s : ByteArray) (k : Nat) : Nat := (s.get! k).toNat

theorem bt_lt (s : ByteArray) (k : Nat) : bt s k < 256 := (s.get! k).toNat_lt

theorem bt_get (s : ByteArray) (k : Nat) (h : k < s.size) : (s[k]'h).toNat = bt s k := by
  unfold bt
  simp [ByteArray.get!, getElem!_pos, h]
  rfl

def more (b : Nat) : Int :=
  if b < 128 then 0 else if b < 194 then -1 else if b < 224 then 1 else if b < 240 then 2 else if b < 245 then 3 else -1
def lo1 (b : Nat) : Nat := if b = 224 then 160 else if b = 240 then 144 else 128
def hi1 (b : Nat) : Nat := if b = 237 then 159 else if b = 244 then 143 else 191

def lo0 (b : Nat) : Nat := if more b ≤ 0 then 0 else lo1 b
def hi0 (b : Nat) : Nat := if more b ≤ 0 then 0 else hi1 b

theorem more_cases (b : Nat) : more b = -1 ∨ more b = 0 ∨ more b = 1 ∨ more b = 2 ∨ more b = 3 := by
  unfold more; repeat' split
  all_goals omega

def goes (t : ByteArray) (m : Nat) : Nat → Nat → Nat → Nat → Nat → Int × Nat × Bool
  | 0, _, _, _, r => (r, m + 1, true)
  | f + 1, k, lo, hi, r => if k < t.size ∧ lo ≤ bt t k ∧ bt t k ≤ hi then goes t m f (k + 1) 128 191 (r * 64 + bt t k % 64) else (65533, k, false)

def first (b m : Nat) : Nat := match m with | 0 => b | 1 => b % 32 | 2 => b % 16 | _ => b % 8

def one (t : ByteArray) : Int × Nat × Bool :=
  if more (bt t 0) < 0 then (65533, 1, false)
  else goes t (more (bt t 0)).toNat (more (bt t 0)).toNat 1 (lo1 (bt t 0)) (hi1 (bt t 0)) (first (bt t 0) (more (bt t 0)).toNat)

theorem goes_le (t : ByteArray) (m : Nat) : ∀ f k lo hi r, f + k = m + 1 → 1 ≤ k → k ≤ t.size →
    1 ≤ (goes t m f k lo hi r).2.1 ∧ (goes t m f k lo hi r).2.1 ≤ t.size := by
  intro f
  induction f with
  | zero => intro k lo hi r h1 h2 h3; simp [goes]; omega
  | succ f ih =>
    intro k lo hi r h1 h2 h3
    simp only [goes]
    split
    · exact ih (k + 1) 128 191 _ (by omega) (by omega) (by omega)
    · exact ⟨h2, h3⟩

theorem one_le (t : ByteArray) (h : 0 < t.size) : 1 ≤ (one t).2.1 ∧ (one t).2.1 ≤ t.size := by
  unfold one
  split
  · simp; omega
  · exact goes_le t _ _ _ _ _ _ rfl (Nat.le_refl _) (by omega)

def decT : Nat → ByteArray → List Int × Nat
  | 0, _ => ([], 0)
  | f + 1, t => if 0 < t.size then
      ((one t).1 :: (decT f (t.extract (one t).2.1 t.size)).1, (decT f (t.extract (one t).2.1 t.size)).2 + (if (one t).2.2 then 0 else 1))
    else ([], 0)

theorem decT_end (f : Nat) (t : ByteArray) (h : t.size = 0) : decT f t = ([], 0) := by
  cases f with
  | zero => rfl
  | succ f => simp [decT, h]

theorem size_extract (t : ByteArray) (n : Nat) : (t.extract n t.size).size = t.size - n := by
  simp [ByteArray.size_extract]

theorem bt_extract (t : ByteArray) (n k : Nat) (h : n + k < t.size) : bt (t.extract n t.size) k = bt t (n + k) := by
  have h1 : k < (t.extract n t.size).size := by rw [size_extract t n]; omega
  rw [← bt_get _ _ h1, ← bt_get _ _ h]
  simp [ByteArray.getElem_extract]

theorem extract_extract (t : ByteArray) (n m : Nat) : (t.extract n t.size).extract m (t.extract n t.size).size = t.extract (n + m) t.size := by
  ext i
  · simp [ByteArray.size_extract]; omega
  · simp [Nat.add_assoc]

theorem decT_len : ∀ f t, t.size ≤ f → (decT f t).1.length ≤ t.size ∧ (decT f t).2 ≤ t.size := by
  intro f
  induction f with
  | zero => intro t _; simp [decT]
  | succ f ih =>
    intro t h
    simp only [decT]
    split
    · rename_i h0
      have h1 := one_le t h0
      have h2 := size_extract t (one t).2.1
      have h3 := ih (t.extract (one t).2.1 t.size) (by omega)
      simp only [List.length_cons]
      constructor
      · omega
      · split <;> omega
    · simp

theorem goes_yes {t : ByteArray} {m f k lo hi r : Nat} (x : Nat) (hx : bt t k = x) (h : k < t.size ∧ lo ≤ x ∧ x ≤ hi) :
    goes t m (f + 1) k lo hi r = goes t m f (k + 1) 128 191 (r * 64 + x % 64) := by
  subst hx; simp only [goes, if_pos h]

theorem goes_no {t : ByteArray} {m f k lo hi r : Nat} (h : ¬ (k < t.size ∧ lo ≤ bt t k ∧ bt t k ≤ hi)) :
    goes t m (f + 1) k lo hi r = (65533, k, false) := by
  simp only [goes, if_neg h]

theorem lo_hi (x0 x1 : Nat) : (lo1 x0 ≤ x1 ∧ x1 ≤ hi1 x0) ↔ (128 ≤ x1 ∧ x1 ≤ 191 ∧ (x0 = 224 → 160 ≤ x1) ∧ (x0 = 240 → 144 ≤ x1) ∧ (x0 = 237 → x1 ≤ 159) ∧ (x0 = 244 → x1 ≤ 143)) := by
  unfold lo1 hi1
  repeat' split
  all_goals omega

set_option maxHeartbeats 2000000 in
/-- The language's own decoding gives the same rune; its width is that of the sequence where it is whole, else one byte. -/
theorem decode_one (s : ByteArray) (p : Nat) (h : p < s.size) :
    ((Utf8.decode s p).1 : Int) = (one (s.extract p s.size)).1 ∧
    (Utf8.decode s p).2 = (if (one (s.extract p s.size)).2.2 then (one (s.extract p s.size)).2.1 else 1) := by
  have e0 := bt_extract s p 0 (by omega)
  have e1 : p + 1 < s.size → bt (s.extract p s.size) 1 = bt s (p + 1) := bt_extract s p 1
  have e2 : p + 2 < s.size → bt (s.extract p s.size) 2 = bt s (p + 2) := bt_extract s p 2
  have e3 : p + 3 < s.size → bt (s.extract p s.size) 3 = bt s (p + 3) := bt_extract s p 3
  have hsz := size_extract s p
  generalize s.extract p s.size = t at *
  have b0 := bt_lt s (p + 0); have b1 := bt_lt s (p + 1); have b2 := bt_lt s (p + 2); have b3 := bt_lt s (p + 3)
  have d : Utf8.decode s p = (if bt s (p + 0) < 0x80 then (bt s (p + 0), 1)
    else if (bt s (p + 0) / 32 == 6 && (decide (p + 1 < s.size) && bt s (p + 1) / 64 == 2)) = true then
      if (bt s (p + 0) % 32) * 64 + bt s (p + 1) % 64 ≥ 0x80 then ((bt s (p + 0) % 32) * 64 + bt s (p + 1) % 64, 2) else (Utf8.runeError, 1)
    else if (bt s (p + 0) / 16 == 14 && (decide (p + 1 < s.size) && bt s (p + 1) / 64 == 2) && (decide (p + 2 < s.size) && bt s (p + 2) / 64 == 2)) = true then
      if (decide ((bt s (p + 0) % 16) * 4096 + (bt s (p + 1) % 64) * 64 + bt s (p + 2) % 64 ≥ 0x800) && Utf8.valid (((bt s (p + 0) % 16) * 4096 + (bt s (p + 1) % 64) * 64 + bt s (p + 2) % 64 : Nat) : Int)) = true then ((bt s (p + 0) % 16) * 4096 + (bt s (p + 1) % 64) * 64 + bt s (p + 2) % 64, 3) else (Utf8.runeError, 1)
    else if (bt s (p + 0) / 8 == 30 && (decide (p + 1 < s.size) && bt s (p + 1) / 64 == 2) && (decide (p + 2 < s.size) && bt s (p + 2) / 64 == 2) && (decide (p + 3 < s.size) && bt s (p + 3) / 64 == 2)) = true then
      if (decide ((bt s (p + 0) % 8) * 262144 + (bt s (p + 1) % 64) * 4096 + (bt s (p + 2) % 64) * 64 + bt s (p + 3) % 64 ≥ 0x10000) && Utf8.valid (((bt s (p + 0) % 8) * 262144 + (bt s (p + 1) % 64) * 4096 + (bt s (p + 2) % 64) * 64 + bt s (p + 3) % 64 : Nat) : Int)) = true then ((bt s (p + 0) % 8) * 262144 + (bt s (p + 1) % 64) * 4096 + (bt s (p + 2) % 64) * 64 + bt s (p + 3) % 64, 4) else (Utf8.runeError, 1)
    else (Utf8.runeError, 1)) := rfl
  rw [d]
  clear d
  unfold one
  rw [e0]
  clear e0
  generalize bt s (p + 0) = x0 at *
  generalize bt s (p + 1) = x1 at *
  generalize bt s (p + 2) = x2 at *
  generalize bt s (p + 3) = x3 at *
  by_cases c0 : x0 < 128
  · simp [more, c0, goes, first]
  by_cases c1 : x0 < 194
  · have a : ¬ (x0 / 16 = 14) := by omega
    have b : ¬ (x0 / 8 = 30) := by omega
    simp only [more, if_neg c0, if_pos c1]
    simp [a, b, Utf8.runeError]
    split <;> (try split) <;> simp <;> omega
  by_cases c2 : x0 < 224
  · have a : x0 / 32 = 6 := by omega
    have a2 : ¬ (x0 / 16 = 14) := by omega
    have a3 : ¬ (x0 / 8 = 30) := by omega
    have lh := lo_hi x0 x1
    simp only [more, if_neg c0, if_neg c1, if_pos c2]
    rw [if_neg (show ¬ ((1 : Int) < 0) by decide)]
    simp only [show (1 : Int).toNat = 1 from rfl]
    by_cases c : p + 1 < s.size ∧ x1 / 64 = 2
    · have v : 128 ≤ x0 % 32 * 64 + x1 % 64 := by omega
      rw [goes_yes x1 (e1 c.1) ⟨by omega, by omega⟩]
      simp [goes, first, a, c, v]
    · have f : ¬ (1 < t.size ∧ lo1 x0 ≤ bt t 1 ∧ bt t 1 ≤ hi1 x0) := by
        intro ⟨f1, f2⟩; rw [e1 (by omega)] at f2; omega
      rw [goes_no f]
      simp only [beq_iff_eq, Bool.and_eq_true, decide_eq_true_eq]
      rw [if_neg (fun q => c ⟨q.2.1, q.2.2⟩), if_neg (fun q => a2 q.1.1), if_neg (fun q => a3 q.1.1.1)]
      simp [Utf8.runeError]
  by_cases c3 : x0 < 240
  · have a : ¬ (x0 / 32 = 6) := by omega
    have a2 : x0 / 16 = 14 := by omega
    have a3 : ¬ (x0 / 8 = 30) := by omega
    have lh := lo_hi x0 x1
    simp only [more, if_neg c0, if_neg c1, if_neg c2, if_pos c3]
    rw [if_neg (show ¬ ((2 : Int) < 0) by decide)]
    simp only [show (2 : Int).toNat = 2 from rfl]
    simp only [beq_iff_eq, Bool.and_eq_true, decide_eq_true_eq]
    rw [if_neg (fun q => a q.1)]
    by_cases c : p + 1 < s.size ∧ lo1 x0 ≤ x1 ∧ x1 ≤ hi1 x0
    · rw [goes_yes x1 (e1 c.1) ⟨by omega, c.2⟩]
      by_cases cc : p + 2 < s.size ∧ x2 / 64 = 2
      · have v : x0 % 16 * 4096 + x1 % 64 * 64 + x2 % 64 ≥ 2048 ∧ Utf8.valid ((x0 % 16 * 4096 + x1 % 64 * 64 + x2 % 64 : Nat) : Int) = true := by
          simp only [Utf8.valid, Bool.or_eq_true, Bool.and_eq_true, decide_eq_true_eq]; omega
        rw [goes_yes x2 (e2 cc.1) ⟨by omega, by omega, by omega⟩]
        rw [if_pos ⟨⟨a2, c.1, by omega⟩, cc⟩, if_pos v]
        simp [goes, first]; omega
      · have f : ¬ (1 + 1 < t.size ∧ 128 ≤ bt t (1 + 1) ∧ bt t (1 + 1) ≤ 191) := by
          intro ⟨f1, f2⟩
          have := e2 (by omega)
          rw [show 1 + 1 = 2 from rfl, this] at f2; omega
        rw [goes_no f, if_neg (fun q => cc q.2), if_neg (fun q => a3 q.1.1.1)]
        simp [Utf8.runeError]
    · have f : ¬ (1 < t.size ∧ lo1 x0 ≤ bt t 1 ∧ bt t 1 ≤ hi1 x0) := by
        intro ⟨f1, f2⟩; rw [e1 (by omega)] at f2; exact c ⟨by omega, f2⟩
      rw [goes_no f]
      by_cases cc : (x0 / 16 = 14 ∧ p + 1 < s.size ∧ x1 / 64 = 2) ∧ p + 2 < s.size ∧ x2 / 64 = 2
      · have v : ¬ (x0 % 16 * 4096 + x1 % 64 * 64 + x2 % 64 ≥ 2048 ∧ Utf8.valid ((x0 % 16 * 4096 + x1 % 64 * 64 + x2 % 64 : Nat) : Int) = true) := by
          simp only [Utf8.valid, Bool.or_eq_true, Bool.and_eq_true, decide_eq_true_eq]; omega
        rw [if_pos cc, if_neg v]
        simp [Utf8.runeError]
      · rw [if_neg cc, if_neg (fun q => a3 q.1.1.1)]
        simp [Utf8.runeError]
  by_cases c4 : x0 < 245
  · have a : ¬ (x0 / 32 = 6) := by omega
    have a2 : ¬ (x0 / 16 = 14) := by omega
    have a3 : x0 / 8 = 30 := by omega
    have lh := lo_hi x0 x1
    simp only [more, if_neg c0, if_neg c1, if_neg c2, if_neg c3, if_pos c4]
    rw [if_neg (show ¬ ((3 : Int) < 0) by decide)]
    simp only [show (3 : Int).toNat = 3 from rfl]
    simp only [beq_iff_eq, Bool.and_eq_true, decide_eq_true_eq]
    rw [if_neg (fun q => a q.1), if_neg (fun q => a2 q.1.1)]
    by_cases c : p + 1 < s.size ∧ lo1 x0 ≤ x1 ∧ x1 ≤ hi1 x0
    · rw [goes_yes x1 (e1 c.1) ⟨by omega, c.2⟩]
      by_cases cc : p + 2 < s.size ∧ x2 / 64 = 2
      · rw [goes_yes x2 (e2 cc.1) ⟨by omega, by omega, by omega⟩]
        by_cases c5 : p + 3 < s.size ∧ x3 / 64 = 2
        · have v : x0 % 8 * 262144 + x1 % 64 * 4096 + x2 % 64 * 64 + x3 % 64 ≥ 65536 ∧ Utf8.valid ((x0 % 8 * 262144 + x1 % 64 * 4096 + x2 % 64 * 64 + x3 % 64 : Nat) : Int) = true := by
            simp only [Utf8.valid, Bool.or_eq_true, Bool.and_eq_true, decide_eq_true_eq]; omega
          rw [goes_yes x3 (e3 c5.1) ⟨by omega, by omega, by omega⟩]
          rw [if_pos ⟨⟨⟨a3, c.1, by omega⟩, cc⟩, c5⟩, if_pos v]
          simp [goes, first]; omega
        · have f : ¬ (1 + 1 + 1 < t.size ∧ 128 ≤ bt t (1 + 1 + 1) ∧ bt t (1 + 1 + 1) ≤ 191) := by
            intro ⟨f1, f2⟩
            have := e3 (by omega)
            rw [show 1 + 1 + 1 = 3 from rfl, this] at f2; omega
          rw [goes_no f, if_neg (fun q => c5 q.2)]
          simp [Utf8.runeError]
      · have f : ¬ (1 + 1 < t.size ∧ 128 ≤ bt t (1 + 1) ∧ bt t (1 + 1) ≤ 191) := by
          intro ⟨f1, f2⟩
          have := e2 (by omega)
          rw [show 1 + 1 = 2 from rfl, this] at f2; omega
        rw [goes_no f, if_neg (fun q => cc q.1.2)]
        simp [Utf8.runeError]
    · have f : ¬ (1 < t.size ∧ lo1 x0 ≤ bt t 1 ∧ bt t 1 ≤ hi1 x0) := by
        intro ⟨f1, f2⟩; rw [e1 (by omega)] at f2; exact c ⟨by omega, f2⟩
      rw [goes_no f]
      by_cases cc : ((x0 / 8 = 30 ∧ p + 1 < s.size ∧ x1 / 64 = 2) ∧ p + 2 < s.size ∧ x2 / 64 = 2) ∧ p + 3 < s.size ∧ x3 / 64 = 2
      · have v : ¬ (x0 % 8 * 262144 + x1 % 64 * 4096 + x2 % 64 * 64 + x3 % 64 ≥ 65536 ∧ Utf8.valid ((x0 % 8 * 262144 + x1 % 64 * 4096 + x2 % 64 * 64 + x3 % 64 : Nat) : Int) = true) := by
          simp only [Utf8.valid, Bool.or_eq_true, Bool.and_eq_true, decide_eq_true_eq]; omega
        rw [if_pos cc, if_neg v]
        simp [Utf8.runeError]
      · rw [if_neg cc]
        simp [Utf8.runeError]
  · have a : ¬ (x0 / 32 = 6) := by omega
    have a2 : ¬ (x0 / 16 = 14) := by omega
    simp only [more, if_neg c0, if_neg c1, if_neg c2, if_neg c3, if_neg c4]
    rw [if_pos (show ((-1 : Int) < 0) by decide)]
    simp only [beq_iff_eq, Bool.and_eq_true, decide_eq_true_eq]
    rw [if_neg (fun q => a q.1), if_neg (fun q => a2 q.1.1)]
    by_cases cc : ((x0 / 8 = 30 ∧ p + 1 < s.size ∧ x1 / 64 = 2) ∧ p + 2 < s.size ∧ x2 / 64 = 2) ∧ p + 3 < s.size ∧ x3 / 64 = 2
    · have v : ¬ (x0 % 8 * 262144 + x1 % 64 * 4096 + x2 % 64 * 64 + x3 % 64 ≥ 65536 ∧ Utf8.valid ((x0 % 8 * 262144 + x1 % 64 * 4096 + x2 % 64 * 64 + x3 % 64 : Nat) : Int) = true) := by
        simp only [Utf8.valid, Bool.or_eq_true, Bool.and_eq_true, decide_eq_true_eq]; omega
      rw [if_pos cc, if_neg v]
      simp [Utf8.runeError]
    · rw [if_neg cc]
      simp [Utf8.runeError]

/-- Of a sequence that breaks off the bytes behind the first one are further bytes. -/
theorem goes_cont (t : ByteArray) (m : Nat) : ∀ f k lo hi r, 128 ≤ lo → hi ≤ 191 → 1 ≤ k → (∀ j, 1 ≤ j → j < k → 128 ≤ bt t j ∧ bt t j ≤ 191) →
    (goes t m f k lo hi r).2.2 = false → ∀ j, 1 ≤ j → j < (goes t m f k lo hi r).2.1 → 128 ≤ bt t j ∧ bt t j ≤ 191 := by
  intro f
  induction f with
  | zero => intro k lo hi r _ _ _ _ h; simp [goes] at h
  | succ f ih =>
    intro k lo hi r hlo hhi hk hj h
    simp only [goes] at h ⊢
    split
    · rename_i c
      rw [if_pos c] at h
      refine ih (k + 1) 128 191 _ (by omega) (by omega) (by omega) ?_ h
      intro j j1 j2
      by_cases e : j = k
      · subst e; omega
      · exact hj j j1 (by omega)
    · exact hj

theorem one_cont (t : ByteArray) (h : (one t).2.2 = false) : ∀ j, 1 ≤ j → j < (one t).2.1 → 128 ≤ bt t j ∧ bt t j ≤ 191 := by
  unfold one at h ⊢
  split
  · intro j j1 j2; simp at j2; omega
  · rename_i c
    rw [if_neg c] at h
    refine goes_cont t _ _ _ _ _ _ ?_ ?_ (Nat.le_refl _) (fun j j1 j2 => by omega) h
    · unfold lo1; repeat' split
      all_goals omega
    · unfold hi1; repeat' split
      all_goals omega

/-- A further byte by itself is read as one byte. -/
theorem decode_cont (s : ByteArray) (p : Nat) (h : p < s.size) (h1 : 128 ≤ bt s p) (h2 : bt s p ≤ 191) : (Utf8.decode s p).2 = 1 := by
  rw [(decode_one s p h).2]
  have e0 := bt_extract s p 0 (by omega)
  have m : more (bt (s.extract p s.size) 0) = -1 := by
    rw [e0, Nat.add_zero]; unfold more; repeat' split
    all_goals omega
  have o : one (s.extract p s.size) = (65533, 1, false) := by unfold one; rw [m]; rfl
  rw [o]; rfl

theorem goes_bd (t : ByteArray) (m : Nat) : ∀ f k lo hi r, (goes t m f k lo hi r).1 = 65533 ∨ (0 ≤ (goes t m f k lo hi r).1 ∧ (goes t m f k lo hi r).1 < ((r + 1) * 64 ^ f : Nat)) := by
  intro f
  induction f with
  | zero => intro k lo hi r; simp [goes]; omega
  | succ f ih =>
    intro k lo hi r
    simp only [goes]
    split
    · rcases ih (k + 1) 128 191 (r * 64 + bt t k % 64) with h | h
      · exact .inl h
      · refine .inr ⟨h.1, Int.lt_of_lt_of_le h.2 ?_⟩
        have : (r * 64 + bt t k % 64 + 1) * 64 ^ f ≤ (r + 1) * 64 ^ (f + 1) := by
          rw [Nat.pow_succ, Nat.mul_comm (64 ^ f) 64, ← Nat.mul_assoc]
          exact Nat.mul_le_mul_right _ (by omega)
        exact_mod_cast this
    · exact .inl rfl

end Go.Proofs.YtcmanfcgoapjjagDoor.Dec

namespace Go.Proofs.YtcmanfcgoapjjagDoor
open Go.RowKit

theorem ret3 {a a' b b' c c' : Int} (h1 : a = a') (h2 : b = b') (h3 : c = c') :
    Ending.returned (.tuple #[.int .i64 a, .int .u8 b, .int .u8 c]) = .returned (.tuple #[.int .i64 a', .int .u8 b', .int .u8 c']) := by rw [h1, h2, h3]

set_option maxHeartbeats 1000000 in
theorem form_any (b : Nat) (hb : b < 256) (w : World) :
    Calls Tryd.prog 88 #[.int .u8 (b : Int)] w fun e w' => e = .returned (.tuple #[.int .i64 (Dec.more b + 1), .int .u8 (Dec.lo1 b : Int), .int .u8 (Dec.hi1 b : Int)]) ∧ w' = w := by
  go_enter Tryd.func88, Tryd.ntmps88
  go_wp2
  all_goals
    go_ret3
    refine ⟨ret3 ?_ ?_ ?_, rfl⟩
    all_goals
      try simp only [beq_iff_eq, beq_eq_false_iff_ne, ne_eq] at *
      simp only [Dec.more, Dec.lo1, Dec.hi1]
      repeat' split
      all_goals omega

set_option maxRecDepth 100000 in
set_option maxHeartbeats 1000000 in
theorem lead_any (b : Nat) (hb : b < 256) (w : World) :
    Calls Tryd.prog 54 #[.int .u8 (b : Int)] w fun e w' => e = .returned (.tuple #[.int .i64 (Dec.more b), .int .u8 (Dec.lo0 b : Int), .int .u8 (Dec.hi0 b : Int)]) ∧ w' = w := by
  go_enter Tryd.func54, Tryd.ntmps54
  go_wp2
  all_goals
    go_ret3
    refine ⟨ret3 ?_ ?_ ?_, rfl⟩
    all_goals
      try simp only [beq_iff_eq, beq_eq_false_iff_ne, ne_eq] at *
      simp only [Dec.more, Dec.lo0, Dec.hi0, Dec.lo1, Dec.hi1]
      repeat' split
      all_goals omega
end Go.Proofs.YtcmanfcgoapjjagDoor

namespace Go.Proofs.YtcmanfcgoapjjagDoor

/-- A text's runes, taken apart. -/
def rn4 (s : ByteArray) : List Int := nD (Dec.decT s.size s).1
/-- Whether a text is one of chapter 4's. -/
def ok4 (s : ByteArray) : Bool := decide (s.size ≤ 200 ∧ (rn4 s).length ≤ 200)
end Go.Proofs.YtcmanfcgoapjjagDoor

namespace Go.Proofs.YtcmanfcgoapjjagDoor
open Go.RowKit

theorem okD_eq {zs : List Int} (h : okR zs = true) : okD zs = decide ((nD zs).length ≤ 200) := by
  unfold okD
  rw [h, Bool.true_and, nD_len]

set_option maxRecDepth 100000 in
set_option maxHeartbeats 2000000 in
theorem implD_any {w : World} {B : Nat} {v : Value} {zs : List Int} (_hz : zs.length ≤ 1048576) (hI : Ints w B v zs) (hm : Held w 0 marksF) (hc : Held w 2 capF) (ho : Held w 3 othF) :
    Calls Tryd.prog 60 #[v] w fun e w' => ∃ v', e = .returned (.tuple #[v', .bool (okD zs)]) ∧ Ints w' w.heap.size v' (ansD zs) ∧ Below w.heap.size w w' := by
  have F := fullD_any hI hm hc ho
  have hlen := fullA_len zs
  unfold ansD
  clear hI hm hc ho
  cases hok : okR zs
  · rw [hok] at F
    rw [okD_no hok, if_neg (by simp)]
    clear hok hlen
    go_enter Tryd.func60, Tryd.ntmps60
    go_wp2_with fail
    refine F.mono ?_
    rintro e w1 ⟨v1, rfl, h1, h2⟩
    clear F
    go_wp2
    go_ret2
    exact ⟨_, rfl, ⟨rfl, .inl ⟨rfl, rfl⟩⟩, h2⟩
  · rw [hok] at F
    unfold fullA at F hlen
    rw [okD_eq hok]
    rw [hok, if_pos rfl] at F hlen
    clear hok
    generalize nD zs = ds at *
    by_cases hl : ds.length ≤ 200
    · have hl2 : ¬ (200 : Int) < (ds.length : Int) := by omega
      rw [decide_eq_true hl, if_pos rfl]
      go_enter Tryd.func60, Tryd.ntmps60
      go_wp2_with fail
      refine F.mono ?_
      rintro e w1 ⟨v1, rfl, h1, h2⟩
      clear F
      rcases h1.form with ⟨rfl, rfl⟩ | ⟨g, cap, rfl, _, _⟩
      · go_wp2
        go_ret2
        exact ⟨_, rfl, h1, h2⟩
      · go_wp2
        go_ret2
        exact ⟨_, rfl, h1, h2⟩
    · have hl2 : (200 : Int) < (ds.length : Int) := by omega
      rw [decide_eq_false hl, if_neg (by simp)]
      go_enter Tryd.func60, Tryd.ntmps60
      go_wp2_with fail
      refine F.mono ?_
      rintro e w1 ⟨v1, rfl, h1, h2⟩
      clear F
      rcases h1.form with ⟨rfl, rfl⟩ | ⟨g, cap, rfl, _, _⟩
      · exact absurd (by simp) hl
      · go_wp2
        go_ret2
        exact ⟨_, rfl, ⟨rfl, .inl ⟨rfl, rfl⟩⟩, h2⟩
end Go.Proofs.YtcmanfcgoapjjagDoor
