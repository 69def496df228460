/- Texts of mine laid together: IBegin, SpecD, Comp, PTog, STog, SComp, SNormC, DrewD, WKeys. -/
import Derived.Test.YtanfebccenfffaaGreatDoorMK7
import Derived.Test.YtanfebccenfffaaGreatDoorMK8
import Derived.Test.YtanfebccenfffaaGreatDoorPBeg
import Derived.Test.YtanfebccenfffaaGreatDoorDecode
import Derived.WalkKit
import Derived.Test.YtanfebccenfffaaGreatDoorSD
import Derived.Test.YtanfebccenfffaaGreatDoorMK2
import Derived.Test.YtanfebccenfffaaGreatDoorNorm2
import Derived.Test.YtanfebccenfffaaGreatDoorProg
import Derived.Test.YtanfebccenfffaaGreatDoorApart2
import Derived.Test.YtanfebccenfffaaGreatDoorMK1
import Derived.Test.YtanfebccenfffaaGreatDoorEnts
import Derived.Test.YtanfebccenfffaaGreatDoorMK5
namespace Go.Proofs.YtanfebccenfffaaGreatDoor
open Go.RowKit

set_option maxRecDepth 100000 in
set_option maxHeartbeats 4000000 in
theorem implBegin_any {w : World} {B : Nat} {ve : Value} {es : List Ent} {sh : Bool} {lv : Int} (x : ByteArray) (hx : x.size ≤ 1048576) (y : ByteArray) (hy : y.size ≤ 1048576) (hE : Ents w B ve es) (hr : ∀ e ∈ es, e.runes.length ≤ 1048576) (ht : Tabs3 w) :
    Calls Tryz.prog 8 #[.agg #[ve, .bool sh, .int .i64 lv], .string x, .string y] w fun e w' => e = .returned (.tuple #[.bool (begT es sh lv x y), .bool (okE es lv x && okE es lv y)]) ∧ Below w.heap.size w w' := by
  obtain ⟨va, vc, rfl⟩ := (show ∃ a c, ve = .slice a es.length c by
    rcases hE.form with ⟨rfl, rfl⟩ | ⟨_, _, rfl, _, _, _, _⟩
    · exact ⟨_, _, rfl⟩
    · exact ⟨_, _, rfl⟩)
  have hbx : Below w.heap.size w (w.alloc (.cells #[.slice va es.length vc, .bool sh, .int .i64 lv] 25)) := (Below.refl _ _).alloc (Nat.le_refl _) _
  have hbox : BoxR4 (w.alloc (.cells #[.slice va es.length vc, .bool sh, .int .i64 lv] 25)) w.heap.size (.slice va es.length vc) sh lv := heap_alloc_new w _
  have hlb : w.heap.size < (w.alloc (.cells #[.slice va es.length vc, .bool sh, .int .i64 lv] 25)).heap.size := by simp
  have KX := implFirsts_any (sh := sh) (lv := lv) x hx (hE.below hbx) hr (ht.below hbx)
  have KY := fun (u : World) (hu : Below w.heap.size w u) => implFirsts_any (sh := sh) (lv := lv) y hy (hE.below hu) hr (ht.below hu)
  have HBX : Hid (Below _ _ _) := hbx
  have HBO : Hid (BoxR4 _ _ _ _ _) := hbox
  have hfa := firsT_len es sh lv x
  have hfb := firsT_len es sh lv y
  have hra := firsT_rng es sh lv x
  have hrb := firsT_rng es sh lv y
  unfold begT
  generalize firsT es sh lv x = fa at *
  generalize firsT es sh lv y = fb at *
  generalize okE es lv x = oa at *
  generalize okE es lv y = ob at *
  clear hE hr hbx hbox ht
  cases oa
  · rw [Bool.false_and, if_neg (by simp)]
    all_goals
      go_enter Tryz.func8, Tryz.ntmps8
      go_wp2_with fail
      refine KX.mono ?_
      rintro e w1 ⟨v1, rfl, i1, b1⟩
      have hb1 := HBX.out.trans (b1.mono HBX.out.size)
      have K2 := KY _ hb1
      obtain ⟨c0, c1, c2⟩ := (HBO.out.below b1 hlb).cells
      have H1 : Hid (Ints _ _ _ _) := i1
      obtain ⟨a1, k1, rfl⟩ := ints_form i1
      clear KX KY b1 i1
      go_wp2_with fail
      refine K2.mono ?_
      rintro e w2 ⟨v2, rfl, i2, b2⟩
      have hb2 := hb1.trans (b2.mono hb1.size)
      have j1 := H1.out.below b2
      obtain ⟨a2, k2, rfl⟩ := ints_form i2
      clear K2 c0 c1 c2 b2 hb1 H1
      clear i2 j1
      go_wp2
      go_ret2
      exact ⟨rfl, hb2⟩
  · cases ob
    · rw [Bool.and_false, if_neg (by simp)]
      go_enter Tryz.func8, Tryz.ntmps8
      go_wp2_with fail
      refine KX.mono ?_
      rintro e w1 ⟨v1, rfl, i1, b1⟩
      have hb1 := HBX.out.trans (b1.mono HBX.out.size)
      have K2 := KY _ hb1
      obtain ⟨c0, c1, c2⟩ := (HBO.out.below b1 hlb).cells
      have H1 : Hid (Ints _ _ _ _) := i1
      obtain ⟨a1, k1, rfl⟩ := ints_form i1
      clear KX KY b1 i1
      go_wp2_with fail
      refine K2.mono ?_
      rintro e w2 ⟨v2, rfl, i2, b2⟩
      have hb2 := hb1.trans (b2.mono hb1.size)
      have j1 := H1.out.below b2
      obtain ⟨a2, k2, rfl⟩ := ints_form i2
      clear K2 c0 c1 c2 b2 hb1 H1
      clear i2 j1
      go_wp2
      go_ret2
      exact ⟨rfl, hb2⟩
    · rw [Bool.and_true, if_pos rfl]
      go_enter Tryz.func8, Tryz.ntmps8
      go_wp2_with fail
      refine KX.mono ?_
      rintro e w1 ⟨v1, rfl, i1, b1⟩
      have hb1 := HBX.out.trans (b1.mono HBX.out.size)
      have K2 := KY _ hb1
      obtain ⟨c0, c1, c2⟩ := (HBO.out.below b1 hlb).cells
      have H1 : Hid (Ints _ _ _ _) := i1
      obtain ⟨a1, k1, rfl⟩ := ints_form i1
      clear KX KY b1 i1
      go_wp2_with fail
      refine K2.mono ?_
      rintro e w2 ⟨v2, rfl, i2, b2⟩
      have hb2 := hb1.trans (b2.mono hb1.size)
      have j1 := H1.out.below b2
      obtain ⟨a2, k2, rfl⟩ := ints_form i2
      clear K2 c0 c1 c2 b2 hb1 H1
      have AL := alike_any (by omega) (by omega) hra hrb j1 i2
      clear i2 j1
      go_wp2_with fail
      refine AL.mono ?_
      rintro e w3 ⟨rfl, n3, hw3⟩
      have hb3 : Below w.heap.size w w3 := by rw [hw3]; exact below_drewN hb2 n3
      clear AL hw3
      have HD : Hid (((alike fa fb : Int) == (fb.length : Int)) = decide (alike fa fb = fb.length)) := by
        show _ = _
        by_cases h : alike fa fb = fb.length
        · rw [h]; simp
        · rw [decide_eq_false h]; simp; omega
      go_wp2
      go_ret2
      rw [begL_alike, ← HD.out]
      exact ⟨rfl, hb3⟩
end Go.Proofs.YtanfebccenfffaaGreatDoor

namespace Go.Proofs.YtanfebccenfffaaGreatDoor
open Go.RowKit

set_option maxRecDepth 100000 in
set_option maxHeartbeats 1000000 in
theorem specDecode_any (s : ByteArray) (w : World) (hs : s.size ≤ 200) :
    Calls Tryz.prog 9 #[.string s] w fun e w' => ∃ v, e = .returned (.tuple #[v, .bool true]) ∧ Ints w' w.heap.size v (Dec.decT s.size s).1 ∧ Below w.heap.size w w' := by
  have D := fun w => l1Decode_any s w (by omega)
  go_enter Tryz.func9, Tryz.ntmps9
  go_wp2_with (go_at_call 19; refine (D _).mono ?_; rintro e w' ⟨v, rfl, hI, hb⟩)
  go_ret2
  exact ⟨_, rfl, hI, hb⟩

set_option maxRecDepth 100000 in
set_option maxHeartbeats 1000000 in
theorem specDecode_no (s : ByteArray) (w : World) (hs : 200 < s.size) (hm : s.size ≤ 1048576) :
    Calls Tryz.prog 9 #[.string s] w fun e w' => e = .returned (.tuple #[.slice none 0 0, .bool false]) ∧ w' = w := by
  go_enter Tryz.func9, Tryz.ntmps9
  go_wp2
  go_ret2
  exact ⟨rfl, rfl⟩
end Go.Proofs.YtanfebccenfffaaGreatDoor

namespace Go.Proofs.YtanfebccenfffaaGreatDoor
open Go.RowKit

theorem step_no (s : List Int × Nat) (r : Int) : stepBy false s r = push s r := rfl
theorem step_some {s : List Int × Nat} {r x : Int} (h : tog (at0 s.1 (s.2 - 1)) r = some x) : stepBy true s r = (s.1.set (s.2 - 1) x, s.2) := by
  unfold stepBy; rw [if_pos rfl, h]
theorem step_none {s : List Int × Nat} {r : Int} (h : tog (at0 s.1 (s.2 - 1)) r = none) : stepBy true s r = push s r := by
  unfold stepBy; rw [if_pos rfl, h]

/-- So far put together: the first k runes. -/
def CRel (st : Nat → List Int × Nat) (w : World) (n : Nat) (out last i : Value) (wr : World) : Prop :=
  ∃ k : Nat, k ≤ n ∧ i = .int .i64 k ∧ last = .int .i64 (((st k).2 : Int) - 1) ∧ Ints wr w.heap.size out (st k).1 ∧ Below w.heap.size w wr

theorem crel_start {st : Nat → List Int × Nat} {w w3 : World} {n k N : Nat} {os : List Int} {q : Nat} {r : Int} {g cap : Nat} (hk : k < n) (hs : st (k + 1) = push (os, q) r) (hr : cls r = 0) (hN : os.length = N)
    (hown : w3.ownsRow w.heap.size 3 1 (.slice (some ⟨g, 0, none⟩) (N + 1) cap) (N + 1) (os.map (Value.int .i64) ++ [.int .i64 r])) (hb : Below w.heap.size w w3) :
    CRel st w n (.slice (some ⟨g, 0, none⟩) (N + 1) cap) (.int .i64 (N : Int)) (.int .i64 ((k : Int) + 1)) w3 := by
  subst hN
  refine ⟨k + 1, hk, by go_num, ?_, ?_, hb⟩
  · rw [hs]; simp only [push, if_pos hr]; congr 1; omega
  · rw [hs]; exact Ints.snoc hown

theorem crel_mark {st : Nat → List Int × Nat} {w w3 : World} {n k N : Nat} {os : List Int} {q : Nat} {r : Int} {g cap : Nat} (hk : k < n) (hs : st (k + 1) = push (os, q) r) (hr : ¬ cls r = 0) (hN : os.length = N)
    (hown : w3.ownsRow w.heap.size 3 1 (.slice (some ⟨g, 0, none⟩) (N + 1) cap) (N + 1) (os.map (Value.int .i64) ++ [.int .i64 r])) (hb : Below w.heap.size w w3) {z : Int} (hz : z = (q : Int) - 1) :
    CRel st w n (.slice (some ⟨g, 0, none⟩) (N + 1) cap) (.int .i64 z) (.int .i64 ((k : Int) + 1)) w3 := by
  subst hN
  subst hz
  refine ⟨k + 1, hk, by go_num, ?_, ?_, hb⟩
  · rw [hs]; simp only [push, if_neg hr]
  · rw [hs]; exact Ints.snoc hown

theorem crel_store {st : Nat → List Int × Nat} {w w2 : World} {n k N p : Nat} {os : List Int} {x : Int} {g cap : Nat} (hk : k < n) (hs : st (k + 1) = (os.set p x, p + 1)) (hN : os.length = N)
    (ho : Ints w2 w.heap.size (.slice (some ⟨g, 0, none⟩) N cap) os) (hb : Below w.heap.size w w2) :
    CRel st w n (.slice (some ⟨g, 0, none⟩) N cap) (.int .i64 (p : Int)) (.int .i64 ((k : Int) + 1)) (w2.setCell ⟨g, p, none⟩ (.int .i64 x)) := by
  subst hN
  have h1 := World.ownsRow.stored ho p (.int .i64 x)
  refine ⟨k + 1, hk, by go_num, ?_, ?_, Below.grown hb h1.2 hb.size (fun j hj => by cases hj; exact (World.ownsRow.lt ho g rfl).1)⟩
  · rw [hs]; simp only; congr 1; omega
  · rw [hs]
    have h2 := h1.1
    unfold Ints
    rw [List.length_set, List.map_set]
    exact h2

theorem grown_below {w wr w3 : World} {out : Value} {os : List Int} (ho : Ints wr w.heap.size out os) (hb : Below w.heap.size w wr) (o : Obj) (hgr : (wr.alloc o).grownBy w3 out.ownBlock) : Below w.heap.size w w3 :=
  Below.grown (hb.alloc hb.size _) hgr (hb.alloc hb.size _).size (fun j hj => (World.ownsRow.lt ho j hj).1)

theorem at0_mem {zs : List Int} {k : Nat} {x : Int} (h : zs[k]? = some x) : at0 zs k = x := by simp [at0, h]
end Go.Proofs.YtanfebccenfffaaGreatDoor

namespace Go.Proofs.YtanfebccenfffaaGreatDoor

def togRes (o : Option Int) : Value := .tuple #[.int .i64 (o.getD 0), .bool o.isSome]
def byParts (x y : Int) : List Int → Bool := fun t => at0 t 1 == x && at0 t 2 == y
theorem byParts_yes {x y a b c : Int} (h1 : b = x) (h2 : c = y) : byParts x y [a, b, c] = true := by simp [byParts, at0, h1, h2]
theorem byParts_no {x y a b c : Int} (h : ¬ (b = x ∧ c = y)) : byParts x y [a, b, c] = false := by
  simp only [byParts, at0]; simp; intro h1 h2; exact h ⟨h1, h2⟩

theorem ret_t {o : Option Int} {a : Int} (h : o = some a) : Ending.returned (.tuple #[.int .i64 a, .bool true]) = .returned (togRes o) := by rw [h]; rfl
theorem ret_t0 {o : Option Int} (h : o = none) : Ending.returned (.tuple #[.int .i64 0, .bool false]) = .returned (togRes o) := by rw [h]; rfl

def openS (r : Int) : Prop := 44032 ≤ r ∧ r ≤ 55203 ∧ (r - 44032) % 28 = 0

def sylT (a b : Int) : Option Int :=
  if 4352 ≤ a ∧ a ≤ 4370 ∧ 4449 ≤ b ∧ b ≤ 4469 then some (44032 + (a - 4352) * 588 + (b - 4449) * 28)
  else if (44032 ≤ a ∧ a ≤ 55203) ∧ (a - 44032) % 28 = 0 ∧ 4520 ≤ b ∧ b ≤ 4546 then some (a + b - 4519)
  else none

theorem tog_eq (a b : Int) : tog a b = match sylT a b with | some x => some x | none => (tabI.find? (byParts a b)).map (fun t => at0 t 0) := by
  unfold tog sylT
  split
  · rfl
  · split
    · rfl
    · rw [show byParts a b = fun t => at0 t 1 == a && at0 t 2 == b from rfl, tabI_parts]

theorem sylT_none {a b : Int} (h1 : ¬ (4352 ≤ a ∧ a ≤ 4370 ∧ 4449 ≤ b ∧ b ≤ 4469)) (h2 : ¬ (openS a ∧ 4520 ≤ b ∧ b ≤ 4546)) : sylT a b = none := by
  unfold sylT
  rw [if_neg h1, if_neg (fun h => h2 ⟨⟨h.1.1, h.1.2, h.2.1⟩, h.2.2⟩)]
end Go.Proofs.YtanfebccenfffaaGreatDoor

namespace Go.Proofs.YtanfebccenfffaaGreatDoor
open Go.RowKit

/-- No row of the table ahead of place k is the one looked for. -/
def NoneT (p : List Int → Bool) (k : Nat) : Prop := ∀ j t, j < k → tab[j]? = some t → p t = false

theorem NoneT.succ {p : List Int → Bool} {k : Nat} {t : List Int} (h : NoneT p k) (ht : tab[k]? = some t) (hp : p t = false) : NoneT p (k + 1) := by
  intro j u hj hu
  by_cases e : j = k
  · subst e; rw [ht] at hu; cases hu; exact hp
  · exact h j u (by omega) hu

theorem findT_at {p : List Int → Bool} {k : Nat} {t : List Int} (h : NoneT p k) (ht : tab[k]? = some t) (hp : p t = true) : tab.find? p = some t := by
  rw [List.find?_eq_some_iff_getElem]
  obtain ⟨hk, e⟩ := List.getElem?_eq_some_iff.1 ht
  refine ⟨hp, k, hk, e, fun j hj => ?_⟩
  have := h j tab[j] hj (List.getElem?_eq_getElem (by omega))
  simpa using this

theorem findT_no {p : List Int → Bool} {k : Nat} (h : NoneT p k) (hk : 57 ≤ k) : tab.find? p = none := by
  rw [List.find?_eq_none]
  intro t ht
  obtain ⟨j, hj⟩ := List.mem_iff_getElem?.1 ht
  have h1 := (List.getElem?_eq_some_iff.1 hj).1
  have h2 := tab_len
  simpa using h j t (by omega) hj

theorem tog_tab {a b : Int} (h : sylT a b = none) : tog a b = (tab.find? (byParts a b)).map (fun t => at0 t 0) := by
  rw [tog_eq, h, show byParts a b = fun t => at0 t 1 == a && at0 t 2 == b from rfl, tabI_parts]

theorem tog_syl {a b x : Int} (h : sylT a b = some x) : tog a b = some x := by rw [tog_eq, h]

set_option maxRecDepth 100000 in
set_option maxHeartbeats 4000000 in
theorem specTog_any (a b : Int) (w : World) :
    Calls Tryz.prog 47 #[.int .i64 a, .int .i64 b] w fun e w' => e = .returned (togRes (tog a b)) ∧ Below w.heap.size w w' := by
  have T := fun w => table_any w
  by_cases p : 4352 ≤ a ∧ a ≤ 4370
  · have A := fun w => l1In_yes a 4352 4370 p w
    by_cases q : 4449 ≤ b ∧ b ≤ 4469
    · have B := fun w => l1In_yes b 4449 4469 q w
      have HT : Hid (tog a b = some (44032 + (a - 4352) * 588 + (b - 4449) * 28)) := tog_syl (by unfold sylT; rw [if_pos ⟨p.1, p.2, q.1, q.2⟩])
      obtain ⟨p1, p2⟩ := p
      obtain ⟨q1, q2⟩ := q
      clear T
      go_enter Tryz.func47, Tryz.ntmps47
      go_wp2_with fail
      refine (A _).mono ?_
      rintro e w1 ⟨rfl, rfl⟩
      go_wp2_with fail
      refine (B _).mono ?_
      rintro e w1 ⟨rfl, rfl⟩
      go_wp2
      go_ret2
      exact ⟨ret_t HT.out, Below.refl _ _⟩
    · have B := fun w => l1In_no b 4449 4469 q w
      have C := fun w => l1In_no a 44032 55203 (fun h => by omega) w
      have HS : Hid _ := tog_tab (a := a) (b := b) (sylT_none (fun h => q h.2.2) (fun h => by have := h.1.1; omega))
      clear p q
      go_enter Tryz.func47, Tryz.ntmps47
      go_wp2_with fail
      refine (A _).mono ?_
      rintro e w1 ⟨rfl, rfl⟩
      go_wp2_with fail
      refine (B _).mono ?_
      rintro e w1 ⟨rfl, rfl⟩
      go_wp2_with fail
      refine (C _).mono ?_
      rintro e w1 ⟨rfl, rfl⟩
      clear A B C
      go_wp2_with fail
      refine (T _).mono ?_
      rintro e w2 ⟨v, rfl, ⟨vs, hown, hin⟩, hb⟩
      rw [tab_len] at hown
      obtain ⟨g, cap, rfl⟩ : ∃ g cap, v = .slice (some ⟨g, 0, none⟩) 57 cap := by
        rcases hown.2 with ⟨_, h0⟩ | ⟨g, cap, _, h, _⟩
        · omega
        · exact ⟨g, cap, h⟩
      clear T
      go_wp2_with fail
      go_loop [40] (fun i => ∃ k : Nat, k ≤ 57 ∧ i = .int .i64 k ∧ Hid (NoneT (byParts a b) k)) (fun i => 57 - (intOf i).toNat)
      case atStart => exact ⟨0, Nat.zero_le _, rfl, fun j t hj => by omega⟩
      case round =>
        obtain ⟨k, hk, rfl, HN⟩ := hrel
        by_cases hlt : k < 57
        · obtain ⟨t, ht⟩ : ∃ t, tab[k]? = some t := ⟨_, List.getElem?_eq_getElem (by rw [tab_len]; exact hlt)⟩
          obtain ⟨x, hx, hI⟩ := hin k t ht
          have hl3 := tab_three t (List.mem_of_getElem? ht)
          have c0 := hown.cellAt k (by omega)
          rw [hx] at c0
          obtain ⟨x0, x1, x2, rfl⟩ : ∃ x0 x1 x2, t = [x0, x1, x2] := by
            match t, hl3 with
            | [x0, x1, x2], _ => exact ⟨x0, x1, x2, rfl⟩
          rcases hI.form with ⟨_, h0⟩ | ⟨h, cap', rfl, hcap, hcapm⟩
          · cases h0
          have d0 : w2.cell? ⟨h, 0, none⟩ = some (.int .i64 x0) := hI.cellAt 0 (by simp)
          have d1 : w2.cell? ⟨h, 1, none⟩ = some (.int .i64 x1) := hI.cellAt 1 (by simp)
          have d2 : w2.cell? ⟨h, 2, none⟩ = some (.int .i64 x2) := hI.cellAt 2 (by simp)
          simp only [List.length_cons, List.length_nil] at c0 hcap
          have HT : Hid _ := ht
          have hk8 : (k : Int) < 57 := by omega
          clear hin hown ht hx hI
          by_cases e : x1 = a ∧ x2 = b
          · have HF : Hid (tog a b = some x0) := by
              show _ = _
              rw [HS.out, findT_at HN.out HT.out (byParts_yes e.1 e.2)]; rfl
            have e1 : (x1 == a) = true := by simpa using e.1
            have e2 : (x2 == b) = true := by simpa using e.2
            clear e HN HT HS
            go_wp2
            go_ret2
            exact ⟨ret_t HF.out, hb⟩
          · have HN2 : Hid (NoneT (byParts a b) (k + 1)) := HN.out.succ HT.out (byParts_no e)
            clear HN HT HS
            by_cases e1 : x1 = a
            · have e2 : (x2 == b) = false := by simpa using fun h => e ⟨e1, h⟩
              have e1' : (x1 == a) = true := by simpa using e1
              clear e e1
              go_wp2
              exact ⟨⟨k + 1, by omega, by go_num, HN2⟩, by simp [intOf]; omega⟩
            · have e1' : (x1 == a) = false := by simpa using e1
              clear e e1
              go_wp2
              exact ⟨⟨k + 1, by omega, by go_num, HN2⟩, by simp [intOf]; omega⟩
        · have HF : Hid (tog a b = none) := by
            show _ = _
            rw [HS.out, findT_no HN.out (by omega)]; rfl
          clear HN HS hin hown
          go_wp2
          go_ret2
          exact ⟨ret_t0 HF.out, hb⟩
  · have A := fun w => l1In_no a 4352 4370 p w
    by_cases q : 44032 ≤ a ∧ a ≤ 55203
    · have B := fun w => l1In_yes a 44032 55203 q w
      obtain ⟨q1, q2⟩ := q
      by_cases m : (a - 44032) % 28 = 0
      · have m2 : ((a - 44032) % 28 == 0) = true := by simpa using m
        by_cases s : 4520 ≤ b ∧ b ≤ 4546
        · have C := fun w => l1In_yes b 4520 4546 s w
          have HT : Hid (tog a b = some (a + b - 4519)) := tog_syl (by unfold sylT; rw [if_neg (fun h => p ⟨h.1, h.2.1⟩), if_pos ⟨⟨q1, q2⟩, m, s⟩])
          obtain ⟨s1, s2⟩ := s
          clear T m p
          go_enter Tryz.func47, Tryz.ntmps47
          go_wp2_with fail
          refine (A _).mono ?_
          rintro e w1 ⟨rfl, rfl⟩
          go_wp2_with fail
          refine (B _).mono ?_
          rintro e w1 ⟨rfl, rfl⟩
          go_wp2_with fail
          refine (C _).mono ?_
          rintro e w1 ⟨rfl, rfl⟩
          go_wp2
          go_ret2
          exact ⟨ret_t HT.out, Below.refl _ _⟩
        · have C := fun w => l1In_no b 4520 4546 s w
          have HS : Hid _ := tog_tab (a := a) (b := b) (sylT_none (fun h => p ⟨h.1, h.2.1⟩) (fun h => s h.2))
          clear m p s
          go_enter Tryz.func47, Tryz.ntmps47
          go_wp2_with fail
          refine (A _).mono ?_
          rintro e w1 ⟨rfl, rfl⟩
          go_wp2_with fail
          refine (B _).mono ?_
          rintro e w1 ⟨rfl, rfl⟩
          go_wp2_with fail
          refine (C _).mono ?_
          rintro e w1 ⟨rfl, rfl⟩
          clear A B C
          go_wp2_with fail
          refine (T _).mono ?_
          rintro e w2 ⟨v, rfl, ⟨vs, hown, hin⟩, hb⟩
          rw [tab_len] at hown
          obtain ⟨g, cap, rfl⟩ : ∃ g cap, v = .slice (some ⟨g, 0, none⟩) 57 cap := by
            rcases hown.2 with ⟨_, h0⟩ | ⟨g, cap, _, h, _⟩
            · omega
            · exact ⟨g, cap, h⟩
          clear T
          go_wp2_with fail
          go_loop [40] (fun i => ∃ k : Nat, k ≤ 57 ∧ i = .int .i64 k ∧ Hid (NoneT (byParts a b) k)) (fun i => 57 - (intOf i).toNat)
          case atStart => exact ⟨0, Nat.zero_le _, rfl, fun j t hj => by omega⟩
          case round =>
            obtain ⟨k, hk, rfl, HN⟩ := hrel
            by_cases hlt : k < 57
            · obtain ⟨t, ht⟩ : ∃ t, tab[k]? = some t := ⟨_, List.getElem?_eq_getElem (by rw [tab_len]; exact hlt)⟩
              obtain ⟨x, hx, hI⟩ := hin k t ht
              have hl3 := tab_three t (List.mem_of_getElem? ht)
              have c0 := hown.cellAt k (by omega)
              rw [hx] at c0
              obtain ⟨x0, x1, x2, rfl⟩ : ∃ x0 x1 x2, t = [x0, x1, x2] := by
                match t, hl3 with
                | [x0, x1, x2], _ => exact ⟨x0, x1, x2, rfl⟩
              rcases hI.form with ⟨_, h0⟩ | ⟨h, cap', rfl, hcap, hcapm⟩
              · cases h0
              have d0 : w2.cell? ⟨h, 0, none⟩ = some (.int .i64 x0) := hI.cellAt 0 (by simp)
              have d1 : w2.cell? ⟨h, 1, none⟩ = some (.int .i64 x1) := hI.cellAt 1 (by simp)
              have d2 : w2.cell? ⟨h, 2, none⟩ = some (.int .i64 x2) := hI.cellAt 2 (by simp)
              simp only [List.length_cons, List.length_nil] at c0 hcap
              have HT : Hid _ := ht
              have hk8 : (k : Int) < 57 := by omega
              clear hin hown ht hx hI
              by_cases e : x1 = a ∧ x2 = b
              · have HF : Hid (tog a b = some x0) := by
                  show _ = _
                  rw [HS.out, findT_at HN.out HT.out (byParts_yes e.1 e.2)]; rfl
                have e1 : (x1 == a) = true := by simpa using e.1
                have e2 : (x2 == b) = true := by simpa using e.2
                clear e HN HT HS
                go_wp2
                go_ret2
                exact ⟨ret_t HF.out, hb⟩
              · have HN2 : Hid (NoneT (byParts a b) (k + 1)) := HN.out.succ HT.out (byParts_no e)
                clear HN HT HS
                by_cases e1 : x1 = a
                · have e2 : (x2 == b) = false := by simpa using fun h => e ⟨e1, h⟩
                  have e1' : (x1 == a) = true := by simpa using e1
                  clear e e1
                  go_wp2
                  exact ⟨⟨k + 1, by omega, by go_num, HN2⟩, by simp [intOf]; omega⟩
                · have e1' : (x1 == a) = false := by simpa using e1
                  clear e e1
                  go_wp2
                  exact ⟨⟨k + 1, by omega, by go_num, HN2⟩, by simp [intOf]; omega⟩
            · have HF : Hid (tog a b = none) := by
                show _ = _
                rw [HS.out, findT_no HN.out (by omega)]; rfl
              clear HN HS hin hown
              go_wp2
              go_ret2
              exact ⟨ret_t0 HF.out, hb⟩
      · have m2 : ((a - 44032) % 28 == 0) = false := by simpa using m
        have HS : Hid _ := tog_tab (a := a) (b := b) (sylT_none (fun h => p ⟨h.1, h.2.1⟩) (fun h => m h.1.2.2))
        clear m p
        go_enter Tryz.func47, Tryz.ntmps47
        go_wp2_with fail
        refine (A _).mono ?_
        rintro e w1 ⟨rfl, rfl⟩
        go_wp2_with fail
        refine (B _).mono ?_
        rintro e w1 ⟨rfl, rfl⟩
        clear A B
        go_wp2_with fail
        refine (T _).mono ?_
        rintro e w2 ⟨v, rfl, ⟨vs, hown, hin⟩, hb⟩
        rw [tab_len] at hown
        obtain ⟨g, cap, rfl⟩ : ∃ g cap, v = .slice (some ⟨g, 0, none⟩) 57 cap := by
          rcases hown.2 with ⟨_, h0⟩ | ⟨g, cap, _, h, _⟩
          · omega
          · exact ⟨g, cap, h⟩
        clear T
        go_wp2_with fail
        go_loop [40] (fun i => ∃ k : Nat, k ≤ 57 ∧ i = .int .i64 k ∧ Hid (NoneT (byParts a b) k)) (fun i => 57 - (intOf i).toNat)
        case atStart => exact ⟨0, Nat.zero_le _, rfl, fun j t hj => by omega⟩
        case round =>
          obtain ⟨k, hk, rfl, HN⟩ := hrel
          by_cases hlt : k < 57
          · obtain ⟨t, ht⟩ : ∃ t, tab[k]? = some t := ⟨_, List.getElem?_eq_getElem (by rw [tab_len]; exact hlt)⟩
            obtain ⟨x, hx, hI⟩ := hin k t ht
            have hl3 := tab_three t (List.mem_of_getElem? ht)
            have c0 := hown.cellAt k (by omega)
            rw [hx] at c0
            obtain ⟨x0, x1, x2, rfl⟩ : ∃ x0 x1 x2, t = [x0, x1, x2] := by
              match t, hl3 with
              | [x0, x1, x2], _ => exact ⟨x0, x1, x2, rfl⟩
            rcases hI.form with ⟨_, h0⟩ | ⟨h, cap', rfl, hcap, hcapm⟩
            · cases h0
            have d0 : w2.cell? ⟨h, 0, none⟩ = some (.int .i64 x0) := hI.cellAt 0 (by simp)
            have d1 : w2.cell? ⟨h, 1, none⟩ = some (.int .i64 x1) := hI.cellAt 1 (by simp)
            have d2 : w2.cell? ⟨h, 2, none⟩ = some (.int .i64 x2) := hI.cellAt 2 (by simp)
            simp only [List.length_cons, List.length_nil] at c0 hcap
            have HT : Hid _ := ht
            have hk8 : (k : Int) < 57 := by omega
            clear hin hown ht hx hI
            by_cases e : x1 = a ∧ x2 = b
            · have HF : Hid (tog a b = some x0) := by
                show _ = _
                rw [HS.out, findT_at HN.out HT.out (byParts_yes e.1 e.2)]; rfl
              have e1 : (x1 == a) = true := by simpa using e.1
              have e2 : (x2 == b) = true := by simpa using e.2
              clear e HN HT HS
              go_wp2
              go_ret2
              exact ⟨ret_t HF.out, hb⟩
            · have HN2 : Hid (NoneT (byParts a b) (k + 1)) := HN.out.succ HT.out (byParts_no e)
              clear HN HT HS
              by_cases e1 : x1 = a
              · have e2 : (x2 == b) = false := by simpa using fun h => e ⟨e1, h⟩
                have e1' : (x1 == a) = true := by simpa using e1
                clear e e1
                go_wp2
                exact ⟨⟨k + 1, by omega, by go_num, HN2⟩, by simp [intOf]; omega⟩
              · have e1' : (x1 == a) = false := by simpa using e1
                clear e e1
                go_wp2
                exact ⟨⟨k + 1, by omega, by go_num, HN2⟩, by simp [intOf]; omega⟩
          · have HF : Hid (tog a b = none) := by
              show _ = _
              rw [HS.out, findT_no HN.out (by omega)]; rfl
            clear HN HS hin hown
            go_wp2
            go_ret2
            exact ⟨ret_t0 HF.out, hb⟩
    · have B := fun w => l1In_no a 44032 55203 q w
      have HS : Hid _ := tog_tab (a := a) (b := b) (sylT_none (fun h => p ⟨h.1, h.2.1⟩) (fun h => q ⟨h.1.1, h.1.2.1⟩))
      clear p q
      go_enter Tryz.func47, Tryz.ntmps47
      go_wp2_with fail
      refine (A _).mono ?_
      rintro e w1 ⟨rfl, rfl⟩
      go_wp2_with fail
      refine (B _).mono ?_
      rintro e w1 ⟨rfl, rfl⟩
      clear A B
      go_wp2_with fail
      refine (T _).mono ?_
      rintro e w2 ⟨v, rfl, ⟨vs, hown, hin⟩, hb⟩
      rw [tab_len] at hown
      obtain ⟨g, cap, rfl⟩ : ∃ g cap, v = .slice (some ⟨g, 0, none⟩) 57 cap := by
        rcases hown.2 with ⟨_, h0⟩ | ⟨g, cap, _, h, _⟩
        · omega
        · exact ⟨g, cap, h⟩
      clear T
      go_wp2_with fail
      go_loop [40] (fun i => ∃ k : Nat, k ≤ 57 ∧ i = .int .i64 k ∧ Hid (NoneT (byParts a b) k)) (fun i => 57 - (intOf i).toNat)
      case atStart => exact ⟨0, Nat.zero_le _, rfl, fun j t hj => by omega⟩
      case round =>
        obtain ⟨k, hk, rfl, HN⟩ := hrel
        by_cases hlt : k < 57
        · obtain ⟨t, ht⟩ : ∃ t, tab[k]? = some t := ⟨_, List.getElem?_eq_getElem (by rw [tab_len]; exact hlt)⟩
          obtain ⟨x, hx, hI⟩ := hin k t ht
          have hl3 := tab_three t (List.mem_of_getElem? ht)
          have c0 := hown.cellAt k (by omega)
          rw [hx] at c0
          obtain ⟨x0, x1, x2, rfl⟩ : ∃ x0 x1 x2, t = [x0, x1, x2] := by
            match t, hl3 with
            | [x0, x1, x2], _ => exact ⟨x0, x1, x2, rfl⟩
          rcases hI.form with ⟨_, h0⟩ | ⟨h, cap', rfl, hcap, hcapm⟩
          · cases h0
          have d0 : w2.cell? ⟨h, 0, none⟩ = some (.int .i64 x0) := hI.cellAt 0 (by simp)
          have d1 : w2.cell? ⟨h, 1, none⟩ = some (.int .i64 x1) := hI.cellAt 1 (by simp)
          have d2 : w2.cell? ⟨h, 2, none⟩ = some (.int .i64 x2) := hI.cellAt 2 (by simp)
          simp only [List.length_cons, List.length_nil] at c0 hcap
          have HT : Hid _ := ht
          have hk8 : (k : Int) < 57 := by omega
          clear hin hown ht hx hI
          by_cases e : x1 = a ∧ x2 = b
          · have HF : Hid (tog a b = some x0) := by
              show _ = _
              rw [HS.out, findT_at HN.out HT.out (byParts_yes e.1 e.2)]; rfl
            have e1 : (x1 == a) = true := by simpa using e.1
            have e2 : (x2 == b) = true := by simpa using e.2
            clear e HN HT HS
            go_wp2
            go_ret2
            exact ⟨ret_t HF.out, hb⟩
          · have HN2 : Hid (NoneT (byParts a b) (k + 1)) := HN.out.succ HT.out (byParts_no e)
            clear HN HT HS
            by_cases e1 : x1 = a
            · have e2 : (x2 == b) = false := by simpa using fun h => e ⟨e1, h⟩
              have e1' : (x1 == a) = true := by simpa using e1
              clear e e1
              go_wp2
              exact ⟨⟨k + 1, by omega, by go_num, HN2⟩, by simp [intOf]; omega⟩
            · have e1' : (x1 == a) = false := by simpa using e1
              clear e e1
              go_wp2
              exact ⟨⟨k + 1, by omega, by go_num, HN2⟩, by simp [intOf]; omega⟩
        · have HF : Hid (tog a b = none) := by
            show _ = _
            rw [HS.out, findT_no HN.out (by omega)]; rfl
          clear HN HS hin hown
          go_wp2
          go_ret2
          exact ⟨ret_t0 HF.out, hb⟩
end Go.Proofs.YtanfebccenfffaaGreatDoor

namespace Go.Proofs.YtanfebccenfffaaGreatDoor
open Go.RowKit

set_option maxRecDepth 100000 in
set_option maxHeartbeats 4000000 in
theorem c_row (w : World) (B gd capd : Nat) (ds : List Int) (hz : ds.length ≤ 2000) (hI : Ints w B (.slice (some ⟨gd, 0, none⟩) ds.length capd) ds) :
    Calls Tryz.prog 21 #[.slice (some ⟨gd, 0, none⟩) ds.length capd] w fun e w' => ∃ v, e = .returned v ∧ Ints w' w.heap.size v (compS ds ds.length).1 ∧ Below w.heap.size w w' := by
  obtain ⟨i0, hi, hzz, hz1, hz2⟩ := info_parts info_int
  go_enter Tryz.func21, Tryz.ntmps21
  go_wp2
  go_loopw [3, 4, 14] (fun out last i wr => CRel (compS ds) w ds.length out last i wr) (fun _ _ i _ => ds.length - (intOf i).toNat)
  case atStart => exact ⟨0, Nat.zero_le _, rfl, rfl, ⟨rfl, .inl ⟨rfl, rfl⟩⟩, Below.refl _ _⟩
  case round =>
    obtain ⟨k, hk, rfl, rfl, ho, hbr⟩ := hrel
    by_cases hlt : k < ds.length
    · obtain ⟨r, hx⟩ : ∃ r, ds[k]? = some r := ⟨_, List.getElem?_eq_getElem hlt⟩
      have c1 := ints_at0 (hI.below hbr) k r hx
      have HS : Hid (compS ds (k + 1) = stepBy (freeS (compS ds k) r) (compS ds k) r) := by
        show _ = _
        rw [← at0_mem hx]; rfl
      have hln := compS_len ds k
      have hk8 : (k : Int) < (ds.length : Int) := by omega
      have C := fun w => specClass_any r w
      clear hx
      generalize compS ds k = s at *
      obtain ⟨os, q⟩ := s
      simp only at ho hln ⊢
      rcases ho.form with ⟨rfl, rfl⟩ | ⟨g, cap, rfl, hcap, hcapm⟩
      · have hq0 : q = 0 := by simpa using hln.2
        subst hq0
        have HP : Hid (compS ds (k + 1) = push ([], 0) r) := by
          show _ = _
          rw [HS.out, show freeS ([], 0) r = false from decide_eq_false (by simp)]; rfl
        clear HS
        go_wp2_with fail
        refine (C _).mono ?_
        rintro e w1 ⟨rfl, rfl⟩
        clear C
        have hown0 := ho
        unfold Ints at hown0
        simp only [List.length_nil] at hown0
        have hszz := hbr.size
        by_cases er : cls r = 0
        · have er' : (cls r == 0) = true := by simpa using er
          have ER : Hid (cls r = 0) := er
          clear er
          go_wp2_with (at_builtin; refine wpList_append_lies _ rfl _ _ 32 rfl w.heap.size 3 i0 (.int .i64 0) 1 8 Tryz.underlying32 hi hzz hz1 hz2 rfl (by decide) _ 0 _ rfl (hown0.alloc _) ⟨_, 0, none⟩ 1 1 [.int .i64 r] rfl rfl (cell_one_new _ _ _) (fun x hx => by simp at hx; subst hx; rfl) (by omega) (by unfold maxLen; omega) (by omega) (by simp; omega) (w1.heap.size + 1) (by simp) ?_; intro g' cap' w3 hown hgr hgg hlt')
          exact ⟨crel_start hlt HP.out ER.out rfl hown (grown_below ho hbr _ hgr), by simp [intOf]; omega⟩
        · have er' : (cls r == 0) = false := by simpa using er
          have ER : Hid (¬ cls r = 0) := er
          clear er
          go_wp2_with (at_builtin; refine wpList_append_lies _ rfl _ _ 32 rfl w.heap.size 3 i0 (.int .i64 0) 1 8 Tryz.underlying32 hi hzz hz1 hz2 rfl (by decide) _ 0 _ rfl (hown0.alloc _) ⟨_, 0, none⟩ 1 1 [.int .i64 r] rfl rfl (cell_one_new _ _ _) (fun x hx => by simp at hx; subst hx; rfl) (by omega) (by unfold maxLen; omega) (by omega) (by simp; omega) (w1.heap.size + 1) (by simp) ?_; intro g' cap' w3 hown hgr hgg hlt')
          exact ⟨crel_mark hlt HP.out ER.out rfl hown (grown_below ho hbr _ hgr) (by omega), by simp [intOf]; omega⟩
      · obtain ⟨N, hN⟩ : ∃ N, os.length = N := ⟨_, rfl⟩
        have HN : Hid _ := hN
        rw [hN] at hcap hln ⊢
        have hoN := ho
        rw [hN] at hoN
        cases q with
        | zero =>
          have HP : Hid (compS ds (k + 1) = push (os, 0) r) := by
            show _ = _
            rw [HS.out, show freeS (os, 0) r = false from decide_eq_false (by simp)]; rfl
          clear HS hN ho
          go_wp2_with fail
          refine (C _).mono ?_
          rintro e w1 ⟨rfl, rfl⟩
          clear C
          have hown0 := hoN
          unfold Ints at hown0
          rw [HN.out] at hown0
          have hszz := hbr.size
          by_cases er : cls r = 0
          · have er' : (cls r == 0) = true := by simpa using er
            have ER : Hid (cls r = 0) := er
            clear er
            go_wp2_with (at_builtin; refine wpList_append_lies _ rfl _ _ 32 rfl w.heap.size 3 i0 (.int .i64 0) 1 8 Tryz.underlying32 hi hzz hz1 hz2 rfl (by decide) _ N _ rfl (hown0.alloc _) ⟨_, 0, none⟩ 1 1 [.int .i64 r] rfl rfl (cell_one_new _ _ _) (fun x hx => by simp at hx; subst hx; rfl) (by omega) (by unfold maxLen; omega) (by omega) (by simp; omega) (w1.heap.size + 1) (by simp) ?_; intro g' cap' w3 hown hgr hgg hlt')
            exact ⟨crel_start hlt HP.out ER.out HN.out hown (grown_below hoN hbr _ hgr), by simp [intOf]; omega⟩
          · have er' : (cls r == 0) = false := by simpa using er
            have ER : Hid (¬ cls r = 0) := er
            clear er
            go_wp2_with (at_builtin; refine wpList_append_lies _ rfl _ _ 32 rfl w.heap.size 3 i0 (.int .i64 0) 1 8 Tryz.underlying32 hi hzz hz1 hz2 rfl (by decide) _ N _ rfl (hown0.alloc _) ⟨_, 0, none⟩ 1 1 [.int .i64 r] rfl rfl (cell_one_new _ _ _) (fun x hx => by simp at hx; subst hx; rfl) (by omega) (by unfold maxLen; omega) (by omega) (by simp; omega) (w1.heap.size + 1) (by simp) ?_; intro g' cap' w3 hown hgr hgg hlt')
            exact ⟨crel_mark hlt HP.out ER.out HN.out hown (grown_below hoN hbr _ hgr) (by omega), by simp [intOf]; omega⟩
        | succ p =>
          obtain ⟨M, rfl⟩ : ∃ M, N = M + 1 := ⟨N - 1, by omega⟩
          have hpM : p ≤ M := by omega
          have yc : wr.cell? ⟨g, p, none⟩ = some (.int .i64 (at0 os p)) := by
            have := ho.cell p (by omega); exact this
          have zc : wr.cell? ⟨g, M, none⟩ = some (.int .i64 (at0 os M)) := by
            have := ho.cell M (by omega); exact this
          have HY : Hid (∀ x, tog (at0 os p) r = some x → stepBy true (os, p + 1) r = (os.set p x, p + 1)) := fun x h => step_some (s := (os, p + 1)) h
          have HZ : Hid (tog (at0 os p) r = none → stepBy true (os, p + 1) r = push (os, p + 1) r) := fun h => step_none (s := (os, p + 1)) h
          have TG := fun w => specTog_any (at0 os p) r w
          have hw1 : IntKind.i64.wrap ((M : Int) + 1 - 1) = (M : Int) := by rw [IntKind.wrap_i64]; omega
          have hw3 : IntKind.i64.wrap (M : Int) = (M : Int) := by rw [IntKind.wrap_i64]; omega
          have hM1 : (M : Int) < (M : Int) + 1 := by omega
          have hp1 : (p : Int) < (M : Int) + 1 := by omega
          by_cases hMp : M = p
          · have HF : Hid (freeS (os, p + 1) r = true) := decide_eq_true ⟨by simp, .inl (by simp only; omega)⟩
            rw [HF.out] at HS
            have hMp2 : p = M := hMp.symm
            clear hMp
            subst hMp2
            clear zc HF hN ho hpM
            go_wp2_with fail
            refine (C _).mono ?_
            rintro e w1 ⟨rfl, rfl⟩
            clear C
            go_wp2_with fail
            refine (TG _).mono ?_
            rintro e w2 ⟨rfl, hb2⟩
            have hob := hoN.below hb2
            have hbb := hbr.trans (hb2.mono hbr.size)
            have hofz := hob
            unfold Ints at hofz
            rw [HN.out] at hofz
            have fz := World.ownsRow.frozenAt hofz p
            clear hofz
            have yc2 : w2.cell? ⟨g, p, none⟩ = some (.int .i64 (at0 os p)) := by rw [hb2.cell (World.ownsRow.lt hoN g rfl).2]; exact yc
            clear TG yc hb2
            cases ho2 : tog (at0 os p) r with
            | some x =>
              have HC : Hid (compS ds (k + 1) = (os.set p x, p + 1)) := HS.out.trans (HY.out x ho2)
              clear HS HY HZ ho2
              simp only [togRes, Option.getD, Option.isSome]
              go_wp2
              exact ⟨crel_store hlt HC.out HN.out hob hbb, by simp [intOf]; omega⟩
            | none =>
              have HP : Hid (compS ds (k + 1) = push (os, p + 1) r) := HS.out.trans (HZ.out ho2)
              clear HS HY HZ ho2
              simp only [togRes, Option.getD, Option.isSome]
              have hown0 := hob
              unfold Ints at hown0
              rw [HN.out] at hown0
              have hszz := hbb.size
              by_cases er : cls r = 0
              · have er' : (cls r == 0) = true := by simpa using er
                have ER : Hid (cls r = 0) := er
                clear er
                go_wp2_with (at_builtin; refine wpList_append_lies _ rfl _ _ 32 rfl w.heap.size 3 i0 (.int .i64 0) 1 8 Tryz.underlying32 hi hzz hz1 hz2 rfl (by decide) _ (p + 1) _ rfl (hown0.alloc _) ⟨_, 0, none⟩ 1 1 [.int .i64 r] rfl rfl (cell_one_new _ _ _) (fun x hx => by simp at hx; subst hx; rfl) (by omega) (by unfold maxLen; omega) (by omega) (by simp; omega) (w2.heap.size + 1) (by simp) ?_; intro g' cap' w3 hown hgr hgg hlt')
                exact ⟨crel_start hlt HP.out ER.out HN.out hown (grown_below hob hbb _ hgr), by simp [intOf]; omega⟩
              · have er' : (cls r == 0) = false := by simpa using er
                have ER : Hid (¬ cls r = 0) := er
                clear er
                go_wp2_with (at_builtin; refine wpList_append_lies _ rfl _ _ 32 rfl w.heap.size 3 i0 (.int .i64 0) 1 8 Tryz.underlying32 hi hzz hz1 hz2 rfl (by decide) _ (p + 1) _ rfl (hown0.alloc _) ⟨_, 0, none⟩ 1 1 [.int .i64 r] rfl rfl (cell_one_new _ _ _) (fun x hx => by simp at hx; subst hx; rfl) (by omega) (by unfold maxLen; omega) (by omega) (by simp; omega) (w2.heap.size + 1) (by simp) ?_; intro g' cap' w3 hown hgr hgg hlt')
                exact ⟨crel_mark hlt HP.out ER.out HN.out hown (grown_below hob hbb _ hgr) (by omega), by simp [intOf]; omega⟩
          · have hMp2 : (p : Int) < (M : Int) := by omega
            have HF : Hid (freeS (os, p + 1) r = decide (cls (at0 os M) ≠ 0 ∧ cls (at0 os M) < cls r)) := by
              show _ = _
              unfold freeS
              apply decide_eq_decide.2
              simp only [hN, Nat.add_sub_cancel]
              constructor
              · rintro ⟨_, h | h⟩
                · omega
                · exact h
              · exact fun h => ⟨by omega, .inr h⟩
            have CM := fun w => specClass_any (at0 os M) w
            by_cases f1 : cls (at0 os M) = 0
            · have HP : Hid (compS ds (k + 1) = push (os, p + 1) r) := by
                show _ = _
                rw [HS.out, HF.out, show decide (cls (at0 os M) ≠ 0 ∧ cls (at0 os M) < cls r) = false from decide_eq_false (fun h => h.1 f1)]; rfl
              have f1' : (cls (at0 os M) != 0) = false := by simp [f1]
              clear HS HF HY HZ TG hN ho f1
              go_wp2_with fail
              refine (C _).mono ?_
              rintro e w1 ⟨rfl, rfl⟩
              go_wp2_with fail
              refine (CM _).mono ?_
              rintro e w1 ⟨rfl, rfl⟩
              clear C CM
              have hown0 := hoN
              unfold Ints at hown0
              rw [HN.out] at hown0
              have hszz := hbr.size
              by_cases er : cls r = 0
              · have er' : (cls r == 0) = true := by simpa using er
                have ER : Hid (cls r = 0) := er
                clear er
                go_wp2_with (at_builtin; refine wpList_append_lies _ rfl _ _ 32 rfl w.heap.size 3 i0 (.int .i64 0) 1 8 Tryz.underlying32 hi hzz hz1 hz2 rfl (by decide) _ (M + 1) _ rfl (hown0.alloc _) ⟨_, 0, none⟩ 1 1 [.int .i64 r] rfl rfl (cell_one_new _ _ _) (fun x hx => by simp at hx; subst hx; rfl) (by omega) (by unfold maxLen; omega) (by omega) (by simp; omega) (w1.heap.size + 1) (by simp) ?_; intro g' cap' w3 hown hgr hgg hlt')
                exact ⟨crel_start hlt HP.out ER.out HN.out hown (grown_below hoN hbr _ hgr), by simp [intOf]; omega⟩
              · have er' : (cls r == 0) = false := by simpa using er
                have ER : Hid (¬ cls r = 0) := er
                clear er
                go_wp2_with (at_builtin; refine wpList_append_lies _ rfl _ _ 32 rfl w.heap.size 3 i0 (.int .i64 0) 1 8 Tryz.underlying32 hi hzz hz1 hz2 rfl (by decide) _ (M + 1) _ rfl (hown0.alloc _) ⟨_, 0, none⟩ 1 1 [.int .i64 r] rfl rfl (cell_one_new _ _ _) (fun x hx => by simp at hx; subst hx; rfl) (by omega) (by unfold maxLen; omega) (by omega) (by simp; omega) (w1.heap.size + 1) (by simp) ?_; intro g' cap' w3 hown hgr hgg hlt')
                exact ⟨crel_mark hlt HP.out ER.out HN.out hown (grown_below hoN hbr _ hgr) (by omega), by simp [intOf]; omega⟩
            · have f1' : (cls (at0 os M) != 0) = true := by simpa using f1
              by_cases f2 : cls (at0 os M) < cls r
              · rw [HF.out, show decide (cls (at0 os M) ≠ 0 ∧ cls (at0 os M) < cls r) = true from decide_eq_true ⟨f1, f2⟩] at HS
                clear HF hN ho f1
                go_wp2_with fail
                refine (C _).mono ?_
                rintro e w1 ⟨rfl, rfl⟩
                go_wp2_with fail
                refine (CM _).mono ?_
                rintro e w1 ⟨rfl, rfl⟩
                clear C CM zc
                go_wp2_with fail
                refine (TG _).mono ?_
                rintro e w2 ⟨rfl, hb2⟩
                have hob := hoN.below hb2
                have hbb := hbr.trans (hb2.mono hbr.size)
                have hofz := hob
                unfold Ints at hofz
                rw [HN.out] at hofz
                have fz := World.ownsRow.frozenAt hofz p
                clear hofz
                have yc2 : w2.cell? ⟨g, p, none⟩ = some (.int .i64 (at0 os p)) := by rw [hb2.cell (World.ownsRow.lt hoN g rfl).2]; exact yc
                clear TG yc hb2
                cases ho2 : tog (at0 os p) r with
                | some x =>
                  have HC : Hid (compS ds (k + 1) = (os.set p x, p + 1)) := HS.out.trans (HY.out x ho2)
                  clear HS HY HZ ho2
                  simp only [togRes, Option.getD, Option.isSome]
                  go_wp2
                  exact ⟨crel_store hlt HC.out HN.out hob hbb, by simp [intOf]; omega⟩
                | none =>
                  have HP : Hid (compS ds (k + 1) = push (os, p + 1) r) := HS.out.trans (HZ.out ho2)
                  clear HS HY HZ ho2
                  simp only [togRes, Option.getD, Option.isSome]
                  have hown0 := hob
                  unfold Ints at hown0
                  rw [HN.out] at hown0
                  have hszz := hbb.size
                  by_cases er : cls r = 0
                  · have er' : (cls r == 0) = true := by simpa using er
                    have ER : Hid (cls r = 0) := er
                    clear er
                    go_wp2_with (at_builtin; refine wpList_append_lies _ rfl _ _ 32 rfl w.heap.size 3 i0 (.int .i64 0) 1 8 Tryz.underlying32 hi hzz hz1 hz2 rfl (by decide) _ (M + 1) _ rfl (hown0.alloc _) ⟨_, 0, none⟩ 1 1 [.int .i64 r] rfl rfl (cell_one_new _ _ _) (fun x hx => by simp at hx; subst hx; rfl) (by omega) (by unfold maxLen; omega) (by omega) (by simp; omega) (w2.heap.size + 1) (by simp) ?_; intro g' cap' w3 hown hgr hgg hlt')
                    exact ⟨crel_start hlt HP.out ER.out HN.out hown (grown_below hob hbb _ hgr), by simp [intOf]; omega⟩
                  · have er' : (cls r == 0) = false := by simpa using er
                    have ER : Hid (¬ cls r = 0) := er
                    clear er
                    go_wp2_with (at_builtin; refine wpList_append_lies _ rfl _ _ 32 rfl w.heap.size 3 i0 (.int .i64 0) 1 8 Tryz.underlying32 hi hzz hz1 hz2 rfl (by decide) _ (M + 1) _ rfl (hown0.alloc _) ⟨_, 0, none⟩ 1 1 [.int .i64 r] rfl rfl (cell_one_new _ _ _) (fun x hx => by simp at hx; subst hx; rfl) (by omega) (by unfold maxLen; omega) (by omega) (by simp; omega) (w2.heap.size + 1) (by simp) ?_; intro g' cap' w3 hown hgr hgg hlt')
                    exact ⟨crel_mark hlt HP.out ER.out HN.out hown (grown_below hob hbb _ hgr) (by omega), by simp [intOf]; omega⟩
              · have HP : Hid (compS ds (k + 1) = push (os, p + 1) r) := by
                  show _ = _
                  rw [HS.out, HF.out, show decide (cls (at0 os M) ≠ 0 ∧ cls (at0 os M) < cls r) = false from decide_eq_false (fun h => f2 h.2)]; rfl
                have f2' : decide (cls (at0 os M) < cls r) = false := by simpa using f2
                clear HS HF HY HZ TG hN ho f1 f2
                go_wp2_with fail
                refine (C _).mono ?_
                rintro e w1 ⟨rfl, rfl⟩
                go_wp2_with fail
                refine (CM _).mono ?_
                rintro e w1 ⟨rfl, rfl⟩
                clear C CM
                have hown0 := hoN
                unfold Ints at hown0
                rw [HN.out] at hown0
                have hszz := hbr.size
                by_cases er : cls r = 0
                · have er' : (cls r == 0) = true := by simpa using er
                  have ER : Hid (cls r = 0) := er
                  clear er
                  go_wp2_with (at_builtin; refine wpList_append_lies _ rfl _ _ 32 rfl w.heap.size 3 i0 (.int .i64 0) 1 8 Tryz.underlying32 hi hzz hz1 hz2 rfl (by decide) _ (M + 1) _ rfl (hown0.alloc _) ⟨_, 0, none⟩ 1 1 [.int .i64 r] rfl rfl (cell_one_new _ _ _) (fun x hx => by simp at hx; subst hx; rfl) (by omega) (by unfold maxLen; omega) (by omega) (by simp; omega) (w1.heap.size + 1) (by simp) ?_; intro g' cap' w3 hown hgr hgg hlt')
                  exact ⟨crel_start hlt HP.out ER.out HN.out hown (grown_below hoN hbr _ hgr), by simp [intOf]; omega⟩
                · have er' : (cls r == 0) = false := by simpa using er
                  have ER : Hid (¬ cls r = 0) := er
                  clear er
                  go_wp2_with (at_builtin; refine wpList_append_lies _ rfl _ _ 32 rfl w.heap.size 3 i0 (.int .i64 0) 1 8 Tryz.underlying32 hi hzz hz1 hz2 rfl (by decide) _ (M + 1) _ rfl (hown0.alloc _) ⟨_, 0, none⟩ 1 1 [.int .i64 r] rfl rfl (cell_one_new _ _ _) (fun x hx => by simp at hx; subst hx; rfl) (by omega) (by unfold maxLen; omega) (by omega) (by simp; omega) (w1.heap.size + 1) (by simp) ?_; intro g' cap' w3 hown hgr hgg hlt')
                  exact ⟨crel_mark hlt HP.out ER.out HN.out hown (grown_below hoN hbr _ hgr) (by omega), by simp [intOf]; omega⟩
    · have hk3 : k = ds.length := by omega
      subst hk3
      go_wp2
      go_ret
      exact ⟨_, rfl, ho, hbr⟩
end Go.Proofs.YtanfebccenfffaaGreatDoor

namespace Go.Proofs.YtanfebccenfffaaGreatDoor
open Go.RowKit

set_option maxRecDepth 100000 in
set_option maxHeartbeats 1000000 in
theorem c_nil (w : World) : Calls Tryz.prog 21 #[.slice none 0 0] w fun e w' => ∃ v, e = .returned v ∧ Ints w' w.heap.size v [] ∧ Below w.heap.size w w' := by
  go_enter Tryz.func21, Tryz.ntmps21
  go_wp2
  go_loop [3, 14] (fun o i => o = .slice none 0 0 ∧ i = .int .i64 0) (fun _ _ => 0)
  case atStart => exact ⟨rfl, rfl⟩
  case round =>
    obtain ⟨rfl, rfl⟩ := hrel
    go_wp2
    go_ret
    exact ⟨_, rfl, ⟨rfl, .inl ⟨rfl, rfl⟩⟩, Below.refl _ _⟩

theorem c_any {w : World} {B : Nat} {v : Value} {ds : List Int} (hz : ds.length ≤ 2000) (hI : Ints w B v ds) :
    Calls Tryz.prog 21 #[v] w fun e w' => ∃ v', e = .returned v' ∧ Ints w' w.heap.size v' (compS ds ds.length).1 ∧ Below w.heap.size w w' := by
  rcases hI.form with ⟨rfl, rfl⟩ | ⟨g, cap, rfl, _, _⟩
  · exact c_nil w
  · exact c_row w B g cap ds hz hI

set_option maxRecDepth 100000 in
set_option maxHeartbeats 2000000 in
theorem specC_any {w : World} {B : Nat} {v : Value} {zs : List Int} (hz : zs.length ≤ 1048576) (hI : Ints w B v zs) :
    Calls Tryz.prog 10 #[v] w fun e w' => ∃ v', e = .returned (.tuple #[v', .bool (okD zs)]) ∧ Ints w' w.heap.size v' (ansC zs) ∧ Below w.heap.size w w' := by
  have G := good_any hz hI
  unfold ansC
  cases hok : okR zs
  · rw [hok] at G
    rw [okD_no hok, if_neg (by simp)]
    clear hI hok
    go_enter Tryz.func10, Tryz.ntmps10
    go_wp2_with fail
    refine G.mono ?_
    rintro e w1 ⟨rfl, rfl⟩
    clear G
    go_wp2
    go_ret2
    exact ⟨_, rfl, ⟨rfl, .inl ⟨rfl, rfl⟩⟩, Below.refl _ _⟩
  · rw [hok] at G
    have D := fun (u : World) (B : Nat) (h : Ints u B v zs) => d_any (okR_true hok).1 h
    by_cases hl : 200 < (nD zs).length
    · rw [okD_long hl, if_neg (by simp)]
      clear hok
      generalize nD zs = ds at *
      have hl2 : (200 : Int) < (ds.length : Int) := by omega
      go_enter Tryz.func10, Tryz.ntmps10
      go_wp2_with fail
      refine G.mono ?_
      rintro e w1 ⟨rfl, rfl⟩
      clear G
      go_wp2_with fail
      refine (D _ _ hI).mono ?_
      rintro e w2 ⟨v', rfl, h2, h3⟩
      obtain ⟨g, cap, rfl⟩ := ints_some h2 (by omega)
      clear D hI
      go_wp2
      go_ret2
      exact ⟨_, rfl, ⟨rfl, .inl ⟨rfl, rfl⟩⟩, h3⟩
    · rw [okD_yes hok hl, if_pos rfl]
      have hbd := nD_bound hok
      have CA := fun (u : World) (B : Nat) (v : Value) (h : Ints u B v (nD zs)) => c_any (by omega) h
      unfold nC
      clear hok
      generalize nD zs = ds at *
      generalize (compS ds ds.length).1 = cs at *
      have hl2 : ¬ (200 : Int) < (ds.length : Int) := by omega
      go_enter Tryz.func10, Tryz.ntmps10
      go_wp2_with fail
      refine G.mono ?_
      rintro e w1 ⟨rfl, rfl⟩
      clear G
      go_wp2_with fail
      refine (D _ _ hI).mono ?_
      rintro e w2 ⟨v', rfl, h2, h3⟩
      have hI2 := hI.below h3
      rcases h2.form with ⟨rfl, rfl⟩ | ⟨g, cap, rfl, _, _⟩
      · go_wp2_with fail
        refine (D _ _ hI2).mono ?_
        rintro e w3 ⟨v3, rfl, h4, h5⟩
        go_wp2_with fail
        refine (CA _ _ _ h4).mono ?_
        rintro e w4 ⟨v4, rfl, h6, h7⟩
        clear D CA hI hI2
        have b3 := h3.trans (h5.mono h3.size)
        go_wp2
        go_ret2
        exact ⟨_, rfl, ints_low2 h6 b3.size, b3.trans (h7.mono b3.size)⟩
      · go_wp2_with fail
        refine (D _ _ hI2).mono ?_
        rintro e w3 ⟨v3, rfl, h4, h5⟩
        go_wp2_with fail
        refine (CA _ _ _ h4).mono ?_
        rintro e w4 ⟨v4, rfl, h6, h7⟩
        clear D CA hI hI2
        have b3 := h3.trans (h5.mono h3.size)
        go_wp2
        go_ret2
        exact ⟨_, rfl, ints_low2 h6 b3.size, b3.trans (h7.mono b3.size)⟩
end Go.Proofs.YtanfebccenfffaaGreatDoor

namespace Go.Proofs.YtanfebccenfffaaGreatDoor
open Go.RowKit

/-- What a draw of rules and two texts gives. -/
def Drew3 (w : World) (e : Ending) (w' : World) : Prop :=
  ∃ v es sh lv x y, e = .returned (.tuple #[.agg #[v, .bool sh, .int .i64 lv], .string x, .string y]) ∧ Ents w' w.heap.size v es ∧ (∀ e ∈ es, e.runes.length ≤ 1048576) ∧ x.size ≤ 1048576 ∧ y.size ≤ 1048576 ∧ Below w.heap.size w w'
end Go.Proofs.YtanfebccenfffaaGreatDoor

namespace Go.Proofs.YtanfebccenfffaaGreatDoor
open Go.RowKit

set_option maxRecDepth 100000 in
set_option maxHeartbeats 4000000 in
theorem keys_walk (w : World) (a0 : Option Addr) (len0 cap0 : Nat) (ht : Tabs3 w) (hmx : len0 ≤ 9223372036854775807)
    (D : len0 ≤ 1048576 → Calls Tryz.prog 5 #[.slice a0 len0 cap0] w fun e w' => Drew3 w e w') :
    Calls Tryz.prog 3 #[.slice a0 len0 cap0] w fun e w' => e = .returned (.bool true) ∧ Below w.heap.size w w' := by
  by_cases h1 : 1048576 < len0
  · have h18 : (1048576 : Int) < (len0 : Int) := by omega
    clear D
    go_enter Tryz.func3, Tryz.ntmps3
    go_wp2
    go_ret
    exact ⟨rfl, Below.refl _ _⟩
  have h18 : ¬ (1048576 : Int) < (len0 : Int) := by omega
  have D1 := D (by omega)
  have HT : Hid (Tabs3 w) := ht
  clear D ht
  go_enter Tryz.func3, Tryz.ntmps3
  go_wp2_with fail
  refine D1.mono ?_
  rintro e w1 ⟨v1, es, sh, lv, x, y, rfl, e1, hr, hx, hy, b1⟩
  obtain ⟨va, vc, rfl⟩ := ents_slice e1
  have b12 := (Below.refl w1.heap.size w1).alloc (Nat.le_refl _) (.cells #[.slice va es.length vc, .bool sh, .int .i64 lv] 25)
  have hbox : BoxS (w1.alloc (.cells #[.slice va es.length vc, .bool sh, .int .i64 lv] 25)) w1.heap.size (.slice va es.length vc) sh lv := heap_alloc_new w1 _
  have hlb : w1.heap.size < (w1.alloc (.cells #[.slice va es.length vc, .bool sh, .int .i64 lv] 25)).heap.size := by simp
  obtain ⟨W, HW⟩ : ∃ W, Hid (W = w1.alloc (.cells #[.slice va es.length vc, .bool sh, .int .i64 lv] 25)) := ⟨_, rfl⟩
  rw [← HW.out] at b12 hbox hlb
  have HE : Hid (Ents W _ (.slice va es.length vc) es) := e1.below b12
  have HB2 : Hid (Below w.heap.size w W) := b1.trans (b12.mono b1.size)
  have HTW : Hid (Tabs3 W) := HT.out.below HB2.out
  have IC := fun (u : World) (hu : Below W.heap.size W u) (p q : ByteArray) (hp : p.size ≤ 1048576) (hq : q.size ≤ 1048576) => implCmp_any (sh := sh) (lv := lv) p hp q hq (HE.out.below hu) hr (HTW.out.below hu)
  have SC := fun (u : World) (hu : Below W.heap.size W u) => specCmp_any (sh := sh) (lv := lv) x hx y hy (HE.out.below hu) hr
  have IB := fun (u : World) (hu : Below W.heap.size W u) => implBegin_any (sh := sh) (lv := lv) x hx x hx (HE.out.below hu) hr (HTW.out.below hu)
  have IK := fun (u : World) (hu : Below W.heap.size W u) (p : ByteArray) (hp : p.size ≤ 1048576) => implKey_any (sh := sh) (lv := lv) p hp (HE.out.below hu) hr (HTW.out.below hu)
  have HBX : Hid (BoxS _ _ _ _ _) := hbox
  have hsw := cmpT_swap es sh lv x y
  have I1 := IC _ (Below.refl _ _) x y hx hy
  have I2 := fun (u : World) (hu : Below W.heap.size W u) => IC u hu y x hy hx
  rw [Bool.and_comm] at I2
  rw [hsw] at I2
  have hcs := cmpT_cases es sh lv x y
  have HNO : Hid ((okE es lv x && okE es lv y) = false → cmpT es sh lv x y = 0) := fun h => cmpT_no h
  generalize hc : cmpT es sh lv x y = c at *
  have HI2 : Hid _ := I2
  have HIB : Hid _ := IB
  have HIK : Hid _ := IK
  have HSC : Hid _ := SC
  obtain ⟨p0, p1, p2⟩ := hbox.cells
  clear D1 e1 b1 b12 hbox HT IC I2 IB IK SC hsw hc
  cases hok : (okE es lv x && okE es lv y)
  · obtain rfl : c = 0 := HNO.out hok
    rw [hok] at I1
    go_wp2_with fail
    rw [← HW.out]
    refine I1.mono ?_
    rintro e w3 ⟨rfl, b3⟩
    obtain ⟨p0, p1, p2⟩ := (HBX.out.below b3 hlb).cells
    have S3 := HSC.out w3 b3
    rw [hok] at S3
    go_wp2_with fail
    refine S3.mono ?_
    rintro e w4 ⟨rfl, b4⟩
    clear I1 S3
    go_wp2
    go_ret
    exact ⟨rfl, HB2.out.trans ((b3.trans (b4.mono b3.size)).mono HB2.out.size)⟩
  · have hox : okE es lv x = true := by cases h : okE es lv x <;> simp_all
    obtain ⟨q1, q2, q3⟩ := okE_parts hox
    have hgd := dec_good x.size x
    have hdl : (Dec.decT x.size x).1.length ≤ 200 := Nat.le_trans (Dec.decT_len x.size x (Nat.le_refl _)).1 q1
    have HSK : Hid (∀ t : ByteArray, t = encS (nC (Dec.decT x.size x).1) → t.size ≤ 200 → okE es lv t = true ∧ keyT es sh lv t = keyT es sh lv x) := fun t h1 h2 => same_key hox h1 h2
    have HNL : Hid ((nC (Dec.decT x.size x).1).length ≤ 200) := Nat.le_trans (nC_len4 hgd) q2
    have HDL : Hid ((Dec.decT x.size x).1.length ≤ 200) := hdl
    have HX : Hid (x.size ≤ 1048576) := hx
    have HY : Hid (y.size ≤ 1048576) := hy
    have HQ1 : Hid (x.size ≤ 200) := q1
    have HOX : Hid (okE es lv x = true) := hox
    have hbt : begT es sh lv x x = true := begT_self hox
    have HBT : Hid (begT es sh lv x x = true) := hbt
    rw [hok] at I1
    have HOK : Hid ((okE es lv x && okE es lv y) = true) := hok
    clear q1 q2 q3 hgd hdl hx hy hox hbt hok HNO hr
    go_wp2_with fail
    rw [← HW.out]
    refine I1.mono ?_
    rintro e w3 ⟨rfl, b3⟩
    obtain ⟨p0, p1, p2⟩ := (HBX.out.below b3 hlb).cells
    have S3 := HSC.out w3 b3
    rw [HOK.out] at S3
    clear I1 HSC
    go_wp2_with fail
    refine S3.mono ?_
    rintro e w4 ⟨rfl, b4'⟩
    have b4 := b3.trans (b4'.mono b3.size)
    obtain ⟨p0, p1, p2⟩ := (HBX.out.below b4 hlb).cells
    have J4 := HI2.out w4 b4
    rw [HOK.out] at J4
    clear S3 b3 b4' HI2
    have H4 : Hid (Below W.heap.size W w4) := b4
    clear b4
    go_wp2_with fail
    refine J4.mono ?_
    rintro e w5 ⟨rfl, b5'⟩
    have b5 := H4.out.trans (b5'.mono H4.out.size)
    obtain ⟨p0, p1, p2⟩ := (HBX.out.below b5 hlb).cells
    have K5 := HIB.out w5 b5
    rw [HBT.out, HOX.out, Bool.and_self] at K5
    clear J4 b5' HIB
    have H5 : Hid (Below W.heap.size W w5) := b5
    clear b5
    go_wp2_with fail
    refine K5.mono ?_
    rintro e w6 ⟨rfl, b6'⟩
    have b6 := H5.out.trans (b6'.mono H5.out.size)
    have D6 := specDecode_any x w6 HQ1.out
    clear K5 b6'
    have H6 : Hid (Below W.heap.size W w6) := b6
    clear b6
    have hcc : IntKind.i64.wrap (-c) = -c := by rcases hcs with rfl | rfl | rfl <;> decide
    clear hcs
    go_wp2_with fail
    refine D6.mono ?_
    rintro e w7 ⟨v7, rfl, i7, b7'⟩
    have b7 := H6.out.trans (b7'.mono H6.out.size)
    have N7 := specC_any (Nat.le_trans HDL.out (by decide)) i7
    clear D6 b7' i7
    have H7 : Hid (Below W.heap.size W w7) := b7
    clear b7
    go_wp2_with fail
    refine N7.mono ?_
    rintro e w8 ⟨v8, rfl, i8, b8'⟩
    have b8 := H7.out.trans (b8'.mono H7.out.size)
    have HI8 : Hid (Ints _ _ _ _) := i8
    have H8 : Hid (Below W.heap.size W w8) := b8
    clear N7 b8' i8 b8
    cases hod : okD (Dec.decT x.size x).1
    · go_wp2
      go_ret
      exact ⟨rfl, HB2.out.trans (H8.out.mono HB2.out.size)⟩
    have ha : ansC (Dec.decT x.size x).1 = nC (Dec.decT x.size x).1 := by unfold ansC; rw [if_pos hod]
    have i8 := HI8.out
    rw [ha] at i8
    have E8 := specEnc_any (Nat.le_trans HNL.out (by decide)) i8
    clear i8 HI8 ha hod
    go_wp2_with fail
    refine E8.mono ?_
    rintro e w9 ⟨rfl, b9'⟩
    have b9 := H8.out.trans (b9'.mono H8.out.size)
    have hk := HSK.out _ rfl
    have HKK : Hid _ := hk
    have H9 : Hid (Below W.heap.size W w9) := b9
    obtain ⟨p0, p1, p2⟩ := (HBX.out.below b9 hlb).cells
    clear E8 b9' b9 hk HSK
    generalize encS (nC (Dec.decT x.size x).1) = t at HKK
    by_cases hts : 200 < t.size
    · have h20 : (200 : Int) < (t.size : Int) := by omega
      go_wp2
      go_ret
      exact ⟨rfl, HB2.out.trans (H9.out.mono HB2.out.size)⟩
    have h20 : ¬ (200 : Int) < (t.size : Int) := by omega
    obtain ⟨k1, k2⟩ := HKK.out (by omega)
    have K9 := HIK.out w9 H9.out x HX.out
    rw [HOX.out] at K9
    have HKT : Hid (∀ u : World, Below W.heap.size W u → Calls Tryz.prog 12 #[.agg #[.slice va es.length vc, .bool sh, .int .i64 lv], .string t] u fun e w' => e = .returned (.tuple #[.string (keyT es sh lv x), .bool true]) ∧ Below u.heap.size u w') := by
      intro u hu
      have := HIK.out u hu t (by omega)
      rw [k1, k2] at this
      exact this
    clear HIK k1 k2 HKK
    go_wp2_with fail
    refine K9.mono ?_
    rintro e w10 ⟨rfl, b10'⟩
    have b10 := H9.out.trans (b10'.mono H9.out.size)
    obtain ⟨p0, p1, p2⟩ := (HBX.out.below b10 hlb).cells
    have K10 := HKT.out w10 b10
    have H10 : Hid (Below W.heap.size W w10) := b10
    clear K9 b10' b10 HKT
    go_wp2_with fail
    refine K10.mono ?_
    rintro e w11 ⟨rfl, b11'⟩
    have H11 : Hid (Below W.heap.size W w11) := H10.out.trans (b11'.mono H10.out.size)
    clear K10 b11'
    go_wp2
    go_ret
    exact ⟨rfl, HB2.out.trans (H11.out.mono HB2.out.size)⟩
end Go.Proofs.YtanfebccenfffaaGreatDoor
