/- Texts of mine laid together: EncSA, AnsC, PApL, PKeys, ResC, IShift, RowKinds, IFourth, ICount. -/
import Derived.Test.YtanfebccenfffaaGreatDoorEncS
import Derived.Test.YtanfebccenfffaaGreatDoorSD
import Derived.Test.YtanfebccenfffaaGreatDoorNorm3
import Derived.Test.YtanfebccenfffaaGreatDoorOkE
import Derived.Test.YtanfebccenfffaaGreatDoorPCmp
import Derived.Test.YtanfebccenfffaaGreatDoorPBeg
import Derived.Test.YtanfebccenfffaaGreatDoorTrip
import Derived.Test.YtanfebccenfffaaGreatDoorInts
import Derived.Test.YtanfebccenfffaaGreatDoorFour
import Derived.Deep.RegionHeld3
import Derived.Deep.Cut
import Derived.Deep.CutRange
import Derived.Test.YtanfebccenfffaaGreatDoorPKey2
namespace Go.Proofs.YtanfebccenfffaaGreatDoor
open Go.RowKit

/-- Whether a row is encoded at all, and its text. -/
def encOk (zs : List Int) : Bool := decide (zs.length ≤ 200 ∧ ∀ x ∈ zs, goodB x = true)
def encS (zs : List Int) : ByteArray := if encOk zs = true then ⟨(encAll zs).toArray⟩ else ⟨#[]⟩

theorem enc_yes {zs : List Int} (h1 : zs.length ≤ 200) (h2 : ∀ x ∈ zs, goodB x = true) : encOk zs = true ∧ encS zs = ⟨(encAll zs).toArray⟩ := by
  have h : encOk zs = true := decide_eq_true ⟨h1, h2⟩
  exact ⟨h, by unfold encS; rw [if_pos h]⟩
theorem enc_no {zs : List Int} (h : ¬ (zs.length ≤ 200 ∧ ∀ x ∈ zs, goodB x = true)) : encOk zs = false ∧ encS zs = ⟨#[]⟩ := by
  have h : encOk zs = false := decide_eq_false h
  exact ⟨h, by unfold encS; rw [h]; rfl⟩

theorem specEnc_any {w : World} {B : Nat} {v : Value} {zs : List Int} (hz : zs.length ≤ 1048576) (hI : Ints w B v zs) :
    Calls Tryz.prog 11 #[v] w fun e w' => e = .returned (.tuple #[.string (encS zs), .bool (encOk zs)]) ∧ Below w.heap.size w w' := by
  have hl := World.ownsRow.lt hI
  rcases hI.form with ⟨rfl, rfl⟩ | ⟨g, cap, rfl, h1, h2⟩
  · obtain ⟨e1, e2⟩ := enc_yes (zs := []) (by simp) (by simp)
    rw [e1, e2]
    refine (specEnc_none w _ _).mono ?_
    rintro e w' ⟨rfl, rfl⟩
    exact ⟨rfl, Below.refl _ _⟩
  · by_cases c : zs.length ≤ 200
    · by_cases d : ∀ x ∈ zs, goodB x = true
      · obtain ⟨e1, e2⟩ := enc_yes c d
        rw [e1, e2]
        exact specEnc_good w g cap zs c (hl g rfl).2 (fun j hj => hI.cell j hj) d
      · obtain ⟨e1, e2⟩ := enc_no (zs := zs) (fun h => d h.2)
        rw [e1, e2]
        refine (specEnc_bad w g cap zs c (fun j hj => hI.cell j hj) d).mono ?_
        rintro e w' ⟨rfl, rfl⟩
        exact ⟨rfl, Below.refl _ _⟩
    · obtain ⟨e1, e2⟩ := enc_no (zs := zs) (fun h => c h.1)
      rw [e1, e2]
      refine (specEnc_long w _ zs.length cap (by omega) hz).mono ?_
      rintro e w' ⟨rfl, rfl⟩
      exact ⟨rfl, Below.refl _ _⟩
end Go.Proofs.YtanfebccenfffaaGreatDoor

namespace Go.Proofs.YtanfebccenfffaaGreatDoor

def ansC (zs : List Int) : List Int := if okD zs = true then nC zs else []

theorem okD_okR {zs : List Int} (h : okD zs = true) : okR zs = true := by
  unfold okD at h
  simp at h
  exact h.1

theorem nD_bound {zs : List Int} (h : okR zs = true) : (nD zs).length ≤ 1800 := by
  have h6 := (okR_true h).1
  have h7 := apD_len zs
  rw [nD_len]; omega
end Go.Proofs.YtanfebccenfffaaGreatDoor

namespace Go.Proofs.YtanfebccenfffaaGreatDoor

theorem all2_pos (r : Int) : 1 ≤ (all2 r).length := by
  obtain ⟨h1, h2⟩ := all2_head r
  by_cases c : cls r = 0
  · obtain ⟨s, u, h, _⟩ := h1 c
    rw [h]; simp
  · rw [all2_leaf (h2 (by have := (cls_range r).1; omega))]; simp

theorem len_apD (zs : List Int) : zs.length ≤ (apD zs).length := by
  induction zs with
  | nil => simp
  | cons x zs ih =>
    have h1 := all2_pos x
    have e : apD (x :: zs) = all2 x ++ apD zs := by simp [apD]
    rw [e, List.length_append, List.length_cons]
    omega
end Go.Proofs.YtanfebccenfffaaGreatDoor

namespace Go.Proofs.YtanfebccenfffaaGreatDoor

theorem nC_len4 {zs : List Int} (hg : ∀ x ∈ zs, goodB x = true) : (nC zs).length ≤ (nD zs).length := by
  have h1 := len_apD (nC zs)
  rw [← nD_len, (nD_nC hg).1] at h1
  exact h1

theorem enc_len4 (zs : List Int) : zs.length ≤ (encAll zs).length := by
  induction zs with
  | nil => simp
  | cons x zs ih =>
    have := encodeRune_pos x
    have e : encAll (x :: zs) = Lib.encodeRune x ++ encAll zs := by simp [encAll]
    rw [e]; simp; omega

theorem back4 (zs : List Int) (hg : ∀ x ∈ zs, goodB x = true) (s : ByteArray) (hs : s = ⟨(encAll zs).toArray⟩) : Dec.decT s.size s = (zs, 0) := by
  subst hs
  refine decT_enc zs _ ?_ hg
  have := enc_len4 zs
  show zs.length ≤ (encAll zs).toArray.size
  simpa using this

theorem same_key {es : List Ent} {sh : Bool} {lv : Int} {a t : ByteArray} (h : okE es lv a = true) (ht : t = encS (nC (Dec.decT a.size a).1)) (hs : t.size ≤ 200) : okE es lv t = true ∧ keyT es sh lv t = keyT es sh lv a := by
  obtain ⟨h1, h2, h3⟩ := okE_parts h
  have hg := dec_good a.size a
  have hn := nD_nC hg
  have hl : (nC (Dec.decT a.size a).1).length ≤ 200 := Nat.le_trans (nC_len4 hg) h2
  obtain ⟨e1, e2⟩ := enc_yes hl hn.2
  rw [e2] at ht
  have hd := back4 _ hn.2 t ht
  have hr : rn4 t = rn4 a := by
    unfold rn4
    rw [hd]
    exact hn.1
  have ho : okE es lv t = true := by
    unfold okE ok4
    rw [hr, h3, decide_eq_true ⟨hs, h2⟩]; rfl
  refine ⟨ho, ?_⟩
  unfold keyT
  rw [ho, h, hr]

theorem cmpS_cases (a b : ByteArray) : cmpS a b = -1 ∨ cmpS a b = 0 ∨ cmpS a b = 1 := by
  unfold cmpS
  split
  · exact .inl rfl
  · split
    · exact .inr (.inr rfl)
    · exact .inr (.inl rfl)

theorem cmpT_swap (es : List Ent) (sh : Bool) (lv : Int) (x y : ByteArray) : cmpT es sh lv y x = - cmpT es sh lv x y := by
  unfold cmpT
  rw [Bool.and_comm]
  split
  · exact cmpS_neg _ _
  · rfl

theorem cmpT_cases (es : List Ent) (sh : Bool) (lv : Int) (x y : ByteArray) : cmpT es sh lv x y = -1 ∨ cmpT es sh lv x y = 0 ∨ cmpT es sh lv x y = 1 := by
  unfold cmpT
  split
  · exact cmpS_cases _ _
  · exact .inr (.inl rfl)

theorem cmpT_no {es : List Ent} {sh : Bool} {lv : Int} {x y : ByteArray} (h : (okE es lv x && okE es lv y) = false) : cmpT es sh lv x y = 0 := by unfold cmpT; rw [h, if_neg (by simp)]

theorem begT_self {es : List Ent} {sh : Bool} {lv : Int} {x : ByteArray} (h : okE es lv x = true) : begT es sh lv x x = true := by
  unfold begT
  rw [h, Bool.and_self, if_pos rfl]
  exact begL_self _
end Go.Proofs.YtanfebccenfffaaGreatDoor

namespace Go.Proofs.YtanfebccenfffaaGreatDoor
open Go.RowKit

theorem results_cell1 {fn : Func} {p : Tmp} {ty : TypeId} (h : fn.results = #[.cell p ty]) (tmps : Array Value) (P : Program) (w : World) :
    (results fn tmps).run P w = ((asAddr (tmps.getD p undef)).run P w).andThen fun a w₁ => (loadVar ty a).run P w₁ := by
  simp only [results, h]
  simp [Sem.run_bind, Result.andThen]

theorem results_tmp_cell {fn : Func} {p u : Tmp} {ty : TypeId} (h : fn.results = #[.tmp u, .cell p ty]) (tmps : Array Value) (P : Program) (w : World) :
    (results fn tmps).run P w = ((asAddr (tmps.getD p undef)).run P w).andThen fun a w₁ => ((loadVar ty a).run P w₁).andThen fun v w₂ => .ok (.tuple #[tmps.getD u undef, v]) w₂ := by
  simp only [results, h]
  simp [Sem.run_bind, Result.andThen]
end Go.Proofs.YtanfebccenfffaaGreatDoor

namespace Go.Proofs.YtanfebccenfffaaGreatDoor
open Go.RowKit

/-- The fourth weight of an elem and how it counts; b: whether it varies or stands behind one that does. -/
def shE (e : El) (b : Bool) : Int × El := if e.varies = true then (e.first, elZ) else if b = true ∨ (e.first = 0 ∧ e.second = 0 ∧ e.third = 0) then (0, elZ) else (65535, e)

def behB (b : Bool) (e : El) : Bool := e.varies || (b && e.first == 0)

theorem four1_shift (b : Bool) (e : El) : four1 true b e = ((shE e (behB b e)).1, (shE e (behB b e)).2, behB b e) := by
  obtain ⟨x, y, z, v⟩ := e
  unfold four1 shE behB elZ
  cases v <;> cases b <;> by_cases hx : x = 0 <;> by_cases hy : y = 0 <;> by_cases hz : z = 0 <;> simp [hx, hy, hz]

theorem below_two (w : World) (o o' : Obj) : Below w.heap.size w ((w.alloc o).alloc o') := ((Below.refl w.heap.size w).alloc (Nat.le_refl _) o).alloc (by simp) o'

theorem ret_sh {p : Int × El} {n : Int} {a b c : Int} {d : Bool} (h : p = (n, ⟨a, b, c, d⟩)) : Ending.returned (.tuple #[.int .i64 n, .agg #[.int .i64 a, .int .i64 b, .int .i64 c, .bool d]]) = .returned (.tuple #[.int .i64 p.1, .agg #[.int .i64 p.2.first, .int .i64 p.2.second, .int .i64 p.2.third, .bool p.2.varies]]) := by rw [h]

set_option maxRecDepth 100000 in
set_option maxHeartbeats 4000000 in
theorem shift_any (e : El) (b : Bool) (w : World) :
    Calls Tryz.prog 76 #[.agg #[.int .i64 e.first, .int .i64 e.second, .int .i64 e.third, .bool e.varies], .bool b] w fun x w' => x = .returned (.tuple #[.int .i64 (shE e b).1, .agg #[.int .i64 (shE e b).2.first, .int .i64 (shE e b).2.second, .int .i64 (shE e b).2.third, .bool (shE e b).2.varies]]) ∧ Below w.heap.size w w' := by
  obtain ⟨x, y, z, v⟩ := e
  have hba := ((Below.refl w.heap.size w).alloc (Nat.le_refl _) (.cells #[.int .i64 x, .int .i64 y, .int .i64 z, .bool v] 79)).alloc (by simp) (.cells #[.int .i64 0, .int .i64 0, .int .i64 0, .bool false] 79)
  cases v
  · cases b
    · by_cases hz : x = 0 ∧ y = 0 ∧ z = 0
      · obtain ⟨rfl, rfl, rfl⟩ := hz
        have HO : Hid (shE ⟨0, 0, 0, false⟩ false = (0, ⟨0, 0, 0, false⟩)) := by show _ = _; unfold shE elZ; simp
        go_enter Tryz.func76, Tryz.ntmps76
        go_wp2
        refine bodyPost_ret (v := .tuple #[.int .i64 0, .agg #[.int .i64 0, .int .i64 0, .int .i64 0, .bool false]]) ?_ rfl ⟨ret_sh HO.out, hba⟩
        rw [results_tmp_cell rfl]
        go_simp
      · by_cases hx : x = 0
        · subst hx
          by_cases hy : y = 0
          · subst hy
            have hz0 : ¬ z = 0 := fun c => hz ⟨rfl, rfl, c⟩
            have HO : Hid (shE ⟨0, 0, z, false⟩ false = (65535, ⟨0, 0, z, false⟩)) := by show _ = _; unfold shE elZ; simp [hz0]
            go_enter Tryz.func76, Tryz.ntmps76
            go_wp2
            go_region
            all_goals
              go_wp2
              refine bodyPost_ret (v := .tuple #[.int .i64 65535, .agg #[.int .i64 0, .int .i64 0, .int .i64 z, .bool false]]) ?_ rfl ⟨ret_sh HO.out, (below_two w _ _).drew⟩
              rw [results_tmp_cell rfl]
              go_simp
          · have HO : Hid (shE ⟨0, y, z, false⟩ false = (65535, ⟨0, y, z, false⟩)) := by show _ = _; unfold shE elZ; simp [hy]
            go_enter Tryz.func76, Tryz.ntmps76
            go_wp2
            go_region
            all_goals
              go_wp2
              refine bodyPost_ret (v := .tuple #[.int .i64 65535, .agg #[.int .i64 0, .int .i64 y, .int .i64 z, .bool false]]) ?_ rfl ⟨ret_sh HO.out, (below_two w _ _).drew⟩
              rw [results_tmp_cell rfl]
              go_simp
        · have HO : Hid (shE ⟨x, y, z, false⟩ false = (65535, ⟨x, y, z, false⟩)) := by show _ = _; unfold shE elZ; simp [hx]
          go_enter Tryz.func76, Tryz.ntmps76
          go_wp2
          go_region
          all_goals
            go_wp2
            refine bodyPost_ret (v := .tuple #[.int .i64 65535, .agg #[.int .i64 x, .int .i64 y, .int .i64 z, .bool false]]) ?_ rfl ⟨ret_sh HO.out, (below_two w _ _).drew⟩
            rw [results_tmp_cell rfl]
            go_simp
    · have HO : Hid (shE ⟨x, y, z, false⟩ true = (0, ⟨0, 0, 0, false⟩)) := by show _ = _; unfold shE elZ; simp
      go_enter Tryz.func76, Tryz.ntmps76
      go_wp2
      refine bodyPost_ret (v := .tuple #[.int .i64 0, .agg #[.int .i64 0, .int .i64 0, .int .i64 0, .bool false]]) ?_ rfl ⟨ret_sh HO.out, hba⟩
      rw [results_tmp_cell rfl]
      go_simp
  · have HO : Hid (shE ⟨x, y, z, true⟩ b = (x, ⟨0, 0, 0, false⟩)) := by show _ = _; unfold shE elZ; simp
    go_enter Tryz.func76, Tryz.ntmps76
    go_wp2
    refine bodyPost_ret (v := .tuple #[.int .i64 x, .agg #[.int .i64 0, .int .i64 0, .int .i64 0, .bool false]]) ?_ rfl ⟨ret_sh HO.out, hba⟩
    rw [results_tmp_cell rfl]
    go_simp
end Go.Proofs.YtanfebccenfffaaGreatDoor

namespace Go.Proofs.YtanfebccenfffaaGreatDoor
open Go.RowKit

theorem own_type {u : World} {B B' e e' size size' n n' : Nat} {v v' : Value} {xs xs' : List Value} (h : u.ownsRow B e size v n xs) (h' : u.ownsRow B' e' size' v' n' xs') (he : e ≠ e') : v.ownBlock = none ∨ v.ownBlock ≠ v'.ownBlock := by
  rcases h.2 with ⟨rfl, _⟩ | ⟨g, cap, cur, rfl, _, hg, _⟩
  · exact .inl rfl
  · refine .inr fun c => ?_
    rcases h'.2 with ⟨rfl, _⟩ | ⟨g', cap', cur', rfl, _, hg', _⟩
    · cases c
    · have : g = g' := Option.some.inj c
      subst this
      rw [hg] at hg'
      injection hg' with e1
      injection e1 with _ e2 _
      exact he e2

end Go.Proofs.YtanfebccenfffaaGreatDoor

namespace Go.Proofs.YtanfebccenfffaaGreatDoor
open Go.RowKit

theorem set4_block {w : World} {n : Nat} {x y z t : Value} {T : TypeId} (h : w.heap[n]? = some (.cells #[x, y, z, t] T)) (a b c d : Value) :
    ((((w.setCell ⟨n, 0, none⟩ a).setCell ⟨n, 1, none⟩ b).setCell ⟨n, 2, none⟩ c).setCell ⟨n, 3, none⟩ d).heap[n]? = some (.cells #[a, b, c, d] T) ∧ w.grownBy ((((w.setCell ⟨n, 0, none⟩ a).setCell ⟨n, 1, none⟩ b).setCell ⟨n, 2, none⟩ c).setCell ⟨n, 3, none⟩ d) (some n) := by
  have h1 := heap_setCell_same w n 0 _ _ a h
  have h2 := heap_setCell_same _ n 1 _ _ b h1
  have h3 := heap_setCell_same _ n 2 _ _ c h2
  have h4 := heap_setCell_same _ n 3 _ _ d h3
  refine ⟨h4, rfl, rfl, rfl, by simp [World.setCell], fun k hk hne => ?_⟩
  have hkn : k ≠ n := fun e => hne (by rw [e])
  rw [heap_setCell_other _ _ k _ hkn, heap_setCell_other _ _ k _ hkn, heap_setCell_other _ _ k _ hkn, heap_setCell_other _ _ k _ hkn]

theorem frozen_row4 {w : World} {n : Nat} {cs : Array Value} {T : TypeId} (h : w.heap[n]? = some (.cells cs T)) (j : Nat) : w.frozen? ⟨n, j, none⟩ = false := by simp [World.frozen?, h]

def FpRel (w : World) (sh : Bool) (es : List El) (v6 v7 bv iv : Value) (wr : World) : Prop :=
  ∃ (k : Nat) (fs : List Int) (xs : List El) (b b' : Bool), k ≤ es.length ∧ iv = .int .i64 k ∧ bv = .bool b ∧ fourS sh es k = (fs, xs, b') ∧ (sh = true → b = b') ∧ Ints wr w.heap.size v6 fs ∧ Elems wr w.heap.size v7 xs ∧ Below w.heap.size w wr

theorem below_grownBy4 {w w' : World} (hb : Below w.heap.size w w') (row : Option Nat) : w.grownBy w' row := ⟨hb.os, hb.tape, hb.output, hb.size, fun k hk _ => hb.block k hk⟩

set_option maxRecDepth 100000 in
set_option maxHeartbeats 8000000 in
theorem implFourth_plain (w : World) (B g cap : Nat) (es : List El) (hz : es.length ≤ 1000) (hL : Elems w B (.slice (some ⟨g, 0, none⟩) es.length cap) es) :
    Calls Tryz.prog 55 #[.slice (some ⟨g, 0, none⟩) es.length cap, .bool false] w fun e w' => ∃ v v', e = .returned (.tuple #[v, v', .bool true]) ∧ Ints w' w.heap.size v (fourths false es) ∧ Elems w' w.heap.size v' (counted false es) ∧ Below w.heap.size w w' := by
  obtain ⟨i0, hi0, hz0, hs0, hy0⟩ := info_parts info_int
  obtain ⟨i1, hi1, hz1, hs1, hy1⟩ := info_parts info_elem
  have hz8 : ¬ (1000 : Int) < (es.length : Int) := by omega
  go_enter Tryz.func55, Tryz.ntmps55
  go_wp2
  go_loopw [7, 8, 9, 18] (fun v6 v7 bv iv wr => FpRel w false es v6 v7 bv iv wr) (fun _ _ _ iv _ => es.length - (intOf iv).toNat)
  case atStart => exact ⟨0, [], [], false, false, Nat.zero_le _, rfl, rfl, rfl, fun _ => rfl, World.ownsRow_nil _ _ _ _, World.ownsRow_nil _ _ _ _, Below.refl _ _⟩
  case round =>
    obtain ⟨k, fs, xs, b, b', hk, rfl, rfl, hf, hbb, hI, hE, hbw⟩ := hrel
    have hfl := fourS_len false es k
    rw [hf] at hfl
    have hfl1 : fs.length ≤ k := hfl.1
    have hfl2 : xs.length ≤ k := hfl.2
    have HF : Hid (fourS false es k = (fs, xs, b')) := hf
    clear hf hfl
    by_cases hlt : k < es.length
    · obtain ⟨e, he⟩ : ∃ e, es[k]? = some e := ⟨_, List.getElem?_eq_getElem hlt⟩
      have hS2 := fourS_succ he HF.out
      obtain ⟨a0, a1, a2, a3⟩ := (hL.below hbw).cells k e he
      have hk8 : (k : Int) < (es.length : Int) := by omega
      have hsz := hbw.size
      obtain ⟨x, y, z, v⟩ := e
      simp only at a0 a1 a2 a3
      clear he HF hL
      rw [four1_plain] at hS2
      have HS2 : Hid _ := hS2
      clear hS2 hbb
      have HI : Hid (Ints _ _ _ _) := hI
      have HE : Hid (Elems _ _ _ _) := hE
      have HBW : Hid (Below _ _ _) := hbw
      have hba : Below w.heap.size w (wr.alloc (.cells #[.int .i64 x, .int .i64 y, .int .i64 z, .bool v] 79)) := hbw.alloc hbw.size _
      have HBA : Hid (Below _ _ _) := hba
      have hblk : (wr.alloc (.cells #[.int .i64 x, .int .i64 y, .int .i64 z, .bool v] 79)).heap[wr.heap.size]? = some (.cells #[.int .i64 x, .int .i64 y, .int .i64 z, .bool v] 79) := heap_alloc_new wr _
      have HBLK : Hid _ := hblk
      clear hblk hI hE hbw hba
      go_upto_region 9 with fail
      go_cut [9] from 22 to 31 (fun bv wx => bv = .bool (behB b ⟨x, y, z, v⟩) ∧ wx = wr.alloc (.cells #[.int .i64 x, .int .i64 y, .int .i64 z, .bool v] 79))
      case first =>
        clear HS2 HI HE HBW HBLK HBA a0 a1 a2 a3
        cases v
        · cases b
          · go_wp2
            go_meet
            case rel => exact ⟨rfl, rfl⟩
          · by_cases hx : x = 0
            · subst hx
              go_wp2
              go_meet
              case rel => exact ⟨rfl, rfl⟩
            · have hx2 : (x == 0) = false := by simpa using hx
              have HXB : Hid (behB true ⟨x, y, z, false⟩ = false) := by show _ = _; unfold behB; simp [hx]
              go_wp2
              go_meet
              case rel => exact ⟨by rw [HXB.out], rfl⟩
        · go_wp2
          go_meet
          case rel => exact ⟨by cases b <;> rfl, rfl⟩
      case rest =>
        obtain ⟨rfl, rfl⟩ := hcut
        clear a0 a1 a2 a3
        generalize behB b ⟨x, y, z, v⟩ = bb at *
        have hIz : (wr.alloc (.cells #[.int .i64 x, .int .i64 y, .int .i64 z, .bool v] 79)).ownsRow w.heap.size 3 1 u7 fs.length (fs.map (Value.int .i64)) := World.ownsRow.alloc HI.out _
        have hEz : (wr.alloc (.cells #[.int .i64 x, .int .i64 y, .int .i64 z, .bool v] 79)).ownsRow w.heap.size 79 4 u8 xs.length (elAll xs) := World.ownsRow.alloc HE.out _
        have hbz := HBA.out
        have hblkz := HBLK.out
        have hltz : wr.heap.size < (wr.alloc (.cells #[.int .i64 x, .int .i64 y, .int .i64 z, .bool v] 79)).heap.size := by simp
        have hlowz : ∀ j, u7.ownBlock = some j → j < wr.heap.size := fun j hj => (World.ownsRow.lt HI.out j hj).2
        have HHZ : Hid (_ = _) := hblkz
        have HBZ : Hid (Below _ _ _) := hbz
        have hszz := hbz.size
        clear hblkz hbz
        unfold Ints at *
        unfold Elems at *
        go_wp2_with (at_builtin; refine wpList_append_own _ rfl _ _ 32 rfl w.heap.size 3 i0 (.int .i64 0) 1 8 Tryz.underlying32 hi0 hz0 hs0 hy0 rfl (by decide) _ _ _ rfl (hIz.alloc _) ⟨wr.heap.size + 1, 0, none⟩ 1 1 [.int .i64 65535] rfl rfl (cells1_at _ _ _ _ (by simp)) (fun u hu => by simp at hu; subst hu; rfl) (by unfold maxLen; omega) (by omega) (by simp; omega) ?_)
        intro v6' w4 ho4 hg4 _
        have hI4 : Ints w4 w.heap.size v6' (fs ++ [65535]) := Ints.snoc ho4
        have hE4 : Elems w4 w.heap.size u8 xs := World.ownsRow.kept (hEz.alloc _) hg4 (own_type hEz hIz (by decide))
        have hb4 : w4.heap[wr.heap.size]? = some (.cells #[.int .i64 x, .int .i64 y, .int .i64 z, .bool v] 79) := by
          rw [hg4.block wr.heap.size (by simp; omega) (fun c => by have := hlowz wr.heap.size c.symm; omega), Below.heap_alloc _ _ _ hltz]; exact HHZ.out
        have hbw4 : Below w.heap.size w w4 := Below.grown (HBZ.out.alloc HBZ.out.size _) hg4 (HBZ.out.alloc HBZ.out.size _).size (fun j hj => (World.ownsRow.lt hIz j hj).1)
        have e0 := cell_of_row _ _ 0 _ _ _ hb4
        have e1 := cell_of_row _ _ 1 _ _ _ hb4
        have e2 := cell_of_row _ _ 2 _ _ _ hb4
        have e3 := cell_of_row _ _ 3 _ _ _ hb4
        have hsz4 := hbw4.size
        have HI4 : Hid (Ints _ _ _ _) := hI4
        have HB4 : Hid (Below _ _ _) := hbw4
        clear ho4 hg4 hb4 HBLK HHZ hlowz hIz hEz hI4 hbw4 HI HE HBW HBA HBZ
        unfold Elems at hE4
        go_wp2_with (at_builtin; refine wpList_append_own _ rfl _ _ 61 rfl w.heap.size 79 i1 _ 4 32 Tryz.underlying61 hi1 hz1 hs1 hy1 rfl (by decide) _ _ _ rfl (hE4.alloc _) ⟨w4.heap.size, 0, none⟩ 1 1 (elC (⟨x, y, z, v⟩ : El)) rfl rfl (cells4_at _ _ (⟨x, y, z, v⟩ : El) _ (by simp)) ?hone (by unfold maxLen; omega) (by omega) (by simp; omega) ?_)
        case hone =>
          intro u hu
          simp [elC] at hu
          rcases hu with rfl | rfl | rfl | rfl <;> rfl
        intro v7' w5 ho5 hg5 _
        have hE5 : Elems w5 w.heap.size v7' (xs ++ [(⟨x, y, z, v⟩ : El)]) := Elems.snoc ho5
        have hI5 : Ints w5 w.heap.size v6' (fs ++ [65535]) := World.ownsRow.kept (World.ownsRow.alloc HI4.out _) hg5 (own_type HI4.out hE4 (by decide))
        have hbw5 : Below w.heap.size w w5 := Below.grown (HB4.out.alloc HB4.out.size _) hg5 (HB4.out.alloc HB4.out.size _).size (fun j hj => (World.ownsRow.lt hE4 j hj).1)
        have HE5 : Hid (Elems _ _ _ _) := hE5
        have HI5 : Hid (Ints _ _ _ _) := hI5
        have HB5 : Hid (Below _ _ _) := hbw5
        clear ho5 hg5 hE5 hI5 hbw5 HI4 HB4 e0 e1 e2 e3 hE4
        go_wp2
        exact ⟨⟨k + 1, _, _, _, _, hlt, by go_num, rfl, HS2.out, (fun c => by cases c), HI5.out, HE5.out, HB5.out⟩, by simp [intOf]; omega⟩
    · have hk3 : k = es.length := by omega
      subst hk3
      have HFN : Hid (fs = fourths false es ∧ xs = counted false es) := by
        show _ ∧ _
        unfold fourths counted
        rw [HF.out]
        exact ⟨rfl, rfl⟩
      have HI : Hid (Ints _ _ _ _) := hI
      have HE : Hid (Elems _ _ _ _) := hE
      have HB : Hid (Below _ _ _) := hbw
      clear hI hE hbw HF hL hbb
      go_wp2
      go_ret3
      obtain ⟨rfl, rfl⟩ := HFN.out
      exact ⟨_, _, rfl, HI.out, HE.out, HB.out⟩

set_option maxRecDepth 100000 in
set_option maxHeartbeats 8000000 in
theorem implFourth_shift (w : World) (B g cap : Nat) (es : List El) (hz : es.length ≤ 1000) (hL : Elems w B (.slice (some ⟨g, 0, none⟩) es.length cap) es) :
    Calls Tryz.prog 55 #[.slice (some ⟨g, 0, none⟩) es.length cap, .bool true] w fun e w' => ∃ v v', e = .returned (.tuple #[v, v', .bool true]) ∧ Ints w' w.heap.size v (fourths true es) ∧ Elems w' w.heap.size v' (counted true es) ∧ Below w.heap.size w w' := by
  obtain ⟨i0, hi0, hz0, hs0, hy0⟩ := info_parts info_int
  obtain ⟨i1, hi1, hz1, hs1, hy1⟩ := info_parts info_elem
  have hz8 : ¬ (1000 : Int) < (es.length : Int) := by omega
  go_enter Tryz.func55, Tryz.ntmps55
  go_wp2
  go_loopw [7, 8, 9, 18] (fun v6 v7 bv iv wr => FpRel w true es v6 v7 bv iv wr) (fun _ _ _ iv _ => es.length - (intOf iv).toNat)
  case atStart => exact ⟨0, [], [], false, false, Nat.zero_le _, rfl, rfl, rfl, fun _ => rfl, World.ownsRow_nil _ _ _ _, World.ownsRow_nil _ _ _ _, Below.refl _ _⟩
  case round =>
    obtain ⟨k, fs, xs, b, b', hk, rfl, rfl, hf, hbb, hI, hE, hbw⟩ := hrel
    have hfl := fourS_len true es k
    rw [hf] at hfl
    have hfl1 : fs.length ≤ k := hfl.1
    have hfl2 : xs.length ≤ k := hfl.2
    have HF : Hid (fourS true es k = (fs, xs, b')) := hf
    clear hf hfl
    by_cases hlt : k < es.length
    · obtain ⟨e, he⟩ : ∃ e, es[k]? = some e := ⟨_, List.getElem?_eq_getElem hlt⟩
      have hS2 := fourS_succ he HF.out
      obtain ⟨a0, a1, a2, a3⟩ := (hL.below hbw).cells k e he
      have hk8 : (k : Int) < (es.length : Int) := by omega
      have hsz := hbw.size
      obtain ⟨x, y, z, v⟩ := e
      simp only at a0 a1 a2 a3
      clear he HF hL
      rw [← hbb rfl, four1_shift] at hS2
      have HS2 : Hid _ := hS2
      clear hS2 hbb
      have HI : Hid (Ints _ _ _ _) := hI
      have HE : Hid (Elems _ _ _ _) := hE
      have HBW : Hid (Below _ _ _) := hbw
      have hba : Below w.heap.size w (wr.alloc (.cells #[.int .i64 x, .int .i64 y, .int .i64 z, .bool v] 79)) := hbw.alloc hbw.size _
      have HBA : Hid (Below _ _ _) := hba
      have hblk : (wr.alloc (.cells #[.int .i64 x, .int .i64 y, .int .i64 z, .bool v] 79)).heap[wr.heap.size]? = some (.cells #[.int .i64 x, .int .i64 y, .int .i64 z, .bool v] 79) := heap_alloc_new wr _
      have HBLK : Hid _ := hblk
      clear hblk hI hE hbw hba
      go_upto_region 9 with fail
      go_cut [9] from 22 to 31 (fun bv wx => bv = .bool (behB b ⟨x, y, z, v⟩) ∧ wx = wr.alloc (.cells #[.int .i64 x, .int .i64 y, .int .i64 z, .bool v] 79))
      case first =>
        clear HS2 HI HE HBW HBLK HBA a0 a1 a2 a3
        cases v
        · cases b
          · go_wp2
            go_meet
            case rel => exact ⟨rfl, rfl⟩
          · by_cases hx : x = 0
            · subst hx
              go_wp2
              go_meet
              case rel => exact ⟨rfl, rfl⟩
            · have hx2 : (x == 0) = false := by simpa using hx
              have HXB : Hid (behB true ⟨x, y, z, false⟩ = false) := by show _ = _; unfold behB; simp [hx]
              go_wp2
              go_meet
              case rel => exact ⟨by rw [HXB.out], rfl⟩
        · go_wp2
          go_meet
          case rel => exact ⟨by cases b <;> rfl, rfl⟩
      case rest =>
        obtain ⟨rfl, rfl⟩ := hcut
        clear a0 a1 a2 a3
        have SH := fun u => shift_any ⟨x, y, z, v⟩ (behB b ⟨x, y, z, v⟩) u
        obtain ⟨bb, HBB⟩ : ∃ bb, Hid (behB b ⟨x, y, z, v⟩ = bb) := ⟨_, rfl⟩
        rw [HBB.out] at SH HS2
        rw [HBB.out]
        obtain ⟨n4, x', y', z', v', HP⟩ : ∃ n4 x' y' z' v', Hid (shE ⟨x, y, z, v⟩ bb = ((n4 : Int), (⟨x', y', z', v'⟩ : El))) := ⟨_, _, _, _, _, rfl⟩
        rw [HP.out] at SH HS2
        simp only at SH
        go_wp2_with fail
        refine (SH _).mono ?_
        rintro e w2 ⟨rfl, b2⟩
        clear SH
        have hb2 : w2.heap[wr.heap.size]? = some (.cells #[.int .i64 x, .int .i64 y, .int .i64 z, .bool v] 79) := (b2.block wr.heap.size (by simp)).trans HBLK.out
        have hlt2 : wr.heap.size < w2.heap.size := (Array.getElem?_eq_some_iff.1 hb2).1
        have d0 := cell_of_row _ _ 0 _ _ _ hb2
        have d1 := cell_of_row _ _ 1 _ _ _ hb2
        have d2 := cell_of_row _ _ 2 _ _ _ hb2
        have d3 := cell_of_row _ _ 3 _ _ _ hb2
        have f0 := frozen_row4 hb2
        obtain ⟨hblkz, hgz⟩ := set4_block hb2 (.int .i64 x') (.int .i64 y') (.int .i64 z') (.bool v')
        have hI2 := World.ownsRow.kept (World.ownsRow.alloc HI.out (.cells #[.int .i64 x, .int .i64 y, .int .i64 z, .bool v] 79)) (row := none) (below_grownBy4 b2 none) (by cases h : u7.ownBlock <;> simp)
        have hE2 := World.ownsRow.kept (World.ownsRow.alloc HE.out (.cells #[.int .i64 x, .int .i64 y, .int .i64 z, .bool v] 79)) (row := none) (below_grownBy4 b2 none) (by cases h : u8.ownBlock <;> simp)
        have hlowz : ∀ j, u7.ownBlock = some j → j < wr.heap.size := fun j hj => (World.ownsRow.lt HI.out j hj).2
        have hlowy : ∀ j, u8.ownBlock = some j → j < wr.heap.size := fun j hj => (World.ownsRow.lt HE.out j hj).2
        have hIz := World.ownsRow.kept hI2 hgz (by
          cases h : u7.ownBlock with
          | none => exact .inl rfl
          | some j => exact .inr fun c => by have := hlowz j h; have := Option.some.inj c; omega)
        have hEz := World.ownsRow.kept hE2 hgz (by
          cases h : u8.ownBlock with
          | none => exact .inl rfl
          | some j => exact .inr fun c => by have := hlowy j h; have := Option.some.inj c; omega)
        have hbz : Below w.heap.size w ((((w2.setCell ⟨wr.heap.size, 0, none⟩ (.int .i64 x')).setCell ⟨wr.heap.size, 1, none⟩ (.int .i64 y')).setCell ⟨wr.heap.size, 2, none⟩ (.int .i64 z')).setCell ⟨wr.heap.size, 3, none⟩ (.bool v')) := ((((HBA.out.trans (b2.mono HBA.out.size)).setCell HBW.out.size _).setCell HBW.out.size _).setCell HBW.out.size _).setCell HBW.out.size _
        have hltz : wr.heap.size < ((((w2.setCell ⟨wr.heap.size, 0, none⟩ (.int .i64 x')).setCell ⟨wr.heap.size, 1, none⟩ (.int .i64 y')).setCell ⟨wr.heap.size, 2, none⟩ (.int .i64 z')).setCell ⟨wr.heap.size, 3, none⟩ (.bool v')).heap.size := (Array.getElem?_eq_some_iff.1 hblkz).1
        clear b2 hb2 hI2 hE2 hgz
        have HHZ : Hid (_ = _) := hblkz
        have HBZ : Hid (Below _ _ _) := hbz
        have hszz := hbz.size
        clear hblkz hbz
        unfold Ints at *
        unfold Elems at *
        go_wp2_with (at_builtin; refine wpList_append_own _ rfl _ _ 32 rfl w.heap.size 3 i0 (.int .i64 0) 1 8 Tryz.underlying32 hi0 hz0 hs0 hy0 rfl (by decide) _ _ _ rfl (hIz.alloc _) ⟨w2.heap.size, 0, none⟩ 1 1 [.int .i64 n4] rfl rfl (cells1_at _ _ _ _ (by simp)) (fun u hu => by simp at hu; subst hu; rfl) (by unfold maxLen; omega) (by omega) (by simp; omega) ?_)
        intro v6' w4 ho4 hg4 _
        have hI4 : Ints w4 w.heap.size v6' (fs ++ [n4]) := Ints.snoc ho4
        have hE4 : Elems w4 w.heap.size u8 xs := World.ownsRow.kept (hEz.alloc _) hg4 (own_type hEz hIz (by decide))
        have hb4 : w4.heap[wr.heap.size]? = some (.cells #[.int .i64 x', .int .i64 y', .int .i64 z', .bool v'] 79) := by
          rw [hg4.block wr.heap.size (by simp; omega) (fun c => by have := hlowz wr.heap.size c.symm; omega), Below.heap_alloc _ _ _ hltz]; exact HHZ.out
        have hbw4 : Below w.heap.size w w4 := Below.grown (HBZ.out.alloc HBZ.out.size _) hg4 (HBZ.out.alloc HBZ.out.size _).size (fun j hj => (World.ownsRow.lt hIz j hj).1)
        have e0 := cell_of_row _ _ 0 _ _ _ hb4
        have e1 := cell_of_row _ _ 1 _ _ _ hb4
        have e2 := cell_of_row _ _ 2 _ _ _ hb4
        have e3 := cell_of_row _ _ 3 _ _ _ hb4
        have hsz4 := hbw4.size
        have HI4 : Hid (Ints _ _ _ _) := hI4
        have HB4 : Hid (Below _ _ _) := hbw4
        clear ho4 hg4 hb4 HBLK HHZ hlowz hIz hEz hI4 hbw4 HI HE HBW HBA HBZ
        unfold Elems at hE4
        go_wp2_with (at_builtin; refine wpList_append_own _ rfl _ _ 61 rfl w.heap.size 79 i1 _ 4 32 Tryz.underlying61 hi1 hz1 hs1 hy1 rfl (by decide) _ _ _ rfl (hE4.alloc _) ⟨w4.heap.size, 0, none⟩ 1 1 (elC (⟨x', y', z', v'⟩ : El)) rfl rfl (cells4_at _ _ (⟨x', y', z', v'⟩ : El) _ (by simp)) ?hone (by unfold maxLen; omega) (by omega) (by simp; omega) ?_)
        case hone =>
          intro u hu
          simp [elC] at hu
          rcases hu with rfl | rfl | rfl | rfl <;> rfl
        intro v7' w5 ho5 hg5 _
        have hE5 : Elems w5 w.heap.size v7' (xs ++ [(⟨x', y', z', v'⟩ : El)]) := Elems.snoc ho5
        have hI5 : Ints w5 w.heap.size v6' (fs ++ [n4]) := World.ownsRow.kept (World.ownsRow.alloc HI4.out _) hg5 (own_type HI4.out hE4 (by decide))
        have hbw5 : Below w.heap.size w w5 := Below.grown (HB4.out.alloc HB4.out.size _) hg5 (HB4.out.alloc HB4.out.size _).size (fun j hj => (World.ownsRow.lt hE4 j hj).1)
        have HE5 : Hid (Elems _ _ _ _) := hE5
        have HI5 : Hid (Ints _ _ _ _) := hI5
        have HB5 : Hid (Below _ _ _) := hbw5
        clear ho5 hg5 hE5 hI5 hbw5 HI4 HB4 e0 e1 e2 e3 hE4
        go_wp2
        exact ⟨⟨k + 1, _, _, _, _, hlt, by go_num, rfl, HS2.out, (fun _ => rfl), HI5.out, HE5.out, HB5.out⟩, by simp [intOf]; omega⟩
    · have hk3 : k = es.length := by omega
      subst hk3
      have HFN : Hid (fs = fourths true es ∧ xs = counted true es) := by
        show _ ∧ _
        unfold fourths counted
        rw [HF.out]
        exact ⟨rfl, rfl⟩
      have HI : Hid (Ints _ _ _ _) := hI
      have HE : Hid (Elems _ _ _ _) := hE
      have HB : Hid (Below _ _ _) := hbw
      clear hI hE hbw HF hL hbb
      go_wp2
      go_ret3
      obtain ⟨rfl, rfl⟩ := HFN.out
      exact ⟨_, _, rfl, HI.out, HE.out, HB.out⟩

set_option maxRecDepth 100000 in
set_option maxHeartbeats 1000000 in
theorem implFourth_nil (w : World) (sh : Bool) : Calls Tryz.prog 55 #[.slice none 0 0, .bool sh] w fun e w' => ∃ v v', e = .returned (.tuple #[v, v', .bool true]) ∧ Ints w' w.heap.size v [] ∧ Elems w' w.heap.size v' [] ∧ Below w.heap.size w w' := by
  go_enter Tryz.func55, Tryz.ntmps55
  go_wp2
  go_loopw [7, 8, 9, 18] (fun v6 v7 bv iv wr => v6 = .slice none 0 0 ∧ v7 = .slice none 0 0 ∧ bv = .bool false ∧ iv = .int .i64 0 ∧ wr = w) (fun _ _ _ _ _ => 0)
  case atStart => exact ⟨rfl, rfl, rfl, rfl, rfl⟩
  case round =>
    obtain ⟨rfl, rfl, rfl, rfl, rfl⟩ := hrel
    go_wp2
    go_ret3
    exact ⟨_, _, rfl, World.ownsRow_nil _ _ _ _, World.ownsRow_nil _ _ _ _, Below.refl _ _⟩

set_option maxRecDepth 100000 in
set_option maxHeartbeats 1000000 in
theorem implFourth_long (w : World) (a : Option Addr) (n c : Nat) (sh : Bool) (h : 1000 < n) : Calls Tryz.prog 55 #[.slice a n c, .bool sh] w fun e w' => ∃ v v', e = .returned (.tuple #[v, v', .bool false]) ∧ Ints w' w.heap.size v [] ∧ Elems w' w.heap.size v' [] ∧ Below w.heap.size w w' := by
  have h2 : (1000 : Int) < (n : Int) := by omega
  go_enter Tryz.func55, Tryz.ntmps55
  go_wp2
  go_ret3
  exact ⟨_, _, rfl, World.ownsRow_nil _ _ _ _, World.ownsRow_nil _ _ _ _, Below.refl _ _⟩

theorem implFourth_ok {w : World} {B : Nat} {v : Value} {es : List El} (sh : Bool) (hz : es.length ≤ 1000) (hL : Elems w B v es) :
    Calls Tryz.prog 55 #[v, .bool sh] w fun e w' => ∃ v v', e = .returned (.tuple #[v, v', .bool true]) ∧ Ints w' w.heap.size v (fourths sh es) ∧ Elems w' w.heap.size v' (counted sh es) ∧ Below w.heap.size w w' := by
  rcases hL.form with ⟨rfl, rfl⟩ | ⟨g, cap, rfl, _, _⟩
  · exact implFourth_nil w sh
  · cases sh
    · exact implFourth_plain w B g cap es hz hL
    · exact implFourth_shift w B g cap es hz hL
end Go.Proofs.YtanfebccenfffaaGreatDoor

namespace Go.Proofs.YtanfebccenfffaaGreatDoor
open Go.RowKit

theorem els_slice {w : World} {B : Nat} {v : Value} {es : List El} (h : Elems w B v es) :
    ∃ a c, v = .slice a es.length c ∧ ∀ k e, es[k]? = some e → ∃ g, a = some ⟨g, 0, none⟩ ∧ g < w.heap.size ∧ w.cell? ⟨g, k * 4, none⟩ = some (.int .i64 e.first) ∧ w.cell? ⟨g, k * 4 + 1, none⟩ = some (.int .i64 e.second) ∧ w.cell? ⟨g, k * 4 + 2, none⟩ = some (.int .i64 e.third) ∧ w.cell? ⟨g, k * 4 + 3, none⟩ = some (.bool e.varies) := by
  rcases h.form with ⟨rfl, rfl⟩ | ⟨g, cap, rfl, _, _⟩
  · exact ⟨_, _, rfl, fun k e he => by simp at he⟩
  · exact ⟨_, _, rfl, fun k e he => ⟨g, rfl, (World.ownsRow.lt h g rfl).2, h.cells k e he⟩⟩

theorem ints_slice {w : World} {B : Nat} {v : Value} {l : List Int} (h : Ints w B v l) :
    ∃ a c, v = .slice a l.length c ∧ ∀ k, k < l.length → ∃ g, a = some ⟨g, 0, none⟩ ∧ g < w.heap.size ∧ w.cell? ⟨g, k, none⟩ = some (.int .i64 (at0 l k)) := by
  rcases h.form with ⟨rfl, rfl⟩ | ⟨g, cap, rfl, _, _⟩
  · exact ⟨_, _, rfl, fun k hk => by simp at hk⟩
  · exact ⟨_, _, rfl, fun k hk => ⟨g, rfl, (World.ownsRow.lt h g rfl).2, h.cell k hk⟩⟩

theorem low_ints {w : World} {B B' : Nat} {v : Value} {l : List Int} (h : Ints w B' v l) (hB : B ≤ B') : Ints w B v l := by
  refine ⟨h.1, ?_⟩
  rcases h.2 with h | ⟨g, cap, cur, h1, h2, h3⟩
  · exact .inl h
  · exact .inr ⟨g, cap, cur, h1, Nat.le_trans hB h2, h3⟩

def WtRel (w1 : World) (lv : Nat) (xs : List El) (fs : List Int) (v i : Value) (wr : World) : Prop :=
  ∃ k : Nat, k ≤ xs.length ∧ i = .int .i64 k ∧ Ints wr w1.heap.size v (wtsK lv xs fs k) ∧ Below w1.heap.size w1 wr

theorem wtsK_zero {lv : Nat} {xs : List El} {fs : List Int} {k : Nat} (h : wtL lv (elAt xs k) (at0 fs k) = 0) : wtsK lv xs fs (k + 1) = wtsK lv xs fs k := by
  rw [wtsK, ifNot_zero h, List.append_nil]
theorem wtsK_some {lv : Nat} {xs : List El} {fs : List Int} {k : Nat} (h : wtL lv (elAt xs k) (at0 fs k) ≠ 0) : wtsK lv xs fs (k + 1) = wtsK lv xs fs k ++ [wtL lv (elAt xs k) (at0 fs k)] := by
  rw [wtsK, ifNot_some h]
theorem elAt_of {xs : List El} {k : Nat} {e : El} (h : xs[k]? = some e) : elAt xs k = e := by unfold elAt; rw [h]; rfl

set_option maxRecDepth 100000 in
set_option maxHeartbeats 1000000 in
theorem level1_any (ea : Option Addr) (en ec : Nat) (fa : Option Addr) (fn fc : Nat) (w : World) :
    Calls Tryz.prog 56 #[.agg #[.slice ea en ec, .slice fa fn fc], .int .i64 1] w fun e w' => e = .returned (.func (.func 77) #[] #[.pointer (some ⟨w.heap.size, 0, none⟩)]) ∧ w' = w.alloc (.cells #[.slice ea en ec, .slice fa fn fc] 63) := by
  go_enter Tryz.func56, Tryz.ntmps56
  go_wp2
  go_ret
  exact ⟨rfl, rfl⟩

set_option maxRecDepth 100000 in
set_option maxHeartbeats 1000000 in
theorem level2_any (ea : Option Addr) (en ec : Nat) (fa : Option Addr) (fn fc : Nat) (w : World) :
    Calls Tryz.prog 56 #[.agg #[.slice ea en ec, .slice fa fn fc], .int .i64 2] w fun e w' => e = .returned (.func (.func 78) #[] #[.pointer (some ⟨w.heap.size, 0, none⟩)]) ∧ w' = w.alloc (.cells #[.slice ea en ec, .slice fa fn fc] 63) := by
  go_enter Tryz.func56, Tryz.ntmps56
  go_wp2
  go_ret
  exact ⟨rfl, rfl⟩

set_option maxRecDepth 100000 in
set_option maxHeartbeats 1000000 in
theorem level3_any (ea : Option Addr) (en ec : Nat) (fa : Option Addr) (fn fc : Nat) (w : World) :
    Calls Tryz.prog 56 #[.agg #[.slice ea en ec, .slice fa fn fc], .int .i64 3] w fun e w' => e = .returned (.func (.func 79) #[] #[.pointer (some ⟨w.heap.size, 0, none⟩)]) ∧ w' = w.alloc (.cells #[.slice ea en ec, .slice fa fn fc] 63) := by
  go_enter Tryz.func56, Tryz.ntmps56
  go_wp2
  go_ret
  exact ⟨rfl, rfl⟩

set_option maxRecDepth 100000 in
set_option maxHeartbeats 1000000 in
theorem level4_any (ea : Option Addr) (en ec : Nat) (fa : Option Addr) (fn fc : Nat) (w : World) :
    Calls Tryz.prog 56 #[.agg #[.slice ea en ec, .slice fa fn fc], .int .i64 4] w fun e w' => e = .returned (.func (.func 80) #[] #[.pointer (some ⟨w.heap.size, 0, none⟩)]) ∧ w' = w.alloc (.cells #[.slice ea en ec, .slice fa fn fc] 63) := by
  go_enter Tryz.func56, Tryz.ntmps56
  go_wp2
  go_ret
  exact ⟨rfl, rfl⟩

set_option maxRecDepth 100000 in
set_option maxHeartbeats 1000000 in
theorem clos1_any (u : World) (b g n c k : Nat) (vf : Value) (x : Int) (hb : u.cell? ⟨b, 0, none⟩ = some (.slice (some ⟨g, 0, none⟩) n c)) (_hb2 : u.cell? ⟨b, 1, none⟩ = some vf) (hk : k < n) (hx : u.cell? ⟨g, k * 4, none⟩ = some (.int .i64 x)) :
    Calls Tryz.prog 77 #[.int .i64 k, .pointer (some ⟨b, 0, none⟩)] u fun e w' => e = .returned (.int .i64 x) ∧ w' = u := by
  have hk8 : (k : Int) < (n : Int) := by omega
  go_enter Tryz.func77, Tryz.ntmps77
  go_wp2
  go_ret
  exact ⟨rfl, rfl⟩

set_option maxRecDepth 100000 in
set_option maxHeartbeats 4000000 in
theorem weights1_any {w : World} {B B' : Nat} {ve vf : Value} {xs : List El} {fs : List Int} (hE : Elems w B ve xs) (hI : Ints w B' vf fs) (hl : fs.length = xs.length) (hn : xs.length ≤ 1048576) :
    Calls Tryz.prog 30 #[.agg #[ve, vf], .int .i64 1] w fun e w' => ∃ v, e = .returned v ∧ Ints w' w.heap.size v (wts 1 xs fs) ∧ Below w.heap.size w w' := by
  obtain ⟨i0, hi0, hz0, hs0, hy0⟩ := info_parts info_int
  obtain ⟨va, va2, rfl, hcE⟩ := els_slice hE
  obtain ⟨fa, fc, rfl, hcI⟩ := ints_slice hI
  have LV := fun u => level1_any va xs.length va2 fa fs.length fc u
  have hwb : Below w.heap.size w ((w.alloc (.cells #[.slice va xs.length va2, .slice fa fs.length fc] 63)).alloc (.cells #[.slice va xs.length va2, .slice fa fs.length fc] 63)) := ((Below.refl _ _).alloc (Nat.le_refl _) _).alloc (by simp) _
  have q0 : ((w.alloc (.cells #[.slice va xs.length va2, .slice fa fs.length fc] 63)).alloc (.cells #[.slice va xs.length va2, .slice fa fs.length fc] 63)).cell? ⟨w.heap.size + 1, 0, none⟩ = some (.slice va xs.length va2) := by simp
  have q1 : ((w.alloc (.cells #[.slice va xs.length va2, .slice fa fs.length fc] 63)).alloc (.cells #[.slice va xs.length va2, .slice fa fs.length fc] 63)).cell? ⟨w.heap.size + 1, 1, none⟩ = some (.slice fa fs.length fc) := by simp
  have HL : Hid (fs.length = xs.length) := hl
  clear hE hI hl
  obtain ⟨W, HW⟩ : ∃ W, Hid (W = (w.alloc (.cells #[.slice va xs.length va2, .slice fa fs.length fc] 63)).alloc (.cells #[.slice va xs.length va2, .slice fa fs.length fc] 63)) := ⟨_, rfl⟩
  have hWs : w.heap.size + 2 ≤ W.heap.size := by rw [HW.out]; simp
  rw [← HW.out] at hwb q0 q1
  have HQ : Hid (W.cell? ⟨w.heap.size + 1, 0, none⟩ = some (.slice va xs.length va2) ∧ W.cell? ⟨w.heap.size + 1, 1, none⟩ = some (.slice fa fs.length fc)) := ⟨q0, q1⟩
  clear q0 q1
  go_enter Tryz.func30, Tryz.ntmps30
  go_wp2_with fail
  refine (LV _).mono ?_
  rintro e w1 ⟨rfl, hw1⟩
  obtain rfl : W = w1 := HW.out.trans hw1.symm
  have z0 : W.cell? ⟨w.heap.size, 0, none⟩ = some (.slice va xs.length va2) := by rw [HW.out]; simp
  clear LV hw1 HW
  go_wp2_with fail
  go_loopw [6, 15] (fun v i wr => WtRel W 1 xs fs v i wr) (fun _ i _ => xs.length - (intOf i).toNat)
  case atStart => exact ⟨0, Nat.zero_le _, rfl, World.ownsRow_nil _ _ _ _, Below.refl _ _⟩
  case round =>
    clear z0
    obtain ⟨k, hk, rfl, hR, hbw⟩ := hrel
    have hrl := wtsK_len 1 xs fs k
    by_cases hlt : k < xs.length
    · have hk8 : (k : Int) < (xs.length : Int) := by omega
      have p0 : wr.cell? ⟨w.heap.size + 1, 0, none⟩ = some (.slice va xs.length va2) := (hbw.cell (p := ⟨w.heap.size + 1, 0, none⟩) (by show w.heap.size + 1 < W.heap.size; omega)).trans HQ.out.1
      have p1 : wr.cell? ⟨w.heap.size + 1, 1, none⟩ = some (.slice fa fs.length fc) := (hbw.cell (p := ⟨w.heap.size + 1, 1, none⟩) (by show w.heap.size + 1 < W.heap.size; omega)).trans HQ.out.2
      obtain ⟨e, he⟩ : ∃ e, xs[k]? = some e := ⟨_, List.getElem?_eq_getElem hlt⟩
      obtain ⟨g, hga, hgl, y1, y2, y3, _⟩ := hcE k e he
      subst hga
      have HV : Hid (wtL 1 (elAt xs k) (at0 fs k) = e.first) := by show _ = _; rw [elAt_of he]; rfl
      have CK := clos1_any wr (w.heap.size + 1) g xs.length va2 k (.slice fa fs.length fc) e.first p0 p1 hlt ((hbw.cell (p := ⟨g, k * 4, none⟩) (by show g < W.heap.size; omega)).trans (by simpa using (hwb.cell (p := ⟨g, k * 4, none⟩) hgl).trans y1))
      clear y1 hcE hcI p0 p1
      go_wp2_with fail
      refine CK.mono ?_
      rintro e' w3 ⟨rfl, hw3⟩
      obtain rfl : wr = w3 := hw3.symm
      clear CK
      have hsz := hbw.size
      by_cases h0 : e.first = 0
      · have HS : Hid (wtsK 1 xs fs (k + 1) = wtsK 1 xs fs k) := wtsK_zero (HV.out.trans h0)
        have HR : Hid (Ints _ _ _ _) := hR
        clear hR HV
        go_wp2
        exact ⟨⟨k + 1, by omega, by go_num, by rw [HS.out]; exact HR.out, hbw⟩, by simp [intOf]; omega⟩
      · have h0' : (e.first == 0) = false := by simpa using h0
        have HS : Hid (wtsK 1 xs fs (k + 1) = wtsK 1 xs fs k ++ [e.first]) := by
          have := wtsK_some (lv := 1) (xs := xs) (fs := fs) (k := k) (by rw [HV.out]; exact h0)
          rw [HV.out] at this
          exact this
        clear HV
        unfold Ints at hR
        go_wp2_with (at_builtin; refine wpList_append_own _ rfl _ _ 32 rfl W.heap.size 3 i0 (.int .i64 0) 1 8 Tryz.underlying32 hi0 hz0 hs0 hy0 rfl (by decide) _ _ _ rfl (hR.alloc _) ⟨wr.heap.size, 0, none⟩ 1 1 [.int .i64 (e.first)] rfl rfl (cells1_at _ _ _ _ (by simp)) (fun u hu => by simp at hu; subst hu; rfl) (by unfold maxLen; omega) (by omega) (by simp; omega) ?_)
        intro v6 w4 ho4 hg4 _
        have hI4 : Ints w4 W.heap.size v6 (wtsK 1 xs fs k ++ [e.first]) := Ints.snoc ho4
        have hb4 : Below W.heap.size W w4 := Below.grown (hbw.alloc hbw.size _) hg4 (hbw.alloc hbw.size _).size (fun j hj => (World.ownsRow.lt hR j hj).1)
        have HI4 : Hid (Ints _ _ _ _) := hI4
        clear ho4 hg4 hR hI4
        go_wp2
        exact ⟨⟨k + 1, by omega, by go_num, by rw [HS.out]; exact HI4.out, hb4⟩, by simp [intOf]; omega⟩
    · have hk3 : k = xs.length := by omega
      subst hk3
      have HR : Hid (Ints _ _ _ _) := hR
      clear hR
      go_wp2
      go_ret
      exact ⟨_, rfl, low_ints HR.out (by omega), hwb.trans (hbw.mono (by omega))⟩

set_option maxRecDepth 100000 in
set_option maxHeartbeats 1000000 in
theorem clos2_any (u : World) (b g n c k : Nat) (vf : Value) (x : Int) (hb : u.cell? ⟨b, 0, none⟩ = some (.slice (some ⟨g, 0, none⟩) n c)) (_hb2 : u.cell? ⟨b, 1, none⟩ = some vf) (hk : k < n) (hx : u.cell? ⟨g, k * 4 + 1, none⟩ = some (.int .i64 x)) :
    Calls Tryz.prog 78 #[.int .i64 k, .pointer (some ⟨b, 0, none⟩)] u fun e w' => e = .returned (.int .i64 x) ∧ w' = u := by
  have hk8 : (k : Int) < (n : Int) := by omega
  go_enter Tryz.func78, Tryz.ntmps78
  go_wp2
  go_ret
  exact ⟨rfl, rfl⟩

set_option maxRecDepth 100000 in
set_option maxHeartbeats 4000000 in
theorem weights2_any {w : World} {B B' : Nat} {ve vf : Value} {xs : List El} {fs : List Int} (hE : Elems w B ve xs) (hI : Ints w B' vf fs) (hl : fs.length = xs.length) (hn : xs.length ≤ 1048576) :
    Calls Tryz.prog 30 #[.agg #[ve, vf], .int .i64 2] w fun e w' => ∃ v, e = .returned v ∧ Ints w' w.heap.size v (wts 2 xs fs) ∧ Below w.heap.size w w' := by
  obtain ⟨i0, hi0, hz0, hs0, hy0⟩ := info_parts info_int
  obtain ⟨va, va2, rfl, hcE⟩ := els_slice hE
  obtain ⟨fa, fc, rfl, hcI⟩ := ints_slice hI
  have LV := fun u => level2_any va xs.length va2 fa fs.length fc u
  have hwb : Below w.heap.size w ((w.alloc (.cells #[.slice va xs.length va2, .slice fa fs.length fc] 63)).alloc (.cells #[.slice va xs.length va2, .slice fa fs.length fc] 63)) := ((Below.refl _ _).alloc (Nat.le_refl _) _).alloc (by simp) _
  have q0 : ((w.alloc (.cells #[.slice va xs.length va2, .slice fa fs.length fc] 63)).alloc (.cells #[.slice va xs.length va2, .slice fa fs.length fc] 63)).cell? ⟨w.heap.size + 1, 0, none⟩ = some (.slice va xs.length va2) := by simp
  have q1 : ((w.alloc (.cells #[.slice va xs.length va2, .slice fa fs.length fc] 63)).alloc (.cells #[.slice va xs.length va2, .slice fa fs.length fc] 63)).cell? ⟨w.heap.size + 1, 1, none⟩ = some (.slice fa fs.length fc) := by simp
  have HL : Hid (fs.length = xs.length) := hl
  clear hE hI hl
  obtain ⟨W, HW⟩ : ∃ W, Hid (W = (w.alloc (.cells #[.slice va xs.length va2, .slice fa fs.length fc] 63)).alloc (.cells #[.slice va xs.length va2, .slice fa fs.length fc] 63)) := ⟨_, rfl⟩
  have hWs : w.heap.size + 2 ≤ W.heap.size := by rw [HW.out]; simp
  rw [← HW.out] at hwb q0 q1
  have HQ : Hid (W.cell? ⟨w.heap.size + 1, 0, none⟩ = some (.slice va xs.length va2) ∧ W.cell? ⟨w.heap.size + 1, 1, none⟩ = some (.slice fa fs.length fc)) := ⟨q0, q1⟩
  clear q0 q1
  go_enter Tryz.func30, Tryz.ntmps30
  go_wp2_with fail
  refine (LV _).mono ?_
  rintro e w1 ⟨rfl, hw1⟩
  obtain rfl : W = w1 := HW.out.trans hw1.symm
  have z0 : W.cell? ⟨w.heap.size, 0, none⟩ = some (.slice va xs.length va2) := by rw [HW.out]; simp
  clear LV hw1 HW
  go_wp2_with fail
  go_loopw [6, 15] (fun v i wr => WtRel W 2 xs fs v i wr) (fun _ i _ => xs.length - (intOf i).toNat)
  case atStart => exact ⟨0, Nat.zero_le _, rfl, World.ownsRow_nil _ _ _ _, Below.refl _ _⟩
  case round =>
    clear z0
    obtain ⟨k, hk, rfl, hR, hbw⟩ := hrel
    have hrl := wtsK_len 2 xs fs k
    by_cases hlt : k < xs.length
    · have hk8 : (k : Int) < (xs.length : Int) := by omega
      have p0 : wr.cell? ⟨w.heap.size + 1, 0, none⟩ = some (.slice va xs.length va2) := (hbw.cell (p := ⟨w.heap.size + 1, 0, none⟩) (by show w.heap.size + 1 < W.heap.size; omega)).trans HQ.out.1
      have p1 : wr.cell? ⟨w.heap.size + 1, 1, none⟩ = some (.slice fa fs.length fc) := (hbw.cell (p := ⟨w.heap.size + 1, 1, none⟩) (by show w.heap.size + 1 < W.heap.size; omega)).trans HQ.out.2
      obtain ⟨e, he⟩ : ∃ e, xs[k]? = some e := ⟨_, List.getElem?_eq_getElem hlt⟩
      obtain ⟨g, hga, hgl, y1, y2, y3, _⟩ := hcE k e he
      subst hga
      have HV : Hid (wtL 2 (elAt xs k) (at0 fs k) = e.second) := by show _ = _; rw [elAt_of he]; rfl
      have CK := clos2_any wr (w.heap.size + 1) g xs.length va2 k (.slice fa fs.length fc) e.second p0 p1 hlt ((hbw.cell (p := ⟨g, k * 4 + 1, none⟩) (by show g < W.heap.size; omega)).trans (by simpa using (hwb.cell (p := ⟨g, k * 4 + 1, none⟩) hgl).trans y2))
      clear y1 hcE hcI p0 p1
      go_wp2_with fail
      refine CK.mono ?_
      rintro e' w3 ⟨rfl, hw3⟩
      obtain rfl : wr = w3 := hw3.symm
      clear CK
      have hsz := hbw.size
      by_cases h0 : e.second = 0
      · have HS : Hid (wtsK 2 xs fs (k + 1) = wtsK 2 xs fs k) := wtsK_zero (HV.out.trans h0)
        have HR : Hid (Ints _ _ _ _) := hR
        clear hR HV
        go_wp2
        exact ⟨⟨k + 1, by omega, by go_num, by rw [HS.out]; exact HR.out, hbw⟩, by simp [intOf]; omega⟩
      · have h0' : (e.second == 0) = false := by simpa using h0
        have HS : Hid (wtsK 2 xs fs (k + 1) = wtsK 2 xs fs k ++ [e.second]) := by
          have := wtsK_some (lv := 2) (xs := xs) (fs := fs) (k := k) (by rw [HV.out]; exact h0)
          rw [HV.out] at this
          exact this
        clear HV
        unfold Ints at hR
        go_wp2_with (at_builtin; refine wpList_append_own _ rfl _ _ 32 rfl W.heap.size 3 i0 (.int .i64 0) 1 8 Tryz.underlying32 hi0 hz0 hs0 hy0 rfl (by decide) _ _ _ rfl (hR.alloc _) ⟨wr.heap.size, 0, none⟩ 1 1 [.int .i64 (e.second)] rfl rfl (cells1_at _ _ _ _ (by simp)) (fun u hu => by simp at hu; subst hu; rfl) (by unfold maxLen; omega) (by omega) (by simp; omega) ?_)
        intro v6 w4 ho4 hg4 _
        have hI4 : Ints w4 W.heap.size v6 (wtsK 2 xs fs k ++ [e.second]) := Ints.snoc ho4
        have hb4 : Below W.heap.size W w4 := Below.grown (hbw.alloc hbw.size _) hg4 (hbw.alloc hbw.size _).size (fun j hj => (World.ownsRow.lt hR j hj).1)
        have HI4 : Hid (Ints _ _ _ _) := hI4
        clear ho4 hg4 hR hI4
        go_wp2
        exact ⟨⟨k + 1, by omega, by go_num, by rw [HS.out]; exact HI4.out, hb4⟩, by simp [intOf]; omega⟩
    · have hk3 : k = xs.length := by omega
      subst hk3
      have HR : Hid (Ints _ _ _ _) := hR
      clear hR
      go_wp2
      go_ret
      exact ⟨_, rfl, low_ints HR.out (by omega), hwb.trans (hbw.mono (by omega))⟩

set_option maxRecDepth 100000 in
set_option maxHeartbeats 1000000 in
theorem clos3_any (u : World) (b g n c k : Nat) (vf : Value) (x : Int) (hb : u.cell? ⟨b, 0, none⟩ = some (.slice (some ⟨g, 0, none⟩) n c)) (_hb2 : u.cell? ⟨b, 1, none⟩ = some vf) (hk : k < n) (hx : u.cell? ⟨g, k * 4 + 2, none⟩ = some (.int .i64 x)) :
    Calls Tryz.prog 79 #[.int .i64 k, .pointer (some ⟨b, 0, none⟩)] u fun e w' => e = .returned (.int .i64 x) ∧ w' = u := by
  have hk8 : (k : Int) < (n : Int) := by omega
  go_enter Tryz.func79, Tryz.ntmps79
  go_wp2
  go_ret
  exact ⟨rfl, rfl⟩

set_option maxRecDepth 100000 in
set_option maxHeartbeats 4000000 in
theorem weights3_any {w : World} {B B' : Nat} {ve vf : Value} {xs : List El} {fs : List Int} (hE : Elems w B ve xs) (hI : Ints w B' vf fs) (hl : fs.length = xs.length) (hn : xs.length ≤ 1048576) :
    Calls Tryz.prog 30 #[.agg #[ve, vf], .int .i64 3] w fun e w' => ∃ v, e = .returned v ∧ Ints w' w.heap.size v (wts 3 xs fs) ∧ Below w.heap.size w w' := by
  obtain ⟨i0, hi0, hz0, hs0, hy0⟩ := info_parts info_int
  obtain ⟨va, va2, rfl, hcE⟩ := els_slice hE
  obtain ⟨fa, fc, rfl, hcI⟩ := ints_slice hI
  have LV := fun u => level3_any va xs.length va2 fa fs.length fc u
  have hwb : Below w.heap.size w ((w.alloc (.cells #[.slice va xs.length va2, .slice fa fs.length fc] 63)).alloc (.cells #[.slice va xs.length va2, .slice fa fs.length fc] 63)) := ((Below.refl _ _).alloc (Nat.le_refl _) _).alloc (by simp) _
  have q0 : ((w.alloc (.cells #[.slice va xs.length va2, .slice fa fs.length fc] 63)).alloc (.cells #[.slice va xs.length va2, .slice fa fs.length fc] 63)).cell? ⟨w.heap.size + 1, 0, none⟩ = some (.slice va xs.length va2) := by simp
  have q1 : ((w.alloc (.cells #[.slice va xs.length va2, .slice fa fs.length fc] 63)).alloc (.cells #[.slice va xs.length va2, .slice fa fs.length fc] 63)).cell? ⟨w.heap.size + 1, 1, none⟩ = some (.slice fa fs.length fc) := by simp
  have HL : Hid (fs.length = xs.length) := hl
  clear hE hI hl
  obtain ⟨W, HW⟩ : ∃ W, Hid (W = (w.alloc (.cells #[.slice va xs.length va2, .slice fa fs.length fc] 63)).alloc (.cells #[.slice va xs.length va2, .slice fa fs.length fc] 63)) := ⟨_, rfl⟩
  have hWs : w.heap.size + 2 ≤ W.heap.size := by rw [HW.out]; simp
  rw [← HW.out] at hwb q0 q1
  have HQ : Hid (W.cell? ⟨w.heap.size + 1, 0, none⟩ = some (.slice va xs.length va2) ∧ W.cell? ⟨w.heap.size + 1, 1, none⟩ = some (.slice fa fs.length fc)) := ⟨q0, q1⟩
  clear q0 q1
  go_enter Tryz.func30, Tryz.ntmps30
  go_wp2_with fail
  refine (LV _).mono ?_
  rintro e w1 ⟨rfl, hw1⟩
  obtain rfl : W = w1 := HW.out.trans hw1.symm
  have z0 : W.cell? ⟨w.heap.size, 0, none⟩ = some (.slice va xs.length va2) := by rw [HW.out]; simp
  clear LV hw1 HW
  go_wp2_with fail
  go_loopw [6, 15] (fun v i wr => WtRel W 3 xs fs v i wr) (fun _ i _ => xs.length - (intOf i).toNat)
  case atStart => exact ⟨0, Nat.zero_le _, rfl, World.ownsRow_nil _ _ _ _, Below.refl _ _⟩
  case round =>
    clear z0
    obtain ⟨k, hk, rfl, hR, hbw⟩ := hrel
    have hrl := wtsK_len 3 xs fs k
    by_cases hlt : k < xs.length
    · have hk8 : (k : Int) < (xs.length : Int) := by omega
      have p0 : wr.cell? ⟨w.heap.size + 1, 0, none⟩ = some (.slice va xs.length va2) := (hbw.cell (p := ⟨w.heap.size + 1, 0, none⟩) (by show w.heap.size + 1 < W.heap.size; omega)).trans HQ.out.1
      have p1 : wr.cell? ⟨w.heap.size + 1, 1, none⟩ = some (.slice fa fs.length fc) := (hbw.cell (p := ⟨w.heap.size + 1, 1, none⟩) (by show w.heap.size + 1 < W.heap.size; omega)).trans HQ.out.2
      obtain ⟨e, he⟩ : ∃ e, xs[k]? = some e := ⟨_, List.getElem?_eq_getElem hlt⟩
      obtain ⟨g, hga, hgl, y1, y2, y3, _⟩ := hcE k e he
      subst hga
      have HV : Hid (wtL 3 (elAt xs k) (at0 fs k) = e.third) := by show _ = _; rw [elAt_of he]; rfl
      have CK := clos3_any wr (w.heap.size + 1) g xs.length va2 k (.slice fa fs.length fc) e.third p0 p1 hlt ((hbw.cell (p := ⟨g, k * 4 + 2, none⟩) (by show g < W.heap.size; omega)).trans (by simpa using (hwb.cell (p := ⟨g, k * 4 + 2, none⟩) hgl).trans y3))
      clear y1 hcE hcI p0 p1
      go_wp2_with fail
      refine CK.mono ?_
      rintro e' w3 ⟨rfl, hw3⟩
      obtain rfl : wr = w3 := hw3.symm
      clear CK
      have hsz := hbw.size
      by_cases h0 : e.third = 0
      · have HS : Hid (wtsK 3 xs fs (k + 1) = wtsK 3 xs fs k) := wtsK_zero (HV.out.trans h0)
        have HR : Hid (Ints _ _ _ _) := hR
        clear hR HV
        go_wp2
        exact ⟨⟨k + 1, by omega, by go_num, by rw [HS.out]; exact HR.out, hbw⟩, by simp [intOf]; omega⟩
      · have h0' : (e.third == 0) = false := by simpa using h0
        have HS : Hid (wtsK 3 xs fs (k + 1) = wtsK 3 xs fs k ++ [e.third]) := by
          have := wtsK_some (lv := 3) (xs := xs) (fs := fs) (k := k) (by rw [HV.out]; exact h0)
          rw [HV.out] at this
          exact this
        clear HV
        unfold Ints at hR
        go_wp2_with (at_builtin; refine wpList_append_own _ rfl _ _ 32 rfl W.heap.size 3 i0 (.int .i64 0) 1 8 Tryz.underlying32 hi0 hz0 hs0 hy0 rfl (by decide) _ _ _ rfl (hR.alloc _) ⟨wr.heap.size, 0, none⟩ 1 1 [.int .i64 (e.third)] rfl rfl (cells1_at _ _ _ _ (by simp)) (fun u hu => by simp at hu; subst hu; rfl) (by unfold maxLen; omega) (by omega) (by simp; omega) ?_)
        intro v6 w4 ho4 hg4 _
        have hI4 : Ints w4 W.heap.size v6 (wtsK 3 xs fs k ++ [e.third]) := Ints.snoc ho4
        have hb4 : Below W.heap.size W w4 := Below.grown (hbw.alloc hbw.size _) hg4 (hbw.alloc hbw.size _).size (fun j hj => (World.ownsRow.lt hR j hj).1)
        have HI4 : Hid (Ints _ _ _ _) := hI4
        clear ho4 hg4 hR hI4
        go_wp2
        exact ⟨⟨k + 1, by omega, by go_num, by rw [HS.out]; exact HI4.out, hb4⟩, by simp [intOf]; omega⟩
    · have hk3 : k = xs.length := by omega
      subst hk3
      have HR : Hid (Ints _ _ _ _) := hR
      clear hR
      go_wp2
      go_ret
      exact ⟨_, rfl, low_ints HR.out (by omega), hwb.trans (hbw.mono (by omega))⟩

set_option maxRecDepth 100000 in
set_option maxHeartbeats 1000000 in
theorem clos4_any (u : World) (b g n c k : Nat) (ve : Value) (x : Int) (_hb2 : u.cell? ⟨b, 0, none⟩ = some ve) (hb : u.cell? ⟨b, 1, none⟩ = some (.slice (some ⟨g, 0, none⟩) n c)) (hk : k < n) (hx : u.cell? ⟨g, k, none⟩ = some (.int .i64 x)) :
    Calls Tryz.prog 80 #[.int .i64 k, .pointer (some ⟨b, 0, none⟩)] u fun e w' => e = .returned (.int .i64 x) ∧ w' = u := by
  have hk8 : (k : Int) < (n : Int) := by omega
  go_enter Tryz.func80, Tryz.ntmps80
  go_wp2
  go_ret
  exact ⟨rfl, rfl⟩

set_option maxRecDepth 100000 in
set_option maxHeartbeats 4000000 in
theorem weights4_any {w : World} {B B' : Nat} {ve vf : Value} {xs : List El} {fs : List Int} (hE : Elems w B ve xs) (hI : Ints w B' vf fs) (hl : fs.length = xs.length) (hn : xs.length ≤ 1048576) :
    Calls Tryz.prog 30 #[.agg #[ve, vf], .int .i64 4] w fun e w' => ∃ v, e = .returned v ∧ Ints w' w.heap.size v (wts 4 xs fs) ∧ Below w.heap.size w w' := by
  obtain ⟨i0, hi0, hz0, hs0, hy0⟩ := info_parts info_int
  obtain ⟨va, va2, rfl, hcE⟩ := els_slice hE
  obtain ⟨fa, fc, rfl, hcI⟩ := ints_slice hI
  have LV := fun u => level4_any va xs.length va2 fa fs.length fc u
  have hwb : Below w.heap.size w ((w.alloc (.cells #[.slice va xs.length va2, .slice fa fs.length fc] 63)).alloc (.cells #[.slice va xs.length va2, .slice fa fs.length fc] 63)) := ((Below.refl _ _).alloc (Nat.le_refl _) _).alloc (by simp) _
  have q0 : ((w.alloc (.cells #[.slice va xs.length va2, .slice fa fs.length fc] 63)).alloc (.cells #[.slice va xs.length va2, .slice fa fs.length fc] 63)).cell? ⟨w.heap.size + 1, 0, none⟩ = some (.slice va xs.length va2) := by simp
  have q1 : ((w.alloc (.cells #[.slice va xs.length va2, .slice fa fs.length fc] 63)).alloc (.cells #[.slice va xs.length va2, .slice fa fs.length fc] 63)).cell? ⟨w.heap.size + 1, 1, none⟩ = some (.slice fa fs.length fc) := by simp
  have HL : Hid (fs.length = xs.length) := hl
  clear hE hI hl
  obtain ⟨W, HW⟩ : ∃ W, Hid (W = (w.alloc (.cells #[.slice va xs.length va2, .slice fa fs.length fc] 63)).alloc (.cells #[.slice va xs.length va2, .slice fa fs.length fc] 63)) := ⟨_, rfl⟩
  have hWs : w.heap.size + 2 ≤ W.heap.size := by rw [HW.out]; simp
  rw [← HW.out] at hwb q0 q1
  have HQ : Hid (W.cell? ⟨w.heap.size + 1, 0, none⟩ = some (.slice va xs.length va2) ∧ W.cell? ⟨w.heap.size + 1, 1, none⟩ = some (.slice fa fs.length fc)) := ⟨q0, q1⟩
  clear q0 q1
  go_enter Tryz.func30, Tryz.ntmps30
  go_wp2_with fail
  refine (LV _).mono ?_
  rintro e w1 ⟨rfl, hw1⟩
  obtain rfl : W = w1 := HW.out.trans hw1.symm
  have z0 : W.cell? ⟨w.heap.size, 0, none⟩ = some (.slice va xs.length va2) := by rw [HW.out]; simp
  clear LV hw1 HW
  go_wp2_with fail
  go_loopw [6, 15] (fun v i wr => WtRel W 4 xs fs v i wr) (fun _ i _ => xs.length - (intOf i).toNat)
  case atStart => exact ⟨0, Nat.zero_le _, rfl, World.ownsRow_nil _ _ _ _, Below.refl _ _⟩
  case round =>
    clear z0
    obtain ⟨k, hk, rfl, hR, hbw⟩ := hrel
    have hrl := wtsK_len 4 xs fs k
    by_cases hlt : k < xs.length
    · have hk8 : (k : Int) < (xs.length : Int) := by omega
      have p0 : wr.cell? ⟨w.heap.size + 1, 0, none⟩ = some (.slice va xs.length va2) := (hbw.cell (p := ⟨w.heap.size + 1, 0, none⟩) (by show w.heap.size + 1 < W.heap.size; omega)).trans HQ.out.1
      have p1 : wr.cell? ⟨w.heap.size + 1, 1, none⟩ = some (.slice fa fs.length fc) := (hbw.cell (p := ⟨w.heap.size + 1, 1, none⟩) (by show w.heap.size + 1 < W.heap.size; omega)).trans HQ.out.2
      have hkf : k < fs.length := by have := HL.out; omega
      obtain ⟨g, hga, hgl, y1⟩ := hcI k hkf
      subst hga
      have HV : Hid (wtL 4 (elAt xs k) (at0 fs k) = at0 fs k) := by show _ = _; rfl
      have CK := clos4_any wr (w.heap.size + 1) g fs.length fc k (.slice va xs.length va2) (at0 fs k) p0 p1 hkf ((hbw.cell (p := ⟨g, k, none⟩) (by show g < W.heap.size; omega)).trans (by simpa using (hwb.cell (p := ⟨g, k, none⟩) hgl).trans y1))
      clear y1 hcE hcI p0 p1
      go_wp2_with fail
      refine CK.mono ?_
      rintro e' w3 ⟨rfl, hw3⟩
      obtain rfl : wr = w3 := hw3.symm
      clear CK
      have hsz := hbw.size
      by_cases h0 : at0 fs k = 0
      · have HS : Hid (wtsK 4 xs fs (k + 1) = wtsK 4 xs fs k) := wtsK_zero (HV.out.trans h0)
        have HR : Hid (Ints _ _ _ _) := hR
        clear hR HV
        go_wp2
        exact ⟨⟨k + 1, by omega, by go_num, by rw [HS.out]; exact HR.out, hbw⟩, by simp [intOf]; omega⟩
      · have h0' : (at0 fs k == 0) = false := by simpa using h0
        have HS : Hid (wtsK 4 xs fs (k + 1) = wtsK 4 xs fs k ++ [at0 fs k]) := by
          have := wtsK_some (lv := 4) (xs := xs) (fs := fs) (k := k) (by rw [HV.out]; exact h0)
          rw [HV.out] at this
          exact this
        clear HV
        unfold Ints at hR
        go_wp2_with (at_builtin; refine wpList_append_own _ rfl _ _ 32 rfl W.heap.size 3 i0 (.int .i64 0) 1 8 Tryz.underlying32 hi0 hz0 hs0 hy0 rfl (by decide) _ _ _ rfl (hR.alloc _) ⟨wr.heap.size, 0, none⟩ 1 1 [.int .i64 (at0 fs k)] rfl rfl (cells1_at _ _ _ _ (by simp)) (fun u hu => by simp at hu; subst hu; rfl) (by unfold maxLen; omega) (by omega) (by simp; omega) ?_)
        intro v6 w4 ho4 hg4 _
        have hI4 : Ints w4 W.heap.size v6 (wtsK 4 xs fs k ++ [at0 fs k]) := Ints.snoc ho4
        have hb4 : Below W.heap.size W w4 := Below.grown (hbw.alloc hbw.size _) hg4 (hbw.alloc hbw.size _).size (fun j hj => (World.ownsRow.lt hR j hj).1)
        have HI4 : Hid (Ints _ _ _ _) := hI4
        clear ho4 hg4 hR hI4
        go_wp2
        exact ⟨⟨k + 1, by omega, by go_num, by rw [HS.out]; exact HI4.out, hb4⟩, by simp [intOf]; omega⟩
    · have hk3 : k = xs.length := by omega
      subst hk3
      have HR : Hid (Ints _ _ _ _) := hR
      clear hR
      go_wp2
      go_ret
      exact ⟨_, rfl, low_ints HR.out (by omega), hwb.trans (hbw.mono (by omega))⟩
end Go.Proofs.YtanfebccenfffaaGreatDoor
