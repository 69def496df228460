/- Texts of mine laid together: IGoods, INorm, IFull, Equal2, IIs, IRule1, PBase, IIdx, IWeight. -/
import Derived.Test.YtanfebccenfffagGreatDoorISort2
import Derived.Test.YtanfebccenfffagGreatDoorSD
import Derived.Test.YtanfebccenfffagGreatDoorIApart
import Derived.Test.YtanfebccenfffagGreatDoorClass
import Derived.Test.YtanfebccenfffagGreatDoorPIs
import Derived.Test.YtanfebccenfffagGreatDoorSEl3
import Derived.Test.YtanfebccenfffagGreatDoorSBase
import Derived.Lib.Bytealg
import Derived.WalkMore
import Derived.Lib.OthersKept
import Derived.WalkSmall
import Derived.Lib.IndexLaws
import Derived.Deep.QuietTactic
import Derived.BigQuiet
import Derived.Test.YtanfebccenfffagGreatDoorIClass
import Derived.Test.YtanfebccenfffagGreatDoorResC
namespace Go.Proofs.YtanfebccenfffagGreatDoor
open Go.RowKit

theorem okR_long {zs : List Int} (h : 200 < zs.length) : okR zs = false := decide_eq_false fun c => by omega
theorem okR_bad {zs : List Int} {x : Int} (hx : x ∈ zs) (h : goodB x = false) : okR zs = false := decide_eq_false fun c => by
  have := c.2 x hx
  rw [h] at this; cases this

set_option maxRecDepth 100000 in
set_option maxHeartbeats 1000000 in
theorem goods_none (w : World) (a : Option Addr) (c : Nat) : Calls Tryz.prog 107 #[.slice a 0 c] w fun e w' => e = .returned (.bool true) ∧ w' = w := by
  go_enter Tryz.func107, Tryz.ntmps107
  go_wp2
  go_loop [10] (fun i => i = .int .i64 0) (fun _ => 0)
  case atStart => rfl
  case round =>
    subst hrel
    go_wp2
    go_ret
    exact ⟨rfl, rfl⟩

set_option maxRecDepth 100000 in
set_option maxHeartbeats 1000000 in
theorem goods_long (w : World) (a : Option Addr) (n c : Nat) (h : 200 < n) : Calls Tryz.prog 107 #[.slice a n c] w fun e w' => e = .returned (.bool false) ∧ w' = w := by
  have h2 : (200 : Int) < (n : Int) := by omega
  go_enter Tryz.func107, Tryz.ntmps107
  go_wp2
  go_ret
  exact ⟨rfl, rfl⟩

set_option maxRecDepth 100000 in
set_option maxHeartbeats 1000000 in
theorem goods_row (w : World) (g cap : Nat) (zs : List Int) (hz : zs.length ≤ 200)
    (hc : ∀ j, j < zs.length → w.cell? ⟨g, j, none⟩ = some (.int .i64 (zs[j]?.getD 0))) :
    Calls Tryz.prog 107 #[.slice (some ⟨g, 0, none⟩) zs.length cap] w fun e w' => e = .returned (.bool (okR zs)) ∧ w' = w := by
  have hz2 : ¬ (200 : Int) < (zs.length : Int) := by omega
  go_enter Tryz.func107, Tryz.ntmps107
  go_wp2
  go_loop [10] (fun i => ∃ k : Nat, k ≤ zs.length ∧ i = .int .i64 k ∧ Hid (UpTo zs k)) (fun i => zs.length - (intOf i).toNat)
  case atStart => exact ⟨0, Nat.zero_le _, rfl, fun j x hj => by omega⟩
  case round =>
    obtain ⟨k, hk, rfl, HG⟩ := hrel
    by_cases hlt : k < zs.length
    · obtain ⟨x, hx⟩ : ∃ x, zs[k]? = some x := ⟨_, List.getElem?_eq_getElem hlt⟩
      have c0 := hc k hlt
      rw [hx] at c0
      have c1 : w.cell? ⟨g, k, none⟩ = some (.int .i64 x) := c0
      cases hgx : goodB x
      · have P := fun w => implGood_no x hgx w
        have HN : Hid (false = okR zs) := (okR_bad (List.mem_of_getElem? hx) hgx).symm
        clear hc c0 hx hgx
        go_wp2_with (go_at_call 116; refine (P _).mono ?_; rintro e w1 ⟨rfl, rfl⟩)
        go_ret
        exact ⟨ret_b HN.out, rfl⟩
      · have P := fun w => implGood_yes x hgx w
        have HG2 : Hid (UpTo zs (k + 1)) := HG.out.succ hx hgx
        clear hc c0 hx hgx
        go_wp2_with (go_at_call 116; refine (P _).mono ?_; rintro e w1 ⟨rfl, rfl⟩)
        exact ⟨⟨k + 1, by omega, by go_num, HG2⟩, by simp [intOf]; omega⟩
    · have HA := HG.out.all hlt
      have HY : Hid (true = okR zs) := (decide_eq_true (⟨hz, HA⟩ : zs.length ≤ 200 ∧ ∀ x ∈ zs, goodB x = true)).symm
      clear hc HA
      go_wp2
      go_ret
      exact ⟨ret_b HY.out, rfl⟩

theorem goods_any {w : World} {B : Nat} {v : Value} {zs : List Int} (hI : Ints w B v zs) :
    Calls Tryz.prog 107 #[v] w fun e w' => e = .returned (.bool (okR zs)) ∧ w' = w := by
  rcases hI.form with ⟨rfl, rfl⟩ | ⟨g, cap, rfl, h1, h2⟩
  · have : okR [] = true := decide_eq_true ⟨by simp, by simp⟩
    rw [this]
    exact goods_none w _ _
  · by_cases h : zs.length ≤ 200
    · exact goods_row w g cap zs h (fun j hj => hI.cell j hj)
    · rw [okR_long (by omega)]
      exact goods_long w _ _ _ (by omega)

end Go.Proofs.YtanfebccenfffagGreatDoor

namespace Go.Proofs.YtanfebccenfffagGreatDoor
open Go.RowKit

theorem grown_trans2 {w wr w2 : World} {row row2 : Option Nat} (h : w.grownBy wr row) (h2 : wr.grownBy w2 row2) (hr : row2 = row ∨ ∀ g, row2 = some g → w.heap.size ≤ g) : w.grownBy w2 row := by
  refine ⟨h2.os.trans h.os, h2.tape.trans h.tape, h2.output.trans h.output, Nat.le_trans h.size h2.size, fun k hk hne => ?_⟩
  rw [h2.block k (Nat.lt_of_lt_of_le hk h.size) ?_]
  · exact h.block k hk hne
  · rcases hr with rfl | hr
    · exact hne
    · intro e
      have := hr k e.symm
      omega

theorem held_grown2 {w w' : World} {h : Nat} {row : Option Nat} {zs : List Int} (hh : Held w h zs) (hg : w.grownBy w' row) (hne : row ≠ some h) : Held w' h zs := by
  obtain ⟨t, fr, e⟩ := hh
  refine ⟨t, fr, ?_⟩
  rw [hg.block h ((Array.getElem?_eq_some_iff.1 e).1) (fun c => hne c.symm)]
  exact e

/-- The list put behind l: only l's own block may have turned, and what comes back lies there or in a new one. -/
def ApPost (w : World) (B : Nat) (l : Value) (acc : List Int) (v : Value) (w' : World) : Prop := Ints w' B v acc ∧ w.grownBy w' l.ownBlock ∧ (v.ownBlock = l.ownBlock ∨ ∀ g, v.ownBlock = some g → w.heap.size ≤ g)

def Tabs (w : World) : Prop := Held w 1 capF ∧ Held w 2 othF

theorem Tabs.below {w w' : World} (h : Tabs w) (hb : Below w.heap.size w w') : Tabs w' := ⟨h.1.below hb h.1.lt, h.2.below hb h.2.lt⟩

theorem own_ne {w : World} {B h : Nat} {l : Value} {acc : List Int} (hI : Ints w B l acc) (hB : h < B) : l.ownBlock ≠ some h := fun e => by
  have := (World.ownsRow.lt hI h e).1
  omega

set_option maxRecDepth 100000 in
set_option maxHeartbeats 2000000 in
theorem app_leaf (n : Nat) (r : Int) (w : World) (B : Nat) (l : Value) (acc : List Int) (h : apart r = [r]) (hg : goodB r = true) (hI : Ints w B l acc) (ha : acc.length ≤ 4000) (hB : B ≤ w.heap.size) (ht : Tabs w) :
    Calls Tryz.prog 108 #[l, .int .i64 r] w fun e w' => ∃ v, e = .returned v ∧ ApPost w B l (acc ++ full n r) v w' := by
  obtain ⟨i0, hi, hzz, hz1, hz2⟩ := info_parts info_int
  have A := implApart_any r w ht.1 ht.2
  rw [show apartG r = [r] by unfold apartG; rw [if_pos hg, h]] at A
  rw [full_leaf h]
  clear h hg ht
  go_enter Tryz.func108, Tryz.ntmps108
  go_wp2_with fail
  refine A.mono ?_
  rintro e w1 ⟨v, rfl, hIp, hb⟩
  obtain ⟨g, cap, rfl⟩ := ints_some hIp (by simp)
  have c0 := ints_at0 hIp 0 r rfl
  simp only [List.length_cons, List.length_nil] at hIp
  have hI1 := hI.below hb
  have hown0 : w1.ownsRow B 3 1 l acc.length (acc.map (Value.int .i64)) := hI1
  have hsz := hb.size
  clear A
  go_wp2_with (at_builtin; refine wpList_append_lies _ rfl _ _ 59 rfl B 3 i0 (.int .i64 0) 1 8 Tryz.underlying59 hi hzz hz1 hz2 rfl (by decide) _ _ _ rfl (hown0.alloc _) ⟨_, 0, none⟩ 1 1 [.int .i64 r] rfl rfl (cell_one_new _ _ _) (fun x hx => by simp at hx; subst hx; rfl) (by omega) (by unfold maxLen; omega) (by omega) (by simp; omega) (w1.heap.size + 1) (by simp) ?_; intro g' cap' w2 hown hgr hgg hlt')
  go_ret
  refine ⟨_, rfl, Ints.snoc hown, ?_, ?_⟩
  · exact (below_grownBy (hb.alloc hb.size _) _).trans hgr
  · rcases hgg with e | e
    · exact .inl e.symm
    · refine .inr fun k hk => ?_
      have : g' = k := Option.some.inj hk
      omega

def ARel (w : World) (B : Nat) (l : Value) (acc : List Int) (gp cp : Nat) (f : Int → List Int) (ls : List Int) (lv i : Value) (wr : World) : Prop :=
  ∃ k : Nat, k ≤ ls.length ∧ i = .int .i64 k ∧ ApPost w B l (acc ++ (ls.take k).flatMap f) lv wr ∧ Ints wr w.heap.size (.slice (some ⟨gp, 0, none⟩) ls.length cp) ls ∧ lv.ownBlock ≠ some gp ∧ Tabs wr ∧ w.heap.size ≤ wr.heap.size

theorem arel_step {w wr w2 : World} {B k gp cp : Nat} {l lv v : Value} {acc ls : List Int} {f : Int → List Int} {x : Int} (hk : k < ls.length) (hx : ls[k]? = some x) (hB1 : 1 < B) (hB2 : 2 < B)
    (hp : ApPost w B l (acc ++ (ls.take k).flatMap f) lv wr) (hI : Ints wr w.heap.size (.slice (some ⟨gp, 0, none⟩) ls.length cp) ls) (hne : lv.ownBlock ≠ some gp) (ht : Tabs wr) (hsz : w.heap.size ≤ wr.heap.size)
    (h2 : ApPost wr B lv (acc ++ (ls.take k).flatMap f ++ f x) v w2) : ARel w B l acc gp cp f ls v (.int .i64 ((k : Int) + 1)) w2 := by
  obtain ⟨i1, g1, n1⟩ := hp
  obtain ⟨i2, g2, n2⟩ := h2
  have hrow : lv.ownBlock = l.ownBlock ∨ ∀ g, lv.ownBlock = some g → w.heap.size ≤ g := n1
  have hgp : gp < wr.heap.size := (World.ownsRow.lt hI gp rfl).2
  refine ⟨k + 1, hk, by go_num, ⟨?_, grown_trans2 g1 g2 hrow, ?_⟩, World.ownsRow.kept hI g2 (.inr fun e => hne e.symm), ?_, ⟨held_grown2 ht.1 g2 (own_ne i1 hB1), held_grown2 ht.2 g2 (own_ne i1 hB2)⟩, Nat.le_trans hsz g2.size⟩
  · rw [take_flat hx, ← List.append_assoc]; exact i2
  · rcases n2 with e | e
    · rcases n1 with e1 | e1
      · exact .inl (e.trans e1)
      · exact .inr fun g hg => e1 g (e ▸ hg)
    · exact .inr fun g hg => Nat.le_trans hsz (e g hg)
  · rcases n2 with e | e
    · rw [e]; exact hne
    · intro h
      have := e gp h
      omega

set_option maxRecDepth 100000 in
set_option maxHeartbeats 2000000 in
theorem app_n (n : Nat) (hn2 : n ≤ 2) : ∀ (r : Int) (w : World) (B : Nat) (l : Value) (acc : List Int), levB n r = true → goodB r = true → Ints w B l acc → acc.length + 3 ^ n ≤ 4000 → B ≤ w.heap.size → 1 < B → 2 < B → Tabs w →
    Calls Tryz.prog 108 #[l, .int .i64 r] w fun e w' => ∃ v, e = .returned v ∧ ApPost w B l (acc ++ full n r) v w' := by
  induction n with
  | zero => exact fun r w B l acc h hg hI ha hB _ _ ht => app_leaf 0 r w B l acc (levB_zero h) hg hI (Nat.le_trans (Nat.le_add_right _ _) ha) hB ht
  | succ n ih0 =>
    intro r w B l acc hlev hg hI ha hB hB1 hB2 ht
    have ih := ih0 (by omega)
    by_cases hl : apart r = [r]
    · exact app_leaf _ r w B l acc hl hg hI (Nat.le_trans (Nat.le_add_right _ _) ha) hB ht
    · have hlv := (levB_succ hlev).resolve_left hl
      have hgs := apart_good hg
      have A := implApart_any r w ht.1 ht.2
      rw [show apartG r = apart r by unfold apartG; rw [if_pos hg]] at A
      have hal := apart_len r
      have hf := full_go (n := n) hl
      have h3 : 3 ^ (n + 1) = 3 * 3 ^ n := by rw [Nat.pow_succ]; omega
      have HB : Hid (∀ k, k < (apart r).length → (acc ++ ((apart r).take k).flatMap (full n)).length + 3 ^ n ≤ 4000) := fun k hk => by
        have h1 := flatMap_len (full n) (3 ^ n) ((apart r).take k) (full_len n)
        have h2 : ((apart r).take k).length * 3 ^ n ≤ 2 * 3 ^ n := Nat.mul_le_mul_right _ (by simp; omega)
        rw [List.length_append]
        omega
      have IH : Hid (∀ x ∈ apart r, ∀ (w : World) (l : Value) (acc : List Int), Ints w B l acc → acc.length + 3 ^ n ≤ 4000 → B ≤ w.heap.size → Tabs w → Calls Tryz.prog 108 #[l, .int .i64 x] w fun e w' => ∃ v, e = .returned v ∧ ApPost w B l (acc ++ full n x) v w') :=
        fun x hx w l acc h1 h2 h3 h4 => ih x w B l acc (hlv x hx) (hgs x hx) h1 h2 h3 hB1 hB2 h4
      have HF : Hid _ := hf
      clear ih ih0 hlev hlv hgs hg hf h3 ha
      generalize apart r = ls at *
      obtain ⟨hal1, hal2⟩ := hal
      by_cases h1 : ls.length = 1
      · obtain ⟨y, hy⟩ : ∃ y, ls[0]? = some y := ⟨_, List.getElem?_eq_getElem (by omega)⟩
        have hyr : (y == r) = false := by
          simp only [beq_eq_false_iff_ne, ne_eq]
          intro e
          subst e
          apply hl
          match ls, h1, hy with
          | [z], _, hy => simp at hy; rw [hy]
        have h1' : ((ls.length : Int) == 1) = true := by simp; omega
        have h1'' : (0 : Int) < (ls.length : Int) := by omega
        clear hl
        go_enter Tryz.func108, Tryz.ntmps108
        go_wp2_with fail
        refine A.mono ?_
        rintro e w1 ⟨v, rfl, hIp, hb⟩
        obtain ⟨g, cap, rfl⟩ := ints_some hIp (by omega)
        have c0 := ints_at0 hIp 0 y hy
        clear A hy h1
        have hin : ARel w B l acc g cap (full n) ls l (.int .i64 0) w1 := ⟨0, Nat.zero_le _, rfl, ⟨by simpa using hI.below hb, below_grownBy hb _, .inl rfl⟩, hIp, fun e => by
          have h5 := (World.ownsRow.lt hI g e).2
          have h6 := (World.ownsRow.lt hIp g rfl).1
          omega, ht.below hb, hb.size⟩
        go_wp2_with fail
        go_loopw [0, 26] (fun lv i wr => ARel w B l acc g cap (full n) ls lv i wr) (fun _ i _ => ls.length - (intOf i).toNat)
        case atStart => exact hin
        case round =>
          clear hin hIp
          obtain ⟨k, hk, rfl, hp, hIr, hne, htr, hszr⟩ := hrel
          by_cases hlt : k < ls.length
          · obtain ⟨x, hx⟩ : ∃ x, ls[k]? = some x := ⟨_, List.getElem?_eq_getElem hlt⟩
            have c1 := ints_at0 hIr k x hx
            have CA := IH.out x (List.mem_of_getElem? hx) wr _ _ hp.1 (HB.out k hlt) (Nat.le_trans hB hszr) htr
            have HX : Hid _ := hx
            clear hx
            go_wp2_with fail
            refine CA.mono ?_
            rintro e w2 ⟨v2, rfl, h2⟩
            have HA : Hid _ := arel_step hlt HX.out hB1 hB2 hp hIr hne htr hszr h2
            clear CA c1 h2 hp hIr
            go_wp2
            exact ⟨HA.out, by simp [intOf]; omega⟩
          · have hk3 : k = ls.length := by omega
            subst hk3
            rw [List.take_length] at hp
            go_wp2
            go_ret
            rw [HF.out]
            exact ⟨_, rfl, hp⟩
      · have h1' : ((ls.length : Int) == 1) = false := by simp; omega
        clear hl h1
        go_enter Tryz.func108, Tryz.ntmps108
        go_wp2_with fail
        refine A.mono ?_
        rintro e w1 ⟨v, rfl, hIp, hb⟩
        obtain ⟨g, cap, rfl⟩ := ints_some hIp (by omega)
        clear A
        have hin : ARel w B l acc g cap (full n) ls l (.int .i64 0) w1 := ⟨0, Nat.zero_le _, rfl, ⟨by simpa using hI.below hb, below_grownBy hb _, .inl rfl⟩, hIp, fun e => by
          have h5 := (World.ownsRow.lt hI g e).2
          have h6 := (World.ownsRow.lt hIp g rfl).1
          omega, ht.below hb, hb.size⟩
        go_wp2_with fail
        go_loopw [0, 26] (fun lv i wr => ARel w B l acc g cap (full n) ls lv i wr) (fun _ i _ => ls.length - (intOf i).toNat)
        case atStart => exact hin
        case round =>
          clear hin hIp
          obtain ⟨k, hk, rfl, hp, hIr, hne, htr, hszr⟩ := hrel
          by_cases hlt : k < ls.length
          · obtain ⟨x, hx⟩ : ∃ x, ls[k]? = some x := ⟨_, List.getElem?_eq_getElem hlt⟩
            have c1 := ints_at0 hIr k x hx
            have CA := IH.out x (List.mem_of_getElem? hx) wr _ _ hp.1 (HB.out k hlt) (Nat.le_trans hB hszr) htr
            have HX : Hid _ := hx
            clear hx
            go_wp2_with fail
            refine CA.mono ?_
            rintro e w2 ⟨v2, rfl, h2⟩
            have HA : Hid _ := arel_step hlt HX.out hB1 hB2 hp hIr hne htr hszr h2
            clear CA c1 h2 hp hIr
            go_wp2
            exact ⟨HA.out, by simp [intOf]; omega⟩
          · have hk3 : k = ls.length := by omega
            subst hk3
            rw [List.take_length] at hp
            go_wp2
            go_ret
            rw [HF.out]
            exact ⟨_, rfl, hp⟩

theorem app_any (r : Int) (w : World) (B : Nat) (l : Value) (acc : List Int) (hg : goodB r = true) (hI : Ints w B l acc) (ha : acc.length ≤ 3900) (hB : B ≤ w.heap.size) (hB1 : 1 < B) (hB2 : 2 < B) (ht : Tabs w) :
    Calls Tryz.prog 108 #[l, .int .i64 r] w fun e w' => ∃ v, e = .returned v ∧ ApPost w B l (acc ++ all2 r) v w' :=
  app_n 2 (Nat.le_refl _) r w B l acc (lev2 r) hg hI (by omega) hB hB1 hB2 ht
end Go.Proofs.YtanfebccenfffagGreatDoor

namespace Go.Proofs.YtanfebccenfffagGreatDoor
open Go.RowKit

/-- What fullNormalD answers. -/
def fullA (zs : List Int) : List Int := if okR zs = true then nD zs else []

theorem runs_any {w : World} {B : Nat} {v : Value} {zs : List Int} (hz : zs.length ≤ 1048576) (hI : Ints w B v zs) (hB : 0 < B) (hm : Held w 0 marksF) :
    Calls Tryz.prog 109 #[v] w fun e w' => e = .returned (.tuple #[]) ∧ Ints w' B v (sortM zs) ∧ w.grownBy w' v.ownBlock := by
  rcases hI.form with ⟨rfl, rfl⟩ | ⟨g, cap, rfl, _, _⟩
  · refine (sortRuns_nil w).mono ?_
    rintro e w' ⟨rfl, rfl⟩
    rw [show sortM [] = [] by decide]
    exact ⟨rfl, ⟨rfl, .inl ⟨rfl, rfl⟩⟩, grown_refl _ _⟩
  · refine (sortRuns_any w B g cap zs.length zs hI hB hz hm).mono ?_
    rintro e w' ⟨rfl, hs⟩
    refine ⟨rfl, ?_, hs.2.1⟩
    have := hs.1
    unfold Own at this
    unfold Ints
    rw [sortM_length]
    exact this

def NRel (w : World) (zs : List Int) (lv i : Value) (wr : World) : Prop :=
  ∃ k : Nat, k ≤ zs.length ∧ i = .int .i64 k ∧ Ints wr w.heap.size lv ((zs.take k).flatMap all2) ∧ Below w.heap.size w wr

theorem nrel_step {w wr w2 : World} {zs : List Int} {k : Nat} {x : Int} {lv v : Value} (hk : k < zs.length) (hx : zs[k]? = some x) (h : Ints wr w.heap.size lv ((zs.take k).flatMap all2)) (hb : Below w.heap.size w wr)
    (hp : ApPost wr w.heap.size lv ((zs.take k).flatMap all2 ++ all2 x) v w2) : NRel w zs v (.int .i64 ((k : Int) + 1)) w2 := by
  refine ⟨k + 1, hk, by go_num, ?_, Below.grown hb hp.2.1 hb.size (fun j hj => (World.ownsRow.lt h j hj).1)⟩
  rw [take_flat hx]
  exact hp.1

set_option maxRecDepth 100000 in
set_option maxHeartbeats 2000000 in
theorem fullD_row (w : World) (B g cap : Nat) (zs : List Int) (hok : okR zs = true) (hI : Ints w B (.slice (some ⟨g, 0, none⟩) zs.length cap) zs) (hm : Held w 0 marksF) (ht : Tabs w) :
    Calls Tryz.prog 92 #[.slice (some ⟨g, 0, none⟩) zs.length cap] w fun e w' => ∃ v', e = .returned (.tuple #[v', .bool true]) ∧ Ints w' w.heap.size v' (nD zs) ∧ Below w.heap.size w w' := by
  have G := goods_any hI
  rw [hok] at G
  have hz := (okR_true hok).1
  have HG : Hid (∀ x ∈ zs, goodB x = true) := (okR_true hok).2
  have HB : Hid (∀ k, ((zs.take k).flatMap all2).length ≤ 1800) := fun k => Nat.le_trans (take_flat_len zs k all2_len) (by omega)
  clear hok
  go_enter Tryz.func92, Tryz.ntmps92
  go_wp2_with fail
  refine G.mono ?_
  rintro e w1 ⟨rfl, rfl⟩
  clear G
  go_wp2_with fail
  go_loopw [4, 12] (fun lv i wr => NRel w1 zs lv i wr) (fun _ i _ => zs.length - (intOf i).toNat)
  case atStart => exact ⟨0, Nat.zero_le _, rfl, ⟨rfl, .inl ⟨rfl, rfl⟩⟩, Below.refl _ _⟩
  case round =>
    obtain ⟨k, hk, rfl, ho, hbr⟩ := hrel
    by_cases hlt : k < zs.length
    · obtain ⟨x, hx⟩ : ∃ x, zs[k]? = some x := ⟨_, List.getElem?_eq_getElem hlt⟩
      have c1 := ints_at0 (hI.below hbr) k x hx
      have CA := app_any x wr w1.heap.size _ _ (HG.out x (List.mem_of_getElem? hx)) ho (Nat.le_trans (HB.out k) (by omega)) hbr.size ht.1.lt ht.2.lt (ht.below hbr)
      have HX : Hid _ := hx
      clear hx
      go_wp2_with fail
      refine CA.mono ?_
      rintro e w2 ⟨v2, rfl, h2⟩
      have HA : Hid _ := nrel_step hlt HX.out ho hbr h2
      clear CA c1 h2
      go_wp2
      exact ⟨HA.out, by simp [intOf]; omega⟩
    · have hk3 : k = zs.length := by omega
      subst hk3
      rw [List.take_length] at ho
      have R := runs_any (zs := apD zs) (Nat.le_trans (apD_len zs) (by omega)) ho hm.lt (hm.below hbr hm.lt)
      have HL : Hid (∀ j, Value.ownBlock _ = some j → w1.heap.size ≤ j) := fun j hj => (World.ownsRow.lt ho j hj).1
      clear ho
      go_wp2_with fail
      refine R.mono ?_
      rintro e w2 ⟨rfl, h1, h2⟩
      clear R
      go_wp2
      go_ret2
      exact ⟨_, rfl, h1, Below.grown hbr h2 hbr.size HL.out⟩

set_option maxRecDepth 100000 in
set_option maxHeartbeats 2000000 in
theorem fullD_nil (w : World) (hm : Held w 0 marksF) :
    Calls Tryz.prog 92 #[.slice none 0 0] w fun e w' => ∃ v', e = .returned (.tuple #[v', .bool true]) ∧ Ints w' w.heap.size v' [] ∧ Below w.heap.size w w' := by
  have G := goods_none w none 0
  have R := sortRuns_nil
  go_enter Tryz.func92, Tryz.ntmps92
  go_wp2_with fail
  refine G.mono ?_
  rintro e w1 ⟨rfl, rfl⟩
  clear G
  go_wp2_with fail
  go_loop [4, 12] (fun o i => o = .slice none 0 0 ∧ i = .int .i64 0) (fun _ _ => 0)
  case atStart => exact ⟨rfl, rfl⟩
  case round =>
    obtain ⟨rfl, rfl⟩ := hrel
    go_wp2_with fail
    refine (R _).mono ?_
    rintro e w2 ⟨rfl, rfl⟩
    clear R
    go_wp2
    go_ret2
    exact ⟨_, rfl, ⟨rfl, .inl ⟨rfl, rfl⟩⟩, Below.refl _ _⟩

set_option maxRecDepth 100000 in
set_option maxHeartbeats 2000000 in
theorem fullD_any {w : World} {B : Nat} {v : Value} {zs : List Int} (hI : Ints w B v zs) (hm : Held w 0 marksF) (hc : Held w 1 capF) (ho : Held w 2 othF) :
    Calls Tryz.prog 92 #[v] w fun e w' => ∃ v', e = .returned (.tuple #[v', .bool (okR zs)]) ∧ Ints w' w.heap.size v' (fullA zs) ∧ Below w.heap.size w w' := by
  unfold fullA
  cases hok : okR zs
  · have G := goods_any hI
    rw [hok] at G
    rw [if_neg (by simp)]
    clear hI hok hm hc ho
    go_enter Tryz.func92, Tryz.ntmps92
    go_wp2_with fail
    refine G.mono ?_
    rintro e w1 ⟨rfl, rfl⟩
    clear G
    go_wp2
    go_ret2
    exact ⟨_, rfl, ⟨rfl, .inl ⟨rfl, rfl⟩⟩, Below.refl _ _⟩
  · rw [if_pos rfl]
    rcases hI.form with ⟨rfl, rfl⟩ | ⟨g, cap, rfl, _, _⟩
    · rw [show nD [] = [] by decide]
      exact fullD_nil w hm
    · exact fullD_row w B g cap zs hok hI hm ⟨hc, ho⟩

theorem fullA_len (zs : List Int) : (fullA zs).length ≤ 1800 := by
  unfold fullA
  split
  · rename_i h
    have h6 := (okR_true h).1
    have h7 := apD_len zs
    rw [nD_len]; omega
  · simp

end Go.Proofs.YtanfebccenfffagGreatDoor

namespace Go.Proofs.YtanfebccenfffagGreatDoor
open Go.RowKit

def EqualTo (a b : List Int) (k : Nat) : Prop := ∀ j, j < k → a[j]? = b[j]?

set_option maxRecDepth 100000 in
set_option maxHeartbeats 1000000 in
theorem equal_none (w : World) (a b : Option Addr) (c d : Nat) : Calls Tryz.prog 73 #[.slice a 0 c, .slice b 0 d] w fun e w' => e = .returned (.bool true) ∧ ∃ n, w' = w.drewN n := by
  go_enter Tryz.func73, Tryz.ntmps73
  go_wp2
  go_loopw [13] (fun i wr => i = .int .i64 0 ∧ wr = w) (fun _ _ => 0)
  case atStart => exact ⟨rfl, rfl⟩
  case round =>
    obtain ⟨rfl, rfl⟩ := hrel
    go_wp2
    go_ret
    exact ⟨rfl, 0, rfl⟩

set_option maxRecDepth 100000 in
set_option maxHeartbeats 1000000 in
theorem equal_len (w : World) (a b : Option Addr) (n m c d : Nat) (h : n ≠ m) : Calls Tryz.prog 73 #[.slice a n c, .slice b m d] w fun e w' => e = .returned (.bool false) ∧ ∃ n, w' = w.drewN n := by
  have h2 : ((n : Int) != (m : Int)) = true := by simp; omega
  go_enter Tryz.func73, Tryz.ntmps73
  go_wp2
  go_ret
  exact ⟨rfl, 0, rfl⟩

set_option maxRecDepth 100000 in
set_option maxHeartbeats 1000000 in
theorem equal_row (w : World) (g g' cap cap' n : Nat) (za zb : List Int) (ha : za.length = n) (hb : zb.length = n) (hz : n ≤ 1048576)
    (h1 : ∀ j, j < n → w.cell? ⟨g, j, none⟩ = some (.int .i64 (za[j]?.getD 0)))
    (h2 : ∀ j, j < n → w.cell? ⟨g', j, none⟩ = some (.int .i64 (zb[j]?.getD 0))) :
    Calls Tryz.prog 73 #[.slice (some ⟨g, 0, none⟩) n cap, .slice (some ⟨g', 0, none⟩) n cap'] w fun e w' => e = .returned (.bool (decide (za = zb))) ∧ ∃ n, w' = w.drewN n := by
  go_enter Tryz.func73, Tryz.ntmps73
  go_wp2
  go_loopw [13] (fun i wr => ∃ k nq : Nat, k ≤ n ∧ i = .int .i64 k ∧ wr = w.drewN nq ∧ Hid (EqualTo za zb k)) (fun i _ => n - (intOf i).toNat)
  case atStart => exact ⟨0, 0, Nat.zero_le _, rfl, rfl, fun j hj => by omega⟩
  case round =>
    obtain ⟨k, nq, hk, rfl, rfl, HS⟩ := hrel
    by_cases hlt : k < n
    · obtain ⟨x, hx⟩ : ∃ x, za[k]? = some x := ⟨_, List.getElem?_eq_getElem (by omega)⟩
      obtain ⟨y, hy⟩ : ∃ y, zb[k]? = some y := ⟨_, List.getElem?_eq_getElem (by omega)⟩
      have g1 := h1 k hlt
      have g2 := h2 k hlt
      rw [hx] at g1
      rw [hy] at g2
      have e1 : w.cell? ⟨g, k, none⟩ = some (.int .i64 x) := g1
      have e2 : w.cell? ⟨g', k, none⟩ = some (.int .i64 y) := g2
      have hz2 : (k : Int) < (n : Int) := by omega
      have HX : Hid _ := hx
      have HY : Hid _ := hy
      have HA : Hid _ := ha
      have HB : Hid _ := hb
      clear h1 h2 g1 g2 hx hy ha hb
      by_cases e : x = y
      · subst e
        have HS2 : Hid (EqualTo za zb (k + 1)) := by
          intro j hj
          by_cases e : j = k
          · subst e; rw [HX.out, HY.out]
          · exact HS.out j (by omega)
        go_wp2
        go_quiet (fail)
        go_wp2
        exact ⟨⟨k + 1, _, by omega, by go_num, rfl, HS2⟩, by simp [intOf]; omega⟩
      · have hne : (x != y) = true := by simpa using e
        have HN : Hid (false = decide (za = zb)) := by
          refine (decide_eq_false fun h => e ?_).symm
          have := HX.out
          rw [h, HY.out] at this
          exact (Option.some.inj this).symm
        clear e
        go_wp2
        go_quiet (fail)
        go_wp2
        go_ret
        exact ⟨ret_b HN.out, _, World.drewN_drewN _ _ _⟩
    · have HN : Hid (true = decide (za = zb)) := by
        refine (decide_eq_true ?_).symm
        apply List.ext_getElem?
        intro j
        by_cases hj : j < k
        · exact HS.out j hj
        · rw [List.getElem?_eq_none (by omega), List.getElem?_eq_none (by omega)]
      have HA : Hid _ := ha
      have HB : Hid _ := hb
      clear h1 h2 ha hb
      go_wp2
      go_ret
      exact ⟨ret_b HN.out, _, rfl⟩

theorem equal_any {w : World} {B B' : Nat} {a b : Value} {za zb : List Int} (hza : za.length ≤ 1048576) (hzb : zb.length ≤ 1048576) (ha : Ints w B a za) (hb : Ints w B' b zb) :
    Calls Tryz.prog 73 #[a, b] w fun e w' => e = .returned (.bool (decide (za = zb))) ∧ ∃ n, w' = w.drewN n := by
  by_cases h : za.length = zb.length
  · rcases ha.form with ⟨rfl, rfl⟩ | ⟨g, cap, rfl, h1, h2⟩
    · have e : zb = [] := List.eq_nil_of_length_eq_zero (by simpa using h.symm)
      subst e
      rcases hb.form with ⟨rfl, _⟩ | ⟨g', cap', rfl, _, _⟩
      · exact equal_none w _ _ _ _
      · exact equal_none w _ _ _ _
    · rcases hb.form with ⟨rfl, rfl⟩ | ⟨g', cap', rfl, _, _⟩
      · have e : za = [] := List.eq_nil_of_length_eq_zero (by simpa using h)
        subst e
        exact equal_none w _ _ _ _
      · rw [← h]
        exact equal_row w g g' cap cap' za.length za zb rfl h.symm hza (fun j hj => ha.cell j hj) (fun j hj => hb.cell j (by omega))
  · have e : decide (za = zb) = false := decide_eq_false (fun e => h (by rw [e]))
    rw [e]
    rcases ha.form with ⟨rfl, rfl⟩ | ⟨g, cap, rfl, h1, h2⟩
    · rcases hb.form with ⟨rfl, rfl⟩ | ⟨g', cap', rfl, _, _⟩
      · exact absurd rfl h
      · exact equal_len w _ _ _ _ _ _ (by simpa using h)
    · rcases hb.form with ⟨rfl, rfl⟩ | ⟨g', cap', rfl, _, _⟩
      · exact equal_len w _ _ _ _ _ _ (by simpa using h)
      · exact equal_len w _ _ _ _ _ _ h
end Go.Proofs.YtanfebccenfffagGreatDoor

namespace Go.Proofs.YtanfebccenfffagGreatDoor
open Go.RowKit

set_option maxRecDepth 100000 in
set_option maxHeartbeats 1000000 in
theorem implIsN_any {w : World} {B : Nat} {v : Value} {zs : List Int} (hz : zs.length ≤ 1048576) (hI : Ints w B v zs) (hm : Held w 0 marksF) (hc : Held w 1 capF) (ho : Held w 2 othF) :
    Calls Tryz.prog 72 #[v] w fun e w' => e = .returned (.tuple #[.bool (isD zs), .bool (okR zs)]) ∧ Below w.heap.size w w' := by
  have D := fullD_any hI hm hc ho
  have hbd := fullA_len zs
  unfold isD
  clear hm hc ho
  cases hok : okR zs
  · rw [hok] at D
    clear hI hok hbd
    go_enter Tryz.func72, Tryz.ntmps72
    go_wp2_with fail
    refine D.mono ?_
    rintro e w1 ⟨v1, rfl, h1, h2⟩
    clear D
    go_wp2
    go_ret2
    exact ⟨rfl, h2⟩
  · unfold fullA at D hbd
    rw [hok, if_pos rfl] at D
    rw [hok, if_pos rfl] at hbd
    clear hok
    generalize nD zs = ds at *
    go_enter Tryz.func72, Tryz.ntmps72
    go_wp2_with fail
    refine D.mono ?_
    rintro e w1 ⟨v1, rfl, h1, h2⟩
    have E := equal_any (by omega) hz h1 (hI.below h2)
    clear D
    go_wp2_with fail
    refine E.mono ?_
    rintro e w2 ⟨rfl, n2, rfl⟩
    clear E
    go_wp2
    go_ret2
    exact ⟨rfl, below_drewN h2 n2⟩
end Go.Proofs.YtanfebccenfffagGreatDoor

namespace Go.Proofs.YtanfebccenfffagGreatDoor
open Go.RowKit

/-- Whether an elem may be an entry's. -/
def elOk (e : El) : Bool := decide (1 ≤ e.first ∧ e.first ≤ 65535) && (decide (32 ≤ e.second ∧ e.second ≤ 999) && (decide (2 ≤ e.third ∧ e.third ≤ 99) && !e.varies))

set_option maxRecDepth 100000 in
set_option maxHeartbeats 2000000 in
theorem goodElem_any (e : El) (w : World) : Calls Tryz.prog 49 #[.agg #[.int .i64 e.first, .int .i64 e.second, .int .i64 e.third, .bool e.varies]] w fun x w' => x = .returned (.bool (elOk e)) ∧ Below w.heap.size w w' := by
  obtain ⟨b, HB⟩ : ∃ b, Hid (elOk e = b) := ⟨_, rfl⟩
  rw [HB.out]
  obtain ⟨a, c, d, v⟩ := e
  simp only at *
  have hal := (Below.refl w.heap.size w).alloc (Nat.le_refl _) (.cells #[.int .i64 a, .int .i64 c, .int .i64 d, .bool v] 80)
  have fin : ∀ x, (x = true ↔ ((1 ≤ a ∧ a ≤ 65535) ∧ (32 ≤ c ∧ c ≤ 999) ∧ (2 ≤ d ∧ d ≤ 99) ∧ v = false)) → b = x := by
    intro x hx
    rw [← HB.out]
    unfold elOk
    rw [Bool.eq_iff_iff, hx]
    simp
  have HF : Hid _ := fin
  clear fin HB
  by_cases h1 : 1 ≤ a
  · by_cases h2 : a ≤ 65535
    · by_cases h3 : 32 ≤ c
      · by_cases h4 : c ≤ 999
        · by_cases h5 : 2 ≤ d
          · by_cases h6 : d ≤ 99
            · cases v
              · rw [HF.out true (by simp; omega)]
                clear HF
                go_enter Tryz.func49, Tryz.ntmps49
                go_wp2
                go_ret
                exact ⟨rfl, hal⟩
              · rw [HF.out false (by simp)]
                clear HF
                go_enter Tryz.func49, Tryz.ntmps49
                go_wp2
                go_ret
                exact ⟨rfl, hal⟩
            · rw [HF.out false (by simp; omega)]
              clear HF
              go_enter Tryz.func49, Tryz.ntmps49
              go_wp2
              go_ret
              exact ⟨rfl, hal⟩
          · rw [HF.out false (by simp; omega)]
            clear HF
            go_enter Tryz.func49, Tryz.ntmps49
            go_wp2
            go_ret
            exact ⟨rfl, hal⟩
        · rw [HF.out false (by simp; omega)]
          clear HF
          go_enter Tryz.func49, Tryz.ntmps49
          go_wp2
          go_ret
          exact ⟨rfl, hal⟩
      · rw [HF.out false (by simp; omega)]
        clear HF
        go_enter Tryz.func49, Tryz.ntmps49
        go_wp2
        go_ret
        exact ⟨rfl, hal⟩
    · rw [HF.out false (by simp; omega)]
      clear HF
      go_enter Tryz.func49, Tryz.ntmps49
      go_wp2
      go_ret
      exact ⟨rfl, hal⟩
  · rw [HF.out false (by simp; omega)]
    clear HF
    go_enter Tryz.func49, Tryz.ntmps49
    go_wp2
    go_ret
    exact ⟨rfl, hal⟩

/-- The program's tables. -/
def Tabs3 (w : World) : Prop := Held w 0 marksF ∧ Held w 1 capF ∧ Held w 2 othF
theorem Tabs3.below {w w' : World} (h : Tabs3 w) (hb : Below w.heap.size w w') : Tabs3 w' := ⟨h.1.below hb h.1.lt, h.2.1.below hb h.2.1.lt, h.2.2.below hb h.2.2.lt⟩

theorem runesOk_far {l : List Int} (h : ¬ (1 ≤ l.length ∧ l.length ≤ 4)) : runesOk l = false := by
  unfold runesOk
  rw [decide_eq_false h, Bool.false_and]

theorem runesOk_near {l : List Int} (h : 1 ≤ l.length ∧ l.length ≤ 4) : runesOk l = (isD l && okR l) := by
  unfold runesOk isD
  rw [decide_eq_true h, Bool.true_and]
  cases okR l <;> simp

set_option maxRecDepth 100000 in
set_option maxHeartbeats 2000000 in
theorem joined_any {w : World} {B : Nat} {v : Value} {l : List Int} (hz : l.length ≤ 1048576) (hI : Ints w B v l) (ht : Tabs3 w) :
    Calls Tryz.prog 48 #[v] w fun e w' => e = .returned (.bool (runesOk l)) ∧ Below w.heap.size w w' := by
  have D := implIsN_any hz hI ht.1 ht.2.1 ht.2.2
  obtain ⟨a, c, rfl⟩ : ∃ a c, v = .slice a l.length c := by
    rcases hI.form with ⟨rfl, rfl⟩ | ⟨g, cap, rfl, _, _⟩
    · exact ⟨_, _, rfl⟩
    · exact ⟨_, _, rfl⟩
  clear hI ht
  by_cases h1 : 1 ≤ l.length
  · by_cases h2 : l.length ≤ 4
    · rw [runesOk_near ⟨h1, h2⟩]
      have h3 : ¬ (l.length : Int) < 1 := by omega
      have h4 : ¬ (4 : Int) < (l.length : Int) := by omega
      generalize isD l = x at *
      generalize okR l = y at *
      generalize l.length = n at *
      cases x
      · go_enter Tryz.func48, Tryz.ntmps48
        go_wp2_with fail
        refine D.mono ?_
        rintro e w1 ⟨rfl, b1⟩
        clear D
        go_wp2
        go_ret
        exact ⟨rfl, b1⟩
      · go_enter Tryz.func48, Tryz.ntmps48
        go_wp2_with fail
        refine D.mono ?_
        rintro e w1 ⟨rfl, b1⟩
        clear D
        go_wp2
        go_ret
        exact ⟨rfl, b1⟩
    · rw [runesOk_far (fun h => h2 h.2)]
      have h3 : ¬ (l.length : Int) < 1 := by omega
      have h4 : (4 : Int) < (l.length : Int) := by omega
      clear D
      go_enter Tryz.func48, Tryz.ntmps48
      go_wp2
      go_ret
      exact ⟨rfl, Below.refl _ _⟩
  · rw [runesOk_far (fun h => h1 h.1)]
    have h3 : (l.length : Int) < 1 := by omega
    clear D
    go_enter Tryz.func48, Tryz.ntmps48
    go_wp2
    go_ret
    exact ⟨rfl, Below.refl _ _⟩
end Go.Proofs.YtanfebccenfffagGreatDoor

namespace Go.Proofs.YtanfebccenfffagGreatDoor

theorem place_out {l : List Int} {r : Int} (h : r ∉ l) : placeIn l r = none := by
  unfold placeIn
  rw [List.findIdx?_eq_none_iff]
  intro x hx
  simp only [beq_eq_false_iff_ne]
  intro e
  exact h (e ▸ hx)

theorem place_in {l : List Int} {r : Int} (h : r ∈ l) : ∃ i, placeIn l r = some i ∧ i < l.length := by
  cases e : placeIn l r with
  | some i => exact ⟨i, rfl, by unfold placeIn at e; exact (List.findIdx?_eq_some_iff_getElem.1 e).1⟩
  | none =>
    unfold placeIn at e
    have := List.findIdx?_eq_none_iff.1 e r h
    simp at this

/-- Where a rune stands among those that vary; less than 0: nowhere. -/
def idxV (r : Int) : Int := match placeIn vsl r with
  | some i => (i : Int)
  | none => -1

theorem base_vs {r : Int} {i : Nat} (h : placeIn vsl r = some i) : base r = [⟨1 + (i : Int), 32, 2, true⟩] := by unfold base; rw [h]
theorem base_mk {r : Int} {i : Nat} (h0 : placeIn vsl r = none) (h : placeIn mkl r = some i) : base r = [⟨0, 40 + (i : Int), 2, false⟩] := by unfold base; rw [h0]; simp only; rw [h]
theorem base_rest {r : Int} (h0 : placeIn vsl r = none) (h : placeIn mkl r = none) : base r = baseRest r := by unfold base; rw [h0]; simp only; rw [h]

theorem vsl_bd : ∀ x ∈ vsl, 32 ≤ x ∧ x ≤ 126 ∧ ¬ (48 ≤ x ∧ x ≤ 57) ∧ ¬ (97 ≤ x ∧ x ≤ 122) ∧ ¬ (65 ≤ x ∧ x ≤ 90) := by decide
theorem mkl_bd : ∀ x ∈ mkl, 128 ≤ x := by decide
theorem vs_far {r : Int} (h : ¬ (32 ≤ r ∧ r ≤ 126)) : placeIn vsl r = none := place_out fun c => h ⟨(vsl_bd r c).1, (vsl_bd r c).2.1⟩
theorem mk_far {r : Int} (h : r < 128) : placeIn mkl r = none := place_out fun c => by have := mkl_bd r c; omega

theorem base_ctl {r : Int} (_h0 : 0 ≤ r) (h : r ≤ 31 ∨ r = 127) : base r = [] := by
  rw [base_rest (vs_far (by omega)) (mk_far (by omega))]
  unfold baseRest
  rw [if_pos (by omega)]

theorem base_digit {r : Int} (h : 48 ≤ r ∧ r ≤ 57) : base r = [⟨2000 + 100 * (r - 48), 32, 2, false⟩] := by
  rw [base_rest (place_out fun c => (vsl_bd r c).2.2.1 h) (mk_far (by omega))]
  unfold baseRest
  rw [if_neg (by omega), if_pos h]

theorem base_small {r : Int} (h : 97 ≤ r ∧ r ≤ 122) : base r = [⟨4000 + 200 * (r - 97), 32, 2, false⟩] := by
  rw [base_rest (place_out fun c => (vsl_bd r c).2.2.2.1 h) (mk_far (by omega))]
  unfold baseRest
  rw [if_neg (by omega), if_neg (by omega), if_pos h]

theorem base_cap {r : Int} (h : 65 ≤ r ∧ r ≤ 90) : base r = [⟨4000 + 200 * (r - 65), 32, 8, false⟩] := by
  rw [base_rest (place_out fun c => (vsl_bd r c).2.2.2.2 h) (mk_far (by omega))]
  unfold baseRest
  rw [if_neg (by omega), if_neg (by omega), if_neg (by omega), if_pos h]

theorem base_two {r : Int} (h0 : placeIn vsl r = none) (h : placeIn mkl r = none) (h1 : ¬ (r ≤ 31 ∨ r = 127)) (h2 : ¬ (48 ≤ r ∧ r ≤ 57)) (h3 : ¬ (97 ≤ r ∧ r ≤ 122)) (h4 : ¬ (65 ≤ r ∧ r ≤ 90)) : base r = [⟨60000 + r / 32768, 32, 2, false⟩, ⟨32768 + r % 32768, 0, 0, false⟩] := by
  rw [base_rest h0 h]
  unfold baseRest
  rw [if_neg (by omega), if_neg h2, if_neg h3, if_neg h4]
end Go.Proofs.YtanfebccenfffagGreatDoor

namespace Go.Proofs.YtanfebccenfffagGreatDoor
open Go.RowKit

def vsB : ByteArray := ⟨#[32, 95, 45, 44, 59, 58, 33, 63, 46]⟩

set_option maxRecDepth 100000 in
set_option maxHeartbeats 1000000 in
theorem liteByte_any (s : ByteArray) (c : Int) (w : World) :
    Calls Tryz.prog 129 #[.string s, .int .u8 c] w fun e w' => e = .returned (.int .i64 (Lib.indexByte s.data.toList c.toNat.toUInt8)) ∧ w' = w := by
  go_enter Tryz.func129, Tryz.ntmps129
  go_wp2
  rw [run_callFunc_extern Tryz.func130 (by kernel_rfl) (by kernel_rfl) (by kernel_rfl) (e := Extern.BytealgIndexByte.indexByte) (by kernel_rfl), Lib.run_indexByteString]
  simp only [Result.andThen]
  rw [Oper.upon_value]
  go_wp2
  go_ret
  exact ⟨rfl, rfl⟩

set_option maxRecDepth 100000 in
set_option maxHeartbeats 1000000 in
theorem strByte_any (s : ByteArray) (c : Int) (w : World) :
    Calls Tryz.prog 124 #[.string s, .int .u8 c] w fun e w' => e = .returned (.int .i64 (Lib.indexByte s.data.toList c.toNat.toUInt8)) ∧ w' = w := by
  have A := fun w => liteByte_any s c w
  go_enter Tryz.func124, Tryz.ntmps124
  go_wp2_with fail
  refine (A _).mono ?_
  rintro e w1 ⟨rfl, rfl⟩
  clear A
  go_wp2
  go_ret
  exact ⟨rfl, rfl⟩

theorem idx_low : ((List.range 128).all fun k => Lib.indexByte vsB.data.toList ((k : Int).toNat.toUInt8) == idxV (k : Int)) = true := by kernel_rfl

theorem idx_lowAt {r : Int} (h0 : 0 ≤ r) (h1 : r < 128) : Lib.indexByte vsB.data.toList (r.toNat.toUInt8) = idxV r := by
  obtain ⟨k, rfl⟩ : ∃ k : Nat, r = (k : Int) := ⟨r.toNat, by omega⟩
  exact eq_of_beq (List.all_eq_true.1 idx_low k (List.mem_range.2 (by omega)))

theorem vs_dec (p : Nat) (hp : p < 9) : (Utf8.decode ⟨#[32, 95, 45, 44, 59, 58, 33, 63, 46]⟩ p).2 = 1 ∧ ((Utf8.decode ⟨#[32, 95, 45, 44, 59, 58, 33, 63, 46]⟩ p).1 : Int) ≠ 65533 :=
  (by decide : ∀ q : Fin 9, (Utf8.decode ⟨#[32, 95, 45, 44, 59, 58, 33, 63, 46]⟩ q.1).2 = 1 ∧ ((Utf8.decode ⟨#[32, 95, 45, 44, 59, 58, 33, 63, 46]⟩ q.1).1 : Int) ≠ 65533) ⟨p, hp⟩

theorem idx_none {r : Int} (h : 128 ≤ r) : idxV r = -1 := by
  unfold idxV
  rw [vs_far (by omega)]

set_option maxRecDepth 100000 in
set_option maxHeartbeats 4000000 in
theorem idxRune_low (r : Int) (h0 : 0 ≤ r) (h1 : r < 128) (w : World) :
    Calls Tryz.prog 120 #[.string ⟨#[32, 95, 45, 44, 59, 58, 33, 63, 46]⟩, .int .i32 r] w fun e w' => e = .returned (.int .i64 (idxV r)) ∧ w' = w := by
  have A := fun w => strByte_any vsB r w
  rw [idx_lowAt h0 h1] at A
  unfold vsB at A
  go_enter Tryz.func120, Tryz.ntmps120
  go_wp2_with fail
  refine (A _).mono ?_
  rintro e w1 ⟨rfl, rfl⟩
  clear A
  go_wp2
  go_ret
  exact ⟨rfl, rfl⟩

set_option maxRecDepth 100000 in
set_option maxHeartbeats 4000000 in
theorem idxRune_bad (w : World) :
    Calls Tryz.prog 120 #[.string ⟨#[32, 95, 45, 44, 59, 58, 33, 63, 46]⟩, .int .i32 65533] w fun e w' => e = .returned (.int .i64 (-1)) ∧ Below w.heap.size w w' := by
  go_enter Tryz.func120, Tryz.ntmps120
  go_wp2_with fail
  go_loopw [4] (fun v wr => v = .int .i64 0 ∧ ∃ p : Nat, p ≤ 9 ∧ wr.heap[w.heap.size]? = some (.stringIter ⟨#[32, 95, 45, 44, 59, 58, 33, 63, 46]⟩ p) ∧ Below w.heap.size w wr) (fun _ wr => 9 - wr.iterPos w.heap.size)
  case atStart => exact ⟨rfl, 0, Nat.zero_le _, World.iter_heap w _ 0, (Below.refl _ _).alloc (Nat.le_refl _) _⟩
  case round =>
    obtain ⟨rfl, p, hp, hit, hbw⟩ := hrel
    have hpos0 := iterPos_of hit
    by_cases hlt : p < 9
    · have hnx : ∀ ty, (Instr.next (.pointer (some ⟨w.heap.size, 0, none⟩)) true ty).run Tryz.prog wr = _ := fun ty => Lib.run_next_any_at wr w.heap.size ⟨#[32, 95, 45, 44, 59, 58, 33, 63, 46]⟩ p ty hit hlt
      obtain ⟨d1, d2⟩ := vs_dec p hlt
      have hit2 := Lib.iterAt_heap wr w.heap.size ⟨#[32, 95, 45, 44, 59, 58, 33, 63, 46]⟩ p (p + (Utf8.decode ⟨#[32, 95, 45, 44, 59, 58, 33, 63, 46]⟩ p).2) hit
      have hbw2 := Lib.below_iterAt hbw (k := w.heap.size) (Nat.le_refl _) ⟨#[32, 95, 45, 44, 59, 58, 33, 63, 46]⟩ (p + (Utf8.decode ⟨#[32, 95, 45, 44, 59, 58, 33, 63, 46]⟩ p).2)
      obtain ⟨W1, hW1⟩ : ∃ W1, W1 = wr.iterAt w.heap.size ⟨#[32, 95, 45, 44, 59, 58, 33, 63, 46]⟩ (p + (Utf8.decode ⟨#[32, 95, 45, 44, 59, 58, 33, 63, 46]⟩ p).2) := ⟨_, rfl⟩
      rw [← hW1] at hnx hit2 hbw2
      rw [d1] at hit2
      have d3 : (((Utf8.decode ⟨#[32, 95, 45, 44, 59, 58, 33, 63, 46]⟩ p).1 : Int) == 65533) = false := by simpa using d2
      generalize ((Utf8.decode ⟨#[32, 95, 45, 44, 59, 58, 33, 63, 46]⟩ p).1 : Int) = x at *
      clear hW1 hit hbw d1 d2
      go_wp2
      exact ⟨⟨rfl, p + 1, by omega, hit2, hbw2⟩, by rw [iterPos_of hit2, hpos0]; omega⟩
    · have hnx : ∀ ty, (Instr.next (.pointer (some ⟨w.heap.size, 0, none⟩)) true ty).run Tryz.prog wr = _ := fun ty => Lib.run_next_end_at wr w.heap.size ⟨#[32, 95, 45, 44, 59, 58, 33, 63, 46]⟩ p ty hit hlt
      go_wp2
      go_ret
      exact ⟨rfl, hbw⟩

set_option maxRecDepth 100000 in
set_option maxHeartbeats 4000000 in
theorem valid_any (r : Int) (h0 : 128 ≤ r) (h1 : r ≤ 1114111) (h2 : ¬ (55296 ≤ r ∧ r ≤ 57343)) (w : World) :
    Calls Tryz.prog 125 #[.int .i32 r] w fun e w' => e = .returned (.bool true) ∧ w' = w := by
  go_enter Tryz.func125, Tryz.ntmps125
  by_cases h3 : r < 55296
  · go_wp2
    go_ret
    exact ⟨rfl, rfl⟩
  · have h4 : 57343 < r := by omega
    clear h2
    go_wp2
    go_ret
    exact ⟨rfl, rfl⟩

theorem enc_cases (r : Int) (h0 : 128 ≤ r) (h1 : r ≤ 1114111) (h2 : ¬ (55296 ≤ r ∧ r ≤ 57343)) : (∃ a z : UInt8, Utf8.encode r = ⟨#[a, z]⟩ ∧ 128 ≤ z.toNat) ∨ (∃ a b z : UInt8, Utf8.encode r = ⟨#[a, b, z]⟩ ∧ 128 ≤ z.toNat) ∨ (∃ a b c z : UInt8, Utf8.encode r = ⟨#[a, b, c, z]⟩ ∧ 128 ≤ z.toNat) := by
  have hv : Utf8.valid r = true := by
    unfold Utf8.valid
    simp
    omega
  have hz : ∀ n : Nat, 128 ≤ (UInt8.ofNat (0x80 + n % 64)).toNat := by
    intro n
    rw [UInt8.toNat_ofNat']
    omega
  unfold Utf8.encode
  rw [hv]
  simp only [if_true]
  rw [if_neg (by omega)]
  split
  · exact .inl ⟨_, _, rfl, hz _⟩
  · split
    · exact .inr (.inl ⟨_, _, _, rfl, hz _⟩)
    · exact .inr (.inr ⟨_, _, _, _, rfl, hz _⟩)

theorem vs_miss {z : UInt8} (h : 128 ≤ z.toNat) (n : Nat) : Lib.indexByte ((⟨#[32, 95, 45, 44, 59, 58, 33, 63, 46]⟩ : ByteArray).extract n 9).data.toList ((z.toNat : Int).toNat.toUInt8) = -1 := by
  have hz2 : (z.toNat : Int).toNat.toUInt8 = z := by simp
  rw [hz2]
  have hge := Lib.indexByte_ge ((⟨#[32, 95, 45, 44, 59, 58, 33, 63, 46]⟩ : ByteArray).extract n 9).data.toList z
  by_cases c : Lib.indexByte ((⟨#[32, 95, 45, 44, 59, 58, 33, 63, 46]⟩ : ByteArray).extract n 9).data.toList z = -1
  · exact c
  · exfalso
    obtain ⟨m, hm⟩ : ∃ m : Nat, Lib.indexByte ((⟨#[32, 95, 45, 44, 59, 58, 33, 63, 46]⟩ : ByteArray).extract n 9).data.toList z = (m : Int) := ⟨(Lib.indexByte ((⟨#[32, 95, 45, 44, 59, 58, 33, 63, 46]⟩ : ByteArray).extract n 9).data.toList z).toNat, by omega⟩
    obtain ⟨h1, _⟩ := Lib.indexByte_some hm
    have h2 := List.mem_of_getElem? h1
    rw [ByteArray.data_extract, Array.toList_extract, List.extract_eq_take_drop] at h2
    have h3 := List.mem_of_mem_drop (List.mem_of_mem_take h2)
    have h4 : ∀ x ∈ (⟨#[32, 95, 45, 44, 59, 58, 33, 63, 46]⟩ : ByteArray).data.toList, x.toNat < 128 := by decide
    have := h4 z h3
    omega

set_option maxRecDepth 100000 in
set_option maxHeartbeats 4000000 in
theorem idxRune_two (r : Int) (a z : UInt8) (hE : Utf8.encode r = ⟨#[a, z]⟩) (hz : 128 ≤ z.toNat) (h0 : 128 ≤ r) (h1 : r ≤ 1114111) (h2 : ¬ (55296 ≤ r ∧ r ≤ 57343)) (h3 : r ≠ 65533) (w : World) :
    Calls Tryz.prog 120 #[.string ⟨#[32, 95, 45, 44, 59, 58, 33, 63, 46]⟩, .int .i32 r] w fun e w' => e = .returned (.int .i64 (-1)) ∧ Below w.heap.size w w' := by
  have V := fun w => valid_any r h0 h1 h2 w
  have h4 : (r == 65533) = false := by simpa using h3
  go_enter Tryz.func120, Tryz.ntmps120
  go_wp2_with fail
  refine (V _).mono ?_
  rintro e w1 ⟨rfl, rfl⟩
  clear V
  go_wp2_with fail
  go_step3
  go_wp2_with fail
  go_loopw [9] (fun v wr => wr = w1 ∧ v = .int .i64 1) (fun _ _ => 0)
  case atStart => exact ⟨rfl, rfl⟩
  case round =>
    obtain ⟨rfl, rfl⟩ := hrel
    have i1 : ∀ w, (Instr.index 9 (.string ⟨#[32, 95, 45, 44, 59, 58, 33, 63, 46]⟩) (.int .i64 1)).run Tryz.prog w = .ok (.int .u8 95) w := fun _ => by kernel_rfl
    have i2 : ∀ w, (Instr.index 9 (.string ⟨#[a, z]⟩) (.int .i64 1)).run Tryz.prog w = .ok (.int .u8 z.toNat) w := fun _ => by kernel_rfl
    have i3 : ((95 : Int) != (z.toNat : Int)) = true := by simp; omega
    have i4 : ∀ w, (Instr.slice 9 (.string ⟨#[32, 95, 45, 44, 59, 58, 33, 63, 46]⟩) (some (.int .i64 (IntKind.i64.wrap 2))) none none).run Tryz.prog w = .ok (.string ((⟨#[32, 95, 45, 44, 59, 58, 33, 63, 46]⟩ : ByteArray).extract 2 9)) w := fun _ => by kernel_rfl
    have A := fun w => strByte_any ((⟨#[32, 95, 45, 44, 59, 58, 33, 63, 46]⟩ : ByteArray).extract 2 9) z.toNat w
    rw [vs_miss hz 2] at A
    generalize ((⟨#[32, 95, 45, 44, 59, 58, 33, 63, 46]⟩ : ByteArray).extract 2 9) = sx at *
    go_wp2_with fail
    go_step3
    go_wp2_with fail
    go_quiet (fail)
    go_wp2_with fail
    go_quiet ((go_at_call 124; exact (A _).mono fun e w' h => ⟨h.1, _, h.2⟩))
    go_wp2
    change bodyPost _ _ (fun e w' => e = Ending.returned (.int .i64 (-1)) ∧ Below wr.heap.size wr w') Exit.ret _ _
    go_ret
    exact ⟨rfl, below_drewN (Below.refl _ _) _⟩

set_option maxRecDepth 100000 in
set_option maxHeartbeats 4000000 in
theorem idxRune_three (r : Int) (a b z : UInt8) (hE : Utf8.encode r = ⟨#[a, b, z]⟩) (hz : 128 ≤ z.toNat) (h0 : 128 ≤ r) (h1 : r ≤ 1114111) (h2 : ¬ (55296 ≤ r ∧ r ≤ 57343)) (h3 : r ≠ 65533) (w : World) :
    Calls Tryz.prog 120 #[.string ⟨#[32, 95, 45, 44, 59, 58, 33, 63, 46]⟩, .int .i32 r] w fun e w' => e = .returned (.int .i64 (-1)) ∧ Below w.heap.size w w' := by
  have V := fun w => valid_any r h0 h1 h2 w
  have h4 : (r == 65533) = false := by simpa using h3
  go_enter Tryz.func120, Tryz.ntmps120
  go_wp2_with fail
  refine (V _).mono ?_
  rintro e w1 ⟨rfl, rfl⟩
  clear V
  go_wp2_with fail
  go_step3
  go_wp2_with fail
  go_loopw [9] (fun v wr => wr = w1 ∧ v = .int .i64 2) (fun _ _ => 0)
  case atStart => exact ⟨rfl, rfl⟩
  case round =>
    obtain ⟨rfl, rfl⟩ := hrel
    have i1 : ∀ w, (Instr.index 9 (.string ⟨#[32, 95, 45, 44, 59, 58, 33, 63, 46]⟩) (.int .i64 2)).run Tryz.prog w = .ok (.int .u8 45) w := fun _ => by kernel_rfl
    have i2 : ∀ w, (Instr.index 9 (.string ⟨#[a, b, z]⟩) (.int .i64 2)).run Tryz.prog w = .ok (.int .u8 z.toNat) w := fun _ => by kernel_rfl
    have i3 : ((45 : Int) != (z.toNat : Int)) = true := by simp; omega
    have i4 : ∀ w, (Instr.slice 9 (.string ⟨#[32, 95, 45, 44, 59, 58, 33, 63, 46]⟩) (some (.int .i64 (IntKind.i64.wrap 3))) none none).run Tryz.prog w = .ok (.string ((⟨#[32, 95, 45, 44, 59, 58, 33, 63, 46]⟩ : ByteArray).extract 3 9)) w := fun _ => by kernel_rfl
    have A := fun w => strByte_any ((⟨#[32, 95, 45, 44, 59, 58, 33, 63, 46]⟩ : ByteArray).extract 3 9) z.toNat w
    rw [vs_miss hz 3] at A
    generalize ((⟨#[32, 95, 45, 44, 59, 58, 33, 63, 46]⟩ : ByteArray).extract 3 9) = sx at *
    go_wp2_with fail
    go_step3
    go_wp2_with fail
    go_quiet (fail)
    go_wp2_with fail
    go_quiet ((go_at_call 124; exact (A _).mono fun e w' h => ⟨h.1, _, h.2⟩))
    go_wp2
    change bodyPost _ _ (fun e w' => e = Ending.returned (.int .i64 (-1)) ∧ Below wr.heap.size wr w') Exit.ret _ _
    go_ret
    exact ⟨rfl, below_drewN (Below.refl _ _) _⟩

set_option maxRecDepth 100000 in
set_option maxHeartbeats 4000000 in
theorem idxRune_four (r : Int) (a b c z : UInt8) (hE : Utf8.encode r = ⟨#[a, b, c, z]⟩) (hz : 128 ≤ z.toNat) (h0 : 128 ≤ r) (h1 : r ≤ 1114111) (h2 : ¬ (55296 ≤ r ∧ r ≤ 57343)) (h3 : r ≠ 65533) (w : World) :
    Calls Tryz.prog 120 #[.string ⟨#[32, 95, 45, 44, 59, 58, 33, 63, 46]⟩, .int .i32 r] w fun e w' => e = .returned (.int .i64 (-1)) ∧ Below w.heap.size w w' := by
  have V := fun w => valid_any r h0 h1 h2 w
  have h4 : (r == 65533) = false := by simpa using h3
  go_enter Tryz.func120, Tryz.ntmps120
  go_wp2_with fail
  refine (V _).mono ?_
  rintro e w1 ⟨rfl, rfl⟩
  clear V
  go_wp2_with fail
  go_step3
  go_wp2_with fail
  go_loopw [9] (fun v wr => wr = w1 ∧ v = .int .i64 3) (fun _ _ => 0)
  case atStart => exact ⟨rfl, rfl⟩
  case round =>
    obtain ⟨rfl, rfl⟩ := hrel
    have i1 : ∀ w, (Instr.index 9 (.string ⟨#[32, 95, 45, 44, 59, 58, 33, 63, 46]⟩) (.int .i64 3)).run Tryz.prog w = .ok (.int .u8 44) w := fun _ => by kernel_rfl
    have i2 : ∀ w, (Instr.index 9 (.string ⟨#[a, b, c, z]⟩) (.int .i64 3)).run Tryz.prog w = .ok (.int .u8 z.toNat) w := fun _ => by kernel_rfl
    have i3 : ((44 : Int) != (z.toNat : Int)) = true := by simp; omega
    have i4 : ∀ w, (Instr.slice 9 (.string ⟨#[32, 95, 45, 44, 59, 58, 33, 63, 46]⟩) (some (.int .i64 (IntKind.i64.wrap 4))) none none).run Tryz.prog w = .ok (.string ((⟨#[32, 95, 45, 44, 59, 58, 33, 63, 46]⟩ : ByteArray).extract 4 9)) w := fun _ => by kernel_rfl
    have A := fun w => strByte_any ((⟨#[32, 95, 45, 44, 59, 58, 33, 63, 46]⟩ : ByteArray).extract 4 9) z.toNat w
    rw [vs_miss hz 4] at A
    generalize ((⟨#[32, 95, 45, 44, 59, 58, 33, 63, 46]⟩ : ByteArray).extract 4 9) = sx at *
    go_wp2_with fail
    go_step3
    go_wp2_with fail
    go_quiet (fail)
    go_wp2_with fail
    go_quiet ((go_at_call 124; exact (A _).mono fun e w' h => ⟨h.1, _, h.2⟩))
    go_wp2
    change bodyPost _ _ (fun e w' => e = Ending.returned (.int .i64 (-1)) ∧ Below wr.heap.size wr w') Exit.ret _ _
    go_ret
    exact ⟨rfl, below_drewN (Below.refl _ _) _⟩

theorem idxRune_any (r : Int) (h0 : 0 ≤ r) (h1 : r ≤ 1114111) (h2 : ¬ (55296 ≤ r ∧ r ≤ 57343)) (w : World) :
    Calls Tryz.prog 120 #[.string ⟨#[32, 95, 45, 44, 59, 58, 33, 63, 46]⟩, .int .i32 r] w fun e w' => e = .returned (.int .i64 (idxV r)) ∧ Below w.heap.size w w' := by
  by_cases c : r < 128
  · exact (idxRune_low r h0 c w).mono fun e w' h => ⟨h.1, by rw [h.2]; exact Below.refl _ _⟩
  · rw [idx_none (by omega)]
    by_cases d : r = 65533
    · subst d
      exact idxRune_bad w
    · rcases enc_cases r (by omega) h1 h2 with ⟨a, z, hE, hz⟩ | ⟨a, b, z, hE, hz⟩ | ⟨a, b, c, z, hE, hz⟩
      · exact idxRune_two r a z hE hz (by omega) h1 h2 d w
      · exact idxRune_three r a b z hE hz (by omega) h1 h2 d w
      · exact idxRune_four r a b c z hE hz (by omega) h1 h2 d w
end Go.Proofs.YtanfebccenfffagGreatDoor

namespace Go.Proofs.YtanfebccenfffagGreatDoor
open Go.RowKit

set_option maxRecDepth 100000 in
set_option maxHeartbeats 1000000 in
theorem plainElem_any (n : Int) (w : World) : Calls Tryz.prog 121 #[.int .i64 n] w fun e w' => e = .returned (.agg #[.int .i64 n, .int .i64 32, .int .i64 2, .bool false]) ∧ Below w.heap.size w w' := by
  go_enter Tryz.func121, Tryz.ntmps121
  go_wp2
  refine bodyPost_ret (v := .agg #[.int .i64 n, .int .i64 32, .int .i64 2, .bool false]) ?_ rfl ⟨rfl, (Below.refl _ _).alloc (Nat.le_refl _) _⟩
  rw [results_cell1 rfl]
  go_simp

/-- The interface value of what a rune weighs. -/
def wtV : List El → Value
  | [] => .iface 162 (.agg #[])
  | [e] => .iface 165 (.agg #[.int .i64 e.first, .int .i64 e.second, .int .i64 e.third, .bool e.varies])
  | e :: f :: _ => .iface 168 (.agg #[.int .i64 e.first, .int .i64 e.second, .int .i64 e.third, .bool e.varies, .int .i64 f.first, .int .i64 f.second, .int .i64 f.third, .bool f.varies])

theorem ret_w {x y : Value} (h : x = y) : Ending.returned x = .returned y := by rw [h]

set_option maxRecDepth 100000 in
set_option maxHeartbeats 2000000 in
theorem weight_ctl (r : Int) (h0 : 0 ≤ r) (h : r ≤ 31 ∨ r = 127) (w : World) :
    Calls Tryz.prog 114 #[.int .i64 r] w fun e w' => e = .returned (wtV (base r)) ∧ Below w.heap.size w w' := by
  rw [base_ctl h0 h]
  unfold wtV
  by_cases h1 : r ≤ 31
  · clear h
    go_enter Tryz.func114, Tryz.ntmps114
    go_wp2
    go_ret
    exact ⟨rfl, Below.refl _ _⟩
  · have h2 : r = 127 := by omega
    subst h2
    clear h h0 h1
    go_enter Tryz.func114, Tryz.ntmps114
    go_wp2
    go_ret
    exact ⟨rfl, Below.refl _ _⟩

set_option maxRecDepth 100000 in
set_option maxHeartbeats 2000000 in
theorem weight_vs (r : Int) (i : Nat) (h : placeIn vsl r = some i) (hr : r ∈ vsl) (w : World) :
    Calls Tryz.prog 114 #[.int .i64 r] w fun e w' => e = .returned (wtV (base r)) ∧ Below w.heap.size w w' := by
  obtain ⟨b0, b1, _, _, _⟩ := vsl_bd r hr
  have hi : i < 9 := by unfold placeIn at h; exact (List.findIdx?_eq_some_iff_getElem.1 h).1
  have I := fun w => idxRune_any r (by omega) (by omega) (by omega) w
  have e : idxV r = (i : Int) := by unfold idxV; rw [h]
  rw [e] at I
  rw [base_vs h]
  unfold wtV
  have h1 : ¬ r ≤ 31 := by omega
  have h2 : (r == 127) = false := by simp; omega
  have HC : Hid ((i : Int) + 1 = 1 + (i : Int)) := by show _ = _; omega
  clear h hr e
  go_enter Tryz.func114, Tryz.ntmps114
  go_wp2_with fail
  refine (I _).mono ?_
  rintro e w1 ⟨rfl, b1⟩
  clear I
  go_wp2
  go_ret
  exact ⟨ret_w (by rw [HC.out]; rfl), b1⟩

set_option maxRecDepth 100000 in
set_option maxHeartbeats 2000000 in
theorem weight_digit (r : Int) (h : 48 ≤ r ∧ r ≤ 57) (w : World) :
    Calls Tryz.prog 114 #[.int .i64 r] w fun e w' => e = .returned (wtV (base r)) ∧ Below w.heap.size w w' := by
  have I := fun w => idxRune_any r (by omega) (by omega) (by omega) w
  have P := fun n w => plainElem_any n w
  have e : idxV r = -1 := by unfold idxV; rw [place_out fun c => (vsl_bd r c).2.2.1 h]
  rw [e] at I
  rw [base_digit h]
  unfold wtV
  obtain ⟨h1, h2⟩ := h
  have h3 : ¬ r ≤ 31 := by omega
  have h4 : (r == 127) = false := by simp; omega
  have HC : Hid (2000 + (r - 48) * 100 = 2000 + 100 * (r - 48)) := by show _ = _; omega
  clear e
  go_enter Tryz.func114, Tryz.ntmps114
  go_wp2_with fail
  refine (I _).mono ?_
  rintro e w1 ⟨rfl, b1⟩
  clear I
  go_wp2_with fail
  refine (P _ _).mono ?_
  rintro e w2 ⟨rfl, b2⟩
  clear P
  go_wp2
  go_ret
  exact ⟨ret_w (by rw [HC.out]; rfl), b1.trans (b2.mono b1.size)⟩

set_option maxRecDepth 100000 in
set_option maxHeartbeats 2000000 in
theorem weight_small (r : Int) (h : 97 ≤ r ∧ r ≤ 122) (w : World) :
    Calls Tryz.prog 114 #[.int .i64 r] w fun e w' => e = .returned (wtV (base r)) ∧ Below w.heap.size w w' := by
  have I := fun w => idxRune_any r (by omega) (by omega) (by omega) w
  have P := fun n w => plainElem_any n w
  have e : idxV r = -1 := by unfold idxV; rw [place_out fun c => (vsl_bd r c).2.2.2.1 h]
  rw [e] at I
  rw [base_small h]
  unfold wtV
  obtain ⟨h1, h2⟩ := h
  have h3 : ¬ r ≤ 31 := by omega
  have h4 : (r == 127) = false := by simp; omega
  have h5 : ¬ r ≤ 57 := by omega
  have HC : Hid (4000 + (r - 97) * 200 = 4000 + 200 * (r - 97)) := by show _ = _; omega
  clear e
  go_enter Tryz.func114, Tryz.ntmps114
  go_wp2_with fail
  refine (I _).mono ?_
  rintro e w1 ⟨rfl, b1⟩
  clear I
  go_wp2_with fail
  refine (P _ _).mono ?_
  rintro e w2 ⟨rfl, b2⟩
  clear P
  go_wp2
  go_ret
  exact ⟨ret_w (by rw [HC.out]; rfl), b1.trans (b2.mono b1.size)⟩

set_option maxRecDepth 100000 in
set_option maxHeartbeats 2000000 in
theorem weight_cap (r : Int) (h : 65 ≤ r ∧ r ≤ 90) (w : World) :
    Calls Tryz.prog 114 #[.int .i64 r] w fun e w' => e = .returned (wtV (base r)) ∧ Below w.heap.size w w' := by
  have I := fun w => idxRune_any r (by omega) (by omega) (by omega) w
  have P := fun n w => plainElem_any n w
  have e : idxV r = -1 := by unfold idxV; rw [place_out fun c => (vsl_bd r c).2.2.2.2 h]
  rw [e] at I
  rw [base_cap h]
  unfold wtV
  obtain ⟨h1, h2⟩ := h
  have h3 : ¬ r ≤ 31 := by omega
  have h4 : (r == 127) = false := by simp; omega
  have h5 : ¬ r ≤ 57 := by omega
  have h6 : ¬ 97 ≤ r := by omega
  have HC : Hid (4000 + (r - 65) * 200 = 4000 + 200 * (r - 65)) := by show _ = _; omega
  clear e
  go_enter Tryz.func114, Tryz.ntmps114
  go_wp2_with fail
  refine (I _).mono ?_
  rintro e w1 ⟨rfl, b1⟩
  clear I
  go_wp2_with fail
  refine (P _ _).mono ?_
  rintro e w2 ⟨rfl, b2⟩
  clear P
  have b3 := b1.trans (b2.mono b1.size)
  go_wp2
  go_ret
  exact ⟨ret_w (by rw [HC.out]; rfl), b3.alloc b3.size _⟩

theorem mkl_at (k : Nat) (hk : k < 15) : mkl[k]? = some (at0 (marksT.getD k []) 0) := by
  iterate 15 (rcases k with _ | k; · rfl)
  omega

set_option maxRecDepth 100000 in
set_option maxHeartbeats 4000000 in
theorem weight_far (r : Int) (h0 : 0 ≤ r) (hr1 : r ≤ 1114111) (hs : ¬ (55296 ≤ r ∧ r ≤ 57343)) (hv : placeIn vsl r = none) (h1 : ¬ (r ≤ 31 ∨ r = 127)) (h2 : ¬ (48 ≤ r ∧ r ≤ 57)) (h3 : ¬ (97 ≤ r ∧ r ≤ 122)) (h4 : ¬ (65 ≤ r ∧ r ≤ 90)) (w : World) (hm : Held w 0 marksF) :
    Calls Tryz.prog 114 #[.int .i64 r] w fun e w' => e = .returned (wtV (base r)) ∧ Below w.heap.size w w' := by
  have I := fun w => idxRune_any r h0 hr1 hs w
  have P := fun n w => plainElem_any n w
  have e : idxV r = -1 := by unfold idxV; rw [hv]
  rw [e] at I
  have B2 : Hid (placeIn mkl r = none → base r = [⟨60000 + r / 32768, 32, 2, false⟩, ⟨32768 + r % 32768, 0, 0, false⟩]) := fun h => base_two hv h h1 h2 h3 h4
  have BM : Hid (∀ i, placeIn mkl r = some i → base r = [⟨0, 40 + (i : Int), 2, false⟩]) := fun i h => base_mk hv h
  have c1 : ¬ r ≤ 31 := fun c => h1 (.inl c)
  have c2 : (r == 127) = false := by simp; omega
  have cs : r < 48 ∨ (57 < r ∧ r < 65) ∨ (90 < r ∧ r < 97) ∨ 122 < r := by omega
  have hq : Int.tdiv r 32768 = r / 32768 := Int.tdiv_eq_ediv_of_nonneg h0
  have hp : Int.tmod r 32768 = r % 32768 := Int.tmod_eq_emod_of_nonneg h0
  clear e h1 hv hs h2 h3 h4
  rcases cs with d | ⟨d, d'⟩ | ⟨d, d'⟩ | d
  all_goals
    go_enter Tryz.func114, Tryz.ntmps114
    go_wp2_with fail
    refine (I _).mono ?_
    rintro e w1 ⟨rfl, b1⟩
    clear I
    obtain ⟨t, fr, hh0⟩ := hm.below b1 hm.lt
    have hh : w1.heap[0]? = some (.cells marksA t fr) := hh0
    clear hh0 hm
    go_wp2_with (refine wpList_load_row rfl 142 (.global 0) rfl 0 rfl t marksA fr _ hh Tryz.underlying142 rfl (by kernel_rfl) ?_)
    clear hh
    go_loopw [67] (fun i wr => ∃ k : Nat, k ≤ 15 ∧ i = .int .i64 k ∧ Hid (NotYet mkl r k) ∧ Below w.heap.size w wr) (fun i _ => 15 - (intOf i).toNat)
    case atStart => exact ⟨0, Nat.zero_le _, rfl, fun j x hj => by omega, b1⟩
    case round =>
      obtain ⟨k, hk, rfl, HN, hb⟩ := hrel
      by_cases hlt : k < 15
      · have hi := fun w => marks_index k hlt w
        have HX : Hid (mkl[k]? = some (at0 (marksT.getD k []) 0)) := mkl_at k hlt
        generalize at0 (marksT.getD k []) 0 = a at *
        generalize at0 (marksT.getD k []) 1 = b at *
        have hk8 : (k : Int) < 15 := by omega
        by_cases e : a = r
        · subst e
          have HR : Hid (base a = [⟨0, 40 + (k : Int), 2, false⟩]) := BM.out k (place_hit HN.out HX.out)
          clear HN HX B2 BM P
          go_wp2
          go_ret
          rw [HR.out]
          exact ⟨rfl, hb.alloc hb.size _⟩
        · have e2 : (a == r) = false := by simpa using e
          have HN2 : Hid (NotYet mkl r (k + 1)) := HN.out.succ HX.out e
          clear e HN HX B2 BM P
          go_wp2
          exact ⟨⟨k + 1, by omega, by go_num, HN2, hb.alloc hb.size _⟩, by simp [intOf]; omega⟩
      · have HR : Hid (base r = [⟨60000 + r / 32768, 32, 2, false⟩, ⟨32768 + r % 32768, 0, 0, false⟩]) := B2.out (place_none HN.out (by show 15 ≤ k; omega))
        clear HN B2 BM
        go_wp2_with fail
        refine (P _ _).mono ?_
        rintro e w2 ⟨rfl, b2⟩
        clear P
        go_wp2
        go_ret
        rw [HR.out]
        exact ⟨rfl, hb.trans (b2.mono hb.size)⟩

theorem weight_any (r : Int) (h0 : 0 ≤ r) (h1 : r ≤ 1114111) (hs : ¬ (55296 ≤ r ∧ r ≤ 57343)) (w : World) (hm : Held w 0 marksF) :
    Calls Tryz.prog 114 #[.int .i64 r] w fun e w' => e = .returned (wtV (base r)) ∧ Below w.heap.size w w' := by
  by_cases c : r ≤ 31 ∨ r = 127
  · exact weight_ctl r h0 c w
  · by_cases v : r ∈ vsl
    · obtain ⟨i, hi, _⟩ := place_in v
      exact weight_vs r i hi v w
    · by_cases d : 48 ≤ r ∧ r ≤ 57
      · exact weight_digit r d w
      · by_cases s : 97 ≤ r ∧ r ≤ 122
        · exact weight_small r s w
        · by_cases u : 65 ≤ r ∧ r ≤ 90
          · exact weight_cap r u w
          · exact weight_far r h0 h1 hs (place_out v) c d s u w hm
end Go.Proofs.YtanfebccenfffagGreatDoor
