/- Texts of mine laid together: INorm, IFull, Equal2, IIs, IRule1, Wf. -/
import Derived.Test.YtdnelneamnmcnaeDoorSD
import Derived.Test.YtdnelneamnmcnaeDoorIApart
import Derived.Test.YtdnelneamnmcnaeDoorIGoods
import Derived.Test.YtdnelneamnmcnaeDoorClass
import Derived.Test.YtdnelneamnmcnaeDoorSIs
import Derived.Test.YtdnelneamnmcnaeDoorSRule3
import Derived.Test.YtdnelneamnmcnaeDoorSWords
import Derived.Lib.IndexLaws
namespace Go.Proofs.YtdnelneamnmcnaeDoor
open Go.RowKit

theorem grown_trans2 {w wr w2 : World} {row row2 : Option Nat} (h : w.grownBy wr row) (h2 : wr.grownBy w2 row2) (hr : row2 = row ∨ ∀ g, row2 = some g → w.heap.size ≤ g) : w.grownBy w2 row := by
  refine ⟨h2.os.trans h.os, h2.tape.trans h.tape, h2.output.trans h.output, Nat.le_trans h.size h2.size, fun k hk hne => ?_⟩
  rw [h2.block k (Nat.lt_of_lt_of_le hk h.size) ?_]
  · exact h.block k hk hne
  · rcases hr with rfl | hr
    · exact hne
    · intro e
      have := hr k e.symm
      omega

theorem held_grown2 {w w' : World} {h : Nat} {row : Option Nat} {zs : List Int} (hh : Held w h zs) (hg : w.grownBy w' row) (hne : row ≠ some h) : Held w' h zs := by
  obtain ⟨t, fr, e⟩ := hh
  refine ⟨t, fr, ?_⟩
  rw [hg.block h ((Array.getElem?_eq_some_iff.1 e).1) (fun c => hne c.symm)]
  exact e

/-- The list put behind l: only l's own block may have turned, and what comes back lies there or in a new one. -/
def ApPost (w : World) (B : Nat) (l : Value) (acc : List Int) (v : Value) (w' : World) : Prop := Ints w' B v acc ∧ w.grownBy w' l.ownBlock ∧ (v.ownBlock = l.ownBlock ∨ ∀ g, v.ownBlock = some g → w.heap.size ≤ g)

def Tabs (w : World) : Prop := Held w 2 capF ∧ Held w 3 othF

theorem Tabs.below {w w' : World} (h : Tabs w) (hb : Below w.heap.size w w') : Tabs w' := ⟨h.1.below hb h.1.lt, h.2.below hb h.2.lt⟩

theorem own_ne {w : World} {B h : Nat} {l : Value} {acc : List Int} (hI : Ints w B l acc) (hB : h < B) : l.ownBlock ≠ some h := fun e => by
  have := (World.ownsRow.lt hI h e).1
  omega

set_option maxRecDepth 100000 in
set_option maxHeartbeats 2000000 in
theorem app_leaf (n : Nat) (r : Int) (w : World) (B : Nat) (l : Value) (acc : List Int) (h : apart r = [r]) (hg : goodB r = true) (hI : Ints w B l acc) (ha : acc.length ≤ 4000) (hB : B ≤ w.heap.size) (ht : Tabs w) :
    Calls Tryd.prog 59 #[l, .int .i64 r] w fun e w' => ∃ v, e = .returned v ∧ ApPost w B l (acc ++ full n r) v w' := by
  obtain ⟨i0, hi, hzz, hz1, hz2⟩ := info_parts info_int
  have A := implApart_any r w ht.1 ht.2
  rw [show apartG r = [r] by unfold apartG; rw [if_pos hg, h]] at A
  rw [full_leaf h]
  clear h hg ht
  go_enter Tryd.func59, Tryd.ntmps59
  go_wp2_with fail
  refine A.mono ?_
  rintro e w1 ⟨v, rfl, hIp, hb⟩
  obtain ⟨g, cap, rfl⟩ := ints_some hIp (by simp)
  have c0 := ints_at0 hIp 0 r rfl
  simp only [List.length_cons, List.length_nil] at hIp
  have hI1 := hI.below hb
  have hown0 : w1.ownsRow B 3 1 l acc.length (acc.map (Value.int .i64)) := hI1
  have hsz := hb.size
  clear A
  go_wp2_with (at_builtin; refine wpList_append_lies _ rfl _ _ 22 rfl B 3 i0 (.int .i64 0) 1 8 Tryd.underlying22 hi hzz hz1 hz2 rfl (by decide) _ _ _ rfl (hown0.alloc _) ⟨_, 0, none⟩ 1 1 [.int .i64 r] rfl rfl (cell_one_new _ _ _) (fun x hx => by simp at hx; subst hx; rfl) (by omega) (by unfold maxLen; omega) (by omega) (by simp; omega) (w1.heap.size + 1) (by simp) ?_; intro g' cap' w2 hown hgr hgg hlt')
  go_ret
  refine ⟨_, rfl, Ints.snoc hown, ?_, ?_⟩
  · exact (below_grownBy (hb.alloc hb.size _) _).trans hgr
  · rcases hgg with e | e
    · exact .inl e.symm
    · refine .inr fun k hk => ?_
      have : g' = k := Option.some.inj hk
      omega

def ARel (w : World) (B : Nat) (l : Value) (acc : List Int) (gp cp : Nat) (f : Int → List Int) (ls : List Int) (lv i : Value) (wr : World) : Prop :=
  ∃ k : Nat, k ≤ ls.length ∧ i = .int .i64 k ∧ ApPost w B l (acc ++ (ls.take k).flatMap f) lv wr ∧ Ints wr w.heap.size (.slice (some ⟨gp, 0, none⟩) ls.length cp) ls ∧ lv.ownBlock ≠ some gp ∧ Tabs wr ∧ w.heap.size ≤ wr.heap.size

theorem arel_step {w wr w2 : World} {B k gp cp : Nat} {l lv v : Value} {acc ls : List Int} {f : Int → List Int} {x : Int} (hk : k < ls.length) (hx : ls[k]? = some x) (hB1 : 2 < B) (hB2 : 3 < B)
    (hp : ApPost w B l (acc ++ (ls.take k).flatMap f) lv wr) (hI : Ints wr w.heap.size (.slice (some ⟨gp, 0, none⟩) ls.length cp) ls) (hne : lv.ownBlock ≠ some gp) (ht : Tabs wr) (hsz : w.heap.size ≤ wr.heap.size)
    (h2 : ApPost wr B lv (acc ++ (ls.take k).flatMap f ++ f x) v w2) : ARel w B l acc gp cp f ls v (.int .i64 ((k : Int) + 1)) w2 := by
  obtain ⟨i1, g1, n1⟩ := hp
  obtain ⟨i2, g2, n2⟩ := h2
  have hrow : lv.ownBlock = l.ownBlock ∨ ∀ g, lv.ownBlock = some g → w.heap.size ≤ g := n1
  have hgp : gp < wr.heap.size := (World.ownsRow.lt hI gp rfl).2
  refine ⟨k + 1, hk, by go_num, ⟨?_, grown_trans2 g1 g2 hrow, ?_⟩, World.ownsRow.kept hI g2 (.inr fun e => hne e.symm), ?_, ⟨held_grown2 ht.1 g2 (own_ne i1 hB1), held_grown2 ht.2 g2 (own_ne i1 hB2)⟩, Nat.le_trans hsz g2.size⟩
  · rw [take_flat hx, ← List.append_assoc]; exact i2
  · rcases n2 with e | e
    · rcases n1 with e1 | e1
      · exact .inl (e.trans e1)
      · exact .inr fun g hg => e1 g (e ▸ hg)
    · exact .inr fun g hg => Nat.le_trans hsz (e g hg)
  · rcases n2 with e | e
    · rw [e]; exact hne
    · intro h
      have := e gp h
      omega

set_option maxRecDepth 100000 in
set_option maxHeartbeats 2000000 in
theorem app_n (n : Nat) (hn2 : n ≤ 2) : ∀ (r : Int) (w : World) (B : Nat) (l : Value) (acc : List Int), levB n r = true → goodB r = true → Ints w B l acc → acc.length + 3 ^ n ≤ 4000 → B ≤ w.heap.size → 2 < B → 3 < B → Tabs w →
    Calls Tryd.prog 59 #[l, .int .i64 r] w fun e w' => ∃ v, e = .returned v ∧ ApPost w B l (acc ++ full n r) v w' := by
  induction n with
  | zero => exact fun r w B l acc h hg hI ha hB _ _ ht => app_leaf 0 r w B l acc (levB_zero h) hg hI (Nat.le_trans (Nat.le_add_right _ _) ha) hB ht
  | succ n ih0 =>
    intro r w B l acc hlev hg hI ha hB hB1 hB2 ht
    have ih := ih0 (by omega)
    by_cases hl : apart r = [r]
    · exact app_leaf _ r w B l acc hl hg hI (Nat.le_trans (Nat.le_add_right _ _) ha) hB ht
    · have hlv := (levB_succ hlev).resolve_left hl
      have hgs := apart_good hg
      have A := implApart_any r w ht.1 ht.2
      rw [show apartG r = apart r by unfold apartG; rw [if_pos hg]] at A
      have hal := apart_len r
      have hf := full_go (n := n) hl
      have h3 : 3 ^ (n + 1) = 3 * 3 ^ n := by rw [Nat.pow_succ]; omega
      have HB : Hid (∀ k, k < (apart r).length → (acc ++ ((apart r).take k).flatMap (full n)).length + 3 ^ n ≤ 4000) := fun k hk => by
        have h1 := flatMap_len (full n) (3 ^ n) ((apart r).take k) (full_len n)
        have h2 : ((apart r).take k).length * 3 ^ n ≤ 2 * 3 ^ n := Nat.mul_le_mul_right _ (by simp; omega)
        rw [List.length_append]
        omega
      have IH : Hid (∀ x ∈ apart r, ∀ (w : World) (l : Value) (acc : List Int), Ints w B l acc → acc.length + 3 ^ n ≤ 4000 → B ≤ w.heap.size → Tabs w → Calls Tryd.prog 59 #[l, .int .i64 x] w fun e w' => ∃ v, e = .returned v ∧ ApPost w B l (acc ++ full n x) v w') :=
        fun x hx w l acc h1 h2 h3 h4 => ih x w B l acc (hlv x hx) (hgs x hx) h1 h2 h3 hB1 hB2 h4
      have HF : Hid _ := hf
      clear ih ih0 hlev hlv hgs hg hf h3 ha
      generalize apart r = ls at *
      obtain ⟨hal1, hal2⟩ := hal
      by_cases h1 : ls.length = 1
      · obtain ⟨y, hy⟩ : ∃ y, ls[0]? = some y := ⟨_, List.getElem?_eq_getElem (by omega)⟩
        have hyr : (y == r) = false := by
          simp only [beq_eq_false_iff_ne, ne_eq]
          intro e
          subst e
          apply hl
          match ls, h1, hy with
          | [z], _, hy => simp at hy; rw [hy]
        have h1' : ((ls.length : Int) == 1) = true := by simp; omega
        have h1'' : (0 : Int) < (ls.length : Int) := by omega
        clear hl
        go_enter Tryd.func59, Tryd.ntmps59
        go_wp2_with fail
        refine A.mono ?_
        rintro e w1 ⟨v, rfl, hIp, hb⟩
        obtain ⟨g, cap, rfl⟩ := ints_some hIp (by omega)
        have c0 := ints_at0 hIp 0 y hy
        clear A hy h1
        have hin : ARel w B l acc g cap (full n) ls l (.int .i64 0) w1 := ⟨0, Nat.zero_le _, rfl, ⟨by simpa using hI.below hb, below_grownBy hb _, .inl rfl⟩, hIp, fun e => by
          have h5 := (World.ownsRow.lt hI g e).2
          have h6 := (World.ownsRow.lt hIp g rfl).1
          omega, ht.below hb, hb.size⟩
        go_wp2_with fail
        go_loopw [0, 26] (fun lv i wr => ARel w B l acc g cap (full n) ls lv i wr) (fun _ i _ => ls.length - (intOf i).toNat)
        case atStart => exact hin
        case round =>
          clear hin hIp
          obtain ⟨k, hk, rfl, hp, hIr, hne, htr, hszr⟩ := hrel
          by_cases hlt : k < ls.length
          · obtain ⟨x, hx⟩ : ∃ x, ls[k]? = some x := ⟨_, List.getElem?_eq_getElem hlt⟩
            have c1 := ints_at0 hIr k x hx
            have CA := IH.out x (List.mem_of_getElem? hx) wr _ _ hp.1 (HB.out k hlt) (Nat.le_trans hB hszr) htr
            have HX : Hid _ := hx
            clear hx
            go_wp2_with fail
            refine CA.mono ?_
            rintro e w2 ⟨v2, rfl, h2⟩
            have HA : Hid _ := arel_step hlt HX.out hB1 hB2 hp hIr hne htr hszr h2
            clear CA c1 h2 hp hIr
            go_wp2
            exact ⟨HA.out, by simp [intOf]; omega⟩
          · have hk3 : k = ls.length := by omega
            subst hk3
            rw [List.take_length] at hp
            go_wp2
            go_ret
            rw [HF.out]
            exact ⟨_, rfl, hp⟩
      · have h1' : ((ls.length : Int) == 1) = false := by simp; omega
        clear hl h1
        go_enter Tryd.func59, Tryd.ntmps59
        go_wp2_with fail
        refine A.mono ?_
        rintro e w1 ⟨v, rfl, hIp, hb⟩
        obtain ⟨g, cap, rfl⟩ := ints_some hIp (by omega)
        clear A
        have hin : ARel w B l acc g cap (full n) ls l (.int .i64 0) w1 := ⟨0, Nat.zero_le _, rfl, ⟨by simpa using hI.below hb, below_grownBy hb _, .inl rfl⟩, hIp, fun e => by
          have h5 := (World.ownsRow.lt hI g e).2
          have h6 := (World.ownsRow.lt hIp g rfl).1
          omega, ht.below hb, hb.size⟩
        go_wp2_with fail
        go_loopw [0, 26] (fun lv i wr => ARel w B l acc g cap (full n) ls lv i wr) (fun _ i _ => ls.length - (intOf i).toNat)
        case atStart => exact hin
        case round =>
          clear hin hIp
          obtain ⟨k, hk, rfl, hp, hIr, hne, htr, hszr⟩ := hrel
          by_cases hlt : k < ls.length
          · obtain ⟨x, hx⟩ : ∃ x, ls[k]? = some x := ⟨_, List.getElem?_eq_getElem hlt⟩
            have c1 := ints_at0 hIr k x hx
            have CA := IH.out x (List.mem_of_getElem? hx) wr _ _ hp.1 (HB.out k hlt) (Nat.le_trans hB hszr) htr
            have HX : Hid _ := hx
            clear hx
            go_wp2_with fail
            refine CA.mono ?_
            rintro e w2 ⟨v2, rfl, h2⟩
            have HA : Hid _ := arel_step hlt HX.out hB1 hB2 hp hIr hne htr hszr h2
            clear CA c1 h2 hp hIr
            go_wp2
            exact ⟨HA.out, by simp [intOf]; omega⟩
          · have hk3 : k = ls.length := by omega
            subst hk3
            rw [List.take_length] at hp
            go_wp2
            go_ret
            rw [HF.out]
            exact ⟨_, rfl, hp⟩

theorem app_any (r : Int) (w : World) (B : Nat) (l : Value) (acc : List Int) (hg : goodB r = true) (hI : Ints w B l acc) (ha : acc.length ≤ 3900) (hB : B ≤ w.heap.size) (hB1 : 2 < B) (hB2 : 3 < B) (ht : Tabs w) :
    Calls Tryd.prog 59 #[l, .int .i64 r] w fun e w' => ∃ v, e = .returned v ∧ ApPost w B l (acc ++ all2 r) v w' :=
  app_n 2 (Nat.le_refl _) r w B l acc (lev2 r) hg hI (by omega) hB hB1 hB2 ht
end Go.Proofs.YtdnelneamnmcnaeDoor

namespace Go.Proofs.YtdnelneamnmcnaeDoor
open Go.RowKit

/-- What fullNormalD answers. -/
def fullA (zs : List Int) : List Int := if okR zs = true then nD zs else []

theorem runs_any {w : World} {B : Nat} {v : Value} {zs : List Int} (hz : zs.length ≤ 1048576) (hI : Ints w B v zs) (hB : 0 < B) (hm : Held w 0 marksF) :
    Calls Tryd.prog 60 #[v] w fun e w' => e = .returned (.tuple #[]) ∧ Ints w' B v (sortM zs) ∧ w.grownBy w' v.ownBlock := by
  rcases hI.form with ⟨rfl, rfl⟩ | ⟨g, cap, rfl, _, _⟩
  · refine (sortRuns_nil w).mono ?_
    rintro e w' ⟨rfl, rfl⟩
    rw [show sortM [] = [] by decide]
    exact ⟨rfl, ⟨rfl, .inl ⟨rfl, rfl⟩⟩, grown_refl _ _⟩
  · refine (sortRuns_any w B g cap zs.length zs hI hB hz hm).mono ?_
    rintro e w' ⟨rfl, hs⟩
    refine ⟨rfl, ?_, hs.2.1⟩
    have := hs.1
    unfold Own at this
    unfold Ints
    rw [sortM_length]
    exact this

def NRel (w : World) (zs : List Int) (lv i : Value) (wr : World) : Prop :=
  ∃ k : Nat, k ≤ zs.length ∧ i = .int .i64 k ∧ Ints wr w.heap.size lv ((zs.take k).flatMap all2) ∧ Below w.heap.size w wr

theorem nrel_step {w wr w2 : World} {zs : List Int} {k : Nat} {x : Int} {lv v : Value} (hk : k < zs.length) (hx : zs[k]? = some x) (h : Ints wr w.heap.size lv ((zs.take k).flatMap all2)) (hb : Below w.heap.size w wr)
    (hp : ApPost wr w.heap.size lv ((zs.take k).flatMap all2 ++ all2 x) v w2) : NRel w zs v (.int .i64 ((k : Int) + 1)) w2 := by
  refine ⟨k + 1, hk, by go_num, ?_, Below.grown hb hp.2.1 hb.size (fun j hj => (World.ownsRow.lt h j hj).1)⟩
  rw [take_flat hx]
  exact hp.1

set_option maxRecDepth 100000 in
set_option maxHeartbeats 2000000 in
theorem fullD_row (w : World) (B g cap : Nat) (zs : List Int) (hok : okR zs = true) (hI : Ints w B (.slice (some ⟨g, 0, none⟩) zs.length cap) zs) (hm : Held w 0 marksF) (ht : Tabs w) :
    Calls Tryd.prog 31 #[.slice (some ⟨g, 0, none⟩) zs.length cap] w fun e w' => ∃ v', e = .returned (.tuple #[v', .bool true]) ∧ Ints w' w.heap.size v' (nD zs) ∧ Below w.heap.size w w' := by
  have G := goods_any hI
  rw [hok] at G
  have hz := (okR_true hok).1
  have HG : Hid (∀ x ∈ zs, goodB x = true) := (okR_true hok).2
  have HB : Hid (∀ k, ((zs.take k).flatMap all2).length ≤ 1800) := fun k => Nat.le_trans (take_flat_len zs k all2_len) (by omega)
  clear hok
  go_enter Tryd.func31, Tryd.ntmps31
  go_wp2_with fail
  refine G.mono ?_
  rintro e w1 ⟨rfl, rfl⟩
  clear G
  go_wp2_with fail
  go_loopw [4, 12] (fun lv i wr => NRel w1 zs lv i wr) (fun _ i _ => zs.length - (intOf i).toNat)
  case atStart => exact ⟨0, Nat.zero_le _, rfl, ⟨rfl, .inl ⟨rfl, rfl⟩⟩, Below.refl _ _⟩
  case round =>
    obtain ⟨k, hk, rfl, ho, hbr⟩ := hrel
    by_cases hlt : k < zs.length
    · obtain ⟨x, hx⟩ : ∃ x, zs[k]? = some x := ⟨_, List.getElem?_eq_getElem hlt⟩
      have c1 := ints_at0 (hI.below hbr) k x hx
      have CA := app_any x wr w1.heap.size _ _ (HG.out x (List.mem_of_getElem? hx)) ho (Nat.le_trans (HB.out k) (by omega)) hbr.size ht.1.lt ht.2.lt (ht.below hbr)
      have HX : Hid _ := hx
      clear hx
      go_wp2_with fail
      refine CA.mono ?_
      rintro e w2 ⟨v2, rfl, h2⟩
      have HA : Hid _ := nrel_step hlt HX.out ho hbr h2
      clear CA c1 h2
      go_wp2
      exact ⟨HA.out, by simp [intOf]; omega⟩
    · have hk3 : k = zs.length := by omega
      subst hk3
      rw [List.take_length] at ho
      have R := runs_any (zs := apD zs) (Nat.le_trans (apD_len zs) (by omega)) ho hm.lt (hm.below hbr hm.lt)
      have HL : Hid (∀ j, Value.ownBlock _ = some j → w1.heap.size ≤ j) := fun j hj => (World.ownsRow.lt ho j hj).1
      clear ho
      go_wp2_with fail
      refine R.mono ?_
      rintro e w2 ⟨rfl, h1, h2⟩
      clear R
      go_wp2
      go_ret2
      exact ⟨_, rfl, h1, Below.grown hbr h2 hbr.size HL.out⟩

set_option maxRecDepth 100000 in
set_option maxHeartbeats 2000000 in
theorem fullD_nil (w : World) (hm : Held w 0 marksF) :
    Calls Tryd.prog 31 #[.slice none 0 0] w fun e w' => ∃ v', e = .returned (.tuple #[v', .bool true]) ∧ Ints w' w.heap.size v' [] ∧ Below w.heap.size w w' := by
  have G := goods_none w none 0
  have R := sortRuns_nil
  go_enter Tryd.func31, Tryd.ntmps31
  go_wp2_with fail
  refine G.mono ?_
  rintro e w1 ⟨rfl, rfl⟩
  clear G
  go_wp2_with fail
  go_loop [4, 12] (fun o i => o = .slice none 0 0 ∧ i = .int .i64 0) (fun _ _ => 0)
  case atStart => exact ⟨rfl, rfl⟩
  case round =>
    obtain ⟨rfl, rfl⟩ := hrel
    go_wp2_with fail
    refine (R _).mono ?_
    rintro e w2 ⟨rfl, rfl⟩
    clear R
    go_wp2
    go_ret2
    exact ⟨_, rfl, ⟨rfl, .inl ⟨rfl, rfl⟩⟩, Below.refl _ _⟩

set_option maxRecDepth 100000 in
set_option maxHeartbeats 2000000 in
theorem fullD_any {w : World} {B : Nat} {v : Value} {zs : List Int} (hI : Ints w B v zs) (hm : Held w 0 marksF) (hc : Held w 2 capF) (ho : Held w 3 othF) :
    Calls Tryd.prog 31 #[v] w fun e w' => ∃ v', e = .returned (.tuple #[v', .bool (okR zs)]) ∧ Ints w' w.heap.size v' (fullA zs) ∧ Below w.heap.size w w' := by
  unfold fullA
  cases hok : okR zs
  · have G := goods_any hI
    rw [hok] at G
    rw [if_neg (by simp)]
    clear hI hok hm hc ho
    go_enter Tryd.func31, Tryd.ntmps31
    go_wp2_with fail
    refine G.mono ?_
    rintro e w1 ⟨rfl, rfl⟩
    clear G
    go_wp2
    go_ret2
    exact ⟨_, rfl, ⟨rfl, .inl ⟨rfl, rfl⟩⟩, Below.refl _ _⟩
  · rw [if_pos rfl]
    rcases hI.form with ⟨rfl, rfl⟩ | ⟨g, cap, rfl, _, _⟩
    · rw [show nD [] = [] by decide]
      exact fullD_nil w hm
    · exact fullD_row w B g cap zs hok hI hm ⟨hc, ho⟩

theorem fullA_len (zs : List Int) : (fullA zs).length ≤ 1800 := by
  unfold fullA
  split
  · rename_i h
    have h6 := (okR_true h).1
    have h7 := apD_len zs
    rw [nD_len]; omega
  · simp

end Go.Proofs.YtdnelneamnmcnaeDoor

namespace Go.Proofs.YtdnelneamnmcnaeDoor
open Go.RowKit

def EqualTo (a b : List Int) (k : Nat) : Prop := ∀ j, j < k → a[j]? = b[j]?

set_option maxRecDepth 100000 in
set_option maxHeartbeats 1000000 in
theorem equal_none (w : World) (a b : Option Addr) (c d : Nat) : Calls Tryd.prog 32 #[.slice a 0 c, .slice b 0 d] w fun e w' => e = .returned (.bool true) ∧ ∃ n, w' = w.drewN n := by
  go_enter Tryd.func32, Tryd.ntmps32
  go_wp2
  go_loopw [13] (fun i wr => i = .int .i64 0 ∧ wr = w) (fun _ _ => 0)
  case atStart => exact ⟨rfl, rfl⟩
  case round =>
    obtain ⟨rfl, rfl⟩ := hrel
    go_wp2
    go_ret
    exact ⟨rfl, 0, rfl⟩

set_option maxRecDepth 100000 in
set_option maxHeartbeats 1000000 in
theorem equal_len (w : World) (a b : Option Addr) (n m c d : Nat) (h : n ≠ m) : Calls Tryd.prog 32 #[.slice a n c, .slice b m d] w fun e w' => e = .returned (.bool false) ∧ ∃ n, w' = w.drewN n := by
  have h2 : ((n : Int) != (m : Int)) = true := by simp; omega
  go_enter Tryd.func32, Tryd.ntmps32
  go_wp2
  go_ret
  exact ⟨rfl, 0, rfl⟩

set_option maxRecDepth 100000 in
set_option maxHeartbeats 1000000 in
theorem equal_row (w : World) (g g' cap cap' n : Nat) (za zb : List Int) (ha : za.length = n) (hb : zb.length = n) (hz : n ≤ 1048576)
    (h1 : ∀ j, j < n → w.cell? ⟨g, j, none⟩ = some (.int .i64 (za[j]?.getD 0)))
    (h2 : ∀ j, j < n → w.cell? ⟨g', j, none⟩ = some (.int .i64 (zb[j]?.getD 0))) :
    Calls Tryd.prog 32 #[.slice (some ⟨g, 0, none⟩) n cap, .slice (some ⟨g', 0, none⟩) n cap'] w fun e w' => e = .returned (.bool (decide (za = zb))) ∧ ∃ n, w' = w.drewN n := by
  go_enter Tryd.func32, Tryd.ntmps32
  go_wp2
  go_loopw [13] (fun i wr => ∃ k nq : Nat, k ≤ n ∧ i = .int .i64 k ∧ wr = w.drewN nq ∧ Hid (EqualTo za zb k)) (fun i _ => n - (intOf i).toNat)
  case atStart => exact ⟨0, 0, Nat.zero_le _, rfl, rfl, fun j hj => by omega⟩
  case round =>
    obtain ⟨k, nq, hk, rfl, rfl, HS⟩ := hrel
    by_cases hlt : k < n
    · obtain ⟨x, hx⟩ : ∃ x, za[k]? = some x := ⟨_, List.getElem?_eq_getElem (by omega)⟩
      obtain ⟨y, hy⟩ : ∃ y, zb[k]? = some y := ⟨_, List.getElem?_eq_getElem (by omega)⟩
      have g1 := h1 k hlt
      have g2 := h2 k hlt
      rw [hx] at g1
      rw [hy] at g2
      have e1 : w.cell? ⟨g, k, none⟩ = some (.int .i64 x) := g1
      have e2 : w.cell? ⟨g', k, none⟩ = some (.int .i64 y) := g2
      have hz2 : (k : Int) < (n : Int) := by omega
      have HX : Hid _ := hx
      have HY : Hid _ := hy
      have HA : Hid _ := ha
      have HB : Hid _ := hb
      clear h1 h2 g1 g2 hx hy ha hb
      by_cases e : x = y
      · subst e
        have HS2 : Hid (EqualTo za zb (k + 1)) := by
          intro j hj
          by_cases e : j = k
          · subst e; rw [HX.out, HY.out]
          · exact HS.out j (by omega)
        go_wp2
        go_quiet (fail)
        go_wp2
        exact ⟨⟨k + 1, _, by omega, by go_num, rfl, HS2⟩, by simp [intOf]; omega⟩
      · have hne : (x != y) = true := by simpa using e
        have HN : Hid (false = decide (za = zb)) := by
          refine (decide_eq_false fun h => e ?_).symm
          have := HX.out
          rw [h, HY.out] at this
          exact (Option.some.inj this).symm
        clear e
        go_wp2
        go_quiet (fail)
        go_wp2
        go_ret
        exact ⟨ret_b HN.out, _, World.drewN_drewN _ _ _⟩
    · have HN : Hid (true = decide (za = zb)) := by
        refine (decide_eq_true ?_).symm
        apply List.ext_getElem?
        intro j
        by_cases hj : j < k
        · exact HS.out j hj
        · rw [List.getElem?_eq_none (by omega), List.getElem?_eq_none (by omega)]
      have HA : Hid _ := ha
      have HB : Hid _ := hb
      clear h1 h2 ha hb
      go_wp2
      go_ret
      exact ⟨ret_b HN.out, _, rfl⟩

theorem equal_any {w : World} {B B' : Nat} {a b : Value} {za zb : List Int} (hza : za.length ≤ 1048576) (hzb : zb.length ≤ 1048576) (ha : Ints w B a za) (hb : Ints w B' b zb) :
    Calls Tryd.prog 32 #[a, b] w fun e w' => e = .returned (.bool (decide (za = zb))) ∧ ∃ n, w' = w.drewN n := by
  by_cases h : za.length = zb.length
  · rcases ha.form with ⟨rfl, rfl⟩ | ⟨g, cap, rfl, h1, h2⟩
    · have e : zb = [] := List.eq_nil_of_length_eq_zero (by simpa using h.symm)
      subst e
      rcases hb.form with ⟨rfl, _⟩ | ⟨g', cap', rfl, _, _⟩
      · exact equal_none w _ _ _ _
      · exact equal_none w _ _ _ _
    · rcases hb.form with ⟨rfl, rfl⟩ | ⟨g', cap', rfl, _, _⟩
      · have e : za = [] := List.eq_nil_of_length_eq_zero (by simpa using h)
        subst e
        exact equal_none w _ _ _ _
      · rw [← h]
        exact equal_row w g g' cap cap' za.length za zb rfl h.symm hza (fun j hj => ha.cell j hj) (fun j hj => hb.cell j (by omega))
  · have e : decide (za = zb) = false := decide_eq_false (fun e => h (by rw [e]))
    rw [e]
    rcases ha.form with ⟨rfl, rfl⟩ | ⟨g, cap, rfl, h1, h2⟩
    · rcases hb.form with ⟨rfl, rfl⟩ | ⟨g', cap', rfl, _, _⟩
      · exact absurd rfl h
      · exact equal_len w _ _ _ _ _ _ (by simpa using h)
    · rcases hb.form with ⟨rfl, rfl⟩ | ⟨g', cap', rfl, _, _⟩
      · exact equal_len w _ _ _ _ _ _ (by simpa using h)
      · exact equal_len w _ _ _ _ _ _ h
end Go.Proofs.YtdnelneamnmcnaeDoor

namespace Go.Proofs.YtdnelneamnmcnaeDoor
open Go.RowKit

set_option maxRecDepth 100000 in
set_option maxHeartbeats 1000000 in
theorem implIsN_any {w : World} {B : Nat} {v : Value} {zs : List Int} (hz : zs.length ≤ 1048576) (hI : Ints w B v zs) (hm : Held w 0 marksF) (hc : Held w 2 capF) (ho : Held w 3 othF) :
    Calls Tryd.prog 10 #[v] w fun e w' => e = .returned (.tuple #[.bool (isD zs), .bool (okR zs)]) ∧ Below w.heap.size w w' := by
  have D := fullD_any hI hm hc ho
  have hbd := fullA_len zs
  unfold isD
  clear hm hc ho
  cases hok : okR zs
  · rw [hok] at D
    clear hI hok hbd
    go_enter Tryd.func10, Tryd.ntmps10
    go_wp2_with fail
    refine D.mono ?_
    rintro e w1 ⟨v1, rfl, h1, h2⟩
    clear D
    go_wp2
    go_ret2
    exact ⟨rfl, h2⟩
  · unfold fullA at D hbd
    rw [hok, if_pos rfl] at D
    rw [hok, if_pos rfl] at hbd
    clear hok
    generalize nD zs = ds at *
    go_enter Tryd.func10, Tryd.ntmps10
    go_wp2_with fail
    refine D.mono ?_
    rintro e w1 ⟨v1, rfl, h1, h2⟩
    have E := equal_any (by omega) hz h1 (hI.below h2)
    clear D
    go_wp2_with fail
    refine E.mono ?_
    rintro e w2 ⟨rfl, n2, rfl⟩
    clear E
    go_wp2
    go_ret2
    exact ⟨rfl, below_drewN h2 n2⟩

set_option maxRecDepth 100000 in
set_option maxHeartbeats 1000000 in
theorem implSameN_any {w : World} {B B' : Nat} {v v' : Value} {zs ys : List Int} (_hz : zs.length ≤ 1048576) (_hy : ys.length ≤ 1048576) (hI : Ints w B v zs) (hJ : Ints w B' v' ys) (hm : Held w 0 marksF) (hc : Held w 2 capF) (ho : Held w 3 othF) :
    Calls Tryd.prog 13 #[v, v'] w fun e w' => e = .returned (.tuple #[.bool (sameD zs ys), .bool (okR zs && okR ys)]) ∧ Below w.heap.size w w' := by
  have D := fullD_any hI hm hc ho
  have D2 := fun (u : World) (hb : Below w.heap.size w u) => fullD_any (hJ.below hb) (hm.below hb hm.lt) (hc.below hb hc.lt) (ho.below hb ho.lt)
  have hbd := fullA_len zs
  have hbd2 := fullA_len ys
  unfold sameD
  clear hm hc ho hI hJ
  cases hok : okR zs
  · rw [hok] at D
    clear hok hbd hbd2
    generalize okR ys = oy at *
    go_enter Tryd.func13, Tryd.ntmps13
    go_wp2_with fail
    refine D.mono ?_
    rintro e w1 ⟨v1, rfl, h1, h2⟩
    clear D
    go_wp2_with fail
    refine (D2 _ h2).mono ?_
    rintro e w2 ⟨v2, rfl, h3, h4⟩
    clear D2
    go_wp2
    go_ret2
    exact ⟨rfl, h2.trans (h4.mono h2.size)⟩
  · cases hok2 : okR ys
    · rw [hok] at D
      rw [hok2] at D2
      clear hok hok2 hbd hbd2
      go_enter Tryd.func13, Tryd.ntmps13
      go_wp2_with fail
      refine D.mono ?_
      rintro e w1 ⟨v1, rfl, h1, h2⟩
      clear D
      go_wp2_with fail
      refine (D2 _ h2).mono ?_
      rintro e w2 ⟨v2, rfl, h3, h4⟩
      clear D2
      go_wp2
      go_ret2
      exact ⟨rfl, h2.trans (h4.mono h2.size)⟩
    · unfold fullA at D D2 hbd hbd2
      rw [hok, if_pos rfl] at D
      rw [hok2, if_pos rfl] at D2
      rw [hok, if_pos rfl] at hbd
      rw [hok2, if_pos rfl] at hbd2
      clear hok hok2
      generalize nD zs = ds at *
      generalize nD ys = es at *
      go_enter Tryd.func13, Tryd.ntmps13
      go_wp2_with fail
      refine D.mono ?_
      rintro e w1 ⟨v1, rfl, h1, h2⟩
      clear D
      go_wp2_with fail
      refine (D2 _ h2).mono ?_
      rintro e w2 ⟨v2, rfl, h3, h4⟩
      have E := equal_any (by omega) (by omega) (h1.below h4) h3
      clear D2
      go_wp2_with fail
      refine E.mono ?_
      rintro e w3 ⟨rfl, n3, rfl⟩
      clear E
      go_wp2
      go_ret2
      exact ⟨rfl, below_drewN (h2.trans (h4.mono h2.size)) n3⟩
end Go.Proofs.YtdnelneamnmcnaeDoor

namespace Go.Proofs.YtdnelneamnmcnaeDoor
open Go.RowKit

/-- Whether an elem may be an entry's. -/
def elOk (e : El) : Bool := decide (1 ≤ e.first ∧ e.first ≤ 65535) && (decide (32 ≤ e.second ∧ e.second ≤ 999) && (decide (2 ≤ e.third ∧ e.third ≤ 99) && !e.varies))

set_option maxRecDepth 100000 in
set_option maxHeartbeats 2000000 in
theorem goodElem_any (e : El) (w : World) : Calls Tryd.prog 44 #[.agg #[.int .i64 e.first, .int .i64 e.second, .int .i64 e.third, .bool e.varies]] w fun x w' => x = .returned (.bool (elOk e)) ∧ Below w.heap.size w w' := by
  obtain ⟨b, HB⟩ : ∃ b, Hid (elOk e = b) := ⟨_, rfl⟩
  rw [HB.out]
  obtain ⟨a, c, d, v⟩ := e
  simp only at *
  have hal := (Below.refl w.heap.size w).alloc (Nat.le_refl _) (.cells #[.int .i64 a, .int .i64 c, .int .i64 d, .bool v] 59)
  have fin : ∀ x, (x = true ↔ ((1 ≤ a ∧ a ≤ 65535) ∧ (32 ≤ c ∧ c ≤ 999) ∧ (2 ≤ d ∧ d ≤ 99) ∧ v = false)) → b = x := by
    intro x hx
    rw [← HB.out]
    unfold elOk
    rw [Bool.eq_iff_iff, hx]
    simp
  have HF : Hid _ := fin
  clear fin HB
  by_cases h1 : 1 ≤ a
  · by_cases h2 : a ≤ 65535
    · by_cases h3 : 32 ≤ c
      · by_cases h4 : c ≤ 999
        · by_cases h5 : 2 ≤ d
          · by_cases h6 : d ≤ 99
            · cases v
              · rw [HF.out true (by simp; omega)]
                clear HF
                go_enter Tryd.func44, Tryd.ntmps44
                go_wp2
                go_ret
                exact ⟨rfl, hal⟩
              · rw [HF.out false (by simp)]
                clear HF
                go_enter Tryd.func44, Tryd.ntmps44
                go_wp2
                go_ret
                exact ⟨rfl, hal⟩
            · rw [HF.out false (by simp; omega)]
              clear HF
              go_enter Tryd.func44, Tryd.ntmps44
              go_wp2
              go_ret
              exact ⟨rfl, hal⟩
          · rw [HF.out false (by simp; omega)]
            clear HF
            go_enter Tryd.func44, Tryd.ntmps44
            go_wp2
            go_ret
            exact ⟨rfl, hal⟩
        · rw [HF.out false (by simp; omega)]
          clear HF
          go_enter Tryd.func44, Tryd.ntmps44
          go_wp2
          go_ret
          exact ⟨rfl, hal⟩
      · rw [HF.out false (by simp; omega)]
        clear HF
        go_enter Tryd.func44, Tryd.ntmps44
        go_wp2
        go_ret
        exact ⟨rfl, hal⟩
    · rw [HF.out false (by simp; omega)]
      clear HF
      go_enter Tryd.func44, Tryd.ntmps44
      go_wp2
      go_ret
      exact ⟨rfl, hal⟩
  · rw [HF.out false (by simp; omega)]
    clear HF
    go_enter Tryd.func44, Tryd.ntmps44
    go_wp2
    go_ret
    exact ⟨rfl, hal⟩

/-- The program's tables. -/
def Tabs3 (w : World) : Prop := Held w 0 marksF ∧ Held w 2 capF ∧ Held w 3 othF
theorem Tabs3.below {w w' : World} (h : Tabs3 w) (hb : Below w.heap.size w w') : Tabs3 w' := ⟨h.1.below hb h.1.lt, h.2.1.below hb h.2.1.lt, h.2.2.below hb h.2.2.lt⟩

theorem runesOk_far {l : List Int} (h : ¬ (1 ≤ l.length ∧ l.length ≤ 4)) : runesOk l = false := by
  unfold runesOk
  rw [decide_eq_false h, Bool.false_and]

theorem runesOk_near {l : List Int} (h : 1 ≤ l.length ∧ l.length ≤ 4) : runesOk l = (isD l && okR l) := by
  unfold runesOk isD
  rw [decide_eq_true h, Bool.true_and]
  cases okR l <;> simp

set_option maxRecDepth 100000 in
set_option maxHeartbeats 2000000 in
theorem joined_any {w : World} {B : Nat} {v : Value} {l : List Int} (hz : l.length ≤ 1048576) (hI : Ints w B v l) (ht : Tabs3 w) :
    Calls Tryd.prog 43 #[v] w fun e w' => e = .returned (.bool (runesOk l)) ∧ Below w.heap.size w w' := by
  have D := implIsN_any hz hI ht.1 ht.2.1 ht.2.2
  obtain ⟨a, c, rfl⟩ : ∃ a c, v = .slice a l.length c := by
    rcases hI.form with ⟨rfl, rfl⟩ | ⟨g, cap, rfl, _, _⟩
    · exact ⟨_, _, rfl⟩
    · exact ⟨_, _, rfl⟩
  clear hI ht
  by_cases h1 : 1 ≤ l.length
  · by_cases h2 : l.length ≤ 4
    · rw [runesOk_near ⟨h1, h2⟩]
      have h3 : ¬ (l.length : Int) < 1 := by omega
      have h4 : ¬ (4 : Int) < (l.length : Int) := by omega
      generalize isD l = x at *
      generalize okR l = y at *
      generalize l.length = n at *
      cases x
      · go_enter Tryd.func43, Tryd.ntmps43
        go_wp2_with fail
        refine D.mono ?_
        rintro e w1 ⟨rfl, b1⟩
        clear D
        go_wp2
        go_ret
        exact ⟨rfl, b1⟩
      · go_enter Tryd.func43, Tryd.ntmps43
        go_wp2_with fail
        refine D.mono ?_
        rintro e w1 ⟨rfl, b1⟩
        clear D
        go_wp2
        go_ret
        exact ⟨rfl, b1⟩
    · rw [runesOk_far (fun h => h2 h.2)]
      have h3 : ¬ (l.length : Int) < 1 := by omega
      have h4 : (4 : Int) < (l.length : Int) := by omega
      clear D
      go_enter Tryd.func43, Tryd.ntmps43
      go_wp2
      go_ret
      exact ⟨rfl, Below.refl _ _⟩
  · rw [runesOk_far (fun h => h1 h.1)]
    have h3 : (l.length : Int) < 1 := by omega
    clear D
    go_enter Tryd.func43, Tryd.ntmps43
    go_wp2
    go_ret
    exact ⟨rfl, Below.refl _ _⟩
end Go.Proofs.YtdnelneamnmcnaeDoor

namespace Go.Proofs.YtdnelneamnmcnaeDoor

/-- The words of a list of bytes, the one under way beside. -/
def wf : List UInt8 → List UInt8 → List ByteArray
  | [], cur => if cur = [] then [] else [⟨cur.toArray⟩]
  | b :: l, cur => if b = 32 then (if cur = [] then wf l [] else ⟨cur.toArray⟩ :: wf l []) else wf l (cur ++ [b])

/-- The next word, and what is left behind it. -/
def nextL (l : List UInt8) : List UInt8 × List UInt8 :=
  ((l.dropWhile (· == 32)).takeWhile (· != 32), ((l.dropWhile (· == 32)).dropWhile (· != 32)).drop 1)

theorem wf_nil (cur : List UInt8) : wf [] cur = if cur = [] then [] else [⟨cur.toArray⟩] := rfl
theorem wf_cons (b : UInt8) (l cur : List UInt8) : wf (b :: l) cur = if b = 32 then (if cur = [] then wf l [] else ⟨cur.toArray⟩ :: wf l []) else wf l (cur ++ [b]) := rfl

theorem wf_cur (l cur : List UInt8) (h : cur ≠ []) : wf l cur = ⟨(cur ++ l.takeWhile (· != 32)).toArray⟩ :: wf ((l.dropWhile (· != 32)).drop 1) [] := by
  induction l generalizing cur with
  | nil => simp [wf, h]
  | cons b l ih =>
    rw [wf_cons]
    by_cases hb : b = 32
    · simp [hb, h]
    · rw [if_neg hb, ih (cur ++ [b]) (by simp)]
      simp [hb]

theorem wf_next (l : List UInt8) : wf l [] = if (nextL l).1 = [] then [] else ⟨(nextL l).1.toArray⟩ :: wf (nextL l).2 [] := by
  induction l with
  | nil => simp [wf, nextL]
  | cons b l ih =>
    rw [wf_cons]
    by_cases hb : b = 32
    · have e : nextL (b :: l) = nextL l := by simp [nextL, hb]
      rw [if_pos hb, if_pos rfl, e]
      exact ih
    · rw [if_neg hb, wf_cur l ([] ++ [b]) (by simp)]
      simp [nextL, hb]

theorem nextL_left {l : List UInt8} (h : (nextL l).1 = []) : (nextL l).2 = [] := by
  induction l with
  | nil => rfl
  | cons b l ih =>
    by_cases hb : b = 32
    · have e : nextL (b :: l) = nextL l := by simp [nextL, hb]
      rw [e] at h ⊢
      exact ih h
    · simp [nextL, hb] at h

theorem nextL_size (l : List UInt8) : (nextL l).1.length ≤ l.length ∧ (nextL l).2.length ≤ l.length := by
  unfold nextL
  have h1 := (List.dropWhile_sublist (l := l) (p := fun x => x == 32)).length_le
  have h2 := (List.takeWhile_sublist (l := l.dropWhile (fun x => x == 32)) (p := fun x => x != 32)).length_le
  have h3 := (List.dropWhile_sublist (l := l.dropWhile (fun x => x == 32)) (p := fun x => x != 32)).length_le
  simp only [List.length_drop]
  omega

theorem wst_step (s : ByteArray) (k : Nat) (hk : k < s.size) : (wst s k).1 ++ wf (s.data.toList.drop k) (wst s k).2.data.toList = (wst s (k + 1)).1 ++ wf (s.data.toList.drop (k + 1)) (wst s (k + 1)).2.data.toList := by
  have hd : s.data.toList.drop k = s.data.toList[k]'hk :: s.data.toList.drop (k + 1) := List.drop_eq_getElem_cons hk
  have hb : Dec.bt s k = (s.data.toList[k]'hk).toNat := by rw [← Dec.bt_get s k hk]; rfl
  rw [hd]
  generalize hx : s.data.toList[k]'hk = b at *
  conv => rhs; unfold wst
  by_cases c : b = 32
  · have c2 : ¬ (k < s.size ∧ Dec.bt s k ≠ 32) := by rw [hb, c]; simp
    rw [if_neg c2]
    simp only
    rw [wf_cons, if_pos c]
    by_cases z : (wst s k).2.data.toList = []
    · have z2 : (wst s k).2.size = 0 := by show (wst s k).2.data.size = 0; rw [← Array.length_toList, z]; rfl
      rw [if_pos z, if_pos z2]
    · have z2 : ¬ (wst s k).2.size = 0 := fun e => z (List.eq_nil_of_length_eq_zero (by rw [Array.length_toList]; exact e))
      rw [if_neg z, if_neg z2]
      simp
  · have c2 : k < s.size ∧ Dec.bt s k ≠ 32 := ⟨hk, by
      rw [hb]
      intro e
      exact c (UInt8.toNat_inj.1 e)⟩
    rw [if_pos c2]
    simp only
    rw [wf_cons, if_neg c]
    congr 2
    rw [ByteArray.data_append, Array.toList_append, ByteArray.data_extract, Array.toList_extract]
    congr 1
    rw [List.extract_eq_take_drop, hd]
    simp

theorem words_wf (s : ByteArray) : words s = wf s.data.toList [] := by
  have h : ∀ k, k ≤ s.size → wf s.data.toList [] = (wst s k).1 ++ wf (s.data.toList.drop k) (wst s k).2.data.toList := by
    intro k
    induction k with
    | zero => intro _; simp [wst]
    | succ k ih => intro hk; rw [ih (by omega), wst_step s k (by omega)]
  rw [h s.size (Nat.le_refl _)]
  have e : s.data.toList.drop s.size = [] := List.drop_eq_nil_of_le (by simp)
  rw [e]
  unfold words
  conv => lhs; unfold wst
  rw [if_neg (by omega)]
  rw [wf_nil]
  by_cases z : (wst s s.size).2.data.toList = []
  · have z2 : (wst s s.size).2.size = 0 := by show (wst s s.size).2.data.size = 0; rw [← Array.length_toList, z]; rfl
    rw [if_pos z, if_pos z2]; simp
  · have z2 : ¬ (wst s s.size).2.size = 0 := fun e => z (List.eq_nil_of_length_eq_zero (by rw [Array.length_toList]; exact e))
    rw [if_neg z, if_neg z2]

/-- What Index tells of a blank. -/
theorem cut_miss : ∀ (t : List UInt8), Lib.indexByte t 32 = -1 → t.takeWhile (· != 32) = t ∧ (t.dropWhile (· != 32)).drop 1 = []
  | [], _ => by simp
  | b :: t, h => by
    have n := Lib.indexByte_none h
    have hb : b ≠ 32 := fun e => n 0 (by simp [e])
    unfold Lib.indexByte at h
    have hb2 : (b == 32) = false := by simpa using hb
    rw [hb2] at h
    have h2 : Lib.indexByte t 32 = -1 := by
      have g := Lib.indexByte_ge t 32
      by_cases c : Lib.indexByte t 32 = -1
      · exact c
      · exfalso
        have c2 : (Lib.indexByte t 32 == -1) = false := by simpa using c
        rw [c2] at h
        simp at h
        omega
    obtain ⟨i1, i2⟩ := cut_miss t h2
    refine ⟨?_, ?_⟩
    · rw [List.takeWhile_cons]; simp [hb, i1]
    · rw [List.dropWhile_cons]; simp [hb]; simpa using i2

theorem cut_hit : ∀ (t : List UInt8) (i : Nat), Lib.indexByte t 32 = (i : Int) → i < t.length ∧ t.takeWhile (· != 32) = t.take i ∧ (t.dropWhile (· != 32)).drop 1 = t.drop (i + 1)
  | [], i, h => by simp [Lib.indexByte] at h
  | b :: t, i, h => by
    unfold Lib.indexByte at h
    by_cases hb : b = 32
    · have hb2 : (b == 32) = true := by simpa using hb
      rw [hb2] at h
      have : i = 0 := by simpa using h.symm
      subst this
      simp [hb]
    · have hb2 : (b == 32) = false := by simpa using hb
      rw [hb2] at h
      have g := Lib.indexByte_ge t 32
      by_cases c : Lib.indexByte t 32 = -1
      · rw [c] at h; simp at h
      · have c2 : (Lib.indexByte t 32 == -1) = false := by simpa using c
        rw [c2] at h
        simp at h
        obtain ⟨j, rfl⟩ : ∃ j, i = j + 1 := ⟨i - 1, by omega⟩
        obtain ⟨i0, i1, i2⟩ := cut_hit t j (by omega)
        refine ⟨by simp; omega, ?_, ?_⟩
        · rw [List.takeWhile_cons]; simp [hb, i1]
        · rw [List.dropWhile_cons]; simp [hb]; simpa using i2
end Go.Proofs.YtdnelneamnmcnaeDoor
