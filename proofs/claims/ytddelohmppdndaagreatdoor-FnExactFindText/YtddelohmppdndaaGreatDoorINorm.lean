/- Contracts of the program's appendApart and NormalD. -/
import Derived.Test.YtddelohmppdndaaGreatDoorSD
import Derived.Test.YtddelohmppdndaaGreatDoorIApart
import Derived.Test.YtddelohmppdndaaGreatDoorIGoods
namespace Go.Proofs.YtddelohmppdndaaGreatDoor
open Go.RowKit

theorem grown_trans2 {w wr w2 : World} {row row2 : Option Nat} (h : w.grownBy wr row) (h2 : wr.grownBy w2 row2) (hr : row2 = row ∨ ∀ g, row2 = some g → w.heap.size ≤ g) : w.grownBy w2 row := by
  refine ⟨h2.os.trans h.os, h2.tape.trans h.tape, h2.output.trans h.output, Nat.le_trans h.size h2.size, fun k hk hne => ?_⟩
  rw [h2.block k (Nat.lt_of_lt_of_le hk h.size) ?_]
  · exact h.block k hk hne
  · rcases hr with rfl | hr
    · exact hne
    · intro e
      have := hr k e.symm
      omega

theorem held_grown2 {w w' : World} {h : Nat} {row : Option Nat} {zs : List Int} (hh : Held w h zs) (hg : w.grownBy w' row) (hne : row ≠ some h) : Held w' h zs := by
  obtain ⟨t, fr, e⟩ := hh
  refine ⟨t, fr, ?_⟩
  rw [hg.block h ((Array.getElem?_eq_some_iff.1 e).1) (fun c => hne c.symm)]
  exact e

/-- The list put behind l: only l's own block may have turned, and what comes back lies there or in a new one. -/
def ApPost (w : World) (B : Nat) (l : Value) (acc : List Int) (v : Value) (w' : World) : Prop := Ints w' B v acc ∧ w.grownBy w' l.ownBlock ∧ (v.ownBlock = l.ownBlock ∨ ∀ g, v.ownBlock = some g → w.heap.size ≤ g)

def Tabs (w : World) : Prop := Held w 1 capF ∧ Held w 2 othF

theorem Tabs.below {w w' : World} (h : Tabs w) (hb : Below w.heap.size w w') : Tabs w' := ⟨h.1.below hb h.1.lt, h.2.below hb h.2.lt⟩

theorem own_ne {w : World} {B h : Nat} {l : Value} {acc : List Int} (hI : Ints w B l acc) (hB : h < B) : l.ownBlock ≠ some h := fun e => by
  have := (World.ownsRow.lt hI h e).1
  omega

set_option maxRecDepth 100000 in
set_option maxHeartbeats 2000000 in
theorem app_leaf (n : Nat) (r : Int) (w : World) (B : Nat) (l : Value) (acc : List Int) (h : apart r = [r]) (hg : goodB r = true) (hI : Ints w B l acc) (ha : acc.length ≤ 4000) (hB : B ≤ w.heap.size) (ht : Tabs w) :
    Calls Tryz.prog 89 #[l, .int .i64 r] w fun e w' => ∃ v, e = .returned v ∧ ApPost w B l (acc ++ full n r) v w' := by
  obtain ⟨i0, hi, hzz, hz1, hz2⟩ := info_parts info_int
  have A := implApart_any r w ht.1 ht.2
  rw [show apartG r = [r] by unfold apartG; rw [if_pos hg, h]] at A
  rw [full_leaf h]
  clear h hg ht
  go_enter Tryz.func89, Tryz.ntmps89
  go_wp2_with fail
  refine A.mono ?_
  rintro e w1 ⟨v, rfl, hIp, hb⟩
  obtain ⟨g, cap, rfl⟩ := ints_some hIp (by simp)
  have c0 := ints_at0 hIp 0 r rfl
  simp only [List.length_cons, List.length_nil] at hIp
  have hI1 := hI.below hb
  have hown0 : w1.ownsRow B 3 1 l acc.length (acc.map (Value.int .i64)) := hI1
  have hsz := hb.size
  clear A
  go_wp2_with (at_builtin; refine wpList_append_lies _ rfl _ _ 39 rfl B 3 i0 (.int .i64 0) 1 8 Tryz.underlying39 hi hzz hz1 hz2 rfl (by decide) _ _ _ rfl (hown0.alloc _) ⟨_, 0, none⟩ 1 1 [.int .i64 r] rfl rfl (cell_one_new _ _ _) (fun x hx => by simp at hx; subst hx; rfl) (by omega) (by unfold maxLen; omega) (by omega) (by simp; omega) (w1.heap.size + 1) (by simp) ?_; intro g' cap' w2 hown hgr hgg hlt')
  go_ret
  refine ⟨_, rfl, Ints.snoc hown, ?_, ?_⟩
  · exact (below_grownBy (hb.alloc hb.size _) _).trans hgr
  · rcases hgg with e | e
    · exact .inl e.symm
    · refine .inr fun k hk => ?_
      have : g' = k := Option.some.inj hk
      omega

def ARel (w : World) (B : Nat) (l : Value) (acc : List Int) (gp cp : Nat) (f : Int → List Int) (ls : List Int) (lv i : Value) (wr : World) : Prop :=
  ∃ k : Nat, k ≤ ls.length ∧ i = .int .i64 k ∧ ApPost w B l (acc ++ (ls.take k).flatMap f) lv wr ∧ Ints wr w.heap.size (.slice (some ⟨gp, 0, none⟩) ls.length cp) ls ∧ lv.ownBlock ≠ some gp ∧ Tabs wr ∧ w.heap.size ≤ wr.heap.size

theorem arel_step {w wr w2 : World} {B k gp cp : Nat} {l lv v : Value} {acc ls : List Int} {f : Int → List Int} {x : Int} (hk : k < ls.length) (hx : ls[k]? = some x) (hB1 : 1 < B) (hB2 : 2 < B)
    (hp : ApPost w B l (acc ++ (ls.take k).flatMap f) lv wr) (hI : Ints wr w.heap.size (.slice (some ⟨gp, 0, none⟩) ls.length cp) ls) (hne : lv.ownBlock ≠ some gp) (ht : Tabs wr) (hsz : w.heap.size ≤ wr.heap.size)
    (h2 : ApPost wr B lv (acc ++ (ls.take k).flatMap f ++ f x) v w2) : ARel w B l acc gp cp f ls v (.int .i64 ((k : Int) + 1)) w2 := by
  obtain ⟨i1, g1, n1⟩ := hp
  obtain ⟨i2, g2, n2⟩ := h2
  have hrow : lv.ownBlock = l.ownBlock ∨ ∀ g, lv.ownBlock = some g → w.heap.size ≤ g := n1
  have hgp : gp < wr.heap.size := (World.ownsRow.lt hI gp rfl).2
  refine ⟨k + 1, hk, by go_num, ⟨?_, grown_trans2 g1 g2 hrow, ?_⟩, World.ownsRow.kept hI g2 (.inr fun e => hne e.symm), ?_, ⟨held_grown2 ht.1 g2 (own_ne i1 hB1), held_grown2 ht.2 g2 (own_ne i1 hB2)⟩, Nat.le_trans hsz g2.size⟩
  · rw [take_flat hx, ← List.append_assoc]; exact i2
  · rcases n2 with e | e
    · rcases n1 with e1 | e1
      · exact .inl (e.trans e1)
      · exact .inr fun g hg => e1 g (e ▸ hg)
    · exact .inr fun g hg => Nat.le_trans hsz (e g hg)
  · rcases n2 with e | e
    · rw [e]; exact hne
    · intro h
      have := e gp h
      omega

set_option maxRecDepth 100000 in
set_option maxHeartbeats 2000000 in
theorem app_n (n : Nat) (hn2 : n ≤ 2) : ∀ (r : Int) (w : World) (B : Nat) (l : Value) (acc : List Int), levB n r = true → goodB r = true → Ints w B l acc → acc.length + 3 ^ n ≤ 4000 → B ≤ w.heap.size → 1 < B → 2 < B → Tabs w →
    Calls Tryz.prog 89 #[l, .int .i64 r] w fun e w' => ∃ v, e = .returned v ∧ ApPost w B l (acc ++ full n r) v w' := by
  induction n with
  | zero => exact fun r w B l acc h hg hI ha hB _ _ ht => app_leaf 0 r w B l acc (levB_zero h) hg hI (Nat.le_trans (Nat.le_add_right _ _) ha) hB ht
  | succ n ih0 =>
    intro r w B l acc hlev hg hI ha hB hB1 hB2 ht
    have ih := ih0 (by omega)
    by_cases hl : apart r = [r]
    · exact app_leaf _ r w B l acc hl hg hI (Nat.le_trans (Nat.le_add_right _ _) ha) hB ht
    · have hlv := (levB_succ hlev).resolve_left hl
      have hgs := apart_good hg
      have A := implApart_any r w ht.1 ht.2
      rw [show apartG r = apart r by unfold apartG; rw [if_pos hg]] at A
      have hal := apart_len r
      have hf := full_go (n := n) hl
      have h3 : 3 ^ (n + 1) = 3 * 3 ^ n := by rw [Nat.pow_succ]; omega
      have HB : Hid (∀ k, k < (apart r).length → (acc ++ ((apart r).take k).flatMap (full n)).length + 3 ^ n ≤ 4000) := fun k hk => by
        have h1 := flatMap_len (full n) (3 ^ n) ((apart r).take k) (full_len n)
        have h2 : ((apart r).take k).length * 3 ^ n ≤ 2 * 3 ^ n := Nat.mul_le_mul_right _ (by simp; omega)
        rw [List.length_append]
        omega
      have IH : Hid (∀ x ∈ apart r, ∀ (w : World) (l : Value) (acc : List Int), Ints w B l acc → acc.length + 3 ^ n ≤ 4000 → B ≤ w.heap.size → Tabs w → Calls Tryz.prog 89 #[l, .int .i64 x] w fun e w' => ∃ v, e = .returned v ∧ ApPost w B l (acc ++ full n x) v w') :=
        fun x hx w l acc h1 h2 h3 h4 => ih x w B l acc (hlv x hx) (hgs x hx) h1 h2 h3 hB1 hB2 h4
      have HF : Hid _ := hf
      clear ih ih0 hlev hlv hgs hg hf h3 ha
      generalize apart r = ls at *
      obtain ⟨hal1, hal2⟩ := hal
      by_cases h1 : ls.length = 1
      · obtain ⟨y, hy⟩ : ∃ y, ls[0]? = some y := ⟨_, List.getElem?_eq_getElem (by omega)⟩
        have hyr : (y == r) = false := by
          simp only [beq_eq_false_iff_ne, ne_eq]
          intro e
          subst e
          apply hl
          match ls, h1, hy with
          | [z], _, hy => simp at hy; rw [hy]
        have h1' : ((ls.length : Int) == 1) = true := by simp; omega
        have h1'' : (0 : Int) < (ls.length : Int) := by omega
        clear hl
        go_enter Tryz.func89, Tryz.ntmps89
        go_wp2_with fail
        refine A.mono ?_
        rintro e w1 ⟨v, rfl, hIp, hb⟩
        obtain ⟨g, cap, rfl⟩ := ints_some hIp (by omega)
        have c0 := ints_at0 hIp 0 y hy
        clear A hy h1
        have hin : ARel w B l acc g cap (full n) ls l (.int .i64 0) w1 := ⟨0, Nat.zero_le _, rfl, ⟨by simpa using hI.below hb, below_grownBy hb _, .inl rfl⟩, hIp, fun e => by
          have h5 := (World.ownsRow.lt hI g e).2
          have h6 := (World.ownsRow.lt hIp g rfl).1
          omega, ht.below hb, hb.size⟩
        go_wp2_with fail
        go_loopw [0, 26] (fun lv i wr => ARel w B l acc g cap (full n) ls lv i wr) (fun _ i _ => ls.length - (intOf i).toNat)
        case atStart => exact hin
        case round =>
          clear hin hIp
          obtain ⟨k, hk, rfl, hp, hIr, hne, htr, hszr⟩ := hrel
          by_cases hlt : k < ls.length
          · obtain ⟨x, hx⟩ : ∃ x, ls[k]? = some x := ⟨_, List.getElem?_eq_getElem hlt⟩
            have c1 := ints_at0 hIr k x hx
            have CA := IH.out x (List.mem_of_getElem? hx) wr _ _ hp.1 (HB.out k hlt) (Nat.le_trans hB hszr) htr
            have HX : Hid _ := hx
            clear hx
            go_wp2_with fail
            refine CA.mono ?_
            rintro e w2 ⟨v2, rfl, h2⟩
            have HA : Hid _ := arel_step hlt HX.out hB1 hB2 hp hIr hne htr hszr h2
            clear CA c1 h2 hp hIr
            go_wp2
            exact ⟨HA.out, by simp [intOf]; omega⟩
          · have hk3 : k = ls.length := by omega
            subst hk3
            rw [List.take_length] at hp
            go_wp2
            go_ret
            rw [HF.out]
            exact ⟨_, rfl, hp⟩
      · have h1' : ((ls.length : Int) == 1) = false := by simp; omega
        clear hl h1
        go_enter Tryz.func89, Tryz.ntmps89
        go_wp2_with fail
        refine A.mono ?_
        rintro e w1 ⟨v, rfl, hIp, hb⟩
        obtain ⟨g, cap, rfl⟩ := ints_some hIp (by omega)
        clear A
        have hin : ARel w B l acc g cap (full n) ls l (.int .i64 0) w1 := ⟨0, Nat.zero_le _, rfl, ⟨by simpa using hI.below hb, below_grownBy hb _, .inl rfl⟩, hIp, fun e => by
          have h5 := (World.ownsRow.lt hI g e).2
          have h6 := (World.ownsRow.lt hIp g rfl).1
          omega, ht.below hb, hb.size⟩
        go_wp2_with fail
        go_loopw [0, 26] (fun lv i wr => ARel w B l acc g cap (full n) ls lv i wr) (fun _ i _ => ls.length - (intOf i).toNat)
        case atStart => exact hin
        case round =>
          clear hin hIp
          obtain ⟨k, hk, rfl, hp, hIr, hne, htr, hszr⟩ := hrel
          by_cases hlt : k < ls.length
          · obtain ⟨x, hx⟩ : ∃ x, ls[k]? = some x := ⟨_, List.getElem?_eq_getElem hlt⟩
            have c1 := ints_at0 hIr k x hx
            have CA := IH.out x (List.mem_of_getElem? hx) wr _ _ hp.1 (HB.out k hlt) (Nat.le_trans hB hszr) htr
            have HX : Hid _ := hx
            clear hx
            go_wp2_with fail
            refine CA.mono ?_
            rintro e w2 ⟨v2, rfl, h2⟩
            have HA : Hid _ := arel_step hlt HX.out hB1 hB2 hp hIr hne htr hszr h2
            clear CA c1 h2 hp hIr
            go_wp2
            exact ⟨HA.out, by simp [intOf]; omega⟩
          · have hk3 : k = ls.length := by omega
            subst hk3
            rw [List.take_length] at hp
            go_wp2
            go_ret
            rw [HF.out]
            exact ⟨_, rfl, hp⟩

theorem app_any (r : Int) (w : World) (B : Nat) (l : Value) (acc : List Int) (hg : goodB r = true) (hI : Ints w B l acc) (ha : acc.length ≤ 3900) (hB : B ≤ w.heap.size) (hB1 : 1 < B) (hB2 : 2 < B) (ht : Tabs w) :
    Calls Tryz.prog 89 #[l, .int .i64 r] w fun e w' => ∃ v, e = .returned v ∧ ApPost w B l (acc ++ all2 r) v w' :=
  app_n 2 (Nat.le_refl _) r w B l acc (lev2 r) hg hI (by omega) hB hB1 hB2 ht
end Go.Proofs.YtddelohmppdndaaGreatDoor
