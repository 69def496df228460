/- Contract of the specification's l6Cut. -/
import Derived.Test.YtbgomhgohphglaaDoorRwApp
import Derived.Test.YtbgomhgohphglaaDoorNestK
import Derived.Test.YtbgomhgohphglaaDoorPCut6
import Derived.Test.YtbgomhgohphglaaDoorSPage6
import Derived.Deep.CutRange
import Derived.Deep.Cut
namespace Go.Proofs.YtbgomhgohphglaaDoor
open Go.RowKit

/-- The pages so far, of the first k rows. -/
def ScRel (w : World) (l : List Rw) (R : Option (List (List Rw))) (v4 i : Value) (wr : World) : Prop :=
  ∃ (k hi : Nat) (out : List (List Rw)) (vs : List Value), k ≤ l.length ∧ i = .int .i64 (k : Int) ∧ NestR wr w.heap.size hi v4 out vs ∧ out.flatten = l.take k ∧ (∀ p ∈ out, 0 < p.length) ∧ scF out (l.drop k) = R ∧ Below w.heap.size w wr

theorem flat_len {out : List (List Rw)} {l : List Rw} {k : Nat} (h : out.flatten = l.take k) (hp : ∀ p ∈ out, 0 < p.length) : out.length ≤ l.length := by
  have h1 : ∀ (o : List (List Rw)), (∀ p ∈ o, 0 < p.length) → o.length ≤ o.flatten.length := by
    intro o
    induction o with
    | nil => intro _; simp
    | cons p o ih =>
      intro hp
      have := ih (fun q hq => hp q (by simp [hq]))
      have := hp p (by simp)
      simp at *
      omega
  have := h1 out hp
  rw [h, List.length_take] at this
  omega

theorem flat_mem {out : List (List Rw)} {l p : List Rw} {k : Nat} (h : out.flatten = l.take k) (hp : p ∈ out) : (∀ y ∈ p, y ∈ l) ∧ p.length ≤ l.length := by
  refine ⟨fun y hy => ?_, ?_⟩
  · have : y ∈ out.flatten := List.mem_flatten.2 ⟨p, hp, hy⟩
    rw [h] at this
    exact List.mem_of_mem_take this
  · have h2 : p.length ≤ out.flatten.length := by
      obtain ⟨s, t, rfl⟩ := List.append_of_mem hp
      simp
      omega
    rw [h, List.length_take] at h2
    omega

theorem flat_snoc {out : List (List Rw)} {l : List Rw} {k : Nat} {x : Rw} (h : out.flatten = l.take k) (hx : l[k]? = some x) : (out ++ [[x]]).flatten = l.take (k + 1) := by
  rw [List.take_add_one, hx, List.flatten_append, h]
  simp

theorem flat_more {o : List (List Rw)} {p l : List Rw} {k : Nat} {x : Rw} (h : (o ++ [p]).flatten = l.take k) (hx : l[k]? = some x) : (o ++ [p ++ [x]]).flatten = l.take (k + 1) := by
  rw [List.take_add_one, hx, ← h]
  simp

theorem cell_one_at6 (w : World) (n : Nat) (x : Value) (t : TypeId) (hn : n = w.heap.size) : ∀ j u, [x][j]? = some u → (w.alloc (.cells #[x] t)).cell? ((⟨n, 0, none⟩ : Addr).add j) = some u := by
  subst hn
  exact cell_one_new w x t

theorem set_last (o : List (List Rw)) (p q : List Rw) : (o ++ [p]).set o.length q = o ++ [q] := by simp

theorem cap40_some (r : List (List Rw)) : (cap40 (some r)).isSome = decide ((r.length : Int) ≤ 40) := by
  show (if r.length ≤ 40 then some r else none).isSome = _
  by_cases h : r.length ≤ 40
  · have h8 : (r.length : Int) ≤ 40 := by omega
    rw [if_pos h, decide_eq_true h8]; rfl
  · have h8 : ¬ (r.length : Int) ≤ 40 := by omega
    rw [if_neg h, decide_eq_false h8]; rfl

set_option maxRecDepth 100000 in
set_option maxHeartbeats 8000000 in
theorem specCutL_any {w : World} {a : Option Addr} {l : List Rw} {c : Nat} (hS : SlRw w a l) (hg : goodR l = true) (hl : l.length ≤ c) (hc : c ≤ 9223372036854775807) :
    Calls Tryd.prog 58 #[.slice a l.length c] w fun e w' => ∃ v, e = .returned (.tuple #[v, .bool (cap40 (scF [] l)).isSome]) ∧ (∀ gs, scF [] l = some gs → ∃ vs, NestR w' w.heap.size w'.heap.size v gs vs) ∧ (scF [] l = none → v = .slice none 0 0) ∧ Below w.heap.size w w' := by
  obtain ⟨R, HR⟩ : ∃ R, Hid (scF [] l = R) := ⟨_, rfl⟩
  rw [HR.out]
  have h60 := goodR_len hg
  have HRB : Hid (RwB l) := goodR_RwB hg
  have HS : Hid (SlRw w a l) := hS
  obtain ⟨i1, hi1, hy0, hy1, hy2⟩ := info_parts info_rwL
  clear hS hg
  go_enter Tryd.func58, Tryd.ntmps58
  go_wp2_with fail
  go_loopw [4, 11] (fun v4 i wr => ScRel w l R v4 i wr) (fun _ i _ => l.length - (intOf i).toNat)
  case atStart => exact ⟨0, _, [], [], Nat.zero_le _, rfl, NestR.nil w _, by simp, fun p hp => by simp at hp, HR.out, Below.refl _ _⟩
  case round =>
    obtain ⟨k, hi, out, vs, hk, rfl, hN, hfl, hpo, hE, hb⟩ := hrel
    obtain ⟨a4, c4, hv4, fm⟩ := hN.form
    subst hv4
    have hol := flat_len hfl hpo
    by_cases hlt : k < l.length
    · obtain ⟨x, hx⟩ : ∃ x, l[k]? = some x := ⟨_, List.getElem?_eq_getElem hlt⟩
      rcases HS.out with h0 | ⟨b, o, rfl, hE0⟩
      · rw [h0] at hx; simp at hx
      have hk8 : (k : Int) < (l.length : Int) := by omega
      have hk1 : (k : Int) + 1 ≤ (c : Int) := by omega
      have hck : (c == k) = false := by simp; omega
      have hwr1 : IntKind.i64.wrap ((k : Int) + 1) = (k : Int) + 1 := by rw [IntKind.wrap_i64]; omega
      have hto : ((k : Int) + 1).toNat = k + 1 := by omega
      obtain ⟨e0, e1, e2⟩ := hE0 k x hx
      have hbl0 := rw_cell_lt e0
      have a0 : wr.cell? ⟨b, o + k * 3, none⟩ = some (.string x.key) := (hb.cell hbl0).trans e0
      have a1 : wr.cell? ⟨b, o + k * 3 + 1, none⟩ = some (.string x.text) := (hb.cell hbl0).trans e1
      have a2 : wr.cell? ⟨b, o + k * 3 + 2, none⟩ = some (.string x.val) := (hb.cell hbl0).trans e2
      have hbl := rw_cell_lt a0
      have HSX : Hid (SlRw w (some ⟨b, o + k * 3, none⟩) [x]) := .inr ⟨b, o + k * 3, rfl, fun j e he => by
        match j, he with
        | 0, he => simp at he; subst he; simpa using ⟨e0, e1, e2⟩⟩
      obtain ⟨z0, z1, z2⟩ := HRB.out.at hx
      have HX1 : Hid (RwB [x]) := ⟨by simp, fun y hy => by simp at hy; subst hy; exact ⟨z0, z1, z2⟩⟩
      have bA : Below wr.heap.size wr (wr.alloc (.cells #[.string x.key, .string x.text, .string x.val] 32)) := (Below.refl _ _).alloc (Nat.le_refl _) _
      have PG : Calls Tryd.prog 47 #[.slice (some ⟨b, o + k * 3, none⟩) 1 (c - k)] (wr.alloc (.cells #[.string x.key, .string x.text, .string x.val] 32)) fun e w' => e = .returned (.string (byT (pageI [x]))) ∧ (Below wr.heap.size wr w' ∧ BoxR6 w' wr.heap.size x) :=
        (specPage_any (cap := c - k) (l := [x]) (HSX.out.below (hb.trans (bA.mono hb.size)) (Nat.le_refl _)) HX1.out).mono fun e w' h => ⟨h.1, bA.trans (h.2.mono bA.size), (box_new6 wr x).below h.2⟩
      have HSZ : Hid ((byT (pageI [x])).size = lnP [x]) := byT_size _
      have HN : Hid (NestR wr w.heap.size hi _ out vs) := hN
      have HBA : Hid (Below w.heap.size w wr) := hb
      have HFL : Hid (out.flatten = l.take k) := hfl
      have HPO : Hid (∀ p ∈ out, 0 < p.length) := hpo
      have HE : Hid (scF out (l.drop k) = R) := hE
      have HDR : Hid (l.drop k = x :: l.drop (k + 1)) := rw_drop hx
      have HX : Hid (l[k]? = some x) := hx
      have HFM : Hid _ := fm
      generalize byT (pageI [x]) = s1 at *
      clear hN hfl hpo hE hx fm hE0 e0 e1 e2 hbl0 hb bA
      have hs1 : s1.size ≤ 196098 := by rw [HSZ.out]; exact lnP_take_le1 HX1.out
      by_cases hlong : 300 < s1.size
      · have HRE : Hid (R = none) := by show _ = _; rw [← HE.out, HDR.out]; exact scF_long (by rw [← HSZ.out]; exact hlong)
        have h300 : (300 : Int) < (s1.size : Int) := by omega
        go_wp2_with fail
        refine PG.mono ?_
        rintro e w2 ⟨rfl, b2, _⟩
        have HB2 : Hid (Below w.heap.size w w2) := HBA.out.trans (b2.mono HBA.out.size)
        clear PG b2
        go_wp2
        go_ret2
        rw [HRE.out]
        exact ⟨_, rfl, fun gs h => (by cases h), fun _ => rfl, HB2.out⟩
      · have h300 : ¬ (300 : Int) < (s1.size : Int) := by omega
        go_wp2_with fail
        refine PG.mono ?_
        rintro e w2 ⟨rfl, b2, x2⟩
        have HB2 : Hid (Below w.heap.size w w2) := HBA.out.trans (b2.mono HBA.out.size)
        have HN2 : Hid (NestR w2 w.heap.size hi _ out vs) := HN.out.below b2
        have HX2 : Hid (BoxR6 w2 wr.heap.size x) := x2
        obtain ⟨d0, d1, d2⟩ := x2.cells
        have hxlt := x2.lt
        clear PG b2 x2 HBA HN a0 a1 a2
        by_cases h0 : out.length = 0
        · obtain rfl : out = [] := List.eq_nil_of_length_eq_zero h0
          have HE2 : Hid (scF [[x]] (l.drop (k + 1)) = R) := by show _ = _; rw [← HE.out, HDR.out, scF_first (by rw [← HSZ.out]; exact hlong)]
          have bB : Below w2.heap.size w2 ((w2.alloc (.cells #[.string x.key, .string x.text, .string x.val] 32)).alloc (.cells #[.slice (some ⟨w2.heap.size, 0, none⟩) 1 1] 23)) := ((Below.refl _ _).alloc (Nat.le_refl _) _).alloc (by simp) _
          have hrow := (HN2.out.below bB).row
          have r3 := rws_lit1 w2 w2.heap.size w2.heap.size x rfl (Nat.le_refl _)
          have HX0 : Hid (Rws _ w2.heap.size (.slice (some ⟨w2.heap.size, 0, none⟩) 1 1) [x]) := r3.below ((Below.refl _ _).alloc (Nat.le_refl _) (.cells #[.slice (some ⟨w2.heap.size, 0, none⟩) 1 1] 23))
          have hsU := HB2.out.size
          have HBB : Hid (Below _ _ _) := bB
          clear r3 HE bB
          go_wp2_with (at_builtin; refine wpList_append_lies _ rfl _ _ 52 rfl w.heap.size 23 i1 (.slice none 0 0) 1 24 Tryd.underlying52 hi1 hy0 hy1 hy2 rfl (by decide) _ _ _ rfl hrow ⟨_, 0, none⟩ 1 1 [.slice (some ⟨w2.heap.size, 0, none⟩) 1 1] rfl rfl (cell_one_at6 _ _ _ _ (by simp)) (fun x hx => by simp at hx; subst hx; rfl) (by omega) (by unfold maxLen; omega) (by omega) (by simp; omega) _ rfl ?_)
          intro g5 c5 u5 ho5 hg5 hgo5 hlt5
          have N5 := HN2.out.push HB2.out.size HBB.out HX0.out hg5 ho5
          have HB5 : Hid (Below w.heap.size w u5) := Below.grown (HB2.out.trans (HBB.out.mono HB2.out.size)) hg5 (Nat.le_trans HB2.out.size HBB.out.size) (fun i hj => (World.ownsRow.lt hrow i hj).1)
          have HNN : Hid (NestR _ _ _ _ _ _) := N5
          clear N5 HX0 hg5 ho5 hrow HN2 HB2 HBB
          go_wp2
          exact ⟨⟨k + 1, _, [[x]], _, by omega, by go_num, HNN.out, flat_snoc (out := []) HFL.out HX.out, fun p hp => by simp at hp; subst hp; simp, HE2.out, HB5.out⟩, by simp [intOf]; omega⟩
        · obtain ⟨o', p, HO⟩ : ∃ o' p, Hid (out = o' ++ [p]) := by
            rcases List.eq_nil_or_concat out with h | ⟨o', p, h⟩
            · rw [h] at h0; simp at h0
            · exact ⟨o', p, by show _ = _; rw [h]; simp⟩
          obtain ⟨m, HM⟩ : ∃ m, Hid (out.length = m + 1) := ⟨out.length - 1, (by show _ = _; omega)⟩
          have hml : m < out.length := by rw [HM.out]; omega
          have hm0 : (0 : Int) < (out.length : Int) := by omega
          have hm1 : (out.length : Int) - 1 = (m : Int) := by have := HM.out; omega
          have hm2 : (m : Int) < (out.length : Int) := by omega
          have HMO : Hid (o'.length = m) := by have h1 := HM.out; have h2 := congrArg List.length HO.out; simp at h2; show _ = _; omega
          have hom : out[m]? = some p := by rw [HO.out, ← HMO.out]; simp
          obtain ⟨vp, hvp, hI, _⟩ := HN2.out.ins m p hom
          obtain ⟨a9, c9, hv9, fm2⟩ := HN2.out.form
          obtain ⟨gb, hgb, hgl, _, cb, fz⟩ := fm2 m vp hvp
          obtain ⟨rfl, rfl⟩ : a4 = a9 ∧ c4 = c9 := by
            injection hv9 with q1 q2 q3
            exact ⟨q1, q3⟩
          subst hgb
          have hbb := rw_cell_lt cb
          obtain ⟨hpm, hpl⟩ := flat_mem HFL.out (List.mem_of_getElem? hom)
          have HPM : Hid (∀ y ∈ p, y ∈ l) := hpm
          obtain ⟨ap, cp, rfl⟩ := rw_form hI
          have HSP : Hid (SlV w2 (.slice ap p.length cp) p) := hI.slV
          have hp1 := HPO.out p (List.mem_of_getElem? hom)
          clear hI hvp fm2 hom hv9 hpm fz hlong
          have hwm : IntKind.i64.wrap (m : Int) = (m : Int) := by rw [IntKind.wrap_i64]; omega
          have bE : Below w2.heap.size w2 (w2.alloc (.cells #[] 32)) := (Below.refl _ _).alloc (Nat.le_refl _) _
          have R0 : Hid (Rws (w2.alloc (.cells #[] 32)) w2.heap.size (.slice (some ⟨w2.heap.size, 0, none⟩) 0 0) []) := rws_lit0 w2 _ _ rfl (Nat.le_refl _)
          have S0 : Hid (SlV (w2.alloc (.cells #[] 32)) (.slice ap p.length cp) p) := HSP.out.below bE (Nat.le_refl _)
          have bF : Below w2.heap.size w2 ((w2.alloc (.cells #[] 32)).alloc (.cells #[.string x.key, .string x.text, .string x.val] 32)) := bE.alloc (by simp) _
          have R1 : Hid (Rws ((w2.alloc (.cells #[] 32)).alloc (.cells #[.string x.key, .string x.text, .string x.val] 32)) w2.heap.size (.slice (some ⟨w2.heap.size, 0, none⟩) 0 0) []) := R0.out.below ((Below.refl _ _).alloc (Nat.le_refl _) _)
          have S1 : Hid (SlV ((w2.alloc (.cells #[] 32)).alloc (.cells #[.string x.key, .string x.text, .string x.val] 32)) (.slice ap p.length cp) p) := HSP.out.below bF (Nat.le_refl _)
          have X1 : Hid (Rws ((w2.alloc (.cells #[] 32)).alloc (.cells #[.string x.key, .string x.text, .string x.val] 32)) w2.heap.size (.slice (some ⟨w2.heap.size + 1, 0, none⟩) 1 1) [x]) := rws_lit1 _ _ _ x (by simp) (by simp)
          have bG : Below w2.heap.size w2 ((w2.alloc (.cells #[.string x.key, .string x.text, .string x.val] 32)).alloc (.cells #[] 32)) := ((Below.refl _ _).alloc (Nat.le_refl _) _).alloc (by simp) _
          have R2 : Hid (Rws ((w2.alloc (.cells #[.string x.key, .string x.text, .string x.val] 32)).alloc (.cells #[] 32)) w2.heap.size (.slice (some ⟨w2.heap.size + 1, 0, none⟩) 0 0) []) := rws_lit0 _ _ _ (by simp) (by simp)
          have S2 : Hid (SlV ((w2.alloc (.cells #[.string x.key, .string x.text, .string x.val] 32)).alloc (.cells #[] 32)) (.slice ap p.length cp) p) := HSP.out.below bG (Nat.le_refl _)
          have X2 : Hid (Rws ((w2.alloc (.cells #[.string x.key, .string x.text, .string x.val] 32)).alloc (.cells #[] 32)) w2.heap.size (.slice (some ⟨w2.heap.size, 0, none⟩) 1 1) [x]) := (rws_lit1 w2 _ _ x rfl (Nat.le_refl _)).below ((Below.refl _ _).alloc (Nat.le_refl _) _)
          go_upto_region 9 with fail
          go_cut [8, 11] from 11 to 52 (fun v8 i wx => i = .int .i64 (k : Int) ∧ Rws wx w2.heap.size v8 (p ++ [x]) ∧ Below w2.heap.size w2 wx)
          case first =>
            go_region_law (first
              | (refine step_append_rws rfl (.tmp 28) (.tmp 33) rfl w2.heap.size (.slice (some ⟨w2.heap.size, 0, none⟩) 0 0) (.slice ap p.length cp) [] p rfl rfl (rws_heap R0.out rfl) (slV_heap S0.out rfl) (by simp; omega) (by first | (simp; done) | (simp; omega)) ?_; intro v6 w6 i6 g6; have b6 : Below w2.heap.size w2 w6 := Below.grown (by repeat (first | with_reducible exact bE | with_reducible refine Below.drew ?_)) g6 (by first | (simp; done) | (simp; omega)) (fun g e => by cases e; first | exact Nat.le_refl _ | exact Nat.le_succ _); have x6 := HX2.out.below b6; obtain ⟨f0, f1, f2⟩ := x6.cells; have hx6 := x6.lt; have hz6 := b6.size; clear g6)
              | (refine step_append_rws rfl (.tmp 28) (.tmp 33) rfl w2.heap.size (.slice (some ⟨w2.heap.size, 0, none⟩) 0 0) (.slice ap p.length cp) [] p rfl rfl (rws_heap R1.out rfl) (slV_heap S1.out rfl) (by simp; omega) (by first | (simp; done) | (simp; omega)) ?_; intro v6 w6 i6 g6; have b6 : Below w2.heap.size w2 w6 := Below.grown (by repeat (first | with_reducible exact bF | with_reducible refine Below.drew ?_)) g6 (by first | (simp; done) | (simp; omega)) (fun g e => by cases e; first | exact Nat.le_refl _ | exact Nat.le_succ _); have sx6 := sl_keep g6 X1.out rfl (by simp [Value.ownBlock]); have x6 := HX2.out.below b6; obtain ⟨f0, f1, f2⟩ := x6.cells; have hx6 := x6.lt; have hz6 := b6.size; clear g6)
              | (refine step_append_rws rfl (.tmp 28) (.tmp 33) rfl w2.heap.size (.slice (some ⟨w2.heap.size + 1, 0, none⟩) 0 0) (.slice ap p.length cp) [] p rfl rfl (rws_heap R2.out rfl) (slV_heap S2.out rfl) (by simp; omega) (by first | (simp; done) | (simp; omega)) ?_; intro v6 w6 i6 g6; have b6 : Below w2.heap.size w2 w6 := Below.grown (by repeat (first | with_reducible exact bG | with_reducible refine Below.drew ?_)) g6 (by first | (simp; done) | (simp; omega)) (fun g e => by cases e; first | exact Nat.le_refl _ | exact Nat.le_succ _); have sx6 := sl_keep g6 X2.out rfl (by simp [Value.ownBlock]); have x6 := HX2.out.below b6; obtain ⟨f0, f1, f2⟩ := x6.cells; have hx6 := x6.lt; have hz6 := b6.size; clear g6)
              | (refine step_append_rws rfl (.tmp 34) (.tmp 36) rfl w2.heap.size v6 (.slice (some ⟨w6.heap.size, 0, none⟩) 1 1) ([] ++ p) [x] rfl rfl (rws_heap (i6.below ((Below.refl _ _).alloc (Nat.le_refl _) (.cells #[.string x.key, .string x.text, .string x.val] 32))) rfl) (slV_heap (rws_lit1 w6 w6.heap.size w6.heap.size x rfl (Nat.le_refl _)).slV rfl) (by simp; omega) (by first | omega | (simp; omega)) ?_; intro v7 w7 i7 g7; have b7 : Below w2.heap.size w2 w7 := Below.grown (by repeat (first | with_reducible exact (b6.alloc b6.size _) | with_reducible refine Below.drew ?_)) g7 (by first | omega | (simp; omega)) (fun g e => (World.ownsRow.lt i6 g e).1); clear g7)
              | (refine step_append_rws rfl (.tmp 34) (.tmp 36) rfl w2.heap.size v6 (.slice (some ⟨w2.heap.size + 1, 0, none⟩) 1 1) ([] ++ p) [x] rfl rfl (rws_heap i6 rfl) (slV_heap sx6 rfl) (by simp; omega) (by first | omega | (simp; omega)) ?_; intro v7 w7 i7 g7; have b7 : Below w2.heap.size w2 w7 := Below.grown (by repeat (first | with_reducible exact b6 | with_reducible refine Below.drew ?_)) g7 (by first | omega | (simp; omega)) (fun g e => (World.ownsRow.lt i6 g e).1); clear g7)
              | (refine step_append_rws rfl (.tmp 34) (.tmp 36) rfl w2.heap.size v6 (.slice (some ⟨w2.heap.size, 0, none⟩) 1 1) ([] ++ p) [x] rfl rfl (rws_heap i6 rfl) (slV_heap sx6 rfl) (by simp; omega) (by first | omega | (simp; omega)) ?_; intro v7 w7 i7 g7; have b7 : Below w2.heap.size w2 w7 := Below.grown (by repeat (first | with_reducible exact b6 | with_reducible refine Below.drew ?_)) g7 (by first | omega | (simp; omega)) (fun g e => (World.ownsRow.lt i6 g e).1); clear g7))
            all_goals
              have hK : Rws w7 w2.heap.size v7 (p ++ [x]) := by simpa using i7
              clear i7
              go_wp2_with fail
              go_meet
              case rel => exact ⟨rfl, hK, b7⟩
          case rest =>
            obtain ⟨rfl, r8, b8⟩ := hcut
            obtain ⟨q, HQ⟩ : ∃ q, Hid (q = p ++ [x]) := ⟨_, rfl⟩
            rw [← HQ.out] at r8
            have hql : q.length = p.length + 1 := by rw [HQ.out]; simp
            have HQB : Hid (RwB q) := by
              rw [HQ.out]
              refine ⟨by simp; omega, fun y hy => ?_⟩
              rcases List.mem_append.1 hy with hy | hy
              · exact HRB.out.2 y (HPM.out y hy)
              · simp at hy; subst hy; exact ⟨z0, z1, z2⟩
            obtain ⟨a8, c8, hv8⟩ := rw_form r8
            subst hv8
            have PG2 : Calls Tryd.prog 47 #[.slice a8 q.length c8] wc fun e w' => e = .returned (.string (byT (pageI q))) ∧ Below wc.heap.size wc w' := specPage_any (rws_sl r8) HQB.out
            have HSZ2 : Hid ((byT (pageI q)).size = lnP q) := byT_size _
            generalize byT (pageI q) = s2 at *
            have hs2 : s2.size ≤ 196098 := by rw [HSZ2.out]; exact lnP_take_le1 HQB.out
            have hql2 : q.length ≤ 61 := by omega
            have HR8 : Hid (Rws wc w2.heap.size (.slice a8 q.length c8) q) := r8
            have HB8 : Hid (Below w2.heap.size w2 wc) := b8
            clear r8 b8 bE R0 S0 bF R1 S1 X1 bG R2 S2 X2 HSP HRB hql
            by_cases hfit : s2.size ≤ 300
            · have hfit8 : (s2.size : Int) ≤ 300 := by omega
              have HE2 : Hid (scF (o' ++ [q]) (l.drop (k + 1)) = R) := by
                show _ = _
                rw [← HE.out, HDR.out, HO.out, scF_more (by rw [← HSZ.out]; omega) (by rw [← HQ.out, ← HSZ2.out]; exact hfit), HQ.out]
              clear HE HDR
              go_wp2_with fail
              refine PG2.mono ?_
              rintro e w9 ⟨rfl, b9⟩
              have HB9 : Hid (Below w2.heap.size w2 w9) := HB8.out.trans (b9.mono HB8.out.size)
              have HR9 : Hid (Rws w9 w2.heap.size (.slice a8 q.length c8) q) := HR8.out.below b9
              have cb9 : w9.cell? ⟨gb, m, none⟩ = some (.slice ap p.length cp) := (HB9.out.cell hbb).trans cb
              have hgb9 := rw_cell_lt cb9
              have hfz9 : w9.frozen? ⟨gb, m, none⟩ = false := World.ownsRow.frozenAt (HN2.out.below HB9.out).row m
              have HBS : Hid (Below w.heap.size w (w9.setCell ⟨gb, m, none⟩ (.slice a8 q.length c8))) := (HB2.out.trans (HB9.out.mono HB2.out.size)).setCell hgl _
              have HST : Hid (out.set m q = o' ++ [q]) := by show _ = _; rw [HO.out, ← HMO.out]; exact set_last _ _ _
              have hns := HN2.out.store HB2.out.size HB9.out HR9.out hml
              rw [HST.out] at hns
              have HNS : Hid (NestR _ _ _ _ _ _) := hns
              clear hns PG2 b9 HB9 HR9 HB8 HR8 cb HN2 HB2
              go_wp2
              refine ⟨⟨k + 1, _, o' ++ [q], _, by omega, by go_num, HNS.out, by rw [HQ.out]; exact flat_more (by rw [← HO.out]; exact HFL.out) HX.out, fun y hy => ?_, HE2.out, HBS.out⟩, by simp [intOf]; omega⟩
              rcases List.mem_append.1 hy with hy | hy
              · exact HPO.out y (by rw [HO.out]; exact List.mem_append_left _ hy)
              · simp at hy; rw [hy, HQ.out]; simp
            · have hfit8 : ¬ (s2.size : Int) ≤ 300 := by omega
              have HE2 : Hid (scF (out ++ [[x]]) (l.drop (k + 1)) = R) := by
                show _ = _
                rw [← HE.out, HDR.out, HO.out, scF_new (by rw [← HSZ.out]; omega) (by rw [← HQ.out, ← HSZ2.out]; exact hfit)]
              clear HE HDR
              go_wp2_with fail
              refine PG2.mono ?_
              rintro e w9 ⟨rfl, b9⟩
              have bc9 : Below w2.heap.size w2 w9 := HB8.out.trans (b9.mono HB8.out.size)
              have HB9 : Hid (Below w.heap.size w w9) := HB2.out.trans (bc9.mono HB2.out.size)
              have HN9 : Hid (NestR w9 w.heap.size hi _ out vs) := HN2.out.below bc9
              have x9 := HX2.out.below bc9
              obtain ⟨f0, f1, f2⟩ := x9.cells
              have hx9 := x9.lt
              have bB : Below w9.heap.size w9 ((w9.alloc (.cells #[.string x.key, .string x.text, .string x.val] 32)).alloc (.cells #[.slice (some ⟨w9.heap.size, 0, none⟩) 1 1] 23)) := ((Below.refl _ _).alloc (Nat.le_refl _) _).alloc (by simp) _
              have hrow := (HN9.out.below bB).row
              have r3 := rws_lit1 w9 w9.heap.size w9.heap.size x rfl (Nat.le_refl _)
              have HX0 : Hid (Rws _ w9.heap.size (.slice (some ⟨w9.heap.size, 0, none⟩) 1 1) [x]) := r3.below ((Below.refl _ _).alloc (Nat.le_refl _) (.cells #[.slice (some ⟨w9.heap.size, 0, none⟩) 1 1] 23))
              have hsU := HB9.out.size
              have HBB : Hid (Below _ _ _) := bB
              clear r3 bB PG2 b9 bc9 x9 HB8 HR8 cb HN2 HB2 HX2 d0 d1 d2
              go_wp2_with (at_builtin; refine wpList_append_lies _ rfl _ _ 52 rfl w.heap.size 23 i1 (.slice none 0 0) 1 24 Tryd.underlying52 hi1 hy0 hy1 hy2 rfl (by decide) _ _ _ rfl hrow ⟨_, 0, none⟩ 1 1 [.slice (some ⟨w9.heap.size, 0, none⟩) 1 1] rfl rfl (cell_one_at6 _ _ _ _ (by simp)) (fun x hx => by simp at hx; subst hx; rfl) (by omega) (by unfold maxLen; omega) (by omega) (by simp; omega) _ rfl ?_)
              intro g5 c5 u5 ho5 hg5 hgo5 hlt5
              have N5 := HN9.out.push HB9.out.size HBB.out HX0.out hg5 ho5
              have HB5 : Hid (Below w.heap.size w u5) := Below.grown (HB9.out.trans (HBB.out.mono HB9.out.size)) hg5 (Nat.le_trans HB9.out.size HBB.out.size) (fun i hj => (World.ownsRow.lt hrow i hj).1)
              have HNN : Hid (NestR _ _ _ _ _ _) := N5
              clear N5 HX0 hg5 ho5 hrow HN9 HB9 HBB
              go_wp2
              refine ⟨⟨k + 1, _, out ++ [[x]], _, by omega, by go_num, HNN.out, flat_snoc HFL.out HX.out, fun y hy => ?_, HE2.out, HB5.out⟩, by simp [intOf]; omega⟩
              rcases List.mem_append.1 hy with hy | hy
              · exact HPO.out y hy
              · simp at hy; rw [hy]; simp
    · have hkz : k = l.length := by omega
      subst hkz
      have HRE : Hid (R = some out) := by show _ = _; rw [← hE, List.drop_length]; rfl
      have HN : Hid (NestR wr w.heap.size hi _ out vs) := hN
      have HB : Hid (Below w.heap.size w wr) := hb
      clear hN hfl hpo hE fm hb
      go_wp2
      go_ret2
      rw [HRE.out, cap40_some]
      exact ⟨_, rfl, fun gs h => by obtain rfl := Option.some.inj h; exact ⟨_, HN.out.high HN.out.top (Nat.le_refl _)⟩, fun h => (by cases h), HB.out⟩
end Go.Proofs.YtbgomhgohphglaaDoor
