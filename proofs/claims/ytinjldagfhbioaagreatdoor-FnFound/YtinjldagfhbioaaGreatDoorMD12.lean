/- Texts of mine laid together: IFind. -/
import Derived.Test.YtinjldagfhbioaaGreatDoorMD9
import Derived.Test.YtinjldagfhbioaaGreatDoorMD5
import Derived.Test.YtinjldagfhbioaaGreatDoorMD11
import Derived.Maps.AppendAt
import Derived.Sort.CutIn
namespace Go.Proofs.YtinjldagfhbioaaGreatDoor
open Go.RowKit Go.Shelf
attribute [local go_sem] Oper.semAt_some

theorem results_cell2 {fn : Func} {p q : Tmp} {tp tq : TypeId} (h : fn.results = #[.cell p tp, .cell q tq]) (tmps : Array Value) (P : Program) (w : World) :
    (results fn tmps).run P w = ((asAddr (tmps.getD p undef)).run P w).andThen fun a w₁ => ((loadVar tp a).run P w₁).andThen fun v w₂ => ((asAddr (tmps.getD q undef)).run P w₂).andThen fun a' w₃ => ((loadVar tq a').run P w₃).andThen fun v' w₄ => .ok (.tuple #[v, v']) w₄ := by
  simp only [results, h]
  simp [Sem.run_bind, Result.andThen]

theorem wpIn_calm {F : Fence} {n : Nat} {P : Program} {c : Code} {K : Act → World → Prop} {Q : Exit → Act → World → Prop} {a : Act} {w : World} (h : c.wpIn F n P (Exit.then K (fun _ _ _ => False)) a w) : c.wpIn F n P (Exit.then K Q) a w :=
  wpIn_mono h fun e _ _ hp => by cases e <;> first | exact hp | exact hp.elim

theorem six_other (u : World) (b k : Nat) (x0 x1 x2 x3 x4 x5 : Value) (h : b ≠ k) : ((((((u.setCell ⟨b, 0, none⟩ x0).setCell ⟨b, 1, none⟩ x1).setCell ⟨b, 2, none⟩ x2).setCell ⟨b, 3, none⟩ x3).setCell ⟨b, 4, none⟩ x4).setCell ⟨b, 5, none⟩ x5).heap[k]? = u.heap[k]? := by
  simp [World.setCell, Array.getElem?_modify, h]

theorem six_here {u : World} {b : Nat} {z0 z1 z2 z3 z4 z5 : Value} {T : TypeId} (x0 x1 x2 x3 x4 x5 : Value) (h : u.heap[b]? = some (.cells #[z0, z1, z2, z3, z4, z5] T)) : ((((((u.setCell ⟨b, 0, none⟩ x0).setCell ⟨b, 1, none⟩ x1).setCell ⟨b, 2, none⟩ x2).setCell ⟨b, 3, none⟩ x3).setCell ⟨b, 4, none⟩ x4).setCell ⟨b, 5, none⟩ x5).heap[b]? = some (.cells #[x0, x1, x2, x3, x4, x5] T) := by
  simp [World.setCell, Array.getElem?_modify, h]

theorem six_size (u : World) (b : Nat) (x0 x1 x2 x3 x4 x5 : Value) : ((((((u.setCell ⟨b, 0, none⟩ x0).setCell ⟨b, 1, none⟩ x1).setCell ⟨b, 2, none⟩ x2).setCell ⟨b, 3, none⟩ x3).setCell ⟨b, 4, none⟩ x4).setCell ⟨b, 5, none⟩ x5).heap.size = u.heap.size := by simp

theorem six_below {W u : World} {B b : Nat} (x0 x1 x2 x3 x4 x5 : Value) (h : Below B W u) (hb : B ≤ b) : Below B W ((((((u.setCell ⟨b, 0, none⟩ x0).setCell ⟨b, 1, none⟩ x1).setCell ⟨b, 2, none⟩ x2).setCell ⟨b, 3, none⟩ x3).setCell ⟨b, 4, none⟩ x4).setCell ⟨b, 5, none⟩ x5) :=
  (((((h.setCell (p := ⟨b, 0, none⟩) hb _).setCell (p := ⟨b, 1, none⟩) hb _).setCell (p := ⟨b, 2, none⟩) hb _).setCell (p := ⟨b, 3, none⟩) hb _).setCell (p := ⟨b, 4, none⟩) hb _).setCell (p := ⟨b, 5, none⟩) hb _

/-- The search, laid. -/
def CutF (w2 : World) (ve : Value) (sh : Bool) (lv : Int) (vC vW : Value) (s : ByteArray) (v12 : Value) (wx : World) : Prop :=
  ∃ b12 a3 c3, v12 = .pointer (some ⟨b12, 0, none⟩) ∧ wx.heap[b12]? = some (.cells #[ve, .bool sh, .int .i64 lv, vC, .slice a3 (nPc s) c3, vW] 54) ∧ Below w2.heap.size w2 wx ∧ Pcs wx (.slice a3 (nPc s) c3) (pcS s) (nPc s)

theorem cutF_new {w2 w3 : World} {B : Nat} {ve vC vW : Value} {sh : Bool} {lv : Int} {s : ByteArray} {a3 : Option Addr} {c3 : Nat} (hP : PcsB w3 B (.slice a3 (nPc s) c3) (pcS s) (nPc s)) (hb : Below w2.heap.size w2 w3) :
    CutF w2 ve sh lv vC vW s (.pointer (some ⟨w3.heap.size, 0, none⟩)) (w3.alloc (.cells #[ve, .bool sh, .int .i64 lv, vC, .slice a3 (nPc s) c3, vW] 54)) :=
  ⟨w3.heap.size, a3, c3, rfl, heap_alloc_new w3 _, hb.alloc hb.size _, hP.pcs.below ((Below.refl _ _).alloc (Nat.le_refl _) _)⟩

theorem cutF_set {w2 u : World} {B b : Nat} {ve vC vW z0 z1 z2 z3 z4 z5 : Value} {sh : Bool} {lv : Int} {s : ByteArray} {a3 : Option Addr} {c3 : Nat} (hP : PcsB u B (.slice a3 (nPc s) c3) (pcS s) (nPc s)) (hb : Below w2.heap.size w2 u) (hB : b < B) (hw : w2.heap.size ≤ b)
    (h : u.heap[b]? = some (.cells #[z0, z1, z2, z3, z4, z5] 54)) :
    CutF w2 ve sh lv vC vW s (.pointer (some ⟨b, 0, none⟩)) ((((((u.setCell ⟨b, 0, none⟩ ve).setCell ⟨b, 1, none⟩ (.bool sh)).setCell ⟨b, 2, none⟩ (.int .i64 lv)).setCell ⟨b, 3, none⟩ vC).setCell ⟨b, 4, none⟩ (.slice a3 (nPc s) c3)).setCell ⟨b, 5, none⟩ vW) :=
  ⟨b, a3, c3, rfl, six_here _ _ _ _ _ _ h, six_below _ _ _ _ _ _ hb hw, (hP.kept (by rw [six_size]; exact Nat.le_refl _) (fun k hk _ => six_other u b k _ _ _ _ _ _ (by omega))).pcs⟩

theorem kpS_alloc {n0 : Nat} {W : World} (o : Obj) (h : n0 ≤ W.heap.size) : KpS n0 W (W.alloc o) :=
  ⟨(Below.refl _ _).alloc h _, fun _ _ _ hk => Below.heap_alloc _ _ _ (Array.getElem?_eq_some_iff.1 hk).1⟩

theorem info_sp : (Tryz.prog.info? 32).map (fun i => (i.zero, i.size, i.bytes)) = some (some (.agg #[.int .i64 0, .int .i64 0]), 2, 16) := by kernel_rfl

theorem spans_form {W : World} {B : Nat} {v : Value} {pre : List (Int × Int)} (h : W.ownsRow B 32 2 v pre.length (spAll pre)) : ∃ a c, v = .slice a pre.length c := by
  rcases h.2 with ⟨rfl, h0⟩ | ⟨g, cap, cur, rfl, _⟩
  · exact ⟨none, 0, by rw [h0]⟩
  · exact ⟨_, _, rfl⟩

theorem spans_snoc {W : World} {B : Nat} {v : Value} {pre : List (Int × Int)} {x : Int × Int} (h : W.ownsRow B 32 2 v (pre.length + 1) (spAll pre ++ [.int .i64 x.1, .int .i64 x.2])) : W.ownsRow B 32 2 v (pre ++ [x]).length (spAll (pre ++ [x])) := by
  have e1 : (pre ++ [x]).length = pre.length + 1 := by simp
  have e2 : spAll (pre ++ [x]) = spAll pre ++ [.int .i64 x.1, .int .i64 x.2] := by simp [spAll, spC]
  rw [e1, e2]
  exact h

theorem spans_low {W : World} {B B' : Nat} {v : Value} {pre : List (Int × Int)} (h : W.ownsRow B 32 2 v pre.length (spAll pre)) (hb : B' ≤ B) : Spans W B' v pre := by
  refine ⟨h.1, ?_⟩
  rcases h.2 with h0 | ⟨g, cap, cur, q1, q2, q3⟩
  · exact .inl h0
  · exact .inr ⟨g, cap, cur, q1, by omega, q3⟩

theorem c2_at (w : World) (n : Nat) (x y : Value) (t : TypeId) (hn : n = w.heap.size) : ∀ j u, [x, y][j]? = some u → (w.alloc (.cells #[x, y] t)).cell? ((⟨n, 0, none⟩ : Addr).add j) = some u := by
  subst hn
  intro j u hj
  match j, hj with
  | 0, hj => simp at hj; subst hj; simp [Addr.add]
  | 1, hj => simp at hj; subst hj; simp [Addr.add]
  | j + 2, hj => simp at hj

theorem kp_appended {W w1 : World} {n0 B k n : Nat} {v : Value} {xs : List Value} {tmp : Obj} {cs : Array Value} {fr : Nat × Nat} (hv : Boxed W B 28 v) (hrow : W.ownsRow n0 32 2 v n xs) (hgrow : (W.alloc tmp).grownBy w1 v.ownBlock)
    (hk : W.heap[k]? = some (.cells cs 54 fr)) (v' : Value) : (w1.setCell ⟨B, 0, none⟩ v').heap[k]? = W.heap[k]? := by
  have hlt := (Array.getElem?_eq_some_iff.1 hk).1
  have e1 : (W.alloc tmp).heap[k]? = W.heap[k]? := Below.heap_alloc W tmp k hlt
  have ne : some k ≠ v.ownBlock := by
    rcases hrow.2 with ⟨rfl, _⟩ | ⟨g, cap, cur, rfl, _, hg, _⟩
    · intro c; cases c
    · intro c
      have e : k = g := Option.some.inj c
      subst e
      rw [hg] at hk
      injection hk with q1
      injection q1 with _ q2 _
      exact absurd q2 (by decide)
  have neB : B ≠ k := fun e => by
    subst e
    unfold Boxed at hv
    rw [hv] at hk
    injection hk with q1
    injection q1 with _ q2 _
    exact absurd q2 (by decide)
  have e2 := hgrow.block k (by simp; omega) ne
  have e3 : (w1.setCell ⟨B, 0, none⟩ v').heap[k]? = w1.heap[k]? := by simp [World.setCell, Array.getElem?_modify, neB]
  exact e3.trans (e2.trans e1)

/-- The boxes of rules and results. -/
def FBox (W : World) (b : Nat) (v : Value) (sh : Bool) (lv : Int) (r6 r7 : Value) : Prop :=
  W.heap[b]? = some (.cells #[v, .bool sh, .int .i64 lv] 25) ∧ Boxed W (b + 1) 28 r6 ∧ Boxed W (b + 1 + 1) 4 r7

theorem FBox.below {W W' : World} {b : Nat} {v r6 r7 : Value} {sh : Bool} {lv : Int} (h : FBox W b v sh lv r6 r7) (hb : Below W.heap.size W W') : FBox W' b v sh lv r6 r7 :=
  ⟨(hb.block _ (Array.getElem?_eq_some_iff.1 h.1).1).trans h.1, (hb.block _ h.2.1.lt).trans h.2.1, (hb.block _ h.2.2.lt).trans h.2.2⟩

theorem FBox.cells {W : World} {b : Nat} {v r6 r7 : Value} {sh : Bool} {lv : Int} (h : FBox W b v sh lv r6 r7) : W.cell? ⟨b, 0, none⟩ = some v ∧ W.cell? ⟨b, 1, none⟩ = some (.bool sh) ∧ W.cell? ⟨b, 2, none⟩ = some (.int .i64 lv) :=
  ⟨cell_of_row _ _ 0 _ _ _ h.1, cell_of_row _ _ 1 _ _ _ h.1, cell_of_row _ _ 2 _ _ _ h.1⟩

theorem okF_no {es : List Ent} {sh : Bool} {lv : Int} {s t : ByteArray} (h : (ok4 s && okE es lv t) = false) : okF es sh lv s t = false := by
  unfold okF
  have : (okE es lv s && okE es lv t) = false := by
    unfold okE at h ⊢
    generalize ok4 s = a at *
    generalize ok4 t = b at *
    generalize rulesOk es lv = c at *
    cases a <;> cases b <;> cases c <;> simp_all
  rw [this]; rfl

theorem findA_no {es : List Ent} {sh : Bool} {lv : Int} {s t : ByteArray} (h : okF es sh lv s t = false) : findA es sh lv s t = [] := by unfold findA; rw [h]; rfl

set_option maxRecDepth 100000 in
set_option maxHeartbeats 8000000 in
theorem implFind_any {w : World} {B : Nat} {ve : Value} {es : List Ent} {sh : Bool} {lv : Int} (s t : ByteArray) (hs : s.size ≤ 1048576) (htz : t.size ≤ 1048576) (hE : Ents w B ve es) (hr : ∀ e ∈ es, e.runes.length ≤ 1048576) (ht : Tabs3 w) :
    Calls Tryz.prog 5 #[.agg #[ve, .bool sh, .int .i64 lv], .string s, .string t] w fun e w' => ∃ v', e = .returned (.tuple #[v', .bool (okF es sh lv s t)]) ∧ Spans w' w.heap.size v' (findA es sh lv s t) ∧ Below w.heap.size w w' := by
  obtain ⟨va, vc, rfl⟩ : ∃ a c, ve = .slice a es.length c := by
    rcases hE.form with ⟨rfl, rfl⟩ | ⟨_, _, rfl, _, _, _, _⟩
    · exact ⟨_, _, rfl⟩
    · exact ⟨_, _, rfl⟩
  obtain ⟨W0, HW0⟩ : ∃ W0, Hid (W0 = ((w.alloc (.cells #[.slice va es.length vc, .bool sh, .int .i64 lv] 25)).alloc (.cells #[.slice none 0 0] 28)).alloc (.cells #[.bool false] 4)) := ⟨_, rfl⟩
  have HB0 : Hid (Below w.heap.size w W0) := by
    rw [HW0.out]; exact (((Below.refl _ _).alloc (Nat.le_refl _) _).alloc (by simp) _).alloc (by simp; omega) _
  have HF0 : Hid (FBox W0 w.heap.size (.slice va es.length vc) sh lv (.slice none 0 0) (.bool false)) := by
    rw [HW0.out]
    refine ⟨?_, ?_, ?_⟩
    · rw [Below.heap_alloc _ _ _ (by simp; omega), Below.heap_alloc _ _ _ (by simp)]; exact heap_alloc_new w _
    · have := Boxed.new (w.alloc (.cells #[.slice va es.length vc, .bool sh, .int .i64 lv] 25)) 28 (.slice none 0 0)
      rw [World.size_alloc] at this
      exact this.alloc _
    · have := Boxed.new ((w.alloc (.cells #[.slice va es.length vc, .bool sh, .int .i64 lv] 25)).alloc (.cells #[.slice none 0 0] 28)) 4 (.bool false)
      rw [World.size_alloc, World.size_alloc] at this
      exact this
  have CU := implCut_any s W0 hs (ht.below HB0.out)
  have FI := fun (u : World) (hu : Below W0.heap.size W0 u) => implFirsts_any (sh := sh) (lv := lv) t htz ((hE.below HB0.out).below hu) hr ((ht.below HB0.out).below hu)
  have HE0 : Hid (Ents W0 B (.slice va es.length vc) es) := hE.below HB0.out
  have HT0 : Hid (Tabs3 W0) := ht.below HB0.out
  have HRR : Hid _ := hr
  clear hE ht hr
  refine (callsIn_wide (n := 3)).1 ?_
  refine callsIn_of_wp_marks Tryz.func5 rfl trivial ?_ rfl
  simp only [Tryz.ntmps5, List.size_toArray, List.length_cons, List.length_nil, Nat.reduceAdd, Nat.reduceSub, Array.replicate_succ, Array.replicate_zero, List.push_toArray, List.append_toArray, List.nil_append, List.cons_append]
  cases hok : (ok4 s && okE es lv t)
  · have hkf := okF_no (sh := sh) hok
    rw [hkf, findA_no hkf]
    clear hkf
    have h2 : ok4 s = false ∨ (ok4 s = true ∧ okE es lv t = false) := by cases h : ok4 s <;> simp_all
    have HS2 : Hid (∀ u : World, Below W0.heap.size W0 u → Below w.heap.size w ((u.setCell ⟨w.heap.size + 1, 0, none⟩ (.slice none 0 0)).setCell ⟨w.heap.size + 1 + 1, 0, none⟩ (.bool false))) := fun u hu => ((HB0.out.trans (hu.mono HB0.out.size)).setCell (p := ⟨w.heap.size + 1, 0, none⟩) (by show w.heap.size ≤ w.heap.size + 1; omega) _).setCell (p := ⟨w.heap.size + 1 + 1, 0, none⟩) (by show w.heap.size ≤ w.heap.size + 1 + 1; omega) _
    generalize ok4 s = o1 at *
    generalize okE es lv t = o2 at *
    gi_wp2_with fail
    rw [← HW0.out]
    clear HW0 hok HB0
    rcases h2 with rfl | ⟨rfl, rfl⟩
    all_goals
      gi_wp2_with (first
        | (refine ⟨trivial, ?_⟩; gi_at_call 15; refine (callsIn_wide.2 CU).mono ?_; rintro e w1 ⟨v1, rfl, i1, b1⟩; obtain ⟨p0, p1, p2⟩ := (HF0.out.below b1).cells; have FI1 := FI _ b1; have hb1 := HF0.out.below b1)
        | (refine ⟨trivial, ?_⟩; gi_at_call 8; refine (callsIn_wide.2 FI1).mono ?_; rintro e w2 ⟨v2, rfl, i2, b2⟩; have hb2 := hb1.below b2; have k6 := hb2.2.1.cell; have f6 := hb2.2.1.frozen; have l6 := hb2.2.1.lt; have k7 := hb2.2.2.cell; have f7 := hb2.2.2.frozen; have l7 := hb2.2.2.lt))
      refine ⟨.tuple #[.slice none 0 0, .bool false], ?_, _, rfl, ⟨rfl, .inl ⟨rfl, rfl⟩⟩, HS2.out _ (b1.trans (b2.mono b1.size))⟩
      rw [results_cell2 rfl]
      go_simp
  · rw [Bool.and_eq_true] at hok
    obtain ⟨ho1, ho2⟩ := hok
    have hro := (okE_parts ho2).2.2
    have hne : es.length ≤ 1048576 := by have := (rulesOk_parts hro).1; omega
    have hcu : cutI s = cutsL s := by unfold cutI; rw [if_pos ho1]
    have hfi : firsT es sh lv t = wantT es sh t := by unfold firsT wantT; rw [if_pos ho2]
    have HWR : Hid _ := firsT_rng es sh lv t
    have hwl := firsT_len es sh lv t
    have hokF : okF es sh lv s t = decide ((findL es sh s t).length ≤ 60) := by
      unfold okF
      rw [ho2, show okE es lv s = true by unfold okE; rw [ho1, hro]; rfl]
      rfl
    rw [hcu, ho1] at CU
    rw [hfi, ho2] at FI
    rw [hfi] at hwl HWR
    have hLL : LSp es sh (wantT es sh t) s (nPc s + 1) 0 = findL es sh s t := rfl
    have HES : Hid _ := hes_of (sh := sh) hro
    have hmf : ∀ (fn : Fn) (first cap : Array Value) (w : World), (Instr.makeFunc fn first cap).run Tryz.prog w = .ok (.func fn first cap) w := fun _ _ _ _ => rfl
    gi_wp2_with fail
    rw [← HW0.out]
    clear HW0 hcu hfi
    gi_wp2_with (first
      | (refine ⟨trivial, ?_⟩; gi_at_call 15; refine (callsIn_wide.2 CU).mono ?_; rintro e w1 ⟨v1, rfl, i1, b1⟩; obtain ⟨a1, c1, rfl⟩ := ints_form i1; obtain ⟨p0, p1, p2⟩ := (HF0.out.below b1).cells; have FI1 := FI _ b1; have hb1 := HF0.out.below b1)
      | (refine ⟨trivial, ?_⟩; gi_at_call 8; refine (callsIn_wide.2 FI1).mono ?_; rintro e w2 ⟨v2, rfl, i2, b2⟩; obtain ⟨a2, c2, rfl⟩ := ints_form i2))
    have hb2 := hb1.below b2
    have b02 : Below W0.heap.size W0 w2 := b1.trans (b2.mono b1.size)
    have PC := fun (u : World) (hu : Below w2.heap.size w2 u) => pieces_any ho1 ((i1.below b2).below hu) ((HT0.out.below b02).below hu)
    obtain ⟨r0, r1, r2⟩ := hb2.cells
    have hl2 : w.heap.size < w2.heap.size := (Array.getElem?_eq_some_iff.1 hb2.1).1
    have HF2 : Hid (FBox _ _ _ _ _ _ _) := hb2
    have HI1 : Hid (Ints w2 W0.heap.size (.slice a1 (cutsL s).length c1) (cutsL s)) := i1.below b2
    have HI2 : Hid (Ints w2 w1.heap.size (.slice a2 (wantT es sh t).length c2) (wantT es sh t)) := i2
    have HB02 : Hid (Below _ _ _) := b02
    clear p0 p1 p2 CU FI FI1 hb1 hb2 i1 i2 b1 b2 b02
    have A0 : Hid (Below w2.heap.size w2 (w2.alloc (.cells #[.slice none 0 0, .bool false, .int .i64 0, .slice none 0 0, .slice none 0 0, .slice none 0 0] 54)).drew) := ((Below.refl _ _).alloc (Nat.le_refl _) _).drew
    gi_cut [12] from 32 (fun v12 wx => CutF w2 (.slice va es.length vc) sh lv (.slice a1 (cutsL s).length c1) (.slice a2 (wantT es sh t).length c2) s v12 wx)
    case first =>
      refine wpIn_calm ?_
      gi_region_with (refine ⟨trivial, ?_⟩; gi_at_call 16; refine (callsIn_wide.2 (PC _ (by first | exact (Below.refl _ _).drew | exact A0.out | exact Below.refl _ _ ))).mono ?_; rintro e w3 ⟨v3, rfl, hP3, b3⟩; obtain ⟨a3, c3, rfl, hPq⟩ := id hP3; have HPQ : Hid _ := hPq; clear hPq; have b3' : Below w2.heap.size w2 w3 := (by first | exact b3 | exact ((Below.refl _ _).drew).trans b3 | exact A0.out.trans (b3.mono A0.out.size)); have t0 := (b3'.cell (p := ⟨w.heap.size, 0, none⟩) hl2).trans r0; have t1 := (b3'.cell (p := ⟨w.heap.size, 1, none⟩) hl2).trans r1; have t2 := (b3'.cell (p := ⟨w.heap.size, 2, none⟩) hl2).trans r2; have hl3 : w.heap.size < w3.heap.size := Nat.lt_of_lt_of_le hl2 b3'.size; (first | (have tb : w3.heap[w2.heap.size]? = some (.cells #[.slice none 0 0, .bool false, .int .i64 0, .slice none 0 0, .slice none 0 0, .slice none 0 0] 54) := (b3.block _ (by simp)).trans (heap_alloc_new w2 _); have z0 := cell_of_row _ _ 0 _ _ _ tb; have z1 := cell_of_row _ _ 1 _ _ _ tb; have z2 := cell_of_row _ _ 2 _ _ _ tb; have z3 := cell_of_row _ _ 3 _ _ _ tb; have z4 := cell_of_row _ _ 4 _ _ _ tb; have z5 := cell_of_row _ _ 5 _ _ _ tb; have fz : ∀ j, w3.frozen? ⟨w2.heap.size, j, none⟩ = false := (fun j => by simp [World.frozen?, tb]); have lz : w2.heap.size < w3.heap.size := (Array.getElem?_eq_some_iff.1 tb).1) | skip))
      all_goals
        gi_wp2_with fail
        gi_meet
        case rel => first | (with_reducible exact cutF_new hP3 b3') | (with_reducible refine cutF_set (b := w2.heap.size) hP3 b3' ?_ (Nat.le_refl _) tb; simp)
    case rest =>
      obtain ⟨b12, a3, c3, rfl, hb12, bc, hPc⟩ := hcut
      have y0 := cell_of_row _ _ 0 _ _ _ hb12
      have y1 := cell_of_row _ _ 1 _ _ _ hb12
      have y2 := cell_of_row _ _ 2 _ _ _ hb12
      have y3 := cell_of_row _ _ 3 _ _ _ hb12
      have y4 := cell_of_row _ _ 4 _ _ _ hb12
      have y5 := cell_of_row _ _ 5 _ _ _ hb12
      have hlb : b12 < wc.heap.size := (Array.getElem?_eq_some_iff.1 hb12).1
      have B0c : Below W0.heap.size W0 wc := HB02.out.trans (bc.mono HB02.out.size)
      have SEQ := spans_seq (n := 2) (by omega) (lv := lv) (HE0.out.below B0c) hne HRR.out (HT0.out.below B0c) hPc (HI2.out.below bc) (by omega) (HI1.out.below bc) ho1 HWR.out HES.out ((Below.refl wc.heap.size wc).alloc (Nat.le_refl _) (.cells #[.slice none 0 0] 28))
      rw [hLL] at SEQ
      have HSEQ : Hid (SeqRecv _ _ _ _ _ _ _ _ _) := SEQ
      clear SEQ hLL
      have HFc : Hid (FBox _ _ _ _ _ _ _) := HF2.out.below bc
      have HBc : Hid (Below w.heap.size w wc) := HB0.out.trans (B0c.mono HB0.out.size)
      clear r0 r1 r2 A0 PC hb12 hPc
      gi_wp2
      have hbB : Boxed (wc.alloc (.cells #[.slice none 0 0] 28)) wc.heap.size 28 (.slice none 0 0) := Boxed.new wc _ _
      have hsz4 : (wc.alloc (.cells #[.slice none 0 0] 28)).heap.size = wc.heap.size + 1 := by simp
      have hF4 := HFc.out.below ((Below.refl wc.heap.size wc).alloc (Nat.le_refl _) (.cells #[.slice none 0 0] 28))
      have hwc := HBc.out.size
      have hB4 := HBc.out.alloc hwc (.cells #[.slice none 0 0] 28)
      have hl7 := HFc.out.2.2.lt
      obtain ⟨ii, hii, hiz, hi1, hi2⟩ := info_parts info_sp
      refine range_recv (α := Int × Int) (n := 3) (by omega) (gf := 17) rfl (enters_of Tryz.func17 (by kernel_rfl) rfl) HSEQ.out KpS.t (KpS.b (by rw [hsz4]; omega)) (fun _ => rfl)
        (fun pre W => (∃ v, Boxed W wc.heap.size 28 v ∧ W.ownsRow wc.heap.size 32 2 v pre.length (spAll pre) ∧ True) ∧ (pre.length ≤ 60 ∧ (Boxed W (w.heap.size + 1) 28 (.slice none 0 0) ∧ (Boxed W (w.heap.size + 1 + 1) 4 (.bool false) ∧ Below w.heap.size w W))))
        (fun pre W => 61 ≤ pre.length ∧ (Boxed W (w.heap.size + 1) 28 (.slice none 0 0) ∧ (Boxed W (w.heap.size + 1 + 1) 4 (.bool false) ∧ Below w.heap.size w W)))
        (OwnFrom.and (Own.from (holdsRow_own wc.heap.size wc.heap.size 28 32 2 (fun pre : List (Int × Int) => pre.length) (fun pre => spAll pre) (fun _ _ => True)) _) (OwnFrom.and (ownFrom_pure _ (fun pre : List (Int × Int) => pre.length ≤ 60)) (OwnFrom.and (Own.from (boxed_own _ _ (fun _ => .slice none 0 0)) _) (OwnFrom.and (Own.from (boxed_own _ _ (fun _ => .bool false)) _) (ownFrom_below (Nat.le_refl _) (by rw [hsz4]; omega))))))
        (OwnFrom.and (ownFrom_pure _ (fun pre : List (Int × Int) => 61 ≤ pre.length)) (OwnFrom.and (Own.from (boxed_own _ _ (fun _ => .slice none 0 0)) _) (OwnFrom.and (Own.from (boxed_own _ _ (fun _ => .bool false)) _) (ownFrom_below (Nat.le_refl _) (by rw [hsz4]; omega)))))
        ⟨⟨_, hbB, World.ownsRow_nil _ _ _ _, trivial⟩, Nat.zero_le _, hF4.2.1, hF4.2.2, hB4⟩
        (fun x a' W => ∃ Bx, wc.heap.size < Bx ∧ W.heap[Bx]? = some (.cells #[.int .i64 x.1, .int .i64 x.2] 32) ∧ a' = { tmps := #[.agg #[.slice va es.length vc, .bool sh, .int .i64 lv], .string s, .string t, .pointer (some ⟨w.heap.size, 0, none⟩), undef, undef, .pointer (some ⟨w.heap.size + 1, 0, none⟩), .pointer (some ⟨w.heap.size + 1 + 1, 0, none⟩), .slice a1 (cutsL s).length c1, .bool true, .slice a2 (wantT es sh t).length c2, .bool true, .pointer (some ⟨b12, 0, none⟩), .pointer (some ⟨wc.heap.size, 0, none⟩), .pointer (some ⟨Bx, 0, none⟩), .tuple #[.slice a1 (cutsL s).length c1, .bool true], .string s, .tuple #[.slice a1 (cutsL s).length c1, .bool true], .slice a1 (cutsL s).length c1, .bool true, .tuple #[.slice a2 (wantT es sh t).length c2, .bool true], .agg #[.slice va es.length vc, .bool sh, .int .i64 lv], .string t, .tuple #[.slice a2 (wantT es sh t).length c2, .bool true], .slice a2 (wantT es sh t).length c2, .bool true, .bool true, .bool false, .bool false, .bool true, .bool false, .bool false, u32, u33, u34, u35, u36, u37, u38, .agg #[.slice va es.length vc, .bool sh, .int .i64 lv, .slice a1 (cutsL s).length c1, .slice a3 (nPc s) c3, .slice a2 (wantT es sh t).length c2], .func (.func 17) #[.agg #[.slice va es.length vc, .bool sh, .int .i64 lv, .slice a1 (cutsL s).length c1, .slice a3 (nPc s) c3, .slice a2 (wantT es sh t).length c2]] #[], .agg #[.int .i64 x.1, .int .i64 x.2], u42, u43, u44, u45, u46, u47, u48, u49], defers := [] })
        (fun x a' _ A Bw row hs hg hr => by
          obtain ⟨Bx, q1, q2, q3⟩ := hs
          refine ⟨Bx, q1, (hg.block Bx (Array.getElem?_eq_some_iff.1 q2).1 (fun e => ?_)).trans q2, q3⟩
          obtain ⟨_, o, ho, hc⟩ := hr Bx e.symm
          rw [q2] at ho
          cases ho
          cases hc)
        ?assign ?body ?done ?stop
      case assign =>
        rintro l pre x W K ⟨⟨v, hv, hrow, _⟩, hlen, h6, h7, hB⟩ hK
        have hlt := hv.lt
        gi_wp2
        refine hK _ _ ((KeepsOthers.alloc _ _).from _) (kpS_alloc _ (by omega)) ⟨⟨v, hv.alloc _, hrow.alloc _, trivial⟩, hlen, h6.alloc _, h7.alloc _, hB.alloc hB.size _⟩ ⟨W.heap.size, hlt, heap_alloc_new W _, rfl⟩
      case body =>
        rintro l pre x a' W ⟨⟨v, hv, hrow, _⟩, hlen, h6, h7, hB⟩ ⟨Bx, hBx, hbx, rfl⟩ _
        obtain ⟨av, cv, rfl⟩ := spans_form hrow
        have hc := hv.cell
        have hlt := hv.lt
        by_cases h60 : pre.length = 60
        · have k6 := h6.cell
          have f6 := h6.frozen
          have l6 := h6.lt
          have k7 := h7.cell
          have f7 := h7.frozen
          have l7 := h7.lt
          have e60 : (pre.length : Int) = 60 := by omega
          gi_wp2
          exact .inr ⟨rfl, ((KeepsOthers.setCell _ _ _).trans (KeepsOthers.setCell _ _ _)).from _, by simp; omega, (h6.set _).other (by omega) _, (h7.other (by omega) _).set _, (hB.setCell (p := ⟨w.heap.size + 1, 0, none⟩) (by show w.heap.size ≤ w.heap.size + 1; omega) _).setCell (p := ⟨w.heap.size + 1 + 1, 0, none⟩) (by show w.heap.size ≤ w.heap.size + 1 + 1; omega) _⟩
        · have n60 : ((pre.length : Int) == 60) = false := by rw [beq_eq_false_iff_ne]; omega
          have xb0 := cell_of_row _ _ 0 _ _ _ hbx
          have xb1 := cell_of_row _ _ 1 _ _ _ hbx
          have hxl := (Array.getElem?_eq_some_iff.1 hbx).1
          gi_wp2_with (gi_at_builtin; refine wpListIn_append_own _ rfl _ _ 28 rfl wc.heap.size 32 ii (.agg #[.int .i64 0, .int .i64 0]) 2 16 Tryz.underlying28 hii hiz hi1 hi2 rfl (by decide) _ _ _ rfl (hrow.alloc _) ⟨W.heap.size, 0, none⟩ 1 1 [.int .i64 x.1, .int .i64 x.2] rfl rfl (c2_at _ _ _ _ _ rfl) (by simp [Value.oneCell']) (by unfold maxLen; omega) (by omega) (by simp; omega) ?_; intro v' w1 hown' hgrow _; obtain ⟨g', cap', rfl⟩ := ownsRow_succ hown'; obtain ⟨hv1, hv2, hr2, hk2, hb2⟩ := hv.appended (by decide) hrow (by omega) (Nat.le_refl _) hown' hgrow; have hc1 := hv1.cell; have hf1 := hv1.frozen; have hl1 := hv1.lt)
          refine .inl ⟨rfl, hk2.from _, ⟨hb2, fun k cs fr hk => kp_appended hv hrow hgrow hk _⟩, ⟨⟨_, hv2, spans_snoc hr2, trivial⟩, by simp; omega, (hb2.block _ (by omega)).trans h6, (hb2.block _ (by omega)).trans h7, hB.trans (hb2.mono (by omega))⟩⟩
      case done =>
        rintro D xs W hD hS ⟨⟨v, hv, hrow, _⟩, hlen, h6, h7, hB⟩ hKd
        have hS' : xs = findL es sh s t := hS
        subst hS'
        obtain ⟨av, cv, rfl⟩ := spans_form hrow
        have hc := hv.cell
        have hlt := hv.lt
        have k6 := h6.cell
        have f6 := h6.frozen
        have l6 := h6.lt
        have k7 := h7.cell
        have f7 := h7.frozen
        have l7 := h7.lt
        rw [hsz4] at hD
        have hokT : okF es sh lv s t = true := by rw [hokF]; exact decide_eq_true hlen
        have hfA : findA es sh lv s t = findL es sh s t := by unfold findA; rw [if_pos hokT]
        have HOT : Hid _ := hokT
        have HFA : Hid _ := hfA
        clear hokF hfA hokT
        gi_wp2
        have hK2 := ((KeepsOthers.setCell W ⟨w.heap.size + 1, 0, none⟩ (.slice av (findL es sh s t).length cv)).trans (KeepsOthers.setCell _ ⟨w.heap.size + 1 + 1, 0, none⟩ (.bool true))).same D _ hKd rfl
        refine ⟨by simp, .inl ⟨_, _, rfl, run_takeDeferred hK2, ?_⟩⟩
        have r6 := (((h6.set (.slice av (findL es sh s t).length cv)).other (B' := w.heap.size + 1 + 1) (by omega) (.bool true)).kept (grownBy_putObj' _ D (.deferred none)) (fun e => by cases e; omega)).cell
        have r7 := (((h7.other (B' := w.heap.size + 1) (by omega) (.slice av (findL es sh s t).length cv)).set (.bool true)).kept (grownBy_putObj' _ D (.deferred none)) (fun e => by cases e; omega)).cell
        have hrw := ownsRow_putObj ((hrow.kept (grownBy_setCell' W (w.heap.size + 1) (.slice av (findL es sh s t).length cv)) (.inr (h6.not_row (by decide) hrow).symm)).kept (grownBy_setCell' _ (w.heap.size + 1 + 1) (.bool true)) (.inr (h7.not_row (by decide) hrow).symm)) (.deferred none) hK2 rfl
        refine ⟨.tuple #[.slice av (findL es sh s t).length cv, .bool true], ?_, _, by rw [HOT.out], by rw [HFA.out]; exact spans_low hrw (by omega), ?_⟩
        · rw [results_cell2 rfl]
          go_simp
        · have hb5 := (hB.setCell (p := ⟨w.heap.size + 1, 0, none⟩) (by show w.heap.size ≤ w.heap.size + 1; omega) (.slice av (findL es sh s t).length cv)).setCell (p := ⟨w.heap.size + 1 + 1, 0, none⟩) (by show w.heap.size ≤ w.heap.size + 1 + 1; omega) (.bool true)
          exact hb5.trans (belowK_b (w := w) (Nat.le_refl _) _ D _ _ (by omega) hK2 rfl rfl)
      case stop =>
        rintro D pre W hD hSp ⟨hlen, h6, h7, hB⟩ hKd
        rw [hsz4] at hD
        have hpl : pre.length ≤ (findL es sh s t).length := List.IsPrefix.length_le hSp
        have hokT : okF es sh lv s t = false := by rw [hokF]; exact decide_eq_false (by omega)
        have HOT : Hid _ := hokT
        have HFA : Hid _ := findA_no hokT
        have l6 := h6.lt
        have l7 := h7.lt
        clear hokF hokT
        gi_wp2
        refine ⟨by simp, .inl ⟨_, _, rfl, run_takeDeferred hKd, ?_⟩⟩
        have r6 := (h6.kept (grownBy_putObj' W D (.deferred none)) (fun e => by cases e; omega)).cell
        have r7 := (h7.kept (grownBy_putObj' W D (.deferred none)) (fun e => by cases e; omega)).cell
        refine ⟨.tuple #[.slice none 0 0, .bool false], ?_, _, by rw [HOT.out], by rw [HFA.out]; exact ⟨rfl, .inl ⟨rfl, rfl⟩⟩, hB.trans (belowK_b (w := w) (Nat.le_refl _) _ D _ _ (by omega) hKd rfl rfl)⟩
        rw [results_cell2 rfl]
        go_simp
end Go.Proofs.YtinjldagfhbioaaGreatDoor
