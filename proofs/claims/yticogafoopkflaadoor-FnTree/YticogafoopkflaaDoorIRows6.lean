/- Contract of the program's rowsOfPage: what a page tells, a panic being caught. -/
import Derived.Test.YticogafoopkflaaDoorITRowN
import Derived.Test.YticogafoopkflaaDoorIPage6
import Derived.Test.YticogafoopkflaaDoorSRead6
import Derived.Test.YticogafoopkflaaDoorIClone
import Derived.Test.YticogafoopkflaaDoorRowKinds
import Derived.Defers
import Derived.Recover
import Derived.Laws.Pointers
namespace Go.Proofs.YticogafoopkflaaDoor
open Go.RowKit

theorem catch_pan {w : World} {p q : Addr} {x y : Value} {ty : TypeId} {pv : Value} {older : List PanicEntry} (hp : w.cell? p = some x) (fp : w.frozen? p = false) (hq : (w.setCell p (.slice none 0 0)).cell? q = some y) (fq : (w.setCell p (.slice none 0 0)).frozen? q = false) :
    CallsD Tryd.prog 60 #[.pointer (some p), .pointer (some q)] (.panicking ({ v := .iface ty pv, recovered := false } :: older)) w fun e u' w' =>
      e = .returned (.tuple #[]) ∧ u' = .panicking ({ v := .iface ty pv, recovered := true } :: older) ∧ w' = (w.setCell p (.slice none 0 0)).setCell q (.bool false) := by
  refine callsD_of_wpS Tryd.func60 rfl fun c₀ cs hu => ?_
  apply wpS_seq
  apply wpS_region
  simp [wpOpsS, go_sem, recoverD, hu, Tryd.ntmps60, Exit.thenS]
  refine wpS_cond (t := true) (by simp [Act.eval, Array.replicate]) ?_
  simp only [if_true]
  apply wpS_region
  simp [wpOpsS, go_sem, hp, fp, hq, fq, bodyPostS, results, Tryd.results60]

theorem catch_idle {w : World} {p q : Addr} :
    CallsD Tryd.prog 60 #[.pointer (some p), .pointer (some q)] .returning w fun e u' w' => e = .returned (.tuple #[]) ∧ u' = .returning ∧ w' = w := by
  refine callsD_of_wpS Tryd.func60 rfl fun c₀ cs hu => ?_
  apply wpS_seq
  apply wpS_region
  simp [wpOpsS, go_sem, recoverD, hu, Tryd.ntmps60, Exit.thenS]
  refine wpS_cond (t := false) (by simp [Act.eval, Array.replicate]) ?_
  simp only [Bool.false_eq_true, if_false]
  refine wpS_of_wp (wp_skip ?_)
  cases c₀
  simp_all [bodyPostS, results, Tryd.results60]

theorem results_cells2 {fn : Func} {p q : Tmp} {tp tq : TypeId} (h : fn.results = #[.cell p tp, .cell q tq]) (tmps : Array Value) (P : Program) (w : World) :
    (results fn tmps).run P w = ((asAddr (tmps.getD p undef)).run P w).andThen fun a w₁ => ((loadVar tp a).run P w₁).andThen fun v w₂ => ((asAddr (tmps.getD q undef)).run P w₂).andThen fun a' w₃ => ((loadVar tq a').run P w₃).andThen fun v' w₄ => .ok (.tuple #[v, v']) w₄ := by
  simp only [results, h]
  simp [Sem.run_bind, Result.andThen]

/-- The boxes of the two results. -/
def RBx (w : World) (b : Nat) (v : Value) : Prop := w.heap[b]? = some (.cells #[v] 23) ∧ w.heap[b + 1]? = some (.cells #[.bool false] 4)

theorem RBx.below {w w' : World} {b : Nat} {v : Value} (h : RBx w b v) (hb : Below w.heap.size w w') : RBx w' b v :=
  ⟨(hb.block _ (Array.getElem?_eq_some_iff.1 h.1).1).trans h.1, (hb.block _ (Array.getElem?_eq_some_iff.1 h.2).1).trans h.2⟩

theorem RBx.grown {w w' : World} {b c : Nat} {v : Value} (h : RBx w b v) (hg : w.grownBy w' (some c)) (h0 : b ≠ c) (h1 : b + 1 ≠ c) : RBx w' b v :=
  ⟨(hg.block _ (Array.getElem?_eq_some_iff.1 h.1).1 (fun e => h0 (Option.some.inj e))).trans h.1, (hg.block _ (Array.getElem?_eq_some_iff.1 h.2).1 (fun e => h1 (Option.some.inj e))).trans h.2⟩

theorem RBx.facts {w : World} {b : Nat} {v : Value} (h : RBx w b v) : w.cell? ⟨b, 0, none⟩ = some v ∧ w.frozen? ⟨b, 0, none⟩ = false ∧ b < w.heap.size ∧ w.cell? ⟨b + 1, 0, none⟩ = some (.bool false) ∧ w.frozen? ⟨b + 1, 0, none⟩ = false ∧ b + 1 < w.heap.size :=
  ⟨cell_of_row _ _ 0 _ _ _ h.1, by simp [World.frozen?, h.1], (Array.getElem?_eq_some_iff.1 h.1).1, cell_of_row _ _ 0 _ _ _ h.2, by simp [World.frozen?, h.2], (Array.getElem?_eq_some_iff.1 h.2).1⟩

theorem RBx.set {w : World} {b : Nat} {v : Value} (h : RBx w b v) (x : Value) : RBx (w.setCell ⟨b, 0, none⟩ x) b x := by
  refine ⟨?_, ?_⟩
  · simp [World.setCell, Array.getElem?_modify, h.1]
  · simp [World.setCell, Array.getElem?_modify, h.2]

theorem RBx.two {w : World} {b : Nat} {v : Value} (h : RBx w b v) (x : Value) (y : Bool) : ((w.setCell ⟨b, 0, none⟩ x).setCell ⟨b + 1, 0, none⟩ (.bool y)).cell? ⟨b, 0, none⟩ = some x ∧ ((w.setCell ⟨b, 0, none⟩ x).setCell ⟨b + 1, 0, none⟩ (.bool y)).cell? ⟨b + 1, 0, none⟩ = some (.bool y) := by
  have h1 := (h.set x).1
  have h2 := (h.set x).2
  refine ⟨cell_of_row _ _ 0 #[x] 23 (0, 0) ?_, cell_of_row _ _ 0 #[.bool y] 4 (0, 0) ?_⟩
  · have : ((w.setCell ⟨b, 0, none⟩ x).setCell ⟨b + 1, 0, none⟩ (.bool y)).heap[b]? = (w.setCell ⟨b, 0, none⟩ x).heap[b]? := (setCell_grown _ (b + 1) 0 _).block b (Array.getElem?_eq_some_iff.1 h1).1 (fun e => by have := Option.some.inj e; omega)
    rw [this]; exact h1
  · generalize w.setCell ⟨b, 0, none⟩ x = u at *
    simp [World.setCell, Array.getElem?_modify, h2]

theorem rws_ne {w : World} {b B : Nat} {t : ByteArray} {v : Value} {l : List Rw} (hp : PgR w b t) (h : Rws w B v l) : v.ownBlock = none ∨ v.ownBlock ≠ some b := by
  rcases h.2 with ⟨rfl, _⟩ | ⟨g, cap, cur, rfl, _, hg, _⟩
  · exact .inl rfl
  · refine .inr fun c => ?_
    have e : g = b := Option.some.inj c
    subst e
    unfold PgR at hp
    rw [hg] at hp
    injection hp with q1
    injection q1 with _ q2 _
    exact absurd q2 (by decide)

theorem rbx_ne {w : World} {b B : Nat} {v v' : Value} {l : List Rw} (hp : RBx w b v') (h : Rws w B v l) : v.ownBlock = none ∨ v.ownBlock ≠ some b := by
  rcases h.2 with ⟨rfl, _⟩ | ⟨g, cap, cur, rfl, _, hg, _⟩
  · exact .inl rfl
  · refine .inr fun c => ?_
    have e : g = b := Option.some.inj c
    subst e
    have hp1 := hp.1
    rw [hg] at hp1
    injection hp1 with q1
    injection q1 with _ q2 _
    exact absurd q2 (by decide)

theorem rbx_ne1 {w : World} {b B : Nat} {v v' : Value} {l : List Rw} (hp : RBx w b v') (h : Rws w B v l) : v.ownBlock = none ∨ v.ownBlock ≠ some (b + 1) := by
  rcases h.2 with ⟨rfl, _⟩ | ⟨g, cap, cur, rfl, _, hg, _⟩
  · exact .inl rfl
  · refine .inr fun c => ?_
    have e : g = b + 1 := Option.some.inj c
    subst e
    have hp1 := hp.2
    rw [hg] at hp1
    injection hp1 with q1
    injection q1 with _ q2 _
    exact absurd q2 (by decide)

theorem ne_own {v : Value} {b : Nat} (h : v.ownBlock = none ∨ v.ownBlock ≠ some b) : some b ≠ v.ownBlock := by
  rcases h with h | h
  · rw [h]; exact fun e => by cases e
  · exact h.symm

theorem rbx_kept {w w' : World} {b B : Nat} {v v' : Value} {l : List Rw} (hp : RBx w b v') (h : Rws w B v l) (hg : w.grownBy w' v.ownBlock) : RBx w' b v' :=
  ⟨(hg.block _ (Array.getElem?_eq_some_iff.1 hp.1).1 (ne_own (rbx_ne hp h))).trans hp.1, (hg.block _ (Array.getElem?_eq_some_iff.1 hp.2).1 (ne_own (rbx_ne1 hp h))).trans hp.2⟩

theorem pgr_kept {w w' : World} {b B : Nat} {t : ByteArray} {v : Value} {l : List Rw} (hp : PgR w b t) (h : Rws w B v l) (hg : w.grownBy w' v.ownBlock) : PgR w' b t :=
  (hg.block _ hp.lt (ne_own (rws_ne hp h))).trans hp

theorem errg_kept {w w' : World} {B : Nat} {ty : TypeId} {pv v : Value} {l : List Rw} (hp : ErrG w ty pv) (h : Rws w B v l) (hg : w.grownBy w' v.ownBlock) (hB : 0 < B) : ErrG w' ty pv :=
  (World.cell?_of_block (a := ⟨0, 0, none⟩) (hg.block _ hp.lt (fun e => by have h2 : B ≤ 0 := (World.ownsRow.lt h _ e.symm).1; omega))).trans hp

def RoRel (W : World) (b4 : Nat) (s : ByteArray) (ty : TypeId) (pv : Value) (v6 v18 : Value) (wr : World) : Prop :=
  ∃ (k : Nat) (p t : ByteArray) (l : List Rw) (v : Value), k ≤ hd s 2 ∧ v18 = .int .i64 (k : Int) ∧ v6 = .string p ∧ p.size ≤ 510 ∧ t.size ≤ 300 ∧ PgR wr b4 t ∧ RBx wr W.heap.size v ∧ Rws wr W.heap.size v l ∧ l.length = k ∧
    (rdF (hd s 2 - k) p t).map (l ++ ·) = rdF (hd s 2) ⟨#[]⟩ (s.extract 3 s.size) ∧ ErrG wr ty pv ∧ Below W.heap.size W wr

set_option maxRecDepth 100000 in
set_option maxHeartbeats 4000000 in
theorem rowsOf_any (s : ByteArray) (w : World) (h3 : 3 ≤ s.size) (h300 : s.size ≤ 300) {ty : TypeId} {pv : Value} (hg : ErrG w ty pv) :
    Calls Tryd.prog 33 #[.string s] w fun e w' => ∃ v, e = .returned (.tuple #[v, .bool (readL s).isSome]) ∧ Rws w' w.heap.size v ((readL s).getD []) ∧ Below w.heap.size w w' := by
  have hmf : ∀ (fn : Fn) (first cap : Array Value) (w : World), (Instr.makeFunc fn first cap).run Tryd.prog w = .ok (.func fn first cap) w := fun _ _ _ _ => rfl
  obtain ⟨W0, HW0⟩ : ∃ W0, Hid (W0 = (w.alloc (.cells #[.slice none 0 0] 23)).alloc (.cells #[.bool false] 4)) := ⟨_, rfl⟩
  have HB0 : Hid (Below w.heap.size w W0) := by rw [HW0.out]; exact ((Below.refl _ _).alloc (Nat.le_refl _) _).alloc (by simp) _
  have HX0 : Hid (RBx W0 w.heap.size (.slice none 0 0)) := by
    rw [HW0.out]
    refine ⟨?_, ?_⟩
    · rw [Below.heap_alloc _ _ _ (by simp)]; exact heap_alloc_new w _
    · have := heap_alloc_new (w.alloc (.cells #[.slice none 0 0] 23)) (.cells #[.bool false] 4)
      rw [World.size_alloc] at this
      exact this
  have CL := clone_str s W0 (by omega)
  have HG0 : Hid (ErrG W0 ty pv) := (HB0.out.cell (p := ⟨0, 0, none⟩) hg.lt).trans hg
  have hgl := hg.lt
  go_enter_defers Tryd.func33, Tryd.ntmps33
  go_wp2_with fail
  rw [← HW0.out]
  refine CL.mono ?_
  rintro e w1 ⟨rfl, b1⟩
  clear CL HW0
  have B1 := HB0.out.trans (b1.mono HB0.out.size)
  have X2 := (HX0.out.below b1).below ((Below.refl w1.heap.size w1).alloc (Nat.le_refl _) (.cells #[.string s] 91))
  have G2 : ErrG (w1.alloc (.cells #[.string s] 91)) ty pv := ErrG.alloc ((b1.cell (p := ⟨0, 0, none⟩) HG0.out.lt).trans HG0.out) _
  have P2 : PgR (w1.alloc (.cells #[.string s] 91)) w1.heap.size s := heap_alloc_new w1 _
  have B2 := B1.alloc B1.size (.cells #[.string s] 91)
  have hl1 := (HX0.out.below b1).facts
  have T3 : Calls Tryd.prog 62 #[.pointer (some ⟨w1.heap.size, 0, none⟩), .int .i64 3] _ _ := take_okG (n := 3) P2 h3
  have HX2 : Hid (RBx _ _ _) := X2
  have HG2 : Hid (ErrG _ _ _) := G2
  have HB2 : Hid (Below _ _ _) := B2
  obtain ⟨_, _, hlA, _, _, hlB⟩ := hl1
  clear X2 G2 P2 B2 B1 b1 HX0 HB0 HG0
  go_wp2_with fail
  refine T3.mono ?_
  rintro e w3 ⟨rfl, P3, g3⟩
  have hne4 : w.heap.size ≠ w1.heap.size ∧ w.heap.size + 1 ≠ w1.heap.size := by omega
  have X3 : RBx w3 w.heap.size (.slice none 0 0) := HX2.out.grown g3 hne4.1 hne4.2
  have G3 : ErrG w3 ty pv := HG2.out.grown g3 (by omega)
  have B3 : Below w.heap.size w w3 := Below.grown HB2.out g3 HB2.out.size (fun j hj => by cases hj; omega)
  have x2 : ∀ u : World, (Instr.index 9 (.string (s.extract 0 3)) (.int .i64 2)).run Tryd.prog u = .ok (.int .u8 (hd s 2 : Int)) u := fun u => by
    have h := index_str (s.extract 0 3) 2 (by rw [ext_size s h3]; omega) u
    rw [bAt_ext s h3 (by omega)] at h
    exact h
  have l2 := hd_lt s 2
  have v2 : IntKind.i64.wrap (hd s 2 : Int) = (hd s 2 : Int) := by rw [IntKind.wrap_i64]; omega
  have z3 : (s.extract 3 s.size).size ≤ 300 := by rw [ext_sz]; omega
  have HS0 : Hid (RoRel w w1.heap.size s ty pv (.string ⟨#[]⟩) (.int .i64 0) w3) := ⟨0, ⟨#[]⟩, s.extract 3 s.size, [], .slice none 0 0, Nat.zero_le _, rfl, rfl, Nat.zero_le _, z3, P3, X3, World.ownsRow_nil _ _ _ _, rfl, by rw [Nat.sub_zero]; cases rdF (hd s 2) ⟨#[]⟩ (s.extract 3 s.size) <;> rfl, G3, B3⟩
  have HNO : Hid (rdF (hd s 2) ⟨#[]⟩ (s.extract 3 s.size) = none → (readL s).isSome = false ∧ (readL s).getD [] = []) := fun h => by
    have e : readL s = none := by unfold readL; rw [h]
    rw [e]; exact ⟨rfl, rfl⟩
  have HYES : Hid (∀ l, rdF (hd s 2) ⟨#[]⟩ (s.extract 3 s.size) = some l → (pbT l = s → (readL s).isSome = true ∧ (readL s).getD [] = l) ∧ (¬ pbT l = s → (readL s).isSome = false ∧ (readL s).getD [] = [])) := fun l h => by
    have hp := pbT_is (l := l) h3 h300
    have e : readL s = if isPage s l then some l else none := by unfold readL; rw [h]
    refine ⟨fun hq => ?_, fun hq => ?_⟩
    · rw [decide_eq_true hq] at hp
      rw [e, ← hp]; exact ⟨rfl, rfl⟩
    · rw [decide_eq_false hq] at hp
      rw [e, ← hp]; exact ⟨rfl, rfl⟩
  obtain ⟨i0, hi0, hz0, hs0, hy0⟩ := info_parts info_rwS
  clear T3 P3 g3 X3 G3 B3 HX2 HG2 HB2 hne4 z3
  go_wp2
  go_loopw [6, 18] (fun v6 v18 wr => RoRel w w1.heap.size s ty pv v6 v18 wr) (fun _ i _ => hd s 2 - (intOf i).toNat)
  case atStart => exact HS0.out
  case round =>
    clear HS0
    obtain ⟨k, p, t, l, v, hk, rfl, rfl, hp, ht, hP, hX, hR, hl, hF, hG, hB⟩ := hrel
    have HLN : Hid (l.length = k) := hl
    have hl9 : l.length ≤ 255 := by omega
    have HF : Hid _ := hF
    have HX : Hid (RBx _ _ _) := hX
    have HR : Hid (Rws _ _ _ _) := hR
    have HP : Hid (PgR _ _ _) := hP
    have HG : Hid (ErrG _ _ _) := hG
    have HB : Hid (Below _ _ _) := hB
    obtain ⟨ra, rc, rfl⟩ := rw_form hR
    clear hl hF hX hR hP hG hB
    by_cases hlt : k < hd s 2
    · have hk8 : (k : Int) < (hd s 2 : Int) := by omega
      have hsub : hd s 2 - k = (hd s 2 - (k + 1)) + 1 := by omega
      cases hok : okRow p t
      · have TN := takeRow_no HG.out (by omega) HP.out hok (by omega) (by omega)
        have hno := HNO.out (by rw [← HF.out, hsub, rdF, hok]; rfl)
        have HNN : Hid _ := hno
        clear HNO HYES HF hno hok
        go_wp2_with fail
        refine TN.mono ?_
        rintro e w5 ⟨rfl, g5⟩
        have X5 := HX.out.grown g5 (by omega) (by omega)
        have B5 : Below w.heap.size w w5 := Below.grown HB.out g5 HB.out.size (fun j hj => by cases hj; omega)
        obtain ⟨c0, f0, m0, c1, f1, m1⟩ := X5.facts
        have HS5 : Hid (Below w.heap.size w ((w5.setCell ⟨w.heap.size, 0, none⟩ (.slice none 0 0)).setCell ⟨w.heap.size + 1, 0, none⟩ (.bool false))) := (B5.setCell (p := ⟨w.heap.size, 0, none⟩) (Nat.le_refl _) _).setCell (p := ⟨w.heap.size + 1, 0, none⟩) (by show w.heap.size ≤ w.heap.size + 1; omega) _
        change bodyPostD Tryd.prog Tryd.f33 _ (Exit.panic _) _ w5
        refine leaves_cons (f := 60) (args := #[.pointer (some ⟨w.heap.size, 0, none⟩), .pointer (some ⟨w.heap.size + 1, 0, none⟩)]) (by simp) (by simp [go_sem]) ?_
        obtain ⟨_, _, _, c2, f2, _⟩ := (X5.set (.slice none 0 0)).facts
        refine (catch_pan c0 f0 c2 f2).mono ?_
        rintro e u' w'' ⟨rfl, rfl, rfl⟩
        obtain ⟨d0, d1⟩ := X5.two (.slice none 0 0) false
        refine ⟨.tuple #[.slice none 0 0, .bool false], ?_, _, by rw [HNN.out.1], by rw [HNN.out.2]; exact World.ownsRow_nil _ _ _ _, HS5.out⟩
        rw [results_cells2 rfl]
        go_simp
      · have TR := takeRow_ok HP.out hok (by omega) (by omega)
        have hsz := rowOf_sizes hok
        have hrz := restOf_size hok
        have q0 := hd_lt t 0
        have q1 := hd_lt t 1
        have HFN : Hid ((rdF (hd s 2 - (k + 1)) (rowOf p t).key (restOf t)).map ((l ++ [rowOf p t]) ++ ·) = rdF (hd s 2) ⟨#[]⟩ (s.extract 3 s.size)) := by
          show _ = _
          rw [← HF.out, hsub, rdF, hok, if_pos rfl]
          cases rdF (hd s 2 - (k + 1)) (rowOf p t).key (restOf t) <;> simp
        have hkz : (rowOf p t).key.size ≤ 510 := by rw [hsz.1]; omega
        have htz : (restOf t).size ≤ 300 := by omega
        generalize rowOf p t = x at *
        generalize restOf t = tz at *
        unfold rwV at TR
        have HKZ : Hid _ := hkz
        clear HNO HYES HF hok hsz hrz q0 q1 hkz
        go_wp2_with fail
        refine TR.mono ?_
        rintro e w5 ⟨rfl, P5, g5⟩
        have X5 := HX.out.grown g5 (by omega) (by omega)
        have R5 : Rws w5 w.heap.size (.slice ra l.length rc) l := World.ownsRow.kept HR.out g5 (rws_ne HP.out HR.out)
        have G5 := HG.out.grown g5 (by omega)
        have B5 : Below w.heap.size w w5 := Below.grown HB.out g5 HB.out.size (fun j hj => by cases hj; omega)
        have hs5 := B5.size
        have hP5 := P5.lt
        clear TR g5 HX HR HP HG HB
        obtain ⟨W7, HW7⟩ : ∃ W7, Hid (W7 = (w5.alloc (.cells #[.string x.key, .string x.text, .string x.val] 32)).alloc (.cells #[.string x.key, .string x.text, .string x.val] 32)) := ⟨_, rfl⟩
        have b57 : Below w5.heap.size w5 W7 := by rw [HW7.out]; exact ((Below.refl _ _).alloc (Nat.le_refl _) _).alloc (by simp) _
        have hs7 : W7.heap.size = w5.heap.size + 2 := by rw [HW7.out]; simp
        have box7 : BoxR6 W7 w5.heap.size x := by rw [HW7.out]; exact (box_new6 w5 x).alloc _
        have HN7 : Hid (∀ j u, [Value.string x.key, .string x.text, .string x.val][j]? = some u → W7.cell? ((⟨w5.heap.size + 1, 0, none⟩ : Addr).add j) = some u) := by rw [HW7.out]; exact cells3_at _ _ _ _ _ _ (by simp)
        have X7 := X5.below b57
        have R7 : W7.ownsRow w.heap.size 32 3 (.slice ra l.length rc) l.length (rwAll l) := R5.below b57
        have P7 := P5.below b57
        have G7 : ErrG W7 ty pv := (b57.cell (p := ⟨0, 0, none⟩) G5.lt).trans G5
        have B7 : Below w.heap.size w W7 := B5.trans (b57.mono hs5)
        obtain ⟨c0, f0, m0, c1, f1, m1⟩ := X5.facts
        have HX7 : Hid (RBx _ _ _) := X7
        have HR7 : Hid (World.ownsRow _ _ _ _ _ _ _) := R7
        have HP7 : Hid (PgR _ _ _) := P7
        have HG7 : Hid (ErrG _ _ _) := G7
        have HB7 : Hid (Below _ _ _) := B7
        have HBX : Hid (BoxR6 _ _ _) := box7
        have HRB : Hid (∀ j, (Value.slice ra l.length rc).ownBlock = some j → j < w5.heap.size) := fun j hj => (World.ownsRow.lt R5 j hj).2
        have h1a : ∀ u : World, u = (w5.alloc (.cells #[.string x.key, .string x.text, .string x.val] 32)).alloc (.cells #[.string x.key, .string x.text, .string x.val] 32) → u.ownsRow w.heap.size 32 3 (.slice ra l.length rc) l.length (rwAll l) := fun u hu => by rw [hu, ← HW7.out]; exact HR7.out
        have h1b : ∀ u : World, u = (w5.alloc (.cells #[.string x.key, .string x.text, .string x.val] 32)).alloc (.cells #[.string x.key, .string x.text, .string x.val] 32) → ∀ j q, [Value.string x.key, .string x.text, .string x.val][j]? = some q → u.cell? ((⟨w5.heap.size + 1, 0, none⟩ : Addr).add j) = some q := fun u hu => by rw [hu, ← HW7.out]; exact HN7.out
        clear P5 G5 B5 R5 X5 X7 R7 P7 G7 B7 box7 HN7 b57
        go_wp2_with (at_builtin; refine wpList_append_lies _ rfl _ _ 23 rfl w.heap.size 32 i0 _ 3 48 Tryd.underlying23 hi0 hz0 hs0 hy0 rfl (by decide) _ _ _ rfl (h1a _ rfl) ⟨w5.heap.size + 1, 0, none⟩ 1 1 [.string x.key, .string x.text, .string x.val] rfl rfl (h1b _ rfl) (fun z hz => by simp at hz; rcases hz with rfl | rfl | rfl <;> rfl) (by omega) (by unfold maxLen; omega) (by omega) (by simp; omega) (w5.heap.size + 2) (by simp) ?_)
        intro g8 cap8 w8 ho8 hg8 hgg8 hlt8
        rw [← HW7.out] at hg8
        have X8 := rbx_kept HX7.out HR7.out hg8
        have P8 := pgr_kept HP7.out HR7.out hg8
        have G8 := errg_kept HG7.out HR7.out hg8 hgl
        have bx8 : BoxR6 w8 w5.heap.size x := (hg8.block _ HBX.out.lt (fun e => by have := HRB.out _ e.symm; omega)).trans HBX.out
        have B8 : Below w.heap.size w w8 := Below.grown HB7.out hg8 HB7.out.size (fun j hj => (World.ownsRow.lt HR7.out j hj).1)
        obtain ⟨k0, n0, o0, k1, n1, o1⟩ := X8.facts
        have y0 := bx8.cells.1
        have y0l := bx8.lt
        have R8 : Rws w8 w.heap.size (.slice (some ⟨g8, 0, none⟩) (l.length + 1) cap8) (l ++ [x]) := rw_snoc ho8
        have X9 := X8.set (.slice (some ⟨g8, 0, none⟩) (l.length + 1) cap8)
        have P9 : PgR (w8.setCell ⟨w.heap.size, 0, none⟩ (.slice (some ⟨g8, 0, none⟩) (l.length + 1) cap8)) w1.heap.size tz := ((setCell_grown w8 w.heap.size 0 _).block _ P8.lt (fun e => by have := Option.some.inj e; omega)).trans P8
        have G9 : ErrG (w8.setCell ⟨w.heap.size, 0, none⟩ (.slice (some ⟨g8, 0, none⟩) (l.length + 1) cap8)) ty pv := G8.grown (setCell_grown w8 w.heap.size 0 _) hgl
        have R9 : Rws (w8.setCell ⟨w.heap.size, 0, none⟩ (.slice (some ⟨g8, 0, none⟩) (l.length + 1) cap8)) w.heap.size (.slice (some ⟨g8, 0, none⟩) (l.length + 1) cap8) (l ++ [x]) := World.ownsRow.kept R8 (setCell_grown w8 w.heap.size 0 _) (rbx_ne X8 R8)
        have B9 := B8.setCell (p := ⟨w.heap.size, 0, none⟩) (Nat.le_refl _) (.slice (some ⟨g8, 0, none⟩) (l.length + 1) cap8)
        have HZ : Hid (PgR _ _ _ ∧ RBx _ _ _ ∧ Rws _ _ _ _ ∧ ErrG _ _ _ ∧ Below _ _ _) := ⟨P9, X9, R9, G9, B9⟩
        have hne5 : w.heap.size ≠ w5.heap.size := by omega
        clear ho8 hg8 hgg8 X8 P8 G8 bx8 B8 R8 X9 P9 G9 R9 B9 HX7 HR7 HP7 HG7 HB7 HBX HRB h1a h1b HW7 hs7
        go_wp2
        obtain ⟨e1, e2, e3, e4, e5⟩ := HZ.out
        exact ⟨⟨k + 1, x.key, tz, l ++ [x], _, hlt, by go_num, rfl, HKZ.out, htz, e1, e2, e3, by rw [List.length_append, HLN.out]; rfl, HFN.out, e4, e5⟩, by simp [intOf]; omega⟩
    · have hkz : k = hd s 2 := by omega
      have hsome : rdF (hd s 2) ⟨#[]⟩ (s.extract 3 s.size) = some l := by rw [← HF.out, hkz, Nat.sub_self]; simp [rdF]
      obtain ⟨hyes, hnop⟩ := HYES.out l hsome
      have nk : ¬ (k : Int) < (hd s 2 : Int) := by omega
      have PB := implPB_any (cap := rc) (rws_sl HR.out) (by omega)
      obtain ⟨c0, f0, m0, _⟩ := HX.out.facts
      clear hsome HNO HYES HF hkz HP HG
      by_cases hpg : pbT l = s
      · have HNN : Hid _ := hyes hpg
        rw [hpg] at PB
        clear hyes hnop hpg
        go_wp2_with fail
        refine PB.mono ?_
        rintro e w6 ⟨rfl, b6⟩
        have X6 := HX.out.below b6
        have R6 := HR.out.below b6
        have B6 : Below w.heap.size w w6 := HB.out.trans (b6.mono HB.out.size)
        obtain ⟨k0, n0, o0, k1, n1, o1⟩ := X6.facts
        have HX6 : Hid (RBx _ _ _) := X6
        have HR6 : Hid (Rws _ _ _ _) := R6
        have HB6 : Hid (Below _ _ _) := B6
        clear PB b6 X6 R6 B6 HX HR HB c0 f0 m0
        go_wp2
        change bodyPostD Tryd.prog Tryd.f33 _ Exit.ret _ _
        refine leaves_cons (f := 60) (args := #[.pointer (some ⟨w.heap.size, 0, none⟩), .pointer (some ⟨w.heap.size + 1, 0, none⟩)]) (by simp) (by simp [go_sem]) ?_
        refine catch_idle.mono ?_
        rintro e u' w'' ⟨rfl, rfl, rfl⟩
        obtain ⟨d0, d1⟩ := HX6.out.two (.slice ra l.length rc) true
        have R9 := World.ownsRow.kept (World.ownsRow.kept HR6.out (setCell_grown w6 w.heap.size 0 (.slice ra l.length rc)) (rbx_ne HX6.out HR6.out)) (setCell_grown _ (w.heap.size + 1) 0 (.bool true)) (rbx_ne1 HX6.out HR6.out)
        have B9 := (HB6.out.setCell (p := ⟨w.heap.size, 0, none⟩) (Nat.le_refl _) (.slice ra l.length rc)).setCell (p := ⟨w.heap.size + 1, 0, none⟩) (by show w.heap.size ≤ w.heap.size + 1; omega) (.bool true)
        refine ⟨.tuple #[.slice ra l.length rc, .bool true], ?_, _, by rw [HNN.out.1], by rw [HNN.out.2]; exact R9, B9⟩
        rw [results_cells2 rfl]
        go_simp
      · have HNN : Hid _ := hnop hpg
        generalize pbT l = pq at *
        have hne := ne_list6 hpg
        clear hyes hnop hpg
        go_wp2_with fail
        refine PB.mono ?_
        rintro e w6 ⟨rfl, b6⟩
        have X6 := HX.out.below b6
        have B6 : Below w.heap.size w w6 := HB.out.trans (b6.mono HB.out.size)
        obtain ⟨k0, n0, o0, k1, n1, o1⟩ := X6.facts
        have HX6 : Hid (RBx _ _ _) := X6
        have HB6 : Hid (Below _ _ _) := B6
        clear PB b6 X6 B6 HX HR HB c0 f0 m0
        go_wp2
        change bodyPostD Tryd.prog Tryd.f33 _ Exit.ret _ _
        refine leaves_cons (f := 60) (args := #[.pointer (some ⟨w.heap.size, 0, none⟩), .pointer (some ⟨w.heap.size + 1, 0, none⟩)]) (by simp) (by simp [go_sem]) ?_
        refine catch_idle.mono ?_
        rintro e u' w'' ⟨rfl, rfl, rfl⟩
        obtain ⟨d0, d1⟩ := HX6.out.two (.slice none 0 0) false
        have B9 := (HB6.out.setCell (p := ⟨w.heap.size, 0, none⟩) (Nat.le_refl _) (.slice none 0 0)).setCell (p := ⟨w.heap.size + 1, 0, none⟩) (by show w.heap.size ≤ w.heap.size + 1; omega) (.bool false)
        refine ⟨.tuple #[.slice none 0 0, .bool false], ?_, _, by rw [HNN.out.1], by rw [HNN.out.2]; exact World.ownsRow_nil _ _ _ _, B9⟩
        rw [results_cells2 rfl]
        go_simp
end Go.Proofs.YticogafoopkflaaDoor
