/- Texts of mine laid together: RowKinds, IRows6, IReadP, IBook6, IFor6, IPlace6. -/
import Derived.Test.YtbgomhgohphglaaDoorInts
import Derived.Test.YtbgomhgohphglaaDoorMP2
import Derived.Test.YtbgomhgohphglaaDoorIPage6
import Derived.Test.YtbgomhgohphglaaDoorIClone
import Derived.Defers
import Derived.Recover
import Derived.Laws.Pointers
import Derived.Test.YtbgomhgohphglaaDoorPBook6
import Derived.Test.YtbgomhgohphglaaDoorNestK
import Derived.Test.YtbgomhgohphglaaDoorStrs
import Derived.Deep.AppendLies
import Derived.Test.YtbgomhgohphglaaDoorPFor6
import Derived.Test.YtbgomhgohphglaaDoorPPlace6
namespace Go.Proofs.YtbgomhgohphglaaDoor
open Go.RowKit

theorem own_type {u : World} {B B' e e' size size' n n' : Nat} {v v' : Value} {xs xs' : List Value} (h : u.ownsRow B e size v n xs) (h' : u.ownsRow B' e' size' v' n' xs') (he : e ≠ e') : v.ownBlock = none ∨ v.ownBlock ≠ v'.ownBlock := by
  rcases h.2 with ⟨rfl, _⟩ | ⟨g, cap, cur, rfl, _, hg, _⟩
  · exact .inl rfl
  · refine .inr fun c => ?_
    rcases h'.2 with ⟨rfl, _⟩ | ⟨g', cap', cur', rfl, _, hg', _⟩
    · cases c
    · have : g = g' := Option.some.inj c
      subst this
      rw [hg] at hg'
      injection hg' with e1
      injection e1 with _ e2 _
      exact he e2

end Go.Proofs.YtbgomhgohphglaaDoor

namespace Go.Proofs.YtbgomhgohphglaaDoor
open Go.RowKit

theorem catch_pan {w : World} {p q : Addr} {x y : Value} {ty : TypeId} {pv : Value} {older : List PanicEntry} (hp : w.cell? p = some x) (fp : w.frozen? p = false) (hq : (w.setCell p (.slice none 0 0)).cell? q = some y) (fq : (w.setCell p (.slice none 0 0)).frozen? q = false) :
    CallsD Tryd.prog 60 #[.pointer (some p), .pointer (some q)] (.panicking ({ v := .iface ty pv, recovered := false } :: older)) w fun e u' w' =>
      e = .returned (.tuple #[]) ∧ u' = .panicking ({ v := .iface ty pv, recovered := true } :: older) ∧ w' = (w.setCell p (.slice none 0 0)).setCell q (.bool false) := by
  refine callsD_of_wpS Tryd.func60 rfl fun c₀ cs hu => ?_
  apply wpS_seq
  apply wpS_region
  simp [wpOpsS, go_sem, recoverD, hu, Tryd.ntmps60, Exit.thenS]
  refine wpS_cond (t := true) (by simp [Act.eval, Array.replicate]) ?_
  simp only [if_true]
  apply wpS_region
  simp [wpOpsS, go_sem, hp, fp, hq, fq, bodyPostS, results, Tryd.results60]

theorem catch_idle {w : World} {p q : Addr} :
    CallsD Tryd.prog 60 #[.pointer (some p), .pointer (some q)] .returning w fun e u' w' => e = .returned (.tuple #[]) ∧ u' = .returning ∧ w' = w := by
  refine callsD_of_wpS Tryd.func60 rfl fun c₀ cs hu => ?_
  apply wpS_seq
  apply wpS_region
  simp [wpOpsS, go_sem, recoverD, hu, Tryd.ntmps60, Exit.thenS]
  refine wpS_cond (t := false) (by simp [Act.eval, Array.replicate]) ?_
  simp only [Bool.false_eq_true, if_false]
  refine wpS_of_wp (wp_skip ?_)
  cases c₀
  simp_all [bodyPostS, results, Tryd.results60]

theorem results_cells2 {fn : Func} {p q : Tmp} {tp tq : TypeId} (h : fn.results = #[.cell p tp, .cell q tq]) (tmps : Array Value) (P : Program) (w : World) :
    (results fn tmps).run P w = ((asAddr (tmps.getD p undef)).run P w).andThen fun a w₁ => ((loadVar tp a).run P w₁).andThen fun v w₂ => ((asAddr (tmps.getD q undef)).run P w₂).andThen fun a' w₃ => ((loadVar tq a').run P w₃).andThen fun v' w₄ => .ok (.tuple #[v, v']) w₄ := by
  simp only [results, h]
  simp [Sem.run_bind, Result.andThen]

/-- The boxes of the two results. -/
def RBx (w : World) (b : Nat) (v : Value) : Prop := w.heap[b]? = some (.cells #[v] 23) ∧ w.heap[b + 1]? = some (.cells #[.bool false] 4)

theorem RBx.below {w w' : World} {b : Nat} {v : Value} (h : RBx w b v) (hb : Below w.heap.size w w') : RBx w' b v :=
  ⟨(hb.block _ (Array.getElem?_eq_some_iff.1 h.1).1).trans h.1, (hb.block _ (Array.getElem?_eq_some_iff.1 h.2).1).trans h.2⟩

theorem RBx.grown {w w' : World} {b c : Nat} {v : Value} (h : RBx w b v) (hg : w.grownBy w' (some c)) (h0 : b ≠ c) (h1 : b + 1 ≠ c) : RBx w' b v :=
  ⟨(hg.block _ (Array.getElem?_eq_some_iff.1 h.1).1 (fun e => h0 (Option.some.inj e))).trans h.1, (hg.block _ (Array.getElem?_eq_some_iff.1 h.2).1 (fun e => h1 (Option.some.inj e))).trans h.2⟩

theorem RBx.facts {w : World} {b : Nat} {v : Value} (h : RBx w b v) : w.cell? ⟨b, 0, none⟩ = some v ∧ w.frozen? ⟨b, 0, none⟩ = false ∧ b < w.heap.size ∧ w.cell? ⟨b + 1, 0, none⟩ = some (.bool false) ∧ w.frozen? ⟨b + 1, 0, none⟩ = false ∧ b + 1 < w.heap.size :=
  ⟨cell_of_row _ _ 0 _ _ _ h.1, by simp [World.frozen?, h.1], (Array.getElem?_eq_some_iff.1 h.1).1, cell_of_row _ _ 0 _ _ _ h.2, by simp [World.frozen?, h.2], (Array.getElem?_eq_some_iff.1 h.2).1⟩

theorem RBx.set {w : World} {b : Nat} {v : Value} (h : RBx w b v) (x : Value) : RBx (w.setCell ⟨b, 0, none⟩ x) b x := by
  refine ⟨?_, ?_⟩
  · simp [World.setCell, Array.getElem?_modify, h.1]
  · simp [World.setCell, Array.getElem?_modify, h.2]

theorem RBx.two {w : World} {b : Nat} {v : Value} (h : RBx w b v) (x : Value) (y : Bool) : ((w.setCell ⟨b, 0, none⟩ x).setCell ⟨b + 1, 0, none⟩ (.bool y)).cell? ⟨b, 0, none⟩ = some x ∧ ((w.setCell ⟨b, 0, none⟩ x).setCell ⟨b + 1, 0, none⟩ (.bool y)).cell? ⟨b + 1, 0, none⟩ = some (.bool y) := by
  have h1 := (h.set x).1
  have h2 := (h.set x).2
  refine ⟨cell_of_row _ _ 0 #[x] 23 (0, 0) ?_, cell_of_row _ _ 0 #[.bool y] 4 (0, 0) ?_⟩
  · have : ((w.setCell ⟨b, 0, none⟩ x).setCell ⟨b + 1, 0, none⟩ (.bool y)).heap[b]? = (w.setCell ⟨b, 0, none⟩ x).heap[b]? := (setCell_grown _ (b + 1) 0 _).block b (Array.getElem?_eq_some_iff.1 h1).1 (fun e => by have := Option.some.inj e; omega)
    rw [this]; exact h1
  · generalize w.setCell ⟨b, 0, none⟩ x = u at *
    simp [World.setCell, Array.getElem?_modify, h2]

theorem rws_ne {w : World} {b B : Nat} {t : ByteArray} {v : Value} {l : List Rw} (hp : PgR w b t) (h : Rws w B v l) : v.ownBlock = none ∨ v.ownBlock ≠ some b := by
  rcases h.2 with ⟨rfl, _⟩ | ⟨g, cap, cur, rfl, _, hg, _⟩
  · exact .inl rfl
  · refine .inr fun c => ?_
    have e : g = b := Option.some.inj c
    subst e
    unfold PgR at hp
    rw [hg] at hp
    injection hp with q1
    injection q1 with _ q2 _
    exact absurd q2 (by decide)

theorem rbx_ne {w : World} {b B : Nat} {v v' : Value} {l : List Rw} (hp : RBx w b v') (h : Rws w B v l) : v.ownBlock = none ∨ v.ownBlock ≠ some b := by
  rcases h.2 with ⟨rfl, _⟩ | ⟨g, cap, cur, rfl, _, hg, _⟩
  · exact .inl rfl
  · refine .inr fun c => ?_
    have e : g = b := Option.some.inj c
    subst e
    have hp1 := hp.1
    rw [hg] at hp1
    injection hp1 with q1
    injection q1 with _ q2 _
    exact absurd q2 (by decide)

theorem rbx_ne1 {w : World} {b B : Nat} {v v' : Value} {l : List Rw} (hp : RBx w b v') (h : Rws w B v l) : v.ownBlock = none ∨ v.ownBlock ≠ some (b + 1) := by
  rcases h.2 with ⟨rfl, _⟩ | ⟨g, cap, cur, rfl, _, hg, _⟩
  · exact .inl rfl
  · refine .inr fun c => ?_
    have e : g = b + 1 := Option.some.inj c
    subst e
    have hp1 := hp.2
    rw [hg] at hp1
    injection hp1 with q1
    injection q1 with _ q2 _
    exact absurd q2 (by decide)

theorem ne_own {v : Value} {b : Nat} (h : v.ownBlock = none ∨ v.ownBlock ≠ some b) : some b ≠ v.ownBlock := by
  rcases h with h | h
  · rw [h]; exact fun e => by cases e
  · exact h.symm

theorem rbx_kept {w w' : World} {b B : Nat} {v v' : Value} {l : List Rw} (hp : RBx w b v') (h : Rws w B v l) (hg : w.grownBy w' v.ownBlock) : RBx w' b v' :=
  ⟨(hg.block _ (Array.getElem?_eq_some_iff.1 hp.1).1 (ne_own (rbx_ne hp h))).trans hp.1, (hg.block _ (Array.getElem?_eq_some_iff.1 hp.2).1 (ne_own (rbx_ne1 hp h))).trans hp.2⟩

theorem pgr_kept {w w' : World} {b B : Nat} {t : ByteArray} {v : Value} {l : List Rw} (hp : PgR w b t) (h : Rws w B v l) (hg : w.grownBy w' v.ownBlock) : PgR w' b t :=
  (hg.block _ hp.lt (ne_own (rws_ne hp h))).trans hp

theorem errg_kept {w w' : World} {B : Nat} {ty : TypeId} {pv v : Value} {l : List Rw} (hp : ErrG w ty pv) (h : Rws w B v l) (hg : w.grownBy w' v.ownBlock) (hB : 0 < B) : ErrG w' ty pv :=
  (World.cell?_of_block (a := ⟨0, 0, none⟩) (hg.block _ hp.lt (fun e => by have h2 : B ≤ 0 := (World.ownsRow.lt h _ e.symm).1; omega))).trans hp

def RoRel (W : World) (b4 : Nat) (s : ByteArray) (ty : TypeId) (pv : Value) (v6 v18 : Value) (wr : World) : Prop :=
  ∃ (k : Nat) (p t : ByteArray) (l : List Rw) (v : Value), k ≤ hd s 2 ∧ v18 = .int .i64 (k : Int) ∧ v6 = .string p ∧ p.size ≤ 510 ∧ t.size ≤ 300 ∧ PgR wr b4 t ∧ RBx wr W.heap.size v ∧ Rws wr W.heap.size v l ∧ l.length = k ∧
    (rdF (hd s 2 - k) p t).map (l ++ ·) = rdF (hd s 2) ⟨#[]⟩ (s.extract 3 s.size) ∧ ErrG wr ty pv ∧ Below W.heap.size W wr

set_option maxRecDepth 100000 in
set_option maxHeartbeats 4000000 in
theorem rowsOf_any (s : ByteArray) (w : World) (h3 : 3 ≤ s.size) (h300 : s.size ≤ 300) {ty : TypeId} {pv : Value} (hg : ErrG w ty pv) :
    Calls Tryd.prog 33 #[.string s] w fun e w' => ∃ v, e = .returned (.tuple #[v, .bool (readL s).isSome]) ∧ Rws w' w.heap.size v ((readL s).getD []) ∧ Below w.heap.size w w' := by
  have hmf : ∀ (fn : Fn) (first cap : Array Value) (w : World), (Instr.makeFunc fn first cap).run Tryd.prog w = .ok (.func fn first cap) w := fun _ _ _ _ => rfl
  obtain ⟨W0, HW0⟩ : ∃ W0, Hid (W0 = (w.alloc (.cells #[.slice none 0 0] 23)).alloc (.cells #[.bool false] 4)) := ⟨_, rfl⟩
  have HB0 : Hid (Below w.heap.size w W0) := by rw [HW0.out]; exact ((Below.refl _ _).alloc (Nat.le_refl _) _).alloc (by simp) _
  have HX0 : Hid (RBx W0 w.heap.size (.slice none 0 0)) := by
    rw [HW0.out]
    refine ⟨?_, ?_⟩
    · rw [Below.heap_alloc _ _ _ (by simp)]; exact heap_alloc_new w _
    · have := heap_alloc_new (w.alloc (.cells #[.slice none 0 0] 23)) (.cells #[.bool false] 4)
      rw [World.size_alloc] at this
      exact this
  have CL := clone_str s W0 (by omega)
  have HG0 : Hid (ErrG W0 ty pv) := (HB0.out.cell (p := ⟨0, 0, none⟩) hg.lt).trans hg
  have hgl := hg.lt
  go_enter_defers Tryd.func33, Tryd.ntmps33
  go_wp2_with fail
  rw [← HW0.out]
  refine CL.mono ?_
  rintro e w1 ⟨rfl, b1⟩
  clear CL HW0
  have B1 := HB0.out.trans (b1.mono HB0.out.size)
  have X2 := (HX0.out.below b1).below ((Below.refl w1.heap.size w1).alloc (Nat.le_refl _) (.cells #[.string s] 91))
  have G2 : ErrG (w1.alloc (.cells #[.string s] 91)) ty pv := ErrG.alloc ((b1.cell (p := ⟨0, 0, none⟩) HG0.out.lt).trans HG0.out) _
  have P2 : PgR (w1.alloc (.cells #[.string s] 91)) w1.heap.size s := heap_alloc_new w1 _
  have B2 := B1.alloc B1.size (.cells #[.string s] 91)
  have hl1 := (HX0.out.below b1).facts
  have T3 : Calls Tryd.prog 62 #[.pointer (some ⟨w1.heap.size, 0, none⟩), .int .i64 3] _ _ := take_okG (n := 3) P2 h3
  have HX2 : Hid (RBx _ _ _) := X2
  have HG2 : Hid (ErrG _ _ _) := G2
  have HB2 : Hid (Below _ _ _) := B2
  obtain ⟨_, _, hlA, _, _, hlB⟩ := hl1
  clear X2 G2 P2 B2 B1 b1 HX0 HB0 HG0
  go_wp2_with fail
  refine T3.mono ?_
  rintro e w3 ⟨rfl, P3, g3⟩
  have hne4 : w.heap.size ≠ w1.heap.size ∧ w.heap.size + 1 ≠ w1.heap.size := by omega
  have X3 : RBx w3 w.heap.size (.slice none 0 0) := HX2.out.grown g3 hne4.1 hne4.2
  have G3 : ErrG w3 ty pv := HG2.out.grown g3 (by omega)
  have B3 : Below w.heap.size w w3 := Below.grown HB2.out g3 HB2.out.size (fun j hj => by cases hj; omega)
  have x2 : ∀ u : World, (Instr.index 9 (.string (s.extract 0 3)) (.int .i64 2)).run Tryd.prog u = .ok (.int .u8 (hd s 2 : Int)) u := fun u => by
    have h := index_str (s.extract 0 3) 2 (by rw [ext_size s h3]; omega) u
    rw [bAt_ext s h3 (by omega)] at h
    exact h
  have l2 := hd_lt s 2
  have v2 : IntKind.i64.wrap (hd s 2 : Int) = (hd s 2 : Int) := by rw [IntKind.wrap_i64]; omega
  have z3 : (s.extract 3 s.size).size ≤ 300 := by rw [ext_sz]; omega
  have HS0 : Hid (RoRel w w1.heap.size s ty pv (.string ⟨#[]⟩) (.int .i64 0) w3) := ⟨0, ⟨#[]⟩, s.extract 3 s.size, [], .slice none 0 0, Nat.zero_le _, rfl, rfl, Nat.zero_le _, z3, P3, X3, World.ownsRow_nil _ _ _ _, rfl, by rw [Nat.sub_zero]; cases rdF (hd s 2) ⟨#[]⟩ (s.extract 3 s.size) <;> rfl, G3, B3⟩
  have HNO : Hid (rdF (hd s 2) ⟨#[]⟩ (s.extract 3 s.size) = none → (readL s).isSome = false ∧ (readL s).getD [] = []) := fun h => by
    have e : readL s = none := by unfold readL; rw [h]
    rw [e]; exact ⟨rfl, rfl⟩
  have HYES : Hid (∀ l, rdF (hd s 2) ⟨#[]⟩ (s.extract 3 s.size) = some l → (pbT l = s → (readL s).isSome = true ∧ (readL s).getD [] = l) ∧ (¬ pbT l = s → (readL s).isSome = false ∧ (readL s).getD [] = [])) := fun l h => by
    have hp := pbT_is (l := l) h3 h300
    have e : readL s = if isPage s l then some l else none := by unfold readL; rw [h]
    refine ⟨fun hq => ?_, fun hq => ?_⟩
    · rw [decide_eq_true hq] at hp
      rw [e, ← hp]; exact ⟨rfl, rfl⟩
    · rw [decide_eq_false hq] at hp
      rw [e, ← hp]; exact ⟨rfl, rfl⟩
  obtain ⟨i0, hi0, hz0, hs0, hy0⟩ := info_parts info_rwS
  clear T3 P3 g3 X3 G3 B3 HX2 HG2 HB2 hne4 z3
  go_wp2
  go_loopw [6, 18] (fun v6 v18 wr => RoRel w w1.heap.size s ty pv v6 v18 wr) (fun _ i _ => hd s 2 - (intOf i).toNat)
  case atStart => exact HS0.out
  case round =>
    clear HS0
    obtain ⟨k, p, t, l, v, hk, rfl, rfl, hp, ht, hP, hX, hR, hl, hF, hG, hB⟩ := hrel
    have HLN : Hid (l.length = k) := hl
    have hl9 : l.length ≤ 255 := by omega
    have HF : Hid _ := hF
    have HX : Hid (RBx _ _ _) := hX
    have HR : Hid (Rws _ _ _ _) := hR
    have HP : Hid (PgR _ _ _) := hP
    have HG : Hid (ErrG _ _ _) := hG
    have HB : Hid (Below _ _ _) := hB
    obtain ⟨ra, rc, rfl⟩ := rw_form hR
    clear hl hF hX hR hP hG hB
    by_cases hlt : k < hd s 2
    · have hk8 : (k : Int) < (hd s 2 : Int) := by omega
      have hsub : hd s 2 - k = (hd s 2 - (k + 1)) + 1 := by omega
      cases hok : okRow p t
      · have TN := takeRow_no HG.out (by omega) HP.out hok (by omega) (by omega)
        have hno := HNO.out (by rw [← HF.out, hsub, rdF, hok]; rfl)
        have HNN : Hid _ := hno
        clear HNO HYES HF hno hok
        go_wp2_with fail
        refine TN.mono ?_
        rintro e w5 ⟨rfl, g5⟩
        have X5 := HX.out.grown g5 (by omega) (by omega)
        have B5 : Below w.heap.size w w5 := Below.grown HB.out g5 HB.out.size (fun j hj => by cases hj; omega)
        obtain ⟨c0, f0, m0, c1, f1, m1⟩ := X5.facts
        have HS5 : Hid (Below w.heap.size w ((w5.setCell ⟨w.heap.size, 0, none⟩ (.slice none 0 0)).setCell ⟨w.heap.size + 1, 0, none⟩ (.bool false))) := (B5.setCell (p := ⟨w.heap.size, 0, none⟩) (Nat.le_refl _) _).setCell (p := ⟨w.heap.size + 1, 0, none⟩) (by show w.heap.size ≤ w.heap.size + 1; omega) _
        change bodyPostD Tryd.prog Tryd.f33 _ (Exit.panic _) _ w5
        refine leaves_cons (f := 60) (args := #[.pointer (some ⟨w.heap.size, 0, none⟩), .pointer (some ⟨w.heap.size + 1, 0, none⟩)]) (by simp) (by simp [go_sem]) ?_
        obtain ⟨_, _, _, c2, f2, _⟩ := (X5.set (.slice none 0 0)).facts
        refine (catch_pan c0 f0 c2 f2).mono ?_
        rintro e u' w'' ⟨rfl, rfl, rfl⟩
        obtain ⟨d0, d1⟩ := X5.two (.slice none 0 0) false
        refine ⟨.tuple #[.slice none 0 0, .bool false], ?_, _, by rw [HNN.out.1], by rw [HNN.out.2]; exact World.ownsRow_nil _ _ _ _, HS5.out⟩
        rw [results_cells2 rfl]
        go_simp
      · have TR := takeRow_ok HP.out hok (by omega) (by omega)
        have hsz := rowOf_sizes hok
        have hrz := restOf_size hok
        have q0 := hd_lt t 0
        have q1 := hd_lt t 1
        have HFN : Hid ((rdF (hd s 2 - (k + 1)) (rowOf p t).key (restOf t)).map ((l ++ [rowOf p t]) ++ ·) = rdF (hd s 2) ⟨#[]⟩ (s.extract 3 s.size)) := by
          show _ = _
          rw [← HF.out, hsub, rdF, hok, if_pos rfl]
          cases rdF (hd s 2 - (k + 1)) (rowOf p t).key (restOf t) <;> simp
        have hkz : (rowOf p t).key.size ≤ 510 := by rw [hsz.1]; omega
        have htz : (restOf t).size ≤ 300 := by omega
        generalize rowOf p t = x at *
        generalize restOf t = tz at *
        unfold rwV at TR
        have HKZ : Hid _ := hkz
        clear HNO HYES HF hok hsz hrz q0 q1 hkz
        go_wp2_with fail
        refine TR.mono ?_
        rintro e w5 ⟨rfl, P5, g5⟩
        have X5 := HX.out.grown g5 (by omega) (by omega)
        have R5 : Rws w5 w.heap.size (.slice ra l.length rc) l := World.ownsRow.kept HR.out g5 (rws_ne HP.out HR.out)
        have G5 := HG.out.grown g5 (by omega)
        have B5 : Below w.heap.size w w5 := Below.grown HB.out g5 HB.out.size (fun j hj => by cases hj; omega)
        have hs5 := B5.size
        have hP5 := P5.lt
        clear TR g5 HX HR HP HG HB
        obtain ⟨W7, HW7⟩ : ∃ W7, Hid (W7 = (w5.alloc (.cells #[.string x.key, .string x.text, .string x.val] 32)).alloc (.cells #[.string x.key, .string x.text, .string x.val] 32)) := ⟨_, rfl⟩
        have b57 : Below w5.heap.size w5 W7 := by rw [HW7.out]; exact ((Below.refl _ _).alloc (Nat.le_refl _) _).alloc (by simp) _
        have hs7 : W7.heap.size = w5.heap.size + 2 := by rw [HW7.out]; simp
        have box7 : BoxR6 W7 w5.heap.size x := by rw [HW7.out]; exact (box_new6 w5 x).alloc _
        have HN7 : Hid (∀ j u, [Value.string x.key, .string x.text, .string x.val][j]? = some u → W7.cell? ((⟨w5.heap.size + 1, 0, none⟩ : Addr).add j) = some u) := by rw [HW7.out]; exact cells3_at _ _ _ _ _ _ (by simp)
        have X7 := X5.below b57
        have R7 : W7.ownsRow w.heap.size 32 3 (.slice ra l.length rc) l.length (rwAll l) := R5.below b57
        have P7 := P5.below b57
        have G7 : ErrG W7 ty pv := (b57.cell (p := ⟨0, 0, none⟩) G5.lt).trans G5
        have B7 : Below w.heap.size w W7 := B5.trans (b57.mono hs5)
        obtain ⟨c0, f0, m0, c1, f1, m1⟩ := X5.facts
        have HX7 : Hid (RBx _ _ _) := X7
        have HR7 : Hid (World.ownsRow _ _ _ _ _ _ _) := R7
        have HP7 : Hid (PgR _ _ _) := P7
        have HG7 : Hid (ErrG _ _ _) := G7
        have HB7 : Hid (Below _ _ _) := B7
        have HBX : Hid (BoxR6 _ _ _) := box7
        have HRB : Hid (∀ j, (Value.slice ra l.length rc).ownBlock = some j → j < w5.heap.size) := fun j hj => (World.ownsRow.lt R5 j hj).2
        have h1a : ∀ u : World, u = (w5.alloc (.cells #[.string x.key, .string x.text, .string x.val] 32)).alloc (.cells #[.string x.key, .string x.text, .string x.val] 32) → u.ownsRow w.heap.size 32 3 (.slice ra l.length rc) l.length (rwAll l) := fun u hu => by rw [hu, ← HW7.out]; exact HR7.out
        have h1b : ∀ u : World, u = (w5.alloc (.cells #[.string x.key, .string x.text, .string x.val] 32)).alloc (.cells #[.string x.key, .string x.text, .string x.val] 32) → ∀ j q, [Value.string x.key, .string x.text, .string x.val][j]? = some q → u.cell? ((⟨w5.heap.size + 1, 0, none⟩ : Addr).add j) = some q := fun u hu => by rw [hu, ← HW7.out]; exact HN7.out
        clear P5 G5 B5 R5 X5 X7 R7 P7 G7 B7 box7 HN7 b57
        go_wp2_with (at_builtin; refine wpList_append_lies _ rfl _ _ 23 rfl w.heap.size 32 i0 _ 3 48 Tryd.underlying23 hi0 hz0 hs0 hy0 rfl (by decide) _ _ _ rfl (h1a _ rfl) ⟨w5.heap.size + 1, 0, none⟩ 1 1 [.string x.key, .string x.text, .string x.val] rfl rfl (h1b _ rfl) (fun z hz => by simp at hz; rcases hz with rfl | rfl | rfl <;> rfl) (by omega) (by unfold maxLen; omega) (by omega) (by simp; omega) (w5.heap.size + 2) (by simp) ?_)
        intro g8 cap8 w8 ho8 hg8 hgg8 hlt8
        rw [← HW7.out] at hg8
        have X8 := rbx_kept HX7.out HR7.out hg8
        have P8 := pgr_kept HP7.out HR7.out hg8
        have G8 := errg_kept HG7.out HR7.out hg8 hgl
        have bx8 : BoxR6 w8 w5.heap.size x := (hg8.block _ HBX.out.lt (fun e => by have := HRB.out _ e.symm; omega)).trans HBX.out
        have B8 : Below w.heap.size w w8 := Below.grown HB7.out hg8 HB7.out.size (fun j hj => (World.ownsRow.lt HR7.out j hj).1)
        obtain ⟨k0, n0, o0, k1, n1, o1⟩ := X8.facts
        have y0 := bx8.cells.1
        have y0l := bx8.lt
        have R8 : Rws w8 w.heap.size (.slice (some ⟨g8, 0, none⟩) (l.length + 1) cap8) (l ++ [x]) := rw_snoc ho8
        have X9 := X8.set (.slice (some ⟨g8, 0, none⟩) (l.length + 1) cap8)
        have P9 : PgR (w8.setCell ⟨w.heap.size, 0, none⟩ (.slice (some ⟨g8, 0, none⟩) (l.length + 1) cap8)) w1.heap.size tz := ((setCell_grown w8 w.heap.size 0 _).block _ P8.lt (fun e => by have := Option.some.inj e; omega)).trans P8
        have G9 : ErrG (w8.setCell ⟨w.heap.size, 0, none⟩ (.slice (some ⟨g8, 0, none⟩) (l.length + 1) cap8)) ty pv := G8.grown (setCell_grown w8 w.heap.size 0 _) hgl
        have R9 : Rws (w8.setCell ⟨w.heap.size, 0, none⟩ (.slice (some ⟨g8, 0, none⟩) (l.length + 1) cap8)) w.heap.size (.slice (some ⟨g8, 0, none⟩) (l.length + 1) cap8) (l ++ [x]) := World.ownsRow.kept R8 (setCell_grown w8 w.heap.size 0 _) (rbx_ne X8 R8)
        have B9 := B8.setCell (p := ⟨w.heap.size, 0, none⟩) (Nat.le_refl _) (.slice (some ⟨g8, 0, none⟩) (l.length + 1) cap8)
        have HZ : Hid (PgR _ _ _ ∧ RBx _ _ _ ∧ Rws _ _ _ _ ∧ ErrG _ _ _ ∧ Below _ _ _) := ⟨P9, X9, R9, G9, B9⟩
        have hne5 : w.heap.size ≠ w5.heap.size := by omega
        clear ho8 hg8 hgg8 X8 P8 G8 bx8 B8 R8 X9 P9 G9 R9 B9 HX7 HR7 HP7 HG7 HB7 HBX HRB h1a h1b HW7 hs7
        go_wp2
        obtain ⟨e1, e2, e3, e4, e5⟩ := HZ.out
        exact ⟨⟨k + 1, x.key, tz, l ++ [x], _, hlt, by go_num, rfl, HKZ.out, htz, e1, e2, e3, by rw [List.length_append, HLN.out]; rfl, HFN.out, e4, e5⟩, by simp [intOf]; omega⟩
    · have hkz : k = hd s 2 := by omega
      have hsome : rdF (hd s 2) ⟨#[]⟩ (s.extract 3 s.size) = some l := by rw [← HF.out, hkz, Nat.sub_self]; simp [rdF]
      obtain ⟨hyes, hnop⟩ := HYES.out l hsome
      have nk : ¬ (k : Int) < (hd s 2 : Int) := by omega
      have PB := implPB_any (cap := rc) (rws_sl HR.out) (by omega)
      obtain ⟨c0, f0, m0, _⟩ := HX.out.facts
      clear hsome HNO HYES HF hkz HP HG
      by_cases hpg : pbT l = s
      · have HNN : Hid _ := hyes hpg
        rw [hpg] at PB
        clear hyes hnop hpg
        go_wp2_with fail
        refine PB.mono ?_
        rintro e w6 ⟨rfl, b6⟩
        have X6 := HX.out.below b6
        have R6 := HR.out.below b6
        have B6 : Below w.heap.size w w6 := HB.out.trans (b6.mono HB.out.size)
        obtain ⟨k0, n0, o0, k1, n1, o1⟩ := X6.facts
        have HX6 : Hid (RBx _ _ _) := X6
        have HR6 : Hid (Rws _ _ _ _) := R6
        have HB6 : Hid (Below _ _ _) := B6
        clear PB b6 X6 R6 B6 HX HR HB c0 f0 m0
        go_wp2
        change bodyPostD Tryd.prog Tryd.f33 _ Exit.ret _ _
        refine leaves_cons (f := 60) (args := #[.pointer (some ⟨w.heap.size, 0, none⟩), .pointer (some ⟨w.heap.size + 1, 0, none⟩)]) (by simp) (by simp [go_sem]) ?_
        refine catch_idle.mono ?_
        rintro e u' w'' ⟨rfl, rfl, rfl⟩
        obtain ⟨d0, d1⟩ := HX6.out.two (.slice ra l.length rc) true
        have R9 := World.ownsRow.kept (World.ownsRow.kept HR6.out (setCell_grown w6 w.heap.size 0 (.slice ra l.length rc)) (rbx_ne HX6.out HR6.out)) (setCell_grown _ (w.heap.size + 1) 0 (.bool true)) (rbx_ne1 HX6.out HR6.out)
        have B9 := (HB6.out.setCell (p := ⟨w.heap.size, 0, none⟩) (Nat.le_refl _) (.slice ra l.length rc)).setCell (p := ⟨w.heap.size + 1, 0, none⟩) (by show w.heap.size ≤ w.heap.size + 1; omega) (.bool true)
        refine ⟨.tuple #[.slice ra l.length rc, .bool true], ?_, _, by rw [HNN.out.1], by rw [HNN.out.2]; exact R9, B9⟩
        rw [results_cells2 rfl]
        go_simp
      · have HNN : Hid _ := hnop hpg
        generalize pbT l = pq at *
        have hne := ne_list6 hpg
        clear hyes hnop hpg
        go_wp2_with fail
        refine PB.mono ?_
        rintro e w6 ⟨rfl, b6⟩
        have X6 := HX.out.below b6
        have B6 : Below w.heap.size w w6 := HB.out.trans (b6.mono HB.out.size)
        obtain ⟨k0, n0, o0, k1, n1, o1⟩ := X6.facts
        have HX6 : Hid (RBx _ _ _) := X6
        have HB6 : Hid (Below _ _ _) := B6
        clear PB b6 X6 B6 HX HR HB c0 f0 m0
        go_wp2
        change bodyPostD Tryd.prog Tryd.f33 _ Exit.ret _ _
        refine leaves_cons (f := 60) (args := #[.pointer (some ⟨w.heap.size, 0, none⟩), .pointer (some ⟨w.heap.size + 1, 0, none⟩)]) (by simp) (by simp [go_sem]) ?_
        refine catch_idle.mono ?_
        rintro e u' w'' ⟨rfl, rfl, rfl⟩
        obtain ⟨d0, d1⟩ := HX6.out.two (.slice none 0 0) false
        have B9 := (HB6.out.setCell (p := ⟨w.heap.size, 0, none⟩) (Nat.le_refl _) (.slice none 0 0)).setCell (p := ⟨w.heap.size + 1, 0, none⟩) (by show w.heap.size ≤ w.heap.size + 1; omega) (.bool false)
        refine ⟨.tuple #[.slice none 0 0, .bool false], ?_, _, by rw [HNN.out.1], by rw [HNN.out.2]; exact World.ownsRow_nil _ _ _ _, B9⟩
        rw [results_cells2 rfl]
        go_simp
end Go.Proofs.YtbgomhgohphglaaDoor

namespace Go.Proofs.YtbgomhgohphglaaDoor
open Go.RowKit

theorem mark_is {s : ByteArray} (h : 3 ≤ s.size) : ((s.extract 0 2).toList == [80, 71]) = markOk s := by
  have hz : (s.extract 0 2).size = 2 := ext_size s (by omega)
  have e0 : bAt (s.extract 0 2) 0 = bAt s 0 := bAt_ext s (by omega) (by omega)
  have e1 : bAt (s.extract 0 2) 1 = bAt s 1 := bAt_ext s (by omega) (by omega)
  have hl : (s.extract 0 2).toList = [bAt s 0, bAt s 1] := by
    rw [ByteArray.toList_eq]
    have hl2 : (s.extract 0 2).data.toList.length = 2 := by rw [Array.length_toList]; exact hz
    have d0 := bAt_drop (s := s.extract 0 2) (n := 0) (by omega)
    have d1 := bAt_drop (s := s.extract 0 2) (n := 1) (by omega)
    rw [List.drop_zero] at d0
    rw [d0, d1, e0, e1]
    congr 2
    apply List.drop_eq_nil_of_le
    omega

  rw [hl]
  unfold markOk hd
  have q0 : ((bAt s 0).toNat = 80) = (bAt s 0 = 80) := propext ⟨fun e => UInt8.toNat_inj.1 e, fun e => by rw [e]; rfl⟩
  have q1 : ((bAt s 1).toNat = 71) = (bAt s 1 = 71) := propext ⟨fun e => UInt8.toNat_inj.1 e, fun e => by rw [e]; rfl⟩
  simp only [q0, q1]
  by_cases h1 : bAt s 0 = 80
  · by_cases h2 : bAt s 1 = 71
    · simp [h1, h2]
    · simp [h1, h2]
  · simp [h1]

set_option maxRecDepth 100000 in
set_option maxHeartbeats 1000000 in
theorem prefix_any (s : ByteArray) (w : World) (h : 3 ≤ s.size) (h3 : s.size ≤ 300) : Calls Tryd.prog 32 #[.string s, .string ⟨#[80, 71]⟩] w fun e w' => e = .returned (.bool (markOk s)) ∧ w' = w := by
  have P : Calls Tryd.prog 59 #[.string s, .string ⟨#[80, 71]⟩] w fun e w' => e = .returned (.bool (markOk s)) ∧ w' = w := by
    have hm := mark_is h
    have hz : (⟨#[80, 71]⟩ : ByteArray).size = 2 := rfl
    have h2 : (2 : Int) ≤ (s.size : Int) := by omega
    have HM : Hid _ := hm
    go_enter Tryd.func59, Tryd.ntmps59
    go_wp2
    go_ret
    have e := HM.out
    exact ⟨by rw [← e]; rfl, rfl⟩
  go_enter Tryd.func32, Tryd.ntmps32
  go_wp2_with fail
  refine P.mono ?_
  rintro e w1 ⟨rfl, rfl⟩
  clear P
  go_wp2
  go_ret
  exact ⟨rfl, rfl⟩

set_option maxRecDepth 100000 in
set_option maxHeartbeats 2000000 in
theorem implRP_any (s : ByteArray) (w : World) (hs : s.size ≤ 1048576) {ty : TypeId} {pv : Value} (hg : ErrG w ty pv) :
    Calls Tryd.prog 10 #[.string s] w fun e w' => ∃ v, e = .returned (.tuple #[v, .int .i64 (codeP s)]) ∧ Rws w' w.heap.size v (readP s) ∧ Below w.heap.size w w' := by
  have hnil : Hid (Rws w w.heap.size (.slice none 0 0) []) := World.ownsRow_nil _ _ _ _
  by_cases h300 : s.size ≤ 300
  · have n300 : (s.size : Int) ≤ 300 := by omega
    by_cases h3 : 3 ≤ s.size
    · have n3 : (3 : Int) ≤ (s.size : Int) := by omega
      have hlo : lenOk s = true := by unfold lenOk; rw [decide_eq_true h3, decide_eq_true h300]; rfl
      have PX := prefix_any s w h3 h300
      cases hmk : markOk s
      · have hc : codeP s = 2 := by unfold codeP; rw [hlo, hmk]; rfl
        have hr : readP s = [] := by unfold readP; rw [hlo, hmk]; rfl
        rw [hc, hr]
        rw [hmk] at PX
        clear hlo hc hr hmk
        go_enter Tryd.func10, Tryd.ntmps10
        go_wp2_with fail
        refine PX.mono ?_
        rintro e w1 ⟨rfl, rfl⟩
        clear PX
        go_wp2
        go_ret2
        exact ⟨_, rfl, hnil.out, Below.refl _ _⟩
      · have RO := rowsOf_any s w h3 h300 hg
        have hc : codeP s = if (readL s).isSome then 0 else 3 := by unfold codeP; rw [hlo, hmk]; rfl
        have hr : readP s = (readL s).getD [] := by unfold readP; rw [hlo, hmk]; rfl
        rw [hmk] at PX
        rw [hc, hr]
        clear hlo hc hr hmk
        cases hrl : readL s with
        | none =>
          rw [hrl] at RO
          clear hrl
          go_enter Tryd.func10, Tryd.ntmps10
          go_wp2_with fail
          refine PX.mono ?_
          rintro e w1 ⟨rfl, rfl⟩
          clear PX
          go_wp2_with fail
          refine RO.mono ?_
          rintro e w2 ⟨v2, rfl, _, b2⟩
          clear RO
          go_wp2
          go_ret2
          exact ⟨_, rfl, World.ownsRow_nil _ _ _ _, b2⟩
        | some l =>
          rw [hrl] at RO
          clear hrl
          go_enter Tryd.func10, Tryd.ntmps10
          go_wp2_with fail
          refine PX.mono ?_
          rintro e w1 ⟨rfl, rfl⟩
          clear PX
          go_wp2_with fail
          refine RO.mono ?_
          rintro e w2 ⟨v2, rfl, r2, b2⟩
          clear RO
          go_wp2
          go_ret2
          exact ⟨_, rfl, r2, b2⟩
    · have n3 : ¬ (3 : Int) ≤ (s.size : Int) := by omega
      have hlo : lenOk s = false := by unfold lenOk; rw [decide_eq_false h3]; rfl
      have hc : codeP s = 1 := by unfold codeP; rw [hlo]; rfl
      have hr : readP s = [] := by unfold readP; rw [hlo]; rfl
      rw [hc, hr]
      clear hlo hc hr
      go_enter Tryd.func10, Tryd.ntmps10
      go_wp2
      go_ret2
      exact ⟨_, rfl, hnil.out, Below.refl _ _⟩
  · have n300 : ¬ (s.size : Int) ≤ 300 := by omega
    have hlo : lenOk s = false := by unfold lenOk; rw [decide_eq_false h300, Bool.and_false]
    have hc : codeP s = 1 := by unfold codeP; rw [hlo]; rfl
    have hr : readP s = [] := by unfold readP; rw [hlo]; rfl
    rw [hc, hr]
    clear hlo hc hr
    go_enter Tryd.func10, Tryd.ntmps10
    go_wp2
    go_ret2
    exact ⟨_, rfl, hnil.out, Below.refl _ _⟩
end Go.Proofs.YtbgomhgohphglaaDoor

namespace Go.Proofs.YtbgomhgohphglaaDoor
open Go.RowKit

theorem strs6_all {w : World} {B : Nat} {v : Value} {ss : List ByteArray} (h : Strs w B v ss) : ∃ a c, v = .slice a ss.length c ∧ ∀ (k : Nat) (x : ByteArray), ss[k]? = some x → ∃ g, a = some ⟨g, 0, none⟩ ∧ ∀ u, Below w.heap.size w u → ∀ (j : Nat) (y : ByteArray), ss[j]? = some y → u.cell? ⟨g, j, none⟩ = some (.string y) := by
  rcases h.form with ⟨rfl, rfl⟩ | ⟨g, cap, rfl, _, _⟩
  · exact ⟨_, _, rfl, fun k x hx => by simp at hx⟩
  · exact ⟨_, _, rfl, fun k x hx => ⟨g, rfl, fun u hu j y hy => (h.below hu).cell j y hy⟩⟩

set_option maxRecDepth 100000 in
set_option maxHeartbeats 1000000 in
theorem lastKey_any {w : World} {g c n : Nat} {x : ByteArray} (hn : 0 < n) (hn8 : n ≤ 1048576) (hx : w.cell? ⟨g, (n - 1) * 3, none⟩ = some (.string x)) :
    Calls Tryd.prog 64 #[.slice (some ⟨g, 0, none⟩) n c] w fun e w' => e = .returned (.string x) ∧ w' = w := by
  obtain ⟨m, rfl⟩ : ∃ m, n = m + 1 := ⟨n - 1, by omega⟩
  have hm : m + 1 - 1 = m := by omega
  rw [hm] at hx
  have hgl := rw_cell_lt hx
  have h1 : ((m + 1 : Nat) : Int) - 1 = (m : Int) := by omega
  have h2 : (m : Int) < ((m + 1 : Nat) : Int) := by omega
  go_enter Tryd.func64, Tryd.ntmps64
  go_wp2
  go_ret
  exact ⟨rfl, rfl⟩

def BkRel (w : World) (ss : List ByteArray) (vb i : Value) (wr : World) : Prop :=
  ∃ (k hi : Nat) (vs : List Value), k ≤ ss.length ∧ i = .int .i64 (k : Int) ∧ NestR wr w.heap.size hi vb (accK ss k) vs ∧ (∀ j s, j < k → ss[j]? = some s → codeP s = 0) ∧ bkF (accK ss k) (ss.drop k) = bookF ss ∧ Below w.heap.size w wr

set_option maxRecDepth 100000 in
set_option maxHeartbeats 8000000 in
theorem openBook_any {w : World} {B : Nat} {vp : Value} {ss : List ByteArray} (hS : Strs w B vp ss) (hz : ∀ s ∈ ss, s.size ≤ 1048576) (hl : ss.length ≤ 1048576) {ty : TypeId} {pv : Value} (hg : ErrG w ty pv) :
    Calls Tryd.prog 34 #[vp] w fun e w' => ∃ v, e = .returned (.tuple #[v, .bool (bookF ss).isSome]) ∧ (∀ gs, bookF ss = some gs → ∃ vs, NestR w' w.heap.size w'.heap.size v gs vs) ∧ Below w.heap.size w w' := by
  obtain ⟨a, c, rfl, hq⟩ := strs6_all hS
  have HQ : Hid _ := hq
  have HZ : Hid (∀ s ∈ ss, s.size ≤ 1048576) := hz
  have HG : Hid (ErrG w ty pv) := hg
  have hgl := hg.lt
  clear hS hq hz hg
  by_cases h40 : ss.length ≤ 40
  · have n40 : ¬ (40 : Int) < (ss.length : Int) := by omega
    obtain ⟨i1, hi1, hy0, hy1, hy2⟩ := info_parts info_rwL
    have HB0 : Hid (bkF (accK ss 0) (ss.drop 0) = bookF ss) := by show _ = _; unfold bookF; rw [if_pos h40]; simp [accK]
    go_enter Tryd.func34, Tryd.ntmps34
    go_wp2_with fail
    go_loopw [4, 14] (fun vb i wr => BkRel w ss vb i wr) (fun _ i _ => ss.length - (intOf i).toNat)
    case atStart => exact ⟨0, _, [], Nat.zero_le _, rfl, NestR.nil w _, fun j s hj => by omega, HB0.out, Below.refl _ _⟩
    case round =>
      obtain ⟨k, hi, vs, hk, rfl, hN, hC, hE, hb⟩ := hrel
      by_cases hlt : k < ss.length
      · obtain ⟨s, hs⟩ : ∃ s, ss[k]? = some s := ⟨_, List.getElem?_eq_getElem hlt⟩
        obtain ⟨g, rfl, qc⟩ := HQ.out k s hs
        have c0 := qc wr hb k s hs
        have hc0 := rw_cell_lt c0
        have hlt8 : (k : Int) < (ss.length : Int) := by omega
        have RD := implRP_any s wr (HZ.out s (List.mem_of_getElem? hs)) (show ErrG wr ty pv from (hb.cell (p := ⟨0, 0, none⟩) hgl).trans HG.out)
        have hrl := readP_len s
        have hsz := HZ.out s (List.mem_of_getElem? hs)
        have HS : Hid (ss[k]? = some s) := hs
        have HN : Hid (NestR wr w.heap.size hi _ (accK ss k) vs) := hN
        have HC : Hid (∀ j s, j < k → ss[j]? = some s → codeP s = 0) := hC
        have HE : Hid (bkF (accK ss k) (ss.drop k) = bookF ss) := hE
        have HB : Hid (Below w.heap.size w wr) := hb
        have HQC : Hid _ := qc
        clear hs hN hC hE hb qc
        by_cases hcd : codeP s = 0
        · rw [hcd] at RD
          have hpos := readP_some hcd
          obtain ⟨x0, hx0⟩ : ∃ x0, (readP s)[0]? = some x0 := ⟨_, List.getElem?_eq_getElem hpos⟩
          have HX0 : Hid (begK (readP s) = x0.key) := begK_at hx0
          have HX : Hid ((readP s)[0]? = some x0) := hx0
          have HRL : Hid ((readP s).length ≤ 1048576) := by show _ ≤ _; omega
          clear hx0
          go_wp2_with fail
          refine RD.mono ?_
          rintro e w2 ⟨v2, rfl, r2, b2⟩
          obtain ⟨g2, c2, rfl, q2⟩ := rws_at r2 hpos
          have d0 : w2.cell? ⟨g2, 0, none⟩ = some (.string x0.key) := q2 0 x0 HX.out
          have hd0 := rw_cell_lt d0
          have HN2 : Hid (NestR w2 w.heap.size hi u4 (accK ss k) vs) := HN.out.below b2
          have HB2 : Hid (Below w.heap.size w w2) := HB.out.trans (b2.mono HB.out.size)
          have HR2 : Hid (Rws w2 wr.heap.size _ _) := r2
          have HBR : Hid (Below wr.heap.size wr w2) := b2
          clear RD r2 b2 q2
          by_cases hk0 : k = 0
          · subst hk0
            have HO : Hid (okNext (accK ss 0) s = true) := by show _ = _; rw [okNext_zero, hcd]; rfl
            go_wp2_with fail
            go_quiet (fail)
            have HN3 : Hid (NestR (w2.drewN nq) w.heap.size hi u4 (accK ss 0) vs) := HN2.out.below (below_drewN6 (Below.refl _ _) nq)
            have HB3 : Hid (Below w.heap.size w (w2.drewN nq)) := below_drewN6 HB2.out nq
            have hdq : (w2.drewN nq).heap.size = w2.heap.size := rfl
            have hgn : (accK ss 0).length = 0 := accK_len hk
            have hsU := HB3.out.size
            have bA := (Below.refl (w2.drewN nq).heap.size (w2.drewN nq)).alloc (Nat.le_refl _) (.cells #[.slice (some ⟨g2, 0, none⟩) (readP s).length c2] 23)
            have hrow := (HN3.out.below bA).row
            obtain ⟨a1, c1, hv1, _⟩ := HN3.out.form
            subst hv1
            have HU : Hid (Below wr.heap.size wr ((w2.drewN nq).alloc (.cells #[.slice (some ⟨g2, 0, none⟩) (readP s).length c2] 23))) := (below_drewN6 HBR.out nq).alloc HBR.out.size _
            have HX0' : Hid (Rws ((w2.drewN nq).alloc (.cells #[.slice (some ⟨g2, 0, none⟩) (readP s).length c2] 23)) wr.heap.size (.slice (some ⟨g2, 0, none⟩) (readP s).length c2) (readP s)) := (HR2.out.below (below_drewN6 (Below.refl _ _) nq)).below bA
            go_wp2_with (at_builtin; refine wpList_append_lies _ rfl _ _ 55 rfl w.heap.size 23 i1 (.slice none 0 0) 1 24 Tryd.underlying55 hi1 hy0 hy1 hy2 rfl (by decide) _ _ _ rfl hrow ⟨_, 0, none⟩ 1 1 [.slice (some ⟨g2, 0, none⟩) (readP s).length c2] rfl rfl (cell_one_new _ _ _) (fun x hx => by simp at hx; subst hx; rfl) (by omega) (by unfold maxLen; omega) (by omega) (by simp; omega) _ rfl ?_)
            intro g5 c5 u5 ho5 hg5 hgo5 hlt5
            have N5 := HN.out.push HB.out.size HU.out HX0'.out hg5 ho5
            have B5 : Below w.heap.size w u5 := Below.grown (HB3.out.trans (bA.mono HB3.out.size)) hg5 (Nat.le_trans HB3.out.size bA.size) (fun j hj => (World.ownsRow.lt hrow j hj).1)
            have NN : NestR u5 w.heap.size u5.heap.size (.slice (some ⟨g5, 0, none⟩) ((accK ss 0).length + 1) c5) (accK ss (0 + 1)) _ := accK_succ HS.out ▸ N5
            have HNN : Hid (NestR _ _ _ _ _ _) := NN
            have HB5 : Hid (Below w.heap.size w u5) := B5
            have HE5 : Hid (bkF (accK ss (0 + 1)) (ss.drop (0 + 1)) = bookF ss) := by show _ = _; rw [← HE.out, bkF_yes HS.out HO.out, accK_succ HS.out]
            have HC5 : Hid (∀ j t, j < 0 + 1 → ss[j]? = some t → codeP t = 0) := fun j t hj ht => by
              by_cases hjk : j < 0
              · exact HC.out j t hjk ht
              · have e1 : j = 0 := by omega
                subst e1
                have e2 := HS.out.symm.trans ht
                rw [← Option.some.inj e2]
                exact hcd
            clear N5 B5 NN HN HB HU HX0' hg5 ho5 hrow bA HN3 HB3 HN2 HB2 HR2 HBR HC HE
            go_wp2
            exact ⟨⟨0 + 1, _, _, by omega, by go_num, HNN.out, HC5.out, HE5.out, HB5.out⟩, by simp [intOf]; omega⟩
          · obtain ⟨j, rfl⟩ : ∃ j, k = j + 1 := ⟨k - 1, by omega⟩
            obtain ⟨y, hy⟩ : ∃ y, ss[j]? = some y := ⟨_, List.getElem?_eq_getElem (by omega)⟩
            have hyp := readP_some (HC.out j y (by omega) hy)
            have hyl : (readP y).length ≤ 1048576 := by have := readP_len y; have := HZ.out y (List.mem_of_getElem? hy); omega
            obtain ⟨vy, hvy, hI, _⟩ := HN2.out.ins j (readP y) (accK_at hy (by omega))
            obtain ⟨gy, cy, rfl, qy⟩ := rws_at hI hyp
            obtain ⟨xl, hxl⟩ : ∃ xl, (readP y)[(readP y).length - 1]? = some xl := ⟨_, List.getElem?_eq_getElem (by omega)⟩
            have dy := qy _ xl hxl
            have LK := fun n => lastKey_any (w := w2.drewN n) (c := cy) hyp hyl dy
            obtain ⟨a1, c1, hv1, fm⟩ := HN2.out.form
            obtain ⟨gb, rfl, _, _, cb, _⟩ := fm j _ hvy
            have hcb := rw_cell_lt cb
            have hj1 : (((j + 1 : Nat) : Int) - 1).toNat = j := by omega
            have hj2 : ((j + 1 : Nat) : Int) - 1 = (j : Int) := by omega
            have hgn0 : (accK ss (j + 1)).length = j + 1 := accK_len hk
            have hj3 : (j : Int) < ((accK ss (j + 1)).length : Int) := by omega
            have hpos8 : (0 : Int) < ((readP s).length : Int) := by omega
            have hon := okNext_succ (s := s) hy
            rw [hcd, HX0.out, endK_at hxl] at hon
            cases hlk : ltK xl.key x0.key
            · have HF : Hid (bookF ss = none) := by show _ = _; rw [← HE.out]; exact bkF_no HS.out (by rw [hon, hlk]; rfl)
              unfold ltK at hlk
              clear hon fm qy dy hI hvy
              subst hv1
              go_wp2_with fail
              go_quiet ((go_at_call 64; exact Calls.quiet_of_same (LK _)))
              have HB3 : Hid (Below w.heap.size w (w2.drewN nq)) := below_drewN6 HB2.out nq
              clear LK
              go_wp2
              go_ret2
              rw [HF.out]
              exact ⟨_, rfl, fun gs h => (by cases h), HB3.out⟩
            · have HO : Hid (okNext (accK ss (j + 1)) s = true) := by show _ = _; rw [hon, hlk]; rfl
              unfold ltK at hlk
              clear hon fm qy dy hI hvy
              subst hv1
              go_wp2_with fail
              go_quiet ((go_at_call 64; exact Calls.quiet_of_same (LK _)))
              clear LK
              have HN3 : Hid (NestR (w2.drewN nq) w.heap.size hi _ (accK ss (j + 1)) vs) := HN2.out.below (below_drewN6 (Below.refl _ _) nq)
              have HB3 : Hid (Below w.heap.size w (w2.drewN nq)) := below_drewN6 HB2.out nq
              have hdq : (w2.drewN nq).heap.size = w2.heap.size := rfl
              have hgn : (accK ss (j + 1)).length = j + 1 := accK_len hk
              have hsU := HB3.out.size
              have bA := (Below.refl (w2.drewN nq).heap.size (w2.drewN nq)).alloc (Nat.le_refl _) (.cells #[.slice (some ⟨g2, 0, none⟩) (readP s).length c2] 23)
              have hrow := (HN3.out.below bA).row
              rw [hgn] at hrow
              have HU : Hid (Below wr.heap.size wr ((w2.drewN nq).alloc (.cells #[.slice (some ⟨g2, 0, none⟩) (readP s).length c2] 23))) := (below_drewN6 HBR.out nq).alloc HBR.out.size _
              have HX0' : Hid (Rws ((w2.drewN nq).alloc (.cells #[.slice (some ⟨g2, 0, none⟩) (readP s).length c2] 23)) wr.heap.size (.slice (some ⟨g2, 0, none⟩) (readP s).length c2) (readP s)) := (HR2.out.below (below_drewN6 (Below.refl _ _) nq)).below bA
              go_wp2_with (at_builtin; refine wpList_append_lies _ rfl _ _ 55 rfl w.heap.size 23 i1 (.slice none 0 0) 1 24 Tryd.underlying55 hi1 hy0 hy1 hy2 rfl (by decide) _ _ _ rfl hrow ⟨_, 0, none⟩ 1 1 [.slice (some ⟨g2, 0, none⟩) (readP s).length c2] rfl rfl (cell_one_new _ _ _) (fun x hx => by simp at hx; subst hx; rfl) (by omega) (by unfold maxLen; omega) (by omega) (by simp; omega) _ rfl ?_)
              intro g5 c5 u5 ho5 hg5 hgo5 hlt5
              have N5 := HN.out.push HB.out.size HU.out HX0'.out hg5 (by rw [hgn]; exact ho5)
              rw [accK_succ HS.out, hgn] at N5
              have B5 : Below w.heap.size w u5 := Below.grown (HB3.out.trans (bA.mono HB3.out.size)) hg5 (Nat.le_trans HB3.out.size bA.size) (fun i hj => (World.ownsRow.lt hrow i hj).1)
              have NN : NestR u5 w.heap.size u5.heap.size (.slice (some ⟨g5, 0, none⟩) (j + 1 + 1) c5) (accK ss (j + 1 + 1)) _ := N5
              have HNN : Hid (NestR _ _ _ _ _ _) := NN
              have HB5 : Hid (Below w.heap.size w u5) := B5
              have HE5 : Hid (bkF (accK ss (j + 1 + 1)) (ss.drop (j + 1 + 1)) = bookF ss) := by show _ = _; rw [← HE.out, bkF_yes HS.out HO.out, accK_succ HS.out]
              have HC5 : Hid (∀ i t, i < j + 1 + 1 → ss[i]? = some t → codeP t = 0) := fun i t hj ht => by
                by_cases hjk : i < j + 1
                · exact HC.out i t hjk ht
                · have e1 : i = j + 1 := by omega
                  subst e1
                  have e2 := HS.out.symm.trans ht
                  rw [← Option.some.inj e2]
                  exact hcd
              clear N5 B5 NN HN HB HU HX0' hg5 ho5 hrow bA HN3 HB3 HN2 HB2 HR2 HBR HC HE
              go_wp2
              exact ⟨⟨j + 1 + 1, _, _, by omega, by go_num, HNN.out, HC5.out, HE5.out, HB5.out⟩, by simp [intOf]; omega⟩
        · have HF : Hid (bookF ss = none) := by show _ = _; rw [← HE.out]; exact bkF_no HS.out (by unfold okNext; rw [decide_eq_false hcd]; rfl)
          generalize codeP s = cd at *
          go_wp2_with fail
          refine RD.mono ?_
          rintro e w2 ⟨v2, rfl, r2, b2⟩
          have HB2 : Hid (Below w.heap.size w w2) := HB.out.trans (b2.mono HB.out.size)
          clear RD r2 b2
          go_wp2
          go_ret2
          rw [HF.out]
          exact ⟨_, rfl, fun gs h => (by cases h), HB2.out⟩
      · have hkz : k = ss.length := by omega
        subst hkz
        have HF : Hid (bookF ss = some (accK ss ss.length)) := by show _ = _; rw [← hE, bkF_end]
        have HN : Hid (NestR wr w.heap.size hi _ (accK ss ss.length) vs) := hN
        have HB : Hid (Below w.heap.size w wr) := hb
        clear hN hb hE hC
        go_wp2
        go_ret2
        rw [HF.out]
        exact ⟨_, rfl, fun gs h => by obtain rfl := Option.some.inj h; exact ⟨_, HN.out.high HN.out.top (Nat.le_refl _)⟩, HB.out⟩
  · have n40 : (40 : Int) < (ss.length : Int) := by omega
    have HF : Hid (bookF ss = none) := by show _ = _; unfold bookF; rw [if_neg h40]
    go_enter Tryd.func34, Tryd.ntmps34
    go_wp2
    go_ret2
    rw [HF.out]
    exact ⟨_, rfl, fun gs h => (by cases h), Below.refl _ _⟩
end Go.Proofs.YtbgomhgohphglaaDoor

namespace Go.Proofs.YtbgomhgohphglaaDoor
open Go.RowKit

def PfRel (w : World) (gs : List (List Rw)) (key : ByteArray) (vlo vhi vlk : Value) (wr : World) : Prop :=
  ∃ lo hi lk : Nat, lo ≤ hi ∧ hi ≤ gs.length ∧ lk + (hi - lo) ≤ gs.length ∧ vlo = .int .i64 (lo : Int) ∧ vhi = .int .i64 (hi : Int) ∧ vlk = .int .i64 (lk : Int) ∧ pfF gs key lo hi lk = pageF gs key ∧ wr = w

set_option maxRecDepth 100000 in
set_option maxHeartbeats 4000000 in
theorem pageFor_any {w : World} {lo hi : Nat} {v : Value} {gs : List (List Rw)} {vs : List Value} (key : ByteArray) (hN : NestR w lo hi v gs vs) (h40 : gs.length ≤ 1048576) (h60 : ∀ l ∈ gs, 0 < l.length ∧ l.length ≤ 1048576) :
    Calls Tryd.prog 35 #[v, .string key] w fun e w' => e = .returned (.tuple #[.int .i64 ((pageF gs key).1 : Int), .int .i64 ((pageF gs key).2 : Int)]) ∧ w' = w := by
  obtain ⟨a, c, rfl, fm⟩ := hN.form
  have HFM : Hid _ := fm
  have HN : Hid (NestR w lo hi _ gs vs) := hN
  have H60 : Hid (∀ l ∈ gs, 0 < l.length ∧ l.length ≤ 1048576) := h60
  obtain ⟨R, HR⟩ : ∃ R, Hid (pageF gs key = R) := ⟨_, rfl⟩
  rw [HR.out]
  clear hN fm h60
  go_enter Tryd.func35, Tryd.ntmps35
  go_wp2_with fail
  go_loopw [6, 7, 8] (fun vlo vhi vlk wr => PfRel w gs key vlo vhi vlk wr) (fun vlo vhi _ _ => (intOf vhi).toNat - (intOf vlo).toNat)
  case atStart => exact ⟨0, gs.length, 0, by omega, by omega, by omega, rfl, rfl, rfl, rfl, rfl⟩
  case round =>
    obtain ⟨l0, h0, k0, q1, q2, q3, rfl, rfl, rfl, hE, rfl⟩ := hrel
    have HE : Hid _ := hE
    clear hE
    by_cases hlt : l0 < h0
    · have hlt8 : (l0 : Int) < (h0 : Int) := by omega
      obtain ⟨m, HM⟩ : ∃ m, Hid ((l0 + h0) / 2 = m) := ⟨_, rfl⟩
      have hm := HM.out
      have hm1 : l0 ≤ m := by omega
      have hm2 : m < h0 := by omega
      have hq : ((l0 : Int) + (h0 : Int)).tdiv 2 = (m : Int) := by rw [Int.tdiv_eq_ediv_of_nonneg (by omega)]; omega
      have hm8 : (m : Int) < (gs.length : Int) := by omega
      obtain ⟨l, hl⟩ : ∃ l, gs[m]? = some l := ⟨_, List.getElem?_eq_getElem (by omega)⟩
      obtain ⟨vl, hvl, hI, _⟩ := HN.out.ins m l hl
      obtain ⟨gb, rfl, _, _, cb, _⟩ := HFM.out m _ hvl
      have hcb := rw_cell_lt cb
      obtain ⟨p1, p2⟩ := H60.out l (List.mem_of_getElem? hl)
      obtain ⟨gl, cl, rfl, ql⟩ := rws_at hI p1
      obtain ⟨xl, hxl⟩ : ∃ xl, l[l.length - 1]? = some xl := ⟨_, List.getElem?_eq_getElem (by omega)⟩
      have LK := lastKey_any (c := cl) p1 p2 (ql _ xl hxl)
      have hgm : gs[(l0 + h0) / 2]? = some l := by rw [hm]; exact hl
      have hek := endK_at hxl
      clear hvl hI ql hxl hl hm
      cases hlk : ltK xl.key key
      · have HE2 : Hid (pfF gs key l0 m (k0 + 1) = pageF gs key) := by show _ = _; rw [← HE.out, pfF_down hlt hgm (by rw [hek]; exact hlk), HM.out]
        unfold ltK at hlk
        clear hgm hek HE
        go_wp2_with fail
        refine LK.mono ?_
        rintro e w2 ⟨rfl, rfl⟩
        clear LK
        go_wp2
        exact ⟨⟨l0, m, k0 + 1, by omega, by omega, by omega, rfl, rfl, by go_num, HE2.out, rfl⟩, by simp [intOf]; omega⟩
      · have HE2 : Hid (pfF gs key (m + 1) h0 (k0 + 1) = pageF gs key) := by show _ = _; rw [← HE.out, pfF_up hlt hgm (by rw [hek]; exact hlk), HM.out]
        unfold ltK at hlk
        clear hgm hek HE
        go_wp2_with fail
        refine LK.mono ?_
        rintro e w2 ⟨rfl, rfl⟩
        clear LK
        go_wp2
        exact ⟨⟨m + 1, h0, k0 + 1, by omega, by omega, by omega, by go_num, rfl, by go_num, HE2.out, rfl⟩, by simp [intOf]; omega⟩
    · have hlt8 : ¬ (l0 : Int) < (h0 : Int) := by omega
      have HE2 : Hid (R = (h0, k0)) := by show _ = _; rw [← HR.out, ← HE.out, pfF_end hlt]
      clear HE
      go_wp2
      go_ret2
      rw [HE2.out]
      exact ⟨rfl, rfl⟩
end Go.Proofs.YtbgomhgohphglaaDoor

namespace Go.Proofs.YtbgomhgohphglaaDoor
open Go.RowKit

def BsRel (w : World) (l : List Rw) (key : ByteArray) (vi vj : Value) (wr : World) : Prop :=
  ∃ i j : Nat, i ≤ j ∧ j ≤ l.length ∧ vi = .int .i64 (i : Int) ∧ vj = .int .i64 (j : Int) ∧ bsF l key i j = placeF l key ∧ Below w.heap.size w wr

set_option maxRecDepth 100000 in
set_option maxHeartbeats 4000000 in
theorem bsFunc_any {w : World} {a : Option Addr} {c : Nat} {l : List Rw} (key : ByteArray) (hS : SlRw w a l) (hl : l.length ≤ 1048576) :
    Calls Tryd.prog 65 #[.slice a l.length c, .string key, .func (Fn.func 66) #[] #[]] w fun e w' => e = .returned (.tuple #[.int .i64 (placeF l key : Int), .bool (thereF l key)]) ∧ Below w.heap.size w w' := by
  have HS : Hid (SlRw w a l) := hS
  obtain ⟨R, HR⟩ : ∃ R, Hid (placeF l key = R) := ⟨_, rfl⟩
  obtain ⟨T, HT⟩ : ∃ T, Hid (thereF l key = T) := ⟨_, rfl⟩
  rw [HR.out, HT.out]
  clear hS
  go_enter Tryd.func65, Tryd.ntmps65
  go_wp2_with fail
  go_loopw [9, 10] (fun vi vj wr => BsRel w l key vi vj wr) (fun vi vj _ => (intOf vj).toNat - (intOf vi).toNat)
  case atStart => exact ⟨0, l.length, by omega, by omega, rfl, rfl, rfl, Below.refl _ _⟩
  case round =>
    obtain ⟨i, j, q1, q2, rfl, rfl, hE, hb⟩ := hrel
    have HE : Hid _ := hE
    have HB : Hid (Below w.heap.size w wr) := hb
    by_cases hlt : i < j
    · have hlt8 : (i : Int) < (j : Int) := by omega
      obtain ⟨m, HM⟩ : ∃ m, Hid ((i + j) / 2 = m) := ⟨_, rfl⟩
      have hm := HM.out
      have hm1 : i ≤ m := by omega
      have hm2 : m < j := by omega
      have hm8 : (m : Int) < (l.length : Int) := by omega
      obtain ⟨x, hx⟩ : ∃ x, l[m]? = some x := ⟨_, List.getElem?_eq_getElem (by omega)⟩
      have hxa : rwAt l ((i + j) / 2) = x := by rw [hm]; unfold rwAt; rw [hx]; rfl
      rcases HS.out.below hb (Nat.le_refl _) with h0 | ⟨b, o, rfl, hC⟩
      · rw [h0] at hx; simp at hx
      obtain ⟨a0, a1, a2⟩ := hC m x hx
      have hbl := rw_cell_lt a0
      have PC := placeCmp_any x key wr
      have hw1 : IntKind.wrap .u64 ((i : Int) + (j : Int)) = (i : Int) + (j : Int) := by
        show _ = _
        unfold IntKind.wrap
        simp [IntKind.signed, IntKind.bits]
        omega
      clear hC hx hE hb
      by_cases hk : cmpK x.key key < 0
      · have HE2 : Hid (bsF l key (m + 1) j = placeF l key) := by show _ = _; rw [← HE.out, bsF_up hlt (by rw [hxa]; exact hk), HM.out]
        clear hxa HE HM
        generalize cmpK x.key key = cv at *
        go_wp2_with fail
        refine PC.mono ?_
        rintro e w2 ⟨rfl, b2⟩
        have HB2 : Hid (Below w.heap.size w w2) := HB.out.trans (b2.mono HB.out.size)
        clear PC b2 HB
        go_wp2
        exact ⟨⟨m + 1, j, by omega, by omega, congrArg (Value.int IntKind.i64) (by omega), rfl, HE2.out, HB2.out⟩, by simp [intOf]; omega⟩
      · have HE2 : Hid (bsF l key i m = placeF l key) := by show _ = _; rw [← HE.out, bsF_down hlt (by rw [hxa]; exact hk), HM.out]
        clear hxa HE HM
        generalize cmpK x.key key = cv at *
        go_wp2_with fail
        refine PC.mono ?_
        rintro e w2 ⟨rfl, b2⟩
        have HB2 : Hid (Below w.heap.size w w2) := HB.out.trans (b2.mono HB.out.size)
        clear PC b2 HB
        go_wp2
        exact ⟨⟨i, m, by omega, by omega, rfl, congrArg (Value.int IntKind.i64) (by omega), HE2.out, HB2.out⟩, by simp [intOf]; omega⟩
    · have hlt8 : ¬ (i : Int) < (j : Int) := by omega
      have HRi : Hid (R = i) := by show _ = _; rw [← HR.out, ← HE.out, bsF_end hlt]
      by_cases hil : i < l.length
      · have hil8 : (i : Int) < (l.length : Int) := by omega
        obtain ⟨x, hx⟩ : ∃ x, l[i]? = some x := ⟨_, List.getElem?_eq_getElem hil⟩
        have hxa : rwAt l i = x := by unfold rwAt; rw [hx]; rfl
        have HTi : Hid (T = decide (cmpK x.key key = 0)) := by show _ = _; rw [← HT.out]; unfold thereF; rw [HR.out, HRi.out, hxa, decide_eq_true hil, Bool.true_and]
        rcases HS.out.below hb (Nat.le_refl _) with h0 | ⟨b, o, rfl, hC⟩
        · rw [h0] at hx; simp at hx
        obtain ⟨a0, a1, a2⟩ := hC i x hx
        have hbl := rw_cell_lt a0
        have PC := placeCmp_any x key wr
        clear hC hx hE hb HE hxa
        by_cases hk : cmpK x.key key = 0
        · have HT2 : Hid (T = true) := by show _ = _; rw [HTi.out, decide_eq_true hk]
          clear HTi
          generalize cmpK x.key key = cv at *
          go_wp2_with fail
          refine PC.mono ?_
          rintro e w2 ⟨rfl, b2⟩
          have HB2 : Hid (Below w.heap.size w w2) := HB.out.trans (b2.mono HB.out.size)
          clear PC b2 HB
          go_wp2
          go_ret2
          rw [HRi.out, HT2.out]
          exact ⟨rfl, HB2.out⟩
        · have HT2 : Hid (T = false) := by show _ = _; rw [HTi.out, decide_eq_false hk]
          clear HTi
          generalize cmpK x.key key = cv at *
          go_wp2_with fail
          refine PC.mono ?_
          rintro e w2 ⟨rfl, b2⟩
          have HB2 : Hid (Below w.heap.size w w2) := HB.out.trans (b2.mono HB.out.size)
          clear PC b2 HB
          go_wp2
          go_ret2
          rw [HRi.out, HT2.out]
          exact ⟨by simp [hk], HB2.out⟩
      · have hil8 : ¬ (i : Int) < (l.length : Int) := by omega
        have HT2 : Hid (T = false) := by show _ = _; rw [← HT.out]; unfold thereF; rw [HR.out, HRi.out, decide_eq_false hil]; rfl
        clear hE HE
        go_wp2
        go_ret2
        rw [HRi.out, HT2.out]
        exact ⟨rfl, hb⟩

set_option maxRecDepth 100000 in
set_option maxHeartbeats 1000000 in
theorem placeOf_any {w : World} {a : Option Addr} {c : Nat} {l : List Rw} (key : ByteArray) (hS : SlRw w a l) (hl : l.length ≤ 1048576) :
    Calls Tryd.prog 36 #[.slice a l.length c, .string key] w fun e w' => e = .returned (.tuple #[.int .i64 (placeF l key : Int), .bool (thereF l key)]) ∧ Below w.heap.size w w' := by
  have BS := bsFunc_any (c := c) key hS hl
  generalize placeF l key = R at *
  generalize thereF l key = T at *
  clear hS
  go_enter Tryd.func36, Tryd.ntmps36
  go_wp2_with fail
  refine BS.mono ?_
  rintro e w2 ⟨rfl, b2⟩
  clear BS
  go_wp2
  go_ret2
  exact ⟨rfl, b2⟩
end Go.Proofs.YtbgomhgohphglaaDoor
