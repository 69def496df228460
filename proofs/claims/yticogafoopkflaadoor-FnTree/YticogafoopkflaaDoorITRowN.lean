/- The program's (*pageReader).takeRow where the page lacks the row: the panic. -/
import Derived.Test.YticogafoopkflaaDoorITRow6
namespace Go.Proofs.YticogafoopkflaaDoor
open Go.RowKit

/-- What is panicked with. -/
def ErrG (w : World) (ty : TypeId) (pv : Value) : Prop := w.cell? ⟨0, 0, none⟩ = some (.iface ty pv)

theorem ErrG.lt {w : World} {ty : TypeId} {pv : Value} (h : ErrG w ty pv) : 0 < w.heap.size := rw_cell_lt h
theorem ErrG.grown {w w' : World} {b : Nat} {ty : TypeId} {pv : Value} (h : ErrG w ty pv) (hg : w.grownBy w' (some b)) (hb : 0 < b) : ErrG w' ty pv :=
  (World.cell?_of_block (a := ⟨0, 0, none⟩) (hg.block _ h.lt (fun e => by have h2 : 0 = b := Option.some.inj e; omega))).trans h
theorem ErrG.alloc {w : World} {ty : TypeId} {pv : Value} (h : ErrG w ty pv) (o : Obj) : ErrG (w.alloc o) ty pv :=
  (World.cell?_of_block (a := ⟨0, 0, none⟩) (Below.heap_alloc w o _ h.lt)).trans h
theorem ErrG.drew {w : World} {ty : TypeId} {pv : Value} (h : ErrG w ty pv) : ErrG w.drew ty pv := h

theorem take_noG {w : World} {b n : Nat} {t : ByteArray} {ty : TypeId} {pv : Value} (hg : ErrG w ty pv) (hb : PgR w b t) (hn : t.size < n) :
    Calls Tryd.prog 62 #[.pointer (some ⟨b, 0, none⟩), .int .i64 (n : Int)] w fun e w' => e = .panicked [{ v := .iface ty pv, recovered := false }] ∧ w.grownBy w' (some b) :=
  (take_no hg hb hn).mono fun e w' ⟨h1, h2⟩ => ⟨h1, by rw [h2]; exact World.grownBy.refl _ _⟩

set_option maxRecDepth 100000 in
set_option maxHeartbeats 4000000 in
theorem takeRow_no {w : World} {b : Nat} {t p : ByteArray} {ty : TypeId} {pv : Value} (hg : ErrG w ty pv) (hgb : 0 < b) (hb : PgR w b t) (hok : okRow p t = false) (_hp : p.size ≤ 1048576) (htz : t.size ≤ 1048576) :
    Calls Tryd.prog 63 #[.pointer (some ⟨b, 0, none⟩), .string p] w fun e w' => e = .panicked [{ v := .iface ty pv, recovered := false }] ∧ w.grownBy w' (some b) := by
  have hbl := hb.lt
  by_cases h4 : 4 ≤ t.size
  · have T0 : Calls Tryd.prog 62 #[.pointer (some ⟨b, 0, none⟩), .int .i64 4] _ _ := take_okG (n := 4) (hb.alloc (.cells #[.string ⟨#[]⟩, .string ⟨#[]⟩, .string ⟨#[]⟩] 32)) h4
    have G0 := hg.alloc (.cells #[.string ⟨#[]⟩, .string ⟨#[]⟩, .string ⟨#[]⟩] 32)
    have x0 : ∀ u : World, (Instr.index 9 (.string (t.extract 0 4)) (.int .i64 0)).run Tryd.prog u = .ok (.int .u8 (hd t 0 : Int)) u := hd_index h4 0 (by omega)
    have x1 : ∀ u : World, (Instr.index 9 (.string (t.extract 0 4)) (.int .i64 1)).run Tryd.prog u = .ok (.int .u8 (hd t 1 : Int)) u := hd_index h4 1 (by omega)
    have x2 : ∀ u : World, (Instr.index 9 (.string (t.extract 0 4)) (.int .i64 2)).run Tryd.prog u = .ok (.int .u8 (hd t 2 : Int)) u := hd_index h4 2 (by omega)
    have x3 : ∀ u : World, (Instr.index 9 (.string (t.extract 0 4)) (.int .i64 3)).run Tryd.prog u = .ok (.int .u8 (hd t 3 : Int)) u := hd_index h4 3 (by omega)
    have l0 := hd_lt t 0
    have l1 := hd_lt t 1
    have l2 := hd_lt t 2
    have l3 := hd_lt t 3
    rw [show t.extract 4 t.size = lf1 t from rfl] at T0
    by_cases hn : hd t 0 ≤ p.size
    · have s1 := lf1_size (t := t)
      have hn8 : (hd t 0 : Int) ≤ (p.size : Int) := by omega
      have q0 : (p.extract 0 (hd t 0)).size = hd t 0 := ext_size _ hn
      have NO := fun (u : World) (tt : ByteArray) (m : Nat) (hG : ErrG u ty pv) (h : PgR u b tt) (hm : tt.size < m) => take_noG (n := m) hG h hm
      by_cases hA : 4 + hd t 1 ≤ t.size
      · have s2 := lf2_size (t := t) hA
        have TA := fun (u : World) (h : PgR u b (lf1 t)) => take_okG (n := hd t 1) h (by omega)
        rw [show (lf1 t).extract (hd t 1) (lf1 t).size = lf2 t from rfl] at TA
        have q1 : ((lf1 t).extract 0 (hd t 1)).size = hd t 1 := ext_size _ (by omega)
        by_cases hB : 4 + hd t 1 + hd t 2 ≤ t.size
        · have s3 := lf3_size (t := t) hB
          have hC : ¬ 4 + hd t 1 + hd t 2 + hd t 3 ≤ t.size := fun h => by
            unfold okRow at hok
            rw [decide_eq_true h4, decide_eq_true hn, decide_eq_true h] at hok
            cases hok
          have TB := fun (u : World) (h : PgR u b (lf2 t)) => take_okG (n := hd t 2) h (by omega)
          rw [show (lf2 t).extract (hd t 2) (lf2 t).size = lf3 t from rfl] at TB
          have TN := fun (u : World) (hG : ErrG u ty pv) (h : PgR u b (lf3 t)) => NO u (lf3 t) (hd t 3) hG h (by omega)
          generalize (lf1 t).extract 0 (hd t 1) = kx at *
          generalize (lf2 t).extract 0 (hd t 2) = tx at *
          generalize hd t 0 = n0 at *
          generalize hd t 1 = k1 at *
          generalize hd t 2 = k2 at *
          generalize hd t 3 = k3 at *
          generalize lf1 t = t1 at *
          generalize lf2 t = t2 at *
          generalize lf3 t = t3 at *
          generalize t.extract 0 4 = hx at *
          go_enter Tryd.func63, Tryd.ntmps63
          go_wp2_with fail
          refine T0.mono ?_
          rintro e w1 ⟨rfl, P1, g1⟩
          have HTA : Hid (Calls _ _ _ _ _) := TA _ P1.drew
          have HE1 : Hid (ErrG w1 ty pv) := G0.grown g1 hgb
          have HG1 : Hid (World.grownBy _ _ _) := grown_al g1 hbl
          have HTN : Hid _ := TN
          have HTB : Hid _ := TB
          clear T0 TN NO TA hb P1 g1 hok TB
          go_wp2_with fail
          have v1 : IntKind.i64.wrap (k1 : Int) = (k1 : Int) := by rw [IntKind.wrap_i64]; omega
          have v2 : IntKind.i64.wrap (k2 : Int) = (k2 : Int) := by rw [IntKind.wrap_i64]; omega
          have v3 : IntKind.i64.wrap (k3 : Int) = (k3 : Int) := by rw [IntKind.wrap_i64]; omega
          have hc1 : ¬ 9223372036854775807 < n0 + k1 := by omega
          refine wp_region_any (by kernel_rfl) ?_
          refine wpAny_take (i := 0) (v := .string p) rfl (by kernel_rfl) (by kernel_rfl) (by kernel_rfl) (fun _ _ _ h => h) (Or.inl ⟨by rfl, fun u => (by go_simp)⟩) ?_
          refine wpAny_take (i := 1) (v := .int .i64 (n0 : Int)) rfl (by kernel_rfl) (by kernel_rfl) (by kernel_rfl) (fun _ _ _ h => h) (Or.inl ⟨by rfl, fun u => (by go_simp)⟩) ?_
          refine wpAny_take (i := 2) (v := .string (p.extract 0 n0)) rfl (by kernel_rfl) (by kernel_rfl) (by kernel_rfl) (fun _ _ _ h => h) (Or.inl ⟨by rfl, fun u => (by go_simp)⟩) ?_
          refine wpAny_take (i := 3) (v := .pointer (some ⟨b, 0, none⟩)) rfl (by kernel_rfl) (by kernel_rfl) (by kernel_rfl) (fun _ _ _ h => h) (Or.inl ⟨by rfl, fun u => (by go_simp)⟩) ?_
          refine wpAny_take (i := 4) (v := .string hx) rfl (by kernel_rfl) (by kernel_rfl) (by kernel_rfl) (fun _ _ _ h => h) (Or.inl ⟨by rfl, fun u => (by go_simp)⟩) ?_
          refine wpAny_take (i := 5) (v := .int .u8 (k1 : Int)) rfl (by kernel_rfl) (by kernel_rfl) (by kernel_rfl) (fun _ _ _ h => h) (Or.inl ⟨by rfl, fun u => (by go_simp)⟩) ?_
          refine wpAny_take (i := 6) (v := .int .i64 (k1 : Int)) rfl (by kernel_rfl) (by kernel_rfl) (by kernel_rfl) (fun _ _ _ h => h) (Or.inl ⟨by rfl, fun u => (by go_simp)⟩) ?_
          refine wpAny_take (i := 9) (v := .pointer (some ⟨b, 0, none⟩)) rfl (by kernel_rfl) (by kernel_rfl) (by kernel_rfl) (fun _ _ _ h => h) (Or.inl ⟨by rfl, fun u => (by go_simp)⟩) ?_
          refine wpAny_take (i := 10) (v := .string hx) rfl (by kernel_rfl) (by kernel_rfl) (by kernel_rfl) (fun _ _ _ h => h) (Or.inl ⟨by rfl, fun u => (by go_simp)⟩) ?_
          refine wpAny_take (i := 11) (v := .int .u8 (k2 : Int)) rfl (by kernel_rfl) (by kernel_rfl) (by kernel_rfl) (fun _ _ _ h => h) (Or.inl ⟨by rfl, fun u => (by go_simp)⟩) ?_
          refine wpAny_take (i := 12) (v := .int .i64 (k2 : Int)) rfl (by kernel_rfl) (by kernel_rfl) (by kernel_rfl) (fun _ _ _ h => h) (Or.inl ⟨by rfl, fun u => (by go_simp)⟩) ?_
          refine wpAny_take (i := 14) (v := .pointer (some ⟨b, 0, none⟩)) rfl (by kernel_rfl) (by kernel_rfl) (by kernel_rfl) (fun _ _ _ h => h) (Or.inl ⟨by rfl, fun u => (by go_simp)⟩) ?_
          refine wpAny_take (i := 15) (v := .string hx) rfl (by kernel_rfl) (by kernel_rfl) (by kernel_rfl) (fun _ _ _ h => h) (Or.inl ⟨by rfl, fun u => (by go_simp)⟩) ?_
          refine wpAny_take (i := 16) (v := .int .u8 (k3 : Int)) rfl (by kernel_rfl) (by kernel_rfl) (by kernel_rfl) (fun _ _ _ h => h) (Or.inl ⟨by rfl, fun u => (by go_simp)⟩) ?_
          refine wpAny_take (i := 17) (v := .int .i64 (k3 : Int)) rfl (by kernel_rfl) (by kernel_rfl) (by kernel_rfl) (fun _ _ _ h => h) (Or.inl ⟨by rfl, fun u => (by go_simp)⟩) ?_
          refine wpAny_ready (rs := [7]) (by kernel_rfl) (by simp) ?_
          refine AllReady.cons rfl (fun K hK => ?_) AllReady.nil
          go_simp
          go_at_call 62
          refine HTA.out.mono ?_
          rintro e w2 ⟨rfl, P2, g2⟩
          refine hK _ _ ?_
          clear hK
          refine wpAny_take (i := 8) (v := .string (p.extract 0 n0 ++ kx)) rfl (by kernel_rfl) (by kernel_rfl) (by kernel_rfl) (fun _ _ _ h => h) (Or.inl ⟨by rfl, fun u => (by go_simp)⟩) ?_
          refine wpAny_ready (rs := [13]) (by kernel_rfl) (by simp) ?_
          refine AllReady.cons rfl (fun K hK => ?_) AllReady.nil
          go_simp
          go_at_call 62
          refine (HTB.out _ P2).mono ?_
          rintro e w3 ⟨rfl, P3, g3⟩
          refine hK _ _ ?_
          clear hK
          refine wpAny_ready (rs := [18]) (by kernel_rfl) (by simp) ?_
          refine AllReady.cons rfl (fun K hK => ?_) AllReady.nil
          go_simp
          go_at_call 62
          refine (HTN.out _ (((HE1.out.drew).grown g2 hgb).grown g3 hgb) P3).mono ?_
          rintro e w4 ⟨rfl, g4⟩
          exact ⟨rfl, rfl, ((HG1.out.trans (grown_dr g2)).trans g3).trans g4⟩
        · have TN := fun (u : World) (hG : ErrG u ty pv) (h : PgR u b (lf2 t)) => NO u (lf2 t) (hd t 2) hG h (by omega)
          generalize (lf1 t).extract 0 (hd t 1) = kx at *
          generalize hd t 0 = n0 at *
          generalize hd t 1 = k1 at *
          generalize hd t 2 = k2 at *
          generalize hd t 3 = k3 at *
          generalize lf1 t = t1 at *
          generalize lf2 t = t2 at *
          generalize t.extract 0 4 = hx at *
          go_enter Tryd.func63, Tryd.ntmps63
          go_wp2_with fail
          refine T0.mono ?_
          rintro e w1 ⟨rfl, P1, g1⟩
          have HTA : Hid (Calls _ _ _ _ _) := TA _ P1.drew
          have HE1 : Hid (ErrG w1 ty pv) := G0.grown g1 hgb
          have HG1 : Hid (World.grownBy _ _ _) := grown_al g1 hbl
          have HTN : Hid _ := TN
          clear T0 TN NO TA hb P1 g1 hok
          go_wp2_with fail
          have v1 : IntKind.i64.wrap (k1 : Int) = (k1 : Int) := by rw [IntKind.wrap_i64]; omega
          have v2 : IntKind.i64.wrap (k2 : Int) = (k2 : Int) := by rw [IntKind.wrap_i64]; omega
          have v3 : IntKind.i64.wrap (k3 : Int) = (k3 : Int) := by rw [IntKind.wrap_i64]; omega
          have hc1 : ¬ 9223372036854775807 < n0 + k1 := by omega
          refine wp_region_any (by kernel_rfl) ?_
          refine wpAny_take (i := 0) (v := .string p) rfl (by kernel_rfl) (by kernel_rfl) (by kernel_rfl) (fun _ _ _ h => h) (Or.inl ⟨by rfl, fun u => (by go_simp)⟩) ?_
          refine wpAny_take (i := 1) (v := .int .i64 (n0 : Int)) rfl (by kernel_rfl) (by kernel_rfl) (by kernel_rfl) (fun _ _ _ h => h) (Or.inl ⟨by rfl, fun u => (by go_simp)⟩) ?_
          refine wpAny_take (i := 2) (v := .string (p.extract 0 n0)) rfl (by kernel_rfl) (by kernel_rfl) (by kernel_rfl) (fun _ _ _ h => h) (Or.inl ⟨by rfl, fun u => (by go_simp)⟩) ?_
          refine wpAny_take (i := 3) (v := .pointer (some ⟨b, 0, none⟩)) rfl (by kernel_rfl) (by kernel_rfl) (by kernel_rfl) (fun _ _ _ h => h) (Or.inl ⟨by rfl, fun u => (by go_simp)⟩) ?_
          refine wpAny_take (i := 4) (v := .string hx) rfl (by kernel_rfl) (by kernel_rfl) (by kernel_rfl) (fun _ _ _ h => h) (Or.inl ⟨by rfl, fun u => (by go_simp)⟩) ?_
          refine wpAny_take (i := 5) (v := .int .u8 (k1 : Int)) rfl (by kernel_rfl) (by kernel_rfl) (by kernel_rfl) (fun _ _ _ h => h) (Or.inl ⟨by rfl, fun u => (by go_simp)⟩) ?_
          refine wpAny_take (i := 6) (v := .int .i64 (k1 : Int)) rfl (by kernel_rfl) (by kernel_rfl) (by kernel_rfl) (fun _ _ _ h => h) (Or.inl ⟨by rfl, fun u => (by go_simp)⟩) ?_
          refine wpAny_take (i := 9) (v := .pointer (some ⟨b, 0, none⟩)) rfl (by kernel_rfl) (by kernel_rfl) (by kernel_rfl) (fun _ _ _ h => h) (Or.inl ⟨by rfl, fun u => (by go_simp)⟩) ?_
          refine wpAny_take (i := 10) (v := .string hx) rfl (by kernel_rfl) (by kernel_rfl) (by kernel_rfl) (fun _ _ _ h => h) (Or.inl ⟨by rfl, fun u => (by go_simp)⟩) ?_
          refine wpAny_take (i := 11) (v := .int .u8 (k2 : Int)) rfl (by kernel_rfl) (by kernel_rfl) (by kernel_rfl) (fun _ _ _ h => h) (Or.inl ⟨by rfl, fun u => (by go_simp)⟩) ?_
          refine wpAny_take (i := 12) (v := .int .i64 (k2 : Int)) rfl (by kernel_rfl) (by kernel_rfl) (by kernel_rfl) (fun _ _ _ h => h) (Or.inl ⟨by rfl, fun u => (by go_simp)⟩) ?_
          refine wpAny_take (i := 14) (v := .pointer (some ⟨b, 0, none⟩)) rfl (by kernel_rfl) (by kernel_rfl) (by kernel_rfl) (fun _ _ _ h => h) (Or.inl ⟨by rfl, fun u => (by go_simp)⟩) ?_
          refine wpAny_take (i := 15) (v := .string hx) rfl (by kernel_rfl) (by kernel_rfl) (by kernel_rfl) (fun _ _ _ h => h) (Or.inl ⟨by rfl, fun u => (by go_simp)⟩) ?_
          refine wpAny_take (i := 16) (v := .int .u8 (k3 : Int)) rfl (by kernel_rfl) (by kernel_rfl) (by kernel_rfl) (fun _ _ _ h => h) (Or.inl ⟨by rfl, fun u => (by go_simp)⟩) ?_
          refine wpAny_take (i := 17) (v := .int .i64 (k3 : Int)) rfl (by kernel_rfl) (by kernel_rfl) (by kernel_rfl) (fun _ _ _ h => h) (Or.inl ⟨by rfl, fun u => (by go_simp)⟩) ?_
          refine wpAny_ready (rs := [7]) (by kernel_rfl) (by simp) ?_
          refine AllReady.cons rfl (fun K hK => ?_) AllReady.nil
          go_simp
          go_at_call 62
          refine HTA.out.mono ?_
          rintro e w2 ⟨rfl, P2, g2⟩
          refine hK _ _ ?_
          clear hK
          refine wpAny_take (i := 8) (v := .string (p.extract 0 n0 ++ kx)) rfl (by kernel_rfl) (by kernel_rfl) (by kernel_rfl) (fun _ _ _ h => h) (Or.inl ⟨by rfl, fun u => (by go_simp)⟩) ?_
          refine wpAny_ready (rs := [13]) (by kernel_rfl) (by simp) ?_
          refine AllReady.cons rfl (fun K hK => ?_) AllReady.nil
          go_simp
          go_at_call 62
          refine (HTN.out _ ((HE1.out.drew).grown g2 hgb) P2).mono ?_
          rintro e w3 ⟨rfl, g3⟩
          exact ⟨rfl, rfl, (HG1.out.trans (grown_dr g2)).trans g3⟩
      · have TN := fun (u : World) (hG : ErrG u ty pv) (h : PgR u b (lf1 t)) => NO u (lf1 t) (hd t 1) hG h (by omega)
        generalize hd t 0 = n0 at *
        generalize hd t 1 = k1 at *
        generalize hd t 2 = k2 at *
        generalize hd t 3 = k3 at *
        generalize lf1 t = t1 at *
        generalize t.extract 0 4 = hx at *
        go_enter Tryd.func63, Tryd.ntmps63
        go_wp2_with fail
        refine T0.mono ?_
        rintro e w1 ⟨rfl, P1, g1⟩
        have HTN : Hid (Calls _ _ _ _ _) := TN _ (G0.grown g1 hgb).drew P1.drew
        have HG1 : Hid (World.grownBy _ _ _) := grown_al g1 hbl
        clear T0 TN NO hb P1 g1 hok
        go_wp2_with fail
        have v1 : IntKind.i64.wrap (k1 : Int) = (k1 : Int) := by rw [IntKind.wrap_i64]; omega
        have v2 : IntKind.i64.wrap (k2 : Int) = (k2 : Int) := by rw [IntKind.wrap_i64]; omega
        have v3 : IntKind.i64.wrap (k3 : Int) = (k3 : Int) := by rw [IntKind.wrap_i64]; omega
        refine wp_region_any (by kernel_rfl) ?_
        refine wpAny_take (i := 0) (v := .string p) rfl (by kernel_rfl) (by kernel_rfl) (by kernel_rfl) (fun _ _ _ h => h) (Or.inl ⟨by rfl, fun u => (by go_simp)⟩) ?_
        refine wpAny_take (i := 1) (v := .int .i64 (n0 : Int)) rfl (by kernel_rfl) (by kernel_rfl) (by kernel_rfl) (fun _ _ _ h => h) (Or.inl ⟨by rfl, fun u => (by go_simp)⟩) ?_
        refine wpAny_take (i := 2) (v := .string (p.extract 0 n0)) rfl (by kernel_rfl) (by kernel_rfl) (by kernel_rfl) (fun _ _ _ h => h) (Or.inl ⟨by rfl, fun u => (by go_simp)⟩) ?_
        refine wpAny_take (i := 3) (v := .pointer (some ⟨b, 0, none⟩)) rfl (by kernel_rfl) (by kernel_rfl) (by kernel_rfl) (fun _ _ _ h => h) (Or.inl ⟨by rfl, fun u => (by go_simp)⟩) ?_
        refine wpAny_take (i := 4) (v := .string hx) rfl (by kernel_rfl) (by kernel_rfl) (by kernel_rfl) (fun _ _ _ h => h) (Or.inl ⟨by rfl, fun u => (by go_simp)⟩) ?_
        refine wpAny_take (i := 5) (v := .int .u8 (k1 : Int)) rfl (by kernel_rfl) (by kernel_rfl) (by kernel_rfl) (fun _ _ _ h => h) (Or.inl ⟨by rfl, fun u => (by go_simp)⟩) ?_
        refine wpAny_take (i := 6) (v := .int .i64 (k1 : Int)) rfl (by kernel_rfl) (by kernel_rfl) (by kernel_rfl) (fun _ _ _ h => h) (Or.inl ⟨by rfl, fun u => (by go_simp)⟩) ?_
        refine wpAny_take (i := 9) (v := .pointer (some ⟨b, 0, none⟩)) rfl (by kernel_rfl) (by kernel_rfl) (by kernel_rfl) (fun _ _ _ h => h) (Or.inl ⟨by rfl, fun u => (by go_simp)⟩) ?_
        refine wpAny_take (i := 10) (v := .string hx) rfl (by kernel_rfl) (by kernel_rfl) (by kernel_rfl) (fun _ _ _ h => h) (Or.inl ⟨by rfl, fun u => (by go_simp)⟩) ?_
        refine wpAny_take (i := 11) (v := .int .u8 (k2 : Int)) rfl (by kernel_rfl) (by kernel_rfl) (by kernel_rfl) (fun _ _ _ h => h) (Or.inl ⟨by rfl, fun u => (by go_simp)⟩) ?_
        refine wpAny_take (i := 12) (v := .int .i64 (k2 : Int)) rfl (by kernel_rfl) (by kernel_rfl) (by kernel_rfl) (fun _ _ _ h => h) (Or.inl ⟨by rfl, fun u => (by go_simp)⟩) ?_
        refine wpAny_take (i := 14) (v := .pointer (some ⟨b, 0, none⟩)) rfl (by kernel_rfl) (by kernel_rfl) (by kernel_rfl) (fun _ _ _ h => h) (Or.inl ⟨by rfl, fun u => (by go_simp)⟩) ?_
        refine wpAny_take (i := 15) (v := .string hx) rfl (by kernel_rfl) (by kernel_rfl) (by kernel_rfl) (fun _ _ _ h => h) (Or.inl ⟨by rfl, fun u => (by go_simp)⟩) ?_
        refine wpAny_take (i := 16) (v := .int .u8 (k3 : Int)) rfl (by kernel_rfl) (by kernel_rfl) (by kernel_rfl) (fun _ _ _ h => h) (Or.inl ⟨by rfl, fun u => (by go_simp)⟩) ?_
        refine wpAny_take (i := 17) (v := .int .i64 (k3 : Int)) rfl (by kernel_rfl) (by kernel_rfl) (by kernel_rfl) (fun _ _ _ h => h) (Or.inl ⟨by rfl, fun u => (by go_simp)⟩) ?_
        refine wpAny_ready (rs := [7]) (by kernel_rfl) (by simp) ?_
        refine AllReady.cons rfl (fun K hK => ?_) AllReady.nil
        go_simp
        go_at_call 62
        refine HTN.out.mono ?_
        rintro e w2 ⟨rfl, g2⟩
        exact ⟨rfl, rfl, HG1.out.trans (grown_dr g2)⟩
    · have hn8 : ¬ (hd t 0 : Int) ≤ (p.size : Int) := by omega
      generalize hd t 0 = n0 at *
      clear x1 x2 x3 hok
      go_enter Tryd.func63, Tryd.ntmps63
      go_wp2_with fail
      refine T0.mono ?_
      rintro e w1 ⟨rfl, P1, g1⟩
      have c1 : w1.cell? ⟨0, 0, none⟩ = some (.iface ty pv) := G0.grown g1 hgb
      have HG : Hid (w.grownBy w1 (some b)) := grown_al g1 hbl
      clear T0 P1 g1
      go_wp2
      exact ⟨rfl, rfl, HG.out⟩
  · have T0 : Calls Tryd.prog 62 #[.pointer (some ⟨b, 0, none⟩), .int .i64 4] _ _ := take_noG (n := 4) (hg.alloc (.cells #[.string ⟨#[]⟩, .string ⟨#[]⟩, .string ⟨#[]⟩] 32)) (hb.alloc (.cells #[.string ⟨#[]⟩, .string ⟨#[]⟩, .string ⟨#[]⟩] 32)) (by omega)
    go_enter Tryd.func63, Tryd.ntmps63
    go_wp2_with fail
    refine T0.mono ?_
    rintro e w1 ⟨rfl, g1⟩
    exact ⟨rfl, rfl, grown_al g1 hbl⟩
end Go.Proofs.YticogafoopkflaaDoor
