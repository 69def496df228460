/- Contracts of the program's (*pageReader).takeRow. -/
import Derived.Test.YticogafoopkflaaDoorITake6
import Derived.Test.YticogafoopkflaaDoorPRead6
import Derived.Test.YticogafoopkflaaDoorISh6
import Derived.Test.YticogafoopkflaaDoorResC
import Derived.Deep.RegionHeldLaw
import Derived.Deep.RegionLaw
namespace Go.Proofs.YticogafoopkflaaDoor
open Go.RowKit

theorem take_okG {w : World} {b n : Nat} {t : ByteArray} (hb : PgR w b t) (hn : n ≤ t.size) :
    Calls Tryd.prog 62 #[.pointer (some ⟨b, 0, none⟩), .int .i64 (n : Int)] w fun e w' => e = .returned (.string (t.extract 0 n)) ∧ PgR w' b (t.extract n t.size) ∧ w.grownBy w' (some b) :=
  (take_ok hb hn).mono fun e w' ⟨h1, h2⟩ => ⟨h1, by rw [h2]; exact hb.set _, by rw [h2]; exact setCell_grown w b 0 _⟩

theorem PgR.alloc {w : World} {b : Nat} {t : ByteArray} (h : PgR w b t) (o : Obj) : PgR (w.alloc o) b t := h.below ((Below.refl _ _).alloc (Nat.le_refl _) _)
theorem PgR.drew {w : World} {b : Nat} {t : ByteArray} (h : PgR w b t) : PgR w.drew b t := h

theorem grown_al {w w' : World} {b : Nat} {o : Obj} (h : (w.alloc o).grownBy w' (some b)) (_hb : b < w.heap.size) : w.grownBy w' (some b) :=
  (World.grownBy_alloc w o (some b)).trans h
theorem grown_dr {w w' : World} {r : Option Nat} (h : w.drew.grownBy w' r) : w.grownBy w' r := ⟨h.os, h.tape, h.output, h.size, h.block⟩

/-- The box of a row that is to be answered. -/
def BoxT (w : World) (b : Nat) : Prop := w.heap[b]? = some (.cells #[.string ⟨#[]⟩, .string ⟨#[]⟩, .string ⟨#[]⟩] 32)

theorem BoxT.lt {w : World} {b : Nat} (h : BoxT w b) : b < w.heap.size := (Array.getElem?_eq_some_iff.1 h).1
theorem BoxT.frozen {w : World} {b : Nat} (h : BoxT w b) (j : Nat) : w.frozen? ⟨b, j, none⟩ = false := by unfold BoxT at h; simp [World.frozen?, h]

theorem three_other (u : World) (b k : Nat) (x0 x1 x2 : Value) (h : b ≠ k) : (((u.setCell ⟨b, 0, none⟩ x0).setCell ⟨b, 1, none⟩ x1).setCell ⟨b, 2, none⟩ x2).heap[k]? = u.heap[k]? := by
  simp [World.setCell, Array.getElem?_modify, h]

theorem grown_new3 {w u : World} {b c : Nat} {x0 x1 x2 : Value} (h : w.grownBy u (some b)) (hc : w.heap.size ≤ c) : w.grownBy (((u.setCell ⟨c, 0, none⟩ x0).setCell ⟨c, 1, none⟩ x1).setCell ⟨c, 2, none⟩ x2) (some b) :=
  ⟨h.os, h.tape, h.output, by simpa using h.size, fun k hk hne => (three_other u c k x0 x1 x2 (by omega)).trans (h.block k hk hne)⟩

theorem boxT_kept {w1 w2 w3 w4 : World} {b c : Nat} (hb : b < c) (h : BoxT w1 c) (g2 : w1.drew.grownBy w2 (some b)) (g3 : w2.grownBy w3 (some b)) (g4 : w3.grownBy w4 (some b)) : BoxT w4 c := by
  have hn : some c ≠ some b := fun e => by cases e; omega
  have h2 : BoxT w2 c := (g2.block c h.lt hn).trans h
  have h3 : BoxT w3 c := (g3.block c h2.lt hn).trans h2
  exact (g4.block c h3.lt hn).trans h3

theorem hd_index {t : ByteArray} (h4 : 4 ≤ t.size) (i : Nat) (hi : i < 4) (u : World) : (Instr.index 9 (.string (t.extract 0 4)) (.int .i64 (i : Int))).run Tryd.prog u = .ok (.int .u8 (hd t i : Int)) u := by
  have h := index_str (t.extract 0 4) i (by rw [ext_size t h4]; omega) u
  rw [bAt_ext t h4 (by omega), Nat.zero_add] at h
  exact h

set_option maxRecDepth 100000 in
set_option maxHeartbeats 4000000 in
theorem takeRow_ok {w : World} {b : Nat} {t p : ByteArray} (hb : PgR w b t) (hok : okRow p t = true) (_hp : p.size ≤ 1048576) (htz : t.size ≤ 1048576) :
    Calls Tryd.prog 63 #[.pointer (some ⟨b, 0, none⟩), .string p] w fun e w' => e = .returned (rwV (rowOf p t)) ∧ PgR w' b (restOf t) ∧ w.grownBy w' (some b) := by
  obtain ⟨h4, hn, h5⟩ := okRow_parts hok
  have hbl := hb.lt
  have T0 : Calls Tryd.prog 62 #[.pointer (some ⟨b, 0, none⟩), .int .i64 4] _ _ := take_okG (n := 4) (hb.alloc (.cells #[.string ⟨#[]⟩, .string ⟨#[]⟩, .string ⟨#[]⟩] 32)) h4
  have x0 : ∀ u : World, (Instr.index 9 (.string (t.extract 0 4)) (.int .i64 0)).run Tryd.prog u = .ok (.int .u8 (hd t 0 : Int)) u := hd_index h4 0 (by omega)
  have x1 : ∀ u : World, (Instr.index 9 (.string (t.extract 0 4)) (.int .i64 1)).run Tryd.prog u = .ok (.int .u8 (hd t 1 : Int)) u := hd_index h4 1 (by omega)
  have x2 : ∀ u : World, (Instr.index 9 (.string (t.extract 0 4)) (.int .i64 2)).run Tryd.prog u = .ok (.int .u8 (hd t 2 : Int)) u := hd_index h4 2 (by omega)
  have x3 : ∀ u : World, (Instr.index 9 (.string (t.extract 0 4)) (.int .i64 3)).run Tryd.prog u = .ok (.int .u8 (hd t 3 : Int)) u := hd_index h4 3 (by omega)
  have l0 := hd_lt t 0
  have l1 := hd_lt t 1
  have l2 := hd_lt t 2
  have l3 := hd_lt t 3
  obtain ⟨hr1, hr2⟩ := row_parts hok
  have s1 := lf1_size (t := t)
  have s2 := lf2_size (t := t) (by omega)
  have s3 := lf3_size (t := t) (by omega)
  have TA := fun (u : World) (h : PgR u b (lf1 t)) => take_okG (n := hd t 1) h (by omega)
  have TB := fun (u : World) (h : PgR u b (lf2 t)) => take_okG (n := hd t 2) h (by omega)
  have TC := fun (u : World) (h : PgR u b (lf3 t)) => take_okG (n := hd t 3) h (by omega)
  rw [← hr2] at TC
  rw [hr1]
  rw [show (lf1 t).extract (hd t 1) (lf1 t).size = lf2 t from rfl] at TA
  rw [show (lf2 t).extract (hd t 2) (lf2 t).size = lf3 t from rfl] at TB
  rw [show t.extract 4 t.size = lf1 t from rfl] at T0
  have q1 : ((lf1 t).extract 0 (hd t 1)).size = hd t 1 := ext_size _ (by omega)
  have q0 : (p.extract 0 (hd t 0)).size = hd t 0 := ext_size _ hn
  have hn8 : (hd t 0 : Int) ≤ (p.size : Int) := by omega
  unfold rwV
  simp only
  clear hok hr1 hr2 s1 s2 s3
  generalize (lf1 t).extract 0 (hd t 1) = kx at *
  generalize (lf2 t).extract 0 (hd t 2) = tx at *
  generalize (lf3 t).extract 0 (hd t 3) = vx at *
  generalize hd t 0 = n0 at *
  generalize hd t 1 = k1 at *
  generalize hd t 2 = k2 at *
  generalize hd t 3 = k3 at *
  generalize lf1 t = t1 at *
  generalize lf2 t = t2 at *
  generalize lf3 t = t3 at *
  generalize t.extract 0 4 = hx at *
  generalize restOf t = tz at *
  go_enter Tryd.func63, Tryd.ntmps63
  go_wp2_with fail
  refine T0.mono ?_
  rintro e w1 ⟨rfl, P1, g1⟩
  have HTA : Hid (Calls _ _ _ _ _) := TA _ P1.drew
  have HTB : Hid _ := TB
  have HTC : Hid _ := TC
  have HG1 : Hid (World.grownBy _ _ _) := g1
  have hbx : BoxT w1 w.heap.size := (g1.block w.heap.size (by simp) (fun e => by cases e; omega)).trans (heap_alloc_new w _)
  have HBX : Hid (BoxT w1 w.heap.size) := hbx
  clear T0 TA hb P1 TB TC hbx g1
  go_wp2_with fail
  have hc1 : ¬ 9223372036854775807 < n0 + k1 := by omega
  have v1 : IntKind.i64.wrap (k1 : Int) = (k1 : Int) := by rw [IntKind.wrap_i64]; omega
  have v2 : IntKind.i64.wrap (k2 : Int) = (k2 : Int) := by rw [IntKind.wrap_i64]; omega
  have v3 : IntKind.i64.wrap (k3 : Int) = (k3 : Int) := by rw [IntKind.wrap_i64]; omega
  have hbn : some w.heap.size ≠ some b := fun e => by cases e; omega
  clear hbn
  go_region_law (first
    | (go_simp; go_at_call 62; refine HTA.out.mono ?_; clear HTA; rintro e w2 ⟨rfl, P2, g2⟩; have HTB1 : Hid (Calls _ _ _ _ _) := HTB.out _ P2; have HP2 : Hid (PgR w2 b t2 ∧ w1.drew.grownBy w2 (some b)) := ⟨P2, g2⟩; clear P2 g2)
    | (go_simp; go_at_call 62; refine HTB1.out.mono ?_; clear HTB1; rintro e w3 ⟨rfl, P3, g3⟩; have HTC1 : Hid (Calls _ _ _ _ _) := HTC.out _ P3; have HP3 : Hid (PgR w3 b t3 ∧ w2.grownBy w3 (some b)) := ⟨P3, g3⟩; clear P3 g3)
    | (go_simp; go_at_call 62; refine HTC1.out.mono ?_; clear HTC1; rintro e w4 ⟨rfl, P4, g4⟩; have HP4 : Hid (PgR w4 b tz ∧ w3.grownBy w4 (some b)) := ⟨P4, g4⟩; have hbx4 : BoxT w4 w.heap.size := boxT_kept hbl HBX.out HP2.out.2 HP3.out.2 g4; have z0 := cell_of_row _ _ 0 _ _ _ hbx4; have z1 := cell_of_row _ _ 1 _ _ _ hbx4; have z2 := cell_of_row _ _ 2 _ _ _ hbx4; have fz : ∀ j, w4.frozen? ⟨w.heap.size, j, none⟩ = false := hbx4.frozen; have lz := hbx4.lt; clear hbx4 P4 g4))
  all_goals
    have GG : Hid (w.grownBy w4 (some b)) := (((grown_al HG1.out hbl).trans (grown_dr HP2.out.2)).trans HP3.out.2).trans HP4.out.2
    have PZ : Hid (∀ x0 x1 x2, PgR (((w4.setCell ⟨w.heap.size, 0, none⟩ x0).setCell ⟨w.heap.size, 1, none⟩ x1).setCell ⟨w.heap.size, 2, none⟩ x2) b tz) := fun x0 x1 x2 => (three_other w4 w.heap.size b x0 x1 x2 (by omega)).trans HP4.out.1
    have GZ : Hid (∀ x0 x1 x2, w.grownBy (((w4.setCell ⟨w.heap.size, 0, none⟩ x0).setCell ⟨w.heap.size, 1, none⟩ x1).setCell ⟨w.heap.size, 2, none⟩ x2) (some b)) := fun x0 x1 x2 => grown_new3 GG.out (Nat.le_refl _)
    clear HG1 HP2 HP3 HP4 HBX GG
    go_wp2
    refine bodyPost_ret (v := .agg #[.string (p.extract 0 n0 ++ kx), .string tx, .string vx]) ?_ rfl ⟨rfl, PZ.out _ _ _, GZ.out _ _ _⟩
    rw [results_cell1 rfl]
    go_simp
end Go.Proofs.YticogafoopkflaaDoor
