/- Contract of the program's copyRows. -/
import Derived.Test.YtbgomhgohphglaaDoorCopy6
import Derived.Test.YtbgomhgohphglaaDoorIClone
import Derived.Test.YtbgomhgohphglaaDoorIPage6
import Derived.Test.YtbgomhgohphglaaDoorARw1
import Derived.Deep.RegionHeld
import Derived.Deep.Cut
import Derived.Deep.CutRange
namespace Go.Proofs.YtbgomhgohphglaaDoor
open Go.RowKit

theorem rwAll_string (l : List Rw) : ∀ v ∈ rwAll l, v.oneCell' = true := by
  intro v hv
  simp only [rwAll, List.mem_flatMap] at hv
  obtain ⟨x, _, hx⟩ := hv
  simp [rwC] at hx
  rcases hx with rfl | rfl | rfl <;> rfl

theorem sl_src {w : World} {b o : Nat} {l : List Rw} (h : ∀ (k : Nat) (e : Rw), l[k]? = some e → w.cell? ⟨b, o + k * 3, none⟩ = some (.string e.key) ∧ w.cell? ⟨b, o + k * 3 + 1, none⟩ = some (.string e.text) ∧ w.cell? ⟨b, o + k * 3 + 2, none⟩ = some (.string e.val)) :
    ∀ j v, (rwAll l)[j]? = some v → w.cell? ((⟨b, o, none⟩ : Addr).add j) = some v := by
  intro j v hv
  have hadd : (⟨b, o, none⟩ : Addr).add j = ⟨b, o + j, none⟩ := by unfold Addr.add; split <;> simp_all
  rw [hadd]
  have hj := (List.getElem?_eq_some_iff.1 hv).1
  rw [rwAll_len] at hj
  obtain ⟨k, i, rfl, hi⟩ : ∃ k i, j = k * 3 + i ∧ i < 3 := ⟨j / 3, j % 3, by omega, by omega⟩
  obtain ⟨e, he⟩ : ∃ e, l[k]? = some e := ⟨_, List.getElem?_eq_getElem (by omega)⟩
  rw [rwAll_at l k i e he hi] at hv
  obtain ⟨h0, h1, h2⟩ := h k e he
  rw [show o + (k * 3 + i) = o + k * 3 + i by omega]
  match i, hi with
  | 0, _ => simp [rwC] at hv; subst hv; exact h0
  | 1, _ => simp [rwC] at hv; subst hv; exact h1
  | 2, _ => simp [rwC] at hv; subst hv; exact h2

/-- What is held while a row is put anew with what it was. -/
structure CpS (w : World) (x : Rw) (l : List Rw) (bx g : Nat) (u : World) : Prop where
  box : BoxR6 u bx x
  row : Rws u w.heap.size (.slice (some ⟨g, 0, none⟩) l.length l.length) l
  bel : Below w.heap.size w u

def CpA (w : World) (x : Rw) (l : List Rw) (bx g k : Nat) (u : World) : Prop :=
  u.cell? ⟨bx, 0, none⟩ = some (.string x.key) ∧ u.cell? ⟨bx, 1, none⟩ = some (.string x.text) ∧ u.cell? ⟨bx, 2, none⟩ = some (.string x.val) ∧ u.cell? ⟨g, k * 3, none⟩ = some (.string x.key) ∧ u.cell? ⟨g, k * 3 + 1, none⟩ = some (.string x.text) ∧ u.cell? ⟨g, k * 3 + 2, none⟩ = some (.string x.val) ∧ u.frozen? ⟨g, k * 3, none⟩ = false ∧ u.frozen? ⟨g, k * 3 + 1, none⟩ = false ∧ u.frozen? ⟨g, k * 3 + 2, none⟩ = false ∧ bx < u.heap.size ∧ g < u.heap.size ∧ CpS w x l bx g u

theorem CpS.all {w : World} {x : Rw} {l : List Rw} {bx g k : Nat} {u : World} (h : CpS w x l bx g u) (hx : l[k]? = some x) : CpA w x l bx g k u := by
  obtain ⟨c0, c1, c2⟩ := h.box.cells
  obtain ⟨d0, d1, d2⟩ := h.row.cells k x hx
  exact ⟨c0, c1, c2, d0, d1, d2, World.ownsRow.frozenAt h.row _, World.ownsRow.frozenAt h.row _, World.ownsRow.frozenAt h.row _, h.box.lt, (World.ownsRow.lt h.row g rfl).2, h⟩

theorem CpS.below {w : World} {x : Rw} {l : List Rw} {bx g : Nat} {u u' : World} (h : CpS w x l bx g u) (hb : Below u.heap.size u u') : CpS w x l bx g u' :=
  ⟨h.box.below hb, h.row.below hb, h.bel.trans (hb.mono h.bel.size)⟩

theorem CpS.put {w : World} {x : Rw} {l : List Rw} {bx g k : Nat} {u : World} (h : CpS w x l bx g u) (hx : l[k]? = some x) (hne : bx ≠ g) (hB : w.heap.size ≤ g) :
    CpS w x l bx g (((u.setCell ⟨g, k * 3, none⟩ (.string x.key)).setCell ⟨g, k * 3 + 1, none⟩ (.string x.text)).setCell ⟨g, k * 3 + 2, none⟩ (.string x.val)) := by
  have hk := (List.getElem?_eq_some_iff.1 hx).1
  have s1 := World.ownsRow.stored h.row (k * 3) (.string x.key)
  have s2 := World.ownsRow.stored s1.1 (k * 3 + 1) (.string x.text)
  have s3 := World.ownsRow.stored s2.1 (k * 3 + 2) (.string x.val)
  have s5 := s3.1
  rw [← rwAll_set _ k x hk] at s5
  have hset : l.set k x = l := by
    obtain ⟨h1, rfl⟩ := List.getElem?_eq_some_iff.1 hx
    simp
  rw [hset] at s5
  have hb : ∀ {u u' : World}, BoxR6 u bx x → u.grownBy u' (some g) → BoxR6 u' bx x := fun {u u'} hb hg => (hg.block bx hb.lt (fun e => hne (Option.some.inj e))).trans hb
  exact ⟨hb (hb (hb h.box s1.2) s2.2) s3.2, s5, grown_ge (grown_ge (grown_ge h.bel s1.2 hB) s2.2 hB) s3.2 hB⟩

def CpRel (w : World) (l : List Rw) (g : Nat) (i : Value) (wr : World) : Prop :=
  ∃ k : Nat, k ≤ l.length ∧ i = .int .i64 (k : Int) ∧ Rws wr w.heap.size (.slice (some ⟨g, 0, none⟩) l.length l.length) l ∧ Below w.heap.size w wr

theorem info_rwC : (Tryd.prog.info? 32).map (fun i => (i.zero, i.size, i.bytes)) = some (some (.agg #[.string ⟨#[]⟩, .string ⟨#[]⟩, .string ⟨#[]⟩]), 3, 48) := by kernel_rfl
theorem size_rwC : (Tryd.prog.info? 32).map (·.size) = some 3 := by kernel_rfl

set_option maxRecDepth 100000 in
set_option maxHeartbeats 4000000 in
theorem copyRows_any {w : World} {a : Option Addr} {l : List Rw} {cap : Nat} (hS : SlRw w a l) (h0 : 0 < l.length) (hB : RwB l) :
    Calls Tryd.prog 57 #[.slice a l.length cap] w fun e w' => ∃ v, e = .returned v ∧ Rws w' w.heap.size v l ∧ Below w.heap.size w w' := by
  obtain ⟨b, o, rfl, hE⟩ : ∃ b o, a = some ⟨b, o, none⟩ ∧ ∀ (k : Nat) (e : Rw), l[k]? = some e → w.cell? ⟨b, o + k * 3, none⟩ = some (.string e.key) ∧ w.cell? ⟨b, o + k * 3 + 1, none⟩ = some (.string e.text) ∧ w.cell? ⟨b, o + k * 3 + 2, none⟩ = some (.string e.val) := by
    rcases hS with h | h
    · rw [h] at h0; simp at h0
    · exact h
  have hl := hB.1
  have HSL : Hid (∀ u, Below w.heap.size w u → ∀ j v, (rwAll l)[j]? = some v → u.cell? ((⟨b, o, none⟩ : Addr).add j) = some v) := fun u hu => by
    apply sl_src
    intro k e he
    obtain ⟨c0, c1, c2⟩ := hE k e he
    have hbl := rw_cell_lt c0
    exact ⟨(hu.cell hbl).trans c0, (hu.cell hbl).trans c1, (hu.cell hbl).trans c2⟩
  have HRB : Hid (RwB l) := hB
  obtain ⟨i0, hi, hz0, hz1, hz2⟩ := info_parts info_rwC
  have hlen := rwAll_len l
  clear hE hS hB
  go_enter Tryd.func57, Tryd.ntmps57
  go_upto_region 2 with (at_make; refine wpList_make_full _ rfl _ _ 23 rfl w.heap.size 32 i0 _ 3 Tryd.underlying23 hi hz0 hz1 .i64 .i64 _ _ l.length rfl rfl rfl rfl (by rw [hz2]; omega) (by unfold maxLen; omega) (Nat.le_refl _) ?_; intro w1 hown hgr)
  have hb1 : Below w.heap.size w w1 := Below.grown (Below.refl _ _) hgr (Nat.le_refl _) (fun j hj => by cases hj)
  obtain ⟨cur, hcur, hcs⟩ : ∃ cur, w1.heap[w.heap.size]? = some (.cells cur 32 (0, 0)) ∧ cur.size = l.length * 3 := by
    rcases hown.2 with ⟨h, _⟩ | ⟨g, cap', cur, h1, _, h3, _, _, h6, _⟩
    · cases h
    · cases h1
      exact ⟨cur, h3, h6⟩
  have HCU : Hid _ := hcur
  have HB1 : Hid (Below w.heap.size w w1) := hb1
  obtain ⟨g, HG⟩ : ∃ g, Hid (g = w.heap.size) := ⟨_, rfl⟩
  have hgB : w.heap.size ≤ g := Nat.le_of_eq HG.out.symm
  rw [← HG.out] at HCU
  rw [← HG.out]
  clear hown hgr hcur hb1
  go_wp2_with (refine wpList_copy_rowS rfl _ _ 23 23 rfl 32 Tryd.underlying23 3 size_rwC g l.length _ ⟨b, o, none⟩ _ rfl rfl cur 32 HCU.out (rwAll l) (rwAll_len l) (HSL.out w1 HB1.out) (by omega) (rwAll_string l) w.heap.size w HB1.out hgB ?_; intro w2 hw2 hb2)
  have hR : Rws w2 w.heap.size (.slice (some ⟨g, 0, none⟩) l.length l.length) l := ⟨rwAll_len l, .inr ⟨g, l.length, _, rfl, hgB, hw2.out, Nat.le_refl _, by unfold maxLen; omega, by simp; omega, by simp [← hlen]⟩⟩
  have HR2 : Hid (Rws _ _ _ _) := hR
  have HB2 : Hid (Below w.heap.size w w2) := hb2
  clear hR hb2 hw2 HCU HB1 HSL
  go_wp2_with fail
  go_loopw [14] (fun i wr => CpRel w l g i wr) (fun i _ => l.length - (intOf i).toNat)
  case atStart => exact ⟨0, Nat.zero_le _, rfl, HR2.out, HB2.out⟩
  case round =>
    clear HR2 HB2
    obtain ⟨k, hk, rfl, hR, hb⟩ := hrel
    by_cases hlt : k < l.length
    · obtain ⟨x, hx⟩ : ∃ x, l[k]? = some x := ⟨_, List.getElem?_eq_getElem hlt⟩
      have hk8 : (k : Int) < (l.length : Int) := by omega
      obtain ⟨d0, d1, d2⟩ := hR.cells k x hx
      have hgl := rw_cell_lt d0
      obtain ⟨z0, z1, z2⟩ := HRB.out.at hx
      have CK := fun u => clone_str x.key u (by omega)
      have CT := fun u => clone_str x.text u (by omega)
      have CV := fun u => clone_str x.val u (by omega)
      have hA := (Below.refl wr.heap.size wr).alloc (Nat.le_refl _) (.cells #[.string x.key, .string x.text, .string x.val] 32)
      have C1 : CpS w x l wr.heap.size g (wr.alloc (.cells #[.string x.key, .string x.text, .string x.val] 32)) := ⟨box_new6 wr x, hR.below hA, hb.alloc hb.size _⟩
      have hne : wr.heap.size ≠ g := by omega
      have A1 := C1.all hx
      have A2 := (C1.below ((Below.refl _ _).drew)).all hx
      have KB := fun (u1 u2 : World) (hb : Below u1.heap.size u1 u2) (hu : CpA w x l wr.heap.size g k u1) => (hu.2.2.2.2.2.2.2.2.2.2.2.below hb).all hx
      have KP := fun (u1 : World) (hu : CpA w x l wr.heap.size g k u1) => (hu.2.2.2.2.2.2.2.2.2.2.2.put (k := k) hx hne hgB).all hx
      obtain ⟨bx, HBX⟩ : ∃ bx, Hid (bx = wr.heap.size) := ⟨_, rfl⟩
      rw [← HBX.out] at A1 A2 KB KP
      unfold CpA at A1 A2 KB KP
      clear hR hb C1 hA hx
      go_wp2_with fail
      rw [← HBX.out]
      go_region_held (fun u => u.cell? ⟨bx, 0, none⟩ = some (.string x.key) ∧ u.cell? ⟨bx, 1, none⟩ = some (.string x.text) ∧ u.cell? ⟨bx, 2, none⟩ = some (.string x.val) ∧ u.cell? ⟨g, k * 3, none⟩ = some (.string x.key) ∧ u.cell? ⟨g, k * 3 + 1, none⟩ = some (.string x.text) ∧ u.cell? ⟨g, k * 3 + 2, none⟩ = some (.string x.val) ∧ u.frozen? ⟨g, k * 3, none⟩ = false ∧ u.frozen? ⟨g, k * 3 + 1, none⟩ = false ∧ u.frozen? ⟨g, k * 3 + 2, none⟩ = false ∧ bx < u.heap.size ∧ g < u.heap.size ∧ CpS w x l bx g u)
        (first | exact A2 | exact KB _ _ (by assumption) (by assumption) | exact KP _ (by assumption))
        (first | (go_at_call 61; refine (CK _).mono ?_; rintro e w' ⟨rfl, hbw⟩) | (go_at_call 61; refine (CT _).mono ?_; rintro e w' ⟨rfl, hbw⟩) | (go_at_call 61; refine (CV _).mono ?_; rintro e w' ⟨rfl, hbw⟩))
      all_goals
        have hE : CpA w x l bx g k (((w'.setCell ⟨g, k * 3, none⟩ (.string x.key)).setCell ⟨g, k * 3 + 1, none⟩ (.string x.text)).setCell ⟨g, k * 3 + 2, none⟩ (.string x.val)) := by assumption
        have HR : Hid (Rws _ _ _ _) := hE.2.2.2.2.2.2.2.2.2.2.2.row
        have HB : Hid (Below _ _ _) := hE.2.2.2.2.2.2.2.2.2.2.2.bel
        clear hE A1 A2 KB KP CK CT CV
        go_wp2
        exact ⟨⟨k + 1, by omega, by go_num, HR.out, HB.out⟩, by simp [intOf]; omega⟩
    · have hkz : k = l.length := by omega
      subst hkz
      go_wp2
      go_ret
      exact ⟨_, rfl, hR, hb⟩
end Go.Proofs.YtbgomhgohphglaaDoor
