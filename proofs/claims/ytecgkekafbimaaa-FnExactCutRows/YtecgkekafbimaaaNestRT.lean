/- Contracts of what the laws do with rows of rows of Rows. -/
import Derived.Test.YtecgkekafbimaaaNestK
import Derived.Test.YtecgkekafbimaaaMarkRw
import Derived.Test.YtecgkekafbimaaaHeldRw
import Derived.Test.YtecgkekafbimaaaEqRw
namespace Go.Proofs.Ytecgkekafbimaaa
open Go.RowKit

/-- How many rows there are in all. -/
def totR : List (List Rw) → Nat
  | [] => 0
  | g :: gs => g.length + totR gs

theorem totR_app (a b : List (List Rw)) : totR (a ++ b) = totR a + totR b := by
  induction a with
  | nil => simp [totR]
  | cons g a ih => simp [totR, ih]; omega

theorem totR_mem {gs : List (List Rw)} {g : List Rw} (h : g ∈ gs) : g.length ≤ totR gs := by
  induction gs with
  | nil => simp at h
  | cons x gs ih =>
    rcases List.mem_cons.1 h with rfl | h
    · simp [totR]
    · have := ih h
      simp [totR]; omega

/-- Nothing has turned but between B and T. -/
structure MidR (B T : Nat) (w w' : World) : Prop where
  os : w'.os = w.os
  tape : w'.tape = w.tape
  output : w'.output = w.output
  size : w.heap.size ≤ w'.heap.size
  block : ∀ b, b < w.heap.size → (b < B ∨ T ≤ b) → w'.heap[b]? = w.heap[b]?

theorem MidR.refl (B T : Nat) (w : World) : MidR B T w w := ⟨rfl, rfl, rfl, Nat.le_refl _, fun _ _ _ => rfl⟩

theorem MidR.grown {B T : Nat} {w u u' : World} {row : Option Nat} (h : MidR B T w u) (hg : u.grownBy u' row) (hr : ∀ g, row = some g → B ≤ g ∧ g < T) : MidR B T w u' :=
  ⟨hg.os.trans h.os, hg.tape.trans h.tape, hg.output.trans h.output, Nat.le_trans h.size hg.size, fun b hb hbt => (hg.block b (Nat.lt_of_lt_of_le hb h.size) (fun e => by have := hr b e.symm; omega)).trans (h.block b hb hbt)⟩

theorem MidR.below {B T : Nat} {w w' : World} (h : MidR B T w w') (hB : B ≤ w.heap.size) : Below B w w' := ⟨h.os, h.tape, h.output, h.size, fun b hb => h.block b (Nat.lt_of_lt_of_le hb hB) (.inl hb)⟩

theorem NestR.mid {w w' : World} {lo hi B T : Nat} {v : Value} {gs : List (List Rw)} {vs : List Value} (h : NestR w lo hi v gs vs) (hm : MidR B T w w') (ha : hi ≤ B ∨ T ≤ lo) : NestR w' lo hi v gs vs :=
  h.same hm.size (fun g h1 h2 => hm.block g (Nat.lt_of_lt_of_le h2 h.top) (by omega))

theorem totR_take {gs : List (List Rw)} {j : Nat} {g : List Rw} (h : gs[j]? = some g) : totR (gs.take (j + 1)) = totR (gs.take j) + g.length := by
  rw [List.take_add_one, h, totR_app]
  simp [totR]

theorem totR_le (gs : List (List Rw)) (j : Nat) : totR (gs.take j) ≤ totR gs := by
  have h := totR_app (gs.take j) (gs.drop j)
  rw [List.take_append_drop] at h
  omega

/-- The first i rows marked, from m on. -/
def mkUR (gs : List (List Rw)) (m : Nat) : Nat → List (List Rw)
  | 0 => gs
  | i + 1 => (mkUR gs m i).set i (seqR (m + 3 * totR (gs.take i)) ((gs[i]?).getD []).length)

theorem mkUR_len (gs : List (List Rw)) (m i : Nat) : (mkUR gs m i).length = gs.length := by
  induction i with
  | zero => rfl
  | succ i ih => simp [mkUR, ih]

theorem mkUR_old (gs : List (List Rw)) (m : Nat) : ∀ (i j : Nat), i ≤ j → (mkUR gs m i)[j]? = gs[j]? := by
  intro i
  induction i with
  | zero => intro j _; rfl
  | succ i ih =>
    intro j hj
    rw [mkUR, List.getElem?_set_ne (by omega)]
    exact ih j (by omega)

theorem mkUR_new (gs : List (List Rw)) (m : Nat) : ∀ (i j : Nat) (g : List Rw), j < i → gs[j]? = some g → (mkUR gs m i)[j]? = some (seqR (m + 3 * totR (gs.take j)) g.length) := by
  intro i
  induction i with
  | zero => intro j g h; omega
  | succ i ih =>
    intro j g hj hg
    rw [mkUR]
    by_cases c : i = j
    · subst c
      rw [List.getElem?_set_self (by rw [mkUR_len]; exact (List.getElem?_eq_some_iff.1 hg).1), hg]
      rfl
    · rw [List.getElem?_set_ne c]
      exact ih j g (by omega) hg

set_option maxRecDepth 100000 in
set_option maxHeartbeats 1000000 in
theorem eqRSS_any {w : World} {lo hi lo' hi' : Nat} {v v' : Value} {gs : List (List Rw)} {vs vs' : List Value} (h : NestR w lo hi v gs vs) (h' : NestR w lo' hi' v' gs vs') (hz : gs.length ≤ 1048576) (hzz : ∀ g ∈ gs, g.length ≤ 1048576) :
    Calls Try.prog 9 #[v, v'] w fun e w' => e = .returned (.bool true) ∧ Below w.heap.size w w' := by
  obtain ⟨a, c, rfl, q⟩ := h.form
  obtain ⟨a', c', rfl, q'⟩ := h'.form
  have HN : Hid (NestR w lo hi _ gs vs) := h
  have HN' : Hid (NestR w lo' hi' _ gs vs') := h'
  have HQ : Hid _ := q
  have HQ' : Hid _ := q'
  clear h h' q q'
  go_enter Try.func9, Try.ntmps9
  go_wp2_with fail
  go_loopw [5] (fun i wr => ∃ k : Nat, k ≤ gs.length ∧ i = .int .i64 k ∧ Below w.heap.size w wr) (fun i _ => gs.length - (intOf i).toNat)
  case atStart => exact ⟨0, Nat.zero_le _, rfl, Below.refl _ _⟩
  case round =>
    obtain ⟨k, hk, rfl, hb⟩ := hrel
    by_cases hlt : k < gs.length
    · obtain ⟨g, hg⟩ : ∃ g, gs[k]? = some g := ⟨_, List.getElem?_eq_getElem hlt⟩
      obtain ⟨x, hx, hI, _⟩ := HN.out.ins k g hg
      obtain ⟨y, hy, hJ, _⟩ := HN'.out.ins k g hg
      obtain ⟨b, rfl, _, _, c1, _⟩ := HQ.out k x hx
      obtain ⟨b', rfl, _, _, c2, _⟩ := HQ'.out k y hy
      have hbl := rw_cell_lt c1
      have hbl' := rw_cell_lt c2
      have E := fun (u : World) (hu : Below w.heap.size w u) => eqR_any (hzz g (List.mem_of_getElem? hg)) (hI.below hu) (hJ.below hu)
      have hk8 : (k : Int) < (gs.length : Int) := by omega
      obtain ⟨xa, xc, rfl⟩ := rw_form hI
      obtain ⟨ya, yc, rfl⟩ := rw_form hJ
      have KS : ∀ (u : World), Below w.heap.size w u → u.cell? ⟨b, k, none⟩ = some (.slice xa g.length xc) ∧ u.cell? ⟨b', k, none⟩ = some (.slice ya g.length yc) ∧ Below w.heap.size w u := fun u hu => ⟨(hu.cell hbl).trans c1, (hu.cell hbl').trans c2, hu⟩
      have hS := KS wr hb
      have hS2 := KS wr.drew (Below.drew hb)
      have E2 := fun (u : World) (hu : u.cell? ⟨b, k, none⟩ = some (.slice xa g.length xc) ∧ u.cell? ⟨b', k, none⟩ = some (.slice ya g.length yc) ∧ Below w.heap.size w u) => (show Calls Try.prog 10 #[.slice xa g.length xc, .slice ya g.length yc] u fun e w' => e = .returned (.bool true) ∧ (w'.cell? ⟨b, k, none⟩ = some (.slice xa g.length xc) ∧ w'.cell? ⟨b', k, none⟩ = some (.slice ya g.length yc) ∧ Below w.heap.size w w') by
        refine (E u hu.2.2).mono ?_
        rintro e w' ⟨rfl, b3⟩
        exact ⟨rfl, KS w' (hu.2.2.trans (b3.mono hu.2.2.size))⟩)
      clear HN HN' HQ HQ' hg hx hy hI hJ E KS hb c1 c2 hbl hbl'
      go_wp2_with fail
      go_region_held (fun u => u.cell? ⟨b, k, none⟩ = some (.slice xa g.length xc) ∧ u.cell? ⟨b', k, none⟩ = some (.slice ya g.length yc) ∧ Below w.heap.size w u)
        (first | exact hS2 | assumption)
        (first | (go_at_call 10; refine (E2 _ (by assumption)).mono ?_; rintro e w' ⟨rfl, hbw⟩))
      all_goals
        have hbb := hbw.2.2
        clear hS hS2 E2
        go_wp2
        exact ⟨⟨k + 1, by omega, by go_num, hbb⟩, by simp [intOf]; omega⟩
    · clear HN HN' HQ HQ'
      go_wp2
      go_ret
      exact ⟨rfl, hb⟩

def MsRR (w : World) (lo hi : Nat) (v : Value) (gs : List (List Rw)) (vs : List Value) (m : Nat) (kv i : Value) (wr : World) : Prop :=
  ∃ j : Nat, j ≤ gs.length ∧ i = .int .i64 j ∧ kv = .int .i64 ((m + 3 * totR (gs.take j) : Nat) : Int) ∧ NestR wr lo hi v (mkUR gs m j) vs ∧ MidR lo hi w wr

set_option maxRecDepth 100000 in
set_option maxHeartbeats 1000000 in
theorem markRSS_any {w : World} {lo hi : Nat} {v : Value} {gs : List (List Rw)} {vs : List Value} {m : Nat} (hm0 : 0 < m) (hm1 : m + 3 * totR gs ≤ 1000000) (hz : gs.length ≤ 1048576) (h : NestR w lo hi v gs vs) :
    Calls Try.prog 12 #[v, .int .i64 (m : Int)] w fun e w' => e = .returned (.int .i64 ((m + 3 * totR gs : Nat) : Int)) ∧ NestR w' lo hi v (mkUR gs m gs.length) vs ∧ MidR lo hi w w' := by
  have HN : Hid (NestR w lo hi v gs vs) := h
  obtain ⟨a, c, rfl, _⟩ := h.form
  clear h
  go_enter Try.func12, Try.ntmps12
  go_wp2_with fail
  go_loopw [1, 5] (fun kv i wr => MsRR w lo hi (.slice a gs.length c) gs vs m kv i wr) (fun _ i _ => gs.length - (intOf i).toNat)
  case atStart => exact ⟨0, Nat.zero_le _, rfl, by simp [totR], HN.out, MidR.refl _ _ _⟩
  case round =>
    clear HN
    obtain ⟨j, hj, rfl, rfl, hN, hM⟩ := hrel
    by_cases hlt : j < gs.length
    · obtain ⟨g, hg⟩ : ∃ g, gs[j]? = some g := ⟨_, List.getElem?_eq_getElem hlt⟩
      have hgu : (mkUR gs m j)[j]? = some g := by rw [mkUR_old gs m j j (Nat.le_refl _)]; exact hg
      obtain ⟨x, hx, hI, hlt2⟩ := hN.ins j g hgu
      have hgl : g.length ≤ totR gs := totR_mem (List.mem_of_getElem? hg)
      have htj := totR_le gs j
      have hts := totR_take hg
      have htj2 := totR_le gs (j + 1)
      have M := markR_any (m := m + 3 * totR (gs.take j)) (by omega) (by omega) (by omega) hI
      obtain ⟨a2, c2, hv2, q⟩ := hN.form
      rw [mkUR_len] at hv2
      injection hv2 with ha2 _ hc2
      subst ha2
      subst hc2
      obtain ⟨b, rfl, _, hbh, c1, _⟩ := q j x hx
      have hj8 : (j : Int) < (gs.length : Int) := by omega
      have HK : Hid (mkUR gs m (j + 1) = (mkUR gs m j).set j (seqR (m + 3 * totR (gs.take j)) g.length)) := by
        show _ = _
        rw [mkUR, hg]
        rfl
      have HN : Hid (NestR wr lo hi _ _ _) := hN
      have HX : Hid (vs[j]? = some x) := hx
      have HGU : Hid ((mkUR gs m j)[j]? = some g) := hgu
      have HL : Hid (∀ b, x.ownBlock = some b → lo ≤ b ∧ b < hi) := fun b hb => ⟨(World.ownsRow.lt hI b hb).1, hlt2 b hb⟩
      obtain ⟨xa, xc, rfl⟩ := rw_form hI
      obtain ⟨tj, HTJ⟩ : ∃ tj : Nat, Hid (m + 3 * totR (gs.take j) = tj) := ⟨_, rfl⟩
      have HT2 : Hid (tj + 3 * g.length = m + 3 * totR (gs.take (j + 1))) := by show _ = _; rw [hts, ← HTJ.out]; omega
      rw [HTJ.out] at M
      have htj9 : tj ≤ 1000000 := by rw [← HTJ.out]; omega
      have hgl9 : g.length ≤ 1000000 := by omega
      rw [HTJ.out] at HK
      rw [HTJ.out]
      clear hN hx hgu hI hlt2 q hg hts htj2 htj
      go_wp2_with fail
      refine M.mono ?_
      rintro e w2 ⟨rfl, i2, g2⟩
      have N2 := HN.out.inner HX.out HGU.out g2 i2
      rw [← HK.out] at N2
      have M2 := hM.grown g2 HL.out
      clear M HN i2 g2
      go_wp2
      exact ⟨⟨j + 1, by omega, by go_num, (by rw [← HT2.out]; go_num), N2, M2⟩, by simp [intOf]; omega⟩
    · obtain rfl : j = gs.length := by omega
      rw [List.take_length]
      obtain ⟨tt, HTT⟩ : ∃ tt : Nat, Hid (m + 3 * totR gs = tt) := ⟨_, rfl⟩
      rw [HTT.out]
      go_wp2
      go_ret
      exact ⟨(by rw [HTT.out]; rfl), hN, hM⟩

set_option maxRecDepth 100000 in
set_option maxHeartbeats 1000000 in
theorem heldRSS_any {w : World} {lo hi : Nat} {v : Value} {gs : List (List Rw)} {vs : List Value} {m : Nat} (hm0 : 0 < m) (hm1 : m + 3 * totR gs ≤ 1000000) (hz : gs.length ≤ 1048576) (h : NestR w lo hi v (mkUR gs m gs.length) vs) :
    Calls Try.prog 13 #[v, .int .i64 (m : Int)] w fun e w' => e = .returned (.int .i64 ((m + 3 * totR gs : Nat) : Int)) ∧ Below w.heap.size w w' := by
  have HN : Hid (NestR w lo hi v (mkUR gs m gs.length) vs) := h
  obtain ⟨a, c, rfl, _⟩ := h.form
  rw [mkUR_len] at HN ⊢
  clear h
  go_enter Try.func13, Try.ntmps13
  go_wp2_with fail
  go_loopw [1, 5] (fun kv i wr => ∃ j : Nat, j ≤ gs.length ∧ i = .int .i64 j ∧ kv = .int .i64 ((m + 3 * totR (gs.take j) : Nat) : Int) ∧ Below w.heap.size w wr) (fun _ i _ => gs.length - (intOf i).toNat)
  case atStart => exact ⟨0, Nat.zero_le _, rfl, by simp [totR], Below.refl _ _⟩
  case round =>
    obtain ⟨j, hj, rfl, rfl, hb⟩ := hrel
    by_cases hlt : j < gs.length
    · obtain ⟨g, hg⟩ : ∃ g, gs[j]? = some g := ⟨_, List.getElem?_eq_getElem hlt⟩
      have hN := HN.out.below hb
      obtain ⟨x, hx, hI, _⟩ := hN.ins j _ (mkUR_new gs m gs.length j g hlt hg)
      have hgl : g.length ≤ totR gs := totR_mem (List.mem_of_getElem? hg)
      have htj := totR_le gs j
      have hts := totR_take hg
      have L := heldR_any (m := m + 3 * totR (gs.take j)) (n := g.length) (by omega) (by omega) (by omega) hI
      obtain ⟨a2, c2, hv2, q⟩ := hN.form
      rw [mkUR_len] at hv2
      injection hv2 with ha2 _ hc2
      subst ha2
      subst hc2
      obtain ⟨b, rfl, _, _, c1, _⟩ := q j x hx
      have hj8 : (j : Int) < (gs.length : Int) := by omega
      obtain ⟨xa, xc, rfl⟩ := rw_form hI
      rw [seqR_len] at c1 L
      obtain ⟨tj, HTJ⟩ : ∃ tj : Nat, Hid (m + 3 * totR (gs.take j) = tj) := ⟨_, rfl⟩
      have HT2 : Hid (tj + 3 * g.length = m + 3 * totR (gs.take (j + 1))) := by show _ = _; rw [hts, ← HTJ.out]; omega
      rw [HTJ.out] at L
      have htj9 : tj ≤ 1000000 := by rw [← HTJ.out]; omega
      have hgl9 : g.length ≤ 1000000 := by omega
      have hn8 : ¬ (((tj + 3 * g.length : Nat) : Int) < 0) := by omega
      rw [HTJ.out]
      clear hN hx hI q hg hts htj
      go_wp2_with fail
      refine L.mono ?_
      rintro e w2 ⟨rfl, b2⟩
      clear L
      go_wp2
      exact ⟨⟨j + 1, by omega, by go_num, (by rw [← HT2.out]; go_num), hb.trans (b2.mono hb.size)⟩, by simp [intOf]; omega⟩
    · obtain rfl : j = gs.length := by omega
      rw [List.take_length]
      obtain ⟨tt, HTT⟩ : ∃ tt : Nat, Hid (m + 3 * totR gs = tt) := ⟨_, rfl⟩
      rw [HTT.out]
      clear HN
      go_wp2
      go_ret
      exact ⟨(by rw [HTT.out]; rfl), hb⟩
end Go.Proofs.Ytecgkekafbimaaa
