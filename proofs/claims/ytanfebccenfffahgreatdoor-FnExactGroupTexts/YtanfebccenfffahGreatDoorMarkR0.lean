/- Contracts of the laws' markEntryS, heldEntryS, markRules, heldRules. -/
import Derived.Test.YtanfebccenfffahGreatDoorEntsSet
import Derived.Test.YtanfebccenfffahGreatDoorIntK0
namespace Go.Proofs.YtanfebccenfffahGreatDoor
open Go.RowKit

/-- A row of entries of the call's own, no two of whose lists share a block; all its blocks lie ahead of T. -/
def EntsD (w : World) (B T : Nat) (v : Value) (es : List Ent) : Prop :=
  ∃ xs : List Value, xs.length = es.length ∧ w.ownsRow B 64 5 v es.length (entAll xs es) ∧ (∀ (k : Nat) (e : Ent), es[k]? = some e → ∃ x, xs[k]? = some x ∧ Ints w B x e.runes) ∧
    (∀ (i j : Nat) (x y : Value), i ≠ j → xs[i]? = some x → xs[j]? = some y → x.ownBlock = none ∨ x.ownBlock ≠ y.ownBlock) ∧
    (∀ g, v.ownBlock = some g → g < T) ∧ ∀ (i : Nat) (x : Value) (g : Nat), xs[i]? = some x → x.ownBlock = some g → g < T

theorem EntsD.ents {w : World} {B T : Nat} {v : Value} {es : List Ent} (h : EntsD w B T v es) : Ents w B v es := by
  obtain ⟨xs, hl, h1, h2, _⟩ := h
  exact ⟨xs, hl, h1, h2⟩

theorem EntsD.nil (w : World) (B T : Nat) : EntsD w B T (.slice none 0 0) [] := ⟨[], rfl, ⟨rfl, .inl ⟨rfl, rfl⟩⟩, fun k e h => by simp at h, fun i j x y _ h => by simp at h, (fun g h => by simp [Value.ownBlock] at h), (fun i x g h => by simp at h)⟩

theorem EntsD.below {w w' : World} {B T : Nat} {v : Value} {es : List Ent} (h : EntsD w B T v es) (hb : Below w.heap.size w w') : EntsD w' B T v es := by
  obtain ⟨xs, hl, h1, h2, h3, h4, h5⟩ := h
  refine ⟨xs, hl, World.ownsRow.kept h1 (row := none) ⟨hb.os, hb.tape, hb.output, hb.size, fun k hk _ => hb.block k hk⟩ (by cases h : v.ownBlock <;> simp), fun k e he => ?_, h3, h4, h5⟩
  obtain ⟨x, hx, hI⟩ := h2 k e he
  exact ⟨x, hx, hI.below hb⟩

/-- What lies ahead of B or from T on has not turned. -/
structure Mid (B T : Nat) (w w' : World) : Prop where
  os : w'.os = w.os
  tape : w'.tape = w.tape
  output : w'.output = w.output
  size : w.heap.size ≤ w'.heap.size
  block : ∀ b, b < w.heap.size → (b < B ∨ T ≤ b) → w'.heap[b]? = w.heap[b]?

theorem Mid.refl (B T : Nat) (w : World) : Mid B T w w := ⟨rfl, rfl, rfl, Nat.le_refl _, fun _ _ _ => rfl⟩

theorem Mid.grown {B T : Nat} {w u u' : World} {row : Option Nat} (h : Mid B T w u) (hg : u.grownBy u' row) (hr : ∀ g, row = some g → B ≤ g ∧ g < T) : Mid B T w u' := by
  refine ⟨hg.os.trans h.os, hg.tape.trans h.tape, hg.output.trans h.output, Nat.le_trans h.size hg.size, fun b hb hbt => ?_⟩
  rw [hg.block b (Nat.lt_of_lt_of_le hb h.size) (fun e => by have := hr b e.symm; omega)]
  exact h.block b hb hbt

theorem Mid.trans {B T : Nat} {w u u' : World} (h : Mid B T w u) (h' : Mid B T u u') : Mid B T w u' :=
  ⟨h'.os.trans h.os, h'.tape.trans h.tape, h'.output.trans h.output, Nat.le_trans h.size h'.size, fun b hb hbt => by rw [h'.block b (Nat.lt_of_lt_of_le hb h.size) hbt]; exact h.block b hb hbt⟩

theorem Mid.of {B T : Nat} {w w' : World} (hb : Below w.heap.size w w') : Mid B T w w' := ⟨hb.os, hb.tape, hb.output, hb.size, fun b h _ => hb.block b h⟩

theorem Mid.below {B T : Nat} {w w' : World} (h : Mid B T w w') (hB : B ≤ w.heap.size) : Below B w w' := ⟨h.os, h.tape, h.output, h.size, fun b hb => h.block b (Nat.lt_of_lt_of_le hb hB) (.inl hb)⟩

theorem entAll_setEl (xs : List Value) (es : List Ent) (k : Nat) (e : Ent) (h : xs.length = es.length) (hk : k < es.length) :
    entAll xs (es.set k e) = ((((entAll xs es).set (k * 5 + 1) (.int .i64 e.el.first)).set (k * 5 + 2) (.int .i64 e.el.second)).set (k * 5 + 3) (.int .i64 e.el.third)).set (k * 5 + 4) (.bool e.el.varies) := by
  induction es generalizing xs k with
  | nil => simp at hk
  | cons e' es ih => cases xs with
    | nil => simp at h
    | cons y ys =>
      cases k with
      | zero => rfl
      | succ k =>
        have hk' : k < es.length := by simpa using hk
        show entC y e'.el ++ entAll ys (es.set k e) = ((((entC y e'.el ++ entAll ys es).set ((k + 1) * 5 + 1) _).set ((k + 1) * 5 + 2) _).set ((k + 1) * 5 + 3) _).set ((k + 1) * 5 + 4) _
        rw [ih ys k (by simpa using h) hk', List.set_append_right _ _ (by show 5 ≤ _; omega), List.set_append_right _ _ (by show 5 ≤ _; omega), List.set_append_right _ _ (by show 5 ≤ _; omega), List.set_append_right _ _ (by show 5 ≤ _; omega)]
        have q1 : (k + 1) * 5 + 1 - (entC y e'.el).length = k * 5 + 1 := by show (k + 1) * 5 + 1 - 5 = _; omega
        have q2 : (k + 1) * 5 + 2 - (entC y e'.el).length = k * 5 + 2 := by show (k + 1) * 5 + 2 - 5 = _; omega
        have q3 : (k + 1) * 5 + 3 - (entC y e'.el).length = k * 5 + 3 := by show (k + 1) * 5 + 3 - 5 = _; omega
        have q4 : (k + 1) * 5 + 4 - (entC y e'.el).length = k * 5 + 4 := by show (k + 1) * 5 + 4 - 5 = _; omega
        rw [q1, q2, q3, q4]

def set4 (u : World) (g p : Nat) (e : El) : World := (((u.setCell ⟨g, p + 1, none⟩ (.int .i64 e.first)).setCell ⟨g, p + 2, none⟩ (.int .i64 e.second)).setCell ⟨g, p + 3, none⟩ (.int .i64 e.third)).setCell ⟨g, p + 4, none⟩ (.bool e.varies)

theorem set4_grown (u : World) (g p : Nat) (e : El) : u.grownBy (set4 u g p e) (some g) :=
  (((setCell_grown u g (p + 1) _).trans (setCell_grown _ g (p + 2) _)).trans (setCell_grown _ g (p + 3) _)).trans (setCell_grown _ g (p + 4) _)

/-- An entry's list marked, then its elem laid anew. -/
theorem entsD_mark {u u3 : World} {B T g cap n j : Nat} {es : List Ent} {xs : List Value} {x : Value} {ys : List Int} {el : El} (hn : es.length = n) (hl : xs.length = es.length) (h1 : u.ownsRow B 64 5 (.slice (some ⟨g, 0, none⟩) n cap) n (entAll xs es))
    (h2 : ∀ (k : Nat) (e : Ent), es[k]? = some e → ∃ x, xs[k]? = some x ∧ Ints u B x e.runes) (h3 : ∀ (i j : Nat) (x y : Value), i ≠ j → xs[i]? = some x → xs[j]? = some y → x.ownBlock = none ∨ x.ownBlock ≠ y.ownBlock)
    (h4 : g < T) (h5 : ∀ (i : Nat) (x : Value) (g : Nat), xs[i]? = some x → x.ownBlock = some g → g < T)
    (hj : j < n) (hx : xs[j]? = some x) (hI0 : Ints u B x ys ∨ ∃ l, Ints u B x l) (hI : Ints u3 B x ys) (hg : u.grownBy u3 x.ownBlock) :
    EntsD (set4 u3 g (j * 5) el) B T (.slice (some ⟨g, 0, none⟩) n cap) (es.set j ⟨ys, el⟩) := by
  subst hn
  have hI0' : ∃ l, Ints u B x l := by
    rcases hI0 with h | h
    · exact ⟨_, h⟩
    · exact h
  obtain ⟨l0, hI0⟩ := hI0'
  have k1 := World.ownsRow.kept h1 hg (own_type h1 hI0 (by decide))
  have s2 := k1.stored (j * 5 + 1) (.int .i64 el.first)
  have s3 := s2.1.stored (j * 5 + 2) (.int .i64 el.second)
  have s4 := s3.1.stored (j * 5 + 3) (.int .i64 el.third)
  have s5 := s4.1.stored (j * 5 + 4) (.bool el.varies)
  have hg4 := set4_grown u3 g (j * 5) el
  refine ⟨xs, by simp [hl], ?_, fun i y hy => ?_, h3, fun g' e => by cases e; exact h4, h5⟩
  · rw [entAll_setEl xs es j ⟨ys, el⟩ hl hj, List.length_set]
    exact s5.1
  · by_cases c : i = j
    · subst c
      rw [List.getElem?_set_self (by omega)] at hy
      cases hy
      exact ⟨x, hx, World.ownsRow.kept hI hg4 (own_type hI k1 (by decide))⟩
    · rw [List.getElem?_set_ne (by omega)] at hy
      obtain ⟨z, hz, hzi⟩ := h2 i y hy
      have hz3 := World.ownsRow.kept hzi hg (h3 i j z x c hz hx)
      exact ⟨z, hz, World.ownsRow.kept hz3 hg4 (own_type hz3 k1 (by decide))⟩

def mkR (k : Int) : El := ⟨k, k + 1, k + 1 + 1, (k + 1 + 1 + 1) % 3 == 0⟩

def markEs : List Ent → Int → List Ent
  | [], _ => []
  | e :: es, m => ⟨seqK m e.runes.length, mkR (m + (e.runes.length : Int))⟩ :: markEs es (m + (e.runes.length : Int) + 1 + 1 + 1 + 1)

def endM : List Ent → Int → Int
  | [], m => m
  | e :: es, m => endM es (m + (e.runes.length : Int) + 1 + 1 + 1 + 1)

theorem markEs_len : ∀ (es : List Ent) (m : Int), (markEs es m).length = es.length
  | [], _ => rfl
  | e :: es, m => by simp [markEs, markEs_len es]

def MRel (w : World) (B T : Nat) (v : Value) (es : List Ent) (m0 : Int) (kv i : Value) (wr : World) : Prop :=
  ∃ (j : Nat) (m : Int) (done : List Ent), j ≤ es.length ∧ i = .int .i64 j ∧ kv = .int .i64 m ∧ 0 ≤ m ∧ m ≤ m0 + 2000 * (j : Int) ∧ done.length = j ∧ EntsD wr B T v (done ++ es.drop j) ∧
    done ++ markEs (es.drop j) m = markEs es m0 ∧ endM (es.drop j) m = endM es m0 ∧ Mid B T w wr

theorem ents_drop {es : List Ent} {k : Nat} {e : Ent} (h : es[k]? = some e) : es.drop k = e :: es.drop (k + 1) := by
  obtain ⟨hk, rfl⟩ := List.getElem?_eq_some_iff.1 h
  exact List.drop_eq_getElem_cons hk

set_option maxRecDepth 100000 in
set_option maxHeartbeats 4000000 in
theorem markEs_row (w : World) (B T g cap : Nat) (es : List Ent) (m0 : Int) (hm0 : 0 ≤ m0) (hm1 : m0 ≤ 1048576) (hz : es.length ≤ 1048576) (hr : ∀ e ∈ es, e.runes.length ≤ 1000) (hE : EntsD w B T (.slice (some ⟨g, 0, none⟩) es.length cap) es) :
    Calls Tryz.prog 24 #[.slice (some ⟨g, 0, none⟩) es.length cap, .int .i64 m0] w fun e w' => e = .returned (.int .i64 (endM es m0)) ∧ EntsD w' B T (.slice (some ⟨g, 0, none⟩) es.length cap) (markEs es m0) ∧ Mid B T w w' := by
  go_enter Tryz.func24, Tryz.ntmps24
  go_wp2
  go_loopw [1, 5] (fun kv i wr => MRel w B T (.slice (some ⟨g, 0, none⟩) es.length cap) es m0 kv i wr) (fun _ i _ => es.length - (intOf i).toNat)
  case atStart => exact ⟨0, m0, [], Nat.zero_le _, rfl, rfl, hm0, by simp, rfl, by simpa using hE, by simp, by simp, Mid.refl _ _ _⟩
  case round =>
    clear hE
    obtain ⟨j, m, done, hj, rfl, rfl, hmm0, hmm1, hdl, hED, hmk, hend, hbw⟩ := hrel
    have HMK : Hid _ := hmk
    have HEND : Hid _ := hend
    clear hmk hend
    by_cases hlt : j < es.length
    · obtain ⟨e, he⟩ : ∃ e, es[j]? = some e := ⟨_, List.getElem?_eq_getElem hlt⟩
      have hre := hr e (List.mem_of_getElem? he)
      have hdr := ents_drop he
      have hlen : (done ++ es.drop j).length = es.length := by rw [List.length_append, hdl, List.length_drop]; omega
      have hat : (done ++ es.drop j)[j]? = some e := by rw [List.getElem?_append_right (by omega), hdl, Nat.sub_self, hdr]; rfl
      obtain ⟨xs, hxl, h1, h2, h3, h4, h5⟩ := hED
      obtain ⟨x, hx, hI⟩ := h2 j e hat
      rw [hlen] at h1
      obtain ⟨xa, xn, xc, rfl⟩ : ∃ xa xn xc, x = .slice xa xn xc := by
        rcases hI.form with ⟨rfl, _⟩ | ⟨_, _, rfl, _, _⟩
        · exact ⟨_, _, _, rfl⟩
        · exact ⟨_, _, _, rfl⟩
      have at' : ∀ i, i < 5 → wr.cell? ⟨g, j * 5 + i, none⟩ = (entC (.slice xa xn xc) e.el)[i]? := fun i hi => by
        rw [World.ownsRow.cellAt h1 (j * 5 + i) (by omega), entAll_at xs _ j i _ e hx hat hi]
      have a0 : wr.cell? ⟨g, j * 5, none⟩ = some (.slice xa xn xc) := at' 0 (by omega)
      have hj8 : (j : Int) < (es.length : Int) := by omega
      have MK := markK_any (m := m) hmm0 (by omega) (by omega) hI
      obtain ⟨M, hM⟩ : ∃ M, M = m + (e.runes.length : Int) := ⟨_, rfl⟩
      rw [← hM] at MK
      have hMb : 0 ≤ M ∧ M ≤ 1048576 + 2000 * 1048576 + 1000 := by omega
      obtain ⟨hMb0, hMb1⟩ := hMb
      have HM : Hid _ := hM
      have HX : Hid _ := hx
      have HE : Hid _ := he
      have HDR : Hid _ := hdr
      have HLEN : Hid _ := hlen
      have HAT : Hid _ := hat
      have H1 : Hid _ := h1
      have H2 : Hid _ := h2
      have H3 : Hid _ := h3
      have H4 : Hid (g < T) := h4 g rfl
      have H5 : Hid _ := h5
      have HXL : Hid _ := hxl
      have HI : Hid (Ints _ _ _ _) := hI
      clear hM hx he hdr hlen hat h1 h2 h3 h4 h5 hxl hI at' hr
      go_wp2_with fail
      refine MK.mono ?_
      rintro e' w3 ⟨rfl, i3, g3⟩
      have k1 := World.ownsRow.kept H1.out g3 (own_type H1.out HI.out (by decide))
      have at3 : ∀ i, i < 5 → w3.cell? ⟨g, j * 5 + i, none⟩ = (entC (.slice xa xn xc) e.el)[i]? := fun i hi => by
        rw [World.ownsRow.cellAt k1 (j * 5 + i) (by omega), entAll_at xs _ j i _ e HX.out HAT.out hi]
      have c1 : w3.cell? ⟨g, j * 5 + 1, none⟩ = some (.int .i64 e.el.first) := at3 1 (by omega)
      have c2 : w3.cell? ⟨g, j * 5 + 2, none⟩ = some (.int .i64 e.el.second) := at3 2 (by omega)
      have c3 : w3.cell? ⟨g, j * 5 + 3, none⟩ = some (.int .i64 e.el.third) := at3 3 (by omega)
      have c4 : w3.cell? ⟨g, j * 5 + 4, none⟩ = some (.bool e.el.varies) := at3 4 (by omega)
      have f1 := k1.frozenAt (j * 5 + 1)
      have f2 := k1.frozenAt (j * 5 + 2)
      have f3 := k1.frozenAt (j * 5 + 3)
      have f4 := k1.frozenAt (j * 5 + 4)
      have hD := entsD_mark (el := mkR M) HLEN.out HXL.out H1.out H2.out H3.out H4.out H5.out hlt HX.out (.inr ⟨_, HI.out⟩) i3 g3
      have hset : (done ++ es.drop j).set j ⟨seqK m e.runes.length, mkR M⟩ = (done ++ [⟨seqK m e.runes.length, mkR M⟩]) ++ es.drop (j + 1) := by
        rw [List.set_append_right _ _ (by omega), hdl, Nat.sub_self, HDR.out, List.set_cons_zero]; simp
      rw [hset] at hD
      have hgB := (World.ownsRow.lt H1.out g rfl).1
      have hb3 : Mid B T w w3 := hbw.grown g3 (fun jj hjj => ⟨(World.ownsRow.lt HI.out jj hjj).1, H5.out j _ jj HX.out hjj⟩)
      have hb4 : Mid B T w (set4 w3 g (j * 5) (mkR M)) := hb3.grown (set4_grown w3 g (j * 5) (mkR M)) (fun jj hjj => by cases hjj; exact ⟨hgB, H4.out⟩)
      have HD : Hid (EntsD _ _ _ _ _) := hD
      have HB4 : Hid (Mid _ _ _ _) := hb4
      have HMK2 : Hid ((done ++ [⟨seqK m e.runes.length, mkR M⟩]) ++ markEs (es.drop (j + 1)) (M + 1 + 1 + 1 + 1) = markEs es m0) := by
        show _ = _
        rw [← HMK.out, HDR.out, HM.out]
        simp [markEs]
      have HEND2 : Hid (endM (es.drop (j + 1)) (M + 1 + 1 + 1 + 1) = endM es m0) := by
        show _ = _
        rw [← HEND.out, HDR.out, HM.out]
        rfl
      have HBD : Hid (M + 1 + 1 + 1 + 1 ≤ m0 + 2000 * ((j + 1 : Nat) : Int)) := by show _ ≤ _; have := HM.out; omega
      have HDL : Hid ((done ++ [(⟨seqK m e.runes.length, mkR M⟩ : Ent)]).length = j + 1) := by show _ = _; simp [hdl]
      clear MK k1 at3 hD hset hb3 hb4 HMK HEND HM HX HE HDR HLEN HAT H1 H2 H3 H4 H5 HXL HI i3 g3 a0 hdl
      go_wp2
      exact ⟨⟨j + 1, M + 1 + 1 + 1 + 1, _, hlt, by go_num, rfl, by omega, HBD.out, HDL.out, HD.out, HMK2.out, HEND2.out, HB4.out⟩, by simp [intOf]; omega⟩
    · have hjz : j = es.length := by omega
      subst hjz
      have e1 : es.drop es.length = [] := List.drop_length
      have HF : Hid (m = endM es m0) := by show _ = _; rw [← HEND.out, e1]; rfl
      have HG : Hid (done = markEs es m0) := by show _ = _; rw [← HMK.out, e1]; simp [markEs]
      rw [e1, List.append_nil] at hED
      clear HMK HEND e1 hr
      go_wp2
      go_ret
      rw [← HF.out, ← HG.out]
      exact ⟨rfl, hED, hbw⟩

set_option maxRecDepth 100000 in
set_option maxHeartbeats 1000000 in
theorem markEs_none (w : World) (a : Option Addr) (c : Nat) (m : Int) : Calls Tryz.prog 24 #[.slice a 0 c, .int .i64 m] w fun e w' => e = .returned (.int .i64 m) ∧ w' = w := by
  go_enter Tryz.func24, Tryz.ntmps24
  go_wp2
  go_loop [1, 5] (fun k i => k = .int .i64 m ∧ i = .int .i64 0) (fun _ _ => 0)
  case atStart => exact ⟨rfl, rfl⟩
  case round =>
    obtain ⟨rfl, rfl⟩ := hrel
    go_wp2
    go_ret
    exact ⟨rfl, rfl⟩

theorem markEs_any {w : World} {B T : Nat} {v : Value} {es : List Ent} {m0 : Int} (hm0 : 0 ≤ m0) (hm1 : m0 ≤ 1048576) (hz : es.length ≤ 1048576) (hr : ∀ e ∈ es, e.runes.length ≤ 1000) (hE : EntsD w B T v es) :
    Calls Tryz.prog 24 #[v, .int .i64 m0] w fun e w' => e = .returned (.int .i64 (endM es m0)) ∧ EntsD w' B T v (markEs es m0) ∧ Mid B T w w' := by
  rcases hE.ents.form with ⟨rfl, rfl⟩ | ⟨g, cap, rfl, _, _, _, _⟩
  · refine (markEs_none w _ _ m0).mono ?_
    rintro e w' ⟨rfl, rfl⟩
    exact ⟨rfl, hE, Mid.refl _ _ _⟩
  · exact markEs_row w B T g cap es m0 hm0 hm1 hz hr hE

set_option maxRecDepth 100000 in
set_option maxHeartbeats 1000000 in
theorem markRules_any {w : World} {B T : Nat} {v : Value} {es : List Ent} {m0 : Int} (sh : Bool) (lv : Int) (hm0 : 0 ≤ m0) (hm1 : m0 ≤ 1048576) (hz : es.length ≤ 1048576) (hr : ∀ e ∈ es, e.runes.length ≤ 1000) (hE : EntsD w B T v es) :
    Calls Tryz.prog 13 #[.agg #[v, .bool sh, .int .i64 lv], .int .i64 m0] w fun e w' => e = .returned (.int .i64 (endM es m0)) ∧ EntsD w' B T v (markEs es m0) ∧ Mid B T w w' := by
  obtain ⟨xa, xn, xc, rfl⟩ : ∃ xa xn xc, v = .slice xa xn xc := by
    rcases hE.ents.form with ⟨rfl, _⟩ | ⟨_, _, rfl, _, _, _, _⟩
    · exact ⟨_, _, _, rfl⟩
    · exact ⟨_, _, _, rfl⟩
  have hb := (Below.refl w.heap.size w).alloc (Nat.le_refl _) (.cells #[.slice xa xn xc, .bool sh, .int .i64 lv] 33)
  have M := markEs_any (m0 := m0) hm0 hm1 hz hr (hE.below hb)
  have HB : Hid (Mid B T _ _) := Mid.of hb
  clear hb hE hr
  go_enter Tryz.func13, Tryz.ntmps13
  go_wp2_with fail
  refine M.mono ?_
  rintro e w3 ⟨rfl, i3, b3⟩
  clear M
  go_wp2
  go_ret
  exact ⟨rfl, i3, HB.out.trans b3⟩

theorem endM_pos : ∀ (es : List Ent) (m : Int), 0 ≤ m → 0 ≤ endM es m
  | [], _, h => h
  | e :: es, m, h => endM_pos es _ (by omega)
end Go.Proofs.YtanfebccenfffahGreatDoor
