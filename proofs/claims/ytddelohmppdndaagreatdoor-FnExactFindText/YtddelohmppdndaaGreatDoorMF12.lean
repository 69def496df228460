/- Texts of mine laid together: MarkR0, ToRD, EqEl, EqRules, MarkR1, RowMid, BlkC, Blk, WFindText. -/
import Derived.Test.YtddelohmppdndaaGreatDoorMF11
import Derived.Test.YtddelohmppdndaaGreatDoorEl
import Derived.BigQuiet
import Derived.Deep.QuietTactic
import Derived.Deep.RegionHeld
import Derived.Test.YtddelohmppdndaaGreatDoorEnts
import Derived.Deep.RegionHeldLaw
import Derived.Test.YtddelohmppdndaaGreatDoorMF9
namespace Go.Proofs.YtddelohmppdndaaGreatDoor
open Go.RowKit

theorem entAll_setEl (xs : List Value) (es : List Ent) (k : Nat) (e : Ent) (h : xs.length = es.length) (hk : k < es.length) :
    entAll xs (es.set k e) = ((((entAll xs es).set (k * 5 + 1) (.int .i64 e.el.first)).set (k * 5 + 2) (.int .i64 e.el.second)).set (k * 5 + 3) (.int .i64 e.el.third)).set (k * 5 + 4) (.bool e.el.varies) := by
  induction es generalizing xs k with
  | nil => simp at hk
  | cons e' es ih => cases xs with
    | nil => simp at h
    | cons y ys =>
      cases k with
      | zero => rfl
      | succ k =>
        have hk' : k < es.length := by simpa using hk
        show entC y e'.el ++ entAll ys (es.set k e) = ((((entC y e'.el ++ entAll ys es).set ((k + 1) * 5 + 1) _).set ((k + 1) * 5 + 2) _).set ((k + 1) * 5 + 3) _).set ((k + 1) * 5 + 4) _
        rw [ih ys k (by simpa using h) hk', List.set_append_right _ _ (by show 5 ≤ _; omega), List.set_append_right _ _ (by show 5 ≤ _; omega), List.set_append_right _ _ (by show 5 ≤ _; omega), List.set_append_right _ _ (by show 5 ≤ _; omega)]
        have q1 : (k + 1) * 5 + 1 - (entC y e'.el).length = k * 5 + 1 := by show (k + 1) * 5 + 1 - 5 = _; omega
        have q2 : (k + 1) * 5 + 2 - (entC y e'.el).length = k * 5 + 2 := by show (k + 1) * 5 + 2 - 5 = _; omega
        have q3 : (k + 1) * 5 + 3 - (entC y e'.el).length = k * 5 + 3 := by show (k + 1) * 5 + 3 - 5 = _; omega
        have q4 : (k + 1) * 5 + 4 - (entC y e'.el).length = k * 5 + 4 := by show (k + 1) * 5 + 4 - 5 = _; omega
        rw [q1, q2, q3, q4]

def set4 (u : World) (g p : Nat) (e : El) : World := (((u.setCell ⟨g, p + 1, none⟩ (.int .i64 e.first)).setCell ⟨g, p + 2, none⟩ (.int .i64 e.second)).setCell ⟨g, p + 3, none⟩ (.int .i64 e.third)).setCell ⟨g, p + 4, none⟩ (.bool e.varies)

theorem set4_grown (u : World) (g p : Nat) (e : El) : u.grownBy (set4 u g p e) (some g) :=
  (((setCell_grown u g (p + 1) _).trans (setCell_grown _ g (p + 2) _)).trans (setCell_grown _ g (p + 3) _)).trans (setCell_grown _ g (p + 4) _)

/-- An entry's list marked, then its elem laid anew. -/
theorem entsD_mark {u u3 : World} {B T g cap n j : Nat} {es : List Ent} {xs : List Value} {x : Value} {ys : List Int} {el : El} (hn : es.length = n) (hl : xs.length = es.length) (h1 : u.ownsRow B 69 5 (.slice (some ⟨g, 0, none⟩) n cap) n (entAll xs es))
    (h2 : ∀ (k : Nat) (e : Ent), es[k]? = some e → ∃ x, xs[k]? = some x ∧ Ints u B x e.runes) (h3 : ∀ (i j : Nat) (x y : Value), i ≠ j → xs[i]? = some x → xs[j]? = some y → x.ownBlock = none ∨ x.ownBlock ≠ y.ownBlock)
    (h4 : g < T) (h5 : ∀ (i : Nat) (x : Value) (g : Nat), xs[i]? = some x → x.ownBlock = some g → g < T)
    (hj : j < n) (hx : xs[j]? = some x) (hI0 : Ints u B x ys ∨ ∃ l, Ints u B x l) (hI : Ints u3 B x ys) (hg : u.grownBy u3 x.ownBlock) :
    EntsD (set4 u3 g (j * 5) el) B T (.slice (some ⟨g, 0, none⟩) n cap) (es.set j ⟨ys, el⟩) := by
  subst hn
  have hI0' : ∃ l, Ints u B x l := by
    rcases hI0 with h | h
    · exact ⟨_, h⟩
    · exact h
  obtain ⟨l0, hI0⟩ := hI0'
  have k1 := World.ownsRow.kept h1 hg (own_type h1 hI0 (by decide))
  have s2 := k1.stored (j * 5 + 1) (.int .i64 el.first)
  have s3 := s2.1.stored (j * 5 + 2) (.int .i64 el.second)
  have s4 := s3.1.stored (j * 5 + 3) (.int .i64 el.third)
  have s5 := s4.1.stored (j * 5 + 4) (.bool el.varies)
  have hg4 := set4_grown u3 g (j * 5) el
  refine ⟨xs, by simp [hl], ?_, fun i y hy => ?_, h3, fun g' e => by cases e; exact h4, h5⟩
  · rw [entAll_setEl xs es j ⟨ys, el⟩ hl hj, List.length_set]
    exact s5.1
  · by_cases c : i = j
    · subst c
      rw [List.getElem?_set_self (by omega)] at hy
      cases hy
      exact ⟨x, hx, World.ownsRow.kept hI hg4 (own_type hI k1 (by decide))⟩
    · rw [List.getElem?_set_ne (by omega)] at hy
      obtain ⟨z, hz, hzi⟩ := h2 i y hy
      have hz3 := World.ownsRow.kept hzi hg (h3 i j z x c hz hx)
      exact ⟨z, hz, World.ownsRow.kept hz3 hg4 (own_type hz3 k1 (by decide))⟩

def mkR (k : Int) : El := ⟨k, k + 1, k + 1 + 1, (k + 1 + 1 + 1) % 3 == 0⟩

def markEs : List Ent → Int → List Ent
  | [], _ => []
  | e :: es, m => ⟨seqK m e.runes.length, mkR (m + (e.runes.length : Int))⟩ :: markEs es (m + (e.runes.length : Int) + 1 + 1 + 1 + 1)

def endM : List Ent → Int → Int
  | [], m => m
  | e :: es, m => endM es (m + (e.runes.length : Int) + 1 + 1 + 1 + 1)

theorem markEs_len : ∀ (es : List Ent) (m : Int), (markEs es m).length = es.length
  | [], _ => rfl
  | e :: es, m => by simp [markEs, markEs_len es]

def MRel (w : World) (B T : Nat) (v : Value) (es : List Ent) (m0 : Int) (kv i : Value) (wr : World) : Prop :=
  ∃ (j : Nat) (m : Int) (done : List Ent), j ≤ es.length ∧ i = .int .i64 j ∧ kv = .int .i64 m ∧ 0 ≤ m ∧ m ≤ m0 + 2000 * (j : Int) ∧ done.length = j ∧ EntsD wr B T v (done ++ es.drop j) ∧
    done ++ markEs (es.drop j) m = markEs es m0 ∧ endM (es.drop j) m = endM es m0 ∧ Mid B T w wr

theorem ents_drop {es : List Ent} {k : Nat} {e : Ent} (h : es[k]? = some e) : es.drop k = e :: es.drop (k + 1) := by
  obtain ⟨hk, rfl⟩ := List.getElem?_eq_some_iff.1 h
  exact List.drop_eq_getElem_cons hk

set_option maxRecDepth 100000 in
set_option maxHeartbeats 4000000 in
theorem markEs_row (w : World) (B T g cap : Nat) (es : List Ent) (m0 : Int) (hm0 : 0 ≤ m0) (hm1 : m0 ≤ 1048576) (hz : es.length ≤ 1048576) (hr : ∀ e ∈ es, e.runes.length ≤ 1000) (hE : EntsD w B T (.slice (some ⟨g, 0, none⟩) es.length cap) es) :
    Calls Tryz.prog 26 #[.slice (some ⟨g, 0, none⟩) es.length cap, .int .i64 m0] w fun e w' => e = .returned (.int .i64 (endM es m0)) ∧ EntsD w' B T (.slice (some ⟨g, 0, none⟩) es.length cap) (markEs es m0) ∧ Mid B T w w' := by
  go_enter Tryz.func26, Tryz.ntmps26
  go_wp2
  go_loopw [1, 5] (fun kv i wr => MRel w B T (.slice (some ⟨g, 0, none⟩) es.length cap) es m0 kv i wr) (fun _ i _ => es.length - (intOf i).toNat)
  case atStart => exact ⟨0, m0, [], Nat.zero_le _, rfl, rfl, hm0, by simp, rfl, by simpa using hE, by simp, by simp, Mid.refl _ _ _⟩
  case round =>
    clear hE
    obtain ⟨j, m, done, hj, rfl, rfl, hmm0, hmm1, hdl, hED, hmk, hend, hbw⟩ := hrel
    have HMK : Hid _ := hmk
    have HEND : Hid _ := hend
    clear hmk hend
    by_cases hlt : j < es.length
    · obtain ⟨e, he⟩ : ∃ e, es[j]? = some e := ⟨_, List.getElem?_eq_getElem hlt⟩
      have hre := hr e (List.mem_of_getElem? he)
      have hdr := ents_drop he
      have hlen : (done ++ es.drop j).length = es.length := by rw [List.length_append, hdl, List.length_drop]; omega
      have hat : (done ++ es.drop j)[j]? = some e := by rw [List.getElem?_append_right (by omega), hdl, Nat.sub_self, hdr]; rfl
      obtain ⟨xs, hxl, h1, h2, h3, h4, h5⟩ := hED
      obtain ⟨x, hx, hI⟩ := h2 j e hat
      rw [hlen] at h1
      obtain ⟨xa, xn, xc, rfl⟩ : ∃ xa xn xc, x = .slice xa xn xc := by
        rcases hI.form with ⟨rfl, _⟩ | ⟨_, _, rfl, _, _⟩
        · exact ⟨_, _, _, rfl⟩
        · exact ⟨_, _, _, rfl⟩
      have at' : ∀ i, i < 5 → wr.cell? ⟨g, j * 5 + i, none⟩ = (entC (.slice xa xn xc) e.el)[i]? := fun i hi => by
        rw [World.ownsRow.cellAt h1 (j * 5 + i) (by omega), entAll_at xs _ j i _ e hx hat hi]
      have a0 : wr.cell? ⟨g, j * 5, none⟩ = some (.slice xa xn xc) := at' 0 (by omega)
      have hj8 : (j : Int) < (es.length : Int) := by omega
      have MK := markK_any (m := m) hmm0 (by omega) (by omega) hI
      obtain ⟨M, hM⟩ : ∃ M, M = m + (e.runes.length : Int) := ⟨_, rfl⟩
      rw [← hM] at MK
      have hMb : 0 ≤ M ∧ M ≤ 1048576 + 2000 * 1048576 + 1000 := by omega
      obtain ⟨hMb0, hMb1⟩ := hMb
      have HM : Hid _ := hM
      have HX : Hid _ := hx
      have HE : Hid _ := he
      have HDR : Hid _ := hdr
      have HLEN : Hid _ := hlen
      have HAT : Hid _ := hat
      have H1 : Hid _ := h1
      have H2 : Hid _ := h2
      have H3 : Hid _ := h3
      have H4 : Hid (g < T) := h4 g rfl
      have H5 : Hid _ := h5
      have HXL : Hid _ := hxl
      have HI : Hid (Ints _ _ _ _) := hI
      clear hM hx he hdr hlen hat h1 h2 h3 h4 h5 hxl hI at' hr
      go_wp2_with fail
      refine MK.mono ?_
      rintro e' w3 ⟨rfl, i3, g3⟩
      have k1 := World.ownsRow.kept H1.out g3 (own_type H1.out HI.out (by decide))
      have at3 : ∀ i, i < 5 → w3.cell? ⟨g, j * 5 + i, none⟩ = (entC (.slice xa xn xc) e.el)[i]? := fun i hi => by
        rw [World.ownsRow.cellAt k1 (j * 5 + i) (by omega), entAll_at xs _ j i _ e HX.out HAT.out hi]
      have c1 : w3.cell? ⟨g, j * 5 + 1, none⟩ = some (.int .i64 e.el.first) := at3 1 (by omega)
      have c2 : w3.cell? ⟨g, j * 5 + 2, none⟩ = some (.int .i64 e.el.second) := at3 2 (by omega)
      have c3 : w3.cell? ⟨g, j * 5 + 3, none⟩ = some (.int .i64 e.el.third) := at3 3 (by omega)
      have c4 : w3.cell? ⟨g, j * 5 + 4, none⟩ = some (.bool e.el.varies) := at3 4 (by omega)
      have f1 := k1.frozenAt (j * 5 + 1)
      have f2 := k1.frozenAt (j * 5 + 2)
      have f3 := k1.frozenAt (j * 5 + 3)
      have f4 := k1.frozenAt (j * 5 + 4)
      have hD := entsD_mark (el := mkR M) HLEN.out HXL.out H1.out H2.out H3.out H4.out H5.out hlt HX.out (.inr ⟨_, HI.out⟩) i3 g3
      have hset : (done ++ es.drop j).set j ⟨seqK m e.runes.length, mkR M⟩ = (done ++ [⟨seqK m e.runes.length, mkR M⟩]) ++ es.drop (j + 1) := by
        rw [List.set_append_right _ _ (by omega), hdl, Nat.sub_self, HDR.out, List.set_cons_zero]; simp
      rw [hset] at hD
      have hgB := (World.ownsRow.lt H1.out g rfl).1
      have hb3 : Mid B T w w3 := hbw.grown g3 (fun jj hjj => ⟨(World.ownsRow.lt HI.out jj hjj).1, H5.out j _ jj HX.out hjj⟩)
      have hb4 : Mid B T w (set4 w3 g (j * 5) (mkR M)) := hb3.grown (set4_grown w3 g (j * 5) (mkR M)) (fun jj hjj => by cases hjj; exact ⟨hgB, H4.out⟩)
      have HD : Hid (EntsD _ _ _ _ _) := hD
      have HB4 : Hid (Mid _ _ _ _) := hb4
      have HMK2 : Hid ((done ++ [⟨seqK m e.runes.length, mkR M⟩]) ++ markEs (es.drop (j + 1)) (M + 1 + 1 + 1 + 1) = markEs es m0) := by
        show _ = _
        rw [← HMK.out, HDR.out, HM.out]
        simp [markEs]
      have HEND2 : Hid (endM (es.drop (j + 1)) (M + 1 + 1 + 1 + 1) = endM es m0) := by
        show _ = _
        rw [← HEND.out, HDR.out, HM.out]
        rfl
      have HBD : Hid (M + 1 + 1 + 1 + 1 ≤ m0 + 2000 * ((j + 1 : Nat) : Int)) := by show _ ≤ _; have := HM.out; omega
      have HDL : Hid ((done ++ [(⟨seqK m e.runes.length, mkR M⟩ : Ent)]).length = j + 1) := by show _ = _; simp [hdl]
      clear MK k1 at3 hD hset hb3 hb4 HMK HEND HM HX HE HDR HLEN HAT H1 H2 H3 H4 H5 HXL HI i3 g3 a0 hdl
      go_wp2
      exact ⟨⟨j + 1, M + 1 + 1 + 1 + 1, _, hlt, by go_num, rfl, by omega, HBD.out, HDL.out, HD.out, HMK2.out, HEND2.out, HB4.out⟩, by simp [intOf]; omega⟩
    · have hjz : j = es.length := by omega
      subst hjz
      have e1 : es.drop es.length = [] := List.drop_length
      have HF : Hid (m = endM es m0) := by show _ = _; rw [← HEND.out, e1]; rfl
      have HG : Hid (done = markEs es m0) := by show _ = _; rw [← HMK.out, e1]; simp [markEs]
      rw [e1, List.append_nil] at hED
      clear HMK HEND e1 hr
      go_wp2
      go_ret
      rw [← HF.out, ← HG.out]
      exact ⟨rfl, hED, hbw⟩

set_option maxRecDepth 100000 in
set_option maxHeartbeats 1000000 in
theorem markEs_none (w : World) (a : Option Addr) (c : Nat) (m : Int) : Calls Tryz.prog 26 #[.slice a 0 c, .int .i64 m] w fun e w' => e = .returned (.int .i64 m) ∧ w' = w := by
  go_enter Tryz.func26, Tryz.ntmps26
  go_wp2
  go_loop [1, 5] (fun k i => k = .int .i64 m ∧ i = .int .i64 0) (fun _ _ => 0)
  case atStart => exact ⟨rfl, rfl⟩
  case round =>
    obtain ⟨rfl, rfl⟩ := hrel
    go_wp2
    go_ret
    exact ⟨rfl, rfl⟩

theorem markEs_any {w : World} {B T : Nat} {v : Value} {es : List Ent} {m0 : Int} (hm0 : 0 ≤ m0) (hm1 : m0 ≤ 1048576) (hz : es.length ≤ 1048576) (hr : ∀ e ∈ es, e.runes.length ≤ 1000) (hE : EntsD w B T v es) :
    Calls Tryz.prog 26 #[v, .int .i64 m0] w fun e w' => e = .returned (.int .i64 (endM es m0)) ∧ EntsD w' B T v (markEs es m0) ∧ Mid B T w w' := by
  rcases hE.ents.form with ⟨rfl, rfl⟩ | ⟨g, cap, rfl, _, _, _, _⟩
  · refine (markEs_none w _ _ m0).mono ?_
    rintro e w' ⟨rfl, rfl⟩
    exact ⟨rfl, hE, Mid.refl _ _ _⟩
  · exact markEs_row w B T g cap es m0 hm0 hm1 hz hr hE

set_option maxRecDepth 100000 in
set_option maxHeartbeats 1000000 in
theorem markRules_any {w : World} {B T : Nat} {v : Value} {es : List Ent} {m0 : Int} (sh : Bool) (lv : Int) (hm0 : 0 ≤ m0) (hm1 : m0 ≤ 1048576) (hz : es.length ≤ 1048576) (hr : ∀ e ∈ es, e.runes.length ≤ 1000) (hE : EntsD w B T v es) :
    Calls Tryz.prog 10 #[.agg #[v, .bool sh, .int .i64 lv], .int .i64 m0] w fun e w' => e = .returned (.int .i64 (endM es m0)) ∧ EntsD w' B T v (markEs es m0) ∧ Mid B T w w' := by
  obtain ⟨xa, xn, xc, rfl⟩ : ∃ xa xn xc, v = .slice xa xn xc := by
    rcases hE.ents.form with ⟨rfl, _⟩ | ⟨_, _, rfl, _, _, _, _⟩
    · exact ⟨_, _, _, rfl⟩
    · exact ⟨_, _, _, rfl⟩
  have hb := (Below.refl w.heap.size w).alloc (Nat.le_refl _) (.cells #[.slice xa xn xc, .bool sh, .int .i64 lv] 31)
  have M := markEs_any (m0 := m0) hm0 hm1 hz hr (hE.below hb)
  have HB : Hid (Mid B T _ _) := Mid.of hb
  clear hb hE hr
  go_enter Tryz.func10, Tryz.ntmps10
  go_wp2_with fail
  refine M.mono ?_
  rintro e w3 ⟨rfl, i3, b3⟩
  clear M
  go_wp2
  go_ret
  exact ⟨rfl, i3, HB.out.trans b3⟩

theorem endM_pos : ∀ (es : List Ent) (m : Int), 0 ≤ m → 0 ≤ endM es m
  | [], _, h => h
  | e :: es, m, h => endM_pos es _ (by omega)
end Go.Proofs.YtddelohmppdndaaGreatDoor

namespace Go.Proofs.YtddelohmppdndaaGreatDoor
open Go.RowKit

theorem entsD_made {w : World} {B : Nat} {v : Value} {n : Nat} (h : w.ownsRow B 69 5 v n (madeCells zCells (n * 5)).toList) : EntsD w B w.heap.size v (List.replicate n zEnt) := by
  refine ⟨List.replicate n (.slice none 0 0), by simp, ?_, fun k e he => ?_, fun i j x y _ hx _ => ?_, fun g hg => (World.ownsRow.lt h g hg).2, fun i x g hx hg => ?_⟩
  · rw [← made_ents, List.length_replicate]; exact h
  · have hk := (List.getElem?_eq_some_iff.1 he).1
    rw [List.length_replicate] at hk
    refine ⟨.slice none 0 0, by simp [hk], ?_⟩
    have : e = zEnt := by simp [hk] at he; exact he.symm
    subst this
    exact ⟨rfl, .inl ⟨rfl, rfl⟩⟩
  · have := (List.mem_replicate.1 (List.mem_of_getElem? hx)).2
    subst this
    exact .inl rfl
  · have := (List.mem_replicate.1 (List.mem_of_getElem? hx)).2
    subst this
    cases hg

theorem EntsD.high {w : World} {B T T' : Nat} {v : Value} {es : List Ent} (h : EntsD w B T v es) (hT : T ≤ T') : EntsD w B T' v es := by
  obtain ⟨xs, hl, h1, h2, h3, h4, h5⟩ := h
  exact ⟨xs, hl, h1, h2, h3, fun g hg => Nat.lt_of_lt_of_le (h4 g hg) hT, fun i x g hx hg => Nat.lt_of_lt_of_le (h5 i x g hx hg) hT⟩

theorem EntsD.low {w : World} {B B' T : Nat} {v : Value} {es : List Ent} (h : EntsD w B' T v es) (hB : B ≤ B') : EntsD w B T v es := by
  obtain ⟨xs, hl, h1, h2, h3, h4, h5⟩ := h
  refine ⟨xs, hl, ⟨h1.1, ?_⟩, fun k e he => ?_, h3, h4, h5⟩
  · rcases h1.2 with h | ⟨g, cap, cur, a, b, c⟩
    · exact .inl h
    · exact .inr ⟨g, cap, cur, a, Nat.le_trans hB b, c⟩
  · obtain ⟨x, hx, hI⟩ := h2 k e he
    exact ⟨x, hx, ints_low2 hI hB⟩

theorem EntsD.grown {u u' : World} {B T b : Nat} {v : Value} {es : List Ent} (h : EntsD u B T v es) (hg : u.grownBy u' (some b)) (hb : b < B) : EntsD u' B T v es := by
  obtain ⟨xs, hl, h1, h2, h3, h4, h5⟩ := h
  refine ⟨xs, hl, World.ownsRow.kept h1 hg ?_, fun k e he => ?_, h3, h4, h5⟩
  · cases e : v.ownBlock with
    | none => exact .inl rfl
    | some g => exact .inr fun c => by have := (World.ownsRow.lt h1 g e).1; cases c; omega
  · obtain ⟨x, hx, hI⟩ := h2 k e he
    exact ⟨x, hx, hI.away hg hb⟩

/-- An entry laid anew at its place, its list in a block of its own. -/
theorem EntsD.setAt {u : World} {B C T g cap n k : Nat} {es : List Ent} {x : Value} {e : Ent} (h : EntsD u B T (.slice (some ⟨g, 0, none⟩) n cap) es) (hn : es.length = n) (hk : k < n) (hI : Ints u C x e.runes) (hB : B ≤ C) (hC : T ≤ u.heap.size) (hTC : T ≤ C := by omega) :
    EntsD (set5 u g (k * 5) x e.el) B (set5 u g (k * 5) x e.el).heap.size (.slice (some ⟨g, 0, none⟩) n cap) (es.set k e) := by
  subst hn
  obtain ⟨xs, hl, h1, h2, h3, h4, h5⟩ := h
  have s1 := h1.stored (k * 5) x
  have s2 := s1.1.stored (k * 5 + 1) (.int .i64 e.el.first)
  have s3 := s2.1.stored (k * 5 + 2) (.int .i64 e.el.second)
  have s4 := s3.1.stored (k * 5 + 3) (.int .i64 e.el.third)
  have s5 := s4.1.stored (k * 5 + 4) (.bool e.el.varies)
  have hg := set5_grown u g (k * 5) x e.el
  have hsz := hg.size
  have hIB := ints_low2 hI hB
  have away : ∀ (j : Nat) (y : Value), j ≠ k → xs[j]? = some y → y.ownBlock = none ∨ y.ownBlock ≠ x.ownBlock := fun j y _ hy => by
    cases c : y.ownBlock with
    | none => exact .inl rfl
    | some b =>
      refine .inr fun e' => ?_
      have l1 := h5 j y b hy c
      have l2 := (World.ownsRow.lt hI b e'.symm).1
      omega
  refine ⟨xs.set k x, by simp [hl], ?_, fun j y hy => ?_, fun i j y z hij hy hz => ?_, fun b hb => ?_, fun i y b hy hb => ?_⟩
  · rw [entAll_set xs es k x e hl hk, List.length_set]
    exact s5.1
  · by_cases c : j = k
    · subst c
      rw [List.getElem?_set_self (by omega)] at hy
      cases hy
      exact ⟨x, by rw [List.getElem?_set_self (by omega)], World.ownsRow.kept hIB hg (own_type hIB h1 (by decide))⟩
    · rw [List.getElem?_set_ne (by omega)] at hy
      obtain ⟨z, hz, hzi⟩ := h2 j y hy
      exact ⟨z, by rw [List.getElem?_set_ne (by omega)]; exact hz, World.ownsRow.kept hzi hg (own_type hzi h1 (by decide))⟩
  · by_cases ci : i = k
    · subst ci
      rw [List.getElem?_set_self (by omega)] at hy
      cases hy
      rw [List.getElem?_set_ne hij] at hz
      rcases away j z (fun c => hij c.symm) hz with c | c
      · cases c2 : x.ownBlock with
        | none => exact .inl rfl
        | some b => exact .inr fun e' => by rw [c] at e'; cases e'
      · exact .inr fun e' => c e'.symm
    · rw [List.getElem?_set_ne (fun c => ci c.symm)] at hy
      by_cases cj : j = k
      · subst cj
        rw [List.getElem?_set_self (by omega)] at hz
        cases hz
        exact away i y ci hy
      · rw [List.getElem?_set_ne (fun c => cj c.symm)] at hz
        exact h3 i j y z hij hy hz
  · exact Nat.lt_of_lt_of_le (World.ownsRow.lt h1 b hb).2 hsz
  · by_cases ci : i = k
    · subst ci
      rw [List.getElem?_set_self (by omega)] at hy
      cases hy
      exact Nat.lt_of_lt_of_le (World.ownsRow.lt hI b hb).2 hsz
    · rw [List.getElem?_set_ne (fun c => ci c.symm)] at hy
      exact Nat.lt_of_lt_of_le (h5 i y b hy hb) (Nat.le_trans hC hsz)

def TDRel (w : World) (es : List Ent) (i : Value) (wr : World) : Prop :=
  ∃ k : Nat, k ≤ es.length ∧ i = .int .i64 k ∧ EntsD wr w.heap.size wr.heap.size (.slice (some ⟨w.heap.size, 0, none⟩) es.length es.length) (fillE es k) ∧ Below w.heap.size w wr

set_option maxRecDepth 100000 in
set_option maxHeartbeats 2000000 in
theorem toEntsD_any (w0 w : World) (a : Option Addr) (len cap : Nat) (es : List Ent) (hA : ArgEnts w0 a len cap es) (hb : Below w0.heap.size w0 w) (hm : len ≤ 1048576) (hr : ∀ e ∈ es, e.runes.length ≤ 1048576) :
    Calls Tryz.prog 19 #[.slice a len cap] w fun e w' => ∃ g, e = .returned (.slice (some ⟨g, 0, none⟩) len len) ∧ EntsD w' w.heap.size w'.heap.size (.slice (some ⟨g, 0, none⟩) len len) es ∧ Below w.heap.size w w' := by
  obtain ⟨hlen, hlc, hcm, hA⟩ := hA
  subst hlen
  obtain ⟨i0, hi, hz0, hz1, hz2⟩ := info_parts info_ent
  go_enter Tryz.func19, Tryz.ntmps19
  go_wp2_with (at_make; refine wpList_make_full _ rfl _ _ 29 rfl w.heap.size 69 i0 _ 5 Tryz.underlying29 hi hz0 hz1 .i64 .i64 _ _ es.length rfl rfl rfl rfl (by rw [hz2]; omega) (by unfold maxLen; omega) (Nat.le_refl _) ?_; intro w1 hown hgr)
  have hE1 : EntsD w1 w.heap.size w1.heap.size (.slice (some ⟨w.heap.size, 0, none⟩) es.length es.length) (fillE es 0) := by
    have := entsD_made hown
    simpa [fillE] using this
  have hb1 : Below w.heap.size w w1 := Below.grown (Below.refl _ _) hgr (Nat.le_refl _) (fun j hj => by cases hj)
  clear hown hgr
  go_loopw [4] (fun i wr => TDRel w es i wr) (fun i _ => es.length - (intOf i).toNat)
  case atStart => exact ⟨0, Nat.zero_le _, rfl, hE1, hb1⟩
  case round =>
    clear hE1 hb1
    obtain ⟨k, hk, rfl, hE, hbr⟩ := hrel
    by_cases hlt : k < es.length
    · obtain ⟨e, he⟩ : ∃ e, es[k]? = some e := ⟨_, List.getElem?_eq_getElem hlt⟩
      obtain ⟨b, o, rfl, hAE⟩ := hA.resolve_left (by omega)
      obtain ⟨ra, rl, rc, zs, hro, e1, e2, a0, a1, a2, a3, a4⟩ := (hAE k e he).below (hb.trans (hbr.mono hb.size))
      have hk8 : (k : Int) < (es.length : Int) := by omega
      have T := toEntry_any w0 wr ra rl rc zs e.el.first e.el.second e.el.third e.el.varies hro (hb.trans (hbr.mono hb.size)) (by have := hr e (List.mem_of_getElem? he); omega)
      rw [← e1] at T
      have HE : Hid (EntsD _ _ _ _ _) := hE
      have HG : Hid (es[k]? = some e) := he
      clear hAE he hro e1 e2 hr hE
      go_wp2_with fail
      refine T.mono ?_
      rintro e' w3 ⟨x, rfl, i3, b3⟩
      obtain ⟨xa, xn, xc, rfl⟩ : ∃ xa xn xc, x = .slice xa xn xc := by
        rcases i3.form with ⟨rfl, _⟩ | ⟨_, _, rfl, _, _⟩
        · exact ⟨_, _, _, rfl⟩
        · exact ⟨_, _, _, rfl⟩
      have hE3 := HE.out.below b3
      have hfl := fillE_len es k hk
      have hset := hE3.setAt (k := k) (x := .slice xa xn xc) (e := e) hfl hlt i3 hbr.size b3.size
      rw [fillE_set HG.out] at hset
      have HS : Hid (EntsD _ _ _ _ _) := hset
      have HB : Hid (Below _ _ _) := grown_ge (hbr.trans (b3.mono hbr.size)) (set5_grown w3 w.heap.size (k * 5) (.slice xa xn xc) e.el) (Nat.le_refl _)
      obtain ⟨xs, hxl, h1, _⟩ := hE3.ents
      rw [hfl] at h1
      obtain ⟨y, hy⟩ : ∃ y, (fillE es k)[k]? = some y := ⟨_, List.getElem?_eq_getElem (by omega)⟩
      have hE3' : Ents w3 w.heap.size (.slice (some ⟨w.heap.size, 0, none⟩) (fillE es k).length es.length) (fillE es k) := by rw [hfl]; exact (HE.out.below b3).ents
      obtain ⟨z, _, c0, c1, c2, c3, c4⟩ := hE3'.cells k y hy
      have f0 := h1.frozenAt (k * 5)
      have f1 := h1.frozenAt (k * 5 + 1)
      have f2 := h1.frozenAt (k * 5 + 2)
      have f3 := h1.frozenAt (k * 5 + 3)
      have f4 := h1.frozenAt (k * 5 + 4)
      clear T a0 a1 a2 a3 a4 HE HG hset hxl h1 hy hE3' b3 i3 hfl
      go_wp2
      exact ⟨⟨k + 1, hlt, by go_num, HS.out, HB.out⟩, by simp [intOf]; omega⟩
    · have hk3 : k = es.length := by omega
      subst hk3
      rw [fillE_all] at hE
      clear hA hr
      go_wp2
      go_ret
      exact ⟨_, rfl, hE, hbr⟩

set_option maxRecDepth 100000 in
set_option maxHeartbeats 2000000 in
theorem toRulesD_any (w0 w : World) (a : Option Addr) (len cap : Nat) (es : List Ent) (sh : Bool) (lv : Int) (hA : ArgEnts w0 a len cap es) (hb : Below w0.heap.size w0 w) (hm : len ≤ 1048576) (hr : ∀ e ∈ es, e.runes.length ≤ 1048576) :
    Calls Tryz.prog 6 #[.agg #[.slice a len cap, .bool sh, .int .i64 lv]] w fun e w' => ∃ g, e = .returned (.agg #[.slice (some ⟨g, 0, none⟩) len len, .bool sh, .int .i64 lv]) ∧ EntsD w' w.heap.size w'.heap.size (.slice (some ⟨g, 0, none⟩) len len) es ∧ Below w.heap.size w w' := by
  have hb3 := (((Below.refl w.heap.size w).alloc (Nat.le_refl _) (.cells #[.slice a len cap, .bool sh, .int .i64 lv] 24)).alloc (by simp) (.cells #[.slice none 0 0, .bool false, .int .i64 0] 31)).alloc (by simp; omega) (.cells #[.slice none 0 0, .bool false, .int .i64 0] 31)
  have T := toEntsD_any w0 _ a len cap es hA (hb.trans (hb3.mono hb.size)) hm hr
  have HX : Hid (TR _ _ _ _ _ _ _ _) := alloc3_heap w (.cells #[.slice a len cap, .bool sh, .int .i64 lv] 24) (.cells #[.slice none 0 0, .bool false, .int .i64 0] 31) (.cells #[.slice none 0 0, .bool false, .int .i64 0] 31)
  have HB : Hid (Below _ _ _) := hb3
  clear hb3 hb hA hr
  go_enter Tryz.func6, Tryz.ntmps6
  go_wp2_with fail
  refine T.mono ?_
  rintro e w3 ⟨g, rfl, i3, b3⟩
  have hx3 := HX.out.below b3
  have HI3 : Hid (EntsD w3 (w.heap.size + 1 + 1 + 1) w3.heap.size (.slice (some ⟨g, 0, none⟩) len len) es) := by show EntsD _ _ _ _ _; simpa using i3
  have HC3 : Hid (Below _ _ _) := HB.out.trans (b3.mono HB.out.size)
  obtain ⟨⟨l1, l2, l3⟩, ⟨a0, a1, a2⟩, ⟨q0, q1, q2, qf⟩, ⟨p0, p1, p2, pf⟩⟩ := hx3.facts
  clear T HX HB b3 i3 hx3
  go_wp2
  refine bodyPost_ret (v := .agg #[.slice (some ⟨g, 0, none⟩) len len, .bool sh, .int .i64 lv]) ?_ rfl ⟨_, rfl, ?_, ?_⟩
  · rw [results_cell1 rfl]
    go_simp
  · refine EntsD.low (B' := w.heap.size + 1 + 1 + 1) ?_ (by omega)
    refine EntsD.high (T := w3.heap.size) ?_ (by simp [World.setCell])
    iterate 6 (refine EntsD.grown ?_ (setCell_grown _ _ _ _) (by omega))
    exact HI3.out
  · iterate 6 (refine grown_ge ?_ (setCell_grown _ _ _ _) (by omega))
    exact HC3.out
end Go.Proofs.YtddelohmppdndaaGreatDoor

namespace Go.Proofs.YtddelohmppdndaaGreatDoor
open Go.RowKit

set_option maxRecDepth 100000 in
set_option maxHeartbeats 1000000 in
theorem eqElem_same (w : World) (a b c : Int) (d : Bool) : Calls Tryz.prog 67 #[.agg #[.int .i64 a, .int .i64 b, .int .i64 c, .bool d], .agg #[.int .i64 a, .int .i64 b, .int .i64 c, .bool d]] w fun e w' => e = .returned (.bool true) ∧ Below w.heap.size w w' := by
  go_enter Tryz.func67, Tryz.ntmps67
  go_wp2
  go_ret
  exact ⟨rfl, ((Below.refl _ _).alloc (Nat.le_refl _) _).alloc (by simp) _⟩
end Go.Proofs.YtddelohmppdndaaGreatDoor

namespace Go.Proofs.YtddelohmppdndaaGreatDoor
open Go.RowKit

set_option maxRecDepth 100000 in
set_option maxHeartbeats 2000000 in
theorem eqEnt_same {w : World} {B B' : Nat} {x y : Value} {l : List Int} (f s t : Int) (v : Bool) (hx : Ints w B x l) (hy : Ints w B' y l) :
    Calls Tryz.prog 44 #[.agg #[x, .int .i64 f, .int .i64 s, .int .i64 t, .bool v], .agg #[y, .int .i64 f, .int .i64 s, .int .i64 t, .bool v]] w fun e w' => e = .returned (.bool true) ∧ Below w.heap.size w w' := by
  obtain ⟨xa, xn, xc, rfl⟩ : ∃ xa xn xc, x = .slice xa xn xc := by
    rcases hx.form with ⟨rfl, _⟩ | ⟨_, _, rfl, _, _⟩
    · exact ⟨_, _, _, rfl⟩
    · exact ⟨_, _, _, rfl⟩
  obtain ⟨ya, yn, yc, rfl⟩ : ∃ ya yn yc, y = .slice ya yn yc := by
    rcases hy.form with ⟨rfl, _⟩ | ⟨_, _, rfl, _, _⟩
    · exact ⟨_, _, _, rfl⟩
    · exact ⟨_, _, _, rfl⟩
  have hb := ((Below.refl w.heap.size w).alloc (Nat.le_refl _) (.cells #[.slice xa xn xc, .int .i64 f, .int .i64 s, .int .i64 t, .bool v] 69)).alloc (by simp) (.cells #[.slice ya yn yc, .int .i64 f, .int .i64 s, .int .i64 t, .bool v] 69)
  have Q := eq_any (hx.below hb) (hy.below hb)
  have E := fun u => eqElem_same u f s t v
  have HB : Hid (Below _ _ _) := hb
  clear hb hx hy
  go_enter Tryz.func44, Tryz.ntmps44
  go_wp2_with fail
  refine Q.mono ?_
  rintro e w3 ⟨rfl, n3, rfl⟩
  clear Q
  go_wp2_with fail
  refine (E _).mono ?_
  rintro e w4 ⟨rfl, b4⟩
  have h3 := below_drewN HB.out n3
  clear E
  go_wp2
  go_ret
  exact ⟨rfl, h3.trans (b4.mono h3.size)⟩

set_option maxRecDepth 100000 in
set_option maxHeartbeats 1000000 in
theorem eqEs_none (w : World) (a b : Option Addr) (c d : Nat) : Calls Tryz.prog 25 #[.slice a 0 c, .slice b 0 d] w fun e w' => e = .returned (.bool true) ∧ Below w.heap.size w w' := by
  go_enter Tryz.func25, Tryz.ntmps25
  go_wp2
  go_loopw [5] (fun i wr => i = .int .i64 0 ∧ wr = w) (fun _ _ => 0)
  case atStart => exact ⟨rfl, rfl⟩
  case round =>
    obtain ⟨rfl, rfl⟩ := hrel
    go_wp2
    go_ret
    exact ⟨rfl, Below.refl _ _⟩

theorem keep10 {w0 w1 w2 : World} {g g' k xn xc yn yc : Nat} {xa ya : Option Addr} {e : Ent} (hg : g < w0.heap.size) (hg' : g' < w0.heap.size) (hb : Below w1.heap.size w1 w2)
    (h : w1.cell? ⟨g, k * 5, none⟩ = some (.slice xa xn xc) ∧ w1.cell? ⟨g, k * 5 + 1, none⟩ = some (.int .i64 e.el.first) ∧ w1.cell? ⟨g, k * 5 + 2, none⟩ = some (.int .i64 e.el.second) ∧ w1.cell? ⟨g, k * 5 + 3, none⟩ = some (.int .i64 e.el.third) ∧ w1.cell? ⟨g, k * 5 + 4, none⟩ = some (.bool e.el.varies) ∧ w1.cell? ⟨g', k * 5, none⟩ = some (.slice ya yn yc) ∧ w1.cell? ⟨g', k * 5 + 1, none⟩ = some (.int .i64 e.el.first) ∧ w1.cell? ⟨g', k * 5 + 2, none⟩ = some (.int .i64 e.el.second) ∧ w1.cell? ⟨g', k * 5 + 3, none⟩ = some (.int .i64 e.el.third) ∧ w1.cell? ⟨g', k * 5 + 4, none⟩ = some (.bool e.el.varies) ∧ Below w0.heap.size w0 w1) :
    w2.cell? ⟨g, k * 5, none⟩ = some (.slice xa xn xc) ∧ w2.cell? ⟨g, k * 5 + 1, none⟩ = some (.int .i64 e.el.first) ∧ w2.cell? ⟨g, k * 5 + 2, none⟩ = some (.int .i64 e.el.second) ∧ w2.cell? ⟨g, k * 5 + 3, none⟩ = some (.int .i64 e.el.third) ∧ w2.cell? ⟨g, k * 5 + 4, none⟩ = some (.bool e.el.varies) ∧ w2.cell? ⟨g', k * 5, none⟩ = some (.slice ya yn yc) ∧ w2.cell? ⟨g', k * 5 + 1, none⟩ = some (.int .i64 e.el.first) ∧ w2.cell? ⟨g', k * 5 + 2, none⟩ = some (.int .i64 e.el.second) ∧ w2.cell? ⟨g', k * 5 + 3, none⟩ = some (.int .i64 e.el.third) ∧ w2.cell? ⟨g', k * 5 + 4, none⟩ = some (.bool e.el.varies) ∧ Below w0.heap.size w0 w2 := by
  obtain ⟨a0, a1, a2, a3, a4, b0, b1, b2, b3, b4, h3⟩ := h
  have q1 : g < w1.heap.size := Nat.lt_of_lt_of_le hg h3.size
  have q2 : g' < w1.heap.size := Nat.lt_of_lt_of_le hg' h3.size
  exact ⟨by rw [hb.cell q1]; exact a0, by rw [hb.cell q1]; exact a1, by rw [hb.cell q1]; exact a2, by rw [hb.cell q1]; exact a3, by rw [hb.cell q1]; exact a4, by rw [hb.cell q2]; exact b0, by rw [hb.cell q2]; exact b1, by rw [hb.cell q2]; exact b2, by rw [hb.cell q2]; exact b3, by rw [hb.cell q2]; exact b4, h3.trans (hb.mono h3.size)⟩

def EsRel (w : World) (n : Nat) (i : Value) (wr : World) : Prop := ∃ k : Nat, k ≤ n ∧ i = .int .i64 k ∧ Below w.heap.size w wr

set_option maxRecDepth 100000 in
set_option maxHeartbeats 4000000 in
theorem eqEs_row (w0 : World) (B B' g g' cap cap' : Nat) (es : List Ent) (hz : es.length ≤ 1048576) (h1 : Ents w0 B (.slice (some ⟨g, 0, none⟩) es.length cap) es) (h2 : Ents w0 B' (.slice (some ⟨g', 0, none⟩) es.length cap') es) :
    Calls Tryz.prog 25 #[.slice (some ⟨g, 0, none⟩) es.length cap, .slice (some ⟨g', 0, none⟩) es.length cap'] w0 fun e w' => e = .returned (.bool true) ∧ Below w0.heap.size w0 w' := by
  have hg : g < w0.heap.size := by
    obtain ⟨xs, _, h3, _⟩ := h1
    exact (World.ownsRow.lt h3 g rfl).2
  have hg' : g' < w0.heap.size := by
    obtain ⟨xs, _, h3, _⟩ := h2
    exact (World.ownsRow.lt h3 g' rfl).2
  go_enter Tryz.func25, Tryz.ntmps25
  go_wp2
  go_loopw [5] (fun i wr => EsRel w0 es.length i wr) (fun i _ => es.length - (intOf i).toNat)
  case atStart => exact ⟨0, Nat.zero_le _, rfl, Below.refl _ _⟩
  case round =>
    obtain ⟨k, hk, rfl, hb⟩ := hrel
    by_cases hlt : k < es.length
    · obtain ⟨e, he⟩ : ∃ e, es[k]? = some e := ⟨_, List.getElem?_eq_getElem hlt⟩
      obtain ⟨x, hI, a0, a1, a2, a3, a4⟩ := h1.cells k e he
      obtain ⟨y, hJ, b0, b1, b2, b3, b4⟩ := h2.cells k e he
      obtain ⟨xa, xn, xc, rfl⟩ : ∃ xa xn xc, x = .slice xa xn xc := by
        rcases hI.form with ⟨rfl, _⟩ | ⟨_, _, rfl, _, _⟩
        · exact ⟨_, _, _, rfl⟩
        · exact ⟨_, _, _, rfl⟩
      obtain ⟨ya, yn, yc, rfl⟩ : ∃ ya yn yc, y = .slice ya yn yc := by
        rcases hJ.form with ⟨rfl, _⟩ | ⟨_, _, rfl, _, _⟩
        · exact ⟨_, _, _, rfl⟩
        · exact ⟨_, _, _, rfl⟩
      have hk8 : (k : Int) < (es.length : Int) := by omega
      have hS0 : w0.cell? ⟨g, k * 5, none⟩ = some (.slice xa xn xc) ∧ w0.cell? ⟨g, k * 5 + 1, none⟩ = some (.int .i64 e.el.first) ∧ w0.cell? ⟨g, k * 5 + 2, none⟩ = some (.int .i64 e.el.second) ∧ w0.cell? ⟨g, k * 5 + 3, none⟩ = some (.int .i64 e.el.third) ∧ w0.cell? ⟨g, k * 5 + 4, none⟩ = some (.bool e.el.varies) ∧ w0.cell? ⟨g', k * 5, none⟩ = some (.slice ya yn yc) ∧ w0.cell? ⟨g', k * 5 + 1, none⟩ = some (.int .i64 e.el.first) ∧ w0.cell? ⟨g', k * 5 + 2, none⟩ = some (.int .i64 e.el.second) ∧ w0.cell? ⟨g', k * 5 + 3, none⟩ = some (.int .i64 e.el.third) ∧ w0.cell? ⟨g', k * 5 + 4, none⟩ = some (.bool e.el.varies) ∧ Below w0.heap.size w0 w0 := ⟨a0, a1, a2, a3, a4, b0, b1, b2, b3, b4, Below.refl _ _⟩
      have hS := keep10 hg hg' hb hS0
      have hS2 := keep10 hg hg' ((Below.refl wr.heap.size wr).drew) hS
      have EQ := fun (u : World) (hu : u.cell? ⟨g, k * 5, none⟩ = some (.slice xa xn xc) ∧ u.cell? ⟨g, k * 5 + 1, none⟩ = some (.int .i64 e.el.first) ∧ u.cell? ⟨g, k * 5 + 2, none⟩ = some (.int .i64 e.el.second) ∧ u.cell? ⟨g, k * 5 + 3, none⟩ = some (.int .i64 e.el.third) ∧ u.cell? ⟨g, k * 5 + 4, none⟩ = some (.bool e.el.varies) ∧ u.cell? ⟨g', k * 5, none⟩ = some (.slice ya yn yc) ∧ u.cell? ⟨g', k * 5 + 1, none⟩ = some (.int .i64 e.el.first) ∧ u.cell? ⟨g', k * 5 + 2, none⟩ = some (.int .i64 e.el.second) ∧ u.cell? ⟨g', k * 5 + 3, none⟩ = some (.int .i64 e.el.third) ∧ u.cell? ⟨g', k * 5 + 4, none⟩ = some (.bool e.el.varies) ∧ Below w0.heap.size w0 u) => eqEnt_same e.el.first e.el.second e.el.third e.el.varies (hI.below hu.2.2.2.2.2.2.2.2.2.2) (hJ.below hu.2.2.2.2.2.2.2.2.2.2)
      have K := fun (u1 u2 : World) (hb : Below u1.heap.size u1 u2) (hu : u1.cell? ⟨g, k * 5, none⟩ = some (.slice xa xn xc) ∧ u1.cell? ⟨g, k * 5 + 1, none⟩ = some (.int .i64 e.el.first) ∧ u1.cell? ⟨g, k * 5 + 2, none⟩ = some (.int .i64 e.el.second) ∧ u1.cell? ⟨g, k * 5 + 3, none⟩ = some (.int .i64 e.el.third) ∧ u1.cell? ⟨g, k * 5 + 4, none⟩ = some (.bool e.el.varies) ∧ u1.cell? ⟨g', k * 5, none⟩ = some (.slice ya yn yc) ∧ u1.cell? ⟨g', k * 5 + 1, none⟩ = some (.int .i64 e.el.first) ∧ u1.cell? ⟨g', k * 5 + 2, none⟩ = some (.int .i64 e.el.second) ∧ u1.cell? ⟨g', k * 5 + 3, none⟩ = some (.int .i64 e.el.third) ∧ u1.cell? ⟨g', k * 5 + 4, none⟩ = some (.bool e.el.varies) ∧ Below w0.heap.size w0 u1) => keep10 hg hg' hb hu
      clear he h1 h2 a0 a1 a2 a3 a4 b0 b1 b2 b3 b4 hI hJ hS0
      go_wp2_with fail
      go_region_held (fun u => u.cell? ⟨g, k * 5, none⟩ = some (.slice xa xn xc) ∧ u.cell? ⟨g, k * 5 + 1, none⟩ = some (.int .i64 e.el.first) ∧ u.cell? ⟨g, k * 5 + 2, none⟩ = some (.int .i64 e.el.second) ∧ u.cell? ⟨g, k * 5 + 3, none⟩ = some (.int .i64 e.el.third) ∧ u.cell? ⟨g, k * 5 + 4, none⟩ = some (.bool e.el.varies) ∧ u.cell? ⟨g', k * 5, none⟩ = some (.slice ya yn yc) ∧ u.cell? ⟨g', k * 5 + 1, none⟩ = some (.int .i64 e.el.first) ∧ u.cell? ⟨g', k * 5 + 2, none⟩ = some (.int .i64 e.el.second) ∧ u.cell? ⟨g', k * 5 + 3, none⟩ = some (.int .i64 e.el.third) ∧ u.cell? ⟨g', k * 5 + 4, none⟩ = some (.bool e.el.varies) ∧ Below w0.heap.size w0 u)
        (first | exact hS2 | exact K _ _ (by assumption) (by assumption))
        (first | (go_at_call 44; refine (EQ _ (by assumption)).mono ?_; rintro e w' ⟨rfl, hbw⟩))
      all_goals
        have hE := (show w'.cell? ⟨g, k * 5, none⟩ = _ ∧ _ ∧ _ ∧ _ ∧ _ ∧ _ ∧ _ ∧ _ ∧ _ ∧ _ ∧ Below w0.heap.size w0 w' by assumption).2.2.2.2.2.2.2.2.2.2
        clear hS hS2 EQ K
        go_wp2
        exact ⟨⟨k + 1, by omega, by go_num, hE⟩, by simp [intOf]; omega⟩
    · go_wp2
      go_ret
      exact ⟨rfl, hb⟩

theorem eqEs_any {w : World} {B B' : Nat} {a b : Value} {es : List Ent} (hz : es.length ≤ 1048576) (ha : Ents w B a es) (hb : Ents w B' b es) :
    Calls Tryz.prog 25 #[a, b] w fun e w' => e = .returned (.bool true) ∧ Below w.heap.size w w' := by
  rcases ha.form with ⟨rfl, rfl⟩ | ⟨g, cap, rfl, h1, h2, _, _⟩
  · rcases hb.form with ⟨rfl, _⟩ | ⟨g', cap', rfl, _, _, _, _⟩
    · exact eqEs_none w _ _ _ _
    · exact eqEs_none w _ _ _ _
  · rcases hb.form with ⟨rfl, rfl⟩ | ⟨g', cap', rfl, _, _, _, _⟩
    · exact eqEs_none w _ _ _ _
    · exact eqEs_row w B B' g g' cap cap' es hz ha hb

set_option maxRecDepth 100000 in
set_option maxHeartbeats 2000000 in
theorem eqRules_same {w : World} {B B' : Nat} {a b : Value} {es : List Ent} (sh : Bool) (lv : Int) (hz : es.length ≤ 1048576) (ha : Ents w B a es) (hb : Ents w B' b es) :
    Calls Tryz.prog 9 #[.agg #[a, .bool sh, .int .i64 lv], .agg #[b, .bool sh, .int .i64 lv]] w fun e w' => e = .returned (.bool true) ∧ Below w.heap.size w w' := by
  obtain ⟨xa, xn, xc, rfl⟩ : ∃ xa xn xc, a = .slice xa xn xc := by
    rcases ha.form with ⟨rfl, _⟩ | ⟨_, _, rfl, _, _, _, _⟩
    · exact ⟨_, _, _, rfl⟩
    · exact ⟨_, _, _, rfl⟩
  obtain ⟨ya, yn, yc, rfl⟩ : ∃ ya yn yc, b = .slice ya yn yc := by
    rcases hb.form with ⟨rfl, _⟩ | ⟨_, _, rfl, _, _, _, _⟩
    · exact ⟨_, _, _, rfl⟩
    · exact ⟨_, _, _, rfl⟩
  have hw := ((Below.refl w.heap.size w).alloc (Nat.le_refl _) (.cells #[.slice xa xn xc, .bool sh, .int .i64 lv] 31)).alloc (by simp) (.cells #[.slice ya yn yc, .bool sh, .int .i64 lv] 31)
  have Q := eqEs_any hz (ha.below hw) (hb.below hw)
  have HX : Hid (_ ∧ _) := And.intro (show ((w.alloc (.cells #[.slice xa xn xc, .bool sh, .int .i64 lv] 31)).alloc (.cells #[.slice ya yn yc, .bool sh, .int .i64 lv] 31)).heap[w.heap.size]? = some (.cells #[.slice xa xn xc, .bool sh, .int .i64 lv] 31) by rw [Below.heap_alloc _ _ _ (by simp)]; exact heap_alloc_new w _) (heap_alloc2_new w (.cells #[.slice xa xn xc, .bool sh, .int .i64 lv] 31) (.cells #[.slice ya yn yc, .bool sh, .int .i64 lv] 31))
  have HB : Hid (Below _ _ _) := hw
  clear hw ha hb
  go_enter Tryz.func9, Tryz.ntmps9
  go_wp2_with fail
  refine Q.mono ?_
  rintro e w3 ⟨rfl, b3⟩
  have k1 : w3.heap[w.heap.size]? = some (.cells #[.slice xa xn xc, .bool sh, .int .i64 lv] 31) := by rw [b3.block _ (by simp; omega)]; exact HX.out.1
  have k2 : w3.heap[w.heap.size + 1]? = some (.cells #[.slice ya yn yc, .bool sh, .int .i64 lv] 31) := by rw [b3.block _ (by simp)]; exact HX.out.2
  have c1 := cell_of_row _ _ 1 _ _ _ k1
  have c2 := cell_of_row _ _ 2 _ _ _ k1
  have d1 := cell_of_row _ _ 1 _ _ _ k2
  have d2 := cell_of_row _ _ 2 _ _ _ k2
  have HC : Hid (Below _ _ _) := HB.out.trans (b3.mono HB.out.size)
  clear Q k1 k2 HX HB b3
  go_wp2
  go_ret
  exact ⟨rfl, HC.out⟩
end Go.Proofs.YtddelohmppdndaaGreatDoor

namespace Go.Proofs.YtddelohmppdndaaGreatDoor
open Go.RowKit

theorem endM_ge : ∀ (es : List Ent) (m : Int), m ≤ endM es m
  | [], _ => Int.le_refl _
  | e :: es, m => by
    have := endM_ge es (m + (e.runes.length : Int) + 1 + 1 + 1 + 1)
    unfold endM
    omega

theorem endM_szEs : ∀ (es : List Ent) (m left : Int), 0 ≤ left → 0 ≤ szEs es left → endM es m ≤ m + left + 4 * (es.length : Int)
  | [], m, left, h0, _ => by unfold endM; simp; omega
  | e :: es, m, left, h0, h => by
    unfold szEs at h
    split at h
    · omega
    · rename_i c
      have hb := szL_bd c
      rw [hb.1] at h
      have := endM_szEs es (m + (e.runes.length : Int) + 1 + 1 + 1 + 1) (left - (e.runes.length : Int)) hb.2 h
      unfold endM
      rw [List.length_cons]
      omega

theorem endM_szA {es : List Ent} {m left : Int} (h : 0 ≤ szA es left) : endM es m ≤ m + left + 4 * (es.length : Int) := by
  unfold szA at h
  split at h
  · omega
  · have := endM_szEs es m (left - (es.length : Int)) (by omega) h
    omega

def MRel1 (w : World) (B T : Nat) (v : Value) (es : List Ent) (m0 : Int) (kv i : Value) (wr : World) : Prop :=
  ∃ (j : Nat) (m : Int) (done : List Ent), j ≤ es.length ∧ i = .int .i64 j ∧ kv = .int .i64 m ∧ 0 ≤ m ∧ m ≤ endM es m0 ∧ done.length = j ∧ EntsD wr B T v (done ++ es.drop j) ∧
    done ++ markEs (es.drop j) m = markEs es m0 ∧ endM (es.drop j) m = endM es m0 ∧ Mid B T w wr

set_option maxRecDepth 100000 in
set_option maxHeartbeats 4000000 in
theorem markEs1_row (w : World) (B T g cap : Nat) (es : List Ent) (m0 : Int) (hm0 : 0 ≤ m0) (hm1 : endM es m0 ≤ 1073741824) (hz : es.length ≤ 1048576) (hE : EntsD w B T (.slice (some ⟨g, 0, none⟩) es.length cap) es) :
    Calls Tryz.prog 26 #[.slice (some ⟨g, 0, none⟩) es.length cap, .int .i64 m0] w fun e w' => e = .returned (.int .i64 (endM es m0)) ∧ EntsD w' B T (.slice (some ⟨g, 0, none⟩) es.length cap) (markEs es m0) ∧ Mid B T w w' := by
  go_enter Tryz.func26, Tryz.ntmps26
  go_wp2
  go_loopw [1, 5] (fun kv i wr => MRel1 w B T (.slice (some ⟨g, 0, none⟩) es.length cap) es m0 kv i wr) (fun _ i _ => es.length - (intOf i).toNat)
  case atStart => exact ⟨0, m0, [], Nat.zero_le _, rfl, rfl, hm0, endM_ge _ _, rfl, by simpa using hE, by simp, by simp, Mid.refl _ _ _⟩
  case round =>
    clear hE
    obtain ⟨j, m, done, hj, rfl, rfl, hmm0, hmm1, hdl, hED, hmk, hend, hbw⟩ := hrel
    have HMK : Hid _ := hmk
    have HEND : Hid _ := hend
    clear hmk hend
    by_cases hlt : j < es.length
    · obtain ⟨e, he⟩ : ∃ e, es[j]? = some e := ⟨_, List.getElem?_eq_getElem hlt⟩
      have hdr := ents_drop he
      have hge : m + (e.runes.length : Int) + 1 + 1 + 1 + 1 ≤ endM es m0 := by
        rw [← HEND.out, hdr]
        exact endM_ge _ _
      have hlen : (done ++ es.drop j).length = es.length := by rw [List.length_append, hdl, List.length_drop]; omega
      have hat : (done ++ es.drop j)[j]? = some e := by rw [List.getElem?_append_right (by omega), hdl, Nat.sub_self, hdr]; rfl
      obtain ⟨xs, hxl, h1, h2, h3, h4, h5⟩ := hED
      obtain ⟨x, hx, hI⟩ := h2 j e hat
      rw [hlen] at h1
      obtain ⟨xa, xn, xc, rfl⟩ : ∃ xa xn xc, x = .slice xa xn xc := by
        rcases hI.form with ⟨rfl, _⟩ | ⟨_, _, rfl, _, _⟩
        · exact ⟨_, _, _, rfl⟩
        · exact ⟨_, _, _, rfl⟩
      have at' : ∀ i, i < 5 → wr.cell? ⟨g, j * 5 + i, none⟩ = (entC (.slice xa xn xc) e.el)[i]? := fun i hi => by
        rw [World.ownsRow.cellAt h1 (j * 5 + i) (by omega), entAll_at xs _ j i _ e hx hat hi]
      have a0 : wr.cell? ⟨g, j * 5, none⟩ = some (.slice xa xn xc) := at' 0 (by omega)
      have hj8 : (j : Int) < (es.length : Int) := by omega
      have MK := markK_any (m := m) hmm0 (by omega) (by omega) hI
      obtain ⟨M, hM⟩ : ∃ M, M = m + (e.runes.length : Int) := ⟨_, rfl⟩
      rw [← hM] at MK
      have hMb : 0 ≤ M ∧ M ≤ 1073741824 := by omega
      obtain ⟨hMb0, hMb1⟩ := hMb
      have HM : Hid _ := hM
      have HX : Hid _ := hx
      have HE : Hid _ := he
      have HDR : Hid _ := hdr
      have HLEN : Hid _ := hlen
      have HAT : Hid _ := hat
      have H1 : Hid _ := h1
      have H2 : Hid _ := h2
      have H3 : Hid _ := h3
      have H4 : Hid (g < T) := h4 g rfl
      have H5 : Hid _ := h5
      have HXL : Hid _ := hxl
      have HI : Hid (Ints _ _ _ _) := hI
      clear hM hx he hdr hlen hat h1 h2 h3 h4 h5 hxl hI at'
      go_wp2_with fail
      refine MK.mono ?_
      rintro e' w3 ⟨rfl, i3, g3⟩
      have k1 := World.ownsRow.kept H1.out g3 (own_type H1.out HI.out (by decide))
      have at3 : ∀ i, i < 5 → w3.cell? ⟨g, j * 5 + i, none⟩ = (entC (.slice xa xn xc) e.el)[i]? := fun i hi => by
        rw [World.ownsRow.cellAt k1 (j * 5 + i) (by omega), entAll_at xs _ j i _ e HX.out HAT.out hi]
      have c1 : w3.cell? ⟨g, j * 5 + 1, none⟩ = some (.int .i64 e.el.first) := at3 1 (by omega)
      have c2 : w3.cell? ⟨g, j * 5 + 2, none⟩ = some (.int .i64 e.el.second) := at3 2 (by omega)
      have c3 : w3.cell? ⟨g, j * 5 + 3, none⟩ = some (.int .i64 e.el.third) := at3 3 (by omega)
      have c4 : w3.cell? ⟨g, j * 5 + 4, none⟩ = some (.bool e.el.varies) := at3 4 (by omega)
      have f1 := k1.frozenAt (j * 5 + 1)
      have f2 := k1.frozenAt (j * 5 + 2)
      have f3 := k1.frozenAt (j * 5 + 3)
      have f4 := k1.frozenAt (j * 5 + 4)
      have hD := entsD_mark (el := mkR M) HLEN.out HXL.out H1.out H2.out H3.out H4.out H5.out hlt HX.out (.inr ⟨_, HI.out⟩) i3 g3
      have hset : (done ++ es.drop j).set j ⟨seqK m e.runes.length, mkR M⟩ = (done ++ [⟨seqK m e.runes.length, mkR M⟩]) ++ es.drop (j + 1) := by
        rw [List.set_append_right _ _ (by omega), hdl, Nat.sub_self, HDR.out, List.set_cons_zero]; simp
      rw [hset] at hD
      have hgB := (World.ownsRow.lt H1.out g rfl).1
      have hb3 : Mid B T w w3 := hbw.grown g3 (fun jj hjj => ⟨(World.ownsRow.lt HI.out jj hjj).1, H5.out j _ jj HX.out hjj⟩)
      have hb4 : Mid B T w (set4 w3 g (j * 5) (mkR M)) := hb3.grown (set4_grown w3 g (j * 5) (mkR M)) (fun jj hjj => by cases hjj; exact ⟨hgB, H4.out⟩)
      have HD : Hid (EntsD _ _ _ _ _) := hD
      have HB4 : Hid (Mid _ _ _ _) := hb4
      have HMK2 : Hid ((done ++ [⟨seqK m e.runes.length, mkR M⟩]) ++ markEs (es.drop (j + 1)) (M + 1 + 1 + 1 + 1) = markEs es m0) := by
        show _ = _
        rw [← HMK.out, HDR.out, HM.out]
        simp [markEs]
      have HEND2 : Hid (endM (es.drop (j + 1)) (M + 1 + 1 + 1 + 1) = endM es m0) := by
        show _ = _
        rw [← HEND.out, HDR.out, HM.out]
        rfl
      have HBD : Hid (M + 1 + 1 + 1 + 1 ≤ endM es m0) := by show _ ≤ _; have := HM.out; omega
      have HDL : Hid ((done ++ [(⟨seqK m e.runes.length, mkR M⟩ : Ent)]).length = j + 1) := by show _ = _; simp [hdl]
      clear MK k1 at3 hD hset hb3 hb4 HMK HEND HM HX HE HDR HLEN HAT H1 H2 H3 H4 H5 HXL HI i3 g3 a0 hdl
      go_wp2
      exact ⟨⟨j + 1, M + 1 + 1 + 1 + 1, _, hlt, by go_num, rfl, by omega, HBD.out, HDL.out, HD.out, HMK2.out, HEND2.out, HB4.out⟩, by simp [intOf]; omega⟩
    · have hjz : j = es.length := by omega
      subst hjz
      have e1 : es.drop es.length = [] := List.drop_length
      have HF : Hid (m = endM es m0) := by show _ = _; rw [← HEND.out, e1]; rfl
      have HG : Hid (done = markEs es m0) := by show _ = _; rw [← HMK.out, e1]; simp [markEs]
      rw [e1, List.append_nil] at hED
      clear HMK HEND e1
      go_wp2
      go_ret
      rw [← HF.out, ← HG.out]
      exact ⟨rfl, hED, hbw⟩

theorem markEs1_any {w : World} {B T : Nat} {v : Value} {es : List Ent} {m0 : Int} (hm0 : 0 ≤ m0) (hm1 : endM es m0 ≤ 1073741824) (hz : es.length ≤ 1048576) (hE : EntsD w B T v es) :
    Calls Tryz.prog 26 #[v, .int .i64 m0] w fun e w' => e = .returned (.int .i64 (endM es m0)) ∧ EntsD w' B T v (markEs es m0) ∧ Mid B T w w' := by
  rcases hE.ents.form with ⟨rfl, rfl⟩ | ⟨g, cap, rfl, _, _, _, _⟩
  · refine (markEs_none w _ _ m0).mono ?_
    rintro e w' ⟨rfl, rfl⟩
    exact ⟨rfl, hE, Mid.refl _ _ _⟩
  · exact markEs1_row w B T g cap es m0 hm0 hm1 hz hE

set_option maxRecDepth 100000 in
set_option maxHeartbeats 1000000 in
theorem markRules1_any {w : World} {B T : Nat} {v : Value} {es : List Ent} {m0 : Int} (sh : Bool) (lv : Int) (hm0 : 0 ≤ m0) (hm1 : endM es m0 ≤ 1073741824) (hz : es.length ≤ 1048576) (hE : EntsD w B T v es) :
    Calls Tryz.prog 10 #[.agg #[v, .bool sh, .int .i64 lv], .int .i64 m0] w fun e w' => e = .returned (.int .i64 (endM es m0)) ∧ EntsD w' B T v (markEs es m0) ∧ Mid B T w w' := by
  obtain ⟨xa, xn, xc, rfl⟩ : ∃ xa xn xc, v = .slice xa xn xc := by
    rcases hE.ents.form with ⟨rfl, _⟩ | ⟨_, _, rfl, _, _, _, _⟩
    · exact ⟨_, _, _, rfl⟩
    · exact ⟨_, _, _, rfl⟩
  have hb := (Below.refl w.heap.size w).alloc (Nat.le_refl _) (.cells #[.slice xa xn xc, .bool sh, .int .i64 lv] 31)
  have M := markEs1_any (m0 := m0) hm0 hm1 hz (hE.below hb)
  have HB : Hid (Mid B T _ _) := Mid.of hb
  clear hb hE
  go_enter Tryz.func10, Tryz.ntmps10
  go_wp2_with fail
  refine M.mono ?_
  rintro e w3 ⟨rfl, i3, b3⟩
  clear M
  go_wp2
  go_ret
  exact ⟨rfl, i3, HB.out.trans b3⟩

end Go.Proofs.YtddelohmppdndaaGreatDoor

namespace Go.Proofs.YtddelohmppdndaaGreatDoor
open Go.RowKit

theorem Elems.mid {w w' : World} {B T B' : Nat} {v : Value} {es : List El} (h : Elems w B' v es) (hm : Mid B T w w') (ha : ∀ g, v.ownBlock = some g → g < B ∨ T ≤ g) : Elems w' B' v es := by
  refine ⟨h.1, ?_⟩
  rcases h.2 with h2 | ⟨g, cap, cur, h1, h2, h3, h4⟩
  · exact .inl h2
  · refine .inr ⟨g, cap, cur, h1, h2, ?_, h4⟩
    rw [hm.block g (Array.getElem?_eq_some_iff.1 h3).1 (ha g (by rw [h1]; rfl))]; exact h3

theorem Ints.mid {w w' : World} {B T B' : Nat} {v : Value} {l : List Int} (h : Ints w B' v l) (hm : Mid B T w w') (ha : ∀ g, v.ownBlock = some g → g < B ∨ T ≤ g) : Ints w' B' v l := by
  refine ⟨h.1, ?_⟩
  rcases h.2 with h2 | ⟨g, cap, cur, h1, h2, h3, h4⟩
  · exact .inl h2
  · refine .inr ⟨g, cap, cur, h1, h2, ?_, h4⟩
    rw [hm.block g (Array.getElem?_eq_some_iff.1 h3).1 (ha g (by rw [h1]; rfl))]; exact h3

theorem row_apart {w w' : World} {B B' n n' k k' : Nat} {t t' : TypeId} {v v' : Value} {l l' : List Value} (h : w.ownsRow B t k v n l) (h' : w'.ownsRow B' t' k' v' n' l') (hB : w.heap.size ≤ B') : v.ownBlock = none ∨ v.ownBlock ≠ v'.ownBlock := by
  cases c : v.ownBlock with
  | none => exact .inl rfl
  | some j =>
    refine .inr fun e => ?_
    have l1 := (World.ownsRow.lt h j c).2
    have l2 := (World.ownsRow.lt h' j e.symm).1
    omega
end Go.Proofs.YtddelohmppdndaaGreatDoor

namespace Go.Proofs.YtddelohmppdndaaGreatDoor
open Go.RowKit

/-- A block and what it holds. -/
def Blk (w : World) (g : Nat) (cs : Array Value) (t : TypeId) : Prop := w.heap[g]? = some (.cells cs t)
theorem Blk.below {w w' : World} {g : Nat} {cs : Array Value} {t : TypeId} (h : Blk w g cs t) (hb : Below w.heap.size w w') : Blk w' g cs t := by
  unfold Blk
  rw [hb.block g (Array.getElem?_eq_some_iff.1 h).1]; exact h
theorem Blk.three {w : World} {g : Nat} {x y z : Value} {t : TypeId} (h : Blk w g #[x, y, z] t) : w.cell? ⟨g, 0, none⟩ = some x ∧ w.cell? ⟨g, 1, none⟩ = some y ∧ w.cell? ⟨g, 2, none⟩ = some z :=
  ⟨cell_of_row _ _ 0 _ _ _ h, cell_of_row _ _ 1 _ _ _ h, cell_of_row _ _ 2 _ _ _ h⟩
theorem Blk.lt {w : World} {g : Nat} {cs : Array Value} {t : TypeId} (h : Blk w g cs t) : g < w.heap.size := (Array.getElem?_eq_some_iff.1 h).1

theorem Ents.slice {w : World} {B : Nat} {v : Value} {es : List Ent} (h : Ents w B v es) : ∃ a n c, v = .slice a n c := by
  rcases h.form with ⟨rfl, _⟩ | ⟨_, _, rfl, _, _, _, _⟩
  · exact ⟨_, _, _, rfl⟩
  · exact ⟨_, _, _, rfl⟩

/-- What stands in the last region: the two boxes. -/
theorem keep6 {w0 w1 w2 : World} {g g' : Nat} {x y z x' y' z' : Value} (hg : g < w0.heap.size) (hg' : g' < w0.heap.size) (hb : Below w1.heap.size w1 w2)
    (h : w1.cell? ⟨g, 0, none⟩ = some x ∧ w1.cell? ⟨g, 1, none⟩ = some y ∧ w1.cell? ⟨g, 2, none⟩ = some z ∧ w1.cell? ⟨g', 0, none⟩ = some x' ∧ w1.cell? ⟨g', 1, none⟩ = some y' ∧ w1.cell? ⟨g', 2, none⟩ = some z' ∧ Below w0.heap.size w0 w1) :
    w2.cell? ⟨g, 0, none⟩ = some x ∧ w2.cell? ⟨g, 1, none⟩ = some y ∧ w2.cell? ⟨g, 2, none⟩ = some z ∧ w2.cell? ⟨g', 0, none⟩ = some x' ∧ w2.cell? ⟨g', 1, none⟩ = some y' ∧ w2.cell? ⟨g', 2, none⟩ = some z' ∧ Below w0.heap.size w0 w2 := by
  obtain ⟨a0, a1, a2, b0, b1, b2, h3⟩ := h
  have q1 : g < w1.heap.size := Nat.lt_of_lt_of_le hg h3.size
  have q2 : g' < w1.heap.size := Nat.lt_of_lt_of_le hg' h3.size
  exact ⟨by rw [hb.cell q1]; exact a0, by rw [hb.cell q1]; exact a1, by rw [hb.cell q1]; exact a2, by rw [hb.cell q2]; exact b0, by rw [hb.cell q2]; exact b1, by rw [hb.cell q2]; exact b2, h3.trans (hb.mono h3.size)⟩
end Go.Proofs.YtddelohmppdndaaGreatDoor

namespace Go.Proofs.YtddelohmppdndaaGreatDoor
open Go.RowKit

theorem Blk.mid {w w' : World} {g B T : Nat} {cs : Array Value} {t : TypeId} (h : Blk w g cs t) (hm : Mid B T w w') (hg : g < B ∨ T ≤ g) : Blk w' g cs t := by
  unfold Blk
  rw [hm.block g (Array.getElem?_eq_some_iff.1 h).1 hg]; exact h
end Go.Proofs.YtddelohmppdndaaGreatDoor

namespace Go.Proofs.YtddelohmppdndaaGreatDoor
open Go.RowKit

theorem Spans.mid {w w' : World} {B T B' : Nat} {v : Value} {ps : List (Int × Int)} (h : Spans w B' v ps) (hm : Mid B T w w') (ha : ∀ g, v.ownBlock = some g → g < B ∨ T ≤ g) : Spans w' B' v ps := by
  refine ⟨h.1, ?_⟩
  rcases h.2 with h2 | ⟨g, cap, cur, h1, h2, h3, h4⟩
  · exact .inl h2
  · refine .inr ⟨g, cap, cur, h1, h2, ?_, h4⟩
    rw [hm.block g (Array.getElem?_eq_some_iff.1 h3).1 (ha g (by rw [h1]; rfl))]; exact h3

theorem findA_len (es : List Ent) (sh : Bool) (lv : Int) (s t : ByteArray) : (findA es sh lv s t).length ≤ 60 := by
  unfold findA
  split
  · rename_i h
    unfold okF at h
    rw [Bool.and_eq_true] at h
    exact of_decide_eq_true h.2
  · exact Nat.zero_le _

set_option maxRecDepth 100000 in
set_option maxHeartbeats 8000000 in
theorem findText_walk (w : World) (a : Option Addr) (len cap : Nat) (es : List Ent) (sh : Bool) (lv : Int) (s t : ByteArray) (hs : s.size ≤ maxLen) (ht : t.size ≤ maxLen) (hA : ArgEnts w a len cap es)
    (I : ∀ (u : World) (B : Nat) (v : Value), Below w.heap.size w u → Ents u B v es → (∀ e ∈ es, e.runes.length ≤ 1048576) → s.size ≤ 1048576 → t.size ≤ 1048576 → Calls Tryz.prog 7 #[.agg #[v, .bool sh, .int .i64 lv], .string s, .string t] u fun e w' => ∃ v', e = .returned (.tuple #[v', .bool (okF es sh lv s t)]) ∧ Spans w' u.heap.size v' (findA es sh lv s t) ∧ Below u.heap.size u w') :
    Calls Tryz.prog 3 #[.agg #[.slice a len cap, .bool sh, .int .i64 lv], .string s, .string t] w fun e w' => e = .returned (.bool true) ∧ Below w.heap.size w w' := by
  unfold maxLen at hs
  unfold maxLen at ht
  have hb1 := (Below.refl w.heap.size w).alloc (Nat.le_refl _) (.cells #[.slice a len cap, .bool sh, .int .i64 lv] 24)
  have hx1 : Blk (w.alloc (.cells #[.slice a len cap, .bool sh, .int .i64 lv] 24)) w.heap.size #[.slice a len cap, .bool sh, .int .i64 lv] 24 := heap_alloc_new _ _
  have S := szRules_any w _ a len cap es sh lv 1048576 (by omega) (by omega) hA hb1
  have HA : Hid (ArgEnts w a len cap es) := hA
  have HI : Hid _ := I
  have HB1 : Hid (Below _ _ _) := hb1
  have HX1 : Hid (Blk _ _ _ _) := hx1
  clear hA I hb1 hx1
  by_cases hls : 1048576 < s.size
  · have hl2s : (1048576 : Int) < (s.size : Int) := by omega
    clear S
    go_enter Tryz.func3, Tryz.ntmps3
    go_wp2
    go_ret
    exact ⟨rfl, HB1.out⟩
  have hl2s : ¬ (1048576 : Int) < (s.size : Int) := by omega
  by_cases hlt : 1048576 < t.size
  · have hl2t : (1048576 : Int) < (t.size : Int) := by omega
    clear S
    go_enter Tryz.func3, Tryz.ntmps3
    go_wp2
    go_ret
    exact ⟨rfl, HB1.out⟩
  have hl2t : ¬ (1048576 : Int) < (t.size : Int) := by omega
  by_cases hneg : szA es 1048576 < 0
  · generalize szA es 1048576 = sz at *
    go_enter Tryz.func3, Tryz.ntmps3
    go_wp2_with fail
    refine S.mono ?_
    rintro e w2 ⟨rfl, b2⟩
    clear S
    go_wp2
    go_ret
    exact ⟨rfl, HB1.out.trans (b2.mono HB1.out.size)⟩
  · have hbd := szA_bd (es := es) (left := 1048576) (by omega)
    have hem := endM_szA (es := es) (m := 1) (left := 1048576) (by omega)
    have hle : len ≤ 1048576 := by have := HA.out.1; omega
    have HR : Hid (∀ e ∈ es, e.runes.length ≤ 1048576) := fun e he => by have := hbd.2 e he; omega
    have hel : es.length ≤ 1048576 := by omega
    have hpos := endM_ge es 1
    obtain ⟨en, HEN⟩ : ∃ en, Hid (endM es 1 = en) := ⟨_, rfl⟩
    rw [HEN.out] at hem hpos
    have hpos2 : ¬ en < 0 := by omega
    clear hbd
    generalize szA es 1048576 = sz at *
    have T := fun (u : World) (hu : Below w.heap.size w u) => toRules_any w u a len cap es sh lv HA.out hu hle HR.out
    have TD := fun (u : World) (hu : Below w.heap.size w u) => toRulesD_any w u a len cap es sh lv HA.out hu hle HR.out
    have A0 := fun (u : World) (B : Nat) (v : Value) (h : Ents u B v es) => specFind_any (sh := sh) (lv := lv) s (by omega) t (by omega) h HR.out
    have I0 := fun (u : World) (B : Nat) (v : Value) (hu : Below w.heap.size w u) (h : Ents u B v es) => HI.out u B v hu h HR.out (by omega) (by omega)
    have hll := findA_len es sh lv s t
    generalize findA es sh lv s t = el at *
    generalize okF es sh lv s t = ok at *
    have HA0 : Hid _ := A0
    have HI0 : Hid _ := I0
    clear A0 I0 HI
    go_enter Tryz.func3, Tryz.ntmps3
    go_wp2_with fail
    refine S.mono ?_
    rintro e w2 ⟨rfl, b2⟩
    clear S
    have HX2 : Hid (Blk _ _ _ _) := HX1.out.below b2
    have HB2 : Hid (Below _ _ _) := HB1.out.trans (b2.mono HB1.out.size)
    obtain ⟨p0, p1, p2⟩ := HX2.out.three
    clear HX1 HB1 b2
    go_wp2_with fail
    refine (T _ HB2.out).mono ?_
    rintro e w3 ⟨g3, rfl, i3, b3⟩
    have HX3 : Hid (Blk _ _ _ _) := HX2.out.below b3
    have HB3 : Hid (Below _ _ _) := HB2.out.trans (b3.mono HB2.out.size)
    have A := HA0.out _ _ _ i3
    clear p0 p1 p2 HX2 HB2 b3 i3 HA0
    go_wp2_with fail
    refine A.mono ?_
    rintro e w4 ⟨v4, rfl, r4, b4⟩
    have HX4 : Hid (Blk _ _ _ _) := HX3.out.below b4
    have HB4 : Hid (Below _ _ _) := HB3.out.trans (b4.mono HB3.out.size)
    have HXL : Hid (w.heap.size < w4.heap.size) := HX4.out.lt
    have H44 : Hid (Spans w4 w3.heap.size v4 el) := r4
    obtain ⟨p0, p1, p2⟩ := HX4.out.three
    clear A HX3 HB3 b4 r4
    go_wp2_with fail
    refine (TD _ HB4.out).mono ?_
    rintro e w5 ⟨g5, rfl, d5, b5⟩
    have b56 := (Below.refl w5.heap.size w5).alloc (Nat.le_refl _) (.cells #[.slice (some ⟨g5, 0, none⟩) len len, .bool sh, .int .i64 lv] 31)
    have HX6 : Hid (Blk _ _ _ _) := (HX4.out.below b5).below b56
    have HY6 : Hid (Blk (w5.alloc (.cells #[.slice (some ⟨g5, 0, none⟩) len len, .bool sh, .int .i64 lv] 31)) w5.heap.size #[.slice (some ⟨g5, 0, none⟩) len len, .bool sh, .int .i64 lv] 31) := heap_alloc_new _ _
    have H45 : Hid (Below w4.heap.size w4 w5) := b5
    have H46 : Hid (Below _ _ _) := b5.trans (b56.mono b5.size)
    have HB5 := HB4.out.trans (b5.mono HB4.out.size)
    have HB6 : Hid (Below _ _ _) := HB5.trans (b56.mono HB5.size)
    have D6 : Hid (EntsD _ _ _ _ _) := d5.below b56
    have HS6 : Hid (w5.heap.size < (w5.alloc (.cells #[.slice (some ⟨g5, 0, none⟩) len len, .bool sh, .int .i64 lv] 31)).heap.size) := by show _ < _; simp
    have G := HI0.out _ _ _ HB6.out D6.out.ents
    clear p0 p1 p2 HX4 b5 b56 d5 HB5
    go_wp2_with fail
    refine G.mono ?_
    rintro e w7 ⟨v7, rfl, r7, b7⟩
    have HX7 : Hid (Blk _ _ _ _) := HX6.out.below b7
    have HY7 : Hid (Blk _ _ _ _) := HY6.out.below b7
    have HB7 : Hid (Below _ _ _) := HB6.out.trans (b7.mono HB6.out.size)
    have D7 : Hid (EntsD _ _ _ _ _) := D6.out.below b7
    have H47 : Hid (Below _ _ _) := H46.out.trans (b7.mono H46.out.size)
    have H77 : Hid (Spans _ _ v7 el) := r7
    have E7 := eqP_any (by omega) r7 (H44.out.below H47.out)
    have HA7 : Hid (∀ g, v7.ownBlock = some g → g < w4.heap.size ∨ w5.heap.size ≤ g) := fun g hg => .inr (by have := (World.ownsRow.lt r7 g hg).1; have := HS6.out; omega)
    have HA4 : Hid (∀ g, v4.ownBlock = some g → g < w4.heap.size ∨ w5.heap.size ≤ g) := fun g hg => .inl (World.ownsRow.lt H44.out g hg).2
    have HP47 : Hid (v4.ownBlock = none ∨ v4.ownBlock ≠ v7.ownBlock) := row_apart H44.out r7 H46.out.size
    have HX7L : Hid (∀ g, v7.ownBlock = some g → w4.heap.size ≤ g) := fun g hg => by have := (World.ownsRow.lt r7 g hg).1; have := H46.out.size; omega
    have HG7 : Hid (∀ g, v7.ownBlock = some g → w.heap.size ≤ g) := fun g hg => by have := (World.ownsRow.lt r7 g hg).1; have := HB6.out.size; omega
    clear G HX6 HY6 HB6 D6 b7 r7 H46
    go_wp2_with fail
    refine E7.mono ?_
    rintro e w8 ⟨rfl, b8⟩
    have hx7 := HX7.out.below b8
    have hy7 := HY7.out.below b8
    have HB8 : Hid (Below _ _ _) := HB7.out.trans (b8.mono HB7.out.size)
    have D8 : Hid (EntsD _ _ _ _ _) := D7.out.below b8
    have H48 : Hid (Below _ _ _) := H47.out.trans (b8.mono H47.out.size)
    have H78 : Hid (Spans _ _ v7 el) := H77.out.below b8
    obtain ⟨p0, p1, p2⟩ := hx7.three
    obtain ⟨q0, q1, q2⟩ := hy7.three
    have hgx := hx7.lt
    have hgy := hy7.lt
    have HX8 : Hid (Blk _ _ _ _) := hx7
    have HY8 : Hid (Blk _ _ _ _) := hy7
    have hS : w8.cell? ⟨w.heap.size, 0, none⟩ = some (.slice a len cap) ∧ w8.cell? ⟨w.heap.size, 1, none⟩ = some (.bool sh) ∧ w8.cell? ⟨w.heap.size, 2, none⟩ = some (.int .i64 lv) ∧ w8.cell? ⟨w5.heap.size, 0, none⟩ = some (.slice (some ⟨g5, 0, none⟩) len len) ∧ w8.cell? ⟨w5.heap.size, 1, none⟩ = some (.bool sh) ∧ w8.cell? ⟨w5.heap.size, 2, none⟩ = some (.int .i64 lv) ∧ Below w8.heap.size w8 w8 := ⟨p0, p1, p2, q0, q1, q2, Below.refl _ _⟩
    have hS2 := keep6 hgx hgy ((Below.refl w8.heap.size w8).drew) hS
    have K := fun (u1 u2 : World) (hb : Below u1.heap.size u1 u2) (hu : u1.cell? ⟨w.heap.size, 0, none⟩ = some (.slice a len cap) ∧ u1.cell? ⟨w.heap.size, 1, none⟩ = some (.bool sh) ∧ u1.cell? ⟨w.heap.size, 2, none⟩ = some (.int .i64 lv) ∧ u1.cell? ⟨w5.heap.size, 0, none⟩ = some (.slice (some ⟨g5, 0, none⟩) len len) ∧ u1.cell? ⟨w5.heap.size, 1, none⟩ = some (.bool sh) ∧ u1.cell? ⟨w5.heap.size, 2, none⟩ = some (.int .i64 lv) ∧ Below w8.heap.size w8 u1) => keep6 hgx hgy hb hu
    have T2 := fun (u : World) (hu : u.cell? ⟨w.heap.size, 0, none⟩ = some (.slice a len cap) ∧ u.cell? ⟨w.heap.size, 1, none⟩ = some (.bool sh) ∧ u.cell? ⟨w.heap.size, 2, none⟩ = some (.int .i64 lv) ∧ u.cell? ⟨w5.heap.size, 0, none⟩ = some (.slice (some ⟨g5, 0, none⟩) len len) ∧ u.cell? ⟨w5.heap.size, 1, none⟩ = some (.bool sh) ∧ u.cell? ⟨w5.heap.size, 2, none⟩ = some (.int .i64 lv) ∧ Below w8.heap.size w8 u) => T u (HB8.out.trans (hu.2.2.2.2.2.2.mono HB8.out.size))
    have EQ := fun (u : World) (B : Nat) (g : Nat) (hu : u.cell? ⟨w.heap.size, 0, none⟩ = some (.slice a len cap) ∧ u.cell? ⟨w.heap.size, 1, none⟩ = some (.bool sh) ∧ u.cell? ⟨w.heap.size, 2, none⟩ = some (.int .i64 lv) ∧ u.cell? ⟨w5.heap.size, 0, none⟩ = some (.slice (some ⟨g5, 0, none⟩) len len) ∧ u.cell? ⟨w5.heap.size, 1, none⟩ = some (.bool sh) ∧ u.cell? ⟨w5.heap.size, 2, none⟩ = some (.int .i64 lv) ∧ Below w8.heap.size w8 u) (he : Ents u B (.slice (some ⟨g, 0, none⟩) len len) es) => eqRules_same sh lv hel (D8.out.ents.below hu.2.2.2.2.2.2) he
    have HT : Hid _ := T
    clear E7 HX7 HY7 HB7 D7 H47 H77 b8 hx7 hy7 T TD p0 p1 p2 q0 q1 q2
    go_wp2_with fail
    go_region_held (fun u => u.cell? ⟨w.heap.size, 0, none⟩ = some (.slice a len cap) ∧ u.cell? ⟨w.heap.size, 1, none⟩ = some (.bool sh) ∧ u.cell? ⟨w.heap.size, 2, none⟩ = some (.int .i64 lv) ∧ u.cell? ⟨w5.heap.size, 0, none⟩ = some (.slice (some ⟨g5, 0, none⟩) len len) ∧ u.cell? ⟨w5.heap.size, 1, none⟩ = some (.bool sh) ∧ u.cell? ⟨w5.heap.size, 2, none⟩ = some (.int .i64 lv) ∧ Below w8.heap.size w8 u)
      (first | exact hS2 | exact K _ _ (by assumption) (by assumption))
      (first | (go_at_call 6; refine (T2 _ (by assumption)).mono ?_; rintro e w' ⟨g, rfl, hEn, hbw⟩) | (go_at_call 9; refine (EQ _ _ _ (by assumption) (by assumption)).mono ?_; rintro e w' ⟨rfl, hbw⟩))
    all_goals
      have hE := (show w'.cell? ⟨w.heap.size, 0, none⟩ = _ ∧ _ ∧ _ ∧ _ ∧ _ ∧ _ ∧ Below w8.heap.size w8 w' by assumption).2.2.2.2.2.2
      clear hS hS2 EQ K T2
      have HX9 : Hid (Blk _ _ _ _) := HX8.out.below hE
      have HY9 : Hid (Blk _ _ _ _) := HY8.out.below hE
      have HB9 : Hid (Below _ _ _) := HB8.out.trans (hE.mono HB8.out.size)
      have D9 : Hid (EntsD _ _ _ _ _) := D8.out.below hE
      have H49 : Hid (Below _ _ _) := H48.out.trans (hE.mono H48.out.size)
      have H79 : Hid (Spans _ _ v7 el) := H78.out.below hE
      have M9 := markRules1_any (m0 := 1) sh lv (by omega) (by rw [HEN.out]; omega) hel D9.out
      rw [HEN.out] at M9
      obtain ⟨q0, q1, q2⟩ := HY9.out.three
      clear HX8 HY8 HB8 D8 H48 H78 hE
      go_wp2_with fail
      refine M9.mono ?_
      rintro e w10 ⟨rfl, _, m10⟩
      have hB9 : w4.heap.size ≤ w'.heap.size := H49.out.size
      have b10 := m10.below hB9
      have HX10 : Hid (Blk _ _ _ _) := HX9.out.mid m10 (.inl HXL.out)
      have HB10 : Hid (Below _ _ _) := HB9.out.trans (b10.mono HB4.out.size)
      have H410 : Hid (Spans w10 w3.heap.size v4 el) := (H44.out.below H49.out).mid m10 HA4.out
      have H710 : Hid (Spans w10 _ v7 el) := H79.out.mid m10 HA7.out
      have E10 := eqP_any (by omega) H710.out H410.out
      clear M9 HX9 HY9 HB9 D9 H49 H79 m10 b10 q0 q1 q2 hB9
      go_wp2_with fail
      refine E10.mono ?_
      rintro e w11 ⟨rfl, b11⟩
      have HX11 : Hid (Blk _ _ _ _) := HX10.out.below b11
      have HB11 : Hid (Below _ _ _) := HB10.out.trans (b11.mono HB10.out.size)
      have H411 : Hid (Spans w11 w3.heap.size v4 el) := H410.out.below b11
      have H711 : Hid (Spans w11 _ v7 el) := H710.out.below b11
      have M11 := markP_any (k0 := 1) (by omega) (by omega) (by omega) H711.out
      clear E10 HX10 HB10 H410 H710 b11
      go_wp2_with fail
      refine M11.mono ?_
      rintro e w12 ⟨rfl, r12, g12⟩
      have HX12 : Hid (Blk w12 w.heap.size #[.slice a len cap, .bool sh, .int .i64 lv] 24) := by
        show w12.heap[w.heap.size]? = _
        rw [g12.block w.heap.size HX11.out.lt (fun c => by rcases HA7.out _ c.symm with h | h <;> have := HXL.out <;> have := HX7L.out _ c.symm <;> omega)]
        exact HX11.out
      have HB12 : Hid (Below w.heap.size w w12) := Below.grown HB11.out g12 HB11.out.size (fun g hg => HG7.out g hg)
      have H412 : Hid (Spans w12 w3.heap.size v4 el) := World.ownsRow.kept H411.out g12 HP47.out
      have H712 : Hid (Spans w12 _ v7 (marksP el 1 el.length)) := r12
      have L12 := heldP_any (k0 := 1) (by omega) (by omega) (by omega) r12
      have hq8 : ¬ (1 + 2 * (el.length : Int) < 0) := by omega
      clear M11 HX11 HB11 H411 H711 r12 g12
      go_wp2_with fail
      refine L12.mono ?_
      rintro e w13 ⟨rfl, hw13⟩
      obtain rfl : w12 = w13 := hw13.symm
      clear L12
      obtain ⟨p0, p1, p2⟩ := HX12.out.three
      go_wp2_with fail
      refine (HT.out _ HB12.out).mono ?_
      rintro e w14 ⟨g14, rfl, i14, b14⟩
      have HB14 : Hid (Below _ _ _) := HB12.out.trans (b14.mono HB12.out.size)
      have H414 : Hid (Spans w14 w3.heap.size v4 el) := H412.out.below b14
      have H714 : Hid (Spans w14 _ v7 (marksP el 1 el.length)) := H712.out.below b14
      have G14 := HI0.out _ _ _ HB14.out i14
      clear p0 p1 p2 HX12 HB12 H412 H712 b14 i14 HT HI0
      go_wp2_with fail
      refine G14.mono ?_
      rintro e w15 ⟨v15, rfl, r15, b15⟩
      have HB15 : Hid (Below _ _ _) := HB14.out.trans (b15.mono HB14.out.size)
      have H415 : Hid (Spans w15 w3.heap.size v4 el) := H414.out.below b15
      have H715 : Hid (Spans w15 _ v7 (marksP el 1 el.length)) := H714.out.below b15
      have E15 := eqP_any (by omega) r15 H415.out
      clear G14 HB14 H414 H714 r15 b15
      go_wp2_with fail
      refine E15.mono ?_
      rintro e w16 ⟨rfl, b16⟩
      have HB16 : Hid (Below _ _ _) := HB15.out.trans (b16.mono HB15.out.size)
      have L16 := heldP_any (k0 := 1) (by omega) (by omega) (by omega) (H715.out.below b16)
      clear E15 HB15 H715 b16 H415
      go_wp2_with fail
      refine L16.mono ?_
      rintro e w17 ⟨rfl, hw17⟩
      obtain rfl : w16 = w17 := hw17.symm
      clear L16
      go_wp2
      go_ret
      exact ⟨rfl, HB16.out⟩
end Go.Proofs.YtddelohmppdndaaGreatDoor
