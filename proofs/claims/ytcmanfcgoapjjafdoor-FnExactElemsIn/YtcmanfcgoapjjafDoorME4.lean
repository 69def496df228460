/- Proved: for every Rules r and every string s, impl.ElemsIn answers as the specification's ElemsIn, every field of every elem, writes nothing into its arguments, and its answer owns its memory, so the law FnExactElemsIn returns true and leaves the input as it was; the tables are as the program's own text lays them (the tied card). -/
import Derived.Test.YtcmanfcgoapjjafDoorME3
import Derived.Test.YtcmanfcgoapjjafDoorME1
import Derived.Test.YtcmanfcgoapjjafDoorEl
import Derived.Test.YtcmanfcgoapjjafDoorEnts
import Derived.Test.YtcmanfcgoapjjafDoorMK4
import Derived.Test.YtcmanfcgoapjjafDoorCards
import Derived.Test.YtcmanfcgoapjjafDoorTie
import Derived.WalkKit
import Derived.ProofKit
import Derived.OpenShut
import Derived.LaidMore
import Derived.Stop.Joined
import Derived.ChangeOld
namespace Go.Proofs.YtcmanfcgoapjjafDoor
open Go.RowKit

theorem endM_ge : ∀ (es : List Ent) (m : Int), m ≤ endM es m
  | [], _ => Int.le_refl _
  | e :: es, m => by
    have := endM_ge es (m + (e.runes.length : Int) + 1 + 1 + 1 + 1)
    unfold endM
    omega

theorem endM_szEs : ∀ (es : List Ent) (m left : Int), 0 ≤ left → 0 ≤ szEs es left → endM es m ≤ m + left + 4 * (es.length : Int)
  | [], m, left, h0, _ => by unfold endM; simp; omega
  | e :: es, m, left, h0, h => by
    unfold szEs at h
    split at h
    · omega
    · rename_i c
      have hb := szL_bd c
      rw [hb.1] at h
      have := endM_szEs es (m + (e.runes.length : Int) + 1 + 1 + 1 + 1) (left - (e.runes.length : Int)) hb.2 h
      unfold endM
      rw [List.length_cons]
      omega

theorem endM_szA {es : List Ent} {m left : Int} (h : 0 ≤ szA es left) : endM es m ≤ m + left + 4 * (es.length : Int) := by
  unfold szA at h
  split at h
  · omega
  · have := endM_szEs es m (left - (es.length : Int)) (by omega) h
    omega

def MRel1 (w : World) (B T : Nat) (v : Value) (es : List Ent) (m0 : Int) (kv i : Value) (wr : World) : Prop :=
  ∃ (j : Nat) (m : Int) (done : List Ent), j ≤ es.length ∧ i = .int .i64 j ∧ kv = .int .i64 m ∧ 0 ≤ m ∧ m ≤ endM es m0 ∧ done.length = j ∧ EntsD wr B T v (done ++ es.drop j) ∧
    done ++ markEs (es.drop j) m = markEs es m0 ∧ endM (es.drop j) m = endM es m0 ∧ Mid B T w wr

set_option maxRecDepth 100000 in
set_option maxHeartbeats 4000000 in
theorem markEs1_row (w : World) (B T g cap : Nat) (es : List Ent) (m0 : Int) (hm0 : 0 ≤ m0) (hm1 : endM es m0 ≤ 1073741824) (hz : es.length ≤ 1048576) (hE : EntsD w B T (.slice (some ⟨g, 0, none⟩) es.length cap) es) :
    Calls Tryd.prog 45 #[.slice (some ⟨g, 0, none⟩) es.length cap, .int .i64 m0] w fun e w' => e = .returned (.int .i64 (endM es m0)) ∧ EntsD w' B T (.slice (some ⟨g, 0, none⟩) es.length cap) (markEs es m0) ∧ Mid B T w w' := by
  go_enter Tryd.func45, Tryd.ntmps45
  go_wp2
  go_loopw [1, 5] (fun kv i wr => MRel1 w B T (.slice (some ⟨g, 0, none⟩) es.length cap) es m0 kv i wr) (fun _ i _ => es.length - (intOf i).toNat)
  case atStart => exact ⟨0, m0, [], Nat.zero_le _, rfl, rfl, hm0, endM_ge _ _, rfl, by simpa using hE, by simp, by simp, Mid.refl _ _ _⟩
  case round =>
    clear hE
    obtain ⟨j, m, done, hj, rfl, rfl, hmm0, hmm1, hdl, hED, hmk, hend, hbw⟩ := hrel
    have HMK : Hid _ := hmk
    have HEND : Hid _ := hend
    clear hmk hend
    by_cases hlt : j < es.length
    · obtain ⟨e, he⟩ : ∃ e, es[j]? = some e := ⟨_, List.getElem?_eq_getElem hlt⟩
      have hdr := ents_drop he
      have hge : m + (e.runes.length : Int) + 1 + 1 + 1 + 1 ≤ endM es m0 := by
        rw [← HEND.out, hdr]
        exact endM_ge _ _
      have hlen : (done ++ es.drop j).length = es.length := by rw [List.length_append, hdl, List.length_drop]; omega
      have hat : (done ++ es.drop j)[j]? = some e := by rw [List.getElem?_append_right (by omega), hdl, Nat.sub_self, hdr]; rfl
      obtain ⟨xs, hxl, h1, h2, h3, h4, h5⟩ := hED
      obtain ⟨x, hx, hI⟩ := h2 j e hat
      rw [hlen] at h1
      obtain ⟨xa, xn, xc, rfl⟩ : ∃ xa xn xc, x = .slice xa xn xc := by
        rcases hI.form with ⟨rfl, _⟩ | ⟨_, _, rfl, _, _⟩
        · exact ⟨_, _, _, rfl⟩
        · exact ⟨_, _, _, rfl⟩
      have at' : ∀ i, i < 5 → wr.cell? ⟨g, j * 5 + i, none⟩ = (entC (.slice xa xn xc) e.el)[i]? := fun i hi => by
        rw [World.ownsRow.cellAt h1 (j * 5 + i) (by omega), entAll_at xs _ j i _ e hx hat hi]
      have a0 : wr.cell? ⟨g, j * 5, none⟩ = some (.slice xa xn xc) := at' 0 (by omega)
      have hj8 : (j : Int) < (es.length : Int) := by omega
      have MK := markK_any (m := m) hmm0 (by omega) (by omega) hI
      obtain ⟨M, hM⟩ : ∃ M, M = m + (e.runes.length : Int) := ⟨_, rfl⟩
      rw [← hM] at MK
      have hMb : 0 ≤ M ∧ M ≤ 1073741824 := by omega
      obtain ⟨hMb0, hMb1⟩ := hMb
      have HM : Hid _ := hM
      have HX : Hid _ := hx
      have HE : Hid _ := he
      have HDR : Hid _ := hdr
      have HLEN : Hid _ := hlen
      have HAT : Hid _ := hat
      have H1 : Hid _ := h1
      have H2 : Hid _ := h2
      have H3 : Hid _ := h3
      have H4 : Hid (g < T) := h4 g rfl
      have H5 : Hid _ := h5
      have HXL : Hid _ := hxl
      have HI : Hid (Ints _ _ _ _) := hI
      clear hM hx he hdr hlen hat h1 h2 h3 h4 h5 hxl hI at'
      go_wp2_with fail
      refine MK.mono ?_
      rintro e' w3 ⟨rfl, i3, g3⟩
      have k1 := World.ownsRow.kept H1.out g3 (own_type H1.out HI.out (by decide))
      have at3 : ∀ i, i < 5 → w3.cell? ⟨g, j * 5 + i, none⟩ = (entC (.slice xa xn xc) e.el)[i]? := fun i hi => by
        rw [World.ownsRow.cellAt k1 (j * 5 + i) (by omega), entAll_at xs _ j i _ e HX.out HAT.out hi]
      have c1 : w3.cell? ⟨g, j * 5 + 1, none⟩ = some (.int .i64 e.el.first) := at3 1 (by omega)
      have c2 : w3.cell? ⟨g, j * 5 + 2, none⟩ = some (.int .i64 e.el.second) := at3 2 (by omega)
      have c3 : w3.cell? ⟨g, j * 5 + 3, none⟩ = some (.int .i64 e.el.third) := at3 3 (by omega)
      have c4 : w3.cell? ⟨g, j * 5 + 4, none⟩ = some (.bool e.el.varies) := at3 4 (by omega)
      have f1 := k1.frozenAt (j * 5 + 1)
      have f2 := k1.frozenAt (j * 5 + 2)
      have f3 := k1.frozenAt (j * 5 + 3)
      have f4 := k1.frozenAt (j * 5 + 4)
      have hD := entsD_mark (el := mkR M) HLEN.out HXL.out H1.out H2.out H3.out H4.out H5.out hlt HX.out (.inr ⟨_, HI.out⟩) i3 g3
      have hset : (done ++ es.drop j).set j ⟨seqK m e.runes.length, mkR M⟩ = (done ++ [⟨seqK m e.runes.length, mkR M⟩]) ++ es.drop (j + 1) := by
        rw [List.set_append_right _ _ (by omega), hdl, Nat.sub_self, HDR.out, List.set_cons_zero]; simp
      rw [hset] at hD
      have hgB := (World.ownsRow.lt H1.out g rfl).1
      have hb3 : Mid B T w w3 := hbw.grown g3 (fun jj hjj => ⟨(World.ownsRow.lt HI.out jj hjj).1, H5.out j _ jj HX.out hjj⟩)
      have hb4 : Mid B T w (set4 w3 g (j * 5) (mkR M)) := hb3.grown (set4_grown w3 g (j * 5) (mkR M)) (fun jj hjj => by cases hjj; exact ⟨hgB, H4.out⟩)
      have HD : Hid (EntsD _ _ _ _ _) := hD
      have HB4 : Hid (Mid _ _ _ _) := hb4
      have HMK2 : Hid ((done ++ [⟨seqK m e.runes.length, mkR M⟩]) ++ markEs (es.drop (j + 1)) (M + 1 + 1 + 1 + 1) = markEs es m0) := by
        show _ = _
        rw [← HMK.out, HDR.out, HM.out]
        simp [markEs]
      have HEND2 : Hid (endM (es.drop (j + 1)) (M + 1 + 1 + 1 + 1) = endM es m0) := by
        show _ = _
        rw [← HEND.out, HDR.out, HM.out]
        rfl
      have HBD : Hid (M + 1 + 1 + 1 + 1 ≤ endM es m0) := by show _ ≤ _; have := HM.out; omega
      have HDL : Hid ((done ++ [(⟨seqK m e.runes.length, mkR M⟩ : Ent)]).length = j + 1) := by show _ = _; simp [hdl]
      clear MK k1 at3 hD hset hb3 hb4 HMK HEND HM HX HE HDR HLEN HAT H1 H2 H3 H4 H5 HXL HI i3 g3 a0 hdl
      go_wp2
      exact ⟨⟨j + 1, M + 1 + 1 + 1 + 1, _, hlt, by go_num, rfl, by omega, HBD.out, HDL.out, HD.out, HMK2.out, HEND2.out, HB4.out⟩, by simp [intOf]; omega⟩
    · have hjz : j = es.length := by omega
      subst hjz
      have e1 : es.drop es.length = [] := List.drop_length
      have HF : Hid (m = endM es m0) := by show _ = _; rw [← HEND.out, e1]; rfl
      have HG : Hid (done = markEs es m0) := by show _ = _; rw [← HMK.out, e1]; simp [markEs]
      rw [e1, List.append_nil] at hED
      clear HMK HEND e1
      go_wp2
      go_ret
      rw [← HF.out, ← HG.out]
      exact ⟨rfl, hED, hbw⟩

theorem markEs1_any {w : World} {B T : Nat} {v : Value} {es : List Ent} {m0 : Int} (hm0 : 0 ≤ m0) (hm1 : endM es m0 ≤ 1073741824) (hz : es.length ≤ 1048576) (hE : EntsD w B T v es) :
    Calls Tryd.prog 45 #[v, .int .i64 m0] w fun e w' => e = .returned (.int .i64 (endM es m0)) ∧ EntsD w' B T v (markEs es m0) ∧ Mid B T w w' := by
  rcases hE.ents.form with ⟨rfl, rfl⟩ | ⟨g, cap, rfl, _, _, _, _⟩
  · refine (markEs_none w _ _ m0).mono ?_
    rintro e w' ⟨rfl, rfl⟩
    exact ⟨rfl, hE, Mid.refl _ _ _⟩
  · exact markEs1_row w B T g cap es m0 hm0 hm1 hz hE

set_option maxRecDepth 100000 in
set_option maxHeartbeats 1000000 in
theorem markRules1_any {w : World} {B T : Nat} {v : Value} {es : List Ent} {m0 : Int} (sh : Bool) (lv : Int) (hm0 : 0 ≤ m0) (hm1 : endM es m0 ≤ 1073741824) (hz : es.length ≤ 1048576) (hE : EntsD w B T v es) :
    Calls Tryd.prog 19 #[.agg #[v, .bool sh, .int .i64 lv], .int .i64 m0] w fun e w' => e = .returned (.int .i64 (endM es m0)) ∧ EntsD w' B T v (markEs es m0) ∧ Mid B T w w' := by
  obtain ⟨xa, xn, xc, rfl⟩ : ∃ xa xn xc, v = .slice xa xn xc := by
    rcases hE.ents.form with ⟨rfl, _⟩ | ⟨_, _, rfl, _, _, _, _⟩
    · exact ⟨_, _, _, rfl⟩
    · exact ⟨_, _, _, rfl⟩
  have hb := (Below.refl w.heap.size w).alloc (Nat.le_refl _) (.cells #[.slice xa xn xc, .bool sh, .int .i64 lv] 33)
  have M := markEs1_any (m0 := m0) hm0 hm1 hz (hE.below hb)
  have HB : Hid (Mid B T _ _) := Mid.of hb
  clear hb hE
  go_enter Tryd.func19, Tryd.ntmps19
  go_wp2_with fail
  refine M.mono ?_
  rintro e w3 ⟨rfl, i3, b3⟩
  clear M
  go_wp2
  go_ret
  exact ⟨rfl, i3, HB.out.trans b3⟩

end Go.Proofs.YtcmanfcgoapjjafDoor

namespace Go.Proofs.YtcmanfcgoapjjafDoor
open Go.RowKit

theorem Elems.mid {w w' : World} {B T B' : Nat} {v : Value} {es : List El} (h : Elems w B' v es) (hm : Mid B T w w') (ha : ∀ g, v.ownBlock = some g → g < B ∨ T ≤ g) : Elems w' B' v es := by
  refine ⟨h.1, ?_⟩
  rcases h.2 with h2 | ⟨g, cap, cur, h1, h2, h3, h4⟩
  · exact .inl h2
  · refine .inr ⟨g, cap, cur, h1, h2, ?_, h4⟩
    rw [hm.block g (Array.getElem?_eq_some_iff.1 h3).1 (ha g (by rw [h1]; rfl))]; exact h3

theorem Ints.mid {w w' : World} {B T B' : Nat} {v : Value} {l : List Int} (h : Ints w B' v l) (hm : Mid B T w w') (ha : ∀ g, v.ownBlock = some g → g < B ∨ T ≤ g) : Ints w' B' v l := by
  refine ⟨h.1, ?_⟩
  rcases h.2 with h2 | ⟨g, cap, cur, h1, h2, h3, h4⟩
  · exact .inl h2
  · refine .inr ⟨g, cap, cur, h1, h2, ?_, h4⟩
    rw [hm.block g (Array.getElem?_eq_some_iff.1 h3).1 (ha g (by rw [h1]; rfl))]; exact h3

theorem row_apart {w w' : World} {B B' n n' k k' : Nat} {t t' : TypeId} {v v' : Value} {l l' : List Value} (h : w.ownsRow B t k v n l) (h' : w'.ownsRow B' t' k' v' n' l') (hB : w.heap.size ≤ B') : v.ownBlock = none ∨ v.ownBlock ≠ v'.ownBlock := by
  cases c : v.ownBlock with
  | none => exact .inl rfl
  | some j =>
    refine .inr fun e => ?_
    have l1 := (World.ownsRow.lt h j c).2
    have l2 := (World.ownsRow.lt h' j e.symm).1
    omega
end Go.Proofs.YtcmanfcgoapjjafDoor

namespace Go.Proofs.YtcmanfcgoapjjafDoor
open Go.RowKit

/-- A block and what it holds. -/
def Blk (w : World) (g : Nat) (cs : Array Value) (t : TypeId) : Prop := w.heap[g]? = some (.cells cs t)
theorem Blk.below {w w' : World} {g : Nat} {cs : Array Value} {t : TypeId} (h : Blk w g cs t) (hb : Below w.heap.size w w') : Blk w' g cs t := by
  unfold Blk
  rw [hb.block g (Array.getElem?_eq_some_iff.1 h).1]; exact h
theorem Blk.three {w : World} {g : Nat} {x y z : Value} {t : TypeId} (h : Blk w g #[x, y, z] t) : w.cell? ⟨g, 0, none⟩ = some x ∧ w.cell? ⟨g, 1, none⟩ = some y ∧ w.cell? ⟨g, 2, none⟩ = some z :=
  ⟨cell_of_row _ _ 0 _ _ _ h, cell_of_row _ _ 1 _ _ _ h, cell_of_row _ _ 2 _ _ _ h⟩
theorem Blk.lt {w : World} {g : Nat} {cs : Array Value} {t : TypeId} (h : Blk w g cs t) : g < w.heap.size := (Array.getElem?_eq_some_iff.1 h).1

theorem Ents.slice {w : World} {B : Nat} {v : Value} {es : List Ent} (h : Ents w B v es) : ∃ a n c, v = .slice a n c := by
  rcases h.form with ⟨rfl, _⟩ | ⟨_, _, rfl, _, _, _, _⟩
  · exact ⟨_, _, _, rfl⟩
  · exact ⟨_, _, _, rfl⟩

/-- What stands in the last region: the two boxes. -/
theorem keep6 {w0 w1 w2 : World} {g g' : Nat} {x y z x' y' z' : Value} (hg : g < w0.heap.size) (hg' : g' < w0.heap.size) (hb : Below w1.heap.size w1 w2)
    (h : w1.cell? ⟨g, 0, none⟩ = some x ∧ w1.cell? ⟨g, 1, none⟩ = some y ∧ w1.cell? ⟨g, 2, none⟩ = some z ∧ w1.cell? ⟨g', 0, none⟩ = some x' ∧ w1.cell? ⟨g', 1, none⟩ = some y' ∧ w1.cell? ⟨g', 2, none⟩ = some z' ∧ Below w0.heap.size w0 w1) :
    w2.cell? ⟨g, 0, none⟩ = some x ∧ w2.cell? ⟨g, 1, none⟩ = some y ∧ w2.cell? ⟨g, 2, none⟩ = some z ∧ w2.cell? ⟨g', 0, none⟩ = some x' ∧ w2.cell? ⟨g', 1, none⟩ = some y' ∧ w2.cell? ⟨g', 2, none⟩ = some z' ∧ Below w0.heap.size w0 w2 := by
  obtain ⟨a0, a1, a2, b0, b1, b2, h3⟩ := h
  have q1 : g < w1.heap.size := Nat.lt_of_lt_of_le hg h3.size
  have q2 : g' < w1.heap.size := Nat.lt_of_lt_of_le hg' h3.size
  exact ⟨by rw [hb.cell q1]; exact a0, by rw [hb.cell q1]; exact a1, by rw [hb.cell q1]; exact a2, by rw [hb.cell q2]; exact b0, by rw [hb.cell q2]; exact b1, by rw [hb.cell q2]; exact b2, h3.trans (hb.mono h3.size)⟩
end Go.Proofs.YtcmanfcgoapjjafDoor

namespace Go.Proofs.YtcmanfcgoapjjafDoor
open Go.RowKit

theorem Blk.mid {w w' : World} {g B T : Nat} {cs : Array Value} {t : TypeId} (h : Blk w g cs t) (hm : Mid B T w w') (hg : g < B ∨ T ≤ g) : Blk w' g cs t := by
  unfold Blk
  rw [hm.block g (Array.getElem?_eq_some_iff.1 h).1 hg]; exact h
end Go.Proofs.YtcmanfcgoapjjafDoor

namespace Go.Proofs.YtcmanfcgoapjjafDoor
open Go.RowKit

set_option maxRecDepth 100000 in
set_option maxHeartbeats 8000000 in
theorem elemsIn_walk (w : World) (a : Option Addr) (len cap : Nat) (es : List Ent) (sh : Bool) (lv : Int) (s : ByteArray) (hs : s.size ≤ maxLen) (hA : ArgEnts w a len cap es)
    (I : ∀ (u : World) (B : Nat) (v : Value), Below w.heap.size w u → Ents u B v es → (∀ e ∈ es, e.runes.length ≤ 1048576) → s.size ≤ 1048576 → Calls Tryd.prog 17 #[.agg #[v, .bool sh, .int .i64 lv], .string s] u fun e w' => ∃ v', e = .returned (.tuple #[v', .bool (okE es lv s)]) ∧ Elems w' u.heap.size v' (elsA es lv s) ∧ Below u.heap.size u w') :
    Calls Tryd.prog 4 #[.agg #[.slice a len cap, .bool sh, .int .i64 lv], .string s] w fun e w' => e = .returned (.bool true) ∧ Below w.heap.size w w' := by
  unfold maxLen at hs
  have hb1 := (Below.refl w.heap.size w).alloc (Nat.le_refl _) (.cells #[.slice a len cap, .bool sh, .int .i64 lv] 24)
  have hx1 : Blk (w.alloc (.cells #[.slice a len cap, .bool sh, .int .i64 lv] 24)) w.heap.size #[.slice a len cap, .bool sh, .int .i64 lv] 24 := heap_alloc_new _ _
  have S := szRules_any w _ a len cap es sh lv 1048576 (by omega) (by omega) hA hb1
  have HA : Hid (ArgEnts w a len cap es) := hA
  have HI : Hid _ := I
  have HB1 : Hid (Below _ _ _) := hb1
  have HX1 : Hid (Blk _ _ _ _) := hx1
  clear hA I hb1 hx1
  by_cases hls : 1048576 < s.size
  · have hl2s : (1048576 : Int) < (s.size : Int) := by omega
    clear S
    go_enter Tryd.func4, Tryd.ntmps4
    go_wp2
    go_ret
    exact ⟨rfl, HB1.out⟩
  have hl2s : ¬ (1048576 : Int) < (s.size : Int) := by omega
  by_cases hneg : szA es 1048576 < 0
  · generalize szA es 1048576 = sz at *
    go_enter Tryd.func4, Tryd.ntmps4
    go_wp2_with fail
    refine S.mono ?_
    rintro e w2 ⟨rfl, b2⟩
    clear S
    go_wp2
    go_ret
    exact ⟨rfl, HB1.out.trans (b2.mono HB1.out.size)⟩
  · have hbd := szA_bd (es := es) (left := 1048576) (by omega)
    have hem := endM_szA (es := es) (m := 1) (left := 1048576) (by omega)
    have hle : len ≤ 1048576 := by have := HA.out.1; omega
    have HR : Hid (∀ e ∈ es, e.runes.length ≤ 1048576) := fun e he => by have := hbd.2 e he; omega
    have hel : es.length ≤ 1048576 := by omega
    have hpos := endM_ge es 1
    obtain ⟨en, HEN⟩ : ∃ en, Hid (endM es 1 = en) := ⟨_, rfl⟩
    rw [HEN.out] at hem hpos
    have hpos2 : ¬ en < 0 := by omega
    clear hbd
    generalize szA es 1048576 = sz at *
    have T := fun (u : World) (hu : Below w.heap.size w u) => toRules_any w u a len cap es sh lv HA.out hu hle HR.out
    have TD := fun (u : World) (hu : Below w.heap.size w u) => toRulesD_any w u a len cap es sh lv HA.out hu hle HR.out
    have A0 := fun (u : World) (B : Nat) (v : Value) (h : Ents u B v es) => specElemsIn_any (sh := sh) (lv := lv) s (by omega) h HR.out
    have I0 := fun (u : World) (B : Nat) (v : Value) (hu : Below w.heap.size w u) (h : Ents u B v es) => HI.out u B v hu h HR.out (by omega)
    have hll := elsA_len es lv s
    generalize elsA es lv s = el at *
    generalize okE es lv s = ok at *
    have HA0 : Hid _ := A0
    have HI0 : Hid _ := I0
    clear A0 I0 HI
    go_enter Tryd.func4, Tryd.ntmps4
    go_wp2_with fail
    refine S.mono ?_
    rintro e w2 ⟨rfl, b2⟩
    clear S
    have HX2 : Hid (Blk _ _ _ _) := HX1.out.below b2
    have HB2 : Hid (Below _ _ _) := HB1.out.trans (b2.mono HB1.out.size)
    obtain ⟨p0, p1, p2⟩ := HX2.out.three
    clear HX1 HB1 b2
    go_wp2_with fail
    refine (T _ HB2.out).mono ?_
    rintro e w3 ⟨g3, rfl, i3, b3⟩
    have HX3 : Hid (Blk _ _ _ _) := HX2.out.below b3
    have HB3 : Hid (Below _ _ _) := HB2.out.trans (b3.mono HB2.out.size)
    have A := HA0.out _ _ _ i3
    clear p0 p1 p2 HX2 HB2 b3 i3 HA0
    go_wp2_with fail
    refine A.mono ?_
    rintro e w4 ⟨v4, rfl, r4, b4⟩
    have HX4 : Hid (Blk _ _ _ _) := HX3.out.below b4
    have HB4 : Hid (Below _ _ _) := HB3.out.trans (b4.mono HB3.out.size)
    have HXL : Hid (w.heap.size < w4.heap.size) := HX4.out.lt
    have H44 : Hid (Elems w4 w3.heap.size v4 el) := r4
    obtain ⟨p0, p1, p2⟩ := HX4.out.three
    clear A HX3 HB3 b4 r4
    go_wp2_with fail
    refine (TD _ HB4.out).mono ?_
    rintro e w5 ⟨g5, rfl, d5, b5⟩
    have b56 := (Below.refl w5.heap.size w5).alloc (Nat.le_refl _) (.cells #[.slice (some ⟨g5, 0, none⟩) len len, .bool sh, .int .i64 lv] 33)
    have HX6 : Hid (Blk _ _ _ _) := (HX4.out.below b5).below b56
    have HY6 : Hid (Blk (w5.alloc (.cells #[.slice (some ⟨g5, 0, none⟩) len len, .bool sh, .int .i64 lv] 33)) w5.heap.size #[.slice (some ⟨g5, 0, none⟩) len len, .bool sh, .int .i64 lv] 33) := heap_alloc_new _ _
    have H45 : Hid (Below w4.heap.size w4 w5) := b5
    have H46 : Hid (Below _ _ _) := b5.trans (b56.mono b5.size)
    have HB5 := HB4.out.trans (b5.mono HB4.out.size)
    have HB6 : Hid (Below _ _ _) := HB5.trans (b56.mono HB5.size)
    have D6 : Hid (EntsD _ _ _ _ _) := d5.below b56
    have HS6 : Hid (w5.heap.size < (w5.alloc (.cells #[.slice (some ⟨g5, 0, none⟩) len len, .bool sh, .int .i64 lv] 33)).heap.size) := by show _ < _; simp
    have G := HI0.out _ _ _ HB6.out D6.out.ents
    clear p0 p1 p2 HX4 b5 b56 d5 HB5
    go_wp2_with fail
    refine G.mono ?_
    rintro e w7 ⟨v7, rfl, r7, b7⟩
    have HX7 : Hid (Blk _ _ _ _) := HX6.out.below b7
    have HY7 : Hid (Blk _ _ _ _) := HY6.out.below b7
    have HB7 : Hid (Below _ _ _) := HB6.out.trans (b7.mono HB6.out.size)
    have D7 : Hid (EntsD _ _ _ _ _) := D6.out.below b7
    have H47 : Hid (Below _ _ _) := H46.out.trans (b7.mono H46.out.size)
    have H77 : Hid (Elems _ _ v7 el) := r7
    have E7 := eqE_any (by omega) r7 (H44.out.below H47.out)
    have HA7 : Hid (∀ g, v7.ownBlock = some g → g < w4.heap.size ∨ w5.heap.size ≤ g) := fun g hg => .inr (by have := (World.ownsRow.lt r7 g hg).1; have := HS6.out; omega)
    have HA4 : Hid (∀ g, v4.ownBlock = some g → g < w4.heap.size ∨ w5.heap.size ≤ g) := fun g hg => .inl (World.ownsRow.lt H44.out g hg).2
    have HP47 : Hid (v4.ownBlock = none ∨ v4.ownBlock ≠ v7.ownBlock) := row_apart H44.out r7 H46.out.size
    have HX7L : Hid (∀ g, v7.ownBlock = some g → w4.heap.size ≤ g) := fun g hg => by have := (World.ownsRow.lt r7 g hg).1; have := H46.out.size; omega
    have HG7 : Hid (∀ g, v7.ownBlock = some g → w.heap.size ≤ g) := fun g hg => by have := (World.ownsRow.lt r7 g hg).1; have := HB6.out.size; omega
    clear G HX6 HY6 HB6 D6 b7 r7 H46
    go_wp2_with fail
    refine E7.mono ?_
    rintro e w8 ⟨rfl, b8⟩
    have hx7 := HX7.out.below b8
    have hy7 := HY7.out.below b8
    have HB8 : Hid (Below _ _ _) := HB7.out.trans (b8.mono HB7.out.size)
    have D8 : Hid (EntsD _ _ _ _ _) := D7.out.below b8
    have H48 : Hid (Below _ _ _) := H47.out.trans (b8.mono H47.out.size)
    have H78 : Hid (Elems _ _ v7 el) := H77.out.below b8
    obtain ⟨p0, p1, p2⟩ := hx7.three
    obtain ⟨q0, q1, q2⟩ := hy7.three
    have hgx := hx7.lt
    have hgy := hy7.lt
    have HX8 : Hid (Blk _ _ _ _) := hx7
    have HY8 : Hid (Blk _ _ _ _) := hy7
    have hS : w8.cell? ⟨w.heap.size, 0, none⟩ = some (.slice a len cap) ∧ w8.cell? ⟨w.heap.size, 1, none⟩ = some (.bool sh) ∧ w8.cell? ⟨w.heap.size, 2, none⟩ = some (.int .i64 lv) ∧ w8.cell? ⟨w5.heap.size, 0, none⟩ = some (.slice (some ⟨g5, 0, none⟩) len len) ∧ w8.cell? ⟨w5.heap.size, 1, none⟩ = some (.bool sh) ∧ w8.cell? ⟨w5.heap.size, 2, none⟩ = some (.int .i64 lv) ∧ Below w8.heap.size w8 w8 := ⟨p0, p1, p2, q0, q1, q2, Below.refl _ _⟩
    have hS2 := keep6 hgx hgy ((Below.refl w8.heap.size w8).drew) hS
    have K := fun (u1 u2 : World) (hb : Below u1.heap.size u1 u2) (hu : u1.cell? ⟨w.heap.size, 0, none⟩ = some (.slice a len cap) ∧ u1.cell? ⟨w.heap.size, 1, none⟩ = some (.bool sh) ∧ u1.cell? ⟨w.heap.size, 2, none⟩ = some (.int .i64 lv) ∧ u1.cell? ⟨w5.heap.size, 0, none⟩ = some (.slice (some ⟨g5, 0, none⟩) len len) ∧ u1.cell? ⟨w5.heap.size, 1, none⟩ = some (.bool sh) ∧ u1.cell? ⟨w5.heap.size, 2, none⟩ = some (.int .i64 lv) ∧ Below w8.heap.size w8 u1) => keep6 hgx hgy hb hu
    have T2 := fun (u : World) (hu : u.cell? ⟨w.heap.size, 0, none⟩ = some (.slice a len cap) ∧ u.cell? ⟨w.heap.size, 1, none⟩ = some (.bool sh) ∧ u.cell? ⟨w.heap.size, 2, none⟩ = some (.int .i64 lv) ∧ u.cell? ⟨w5.heap.size, 0, none⟩ = some (.slice (some ⟨g5, 0, none⟩) len len) ∧ u.cell? ⟨w5.heap.size, 1, none⟩ = some (.bool sh) ∧ u.cell? ⟨w5.heap.size, 2, none⟩ = some (.int .i64 lv) ∧ Below w8.heap.size w8 u) => T u (HB8.out.trans (hu.2.2.2.2.2.2.mono HB8.out.size))
    have EQ := fun (u : World) (B : Nat) (g : Nat) (hu : u.cell? ⟨w.heap.size, 0, none⟩ = some (.slice a len cap) ∧ u.cell? ⟨w.heap.size, 1, none⟩ = some (.bool sh) ∧ u.cell? ⟨w.heap.size, 2, none⟩ = some (.int .i64 lv) ∧ u.cell? ⟨w5.heap.size, 0, none⟩ = some (.slice (some ⟨g5, 0, none⟩) len len) ∧ u.cell? ⟨w5.heap.size, 1, none⟩ = some (.bool sh) ∧ u.cell? ⟨w5.heap.size, 2, none⟩ = some (.int .i64 lv) ∧ Below w8.heap.size w8 u) (he : Ents u B (.slice (some ⟨g, 0, none⟩) len len) es) => eqRules_same sh lv hel (D8.out.ents.below hu.2.2.2.2.2.2) he
    have HT : Hid _ := T
    clear E7 HX7 HY7 HB7 D7 H47 H77 b8 hx7 hy7 T TD p0 p1 p2 q0 q1 q2
    go_wp2_with fail
    go_region_held (fun u => u.cell? ⟨w.heap.size, 0, none⟩ = some (.slice a len cap) ∧ u.cell? ⟨w.heap.size, 1, none⟩ = some (.bool sh) ∧ u.cell? ⟨w.heap.size, 2, none⟩ = some (.int .i64 lv) ∧ u.cell? ⟨w5.heap.size, 0, none⟩ = some (.slice (some ⟨g5, 0, none⟩) len len) ∧ u.cell? ⟨w5.heap.size, 1, none⟩ = some (.bool sh) ∧ u.cell? ⟨w5.heap.size, 2, none⟩ = some (.int .i64 lv) ∧ Below w8.heap.size w8 u)
      (first | exact hS2 | exact K _ _ (by assumption) (by assumption))
      (first | (go_at_call 10; refine (T2 _ (by assumption)).mono ?_; rintro e w' ⟨g, rfl, hEn, hbw⟩) | (go_at_call 14; refine (EQ _ _ _ (by assumption) (by assumption)).mono ?_; rintro e w' ⟨rfl, hbw⟩))
    all_goals
      have hE := (show w'.cell? ⟨w.heap.size, 0, none⟩ = _ ∧ _ ∧ _ ∧ _ ∧ _ ∧ _ ∧ Below w8.heap.size w8 w' by assumption).2.2.2.2.2.2
      clear hS hS2 EQ K T2
      have HX9 : Hid (Blk _ _ _ _) := HX8.out.below hE
      have HY9 : Hid (Blk _ _ _ _) := HY8.out.below hE
      have HB9 : Hid (Below _ _ _) := HB8.out.trans (hE.mono HB8.out.size)
      have D9 : Hid (EntsD _ _ _ _ _) := D8.out.below hE
      have H49 : Hid (Below _ _ _) := H48.out.trans (hE.mono H48.out.size)
      have H79 : Hid (Elems _ _ v7 el) := H78.out.below hE
      have M9 := markRules1_any (m0 := 1) sh lv (by omega) (by rw [HEN.out]; omega) hel D9.out
      rw [HEN.out] at M9
      obtain ⟨q0, q1, q2⟩ := HY9.out.three
      clear HX8 HY8 HB8 D8 H48 H78 hE
      go_wp2_with fail
      refine M9.mono ?_
      rintro e w10 ⟨rfl, _, m10⟩
      have hB9 : w4.heap.size ≤ w'.heap.size := H49.out.size
      have b10 := m10.below hB9
      have HX10 : Hid (Blk _ _ _ _) := HX9.out.mid m10 (.inl HXL.out)
      have HB10 : Hid (Below _ _ _) := HB9.out.trans (b10.mono HB4.out.size)
      have H410 : Hid (Elems w10 w3.heap.size v4 el) := (H44.out.below H49.out).mid m10 HA4.out
      have H710 : Hid (Elems w10 _ v7 el) := H79.out.mid m10 HA7.out
      have E10 := eqE_any (by omega) H710.out H410.out
      clear M9 HX9 HY9 HB9 D9 H49 H79 m10 b10 q0 q1 q2 hB9
      go_wp2_with fail
      refine E10.mono ?_
      rintro e w11 ⟨rfl, b11⟩
      have HX11 : Hid (Blk _ _ _ _) := HX10.out.below b11
      have HB11 : Hid (Below _ _ _) := HB10.out.trans (b11.mono HB10.out.size)
      have H411 : Hid (Elems w11 w3.heap.size v4 el) := H410.out.below b11
      have H711 : Hid (Elems w11 _ v7 el) := H710.out.below b11
      have M11 := markE_any (k0 := 1) (by omega) (by omega) (by omega) H711.out
      clear E10 HX10 HB10 H410 H710 b11
      go_wp2_with fail
      refine M11.mono ?_
      rintro e w12 ⟨rfl, r12, g12⟩
      have HX12 : Hid (Blk w12 w.heap.size #[.slice a len cap, .bool sh, .int .i64 lv] 24) := by
        show w12.heap[w.heap.size]? = _
        rw [g12.block w.heap.size HX11.out.lt (fun c => by rcases HA7.out _ c.symm with h | h <;> have := HXL.out <;> have := HX7L.out _ c.symm <;> omega)]
        exact HX11.out
      have HB12 : Hid (Below w.heap.size w w12) := Below.grown HB11.out g12 HB11.out.size (fun g hg => HG7.out g hg)
      have H412 : Hid (Elems w12 w3.heap.size v4 el) := World.ownsRow.kept H411.out g12 HP47.out
      have H712 : Hid (Elems w12 _ v7 (marksE el 1 el.length)) := r12
      have L12 := heldE_any (k0 := 1) (by omega) (by omega) (by omega) r12
      have hq8 : ¬ (1 + 4 * (el.length : Int) < 0) := by omega
      clear M11 HX11 HB11 H411 H711 r12 g12
      go_wp2_with fail
      refine L12.mono ?_
      rintro e w13 ⟨rfl, hw13⟩
      obtain rfl : w12 = w13 := hw13.symm
      clear L12
      obtain ⟨p0, p1, p2⟩ := HX12.out.three
      go_wp2_with fail
      refine (HT.out _ HB12.out).mono ?_
      rintro e w14 ⟨g14, rfl, i14, b14⟩
      have HB14 : Hid (Below _ _ _) := HB12.out.trans (b14.mono HB12.out.size)
      have H414 : Hid (Elems w14 w3.heap.size v4 el) := H412.out.below b14
      have H714 : Hid (Elems w14 _ v7 (marksE el 1 el.length)) := H712.out.below b14
      have G14 := HI0.out _ _ _ HB14.out i14
      clear p0 p1 p2 HX12 HB12 H412 H712 b14 i14 HT HI0
      go_wp2_with fail
      refine G14.mono ?_
      rintro e w15 ⟨v15, rfl, r15, b15⟩
      have HB15 : Hid (Below _ _ _) := HB14.out.trans (b15.mono HB14.out.size)
      have H415 : Hid (Elems w15 w3.heap.size v4 el) := H414.out.below b15
      have H715 : Hid (Elems w15 _ v7 (marksE el 1 el.length)) := H714.out.below b15
      have E15 := eqE_any (by omega) r15 H415.out
      clear G14 HB14 H414 H714 r15 b15
      go_wp2_with fail
      refine E15.mono ?_
      rintro e w16 ⟨rfl, b16⟩
      have HB16 : Hid (Below _ _ _) := HB15.out.trans (b16.mono HB15.out.size)
      have L16 := heldE_any (k0 := 1) (by omega) (by omega) (by omega) (H715.out.below b16)
      clear E15 HB15 H715 b16 H415
      go_wp2_with fail
      refine L16.mono ?_
      rintro e w17 ⟨rfl, hw17⟩
      obtain rfl : w16 = w17 := hw17.symm
      clear L16
      go_wp2
      go_ret
      exact ⟨rfl, HB16.out⟩
end Go.Proofs.YtcmanfcgoapjjafDoor

namespace Go.Proofs.YtcmanfcgoapjjafDoor
open Go.ChangeShapes Go.WideShapes Go.ChangeAt Go.WideMaps Go.WideElems Go.RowKit

theorem fnExactElemsIn_law (a0 : Option Addr) (len0 cap0 : Nat) (es0 : List Ent) (sh0 : Bool) (lv0 : Int) (s1 : ByteArray) (w : World) (w0 : ArgEnts w a0 len0 cap0 es0) (w1 : s1.size ≤ maxLen) (t_marks : Held w 0 marksF) (t_cap : Held w 2 capF) (t_oth : Held w 3 othF) :
    Calls Tryd.prog 4 #[.agg #[.slice a0 len0 cap0, .bool sh0, .int .i64 lv0], .string s1] w fun e w' => e = .returned (.bool true) ∧ Below w.heap.size w w' :=
  elemsIn_walk w a0 len0 cap0 es0 sh0 lv0 s1 w1 w0 fun _ _ _ hu hE hr h1 => implElemsIn_any _ h1 hE hr (Tabs3.below (w := w) ⟨t_marks, t_cap, t_oth⟩ hu)

theorem own_fnExactElemsIn : ownKnob Tryd.prog.godebug = none := by kernel_rfl
theorem laidOut_fnExactElemsIn : laidOutB Tryd.prog = true := by kernel_rfl

open Go.ChangeMaps (open_string shut_string) in
set_option linter.unusedVariables false in
set_option maxRecDepth 100000 in
theorem fnExactElemsIn_contract (H : Type) (enc : TypeId × Value → H) (W : World) (base : Nat) (args : Array Value) (ds gs : List (DataW H)) (before : List MemPlace)
    (hval0 : ∀ (j : Nat) t v, Tryd.f4.params[j]? = some t → args[j]? = some v → Value.okWide Tryd.prog W .any base t v)
    (hW : DataW.Whole enc Tryd.prog Tryd.f4.params.toList Rows.fnExactElemsInSpec.vars false W args.toList ds gs before) (hL : laidMetH Tryd.prog Rows.fnExactElemsInRow.laid W) :
    Calls Tryd.prog 4 args W fun e W' => ∃ v, e = .returned v ∧ Rows.fnExactElemsInSpec.post enc Tryd.prog Tryd.f4 false true false false W args v W' := by
  have hval : ∀ (j : Nat) t v, Tryd.f4.params[j]? = some t → args[j]? = some v → Value.okWide Tryd.prog W .any base t v := hval0
  have hW' := hW
  obtain ⟨p, q, hA0, hV, rfl, hfz, hnd⟩ := hW
  have hA : DataW.TrodAll enc Tryd.prog W 0 (fun _ => true) true Tryd.f4.params.toList args.toList ds p := hA0
  rw [Tryd.params4] at hA hval
  obtain ⟨v0, vs0, d0, ds0, p0, q0, hargs, rfl, rfl, h0, r0⟩ := trodAll_cons hA
  obtain ⟨v1, vs1, d1, ds1, p1, q1, rfl, rfl, rfl, h1, r1⟩ := trodAll_cons r0
  obtain ⟨rfl, rfl, rfl⟩ := trodAll_nil r1
  obtain rfl : args = #[v0, v1] := by cases args; simp_all
  obtain ⟨g1, g2, g3, rfl⟩ : ∃ g1 g2 g3, gs = [g1, g2, g3] := by
    have hg := trodVars_len hV
    match gs, hg with
    | [x1, x2, x3], _ => exact ⟨x1, x2, x3, rfl⟩
  have k0 := h0
  have lt0 : ∀ x ∈ p0, x.block < W.heap.size := by obtain ⟨m, hm⟩ := k0; exact DataW.trod_lt m _ _ _ hm
  obtain ⟨c0, e0, l0, y0, y0b, y0c, n0, hv0, _, _, f0, f0b, f0c⟩ := Joins.open_agg3 Tryd.underlying24 (by kernel_rfl) (by kernel_rfl) (hval 0 24 v0 rfl rfl) h0
  obtain ⟨a0, len0, cap0, hs0⟩ := Joins.slice_form Tryd.underlying22 f0
  obtain ⟨sh0, hb0, _⟩ := DataW.trod_bool Tryd.underlying4 f0b
  obtain ⟨lv0, hi0, _⟩ := DataW.trod_int Tryd.underlying3 f0c
  cases hs0
  cases hb0
  cases hi0
  subst hv0
  obtain ⟨es0, w0⟩ := open_entries f0
  obtain ⟨a1, rfl, rfl, rfl, w1⟩ := open_string Tryd.underlying9 (hval 1 9 v1 rfl rfl) h1
  have hL2 : laidMet Tryd.prog Rows.fnExactElemsInRow.laid W := hL
  have t_marks := marks_held hL2
  have t_cap := cap_held (laidMet.tail hL2)
  have t_oth := oth_held (laidMet.tail (laidMet.tail hL2))
  clear hA0 hval0
  refine (fnExactElemsIn_law a0 len0 cap0 es0 sh0 lv0 a1 W w0 w1 t_marks t_cap t_oth).mono fun e W' ⟨he, bel⟩ => ?_
  subst he
  exact ⟨_, rfl, _, _, _, [], _, q, hW', trodAll_mk1 (shut_bool Tryd.underlying4 _), (trodAll_cons_mk (Below.trod laidOut_fnExactElemsIn (by kernel_rfl) (of_decide_eq_true (by kernel_rfl)) k0 bel lt0) (trodAll_cons_mk (shut_string Tryd.underlying9 w1) trodAll_mk0)), bel.trodVars laidOut_fnExactElemsIn (by kernel_rfl) hV, bel.frame _, fun h => by cases h⟩

theorem fnExactElemsIn_door (os : Os) (args : Array Value) : laidMetH Tryd.prog Rows.fnExactElemsInRow.laid ((World.doorLaid Tryd.prog 70 os).forCall (fun _ _ => 0) ⟨#[], args, []⟩).memory :=
  laidMetH_of_parts3 (fuel := 8) (laidMet_of_run' 8 (by kernel_rfl) (by kernel_rfl)) (by kernel_rfl) (by kernel_rfl)

set_option maxRecDepth 100000 in
theorem fnExactElemsIn_lifted (os : Os) (started : os.Started) (H : Type) (enc : TypeId × Value → H) :
    ReturnsInHanded {} Tryd.checked os 4 .any (fun w args => (Rows.fnExactElemsInSpec.pre enc Tryd.prog Tryd.f4 [] false w args ∧ laidMetH Tryd.prog Rows.fnExactElemsInRow.laid w) ∧ sizedMet enc Tryd.prog Tryd.f4 (OpenSpec.ofChange Rows.fnExactElemsInSpec) false w args)
      (Rows.fnExactElemsInSpec.post enc Tryd.prog Tryd.f4 false true false false) := by
  refine returnsInHanded_of_change_and (C := Tryd.checked) (X := fun w _ => laidMetH Tryd.prog Rows.fnExactElemsInRow.laid w) (fun _ _ _ hh h => h.of_heap hh) own_fnExactElemsIn started (by kernel_rfl) Tryd.func4
    (ChangeSpec.witness_shaped (enc := enc) (C := Tryd.checked) (os := os) (X := fun w _ => laidMetH Tryd.prog Rows.fnExactElemsInRow.laid w) false (World.doorLaid Tryd.prog 70 os) #[.agg #[.slice none 0 0, .bool false, .int .i64 0], .string ByteArray.empty] 8 rfl (World.shaped_of_RefB (by kernel_rfl) (by kernel_rfl)) (by kernel_rfl) (by kernel_rfl) (by kernel_rfl) (fnExactElemsIn_door os _)) ?_
  intro W base args ds gs before hval0 hW _ _ hL _
  exact fnExactElemsIn_contract H enc W base args ds gs before hval0 hW hL

theorem fnExactElemsIn_said : Rows.FnExactElemsInSaid :=
  OpenClaim.holds_of_wide 4 Tryd.f4 rfl rfl rfl rfl rfl rfl rfl ⟨rfl, rfl, rfl, rfl, rfl⟩ rfl rfl rfl rfl rfl (by kernel_rfl) Tryd.func4 (by kernel_rfl)
    (of_decide_eq_true (by kernel_rfl)) (by unfold Func.isWrapper; first | (rw [if_pos (by decide +kernel)]; kernel_rfl) | (rw [if_neg (by decide +kernel)]; exact ⟨rfl, rfl⟩))
    (fun os started H enc _ => fnExactElemsIn_lifted os started H enc)

theorem fnExactElemsIn_plain (f : FuncId) (fn : Func) (hf : Tryd.pinned.checked.prog.funcNamed "loop.example/g00158/laws.FnExactElemsIn" = some f) (hfn : Tryd.pinned.checked.prog.funcs[f]? = some fn) :
    ∀ (j : Nat) t, fn.params[j]? = some t → Tryd.pinned.checked.prog.wantsStandIn t = false := by
  obtain rfl : f = 4 := Option.some.inj ((show Tryd.prog.funcNamed "loop.example/g00158/laws.FnExactElemsIn" = some 4 by kernel_rfl).symm.trans hf) |>.symm
  obtain rfl : fn = Tryd.f4 := (Option.some.inj (Tryd.func4.symm.trans hfn)).symm
  intro j t ht
  rw [Tryd.params4] at ht
  have hm : t = 24 ∨ t = 9 := by simpa using Array.mem_of_getElem? ht
  rcases hm with rfl | rfl
  · exact (show Tryd.prog.wantsStandIn 24 = false by kernel_rfl)
  · exact (show Tryd.prog.wantsStandIn 9 = false by kernel_rfl)

theorem fnExactElemsIn_card : Rows.FnExactElemsInCardSaid :=
  Claim7.holds_tied_plain_at .later [] _ _ _ _ fnExactElemsIn_said (fun _ h => by cases h) (by kernel_rfl) (fun _ h => by cases h) fnExactElemsIn_row_tie rfl ⟨rfl, rfl⟩ (by kernel_rfl) rfl (fun f fn hf hfn => ⟨by kernel_rfl, fnExactElemsIn_plain f fn hf hfn⟩) (by kernel_rfl)
#print axioms fnExactElemsIn_card
end Go.Proofs.YtcmanfcgoapjjafDoor
