/- Texts of mine laid together: ISpans. -/
import Derived.Test.YtinjldagfhbioaaGreatDoorMD8
import Derived.Shelf.Abstract
import Derived.Shelf.RegionOpen
import Derived.WalkKit
import Derived.OwnWalkIn
import Derived.TacticsInMore
import Derived.LoopNIn
import Derived.LoopIn
namespace Go.Proofs.YtinjldagfhbioaaGreatDoor
open Go.RowKit Go.Shelf
attribute [local go_sem] Oper.semAt_some

/-- What a round that goes on keeps: what lay below n0, and the boxes of searches. -/
def KpS (n0 : Nat) (A B : World) : Prop := Below n0 A B ∧ ∀ (k : Nat) (cs : Array Value) (fr : Nat × Nat), A.heap[k]? = some (.cells cs 54 fr) → B.heap[k]? = A.heap[k]?

theorem KpS.t {n0 : Nat} {A B C : World} (h : KpS n0 A B) (k : KpS n0 B C) : KpS n0 A C :=
  ⟨h.1.trans k.1, fun i cs fr hi => (k.2 i cs fr ((h.2 i cs fr hi).trans hi)).trans (h.2 i cs fr hi)⟩

theorem KpS.b {n0 : Nat} {w : World} (hn : n0 ≤ w.heap.size) (W : World) (l : Nat) (o o' : Obj) (hl : w.heap.size ≤ l) (h : W.heap[l]? = some o) (hc : o.isCells = false) : KpS n0 W (W.putObj l o') := by
  refine ⟨⟨rfl, rfl, rfl, by simp, fun k hk => World.putObj_heap_other (by omega)⟩, fun k cs fr hk => World.putObj_heap_other fun e => ?_⟩
  subst e
  rw [h] at hk
  cases hk
  cases hc

def LSp (es : List Ent) (sh : Bool) (want : List Int) (s : ByteArray) (f i : Nat) : List (Int × Int) := (spansF es sh want (pcS s) (nPc s) f i).map (spn s)

def SpnRel (w1 : World) (bx : Nat) (cs : Array Value) (es : List Ent) (sh : Bool) (want : List Int) (s : ByteArray) (L : List (Int × Int)) (J : List (Int × Int) → World → Prop) (v : Value) (wr : World) : Prop :=
  ∃ (i f : Nat) (pre : List (Int × Int)), v = .int .i64 (i : Int) ∧ i ≤ nPc s ∧ nPc s + 1 ≤ f + i ∧ L = pre ++ LSp es sh want s f i ∧ J pre wr ∧ Below w1.heap.size w1 wr ∧ wr.heap[bx]? = some (.cells cs 54)

theorem abides {β : Type} {B : Nat} {J : β → World → Prop} (hJ : AbidesFrom B J) {s : β} {W W' : World} (h : J s W) (hb : Below W.heap.size W W') : J s W' :=
  hJ s W W' none h ⟨hb.os, hb.tape, hb.output, hb.size, fun k hk _ => hb.block k hk⟩ (fun r e => by cases e)

theorem yield_bool {e : Ending} {A B : Prop} (h : (e = .returned (.bool true) ∧ A) ∨ (e = .returned (.bool false) ∧ B)) : ∃ b, e = .returned (.bool b) ∧ ((b = true ∧ A) ∨ (b = false ∧ B)) := by
  rcases h with ⟨h1, h2⟩ | ⟨h1, h2⟩
  · exact ⟨true, h1, .inl ⟨rfl, h2⟩⟩
  · exact ⟨false, h1, .inr ⟨rfl, h2⟩⟩

theorem yield_yes {A B : Prop} (h : (true = true ∧ A) ∨ (true = false ∧ B)) : A := by
  rcases h with ⟨_, h⟩ | ⟨h, _⟩
  · exact h
  · cases h

set_option maxRecDepth 100000 in
set_option maxHeartbeats 8000000 in
theorem spans_seq {n : Nat} (hn : 1 ≤ n) {w1 w : World} {B BW BC : Nat} {ve vc vp vw : Value} {es : List Ent} {sh : Bool} {lv : Int} {want : List Int} {s : ByteArray} (hE : Ents w1 B ve es) (hne : es.length ≤ 1048576) (hr : ∀ e ∈ es, e.runes.length ≤ 1048576) (ht : Tabs3 w1)
    (hP : Pcs w1 vp (pcS s) (nPc s)) (hW : Ints w1 BW vw want) (hwl : want.length ≤ 4000) (hC : Ints w1 BC vc (cutsL s)) (hs : ok4 s = true)
    (hww : ∀ y ∈ want, 1 ≤ y ∧ y ≤ 65535) (hes : ∀ run, (∀ x ∈ run, goodB x = true) → ∀ y ∈ firstsE sh (elsOf es run), 1 ≤ y ∧ y ≤ 65535) (hw : Below w1.heap.size w1 w) :
    SeqRecv (α := Int × Int) n 17 (.agg #[ve, .bool sh, .int .i64 lv, vc, vp, vw]) (fun x => #[.agg #[.int .i64 x.1, .int .i64 x.2]]) (KpS w1.heap.size) (fun xs => xs = LSp es sh want s (nPc s + 1) 0) (fun pre => pre <+: LSp es sh want s (nPc s + 1) 0) (LSp es sh want s (nPc s + 1) 0).length w := by
  intro l J Jx W hWb hJ hJx hY h0
  have hB1 : Below w1.heap.size w1 W := hw.trans (hWb.mono hw.size)
  obtain ⟨L, HL⟩ : ∃ L, Hid (LSp es sh want s (nPc s + 1) 0 = L) := ⟨_, rfl⟩
  rw [HL.out] at hY
  rw [HL.out]
  obtain ⟨pa, pcap, rfl, _⟩ := id hP
  obtain ⟨ca, cc, rfl⟩ := ints_form hC
  have hsz : s.size ≤ 200 := (of_decide_eq_true hs).1
  have hnp := nPc_le (s := s)
  have hcl := cutsL_len s
  have HC : Hid (Ints w1 BC (.slice ca (cutsL s).length cc) (cutsL s)) := hC
  rw [hcl] at HC ⊢
  have HCL : Hid ((cutsL s).length = nPc s + 1) := hcl
  have HE : Hid (Ents w1 B ve es) := hE
  have HT : Hid (Tabs3 w1) := ht
  have HP : Hid (Pcs w1 (.slice pa (nPc s) pcap) (pcS s) (nPc s)) := hP
  have HWW : Hid (Ints w1 BW vw want) := hW
  have HY : Hid _ := hY
  have HES : Hid _ := hes
  have HWR : Hid _ := hww
  have HRR : Hid _ := hr
  have HJ : Hid (AbidesFrom W.heap.size J) := hJ
  clear hC hcl hE ht hP hW hY hes hww hr hJ hJx
  refine callsIn_of_wp Tryz.func17 rfl trivial ?_ rfl
  simp only [Tryz.ntmps17, List.size_toArray, List.length_cons, List.length_nil, Nat.reduceAdd, Nat.reduceSub, Array.replicate_succ, Array.replicate_zero, List.push_toArray, List.append_toArray, List.nil_append, List.cons_append]
  gi_wp2
  gi_loopw [4] (fun v wr => SpnRel w1 W.heap.size #[ve, .bool sh, .int .i64 lv, .slice ca (nPc s + 1) cc, .slice pa (nPc s) pcap, vw] es sh want s L J v wr) (fun v _ => nPc s - (intOf v).toNat)
  case atStart => exact ⟨0, nPc s + 1, [], rfl, Nat.zero_le _, by omega, by rw [HL.out]; rfl, abides HJ.out h0 ((Below.refl _ _).alloc (Nat.le_refl _) _), hB1.alloc hB1.size _, heap_alloc_new W _⟩
  case round =>
    obtain ⟨i, f, pre, rfl, hi, hf, hL, hJp, hb, hbx⟩ := hrel
    have x1 := cell_of_row _ _ 3 _ _ _ hbx
    have x2 := cell_of_row _ _ 4 _ _ _ hbx
    have y0 := cell_of_row _ _ 0 _ _ _ hbx
    have y1 := cell_of_row _ _ 1 _ _ _ hbx
    have y2 := cell_of_row _ _ 2 _ _ _ hbx
    have y5 := cell_of_row _ _ 5 _ _ _ hbx
    have hbl : W.heap.size < wr.heap.size := (Array.getElem?_eq_some_iff.1 hbx).1
    have HBX : Hid (wr.heap[W.heap.size]? = some _) := hbx
    have HB : Hid (Below _ _ _) := hb
    have HJP : Hid (J pre wr) := hJp
    have HLL : Hid _ := hL
    clear hbx hb hJp hL
    by_cases hlt : i < nPc s
    · have hi8 : (i : Int) < (nPc s : Int) := by omega
      have SH := shortest_any (lv := lv) (vc := .slice ca (nPc s + 1) cc) (k := i) (HE.out.below HB.out) hne HRR.out (HT.out.below HB.out) (HP.out.below HB.out) (HWW.out.below HB.out) hwl (by omega) hi (fun m hm => by
        by_cases h0 : m = 0
        · subst h0; simp [catP]
        · rw [← stretch_cat (s := s) (by omega) hm]
          exact (of_decide_eq_true (stretch_ok (s := s) (i := i) (k := i + m) (by omega) hm hs).1).2) (pcS_good s) HWR.out HES.out
      rw [short_from (pcS_sta s)] at SH
      obtain ⟨R, hR⟩ : ∃ R, (if want = [] then none else matchF es sh want (pcS s) i (nPc s - i) 1) = R := ⟨_, rfl⟩
      rw [hR] at SH
      obtain ⟨f', rfl⟩ : ∃ f', f = f' + 1 := ⟨f - 1, by omega⟩
      cases R with
      | none =>
        have HLN : Hid (L = pre ++ LSp es sh want s f' (i + 1)) := by show _ = _; rw [HLL.out]; unfold LSp; rw [spansF_none hlt hR]
        unfold shV at SH
        clear hR HLL HL
        gi_wp2_with (refine ⟨trivial, ?_⟩; gi_at_call 37; refine (callsIn_wide.2 SH).mono ?_; rintro e w2 ⟨rfl, b2⟩)
        go_roundw
        case rel => exact ⟨i + 1, f', pre, by go_num, hlt, by omega, HLN.out, abides HJ.out HJP.out b2, HB.out.trans (b2.mono HB.out.size), (b2.block _ hbl).trans HBX.out⟩
        case measure => simp [intOf]; omega
      | some m =>
        have hmb : i + 1 ≤ m ∧ m ≤ nPc s := by
          by_cases hw0 : want = []
          · rw [if_pos hw0] at hR; cases hR
          · rw [if_neg hw0] at hR
            have := matchF_bd _ _ _ hR
            omega
        have HLS : Hid (L = pre ++ spn s (i, m) :: LSp es sh want s f' m) := by show _ = _; rw [HLL.out]; unfold LSp; rw [spansF_some hlt hR]; rfl
        have hlen : pre.length < L.length := by rw [HLS.out, List.length_append, List.length_cons]; omega
        unfold shV at SH
        obtain ⟨gc, rfl⟩ : ∃ gc, ca = some ⟨gc, 0, none⟩ := by
          rcases HC.out.form with ⟨h, _⟩ | ⟨g, c, h, _⟩
          · cases h
          · exact ⟨g, (Value.slice.inj h).1⟩
        clear hR HLL HL
        gi_wp2_with (refine ⟨trivial, ?_⟩; gi_at_call 37; refine (callsIn_wide.2 SH).mono ?_; rintro e w2 ⟨rfl, b2⟩)
        have hCw : Ints w2 BC (.slice (some ⟨gc, 0, none⟩) (cutsL s).length cc) (cutsL s) := by rw [HCL.out]; exact (HC.out.below HB.out).below b2
        have c0 := hCw.cell i (by rw [HCL.out]; omega)
        have c1 := hCw.cell m (by rw [HCL.out]; omega)
        rw [cutsL_some (by omega)] at c0 c1
        simp only [Option.getD_some] at c0 c1
        have hgl : gc < w2.heap.size := (World.ownsRow.lt hCw gc rfl).2
        have hbx2 : w2.heap[W.heap.size]? = _ := (b2.block _ hbl).trans HBX.out
        have z3 := cell_of_row _ _ 3 _ _ _ hbx2
        have hbl2 : W.heap.size < w2.heap.size := Nat.lt_of_lt_of_le hbl b2.size
        have YA := fun (u : World) (hu : Below w2.heap.size w2 u) => HY.out pre (spn s (i, m)) u (abides HJ.out (abides HJ.out HJP.out b2) hu) hlen
        unfold spn at YA
        simp only at YA
        have him : (i : Int) < (nPc s : Int) + 1 := by omega
        have hmm : (m : Int) < (nPc s : Int) + 1 := by omega
        have HB2 : Hid (Below w1.heap.size w1 w2) := HB.out.trans (b2.mono HB.out.size)
        clear hCw SH x1 x2 y0 y1 y2 y5 hbx2
        obtain ⟨fn, tmps, assign, body, hy, hRd⟩ := YA w2.drew ((Below.refl _ _).drew)
        have hRd2 := hRd.mono fun e W' h => yield_bool h
        clear hRd
        gi_region_with (refine hRd2.mono ?_; rintro e W3 ⟨bq, rfl, h3⟩)
        all_goals
          cases bq
          · obtain ⟨hq, _⟩ | ⟨_, hJx3⟩ := h3
            · cases hq
            have HPX : Hid (pre ++ [((cutAt s i : Int), (cutAt s m : Int))] <+: L) := ⟨LSp es sh want s f' m, by rw [HLS.out]; simp [spn]⟩
            clear HLS
            gi_wp2
            refine bodyPost_ret (results_none rfl _ _ _) rfl ?_
            exact ⟨⟨_, rfl⟩, .inr ⟨_, HPX.out, hJx3⟩⟩
          · obtain ⟨hJ3, hk3⟩ := yield_yes h3
            have HLM : Hid (L = (pre ++ [((cutAt s i : Int), (cutAt s m : Int))]) ++ LSp es sh want s f' m) := by show _ = _; rw [HLS.out]; simp [spn]
            have HBX3 : Hid (W3.heap[W.heap.size]? = some (.cells #[ve, .bool sh, .int .i64 lv, .slice (some ⟨gc, 0, none⟩) (nPc s + 1) cc, .slice pa (nPc s) pcap, vw] 54)) := by
              have h2 : w2.drew.heap[W.heap.size]? = some (.cells #[ve, .bool sh, .int .i64 lv, .slice (some ⟨gc, 0, none⟩) (nPc s + 1) cc, .slice pa (nPc s) pcap, vw] 54) := (b2.block _ hbl).trans HBX.out
              exact (hk3.2 _ _ _ h2).trans h2
            have HB3 : Hid (Below w1.heap.size w1 W3) := HB2.out.drew.trans hk3.1
            clear HLS
            gi_wp2
            go_roundw
            case rel => exact ⟨m, f', _, rfl, hmb.2, by omega, HLM.out, hJ3, HB3.out, HBX3.out⟩
            case measure => simp [intOf]; omega
    · have hiz : i = nPc s := by omega
      have HLE : Hid (L = pre) := by show _ = _; rw [HLL.out]; unfold LSp; rw [spansF_end (by omega)]; simp
      clear HLL HL
      gi_wp2
      go_end0
      exact ⟨⟨_, rfl⟩, .inl ⟨pre, HLE.out.symm, HJP.out⟩⟩
end Go.Proofs.YtinjldagfhbioaaGreatDoor
