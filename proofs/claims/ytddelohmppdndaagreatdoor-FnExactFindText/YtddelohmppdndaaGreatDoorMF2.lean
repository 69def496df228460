/- Texts of mine laid together: ITakeS, PKey2, IShift, RowKinds, IFourth, ICount, Grown1, Dec. -/
import Derived.Test.YtddelohmppdndaaGreatDoorMF1
import Derived.Test.YtddelohmppdndaaGreatDoorSRule2
import Derived.Test.YtddelohmppdndaaGreatDoorResC
import Derived.Deep.RegionHeld3
import Derived.Test.YtddelohmppdndaaGreatDoorInts
import Derived.Deep.Cut
import Derived.Deep.CutRange
import GoSem.Core.Utf8
namespace Go.Proofs.YtddelohmppdndaaGreatDoor
open Go.RowKit

/-- A list of ints in the block g, with its room behind it. -/
def MidS (w : World) (g : Nat) (v : Value) (l : List Int) : Prop :=
  ∃ f c cs, v = .slice (some ⟨g, f, none⟩) l.length c ∧ l.length ≤ c ∧ c ≤ maxLen ∧ f + c ≤ cs.size ∧ w.heap[g]? = some (.cells cs 3) ∧ ∀ j x, l[j]? = some x → w.cell? ⟨g, f + j, none⟩ = some (.int .i64 x)

theorem MidS.midG {w : World} {g : Nat} {v : Value} {l : List Int} (h : MidS w g v l) : MidG w g v l := by
  obtain ⟨f, c, cs, h1, h2, h3, _, h4, h5⟩ := h
  exact .inr ⟨f, c, cs, h1, h2, h3, h4, h5⟩

theorem MidS.len {w : World} {g : Nat} {v : Value} {l : List Int} (h : MidS w g v l) : sliceLen v = l.length := h.midG.len

theorem MidS.below {w w' : World} {g : Nat} {v : Value} {l : List Int} (h : MidS w g v l) (hb : Below w.heap.size w w') : MidS w' g v l := by
  obtain ⟨f, c, cs, h1, h2, h3, h6, h4, h5⟩ := h
  have hg := (Array.getElem?_eq_some_iff.1 h4).1
  exact ⟨f, c, cs, h1, h2, h3, h6, (hb.block g hg).trans h4, fun j x hx => (hb.cell hg).trans (h5 j x hx)⟩

theorem MidS.kept {w w' : World} {g : Nat} {v : Value} {l : List Int} {row : Option Nat} (h : MidS w g v l) (hg : w.grownBy w' row) (hne : some g ≠ row) : MidS w' g v l := by
  obtain ⟨f, c, cs, h1, h2, h3, h6, h4, h5⟩ := h
  have hlt := (Array.getElem?_eq_some_iff.1 h4).1
  exact ⟨f, c, cs, h1, h2, h3, h6, (hg.block g hlt hne).trans h4, fun j x hx => (World.cell?_of_block (hg.block g hlt hne)).trans (h5 j x hx)⟩

theorem setCells_blockS {T : TypeId} (g : Nat) : ∀ (vs : List Value) (f : Nat) (w : World) (cs : Array Value), w.heap[g]? = some (.cells cs T) → ∃ cs', (w.setCells g f vs).heap[g]? = some (.cells cs' T) ∧ cs'.size = cs.size
  | [], _, _, cs, h => ⟨cs, h, rfl⟩
  | v :: vs, f, w, cs, h => by
    rw [World.setCells]
    obtain ⟨cs', h1, h2⟩ := setCells_blockS g vs (f + 1) _ _ (heap_setCell_same w g f cs T v h)
    exact ⟨cs', h1, by rw [h2]; simp⟩

theorem midS_del {w : World} {g f c q k : Nat} {cs : Array Value} {l : List Int} (hk : k < l.length) (h2 : l.length ≤ c) (h3 : c ≤ maxLen) (h6 : f + c ≤ cs.size) (h4 : w.heap[g]? = some (.cells cs 3)) (h5 : ∀ j x, l[j]? = some x → w.cell? ⟨g, f + j, none⟩ = some (.int .i64 x)) :
    MidS ((w.drewN q).setCells g f ((l.eraseIdx k ++ [0]).map (Value.int .i64))) g (.slice (some ⟨g, f, none⟩) (l.eraseIdx k).length c) (l.eraseIdx k) := by
  have h4' : (w.drewN q).heap[g]? = some (.cells cs 3) := h4
  obtain ⟨cs', hcs, hss⟩ := setCells_blockS g ((l.eraseIdx k ++ [0]).map (Value.int .i64)) f (w.drewN q) cs h4'
  have hlen := List.length_eraseIdx_of_lt hk
  refine ⟨f, c, cs', rfl, by omega, h3, by omega, hcs, fun j x hx => ?_⟩
  have hth : (w.drewN q).there g f ((l.eraseIdx k ++ [0]).map (Value.int .i64)).length := fun j hj => by
    have hj2 : j < l.length := by simp [hlen] at hj; omega
    refine ⟨?_, by simp [World.frozen?, h4]⟩
    have := h5 j l[j] (List.getElem?_eq_getElem hj2)
    show (w.cell? ⟨g, f + j, none⟩).isSome = true
    rw [this]; rfl
  have hj : j < (l.eraseIdx k).length := (List.getElem?_eq_some_iff.1 hx).1
  refine World.rangeAt_setCells_same _ g f _ hth j (.int .i64 x) ?_
  rw [List.getElem?_map, List.getElem?_append_left hj, hx]
  rfl

def TkRelS (w w0 : World) (es : List Ent) (g N : Nat) (goal : List Int × List Int) (v7 v8 : Value) (wr : World) : Prop :=
  ∃ run rest, 1 ≤ run.length ∧ run.length + rest.length = N ∧ Ints wr w.heap.size v7 run ∧ MidS wr g v8 rest ∧ grab es run rest = goal ∧ Below w0.heap.size w0 wr ∧ w.grownBy wr (some g)

theorem midS_drop {w : World} {g f c n : Nat} {cs : Array Value} {l : List Int} (hn : n ≤ l.length) (h2 : l.length ≤ c) (h3 : c ≤ maxLen) (h6 : f + c ≤ cs.size) (h4 : w.heap[g]? = some (.cells cs 3)) (h5 : ∀ j x, l[j]? = some x → w.cell? ⟨g, f + j, none⟩ = some (.int .i64 x)) :
    MidS w g (.slice (some ⟨g, f + n, none⟩) (l.length - n) (c - n)) (l.drop n) := by
  refine ⟨f + n, c - n, cs, by rw [List.length_drop], by rw [List.length_drop]; omega, by omega, by omega, h4, fun j x hx => ?_⟩
  rw [List.getElem?_drop] at hx
  rw [Nat.add_assoc]
  exact h5 (n + j) x hx

set_option maxRecDepth 100000 in
set_option maxHeartbeats 8000000 in
theorem takeRun_rowS (w w0 : World) (B g f c : Nat) (cs : Array Value) (ve : Value) (es : List Ent) (l : List Int) (hb0 : Below w0.heap.size w0 w) (hE : Ents w0 B ve es) (hn : es.length ≤ 1048576) (hr : ∀ e ∈ es, e.runes.length ≤ 1048576) (ht : Tabs3 w0)
    (hg0 : w0.heap.size ≤ g) (h1 : 1 ≤ l.length) (hl : l.length ≤ 3000) (h2 : l.length ≤ c) (h3 : c ≤ maxLen) (hfc : f + c ≤ cs.size) (h4 : w.heap[g]? = some (.cells cs 3)) (h5 : ∀ j x, l[j]? = some x → w.cell? ⟨g, f + j, none⟩ = some (.int .i64 x)) :
    Calls Tryz.prog 81 #[ve, .slice (some ⟨g, f, none⟩) l.length c] w fun e w' => ∃ vr vq, e = .returned (.tuple #[vr, vq]) ∧ Ints w' w.heap.size vr (take4 es l).1 ∧ MidS w' g vq (take4 es l).2 ∧ Below w0.heap.size w0 w' ∧ w.grownBy w' (some g) := by
  obtain ⟨i0, hi, hzz, hz1, hz2⟩ := info_parts info_int
  have hg : g < w.heap.size := (Array.getElem?_eq_some_iff.1 h4).1
  have RF := runAt_any w B g f c ve es l (hE.below hb0) hn hr hg h1 hl h2 h5
  obtain ⟨bd1, bd2, bd3⟩ := runN_bd (es := es) h1
  obtain ⟨goal, HG⟩ : ∃ goal, Hid (take4 es l = goal) := ⟨_, rfl⟩
  have HGR : Hid (grab es (l.take (runN es l)) (l.drop (runN es l)) = goal) := HG.out
  rw [HG.out]
  clear HG
  generalize runN es l = n at *
  obtain ⟨va, vn, vc, hve⟩ : ∃ a n c, ve = .slice a n c := by
    rcases hE.form with ⟨rfl, _⟩ | ⟨_, _, rfl, _, _, _, _⟩
    · exact ⟨_, _, _, rfl⟩
    · exact ⟨_, _, _, rfl⟩
  subst hve
  have HE : Hid (Ents _ _ _ _) := hE
  have HT : Hid (Tabs3 _) := ht
  have HB0 : Hid (Below _ _ _) := hb0
  have H5 : Hid (∀ j x, l[j]? = some x → w.cell? ⟨g, f + j, none⟩ = some (.int .i64 x)) := h5
  have H4 : Hid (w.heap[g]? = some (.cells cs 3)) := h4
  have hnc : n ≤ c := by omega
  clear hE ht hb0 h5 h4
  go_enter Tryz.func81, Tryz.ntmps81
  go_wp2_with fail
  refine RF.mono ?_
  rintro e w1 ⟨rfl, b1⟩
  clear RF
  have CLN := fun (u : World) (hu : Below w1.heap.size w1 u) => clone_at u g f c (l.take n) (by rw [List.length_take]; omega) (fun j x hx => by
    have hjn : j < n := by
      have := (List.getElem?_eq_some_iff.1 hx).1
      rw [List.length_take] at this
      omega
    rw [List.getElem?_take_of_lt hjn] at hx
    rw [hu.cell (Nat.lt_of_lt_of_le hg b1.size), b1.cell hg]
    exact H5.out j x hx)
  rw [show (l.take n).length = n by rw [List.length_take]; omega] at CLN
  go_upto_region 2 with fail
  go_cut [7, 8] from 14 to 20 (fun v7 v8 wx => Ints wx w1.heap.size v7 (l.take n) ∧ v8 = .slice (if c = n then some ⟨g, f, none⟩ else some ⟨g, f + n, none⟩) (l.length - n) (c - n) ∧ Below w1.heap.size w1 wx)
  case first =>
    by_cases hcn : c = n
    · subst hcn
      go_region_with (go_at_call 84; refine (CLN _ (by repeat (first | exact Below.refl _ _ | refine Below.drew ?_))).mono ?_; rintro e u6 ⟨v6, rfl, i6, b6⟩)
      all_goals
        have hK : Ints u6 w1.heap.size v6 (l.take c) ∧ Below w1.heap.size w1 u6 := ⟨i6, by first | exact b6 | exact ((Below.refl _ _).drew).trans b6⟩
        clear i6 b6 CLN
        go_wp2_with fail
        go_meet
        case rel => exact ⟨hK.1, by simp; omega, hK.2⟩
    · have hcn2 : (c == n) = false := by simpa using hcn
      go_region_with (go_at_call 84; refine (CLN _ (by repeat (first | exact Below.refl _ _ | refine Below.drew ?_))).mono ?_; rintro e u6 ⟨v6, rfl, i6, b6⟩)
      all_goals
        have hK : Ints u6 w1.heap.size v6 (l.take n) ∧ Below w1.heap.size w1 u6 := ⟨i6, by first | exact b6 | exact ((Below.refl _ _).drew).trans b6⟩
        clear i6 b6 CLN
        go_wp2_with fail
        go_meet
        case rel => exact ⟨hK.1, by rw [if_neg hcn], hK.2⟩
  case rest =>
    obtain ⟨i7, rfl, bc⟩ := hcut
    clear CLN
    have b1' : Below w0.heap.size w0 w1 := HB0.out.trans (b1.mono HB0.out.size)
    have bw : Below w.heap.size w wc := b1.trans (bc.mono b1.size)
    have b0c : Below w0.heap.size w0 wc := b1'.trans (bc.mono b1'.size)
    have H4c : wc.heap[g]? = some (.cells cs 3) := (bw.block g hg).trans H4.out
    have H5c : ∀ j x, l[j]? = some x → wc.cell? ⟨g, f + j, none⟩ = some (.int .i64 x) := fun j x hx => (bw.cell hg).trans (H5.out j x hx)
    have hM : MidS wc g (.slice (if c = n then some ⟨g, f, none⟩ else some ⟨g, f + n, none⟩) (l.length - n) (c - n)) (l.drop n) := by
      by_cases hcn : c = n
      · have hd : l.drop n = [] := List.drop_eq_nil_of_le (by omega)
        rw [if_pos hcn, hd, show l.length - n = 0 by omega]
        exact ⟨f, c - n, cs, rfl, Nat.zero_le _, by omega, by omega, H4c, fun j x hx => by simp at hx⟩
      · rw [if_neg hcn]
        exact midS_drop bd2 h2 h3 hfc H4c H5c
    have hst : TkRelS w w0 es g l.length goal u7 (.slice (if c = n then some ⟨g, f, none⟩ else some ⟨g, f + n, none⟩) (l.length - n) (c - n)) wc :=
      ⟨l.take n, l.drop n, by rw [List.length_take]; omega, by rw [List.length_take, List.length_drop]; omega, ints_low2 i7 b1.size, hM, HGR.out, b0c, ⟨bw.os, bw.tape, bw.output, bw.size, fun k hk _ => bw.block k hk⟩⟩
    have HST : Hid (TkRelS _ _ _ _ _ _ _ _ _) := hst
    clear hst hM H4c H5c b0c bw b1' i7 bc b1 HGR H4 H5 HB0
    generalize (Value.slice (if c = n then some ⟨g, f, none⟩ else some ⟨g, f + n, none⟩) (l.length - n) (c - n)) = v8 at *
    go_wp2_with fail
    go_loopw [7, 8] (fun v7 v8 wr => TkRelS w w0 es g l.length goal v7 v8 wr) (fun _ v8 _ => sliceLen v8)
    case atStart => exact HST.out
    case round =>
      clear HST
      obtain ⟨run, rest, hr1, hrl, j7, j8, hgr, jb, jg⟩ := hrel
      have MI := markInto_any HE.out hn hr HT.out jb j7 j8.midG hr1 (by omega)
      have hl8 := j8.len
      have HGR : Hid (grab es run rest = goal) := hgr
      have HJB : Hid (Below _ _ _) := jb
      have HJG : Hid (World.grownBy _ _ _) := jg
      have H7 : Hid (Ints _ _ _ _) := j7
      have H8 : Hid (MidS _ _ _ _) := j8
      clear hgr jb jg j7 j8
      rcases mark_cases es run rest with hmk | ⟨k, hkl, hmk⟩
      · rw [hmk] at MI
        have HF : Hid (goal = (run, rest)) := by show _ = _; rw [← HGR.out]; exact grab_stop hmk
        clear HGR hmk
        unfold ansV at MI
        simp only [show (-1 : Int) < 0 from by decide, if_true, show decide ((0 : Int) ≤ -1) = false from rfl] at MI
        go_wp2_with fail
        refine MI.mono ?_
        rintro e w2 ⟨rfl, b2⟩
        clear MI
        go_wp2
        go_ret2
        rw [HF.out]
        exact ⟨_, _, rfl, H7.out.below b2, H8.out.below b2, HJB.out.trans (b2.mono HJB.out.size), HJG.out.trans ⟨b2.os, b2.tape, b2.output, b2.size, fun k hk _ => b2.block k hk⟩⟩
      · obtain ⟨x, hx⟩ : ∃ x, rest[k]? = some x := ⟨_, List.getElem?_eq_getElem hkl⟩
        have HF : Hid (grab es (run ++ [x]) (rest.eraseIdx k) = goal) := by
          show _ = _
          rw [← HGR.out, grab_go hkl hmk]
          unfold at0
          rw [hx]
          rfl
        rw [hmk] at MI
        clear HGR hmk
        unfold ansV at MI
        simp only [show ¬ ((k : Int) < 0) from by omega, if_false, show decide ((0 : Int) ≤ (k : Int)) = true from decide_eq_true (by omega)] at MI
        obtain ⟨f8, c8, cs8, h81, h82, h83, hfc8, h84, h85⟩ := H8.out
        subst h81
        have hgr : g < wr.heap.size := (Array.getElem?_eq_some_iff.1 h84).1
        have hk8 : (k : Int) < (rest.length : Int) := by omega
        go_wp2_with fail
        refine MI.mono ?_
        rintro e w2 ⟨rfl, b2⟩
        clear MI
        have hcx : w2.cell? ⟨g, f8 + k, none⟩ = some (.int .i64 x) := (b2.cell hgr).trans (h85 k x hx)
        have H82 : Hid (w2.heap[g]? = some (.cells cs8 3)) := (b2.block g hgr).trans h84
        have H85 : Hid (∀ j x, rest[j]? = some x → w2.cell? ⟨g, f8 + j, none⟩ = some (.int .i64 x)) := fun j x hx => (b2.cell hgr).trans (h85 j x hx)
        have i72 : Ints w2 w.heap.size u7 run := H7.out.below b2
        have b02 : Below w0.heap.size w0 w2 := HJB.out.trans (b2.mono HJB.out.size)
        have g02 : w.grownBy w2 (some g) := HJG.out.trans ⟨b2.os, b2.tape, b2.output, b2.size, fun k hk _ => b2.block k hk⟩
        have hsz2 : w.heap.size ≤ w2.heap.size := g02.size
        have HB02 : Hid (Below _ _ _) := b02
        have HG02 : Hid (World.grownBy _ _ _) := g02
        have hgw2 : g < w2.heap.size := Nat.lt_of_lt_of_le hgr b2.size
        clear h84 h85 H7 H8 HJB HJG b2 b02 g02 hgr hx
        unfold Ints at i72
        go_wp2_with (at_builtin; refine wpList_append_own _ rfl _ _ 39 rfl w.heap.size 3 i0 (.int .i64 0) 1 8 Tryz.underlying39 hi hzz hz1 hz2 rfl (by decide) _ _ _ rfl (i72.alloc _) ⟨w2.heap.size, 0, none⟩ 1 1 [.int .i64 x] rfl rfl (cells1_new _ _ _ _ (by simp)) (fun u hu => by simp at hu; subst hu; rfl) (by unfold maxLen; omega) (by omega) (by simp; omega) ?_)
        intro v7' w4 ho4 hg4 _
        have i74 : Ints w4 w.heap.size v7' (run ++ [x]) := Ints.snoc ho4
        have hne : some g ≠ u7.ownBlock := fun e => by have := (World.ownsRow.lt i72 g e.symm).1; omega
        have h44 : w4.heap[g]? = some (.cells cs8 3) := (hg4.block g (by simp; omega) hne).trans ((Below.heap_alloc _ _ _ hgw2).trans H82.out)
        have h45 : ∀ j x, rest[j]? = some x → w4.cell? ⟨g, f8 + j, none⟩ = some (.int .i64 x) := fun j y hy => by
          rw [World.cell?_of_block ((hg4.block g (by simp; omega) hne).trans (Below.heap_alloc _ _ _ hgw2))]
          exact H85.out j y hy
        have b04 : Below w0.heap.size w0 w4 := Below.grown (HB02.out.alloc HB02.out.size _) hg4 (HB02.out.alloc HB02.out.size _).size (fun j hj => Nat.le_trans (Nat.le_trans hg0 (Nat.le_of_lt hg)) (World.ownsRow.lt i72 j hj).1)
        have g04 : w.grownBy w4 (some g) := by
          refine ⟨hg4.os.trans HG02.out.os, hg4.tape.trans HG02.out.tape, hg4.output.trans HG02.out.output, Nat.le_trans hsz2 (Nat.le_trans (by simp) hg4.size), fun k hk hkn => ?_⟩
          have hk2 : k < w2.heap.size := Nat.lt_of_lt_of_le hk hsz2
          rw [hg4.block k (by simp; omega) (fun e => by have := (World.ownsRow.lt i72 k e.symm).1; omega), Below.heap_alloc _ _ _ hk2]
          exact HG02.out.block k hk hkn
        have DEL := delete_at w4 g f8 c8 k rest hkl h82 h83 h45 (fun j => by simp [World.frozen?, h44])
        have HMD := fun q => midS_del (q := q) hkl h82 h83 hfc8 h44 h45
        have HMD' : Hid (∀ q, MidS ((w4.drewN q).setCells g f8 ((rest.eraseIdx k ++ [0]).map (Value.int .i64))) g (.slice (some ⟨g, f8, none⟩) (rest.eraseIdx k).length c8) (rest.eraseIdx k)) := HMD
        have hlen := List.length_eraseIdx_of_lt hkl
        have H74 : Hid (Ints _ _ _ _) := i74
        have HB04 : Hid (Below _ _ _) := b04
        have HG04 : Hid (World.grownBy _ _ _) := g04
        clear ho4 hg4 h44 h45 HMD i74 b04 g04 i72 HB02 HG02 H82 H85 hcx
        go_wp2_with fail
        refine DEL.mono ?_
        rintro e w5 ⟨rfl, q, rfl⟩
        clear DEL
        go_wp2
        refine ⟨⟨run ++ [x], rest.eraseIdx k, by simp, by rw [List.length_append]; simp; omega, ?_, (by have hq := HMD'.out q; rw [List.map_append, hlen] at hq; exact hq), HF.out, ?_, HG04.out.trans (setCells_grown w4 q g f8 _)⟩, ?_⟩
        · refine World.ownsRow.kept H74.out (setCells_grown w4 q g f8 _) ?_
          cases hv : v7'.ownBlock with
          | none => exact .inl rfl
          | some j => exact .inr fun c => by have := (World.ownsRow.lt H74.out j hv).1; have := Option.some.inj c; omega
        · exact Below.grown HB04.out (setCells_grown w4 q g f8 _) HB04.out.size (fun j hj => by cases hj; exact hg0)
        · show sliceLen _ < sliceLen _
          simp [sliceLen]
          omega
end Go.Proofs.YtddelohmppdndaaGreatDoor

namespace Go.Proofs.YtddelohmppdndaaGreatDoor

/-- The weights of an elem lie in two bytes. -/
def rngE (e : El) : Prop := (0 ≤ e.first ∧ e.first ≤ 65535) ∧ (0 ≤ e.second ∧ e.second ≤ 65535) ∧ (0 ≤ e.third ∧ e.third ≤ 65535)

theorem place_lt {l : List Int} {r : Int} {i : Nat} (h : placeIn l r = some i) : i < l.length := by
  unfold placeIn at h
  obtain ⟨hi, _⟩ := List.findIdx?_eq_some_iff_getElem.1 h
  exact hi

theorem base_rng {r : Int} (h0 : 0 ≤ r) (h1 : r ≤ 1114111) : ∀ e ∈ base r, rngE e := by
  intro e he
  unfold base at he
  split at he
  · rename_i i hi
    have := place_lt hi
    simp [vsl] at this
    simp only [List.mem_singleton] at he
    subst he
    unfold rngE
    simp only
    omega
  · split at he
    · rename_i i hi
      have := place_lt hi
      simp [mkl] at this
      simp only [List.mem_singleton] at he
      subst he
      unfold rngE
      simp only
      omega
    · unfold baseRest at he
      unfold rngE
      split at he
      · cases he
      · split at he
        · simp only [List.mem_singleton] at he
          subst he
          simp only
          omega
        · split at he
          · simp only [List.mem_singleton] at he
            subst he
            simp only
            omega
          · split at he
            · simp only [List.mem_singleton] at he
              subst he
              simp only
              omega
            · simp only [List.mem_cons, List.not_mem_nil, or_false] at he
              rcases he with rfl | rfl <;> simp only <;> omega

theorem ents_rng {es : List Ent} {lv : Int} (h : rulesOk es lv = true) : ∀ e ∈ es, rngE e.el := by
  intro e he
  obtain ⟨i, hi⟩ := List.getElem?_of_mem he
  have h1 := (entsOk_iff es).1 (of_decide_eq_true h).2.2 i e hi
  unfold entOk at h1
  simp only [Bool.and_eq_true, decide_eq_true_eq] at h1
  unfold rngE
  omega

theorem elems4_rng {es : List Ent} {lv : Int} (h : rulesOk es lv = true) {l : List Int} (hl : ∀ x ∈ l, 0 ≤ x ∧ x ≤ 1114111) : ∀ e ∈ elems4 es l, rngE e :=
  elems4_all (ents_rng h) l fun x hx => base_rng (hl x hx).1 (hl x hx).2

theorem four1_rng {sh b : Bool} {e : El} (h : rngE e) : (0 ≤ (four1 sh b e).1 ∧ (four1 sh b e).1 ≤ 65535) ∧ rngE (four1 sh b e).2.1 := by
  have hz : rngE elZ := by unfold rngE elZ; simp
  unfold four1
  split
  · exact ⟨by simp, h⟩
  · split
    · exact ⟨h.1, hz⟩
    · split
      · exact ⟨by simp, hz⟩
      · refine ⟨?_, h⟩
        simp only
        split <;> omega

theorem fourS_rng {sh : Bool} {es : List El} (h : ∀ e ∈ es, rngE e) (k : Nat) : (∀ f ∈ (fourS sh es k).1, 0 ≤ f ∧ f ≤ 65535) ∧ ∀ e ∈ (fourS sh es k).2.1, rngE e := by
  induction k with
  | zero => exact ⟨fun f hf => by simp [fourS] at hf, fun f hf => by simp [fourS] at hf⟩
  | succ k ih =>
    unfold fourS
    split
    · exact ih
    · rename_i e he
      have := four1_rng (sh := sh) (b := (fourS sh es k).2.2) (h e (List.mem_of_getElem? he))
      refine ⟨fun f hf => ?_, fun x hx => ?_⟩
      · rcases List.mem_append.1 hf with h1 | h1
        · exact ih.1 f h1
        · simp only [List.mem_singleton] at h1
          subst h1
          exact this.1
      · rcases List.mem_append.1 hx with h1 | h1
        · exact ih.2 x h1
        · simp only [List.mem_singleton] at h1
          subst h1
          exact this.2

theorem fourS_full {sh : Bool} {es : List El} {k : Nat} (hk : k ≤ es.length) : (fourS sh es k).1.length = k ∧ (fourS sh es k).2.1.length = k := by
  induction k with
  | zero => exact ⟨rfl, rfl⟩
  | succ k ih =>
    have hkl : k < es.length := by omega
    have := ih (by omega)
    unfold fourS
    rw [List.getElem?_eq_getElem hkl]
    simp
    exact this

theorem fourths_len (sh : Bool) (es : List El) : (fourths sh es).length = es.length := (fourS_full (Nat.le_refl _)).1
theorem counted_len (sh : Bool) (es : List El) : (counted sh es).length = es.length := (fourS_full (Nat.le_refl _)).2

/-- The weight of a level. -/
def wtL (lv : Nat) (e : El) (f : Int) : Int := if lv = 1 then e.first else if lv = 2 then e.second else if lv = 3 then e.third else f
def elAt (xs : List El) (k : Nat) : El := (xs[k]?).getD elZ
def ifNot (n : Int) : List Int := if n = 0 then [] else [n]

theorem ifNot_zero {n : Int} (h : n = 0) : ifNot n = [] := by unfold ifNot; rw [if_pos h]
theorem ifNot_some {n : Int} (h : n ≠ 0) : ifNot n = [n] := by unfold ifNot; rw [if_neg h]

/-- The weights of a level that are not 0, of the first k elems. -/
def wtsK (lv : Nat) (xs : List El) (fs : List Int) : Nat → List Int
  | 0 => []
  | k + 1 => wtsK lv xs fs k ++ ifNot (wtL lv (elAt xs k) (at0 fs k))
def wts (lv : Nat) (xs : List El) (fs : List Int) : List Int := wtsK lv xs fs xs.length

theorem wtL_rng {lv : Nat} {e : El} {f : Int} (he : rngE e) (hf : 0 ≤ f ∧ f ≤ 65535) : 0 ≤ wtL lv e f ∧ wtL lv e f ≤ 65535 := by
  unfold rngE at he
  unfold wtL
  split
  · exact he.1
  · split
    · exact he.2.1
    · split
      · exact he.2.2
      · exact hf

theorem elAt_rng {xs : List El} (h : ∀ e ∈ xs, rngE e) (k : Nat) : rngE (elAt xs k) := by
  unfold elAt
  cases hx : xs[k]? with
  | none => unfold rngE elZ; simp
  | some e => exact h e (List.mem_of_getElem? hx)

theorem at0_rng {fs : List Int} (h : ∀ f ∈ fs, 0 ≤ f ∧ f ≤ 65535) (k : Nat) : 0 ≤ at0 fs k ∧ at0 fs k ≤ 65535 := by
  unfold at0
  cases hx : fs[k]? with
  | none => simp
  | some e => exact h e (List.mem_of_getElem? hx)

theorem wtsK_rng {lv : Nat} {xs : List El} {fs : List Int} (hx : ∀ e ∈ xs, rngE e) (hf : ∀ f ∈ fs, 0 ≤ f ∧ f ≤ 65535) (k : Nat) : ∀ n ∈ wtsK lv xs fs k, 1 ≤ n ∧ n ≤ 65535 := by
  induction k with
  | zero => intro n hn; cases hn
  | succ k ih =>
    intro n hn
    rcases List.mem_append.1 hn with h | h
    · exact ih n h
    · unfold ifNot at h
      split at h
      · cases h
      · rename_i h0
        simp only [List.mem_singleton] at h
        subst h
        have := wtL_rng (lv := lv) (elAt_rng hx k) (at0_rng hf k)
        omega

theorem wtsK_len (lv : Nat) (xs : List El) (fs : List Int) (k : Nat) : (wtsK lv xs fs k).length ≤ k := by
  induction k with
  | zero => exact Nat.le_refl _
  | succ k ih =>
    rw [wtsK, List.length_append]
    unfold ifNot
    split <;> simp <;> omega

/-- Weights as bytes, the higher one first. -/
def by2 (n : Int) : List Int := [n / 256, n % 256]
def bysOf (ws : List Int) : List Int := ws.flatMap by2

theorem bysOf_nil : bysOf [] = [] := rfl
theorem bysOf_app (a b : List Int) : bysOf (a ++ b) = bysOf a ++ bysOf b := by unfold bysOf; rw [List.flatMap_append]
theorem bysOf_one (n : Int) : bysOf [n] = [n / 256, n % 256] := by simp [bysOf, by2]
theorem bysOf_len (ws : List Int) : (bysOf ws).length = 2 * ws.length := by
  induction ws with
  | nil => rfl
  | cons x xs ih =>
    unfold bysOf at ih ⊢
    rw [List.flatMap_cons, List.length_append, ih]
    simp [by2]
    omega

def sepB (lv : Nat) : List Int := if 1 < lv then [0, 0] else []
/-- The bytes of the levels 1 to n. -/
def keyN (xs : List El) (fs : List Int) : Nat → List Int
  | 0 => []
  | n + 1 => keyN xs fs n ++ (sepB (n + 1) ++ bysOf (wts (n + 1) xs fs))

theorem keyN_len (xs : List El) (fs : List Int) (n : Nat) : (keyN xs fs n).length ≤ n * (2 + 2 * xs.length) := by
  induction n with
  | zero => simp [keyN]
  | succ n ih =>
    have h1 := wtsK_len (n + 1) xs fs xs.length
    have h2 : (sepB (n + 1)).length ≤ 2 := by unfold sepB; split <;> simp
    have h3 : (n + 1) * (2 + 2 * xs.length) = n * (2 + 2 * xs.length) + (2 + 2 * xs.length) := Nat.succ_mul _ _
    rw [keyN, List.length_append, List.length_append, bysOf_len, h3]
    unfold wts
    omega

/-- Bytes as a text. -/
def bytesOf (bs : List Int) : ByteArray := ⟨(bs.map fun x => x.toNat.toUInt8).toArray⟩

/-- The key of runes, and their first weights. -/
def keyB (es : List Ent) (sh : Bool) (lv : Int) (l : List Int) : List Int := keyN (counted sh (elems4 es l)) (fourths sh (elems4 es l)) lv.toNat
def firstsB (es : List Ent) (sh : Bool) (l : List Int) : List Int := wts 1 (counted sh (elems4 es l)) (fourths sh (elems4 es l))

theorem firstsB_rng {es : List Ent} {sh : Bool} {lv : Int} (h : rulesOk es lv = true) {l : List Int} (hl : ∀ x ∈ l, 0 ≤ x ∧ x ≤ 1114111) : ∀ n ∈ firstsB es sh l, 1 ≤ n ∧ n ≤ 65535 :=
  wtsK_rng (fourS_rng (elems4_rng h hl) _).2 (fourS_rng (elems4_rng h hl) _).1 _

theorem firstsB_len (es : List Ent) (sh : Bool) (l : List Int) : (firstsB es sh l).length ≤ 2 * l.length := by
  have h1 := wtsK_len 1 (counted sh (elems4 es l)) (fourths sh (elems4 es l)) (counted sh (elems4 es l)).length
  have h2 := counted_len sh (elems4 es l)
  have h3 := elems4_len es l
  unfold firstsB wts
  omega
end Go.Proofs.YtddelohmppdndaaGreatDoor

namespace Go.Proofs.YtddelohmppdndaaGreatDoor
open Go.RowKit

/-- The fourth weight of an elem and how it counts; b: whether it varies or stands behind one that does. -/
def shE (e : El) (b : Bool) : Int × El := if e.varies = true then (e.first, elZ) else if b = true ∨ (e.first = 0 ∧ e.second = 0 ∧ e.third = 0) then (0, elZ) else (65535, e)

def behB (b : Bool) (e : El) : Bool := e.varies || (b && e.first == 0)

theorem four1_shift (b : Bool) (e : El) : four1 true b e = ((shE e (behB b e)).1, (shE e (behB b e)).2, behB b e) := by
  obtain ⟨x, y, z, v⟩ := e
  unfold four1 shE behB elZ
  cases v <;> cases b <;> by_cases hx : x = 0 <;> by_cases hy : y = 0 <;> by_cases hz : z = 0 <;> simp [hx, hy, hz]

theorem below_two (w : World) (o o' : Obj) : Below w.heap.size w ((w.alloc o).alloc o') := ((Below.refl w.heap.size w).alloc (Nat.le_refl _) o).alloc (by simp) o'

theorem ret_sh {p : Int × El} {n : Int} {a b c : Int} {d : Bool} (h : p = (n, ⟨a, b, c, d⟩)) : Ending.returned (.tuple #[.int .i64 n, .agg #[.int .i64 a, .int .i64 b, .int .i64 c, .bool d]]) = .returned (.tuple #[.int .i64 p.1, .agg #[.int .i64 p.2.first, .int .i64 p.2.second, .int .i64 p.2.third, .bool p.2.varies]]) := by rw [h]

set_option maxRecDepth 100000 in
set_option maxHeartbeats 4000000 in
theorem shift_any (e : El) (b : Bool) (w : World) :
    Calls Tryz.prog 76 #[.agg #[.int .i64 e.first, .int .i64 e.second, .int .i64 e.third, .bool e.varies], .bool b] w fun x w' => x = .returned (.tuple #[.int .i64 (shE e b).1, .agg #[.int .i64 (shE e b).2.first, .int .i64 (shE e b).2.second, .int .i64 (shE e b).2.third, .bool (shE e b).2.varies]]) ∧ Below w.heap.size w w' := by
  obtain ⟨x, y, z, v⟩ := e
  have hba := ((Below.refl w.heap.size w).alloc (Nat.le_refl _) (.cells #[.int .i64 x, .int .i64 y, .int .i64 z, .bool v] 67)).alloc (by simp) (.cells #[.int .i64 0, .int .i64 0, .int .i64 0, .bool false] 67)
  cases v
  · cases b
    · by_cases hz : x = 0 ∧ y = 0 ∧ z = 0
      · obtain ⟨rfl, rfl, rfl⟩ := hz
        have HO : Hid (shE ⟨0, 0, 0, false⟩ false = (0, ⟨0, 0, 0, false⟩)) := by show _ = _; unfold shE elZ; simp
        go_enter Tryz.func76, Tryz.ntmps76
        go_wp2
        refine bodyPost_ret (v := .tuple #[.int .i64 0, .agg #[.int .i64 0, .int .i64 0, .int .i64 0, .bool false]]) ?_ rfl ⟨ret_sh HO.out, hba⟩
        rw [results_tmp_cell rfl]
        go_simp
      · by_cases hx : x = 0
        · subst hx
          by_cases hy : y = 0
          · subst hy
            have hz0 : ¬ z = 0 := fun c => hz ⟨rfl, rfl, c⟩
            have HO : Hid (shE ⟨0, 0, z, false⟩ false = (65535, ⟨0, 0, z, false⟩)) := by show _ = _; unfold shE elZ; simp [hz0]
            go_enter Tryz.func76, Tryz.ntmps76
            go_wp2
            go_region
            all_goals
              go_wp2
              refine bodyPost_ret (v := .tuple #[.int .i64 65535, .agg #[.int .i64 0, .int .i64 0, .int .i64 z, .bool false]]) ?_ rfl ⟨ret_sh HO.out, (below_two w _ _).drew⟩
              rw [results_tmp_cell rfl]
              go_simp
          · have HO : Hid (shE ⟨0, y, z, false⟩ false = (65535, ⟨0, y, z, false⟩)) := by show _ = _; unfold shE elZ; simp [hy]
            go_enter Tryz.func76, Tryz.ntmps76
            go_wp2
            go_region
            all_goals
              go_wp2
              refine bodyPost_ret (v := .tuple #[.int .i64 65535, .agg #[.int .i64 0, .int .i64 y, .int .i64 z, .bool false]]) ?_ rfl ⟨ret_sh HO.out, (below_two w _ _).drew⟩
              rw [results_tmp_cell rfl]
              go_simp
        · have HO : Hid (shE ⟨x, y, z, false⟩ false = (65535, ⟨x, y, z, false⟩)) := by show _ = _; unfold shE elZ; simp [hx]
          go_enter Tryz.func76, Tryz.ntmps76
          go_wp2
          go_region
          all_goals
            go_wp2
            refine bodyPost_ret (v := .tuple #[.int .i64 65535, .agg #[.int .i64 x, .int .i64 y, .int .i64 z, .bool false]]) ?_ rfl ⟨ret_sh HO.out, (below_two w _ _).drew⟩
            rw [results_tmp_cell rfl]
            go_simp
    · have HO : Hid (shE ⟨x, y, z, false⟩ true = (0, ⟨0, 0, 0, false⟩)) := by show _ = _; unfold shE elZ; simp
      go_enter Tryz.func76, Tryz.ntmps76
      go_wp2
      refine bodyPost_ret (v := .tuple #[.int .i64 0, .agg #[.int .i64 0, .int .i64 0, .int .i64 0, .bool false]]) ?_ rfl ⟨ret_sh HO.out, hba⟩
      rw [results_tmp_cell rfl]
      go_simp
  · have HO : Hid (shE ⟨x, y, z, true⟩ b = (x, ⟨0, 0, 0, false⟩)) := by show _ = _; unfold shE elZ; simp
    go_enter Tryz.func76, Tryz.ntmps76
    go_wp2
    refine bodyPost_ret (v := .tuple #[.int .i64 x, .agg #[.int .i64 0, .int .i64 0, .int .i64 0, .bool false]]) ?_ rfl ⟨ret_sh HO.out, hba⟩
    rw [results_tmp_cell rfl]
    go_simp
end Go.Proofs.YtddelohmppdndaaGreatDoor

namespace Go.Proofs.YtddelohmppdndaaGreatDoor
open Go.RowKit

theorem own_type {u : World} {B B' e e' size size' n n' : Nat} {v v' : Value} {xs xs' : List Value} (h : u.ownsRow B e size v n xs) (h' : u.ownsRow B' e' size' v' n' xs') (he : e ≠ e') : v.ownBlock = none ∨ v.ownBlock ≠ v'.ownBlock := by
  rcases h.2 with ⟨rfl, _⟩ | ⟨g, cap, cur, rfl, _, hg, _⟩
  · exact .inl rfl
  · refine .inr fun c => ?_
    rcases h'.2 with ⟨rfl, _⟩ | ⟨g', cap', cur', rfl, _, hg', _⟩
    · cases c
    · have : g = g' := Option.some.inj c
      subst this
      rw [hg] at hg'
      injection hg' with e1
      injection e1 with _ e2 _
      exact he e2

end Go.Proofs.YtddelohmppdndaaGreatDoor

namespace Go.Proofs.YtddelohmppdndaaGreatDoor
open Go.RowKit

theorem set4_block {w : World} {n : Nat} {x y z t : Value} {T : TypeId} (h : w.heap[n]? = some (.cells #[x, y, z, t] T)) (a b c d : Value) :
    ((((w.setCell ⟨n, 0, none⟩ a).setCell ⟨n, 1, none⟩ b).setCell ⟨n, 2, none⟩ c).setCell ⟨n, 3, none⟩ d).heap[n]? = some (.cells #[a, b, c, d] T) ∧ w.grownBy ((((w.setCell ⟨n, 0, none⟩ a).setCell ⟨n, 1, none⟩ b).setCell ⟨n, 2, none⟩ c).setCell ⟨n, 3, none⟩ d) (some n) := by
  have h1 := heap_setCell_same w n 0 _ _ a h
  have h2 := heap_setCell_same _ n 1 _ _ b h1
  have h3 := heap_setCell_same _ n 2 _ _ c h2
  have h4 := heap_setCell_same _ n 3 _ _ d h3
  refine ⟨h4, rfl, rfl, rfl, by simp [World.setCell], fun k hk hne => ?_⟩
  have hkn : k ≠ n := fun e => hne (by rw [e])
  rw [heap_setCell_other _ _ k _ hkn, heap_setCell_other _ _ k _ hkn, heap_setCell_other _ _ k _ hkn, heap_setCell_other _ _ k _ hkn]

theorem frozen_row4 {w : World} {n : Nat} {cs : Array Value} {T : TypeId} (h : w.heap[n]? = some (.cells cs T)) (j : Nat) : w.frozen? ⟨n, j, none⟩ = false := by simp [World.frozen?, h]

def FpRel (w : World) (sh : Bool) (es : List El) (v6 v7 bv iv : Value) (wr : World) : Prop :=
  ∃ (k : Nat) (fs : List Int) (xs : List El) (b b' : Bool), k ≤ es.length ∧ iv = .int .i64 k ∧ bv = .bool b ∧ fourS sh es k = (fs, xs, b') ∧ (sh = true → b = b') ∧ Ints wr w.heap.size v6 fs ∧ Elems wr w.heap.size v7 xs ∧ Below w.heap.size w wr

theorem below_grownBy4 {w w' : World} (hb : Below w.heap.size w w') (row : Option Nat) : w.grownBy w' row := ⟨hb.os, hb.tape, hb.output, hb.size, fun k hk _ => hb.block k hk⟩

set_option maxRecDepth 100000 in
set_option maxHeartbeats 8000000 in
theorem implFourth_plain (w : World) (B g cap : Nat) (es : List El) (hz : es.length ≤ 1000) (hL : Elems w B (.slice (some ⟨g, 0, none⟩) es.length cap) es) :
    Calls Tryz.prog 60 #[.slice (some ⟨g, 0, none⟩) es.length cap, .bool false] w fun e w' => ∃ v v', e = .returned (.tuple #[v, v', .bool true]) ∧ Ints w' w.heap.size v (fourths false es) ∧ Elems w' w.heap.size v' (counted false es) ∧ Below w.heap.size w w' := by
  obtain ⟨i0, hi0, hz0, hs0, hy0⟩ := info_parts info_int
  obtain ⟨i1, hi1, hz1, hs1, hy1⟩ := info_parts info_elem
  have hz8 : ¬ (1000 : Int) < (es.length : Int) := by omega
  go_enter Tryz.func60, Tryz.ntmps60
  go_wp2
  go_loopw [7, 8, 9, 18] (fun v6 v7 bv iv wr => FpRel w false es v6 v7 bv iv wr) (fun _ _ _ iv _ => es.length - (intOf iv).toNat)
  case atStart => exact ⟨0, [], [], false, false, Nat.zero_le _, rfl, rfl, rfl, fun _ => rfl, World.ownsRow_nil _ _ _ _, World.ownsRow_nil _ _ _ _, Below.refl _ _⟩
  case round =>
    obtain ⟨k, fs, xs, b, b', hk, rfl, rfl, hf, hbb, hI, hE, hbw⟩ := hrel
    have hfl := fourS_len false es k
    rw [hf] at hfl
    have hfl1 : fs.length ≤ k := hfl.1
    have hfl2 : xs.length ≤ k := hfl.2
    have HF : Hid (fourS false es k = (fs, xs, b')) := hf
    clear hf hfl
    by_cases hlt : k < es.length
    · obtain ⟨e, he⟩ : ∃ e, es[k]? = some e := ⟨_, List.getElem?_eq_getElem hlt⟩
      have hS2 := fourS_succ he HF.out
      obtain ⟨a0, a1, a2, a3⟩ := (hL.below hbw).cells k e he
      have hk8 : (k : Int) < (es.length : Int) := by omega
      have hsz := hbw.size
      obtain ⟨x, y, z, v⟩ := e
      simp only at a0 a1 a2 a3
      clear he HF hL
      rw [four1_plain] at hS2
      have HS2 : Hid _ := hS2
      clear hS2 hbb
      have HI : Hid (Ints _ _ _ _) := hI
      have HE : Hid (Elems _ _ _ _) := hE
      have HBW : Hid (Below _ _ _) := hbw
      have hba : Below w.heap.size w (wr.alloc (.cells #[.int .i64 x, .int .i64 y, .int .i64 z, .bool v] 67)) := hbw.alloc hbw.size _
      have HBA : Hid (Below _ _ _) := hba
      have hblk : (wr.alloc (.cells #[.int .i64 x, .int .i64 y, .int .i64 z, .bool v] 67)).heap[wr.heap.size]? = some (.cells #[.int .i64 x, .int .i64 y, .int .i64 z, .bool v] 67) := heap_alloc_new wr _
      have HBLK : Hid _ := hblk
      clear hblk hI hE hbw hba
      go_upto_region 9 with fail
      go_cut [9] from 22 to 31 (fun bv wx => bv = .bool (behB b ⟨x, y, z, v⟩) ∧ wx = wr.alloc (.cells #[.int .i64 x, .int .i64 y, .int .i64 z, .bool v] 67))
      case first =>
        clear HS2 HI HE HBW HBLK HBA a0 a1 a2 a3
        cases v
        · cases b
          · go_wp2
            go_meet
            case rel => exact ⟨rfl, rfl⟩
          · by_cases hx : x = 0
            · subst hx
              go_wp2
              go_meet
              case rel => exact ⟨rfl, rfl⟩
            · have hx2 : (x == 0) = false := by simpa using hx
              have HXB : Hid (behB true ⟨x, y, z, false⟩ = false) := by show _ = _; unfold behB; simp [hx]
              go_wp2
              go_meet
              case rel => exact ⟨by rw [HXB.out], rfl⟩
        · go_wp2
          go_meet
          case rel => exact ⟨by cases b <;> rfl, rfl⟩
      case rest =>
        obtain ⟨rfl, rfl⟩ := hcut
        clear a0 a1 a2 a3
        generalize behB b ⟨x, y, z, v⟩ = bb at *
        have hIz : (wr.alloc (.cells #[.int .i64 x, .int .i64 y, .int .i64 z, .bool v] 67)).ownsRow w.heap.size 3 1 u7 fs.length (fs.map (Value.int .i64)) := World.ownsRow.alloc HI.out _
        have hEz : (wr.alloc (.cells #[.int .i64 x, .int .i64 y, .int .i64 z, .bool v] 67)).ownsRow w.heap.size 67 4 u8 xs.length (elAll xs) := World.ownsRow.alloc HE.out _
        have hbz := HBA.out
        have hblkz := HBLK.out
        have hltz : wr.heap.size < (wr.alloc (.cells #[.int .i64 x, .int .i64 y, .int .i64 z, .bool v] 67)).heap.size := by simp
        have hlowz : ∀ j, u7.ownBlock = some j → j < wr.heap.size := fun j hj => (World.ownsRow.lt HI.out j hj).2
        have HHZ : Hid (_ = _) := hblkz
        have HBZ : Hid (Below _ _ _) := hbz
        have hszz := hbz.size
        clear hblkz hbz
        unfold Ints at *
        unfold Elems at *
        go_wp2_with (at_builtin; refine wpList_append_own _ rfl _ _ 39 rfl w.heap.size 3 i0 (.int .i64 0) 1 8 Tryz.underlying39 hi0 hz0 hs0 hy0 rfl (by decide) _ _ _ rfl (hIz.alloc _) ⟨wr.heap.size + 1, 0, none⟩ 1 1 [.int .i64 65535] rfl rfl (cells1_at _ _ _ _ (by simp)) (fun u hu => by simp at hu; subst hu; rfl) (by unfold maxLen; omega) (by omega) (by simp; omega) ?_)
        intro v6' w4 ho4 hg4 _
        have hI4 : Ints w4 w.heap.size v6' (fs ++ [65535]) := Ints.snoc ho4
        have hE4 : Elems w4 w.heap.size u8 xs := World.ownsRow.kept (hEz.alloc _) hg4 (own_type hEz hIz (by decide))
        have hb4 : w4.heap[wr.heap.size]? = some (.cells #[.int .i64 x, .int .i64 y, .int .i64 z, .bool v] 67) := by
          rw [hg4.block wr.heap.size (by simp; omega) (fun c => by have := hlowz wr.heap.size c.symm; omega), Below.heap_alloc _ _ _ hltz]; exact HHZ.out
        have hbw4 : Below w.heap.size w w4 := Below.grown (HBZ.out.alloc HBZ.out.size _) hg4 (HBZ.out.alloc HBZ.out.size _).size (fun j hj => (World.ownsRow.lt hIz j hj).1)
        have e0 := cell_of_row _ _ 0 _ _ _ hb4
        have e1 := cell_of_row _ _ 1 _ _ _ hb4
        have e2 := cell_of_row _ _ 2 _ _ _ hb4
        have e3 := cell_of_row _ _ 3 _ _ _ hb4
        have hsz4 := hbw4.size
        have HI4 : Hid (Ints _ _ _ _) := hI4
        have HB4 : Hid (Below _ _ _) := hbw4
        clear ho4 hg4 hb4 HBLK HHZ hlowz hIz hEz hI4 hbw4 HI HE HBW HBA HBZ
        unfold Elems at hE4
        go_wp2_with (at_builtin; refine wpList_append_own _ rfl _ _ 81 rfl w.heap.size 67 i1 _ 4 32 Tryz.underlying81 hi1 hz1 hs1 hy1 rfl (by decide) _ _ _ rfl (hE4.alloc _) ⟨w4.heap.size, 0, none⟩ 1 1 (elC (⟨x, y, z, v⟩ : El)) rfl rfl (cells4_at _ _ (⟨x, y, z, v⟩ : El) _ (by simp)) ?hone (by unfold maxLen; omega) (by omega) (by simp; omega) ?_)
        case hone =>
          intro u hu
          simp [elC] at hu
          rcases hu with rfl | rfl | rfl | rfl <;> rfl
        intro v7' w5 ho5 hg5 _
        have hE5 : Elems w5 w.heap.size v7' (xs ++ [(⟨x, y, z, v⟩ : El)]) := Elems.snoc ho5
        have hI5 : Ints w5 w.heap.size v6' (fs ++ [65535]) := World.ownsRow.kept (World.ownsRow.alloc HI4.out _) hg5 (own_type HI4.out hE4 (by decide))
        have hbw5 : Below w.heap.size w w5 := Below.grown (HB4.out.alloc HB4.out.size _) hg5 (HB4.out.alloc HB4.out.size _).size (fun j hj => (World.ownsRow.lt hE4 j hj).1)
        have HE5 : Hid (Elems _ _ _ _) := hE5
        have HI5 : Hid (Ints _ _ _ _) := hI5
        have HB5 : Hid (Below _ _ _) := hbw5
        clear ho5 hg5 hE5 hI5 hbw5 HI4 HB4 e0 e1 e2 e3 hE4
        go_wp2
        exact ⟨⟨k + 1, _, _, _, _, hlt, by go_num, rfl, HS2.out, (fun c => by cases c), HI5.out, HE5.out, HB5.out⟩, by simp [intOf]; omega⟩
    · have hk3 : k = es.length := by omega
      subst hk3
      have HFN : Hid (fs = fourths false es ∧ xs = counted false es) := by
        show _ ∧ _
        unfold fourths counted
        rw [HF.out]
        exact ⟨rfl, rfl⟩
      have HI : Hid (Ints _ _ _ _) := hI
      have HE : Hid (Elems _ _ _ _) := hE
      have HB : Hid (Below _ _ _) := hbw
      clear hI hE hbw HF hL hbb
      go_wp2
      go_ret3
      obtain ⟨rfl, rfl⟩ := HFN.out
      exact ⟨_, _, rfl, HI.out, HE.out, HB.out⟩

set_option maxRecDepth 100000 in
set_option maxHeartbeats 8000000 in
theorem implFourth_shift (w : World) (B g cap : Nat) (es : List El) (hz : es.length ≤ 1000) (hL : Elems w B (.slice (some ⟨g, 0, none⟩) es.length cap) es) :
    Calls Tryz.prog 60 #[.slice (some ⟨g, 0, none⟩) es.length cap, .bool true] w fun e w' => ∃ v v', e = .returned (.tuple #[v, v', .bool true]) ∧ Ints w' w.heap.size v (fourths true es) ∧ Elems w' w.heap.size v' (counted true es) ∧ Below w.heap.size w w' := by
  obtain ⟨i0, hi0, hz0, hs0, hy0⟩ := info_parts info_int
  obtain ⟨i1, hi1, hz1, hs1, hy1⟩ := info_parts info_elem
  have hz8 : ¬ (1000 : Int) < (es.length : Int) := by omega
  go_enter Tryz.func60, Tryz.ntmps60
  go_wp2
  go_loopw [7, 8, 9, 18] (fun v6 v7 bv iv wr => FpRel w true es v6 v7 bv iv wr) (fun _ _ _ iv _ => es.length - (intOf iv).toNat)
  case atStart => exact ⟨0, [], [], false, false, Nat.zero_le _, rfl, rfl, rfl, fun _ => rfl, World.ownsRow_nil _ _ _ _, World.ownsRow_nil _ _ _ _, Below.refl _ _⟩
  case round =>
    obtain ⟨k, fs, xs, b, b', hk, rfl, rfl, hf, hbb, hI, hE, hbw⟩ := hrel
    have hfl := fourS_len true es k
    rw [hf] at hfl
    have hfl1 : fs.length ≤ k := hfl.1
    have hfl2 : xs.length ≤ k := hfl.2
    have HF : Hid (fourS true es k = (fs, xs, b')) := hf
    clear hf hfl
    by_cases hlt : k < es.length
    · obtain ⟨e, he⟩ : ∃ e, es[k]? = some e := ⟨_, List.getElem?_eq_getElem hlt⟩
      have hS2 := fourS_succ he HF.out
      obtain ⟨a0, a1, a2, a3⟩ := (hL.below hbw).cells k e he
      have hk8 : (k : Int) < (es.length : Int) := by omega
      have hsz := hbw.size
      obtain ⟨x, y, z, v⟩ := e
      simp only at a0 a1 a2 a3
      clear he HF hL
      rw [← hbb rfl, four1_shift] at hS2
      have HS2 : Hid _ := hS2
      clear hS2 hbb
      have HI : Hid (Ints _ _ _ _) := hI
      have HE : Hid (Elems _ _ _ _) := hE
      have HBW : Hid (Below _ _ _) := hbw
      have hba : Below w.heap.size w (wr.alloc (.cells #[.int .i64 x, .int .i64 y, .int .i64 z, .bool v] 67)) := hbw.alloc hbw.size _
      have HBA : Hid (Below _ _ _) := hba
      have hblk : (wr.alloc (.cells #[.int .i64 x, .int .i64 y, .int .i64 z, .bool v] 67)).heap[wr.heap.size]? = some (.cells #[.int .i64 x, .int .i64 y, .int .i64 z, .bool v] 67) := heap_alloc_new wr _
      have HBLK : Hid _ := hblk
      clear hblk hI hE hbw hba
      go_upto_region 9 with fail
      go_cut [9] from 22 to 31 (fun bv wx => bv = .bool (behB b ⟨x, y, z, v⟩) ∧ wx = wr.alloc (.cells #[.int .i64 x, .int .i64 y, .int .i64 z, .bool v] 67))
      case first =>
        clear HS2 HI HE HBW HBLK HBA a0 a1 a2 a3
        cases v
        · cases b
          · go_wp2
            go_meet
            case rel => exact ⟨rfl, rfl⟩
          · by_cases hx : x = 0
            · subst hx
              go_wp2
              go_meet
              case rel => exact ⟨rfl, rfl⟩
            · have hx2 : (x == 0) = false := by simpa using hx
              have HXB : Hid (behB true ⟨x, y, z, false⟩ = false) := by show _ = _; unfold behB; simp [hx]
              go_wp2
              go_meet
              case rel => exact ⟨by rw [HXB.out], rfl⟩
        · go_wp2
          go_meet
          case rel => exact ⟨by cases b <;> rfl, rfl⟩
      case rest =>
        obtain ⟨rfl, rfl⟩ := hcut
        clear a0 a1 a2 a3
        have SH := fun u => shift_any ⟨x, y, z, v⟩ (behB b ⟨x, y, z, v⟩) u
        obtain ⟨bb, HBB⟩ : ∃ bb, Hid (behB b ⟨x, y, z, v⟩ = bb) := ⟨_, rfl⟩
        rw [HBB.out] at SH HS2
        rw [HBB.out]
        obtain ⟨n4, x', y', z', v', HP⟩ : ∃ n4 x' y' z' v', Hid (shE ⟨x, y, z, v⟩ bb = ((n4 : Int), (⟨x', y', z', v'⟩ : El))) := ⟨_, _, _, _, _, rfl⟩
        rw [HP.out] at SH HS2
        simp only at SH
        go_wp2_with fail
        refine (SH _).mono ?_
        rintro e w2 ⟨rfl, b2⟩
        clear SH
        have hb2 : w2.heap[wr.heap.size]? = some (.cells #[.int .i64 x, .int .i64 y, .int .i64 z, .bool v] 67) := (b2.block wr.heap.size (by simp)).trans HBLK.out
        have hlt2 : wr.heap.size < w2.heap.size := (Array.getElem?_eq_some_iff.1 hb2).1
        have d0 := cell_of_row _ _ 0 _ _ _ hb2
        have d1 := cell_of_row _ _ 1 _ _ _ hb2
        have d2 := cell_of_row _ _ 2 _ _ _ hb2
        have d3 := cell_of_row _ _ 3 _ _ _ hb2
        have f0 := frozen_row4 hb2
        obtain ⟨hblkz, hgz⟩ := set4_block hb2 (.int .i64 x') (.int .i64 y') (.int .i64 z') (.bool v')
        have hI2 := World.ownsRow.kept (World.ownsRow.alloc HI.out (.cells #[.int .i64 x, .int .i64 y, .int .i64 z, .bool v] 67)) (row := none) (below_grownBy4 b2 none) (by cases h : u7.ownBlock <;> simp)
        have hE2 := World.ownsRow.kept (World.ownsRow.alloc HE.out (.cells #[.int .i64 x, .int .i64 y, .int .i64 z, .bool v] 67)) (row := none) (below_grownBy4 b2 none) (by cases h : u8.ownBlock <;> simp)
        have hlowz : ∀ j, u7.ownBlock = some j → j < wr.heap.size := fun j hj => (World.ownsRow.lt HI.out j hj).2
        have hlowy : ∀ j, u8.ownBlock = some j → j < wr.heap.size := fun j hj => (World.ownsRow.lt HE.out j hj).2
        have hIz := World.ownsRow.kept hI2 hgz (by
          cases h : u7.ownBlock with
          | none => exact .inl rfl
          | some j => exact .inr fun c => by have := hlowz j h; have := Option.some.inj c; omega)
        have hEz := World.ownsRow.kept hE2 hgz (by
          cases h : u8.ownBlock with
          | none => exact .inl rfl
          | some j => exact .inr fun c => by have := hlowy j h; have := Option.some.inj c; omega)
        have hbz : Below w.heap.size w ((((w2.setCell ⟨wr.heap.size, 0, none⟩ (.int .i64 x')).setCell ⟨wr.heap.size, 1, none⟩ (.int .i64 y')).setCell ⟨wr.heap.size, 2, none⟩ (.int .i64 z')).setCell ⟨wr.heap.size, 3, none⟩ (.bool v')) := ((((HBA.out.trans (b2.mono HBA.out.size)).setCell HBW.out.size _).setCell HBW.out.size _).setCell HBW.out.size _).setCell HBW.out.size _
        have hltz : wr.heap.size < ((((w2.setCell ⟨wr.heap.size, 0, none⟩ (.int .i64 x')).setCell ⟨wr.heap.size, 1, none⟩ (.int .i64 y')).setCell ⟨wr.heap.size, 2, none⟩ (.int .i64 z')).setCell ⟨wr.heap.size, 3, none⟩ (.bool v')).heap.size := (Array.getElem?_eq_some_iff.1 hblkz).1
        clear b2 hb2 hI2 hE2 hgz
        have HHZ : Hid (_ = _) := hblkz
        have HBZ : Hid (Below _ _ _) := hbz
        have hszz := hbz.size
        clear hblkz hbz
        unfold Ints at *
        unfold Elems at *
        go_wp2_with (at_builtin; refine wpList_append_own _ rfl _ _ 39 rfl w.heap.size 3 i0 (.int .i64 0) 1 8 Tryz.underlying39 hi0 hz0 hs0 hy0 rfl (by decide) _ _ _ rfl (hIz.alloc _) ⟨w2.heap.size, 0, none⟩ 1 1 [.int .i64 n4] rfl rfl (cells1_at _ _ _ _ (by simp)) (fun u hu => by simp at hu; subst hu; rfl) (by unfold maxLen; omega) (by omega) (by simp; omega) ?_)
        intro v6' w4 ho4 hg4 _
        have hI4 : Ints w4 w.heap.size v6' (fs ++ [n4]) := Ints.snoc ho4
        have hE4 : Elems w4 w.heap.size u8 xs := World.ownsRow.kept (hEz.alloc _) hg4 (own_type hEz hIz (by decide))
        have hb4 : w4.heap[wr.heap.size]? = some (.cells #[.int .i64 x', .int .i64 y', .int .i64 z', .bool v'] 67) := by
          rw [hg4.block wr.heap.size (by simp; omega) (fun c => by have := hlowz wr.heap.size c.symm; omega), Below.heap_alloc _ _ _ hltz]; exact HHZ.out
        have hbw4 : Below w.heap.size w w4 := Below.grown (HBZ.out.alloc HBZ.out.size _) hg4 (HBZ.out.alloc HBZ.out.size _).size (fun j hj => (World.ownsRow.lt hIz j hj).1)
        have e0 := cell_of_row _ _ 0 _ _ _ hb4
        have e1 := cell_of_row _ _ 1 _ _ _ hb4
        have e2 := cell_of_row _ _ 2 _ _ _ hb4
        have e3 := cell_of_row _ _ 3 _ _ _ hb4
        have hsz4 := hbw4.size
        have HI4 : Hid (Ints _ _ _ _) := hI4
        have HB4 : Hid (Below _ _ _) := hbw4
        clear ho4 hg4 hb4 HBLK HHZ hlowz hIz hEz hI4 hbw4 HI HE HBW HBA HBZ
        unfold Elems at hE4
        go_wp2_with (at_builtin; refine wpList_append_own _ rfl _ _ 81 rfl w.heap.size 67 i1 _ 4 32 Tryz.underlying81 hi1 hz1 hs1 hy1 rfl (by decide) _ _ _ rfl (hE4.alloc _) ⟨w4.heap.size, 0, none⟩ 1 1 (elC (⟨x', y', z', v'⟩ : El)) rfl rfl (cells4_at _ _ (⟨x', y', z', v'⟩ : El) _ (by simp)) ?hone (by unfold maxLen; omega) (by omega) (by simp; omega) ?_)
        case hone =>
          intro u hu
          simp [elC] at hu
          rcases hu with rfl | rfl | rfl | rfl <;> rfl
        intro v7' w5 ho5 hg5 _
        have hE5 : Elems w5 w.heap.size v7' (xs ++ [(⟨x', y', z', v'⟩ : El)]) := Elems.snoc ho5
        have hI5 : Ints w5 w.heap.size v6' (fs ++ [n4]) := World.ownsRow.kept (World.ownsRow.alloc HI4.out _) hg5 (own_type HI4.out hE4 (by decide))
        have hbw5 : Below w.heap.size w w5 := Below.grown (HB4.out.alloc HB4.out.size _) hg5 (HB4.out.alloc HB4.out.size _).size (fun j hj => (World.ownsRow.lt hE4 j hj).1)
        have HE5 : Hid (Elems _ _ _ _) := hE5
        have HI5 : Hid (Ints _ _ _ _) := hI5
        have HB5 : Hid (Below _ _ _) := hbw5
        clear ho5 hg5 hE5 hI5 hbw5 HI4 HB4 e0 e1 e2 e3 hE4
        go_wp2
        exact ⟨⟨k + 1, _, _, _, _, hlt, by go_num, rfl, HS2.out, (fun _ => rfl), HI5.out, HE5.out, HB5.out⟩, by simp [intOf]; omega⟩
    · have hk3 : k = es.length := by omega
      subst hk3
      have HFN : Hid (fs = fourths true es ∧ xs = counted true es) := by
        show _ ∧ _
        unfold fourths counted
        rw [HF.out]
        exact ⟨rfl, rfl⟩
      have HI : Hid (Ints _ _ _ _) := hI
      have HE : Hid (Elems _ _ _ _) := hE
      have HB : Hid (Below _ _ _) := hbw
      clear hI hE hbw HF hL hbb
      go_wp2
      go_ret3
      obtain ⟨rfl, rfl⟩ := HFN.out
      exact ⟨_, _, rfl, HI.out, HE.out, HB.out⟩

set_option maxRecDepth 100000 in
set_option maxHeartbeats 1000000 in
theorem implFourth_nil (w : World) (sh : Bool) : Calls Tryz.prog 60 #[.slice none 0 0, .bool sh] w fun e w' => ∃ v v', e = .returned (.tuple #[v, v', .bool true]) ∧ Ints w' w.heap.size v [] ∧ Elems w' w.heap.size v' [] ∧ Below w.heap.size w w' := by
  go_enter Tryz.func60, Tryz.ntmps60
  go_wp2
  go_loopw [7, 8, 9, 18] (fun v6 v7 bv iv wr => v6 = .slice none 0 0 ∧ v7 = .slice none 0 0 ∧ bv = .bool false ∧ iv = .int .i64 0 ∧ wr = w) (fun _ _ _ _ _ => 0)
  case atStart => exact ⟨rfl, rfl, rfl, rfl, rfl⟩
  case round =>
    obtain ⟨rfl, rfl, rfl, rfl, rfl⟩ := hrel
    go_wp2
    go_ret3
    exact ⟨_, _, rfl, World.ownsRow_nil _ _ _ _, World.ownsRow_nil _ _ _ _, Below.refl _ _⟩

set_option maxRecDepth 100000 in
set_option maxHeartbeats 1000000 in
theorem implFourth_long (w : World) (a : Option Addr) (n c : Nat) (sh : Bool) (h : 1000 < n) : Calls Tryz.prog 60 #[.slice a n c, .bool sh] w fun e w' => ∃ v v', e = .returned (.tuple #[v, v', .bool false]) ∧ Ints w' w.heap.size v [] ∧ Elems w' w.heap.size v' [] ∧ Below w.heap.size w w' := by
  have h2 : (1000 : Int) < (n : Int) := by omega
  go_enter Tryz.func60, Tryz.ntmps60
  go_wp2
  go_ret3
  exact ⟨_, _, rfl, World.ownsRow_nil _ _ _ _, World.ownsRow_nil _ _ _ _, Below.refl _ _⟩

theorem implFourth_ok {w : World} {B : Nat} {v : Value} {es : List El} (sh : Bool) (hz : es.length ≤ 1000) (hL : Elems w B v es) :
    Calls Tryz.prog 60 #[v, .bool sh] w fun e w' => ∃ v v', e = .returned (.tuple #[v, v', .bool true]) ∧ Ints w' w.heap.size v (fourths sh es) ∧ Elems w' w.heap.size v' (counted sh es) ∧ Below w.heap.size w w' := by
  rcases hL.form with ⟨rfl, rfl⟩ | ⟨g, cap, rfl, _, _⟩
  · exact implFourth_nil w sh
  · cases sh
    · exact implFourth_plain w B g cap es hz hL
    · exact implFourth_shift w B g cap es hz hL
end Go.Proofs.YtddelohmppdndaaGreatDoor

namespace Go.Proofs.YtddelohmppdndaaGreatDoor
open Go.RowKit

theorem els_slice {w : World} {B : Nat} {v : Value} {es : List El} (h : Elems w B v es) :
    ∃ a c, v = .slice a es.length c ∧ ∀ k e, es[k]? = some e → ∃ g, a = some ⟨g, 0, none⟩ ∧ g < w.heap.size ∧ w.cell? ⟨g, k * 4, none⟩ = some (.int .i64 e.first) ∧ w.cell? ⟨g, k * 4 + 1, none⟩ = some (.int .i64 e.second) ∧ w.cell? ⟨g, k * 4 + 2, none⟩ = some (.int .i64 e.third) ∧ w.cell? ⟨g, k * 4 + 3, none⟩ = some (.bool e.varies) := by
  rcases h.form with ⟨rfl, rfl⟩ | ⟨g, cap, rfl, _, _⟩
  · exact ⟨_, _, rfl, fun k e he => by simp at he⟩
  · exact ⟨_, _, rfl, fun k e he => ⟨g, rfl, (World.ownsRow.lt h g rfl).2, h.cells k e he⟩⟩

theorem ints_slice {w : World} {B : Nat} {v : Value} {l : List Int} (h : Ints w B v l) :
    ∃ a c, v = .slice a l.length c ∧ ∀ k, k < l.length → ∃ g, a = some ⟨g, 0, none⟩ ∧ g < w.heap.size ∧ w.cell? ⟨g, k, none⟩ = some (.int .i64 (at0 l k)) := by
  rcases h.form with ⟨rfl, rfl⟩ | ⟨g, cap, rfl, _, _⟩
  · exact ⟨_, _, rfl, fun k hk => by simp at hk⟩
  · exact ⟨_, _, rfl, fun k hk => ⟨g, rfl, (World.ownsRow.lt h g rfl).2, h.cell k hk⟩⟩

theorem low_ints {w : World} {B B' : Nat} {v : Value} {l : List Int} (h : Ints w B' v l) (hB : B ≤ B') : Ints w B v l := by
  refine ⟨h.1, ?_⟩
  rcases h.2 with h | ⟨g, cap, cur, h1, h2, h3⟩
  · exact .inl h
  · exact .inr ⟨g, cap, cur, h1, Nat.le_trans hB h2, h3⟩

def WtRel (w1 : World) (lv : Nat) (xs : List El) (fs : List Int) (v i : Value) (wr : World) : Prop :=
  ∃ k : Nat, k ≤ xs.length ∧ i = .int .i64 k ∧ Ints wr w1.heap.size v (wtsK lv xs fs k) ∧ Below w1.heap.size w1 wr

theorem wtsK_zero {lv : Nat} {xs : List El} {fs : List Int} {k : Nat} (h : wtL lv (elAt xs k) (at0 fs k) = 0) : wtsK lv xs fs (k + 1) = wtsK lv xs fs k := by
  rw [wtsK, ifNot_zero h, List.append_nil]
theorem wtsK_some {lv : Nat} {xs : List El} {fs : List Int} {k : Nat} (h : wtL lv (elAt xs k) (at0 fs k) ≠ 0) : wtsK lv xs fs (k + 1) = wtsK lv xs fs k ++ [wtL lv (elAt xs k) (at0 fs k)] := by
  rw [wtsK, ifNot_some h]
theorem elAt_of {xs : List El} {k : Nat} {e : El} (h : xs[k]? = some e) : elAt xs k = e := by unfold elAt; rw [h]; rfl

set_option maxRecDepth 100000 in
set_option maxHeartbeats 1000000 in
theorem level1_any (ea : Option Addr) (en ec : Nat) (fa : Option Addr) (fn fc : Nat) (w : World) :
    Calls Tryz.prog 61 #[.agg #[.slice ea en ec, .slice fa fn fc], .int .i64 1] w fun e w' => e = .returned (.func (.func 77) #[] #[.pointer (some ⟨w.heap.size, 0, none⟩)]) ∧ w' = w.alloc (.cells #[.slice ea en ec, .slice fa fn fc] 83) := by
  go_enter Tryz.func61, Tryz.ntmps61
  go_wp2
  go_ret
  exact ⟨rfl, rfl⟩

set_option maxRecDepth 100000 in
set_option maxHeartbeats 1000000 in
theorem level2_any (ea : Option Addr) (en ec : Nat) (fa : Option Addr) (fn fc : Nat) (w : World) :
    Calls Tryz.prog 61 #[.agg #[.slice ea en ec, .slice fa fn fc], .int .i64 2] w fun e w' => e = .returned (.func (.func 78) #[] #[.pointer (some ⟨w.heap.size, 0, none⟩)]) ∧ w' = w.alloc (.cells #[.slice ea en ec, .slice fa fn fc] 83) := by
  go_enter Tryz.func61, Tryz.ntmps61
  go_wp2
  go_ret
  exact ⟨rfl, rfl⟩

set_option maxRecDepth 100000 in
set_option maxHeartbeats 1000000 in
theorem level3_any (ea : Option Addr) (en ec : Nat) (fa : Option Addr) (fn fc : Nat) (w : World) :
    Calls Tryz.prog 61 #[.agg #[.slice ea en ec, .slice fa fn fc], .int .i64 3] w fun e w' => e = .returned (.func (.func 79) #[] #[.pointer (some ⟨w.heap.size, 0, none⟩)]) ∧ w' = w.alloc (.cells #[.slice ea en ec, .slice fa fn fc] 83) := by
  go_enter Tryz.func61, Tryz.ntmps61
  go_wp2
  go_ret
  exact ⟨rfl, rfl⟩

set_option maxRecDepth 100000 in
set_option maxHeartbeats 1000000 in
theorem level4_any (ea : Option Addr) (en ec : Nat) (fa : Option Addr) (fn fc : Nat) (w : World) :
    Calls Tryz.prog 61 #[.agg #[.slice ea en ec, .slice fa fn fc], .int .i64 4] w fun e w' => e = .returned (.func (.func 80) #[] #[.pointer (some ⟨w.heap.size, 0, none⟩)]) ∧ w' = w.alloc (.cells #[.slice ea en ec, .slice fa fn fc] 83) := by
  go_enter Tryz.func61, Tryz.ntmps61
  go_wp2
  go_ret
  exact ⟨rfl, rfl⟩

set_option maxRecDepth 100000 in
set_option maxHeartbeats 1000000 in
theorem clos1_any (u : World) (b g n c k : Nat) (vf : Value) (x : Int) (hb : u.cell? ⟨b, 0, none⟩ = some (.slice (some ⟨g, 0, none⟩) n c)) (_hb2 : u.cell? ⟨b, 1, none⟩ = some vf) (hk : k < n) (hx : u.cell? ⟨g, k * 4, none⟩ = some (.int .i64 x)) :
    Calls Tryz.prog 77 #[.int .i64 k, .pointer (some ⟨b, 0, none⟩)] u fun e w' => e = .returned (.int .i64 x) ∧ w' = u := by
  have hk8 : (k : Int) < (n : Int) := by omega
  go_enter Tryz.func77, Tryz.ntmps77
  go_wp2
  go_ret
  exact ⟨rfl, rfl⟩

set_option maxRecDepth 100000 in
set_option maxHeartbeats 4000000 in
theorem weights1_any {w : World} {B B' : Nat} {ve vf : Value} {xs : List El} {fs : List Int} (hE : Elems w B ve xs) (hI : Ints w B' vf fs) (hl : fs.length = xs.length) (hn : xs.length ≤ 1048576) :
    Calls Tryz.prog 42 #[.agg #[ve, vf], .int .i64 1] w fun e w' => ∃ v, e = .returned v ∧ Ints w' w.heap.size v (wts 1 xs fs) ∧ Below w.heap.size w w' := by
  obtain ⟨i0, hi0, hz0, hs0, hy0⟩ := info_parts info_int
  obtain ⟨va, va2, rfl, hcE⟩ := els_slice hE
  obtain ⟨fa, fc, rfl, hcI⟩ := ints_slice hI
  have LV := fun u => level1_any va xs.length va2 fa fs.length fc u
  have hwb : Below w.heap.size w ((w.alloc (.cells #[.slice va xs.length va2, .slice fa fs.length fc] 83)).alloc (.cells #[.slice va xs.length va2, .slice fa fs.length fc] 83)) := ((Below.refl _ _).alloc (Nat.le_refl _) _).alloc (by simp) _
  have q0 : ((w.alloc (.cells #[.slice va xs.length va2, .slice fa fs.length fc] 83)).alloc (.cells #[.slice va xs.length va2, .slice fa fs.length fc] 83)).cell? ⟨w.heap.size + 1, 0, none⟩ = some (.slice va xs.length va2) := by simp
  have q1 : ((w.alloc (.cells #[.slice va xs.length va2, .slice fa fs.length fc] 83)).alloc (.cells #[.slice va xs.length va2, .slice fa fs.length fc] 83)).cell? ⟨w.heap.size + 1, 1, none⟩ = some (.slice fa fs.length fc) := by simp
  have HL : Hid (fs.length = xs.length) := hl
  clear hE hI hl
  obtain ⟨W, HW⟩ : ∃ W, Hid (W = (w.alloc (.cells #[.slice va xs.length va2, .slice fa fs.length fc] 83)).alloc (.cells #[.slice va xs.length va2, .slice fa fs.length fc] 83)) := ⟨_, rfl⟩
  have hWs : w.heap.size + 2 ≤ W.heap.size := by rw [HW.out]; simp
  rw [← HW.out] at hwb q0 q1
  have HQ : Hid (W.cell? ⟨w.heap.size + 1, 0, none⟩ = some (.slice va xs.length va2) ∧ W.cell? ⟨w.heap.size + 1, 1, none⟩ = some (.slice fa fs.length fc)) := ⟨q0, q1⟩
  clear q0 q1
  go_enter Tryz.func42, Tryz.ntmps42
  go_wp2_with fail
  refine (LV _).mono ?_
  rintro e w1 ⟨rfl, hw1⟩
  obtain rfl : W = w1 := HW.out.trans hw1.symm
  have z0 : W.cell? ⟨w.heap.size, 0, none⟩ = some (.slice va xs.length va2) := by rw [HW.out]; simp
  clear LV hw1 HW
  go_wp2_with fail
  go_loopw [6, 15] (fun v i wr => WtRel W 1 xs fs v i wr) (fun _ i _ => xs.length - (intOf i).toNat)
  case atStart => exact ⟨0, Nat.zero_le _, rfl, World.ownsRow_nil _ _ _ _, Below.refl _ _⟩
  case round =>
    clear z0
    obtain ⟨k, hk, rfl, hR, hbw⟩ := hrel
    have hrl := wtsK_len 1 xs fs k
    by_cases hlt : k < xs.length
    · have hk8 : (k : Int) < (xs.length : Int) := by omega
      have p0 : wr.cell? ⟨w.heap.size + 1, 0, none⟩ = some (.slice va xs.length va2) := (hbw.cell (p := ⟨w.heap.size + 1, 0, none⟩) (by show w.heap.size + 1 < W.heap.size; omega)).trans HQ.out.1
      have p1 : wr.cell? ⟨w.heap.size + 1, 1, none⟩ = some (.slice fa fs.length fc) := (hbw.cell (p := ⟨w.heap.size + 1, 1, none⟩) (by show w.heap.size + 1 < W.heap.size; omega)).trans HQ.out.2
      obtain ⟨e, he⟩ : ∃ e, xs[k]? = some e := ⟨_, List.getElem?_eq_getElem hlt⟩
      obtain ⟨g, hga, hgl, y1, y2, y3, _⟩ := hcE k e he
      subst hga
      have HV : Hid (wtL 1 (elAt xs k) (at0 fs k) = e.first) := by show _ = _; rw [elAt_of he]; rfl
      have CK := clos1_any wr (w.heap.size + 1) g xs.length va2 k (.slice fa fs.length fc) e.first p0 p1 hlt ((hbw.cell (p := ⟨g, k * 4, none⟩) (by show g < W.heap.size; omega)).trans (by simpa using (hwb.cell (p := ⟨g, k * 4, none⟩) hgl).trans y1))
      clear y1 hcE hcI p0 p1
      go_wp2_with fail
      refine CK.mono ?_
      rintro e' w3 ⟨rfl, hw3⟩
      obtain rfl : wr = w3 := hw3.symm
      clear CK
      have hsz := hbw.size
      by_cases h0 : e.first = 0
      · have HS : Hid (wtsK 1 xs fs (k + 1) = wtsK 1 xs fs k) := wtsK_zero (HV.out.trans h0)
        have HR : Hid (Ints _ _ _ _) := hR
        clear hR HV
        go_wp2
        exact ⟨⟨k + 1, by omega, by go_num, by rw [HS.out]; exact HR.out, hbw⟩, by simp [intOf]; omega⟩
      · have h0' : (e.first == 0) = false := by simpa using h0
        have HS : Hid (wtsK 1 xs fs (k + 1) = wtsK 1 xs fs k ++ [e.first]) := by
          have := wtsK_some (lv := 1) (xs := xs) (fs := fs) (k := k) (by rw [HV.out]; exact h0)
          rw [HV.out] at this
          exact this
        clear HV
        unfold Ints at hR
        go_wp2_with (at_builtin; refine wpList_append_own _ rfl _ _ 39 rfl W.heap.size 3 i0 (.int .i64 0) 1 8 Tryz.underlying39 hi0 hz0 hs0 hy0 rfl (by decide) _ _ _ rfl (hR.alloc _) ⟨wr.heap.size, 0, none⟩ 1 1 [.int .i64 (e.first)] rfl rfl (cells1_at _ _ _ _ (by simp)) (fun u hu => by simp at hu; subst hu; rfl) (by unfold maxLen; omega) (by omega) (by simp; omega) ?_)
        intro v6 w4 ho4 hg4 _
        have hI4 : Ints w4 W.heap.size v6 (wtsK 1 xs fs k ++ [e.first]) := Ints.snoc ho4
        have hb4 : Below W.heap.size W w4 := Below.grown (hbw.alloc hbw.size _) hg4 (hbw.alloc hbw.size _).size (fun j hj => (World.ownsRow.lt hR j hj).1)
        have HI4 : Hid (Ints _ _ _ _) := hI4
        clear ho4 hg4 hR hI4
        go_wp2
        exact ⟨⟨k + 1, by omega, by go_num, by rw [HS.out]; exact HI4.out, hb4⟩, by simp [intOf]; omega⟩
    · have hk3 : k = xs.length := by omega
      subst hk3
      have HR : Hid (Ints _ _ _ _) := hR
      clear hR
      go_wp2
      go_ret
      exact ⟨_, rfl, low_ints HR.out (by omega), hwb.trans (hbw.mono (by omega))⟩

set_option maxRecDepth 100000 in
set_option maxHeartbeats 1000000 in
theorem clos2_any (u : World) (b g n c k : Nat) (vf : Value) (x : Int) (hb : u.cell? ⟨b, 0, none⟩ = some (.slice (some ⟨g, 0, none⟩) n c)) (_hb2 : u.cell? ⟨b, 1, none⟩ = some vf) (hk : k < n) (hx : u.cell? ⟨g, k * 4 + 1, none⟩ = some (.int .i64 x)) :
    Calls Tryz.prog 78 #[.int .i64 k, .pointer (some ⟨b, 0, none⟩)] u fun e w' => e = .returned (.int .i64 x) ∧ w' = u := by
  have hk8 : (k : Int) < (n : Int) := by omega
  go_enter Tryz.func78, Tryz.ntmps78
  go_wp2
  go_ret
  exact ⟨rfl, rfl⟩

set_option maxRecDepth 100000 in
set_option maxHeartbeats 4000000 in
theorem weights2_any {w : World} {B B' : Nat} {ve vf : Value} {xs : List El} {fs : List Int} (hE : Elems w B ve xs) (hI : Ints w B' vf fs) (hl : fs.length = xs.length) (hn : xs.length ≤ 1048576) :
    Calls Tryz.prog 42 #[.agg #[ve, vf], .int .i64 2] w fun e w' => ∃ v, e = .returned v ∧ Ints w' w.heap.size v (wts 2 xs fs) ∧ Below w.heap.size w w' := by
  obtain ⟨i0, hi0, hz0, hs0, hy0⟩ := info_parts info_int
  obtain ⟨va, va2, rfl, hcE⟩ := els_slice hE
  obtain ⟨fa, fc, rfl, hcI⟩ := ints_slice hI
  have LV := fun u => level2_any va xs.length va2 fa fs.length fc u
  have hwb : Below w.heap.size w ((w.alloc (.cells #[.slice va xs.length va2, .slice fa fs.length fc] 83)).alloc (.cells #[.slice va xs.length va2, .slice fa fs.length fc] 83)) := ((Below.refl _ _).alloc (Nat.le_refl _) _).alloc (by simp) _
  have q0 : ((w.alloc (.cells #[.slice va xs.length va2, .slice fa fs.length fc] 83)).alloc (.cells #[.slice va xs.length va2, .slice fa fs.length fc] 83)).cell? ⟨w.heap.size + 1, 0, none⟩ = some (.slice va xs.length va2) := by simp
  have q1 : ((w.alloc (.cells #[.slice va xs.length va2, .slice fa fs.length fc] 83)).alloc (.cells #[.slice va xs.length va2, .slice fa fs.length fc] 83)).cell? ⟨w.heap.size + 1, 1, none⟩ = some (.slice fa fs.length fc) := by simp
  have HL : Hid (fs.length = xs.length) := hl
  clear hE hI hl
  obtain ⟨W, HW⟩ : ∃ W, Hid (W = (w.alloc (.cells #[.slice va xs.length va2, .slice fa fs.length fc] 83)).alloc (.cells #[.slice va xs.length va2, .slice fa fs.length fc] 83)) := ⟨_, rfl⟩
  have hWs : w.heap.size + 2 ≤ W.heap.size := by rw [HW.out]; simp
  rw [← HW.out] at hwb q0 q1
  have HQ : Hid (W.cell? ⟨w.heap.size + 1, 0, none⟩ = some (.slice va xs.length va2) ∧ W.cell? ⟨w.heap.size + 1, 1, none⟩ = some (.slice fa fs.length fc)) := ⟨q0, q1⟩
  clear q0 q1
  go_enter Tryz.func42, Tryz.ntmps42
  go_wp2_with fail
  refine (LV _).mono ?_
  rintro e w1 ⟨rfl, hw1⟩
  obtain rfl : W = w1 := HW.out.trans hw1.symm
  have z0 : W.cell? ⟨w.heap.size, 0, none⟩ = some (.slice va xs.length va2) := by rw [HW.out]; simp
  clear LV hw1 HW
  go_wp2_with fail
  go_loopw [6, 15] (fun v i wr => WtRel W 2 xs fs v i wr) (fun _ i _ => xs.length - (intOf i).toNat)
  case atStart => exact ⟨0, Nat.zero_le _, rfl, World.ownsRow_nil _ _ _ _, Below.refl _ _⟩
  case round =>
    clear z0
    obtain ⟨k, hk, rfl, hR, hbw⟩ := hrel
    have hrl := wtsK_len 2 xs fs k
    by_cases hlt : k < xs.length
    · have hk8 : (k : Int) < (xs.length : Int) := by omega
      have p0 : wr.cell? ⟨w.heap.size + 1, 0, none⟩ = some (.slice va xs.length va2) := (hbw.cell (p := ⟨w.heap.size + 1, 0, none⟩) (by show w.heap.size + 1 < W.heap.size; omega)).trans HQ.out.1
      have p1 : wr.cell? ⟨w.heap.size + 1, 1, none⟩ = some (.slice fa fs.length fc) := (hbw.cell (p := ⟨w.heap.size + 1, 1, none⟩) (by show w.heap.size + 1 < W.heap.size; omega)).trans HQ.out.2
      obtain ⟨e, he⟩ : ∃ e, xs[k]? = some e := ⟨_, List.getElem?_eq_getElem hlt⟩
      obtain ⟨g, hga, hgl, y1, y2, y3, _⟩ := hcE k e he
      subst hga
      have HV : Hid (wtL 2 (elAt xs k) (at0 fs k) = e.second) := by show _ = _; rw [elAt_of he]; rfl
      have CK := clos2_any wr (w.heap.size + 1) g xs.length va2 k (.slice fa fs.length fc) e.second p0 p1 hlt ((hbw.cell (p := ⟨g, k * 4 + 1, none⟩) (by show g < W.heap.size; omega)).trans (by simpa using (hwb.cell (p := ⟨g, k * 4 + 1, none⟩) hgl).trans y2))
      clear y1 hcE hcI p0 p1
      go_wp2_with fail
      refine CK.mono ?_
      rintro e' w3 ⟨rfl, hw3⟩
      obtain rfl : wr = w3 := hw3.symm
      clear CK
      have hsz := hbw.size
      by_cases h0 : e.second = 0
      · have HS : Hid (wtsK 2 xs fs (k + 1) = wtsK 2 xs fs k) := wtsK_zero (HV.out.trans h0)
        have HR : Hid (Ints _ _ _ _) := hR
        clear hR HV
        go_wp2
        exact ⟨⟨k + 1, by omega, by go_num, by rw [HS.out]; exact HR.out, hbw⟩, by simp [intOf]; omega⟩
      · have h0' : (e.second == 0) = false := by simpa using h0
        have HS : Hid (wtsK 2 xs fs (k + 1) = wtsK 2 xs fs k ++ [e.second]) := by
          have := wtsK_some (lv := 2) (xs := xs) (fs := fs) (k := k) (by rw [HV.out]; exact h0)
          rw [HV.out] at this
          exact this
        clear HV
        unfold Ints at hR
        go_wp2_with (at_builtin; refine wpList_append_own _ rfl _ _ 39 rfl W.heap.size 3 i0 (.int .i64 0) 1 8 Tryz.underlying39 hi0 hz0 hs0 hy0 rfl (by decide) _ _ _ rfl (hR.alloc _) ⟨wr.heap.size, 0, none⟩ 1 1 [.int .i64 (e.second)] rfl rfl (cells1_at _ _ _ _ (by simp)) (fun u hu => by simp at hu; subst hu; rfl) (by unfold maxLen; omega) (by omega) (by simp; omega) ?_)
        intro v6 w4 ho4 hg4 _
        have hI4 : Ints w4 W.heap.size v6 (wtsK 2 xs fs k ++ [e.second]) := Ints.snoc ho4
        have hb4 : Below W.heap.size W w4 := Below.grown (hbw.alloc hbw.size _) hg4 (hbw.alloc hbw.size _).size (fun j hj => (World.ownsRow.lt hR j hj).1)
        have HI4 : Hid (Ints _ _ _ _) := hI4
        clear ho4 hg4 hR hI4
        go_wp2
        exact ⟨⟨k + 1, by omega, by go_num, by rw [HS.out]; exact HI4.out, hb4⟩, by simp [intOf]; omega⟩
    · have hk3 : k = xs.length := by omega
      subst hk3
      have HR : Hid (Ints _ _ _ _) := hR
      clear hR
      go_wp2
      go_ret
      exact ⟨_, rfl, low_ints HR.out (by omega), hwb.trans (hbw.mono (by omega))⟩

set_option maxRecDepth 100000 in
set_option maxHeartbeats 1000000 in
theorem clos3_any (u : World) (b g n c k : Nat) (vf : Value) (x : Int) (hb : u.cell? ⟨b, 0, none⟩ = some (.slice (some ⟨g, 0, none⟩) n c)) (_hb2 : u.cell? ⟨b, 1, none⟩ = some vf) (hk : k < n) (hx : u.cell? ⟨g, k * 4 + 2, none⟩ = some (.int .i64 x)) :
    Calls Tryz.prog 79 #[.int .i64 k, .pointer (some ⟨b, 0, none⟩)] u fun e w' => e = .returned (.int .i64 x) ∧ w' = u := by
  have hk8 : (k : Int) < (n : Int) := by omega
  go_enter Tryz.func79, Tryz.ntmps79
  go_wp2
  go_ret
  exact ⟨rfl, rfl⟩

set_option maxRecDepth 100000 in
set_option maxHeartbeats 4000000 in
theorem weights3_any {w : World} {B B' : Nat} {ve vf : Value} {xs : List El} {fs : List Int} (hE : Elems w B ve xs) (hI : Ints w B' vf fs) (hl : fs.length = xs.length) (hn : xs.length ≤ 1048576) :
    Calls Tryz.prog 42 #[.agg #[ve, vf], .int .i64 3] w fun e w' => ∃ v, e = .returned v ∧ Ints w' w.heap.size v (wts 3 xs fs) ∧ Below w.heap.size w w' := by
  obtain ⟨i0, hi0, hz0, hs0, hy0⟩ := info_parts info_int
  obtain ⟨va, va2, rfl, hcE⟩ := els_slice hE
  obtain ⟨fa, fc, rfl, hcI⟩ := ints_slice hI
  have LV := fun u => level3_any va xs.length va2 fa fs.length fc u
  have hwb : Below w.heap.size w ((w.alloc (.cells #[.slice va xs.length va2, .slice fa fs.length fc] 83)).alloc (.cells #[.slice va xs.length va2, .slice fa fs.length fc] 83)) := ((Below.refl _ _).alloc (Nat.le_refl _) _).alloc (by simp) _
  have q0 : ((w.alloc (.cells #[.slice va xs.length va2, .slice fa fs.length fc] 83)).alloc (.cells #[.slice va xs.length va2, .slice fa fs.length fc] 83)).cell? ⟨w.heap.size + 1, 0, none⟩ = some (.slice va xs.length va2) := by simp
  have q1 : ((w.alloc (.cells #[.slice va xs.length va2, .slice fa fs.length fc] 83)).alloc (.cells #[.slice va xs.length va2, .slice fa fs.length fc] 83)).cell? ⟨w.heap.size + 1, 1, none⟩ = some (.slice fa fs.length fc) := by simp
  have HL : Hid (fs.length = xs.length) := hl
  clear hE hI hl
  obtain ⟨W, HW⟩ : ∃ W, Hid (W = (w.alloc (.cells #[.slice va xs.length va2, .slice fa fs.length fc] 83)).alloc (.cells #[.slice va xs.length va2, .slice fa fs.length fc] 83)) := ⟨_, rfl⟩
  have hWs : w.heap.size + 2 ≤ W.heap.size := by rw [HW.out]; simp
  rw [← HW.out] at hwb q0 q1
  have HQ : Hid (W.cell? ⟨w.heap.size + 1, 0, none⟩ = some (.slice va xs.length va2) ∧ W.cell? ⟨w.heap.size + 1, 1, none⟩ = some (.slice fa fs.length fc)) := ⟨q0, q1⟩
  clear q0 q1
  go_enter Tryz.func42, Tryz.ntmps42
  go_wp2_with fail
  refine (LV _).mono ?_
  rintro e w1 ⟨rfl, hw1⟩
  obtain rfl : W = w1 := HW.out.trans hw1.symm
  have z0 : W.cell? ⟨w.heap.size, 0, none⟩ = some (.slice va xs.length va2) := by rw [HW.out]; simp
  clear LV hw1 HW
  go_wp2_with fail
  go_loopw [6, 15] (fun v i wr => WtRel W 3 xs fs v i wr) (fun _ i _ => xs.length - (intOf i).toNat)
  case atStart => exact ⟨0, Nat.zero_le _, rfl, World.ownsRow_nil _ _ _ _, Below.refl _ _⟩
  case round =>
    clear z0
    obtain ⟨k, hk, rfl, hR, hbw⟩ := hrel
    have hrl := wtsK_len 3 xs fs k
    by_cases hlt : k < xs.length
    · have hk8 : (k : Int) < (xs.length : Int) := by omega
      have p0 : wr.cell? ⟨w.heap.size + 1, 0, none⟩ = some (.slice va xs.length va2) := (hbw.cell (p := ⟨w.heap.size + 1, 0, none⟩) (by show w.heap.size + 1 < W.heap.size; omega)).trans HQ.out.1
      have p1 : wr.cell? ⟨w.heap.size + 1, 1, none⟩ = some (.slice fa fs.length fc) := (hbw.cell (p := ⟨w.heap.size + 1, 1, none⟩) (by show w.heap.size + 1 < W.heap.size; omega)).trans HQ.out.2
      obtain ⟨e, he⟩ : ∃ e, xs[k]? = some e := ⟨_, List.getElem?_eq_getElem hlt⟩
      obtain ⟨g, hga, hgl, y1, y2, y3, _⟩ := hcE k e he
      subst hga
      have HV : Hid (wtL 3 (elAt xs k) (at0 fs k) = e.third) := by show _ = _; rw [elAt_of he]; rfl
      have CK := clos3_any wr (w.heap.size + 1) g xs.length va2 k (.slice fa fs.length fc) e.third p0 p1 hlt ((hbw.cell (p := ⟨g, k * 4 + 2, none⟩) (by show g < W.heap.size; omega)).trans (by simpa using (hwb.cell (p := ⟨g, k * 4 + 2, none⟩) hgl).trans y3))
      clear y1 hcE hcI p0 p1
      go_wp2_with fail
      refine CK.mono ?_
      rintro e' w3 ⟨rfl, hw3⟩
      obtain rfl : wr = w3 := hw3.symm
      clear CK
      have hsz := hbw.size
      by_cases h0 : e.third = 0
      · have HS : Hid (wtsK 3 xs fs (k + 1) = wtsK 3 xs fs k) := wtsK_zero (HV.out.trans h0)
        have HR : Hid (Ints _ _ _ _) := hR
        clear hR HV
        go_wp2
        exact ⟨⟨k + 1, by omega, by go_num, by rw [HS.out]; exact HR.out, hbw⟩, by simp [intOf]; omega⟩
      · have h0' : (e.third == 0) = false := by simpa using h0
        have HS : Hid (wtsK 3 xs fs (k + 1) = wtsK 3 xs fs k ++ [e.third]) := by
          have := wtsK_some (lv := 3) (xs := xs) (fs := fs) (k := k) (by rw [HV.out]; exact h0)
          rw [HV.out] at this
          exact this
        clear HV
        unfold Ints at hR
        go_wp2_with (at_builtin; refine wpList_append_own _ rfl _ _ 39 rfl W.heap.size 3 i0 (.int .i64 0) 1 8 Tryz.underlying39 hi0 hz0 hs0 hy0 rfl (by decide) _ _ _ rfl (hR.alloc _) ⟨wr.heap.size, 0, none⟩ 1 1 [.int .i64 (e.third)] rfl rfl (cells1_at _ _ _ _ (by simp)) (fun u hu => by simp at hu; subst hu; rfl) (by unfold maxLen; omega) (by omega) (by simp; omega) ?_)
        intro v6 w4 ho4 hg4 _
        have hI4 : Ints w4 W.heap.size v6 (wtsK 3 xs fs k ++ [e.third]) := Ints.snoc ho4
        have hb4 : Below W.heap.size W w4 := Below.grown (hbw.alloc hbw.size _) hg4 (hbw.alloc hbw.size _).size (fun j hj => (World.ownsRow.lt hR j hj).1)
        have HI4 : Hid (Ints _ _ _ _) := hI4
        clear ho4 hg4 hR hI4
        go_wp2
        exact ⟨⟨k + 1, by omega, by go_num, by rw [HS.out]; exact HI4.out, hb4⟩, by simp [intOf]; omega⟩
    · have hk3 : k = xs.length := by omega
      subst hk3
      have HR : Hid (Ints _ _ _ _) := hR
      clear hR
      go_wp2
      go_ret
      exact ⟨_, rfl, low_ints HR.out (by omega), hwb.trans (hbw.mono (by omega))⟩

set_option maxRecDepth 100000 in
set_option maxHeartbeats 1000000 in
theorem clos4_any (u : World) (b g n c k : Nat) (ve : Value) (x : Int) (_hb2 : u.cell? ⟨b, 0, none⟩ = some ve) (hb : u.cell? ⟨b, 1, none⟩ = some (.slice (some ⟨g, 0, none⟩) n c)) (hk : k < n) (hx : u.cell? ⟨g, k, none⟩ = some (.int .i64 x)) :
    Calls Tryz.prog 80 #[.int .i64 k, .pointer (some ⟨b, 0, none⟩)] u fun e w' => e = .returned (.int .i64 x) ∧ w' = u := by
  have hk8 : (k : Int) < (n : Int) := by omega
  go_enter Tryz.func80, Tryz.ntmps80
  go_wp2
  go_ret
  exact ⟨rfl, rfl⟩

set_option maxRecDepth 100000 in
set_option maxHeartbeats 4000000 in
theorem weights4_any {w : World} {B B' : Nat} {ve vf : Value} {xs : List El} {fs : List Int} (hE : Elems w B ve xs) (hI : Ints w B' vf fs) (hl : fs.length = xs.length) (hn : xs.length ≤ 1048576) :
    Calls Tryz.prog 42 #[.agg #[ve, vf], .int .i64 4] w fun e w' => ∃ v, e = .returned v ∧ Ints w' w.heap.size v (wts 4 xs fs) ∧ Below w.heap.size w w' := by
  obtain ⟨i0, hi0, hz0, hs0, hy0⟩ := info_parts info_int
  obtain ⟨va, va2, rfl, hcE⟩ := els_slice hE
  obtain ⟨fa, fc, rfl, hcI⟩ := ints_slice hI
  have LV := fun u => level4_any va xs.length va2 fa fs.length fc u
  have hwb : Below w.heap.size w ((w.alloc (.cells #[.slice va xs.length va2, .slice fa fs.length fc] 83)).alloc (.cells #[.slice va xs.length va2, .slice fa fs.length fc] 83)) := ((Below.refl _ _).alloc (Nat.le_refl _) _).alloc (by simp) _
  have q0 : ((w.alloc (.cells #[.slice va xs.length va2, .slice fa fs.length fc] 83)).alloc (.cells #[.slice va xs.length va2, .slice fa fs.length fc] 83)).cell? ⟨w.heap.size + 1, 0, none⟩ = some (.slice va xs.length va2) := by simp
  have q1 : ((w.alloc (.cells #[.slice va xs.length va2, .slice fa fs.length fc] 83)).alloc (.cells #[.slice va xs.length va2, .slice fa fs.length fc] 83)).cell? ⟨w.heap.size + 1, 1, none⟩ = some (.slice fa fs.length fc) := by simp
  have HL : Hid (fs.length = xs.length) := hl
  clear hE hI hl
  obtain ⟨W, HW⟩ : ∃ W, Hid (W = (w.alloc (.cells #[.slice va xs.length va2, .slice fa fs.length fc] 83)).alloc (.cells #[.slice va xs.length va2, .slice fa fs.length fc] 83)) := ⟨_, rfl⟩
  have hWs : w.heap.size + 2 ≤ W.heap.size := by rw [HW.out]; simp
  rw [← HW.out] at hwb q0 q1
  have HQ : Hid (W.cell? ⟨w.heap.size + 1, 0, none⟩ = some (.slice va xs.length va2) ∧ W.cell? ⟨w.heap.size + 1, 1, none⟩ = some (.slice fa fs.length fc)) := ⟨q0, q1⟩
  clear q0 q1
  go_enter Tryz.func42, Tryz.ntmps42
  go_wp2_with fail
  refine (LV _).mono ?_
  rintro e w1 ⟨rfl, hw1⟩
  obtain rfl : W = w1 := HW.out.trans hw1.symm
  have z0 : W.cell? ⟨w.heap.size, 0, none⟩ = some (.slice va xs.length va2) := by rw [HW.out]; simp
  clear LV hw1 HW
  go_wp2_with fail
  go_loopw [6, 15] (fun v i wr => WtRel W 4 xs fs v i wr) (fun _ i _ => xs.length - (intOf i).toNat)
  case atStart => exact ⟨0, Nat.zero_le _, rfl, World.ownsRow_nil _ _ _ _, Below.refl _ _⟩
  case round =>
    clear z0
    obtain ⟨k, hk, rfl, hR, hbw⟩ := hrel
    have hrl := wtsK_len 4 xs fs k
    by_cases hlt : k < xs.length
    · have hk8 : (k : Int) < (xs.length : Int) := by omega
      have p0 : wr.cell? ⟨w.heap.size + 1, 0, none⟩ = some (.slice va xs.length va2) := (hbw.cell (p := ⟨w.heap.size + 1, 0, none⟩) (by show w.heap.size + 1 < W.heap.size; omega)).trans HQ.out.1
      have p1 : wr.cell? ⟨w.heap.size + 1, 1, none⟩ = some (.slice fa fs.length fc) := (hbw.cell (p := ⟨w.heap.size + 1, 1, none⟩) (by show w.heap.size + 1 < W.heap.size; omega)).trans HQ.out.2
      have hkf : k < fs.length := by have := HL.out; omega
      obtain ⟨g, hga, hgl, y1⟩ := hcI k hkf
      subst hga
      have HV : Hid (wtL 4 (elAt xs k) (at0 fs k) = at0 fs k) := by show _ = _; rfl
      have CK := clos4_any wr (w.heap.size + 1) g fs.length fc k (.slice va xs.length va2) (at0 fs k) p0 p1 hkf ((hbw.cell (p := ⟨g, k, none⟩) (by show g < W.heap.size; omega)).trans (by simpa using (hwb.cell (p := ⟨g, k, none⟩) hgl).trans y1))
      clear y1 hcE hcI p0 p1
      go_wp2_with fail
      refine CK.mono ?_
      rintro e' w3 ⟨rfl, hw3⟩
      obtain rfl : wr = w3 := hw3.symm
      clear CK
      have hsz := hbw.size
      by_cases h0 : at0 fs k = 0
      · have HS : Hid (wtsK 4 xs fs (k + 1) = wtsK 4 xs fs k) := wtsK_zero (HV.out.trans h0)
        have HR : Hid (Ints _ _ _ _) := hR
        clear hR HV
        go_wp2
        exact ⟨⟨k + 1, by omega, by go_num, by rw [HS.out]; exact HR.out, hbw⟩, by simp [intOf]; omega⟩
      · have h0' : (at0 fs k == 0) = false := by simpa using h0
        have HS : Hid (wtsK 4 xs fs (k + 1) = wtsK 4 xs fs k ++ [at0 fs k]) := by
          have := wtsK_some (lv := 4) (xs := xs) (fs := fs) (k := k) (by rw [HV.out]; exact h0)
          rw [HV.out] at this
          exact this
        clear HV
        unfold Ints at hR
        go_wp2_with (at_builtin; refine wpList_append_own _ rfl _ _ 39 rfl W.heap.size 3 i0 (.int .i64 0) 1 8 Tryz.underlying39 hi0 hz0 hs0 hy0 rfl (by decide) _ _ _ rfl (hR.alloc _) ⟨wr.heap.size, 0, none⟩ 1 1 [.int .i64 (at0 fs k)] rfl rfl (cells1_at _ _ _ _ (by simp)) (fun u hu => by simp at hu; subst hu; rfl) (by unfold maxLen; omega) (by omega) (by simp; omega) ?_)
        intro v6 w4 ho4 hg4 _
        have hI4 : Ints w4 W.heap.size v6 (wtsK 4 xs fs k ++ [at0 fs k]) := Ints.snoc ho4
        have hb4 : Below W.heap.size W w4 := Below.grown (hbw.alloc hbw.size _) hg4 (hbw.alloc hbw.size _).size (fun j hj => (World.ownsRow.lt hR j hj).1)
        have HI4 : Hid (Ints _ _ _ _) := hI4
        clear ho4 hg4 hR hI4
        go_wp2
        exact ⟨⟨k + 1, by omega, by go_num, by rw [HS.out]; exact HI4.out, hb4⟩, by simp [intOf]; omega⟩
    · have hk3 : k = xs.length := by omega
      subst hk3
      have HR : Hid (Ints _ _ _ _) := hR
      clear hR
      go_wp2
      go_ret
      exact ⟨_, rfl, low_ints HR.out (by omega), hwb.trans (hbw.mono (by omega))⟩
end Go.Proofs.YtddelohmppdndaaGreatDoor

namespace Go.Proofs.YtddelohmppdndaaGreatDoor
open Go.RowKit

theorem setCell_grown (u : World) (b o : Nat) (x : Value) : u.grownBy (u.setCell ⟨b, o, none⟩ x) (some b) := by
  refine ⟨rfl, rfl, rfl, by simp, fun k hk hne => ?_⟩
  have h : b ≠ k := fun e => hne (by rw [e])
  simp [World.setCell, Array.getElem?_modify, h]

theorem grown_ge {w u u' : World} {b : Nat} (h : Below w.heap.size w u) (hg : u.grownBy u' (some b)) (hb : w.heap.size ≤ b) : Below w.heap.size w u' := Below.grown h hg h.size (fun j hj => by cases hj; exact hb)
end Go.Proofs.YtddelohmppdndaaGreatDoor

namespace Go.Proofs.YtddelohmppdndaaGreatDoor.Dec

def bt (s : ByteArray) (k : Nat) : Nat := (s.get! k).toNat

theorem bt_lt (s : ByteArray) (k : Nat) : bt s k < 256 := (s.get! k).toNat_lt

theorem bt_get (s : ByteArray) (k : Nat) (h : k < s.size) : (s[k]'h).toNat = bt s k := by
  unfold bt
  simp [ByteArray.get!, getElem!_pos, h]
  rfl

def more (b : Nat) : Int :=
  if b < 128 then 0 else if b < 194 then -1 else if b < 224 then 1 else if b < 240 then 2 else if b < 245 then 3 else -1
def lo1 (b : Nat) : Nat := if b = 224 then 160 else if b = 240 then 144 else 128
def hi1 (b : Nat) : Nat := if b = 237 then 159 else if b = 244 then 143 else 191

def lo0 (b : Nat) : Nat := if more b ≤ 0 then 0 else lo1 b
def hi0 (b : Nat) : Nat := if more b ≤ 0 then 0 else hi1 b

theorem more_cases (b : Nat) : more b = -1 ∨ more b = 0 ∨ more b = 1 ∨ more b = 2 ∨ more b = 3 := by
  unfold more; repeat' split
  all_goals omega

def goes (t : ByteArray) (m : Nat) : Nat → Nat → Nat → Nat → Nat → Int × Nat × Bool
  | 0, _, _, _, r => (r, m + 1, true)
  | f + 1, k, lo, hi, r => if k < t.size ∧ lo ≤ bt t k ∧ bt t k ≤ hi then goes t m f (k + 1) 128 191 (r * 64 + bt t k % 64) else (65533, k, false)

def first (b m : Nat) : Nat := match m with | 0 => b | 1 => b % 32 | 2 => b % 16 | _ => b % 8

def one (t : ByteArray) : Int × Nat × Bool :=
  if more (bt t 0) < 0 then (65533, 1, false)
  else goes t (more (bt t 0)).toNat (more (bt t 0)).toNat 1 (lo1 (bt t 0)) (hi1 (bt t 0)) (first (bt t 0) (more (bt t 0)).toNat)

theorem goes_le (t : ByteArray) (m : Nat) : ∀ f k lo hi r, f + k = m + 1 → 1 ≤ k → k ≤ t.size →
    1 ≤ (goes t m f k lo hi r).2.1 ∧ (goes t m f k lo hi r).2.1 ≤ t.size := by
  intro f
  induction f with
  | zero => intro k lo hi r h1 h2 h3; simp [goes]; omega
  | succ f ih =>
    intro k lo hi r h1 h2 h3
    simp only [goes]
    split
    · exact ih (k + 1) 128 191 _ (by omega) (by omega) (by omega)
    · exact ⟨h2, h3⟩

theorem one_le (t : ByteArray) (h : 0 < t.size) : 1 ≤ (one t).2.1 ∧ (one t).2.1 ≤ t.size := by
  unfold one
  split
  · simp; omega
  · exact goes_le t _ _ _ _ _ _ rfl (Nat.le_refl _) (by omega)

def decT : Nat → ByteArray → List Int × Nat
  | 0, _ => ([], 0)
  | f + 1, t => if 0 < t.size then
      ((one t).1 :: (decT f (t.extract (one t).2.1 t.size)).1, (decT f (t.extract (one t).2.1 t.size)).2 + (if (one t).2.2 then 0 else 1))
    else ([], 0)

theorem decT_end (f : Nat) (t : ByteArray) (h : t.size = 0) : decT f t = ([], 0) := by
  cases f with
  | zero => rfl
  | succ f => simp [decT, h]

theorem size_extract (t : ByteArray) (n : Nat) : (t.extract n t.size).size = t.size - n := by
  simp [ByteArray.size_extract]

theorem bt_extract (t : ByteArray) (n k : Nat) (h : n + k < t.size) : bt (t.extract n t.size) k = bt t (n + k) := by
  have h1 : k < (t.extract n t.size).size := by rw [size_extract t n]; omega
  rw [← bt_get _ _ h1, ← bt_get _ _ h]
  simp [ByteArray.getElem_extract]

theorem extract_extract (t : ByteArray) (n m : Nat) : (t.extract n t.size).extract m (t.extract n t.size).size = t.extract (n + m) t.size := by
  ext i
  · simp [ByteArray.size_extract]; omega
  · simp [Nat.add_assoc]

theorem decT_len : ∀ f t, t.size ≤ f → (decT f t).1.length ≤ t.size ∧ (decT f t).2 ≤ t.size := by
  intro f
  induction f with
  | zero => intro t _; simp [decT]
  | succ f ih =>
    intro t h
    simp only [decT]
    split
    · rename_i h0
      have h1 := one_le t h0
      have h2 := size_extract t (one t).2.1
      have h3 := ih (t.extract (one t).2.1 t.size) (by omega)
      simp only [List.length_cons]
      constructor
      · omega
      · split <;> omega
    · simp

theorem goes_yes {t : ByteArray} {m f k lo hi r : Nat} (x : Nat) (hx : bt t k = x) (h : k < t.size ∧ lo ≤ x ∧ x ≤ hi) :
    goes t m (f + 1) k lo hi r = goes t m f (k + 1) 128 191 (r * 64 + x % 64) := by
  subst hx; simp only [goes, if_pos h]

theorem goes_no {t : ByteArray} {m f k lo hi r : Nat} (h : ¬ (k < t.size ∧ lo ≤ bt t k ∧ bt t k ≤ hi)) :
    goes t m (f + 1) k lo hi r = (65533, k, false) := by
  simp only [goes, if_neg h]

theorem lo_hi (x0 x1 : Nat) : (lo1 x0 ≤ x1 ∧ x1 ≤ hi1 x0) ↔ (128 ≤ x1 ∧ x1 ≤ 191 ∧ (x0 = 224 → 160 ≤ x1) ∧ (x0 = 240 → 144 ≤ x1) ∧ (x0 = 237 → x1 ≤ 159) ∧ (x0 = 244 → x1 ≤ 143)) := by
  unfold lo1 hi1
  repeat' split
  all_goals omega

set_option maxHeartbeats 2000000 in
/-- The language's own decoding gives the same rune; its width is that of the sequence where it is whole, else one byte. -/
theorem decode_one (s : ByteArray) (p : Nat) (h : p < s.size) :
    ((Utf8.decode s p).1 : Int) = (one (s.extract p s.size)).1 ∧
    (Utf8.decode s p).2 = (if (one (s.extract p s.size)).2.2 then (one (s.extract p s.size)).2.1 else 1) := by
  have e0 := bt_extract s p 0 (by omega)
  have e1 : p + 1 < s.size → bt (s.extract p s.size) 1 = bt s (p + 1) := bt_extract s p 1
  have e2 : p + 2 < s.size → bt (s.extract p s.size) 2 = bt s (p + 2) := bt_extract s p 2
  have e3 : p + 3 < s.size → bt (s.extract p s.size) 3 = bt s (p + 3) := bt_extract s p 3
  have hsz := size_extract s p
  generalize s.extract p s.size = t at *
  have b0 := bt_lt s (p + 0); have b1 := bt_lt s (p + 1); have b2 := bt_lt s (p + 2); have b3 := bt_lt s (p + 3)
  have d : Utf8.decode s p = (if bt s (p + 0) < 0x80 then (bt s (p + 0), 1)
    else if (bt s (p + 0) / 32 == 6 && (decide (p + 1 < s.size) && bt s (p + 1) / 64 == 2)) = true then
      if (bt s (p + 0) % 32) * 64 + bt s (p + 1) % 64 ≥ 0x80 then ((bt s (p + 0) % 32) * 64 + bt s (p + 1) % 64, 2) else (Utf8.runeError, 1)
    else if (bt s (p + 0) / 16 == 14 && (decide (p + 1 < s.size) && bt s (p + 1) / 64 == 2) && (decide (p + 2 < s.size) && bt s (p + 2) / 64 == 2)) = true then
      if (decide ((bt s (p + 0) % 16) * 4096 + (bt s (p + 1) % 64) * 64 + bt s (p + 2) % 64 ≥ 0x800) && Utf8.valid (((bt s (p + 0) % 16) * 4096 + (bt s (p + 1) % 64) * 64 + bt s (p + 2) % 64 : Nat) : Int)) = true then ((bt s (p + 0) % 16) * 4096 + (bt s (p + 1) % 64) * 64 + bt s (p + 2) % 64, 3) else (Utf8.runeError, 1)
    else if (bt s (p + 0) / 8 == 30 && (decide (p + 1 < s.size) && bt s (p + 1) / 64 == 2) && (decide (p + 2 < s.size) && bt s (p + 2) / 64 == 2) && (decide (p + 3 < s.size) && bt s (p + 3) / 64 == 2)) = true then
      if (decide ((bt s (p + 0) % 8) * 262144 + (bt s (p + 1) % 64) * 4096 + (bt s (p + 2) % 64) * 64 + bt s (p + 3) % 64 ≥ 0x10000) && Utf8.valid (((bt s (p + 0) % 8) * 262144 + (bt s (p + 1) % 64) * 4096 + (bt s (p + 2) % 64) * 64 + bt s (p + 3) % 64 : Nat) : Int)) = true then ((bt s (p + 0) % 8) * 262144 + (bt s (p + 1) % 64) * 4096 + (bt s (p + 2) % 64) * 64 + bt s (p + 3) % 64, 4) else (Utf8.runeError, 1)
    else (Utf8.runeError, 1)) := rfl
  rw [d]
  clear d
  unfold one
  rw [e0]
  clear e0
  generalize bt s (p + 0) = x0 at *
  generalize bt s (p + 1) = x1 at *
  generalize bt s (p + 2) = x2 at *
  generalize bt s (p + 3) = x3 at *
  by_cases c0 : x0 < 128
  · simp [more, c0, goes, first]
  by_cases c1 : x0 < 194
  · have a : ¬ (x0 / 16 = 14) := by omega
    have b : ¬ (x0 / 8 = 30) := by omega
    simp only [more, if_neg c0, if_pos c1]
    simp [a, b, Utf8.runeError]
    split <;> (try split) <;> simp <;> omega
  by_cases c2 : x0 < 224
  · have a : x0 / 32 = 6 := by omega
    have a2 : ¬ (x0 / 16 = 14) := by omega
    have a3 : ¬ (x0 / 8 = 30) := by omega
    have lh := lo_hi x0 x1
    simp only [more, if_neg c0, if_neg c1, if_pos c2]
    rw [if_neg (show ¬ ((1 : Int) < 0) by decide)]
    simp only [show (1 : Int).toNat = 1 from rfl]
    by_cases c : p + 1 < s.size ∧ x1 / 64 = 2
    · have v : 128 ≤ x0 % 32 * 64 + x1 % 64 := by omega
      rw [goes_yes x1 (e1 c.1) ⟨by omega, by omega⟩]
      simp [goes, first, a, c, v]
    · have f : ¬ (1 < t.size ∧ lo1 x0 ≤ bt t 1 ∧ bt t 1 ≤ hi1 x0) := by
        intro ⟨f1, f2⟩; rw [e1 (by omega)] at f2; omega
      rw [goes_no f]
      simp only [beq_iff_eq, Bool.and_eq_true, decide_eq_true_eq]
      rw [if_neg (fun q => c ⟨q.2.1, q.2.2⟩), if_neg (fun q => a2 q.1.1), if_neg (fun q => a3 q.1.1.1)]
      simp [Utf8.runeError]
  by_cases c3 : x0 < 240
  · have a : ¬ (x0 / 32 = 6) := by omega
    have a2 : x0 / 16 = 14 := by omega
    have a3 : ¬ (x0 / 8 = 30) := by omega
    have lh := lo_hi x0 x1
    simp only [more, if_neg c0, if_neg c1, if_neg c2, if_pos c3]
    rw [if_neg (show ¬ ((2 : Int) < 0) by decide)]
    simp only [show (2 : Int).toNat = 2 from rfl]
    simp only [beq_iff_eq, Bool.and_eq_true, decide_eq_true_eq]
    rw [if_neg (fun q => a q.1)]
    by_cases c : p + 1 < s.size ∧ lo1 x0 ≤ x1 ∧ x1 ≤ hi1 x0
    · rw [goes_yes x1 (e1 c.1) ⟨by omega, c.2⟩]
      by_cases cc : p + 2 < s.size ∧ x2 / 64 = 2
      · have v : x0 % 16 * 4096 + x1 % 64 * 64 + x2 % 64 ≥ 2048 ∧ Utf8.valid ((x0 % 16 * 4096 + x1 % 64 * 64 + x2 % 64 : Nat) : Int) = true := by
          simp only [Utf8.valid, Bool.or_eq_true, Bool.and_eq_true, decide_eq_true_eq]; omega
        rw [goes_yes x2 (e2 cc.1) ⟨by omega, by omega, by omega⟩]
        rw [if_pos ⟨⟨a2, c.1, by omega⟩, cc⟩, if_pos v]
        simp [goes, first]; omega
      · have f : ¬ (1 + 1 < t.size ∧ 128 ≤ bt t (1 + 1) ∧ bt t (1 + 1) ≤ 191) := by
          intro ⟨f1, f2⟩
          have := e2 (by omega)
          rw [show 1 + 1 = 2 from rfl, this] at f2; omega
        rw [goes_no f, if_neg (fun q => cc q.2), if_neg (fun q => a3 q.1.1.1)]
        simp [Utf8.runeError]
    · have f : ¬ (1 < t.size ∧ lo1 x0 ≤ bt t 1 ∧ bt t 1 ≤ hi1 x0) := by
        intro ⟨f1, f2⟩; rw [e1 (by omega)] at f2; exact c ⟨by omega, f2⟩
      rw [goes_no f]
      by_cases cc : (x0 / 16 = 14 ∧ p + 1 < s.size ∧ x1 / 64 = 2) ∧ p + 2 < s.size ∧ x2 / 64 = 2
      · have v : ¬ (x0 % 16 * 4096 + x1 % 64 * 64 + x2 % 64 ≥ 2048 ∧ Utf8.valid ((x0 % 16 * 4096 + x1 % 64 * 64 + x2 % 64 : Nat) : Int) = true) := by
          simp only [Utf8.valid, Bool.or_eq_true, Bool.and_eq_true, decide_eq_true_eq]; omega
        rw [if_pos cc, if_neg v]
        simp [Utf8.runeError]
      · rw [if_neg cc, if_neg (fun q => a3 q.1.1.1)]
        simp [Utf8.runeError]
  by_cases c4 : x0 < 245
  · have a : ¬ (x0 / 32 = 6) := by omega
    have a2 : ¬ (x0 / 16 = 14) := by omega
    have a3 : x0 / 8 = 30 := by omega
    have lh := lo_hi x0 x1
    simp only [more, if_neg c0, if_neg c1, if_neg c2, if_neg c3, if_pos c4]
    rw [if_neg (show ¬ ((3 : Int) < 0) by decide)]
    simp only [show (3 : Int).toNat = 3 from rfl]
    simp only [beq_iff_eq, Bool.and_eq_true, decide_eq_true_eq]
    rw [if_neg (fun q => a q.1), if_neg (fun q => a2 q.1.1)]
    by_cases c : p + 1 < s.size ∧ lo1 x0 ≤ x1 ∧ x1 ≤ hi1 x0
    · rw [goes_yes x1 (e1 c.1) ⟨by omega, c.2⟩]
      by_cases cc : p + 2 < s.size ∧ x2 / 64 = 2
      · rw [goes_yes x2 (e2 cc.1) ⟨by omega, by omega, by omega⟩]
        by_cases c5 : p + 3 < s.size ∧ x3 / 64 = 2
        · have v : x0 % 8 * 262144 + x1 % 64 * 4096 + x2 % 64 * 64 + x3 % 64 ≥ 65536 ∧ Utf8.valid ((x0 % 8 * 262144 + x1 % 64 * 4096 + x2 % 64 * 64 + x3 % 64 : Nat) : Int) = true := by
            simp only [Utf8.valid, Bool.or_eq_true, Bool.and_eq_true, decide_eq_true_eq]; omega
          rw [goes_yes x3 (e3 c5.1) ⟨by omega, by omega, by omega⟩]
          rw [if_pos ⟨⟨⟨a3, c.1, by omega⟩, cc⟩, c5⟩, if_pos v]
          simp [goes, first]; omega
        · have f : ¬ (1 + 1 + 1 < t.size ∧ 128 ≤ bt t (1 + 1 + 1) ∧ bt t (1 + 1 + 1) ≤ 191) := by
            intro ⟨f1, f2⟩
            have := e3 (by omega)
            rw [show 1 + 1 + 1 = 3 from rfl, this] at f2; omega
          rw [goes_no f, if_neg (fun q => c5 q.2)]
          simp [Utf8.runeError]
      · have f : ¬ (1 + 1 < t.size ∧ 128 ≤ bt t (1 + 1) ∧ bt t (1 + 1) ≤ 191) := by
          intro ⟨f1, f2⟩
          have := e2 (by omega)
          rw [show 1 + 1 = 2 from rfl, this] at f2; omega
        rw [goes_no f, if_neg (fun q => cc q.1.2)]
        simp [Utf8.runeError]
    · have f : ¬ (1 < t.size ∧ lo1 x0 ≤ bt t 1 ∧ bt t 1 ≤ hi1 x0) := by
        intro ⟨f1, f2⟩; rw [e1 (by omega)] at f2; exact c ⟨by omega, f2⟩
      rw [goes_no f]
      by_cases cc : ((x0 / 8 = 30 ∧ p + 1 < s.size ∧ x1 / 64 = 2) ∧ p + 2 < s.size ∧ x2 / 64 = 2) ∧ p + 3 < s.size ∧ x3 / 64 = 2
      · have v : ¬ (x0 % 8 * 262144 + x1 % 64 * 4096 + x2 % 64 * 64 + x3 % 64 ≥ 65536 ∧ Utf8.valid ((x0 % 8 * 262144 + x1 % 64 * 4096 + x2 % 64 * 64 + x3 % 64 : Nat) : Int) = true) := by
          simp only [Utf8.valid, Bool.or_eq_true, Bool.and_eq_true, decide_eq_true_eq]; omega
        rw [if_pos cc, if_neg v]
        simp [Utf8.runeError]
      · rw [if_neg cc]
        simp [Utf8.runeError]
  · have a : ¬ (x0 / 32 = 6) := by omega
    have a2 : ¬ (x0 / 16 = 14) := by omega
    simp only [more, if_neg c0, if_neg c1, if_neg c2, if_neg c3, if_neg c4]
    rw [if_pos (show ((-1 : Int) < 0) by decide)]
    simp only [beq_iff_eq, Bool.and_eq_true, decide_eq_true_eq]
    rw [if_neg (fun q => a q.1), if_neg (fun q => a2 q.1.1)]
    by_cases cc : ((x0 / 8 = 30 ∧ p + 1 < s.size ∧ x1 / 64 = 2) ∧ p + 2 < s.size ∧ x2 / 64 = 2) ∧ p + 3 < s.size ∧ x3 / 64 = 2
    · have v : ¬ (x0 % 8 * 262144 + x1 % 64 * 4096 + x2 % 64 * 64 + x3 % 64 ≥ 65536 ∧ Utf8.valid ((x0 % 8 * 262144 + x1 % 64 * 4096 + x2 % 64 * 64 + x3 % 64 : Nat) : Int) = true) := by
        simp only [Utf8.valid, Bool.or_eq_true, Bool.and_eq_true, decide_eq_true_eq]; omega
      rw [if_pos cc, if_neg v]
      simp [Utf8.runeError]
    · rw [if_neg cc]
      simp [Utf8.runeError]

/-- Of a sequence that breaks off the bytes behind the first one are further bytes. -/
theorem goes_cont (t : ByteArray) (m : Nat) : ∀ f k lo hi r, 128 ≤ lo → hi ≤ 191 → 1 ≤ k → (∀ j, 1 ≤ j → j < k → 128 ≤ bt t j ∧ bt t j ≤ 191) →
    (goes t m f k lo hi r).2.2 = false → ∀ j, 1 ≤ j → j < (goes t m f k lo hi r).2.1 → 128 ≤ bt t j ∧ bt t j ≤ 191 := by
  intro f
  induction f with
  | zero => intro k lo hi r _ _ _ _ h; simp [goes] at h
  | succ f ih =>
    intro k lo hi r hlo hhi hk hj h
    simp only [goes] at h ⊢
    split
    · rename_i c
      rw [if_pos c] at h
      refine ih (k + 1) 128 191 _ (by omega) (by omega) (by omega) ?_ h
      intro j j1 j2
      by_cases e : j = k
      · subst e; omega
      · exact hj j j1 (by omega)
    · exact hj

theorem one_cont (t : ByteArray) (h : (one t).2.2 = false) : ∀ j, 1 ≤ j → j < (one t).2.1 → 128 ≤ bt t j ∧ bt t j ≤ 191 := by
  unfold one at h ⊢
  split
  · intro j j1 j2; simp at j2; omega
  · rename_i c
    rw [if_neg c] at h
    refine goes_cont t _ _ _ _ _ _ ?_ ?_ (Nat.le_refl _) (fun j j1 j2 => by omega) h
    · unfold lo1; repeat' split
      all_goals omega
    · unfold hi1; repeat' split
      all_goals omega

/-- A further byte by itself is read as one byte. -/
theorem decode_cont (s : ByteArray) (p : Nat) (h : p < s.size) (h1 : 128 ≤ bt s p) (h2 : bt s p ≤ 191) : (Utf8.decode s p).2 = 1 := by
  rw [(decode_one s p h).2]
  have e0 := bt_extract s p 0 (by omega)
  have m : more (bt (s.extract p s.size) 0) = -1 := by
    rw [e0, Nat.add_zero]; unfold more; repeat' split
    all_goals omega
  have o : one (s.extract p s.size) = (65533, 1, false) := by unfold one; rw [m]; rfl
  rw [o]; rfl

theorem goes_bd (t : ByteArray) (m : Nat) : ∀ f k lo hi r, (goes t m f k lo hi r).1 = 65533 ∨ (0 ≤ (goes t m f k lo hi r).1 ∧ (goes t m f k lo hi r).1 < ((r + 1) * 64 ^ f : Nat)) := by
  intro f
  induction f with
  | zero => intro k lo hi r; simp [goes]; omega
  | succ f ih =>
    intro k lo hi r
    simp only [goes]
    split
    · rcases ih (k + 1) 128 191 (r * 64 + bt t k % 64) with h | h
      · exact .inl h
      · refine .inr ⟨h.1, Int.lt_of_lt_of_le h.2 ?_⟩
        have : (r * 64 + bt t k % 64 + 1) * 64 ^ f ≤ (r + 1) * 64 ^ (f + 1) := by
          rw [Nat.pow_succ, Nat.mul_comm (64 ^ f) 64, ← Nat.mul_assoc]
          exact Nat.mul_le_mul_right _ (by omega)
        exact_mod_cast this
    · exact .inl rfl

end Go.Proofs.YtddelohmppdndaaGreatDoor.Dec
