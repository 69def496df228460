/- Proved: for every Rules r and every string s, impl.FirstsOf answers as the specification's FirstsOf, every weight, writes nothing into its arguments, and its answer owns its memory, so the law FnExactFirstsOf returns true and leaves the input as it was; the tables are as the program's own text lays them (the tied card). -/
import Derived.Test.YtanfebccenfffafDoorMG5
import Derived.Test.YtanfebccenfffafDoorMG7
import Derived.Test.YtanfebccenfffafDoorMG8
import Derived.Test.YtanfebccenfffafDoorEl
import Derived.Test.YtanfebccenfffafDoorCards
import Derived.Test.YtanfebccenfffafDoorTie
import Derived.WalkKit
import Derived.ProofKit
import Derived.OpenShut
import Derived.LaidMore
import Derived.Stop.Joined
import Derived.ChangeOld
namespace Go.Proofs.YtanfebccenfffafDoor
open Go.RowKit

theorem firsT_of {es : List Ent} {sh : Bool} {lv : Int} {x : ByteArray} : firsT es sh lv x = wts 1 (counted sh (elsA es lv x)) (fourths sh (elsA es lv x)) := by
  unfold firsT elsA
  split
  · rfl
  · rfl

set_option maxRecDepth 100000 in
set_option maxHeartbeats 4000000 in
theorem implFirsts_any {w : World} {B : Nat} {ve : Value} {es : List Ent} {sh : Bool} {lv : Int} (x : ByteArray) (hx : x.size ≤ 1048576) (hE : Ents w B ve es) (hr : ∀ e ∈ es, e.runes.length ≤ 1048576) (ht : Tabs3 w) :
    Calls Tryd.prog 25 #[.agg #[ve, .bool sh, .int .i64 lv], .string x] w fun e w' => ∃ v, e = .returned (.tuple #[v, .bool (okE es lv x)]) ∧ Ints w' w.heap.size v (firsT es sh lv x) ∧ Below w.heap.size w w' := by
  obtain ⟨va, vc, rfl⟩ : ∃ a c, ve = .slice a es.length c := by
    rcases hE.form with ⟨rfl, rfl⟩ | ⟨_, _, rfl, _, _, _, _⟩
    · exact ⟨_, _, rfl⟩
    · exact ⟨_, _, rfl⟩
  have hbx : Below w.heap.size w (w.alloc (.cells #[.slice va es.length vc, .bool sh, .int .i64 lv] 33)) := (Below.refl _ _).alloc (Nat.le_refl _) _
  have C := count_any (sh := sh) (lv := lv) x hx (hE.below hbx) hr (ht.below hbx)
  have hlen := elsA_len es lv x
  rw [firsT_of]
  have hcl := counted_len sh (elsA es lv x)
  have hfl := fourths_len sh (elsA es lv x)
  have HBX : Hid (Below _ _ _) := hbx
  have hfc : (fourths sh (elsA es lv x)).length = (counted sh (elsA es lv x)).length := by omega
  have hcn : (counted sh (elsA es lv x)).length ≤ 1048576 := by omega
  have HFC : Hid (_ = _) := hfc
  clear hE ht hr hx hlen hcl hfl hfc hbx
  cases hok : okE es lv x
  · rw [hok] at C
    have he0 : elsA es lv x = [] := by unfold elsA; rw [hok]; rfl
    rw [he0, counted_nil, fourths_nil] at C
    rw [he0, counted_nil, fourths_nil]
    clear hok he0 HFC hcn
    go_enter Tryd.func25, Tryd.ntmps25
    go_wp2_with fail
    refine C.mono ?_
    rintro e w1 ⟨v1, v2, rfl, e1, i1, b1⟩
    obtain ⟨a1, k1, rfl⟩ := els_form e1
    obtain ⟨a2, k2, rfl⟩ := ints_form i1
    have HB1 : Hid (Below _ _ _) := HBX.out.trans (b1.mono HBX.out.size)
    clear C i1 e1 b1
    go_wp2
    go_ret2
    exact ⟨_, rfl, ⟨rfl, .inl ⟨rfl, rfl⟩⟩, HB1.out.alloc HB1.out.size _⟩
  · rw [hok] at C
    clear hok
    generalize counted sh (elsA es lv x) = xs at *
    generalize fourths sh (elsA es lv x) = fs at *
    go_enter Tryd.func25, Tryd.ntmps25
    go_wp2_with fail
    refine C.mono ?_
    rintro e w1 ⟨v1, v2, rfl, e1, i1, b1⟩
    obtain ⟨a1, k1, rfl⟩ := els_form e1
    obtain ⟨a2, k2, rfl⟩ := ints_form i1
    have HB1 : Hid (Below _ _ _) := HBX.out.trans (b1.mono HBX.out.size)
    have hb2 : Below w1.heap.size w1 (w1.alloc (.cells #[.slice a1 xs.length k1, .slice a2 fs.length k2] 68)) := (Below.refl _ _).alloc (Nat.le_refl _) _
    have WT := weights1_any (e1.below hb2) (i1.below hb2) HFC.out hcn
    have HB2 : Hid (Below _ _ _) := HB1.out.trans (hb2.mono HB1.out.size)
    clear C i1 e1 b1 hb2
    go_wp2_with fail
    refine WT.mono ?_
    rintro e w3 ⟨v3, rfl, i3, b3⟩
    have HI3 : Hid (Ints _ _ _ _) := i3
    clear WT i3
    go_wp2
    go_ret2
    exact ⟨_, rfl, low_ints HI3.out HB2.out.size, HB2.out.trans (b3.mono HB2.out.size)⟩
end Go.Proofs.YtanfebccenfffafDoor

namespace Go.Proofs.YtanfebccenfffafDoor
open Go.RowKit

def FiRel (W : World) (xs : List El) (fs : List Int) (v7 i : Value) (wr : World) : Prop :=
  ∃ k : Nat, k ≤ xs.length ∧ i = .int .i64 k ∧ Ints wr W.heap.size v7 (wtsK 1 xs fs k) ∧ Below W.heap.size W wr

set_option maxRecDepth 100000 in
set_option maxHeartbeats 4000000 in
theorem firsts4_any {w : World} {B B' : Nat} {v vl : Value} {es : List Ent} {sh : Bool} {lv : Int} {l : List Int} (hE : Ents w B v es) (hn : es.length ≤ 1048576) (hr : ∀ e ∈ es, e.runes.length ≤ 1048576)
    (hL : Ints w B' vl l) (hl : l.length ≤ 200) (hg : ∀ x ∈ l, 0 ≤ x ∧ x ≤ 1114111) :
    Calls Tryd.prog 48 #[.agg #[v, .bool sh, .int .i64 lv], vl] w fun e w' => ∃ v', e = .returned v' ∧ Ints w' w.heap.size v' (firstsB es sh l) ∧ Below w.heap.size w w' := by
  obtain ⟨va, vc, rfl⟩ := ents_slice hE
  obtain ⟨al, cl, rfl⟩ := lenS_form hL
  obtain ⟨i0, hi0, hz0, hs0, hy0⟩ := info_parts info_int
  have hbx : Below w.heap.size w (w.alloc (.cells #[.slice va es.length vc, .bool sh, .int .i64 lv] 33)) := (Below.refl _ _).alloc (Nat.le_refl _) _
  have hbox : BoxS (w.alloc (.cells #[.slice va es.length vc, .bool sh, .int .i64 lv] 33)) w.heap.size (.slice va es.length vc) sh lv := heap_alloc_new w _
  have hlb : w.heap.size < (w.alloc (.cells #[.slice va es.length vc, .bool sh, .int .i64 lv] 33)).heap.size := by simp
  have EL := fun (u : World) (hu : Below (w.alloc (.cells #[.slice va es.length vc, .bool sh, .int .i64 lv] 33)).heap.size (w.alloc (.cells #[.slice va es.length vc, .bool sh, .int .i64 lv] 33)) u) => elems4S_any (sh := sh) (lv := lv) ((hE.below hbx).below hu) hn hr ((hL.below hbx).below hu) (by omega) hg
  have hlen := elems4_len es l
  unfold firstsB
  generalize elems4 es l = el at *
  have hel : el.length ≤ 400 := by omega
  have FO := fun (u : World) (B : Nat) (v : Value) (h : Elems u B v el) => fourth_any sh (by omega) h
  have hcl := counted_len sh el
  generalize counted sh el = xs at *
  generalize fourths sh el = fs at *
  have hxl : xs.length ≤ 400 := by omega
  clear hE hL hr hg hlen hcl
  obtain ⟨W0, HW0⟩ : ∃ W0, Hid (W0 = w.alloc (.cells #[.slice va es.length vc, .bool sh, .int .i64 lv] 33)) := ⟨_, rfl⟩
  rw [← HW0.out] at hbx hbox hlb EL
  obtain ⟨c0, c1, c2⟩ := hbox.cells
  have hS : W0.cell? ⟨w.heap.size, 0, none⟩ = some (.slice va es.length vc) ∧ W0.cell? ⟨w.heap.size, 1, none⟩ = some (.bool sh) ∧ W0.cell? ⟨w.heap.size, 2, none⟩ = some (.int .i64 lv) ∧ w.heap.size < W0.heap.size ∧ Below W0.heap.size W0 W0 := ⟨c0, c1, c2, hlb, Below.refl _ _⟩
  have hS2 := BoxW.keep ((Below.refl W0.heap.size W0).drew) hS
  have EL2 := fun (u : World) (hu : u.cell? ⟨w.heap.size, 0, none⟩ = some (.slice va es.length vc) ∧ u.cell? ⟨w.heap.size, 1, none⟩ = some (.bool sh) ∧ u.cell? ⟨w.heap.size, 2, none⟩ = some (.int .i64 lv) ∧ w.heap.size < W0.heap.size ∧ Below W0.heap.size W0 u) => EL u hu.2.2.2.2
  clear EL hbox
  go_enter Tryd.func48, Tryd.ntmps48
  go_wp2_with fail
  rw [← HW0.out]
  clear HW0
  go_region_held (fun u => u.cell? ⟨w.heap.size, 0, none⟩ = some (.slice va es.length vc) ∧ u.cell? ⟨w.heap.size, 1, none⟩ = some (.bool sh) ∧ u.cell? ⟨w.heap.size, 2, none⟩ = some (.int .i64 lv) ∧ w.heap.size < W0.heap.size ∧ Below W0.heap.size W0 u)
    (first | exact hS2 | exact BoxW.keep (by assumption) (by assumption))
    (first | (go_at_call 41; refine (EL2 _ (by assumption)).mono ?_; rintro e w' ⟨vE, rfl, hEl, hbw⟩; obtain ⟨aE, cE, rfl⟩ := (show ∃ a c, vE = .slice a el.length c by obtain ⟨h, _⟩ | ⟨g, cap, h, _⟩ := hEl.form <;> (first | exact ⟨_, _, h⟩ | (rename_i h2; subst h2; exact ⟨_, _, h⟩)))) | (go_at_call 69; refine (FO _ _ _ (by assumption)).mono ?_; rintro e w' ⟨v5, v6, rfl, hI5, hE6, hbw⟩))
  all_goals
    obtain ⟨_, _, _, _, hbW⟩ := (show w'.cell? ⟨w.heap.size, 0, none⟩ = _ ∧ _ ∧ _ ∧ _ ∧ Below W0.heap.size W0 w' by assumption)
    have HBW : Hid (Below w.heap.size w w') := hbx.trans (hbW.mono hbx.size)
    obtain ⟨fa, fc, rfl, _⟩ := ints_sliceS hI5
    obtain ⟨xa, xc, rfl, hcE⟩ := els_sliceS hE6
    have HCE : Hid _ := hcE
    obtain ⟨W, HWW⟩ : ∃ W, Hid (W = w') := ⟨_, rfl⟩
    have hWW := HWW.out
    subst hWW
    clear hcE hI5 hE6 hbW hS hS2 EL2 FO c0 c1 c2 hbx hlb HWW
    try clear hEl
    try clear hbw
    go_wp2_with fail
    go_loopw [7, 21] (fun v7 i wr => FiRel W xs fs v7 i wr) (fun _ i _ => xs.length - (intOf i).toNat)
    case atStart => exact ⟨0, by omega, rfl, World.ownsRow_nil _ _ _ _, Below.refl _ _⟩
    case round =>
      obtain ⟨k, hk, rfl, hK, hbw⟩ := hrel
      have hwl := wtsK_len 1 xs fs k
      by_cases hlk : k < xs.length
      · obtain ⟨e, he⟩ : ∃ e, xs[k]? = some e := ⟨_, List.getElem?_eq_getElem hlk⟩
        obtain ⟨ge, rfl, hgl, y0, y1, y2, y3⟩ := HCE.out k e he
        have hk8 : (k : Int) < (xs.length : Int) := by omega
        have a0 : wr.cell? ⟨ge, k * 4, none⟩ = some (.int .i64 e.first) := (hbw.cell (p := ⟨ge, k * 4, none⟩) hgl).trans y0
        have a1 : wr.cell? ⟨ge, k * 4 + 1, none⟩ = some (.int .i64 e.second) := (hbw.cell (p := ⟨ge, k * 4 + 1, none⟩) hgl).trans y1
        have a2 : wr.cell? ⟨ge, k * 4 + 2, none⟩ = some (.int .i64 e.third) := (hbw.cell (p := ⟨ge, k * 4 + 2, none⟩) hgl).trans y2
        have a3 : wr.cell? ⟨ge, k * 4 + 3, none⟩ = some (.bool e.varies) := (hbw.cell (p := ⟨ge, k * 4 + 3, none⟩) hgl).trans y3
        have HX : Hid (wtL 1 (elAt xs k) (at0 fs k) = e.first) := by show _ = _; rw [elAt_at he]; rfl
        have hsz3 := hbw.size
        have hba := hbw.alloc hbw.size (.cells #[.int .i64 e.first, .int .i64 e.second, .int .i64 e.third, .bool e.varies] 28)
        clear y0 y1 y2 y3 he hgl
        by_cases hX0 : e.first = 0
        · have HT : Hid (wtsK 1 xs fs (k + 1) = wtsK 1 xs fs k) := by show _ = _; rw [wtsK, ifNot_zero (HX.out.trans hX0), List.append_nil]
          have HK4 : Hid (Ints _ _ _ _) := World.ownsRow.alloc hK (.cells #[.int .i64 e.first, .int .i64 e.second, .int .i64 e.third, .bool e.varies] 28)
          have HBA : Hid (Below _ _ _) := hba
          clear hK HX hba hbw
          obtain ⟨x0, x1, x2, x3⟩ := e
          simp only at a0 a1 a2 a3 hX0 HK4 HBA
          subst hX0
          go_wp2
          exact ⟨⟨k + 1, by omega, by go_num, by rw [HT.out]; exact HK4.out, HBA.out⟩, by simp [intOf]; omega⟩
        · have hX0' : (e.first == 0) = false := by simpa using hX0
          have HT : Hid (wtsK 1 xs fs (k + 1) = wtsK 1 xs fs k ++ [e.first]) := by
            show _ = _
            rw [wtsK, HX.out, ifNot_some hX0]
          have hK2 := World.ownsRow.alloc hK (.cells #[.int .i64 e.first, .int .i64 e.second, .int .i64 e.third, .bool e.varies] 28)
          clear hK HX
          go_wp2_with (at_builtin; refine wpList_append_own _ rfl _ _ 25 rfl W.heap.size 3 i0 (.int .i64 0) 1 8 Tryd.underlying25 hi0 hz0 hs0 hy0 rfl (by decide) _ _ _ rfl (hK2.alloc _) ⟨wr.heap.size + 1, 0, none⟩ 1 1 [.int .i64 e.first] rfl rfl (cells1_at _ _ _ _ (by simp)) (fun u hu => by simp at hu; subst hu; rfl) (by unfold maxLen; omega) (by omega) (by simp; omega) ?_)
          intro v6 w4 ho4 hg4 _
          have hI4 : Ints w4 W.heap.size v6 (wtsK 1 xs fs k ++ [e.first]) := Ints.snoc ho4
          have hb4 : Below W.heap.size W w4 := Below.grown (hba.alloc hba.size _) hg4 (hba.alloc hba.size _).size (fun j hj => (World.ownsRow.lt hK2 j hj).1)
          have HI4 : Hid (Ints _ _ _ _) := hI4
          clear ho4 hg4 hK2 hI4 hba hbw
          go_wp2
          exact ⟨⟨k + 1, by omega, by go_num, by rw [HT.out]; exact HI4.out, hb4⟩, by simp [intOf]; omega⟩
      · have hk3 : k = xs.length := by omega
        subst hk3
        have HR : Hid (Ints _ _ _ _) := hK
        clear hK
        go_wp2
        go_ret
        exact ⟨_, rfl, ints_low2 HR.out HBW.out.size, HBW.out.trans (hbw.mono HBW.out.size)⟩

set_option maxRecDepth 100000 in
set_option maxHeartbeats 4000000 in
theorem specFirsts_any {w : World} {B : Nat} {ve : Value} {es : List Ent} {sh : Bool} {lv : Int} (x : ByteArray) (hx : x.size ≤ 1048576) (hE : Ents w B ve es) (hr : ∀ e ∈ es, e.runes.length ≤ 1048576) :
    Calls Tryd.prog 24 #[.agg #[ve, .bool sh, .int .i64 lv], .string x] w fun e w' => ∃ v', e = .returned (.tuple #[v', .bool (okE es lv x)]) ∧ Ints w' w.heap.size v' (firsT es sh lv x) ∧ Below w.heap.size w w' := by
  obtain ⟨va, vc, rfl⟩ := ents_slice hE
  have hbx : Below w.heap.size w (w.alloc (.cells #[.slice va es.length vc, .bool sh, .int .i64 lv] 33)) := (Below.refl _ _).alloc (Nat.le_refl _) _
  have hbox : BoxS (w.alloc (.cells #[.slice va es.length vc, .bool sh, .int .i64 lv] 33)) w.heap.size (.slice va es.length vc) sh lv := heap_alloc_new w _
  have hlb : w.heap.size < (w.alloc (.cells #[.slice va es.length vc, .bool sh, .int .i64 lv] 33)).heap.size := by simp
  have AT := runes4_any x (w.alloc (.cells #[.slice va es.length vc, .bool sh, .int .i64 lv] 33)) (by omega)
  have HE : Hid (Ents _ _ _ _) := hE.below hbx
  have GR := fun (u : World) (hu : Below (w.alloc (.cells #[.slice va es.length vc, .bool sh, .int .i64 lv] 33)).heap.size (w.alloc (.cells #[.slice va es.length vc, .bool sh, .int .i64 lv] 33)) u) => good3_any (sh := sh) (lv := lv) (HE.out.below hu) hr
  have hrg := rn4_rng x
  unfold firsT okE
  clear hE
  cases hok : ok4 x
  · rw [hok] at AT
    rw [Bool.false_and, if_neg (by simp)]
    clear hok GR
    go_enter Tryd.func24, Tryd.ntmps24
    go_wp2_with fail
    refine AT.mono ?_
    rintro e w1 ⟨v1, rfl, i1, b1⟩
    clear AT i1
    go_wp2
    go_ret2
    exact ⟨_, rfl, ⟨rfl, .inl ⟨rfl, rfl⟩⟩, hbx.trans (b1.mono hbx.size)⟩
  · obtain ⟨hs, hl⟩ := ok4_parts hok
    rw [hok] at AT
    rw [Bool.true_and]
    clear hok
    generalize rn4 x = rs at *
    cases hro : rulesOk es lv
    · rw [hro] at GR
      rw [if_neg (by simp)]
      clear hro
      go_enter Tryd.func24, Tryd.ntmps24
      go_wp2_with fail
      refine AT.mono ?_
      rintro e w1 ⟨v1, rfl, i1, b1⟩
      have G1 := GR _ b1
      obtain ⟨c0, c1, c2⟩ := (hbox.below b1 hlb).cells
      have hsz1 := b1.size
      clear AT GR hbox i1
      go_wp2_with fail
      refine G1.mono ?_
      rintro e w2 ⟨rfl, b2⟩
      clear G1
      have b3 := hbx.trans ((b1.trans (b2.mono b1.size)).mono hbx.size)
      go_wp2
      go_ret2
      exact ⟨_, rfl, ⟨rfl, .inl ⟨rfl, rfl⟩⟩, b3⟩
    · rw [hro] at GR
      rw [if_pos rfl]
      have hne : es.length ≤ 1048576 := by have := (rulesOk_parts hro).1; omega
      clear hro
      go_enter Tryd.func24, Tryd.ntmps24
      go_wp2_with fail
      refine AT.mono ?_
      rintro e w1 ⟨v1, rfl, i1, b1⟩
      have G1 := GR _ b1
      have hbox1 := hbox.below b1 hlb
      obtain ⟨c0, c1, c2⟩ := hbox1.cells
      have hsz1 := b1.size
      have I1 := i1 hs
      clear AT GR hbox i1
      go_wp2_with fail
      refine G1.mono ?_
      rintro e w2 ⟨rfl, b2⟩
      clear G1 c0 c1 c2
      have b12 := b1.trans (b2.mono b1.size)
      have b3 := hbx.trans (b12.mono hbx.size)
      have E2 := firsts4_any (sh := sh) (lv := lv) (HE.out.below b12) hne hr (I1.below b2) (by omega) hrg
      obtain ⟨c0, c1, c2⟩ := (hbox1.below b2 (by omega)).cells
      clear I1 hbox1
      go_wp2_with fail
      refine E2.mono ?_
      rintro e w3 ⟨v3, rfl, e3, b4⟩
      clear E2 c0 c1 c2
      go_wp2
      go_ret2
      exact ⟨_, rfl, ints_low2 e3 b3.size, b3.trans (b4.mono b3.size)⟩
end Go.Proofs.YtanfebccenfffafDoor

namespace Go.Proofs.YtanfebccenfffafDoor
open Go.RowKit

/-- The numbers from m on. -/
def seqK (m : Int) (n : Nat) : List Int := (List.range n).map fun (j : Nat) => m + (j : Int)

theorem seqK_len (m : Int) (n : Nat) : (seqK m n).length = n := by simp [seqK]
theorem seqK_at (m : Int) (n j : Nat) (h : j < n) : (seqK m n)[j]? = some (m + (j : Int)) := by simp [seqK, h]

/-- The row behind k marks. -/
def mkK (zs : List Int) (m : Int) : Nat → List Int
  | 0 => zs
  | k + 1 => (mkK zs m k).set k (m + (k : Int))

theorem mkK_len (zs : List Int) (m : Int) (k : Nat) : (mkK zs m k).length = zs.length := by
  induction k with
  | zero => rfl
  | succ k ih => simp [mkK, ih]

theorem mkK_at (zs : List Int) (m : Int) (k j : Nat) (hj : j < k) (hl : j < zs.length) : (mkK zs m k)[j]? = some (m + (j : Int)) := by
  induction k with
  | zero => omega
  | succ k ih =>
    simp only [mkK, List.getElem?_set, mkK_len]
    by_cases e : k = j
    · subst e; simp [hl]
    · rw [if_neg e]; exact ih (by omega)

theorem mkK_all (zs : List Int) (m : Int) : mkK zs m zs.length = seqK m zs.length := by
  apply List.ext_getElem?
  intro j
  by_cases h : j < zs.length
  · rw [mkK_at zs m _ j h h, seqK_at m _ j h]
  · rw [List.getElem?_eq_none (by rw [mkK_len]; omega), List.getElem?_eq_none (by rw [seqK_len]; omega)]

theorem mkK_map (zs : List Int) (m : Int) (k : Nat) : ((mkK zs m k).map (Value.int .i64)).set k (.int .i64 (m + (k : Int))) = (mkK zs m (k + 1)).map (Value.int .i64) := by
  simp [mkK, List.map_set]

set_option maxRecDepth 100000 in
set_option maxHeartbeats 1000000 in
theorem markK_none (w : World) (a : Option Addr) (c : Nat) (m : Int) : Calls Tryd.prog 26 #[.slice a 0 c, .int .i64 m] w fun e w' => e = .returned (.int .i64 m) ∧ w' = w := by
  go_enter Tryd.func26, Tryd.ntmps26
  go_wp2
  go_loop [1, 5] (fun k i => k = .int .i64 m ∧ i = .int .i64 0) (fun _ _ => 0)
  case atStart => exact ⟨rfl, rfl⟩
  case round =>
    obtain ⟨rfl, rfl⟩ := hrel
    go_wp2
    go_ret
    exact ⟨rfl, rfl⟩

def MkRel (w : World) (B g cap : Nat) (zs : List Int) (m0 : Int) (m i : Value) (wr : World) : Prop :=
  ∃ k : Nat, k ≤ zs.length ∧ i = .int .i64 k ∧ m = .int .i64 (m0 + (k : Int)) ∧ wr.ownsRow B 3 1 (.slice (some ⟨g, 0, none⟩) zs.length cap) zs.length ((mkK zs m0 k).map (Value.int .i64)) ∧ w.grownBy wr (some g)

set_option maxRecDepth 100000 in
set_option maxHeartbeats 1000000 in
theorem markK_row (w : World) (B g cap : Nat) (zs : List Int) (m : Int) (hm0 : 0 ≤ m) (hm1 : m ≤ 1099511627776) (hz : zs.length ≤ 1073741824) (hI : w.ownsRow B 3 1 (.slice (some ⟨g, 0, none⟩) zs.length cap) zs.length (zs.map (Value.int .i64))) :
    Calls Tryd.prog 26 #[.slice (some ⟨g, 0, none⟩) zs.length cap, .int .i64 m] w fun e w' => e = .returned (.int .i64 (m + (zs.length : Int))) ∧ w'.ownsRow B 3 1 (.slice (some ⟨g, 0, none⟩) zs.length cap) zs.length ((mkK zs m zs.length).map (Value.int .i64)) ∧ w.grownBy w' (some g) := by
  go_enter Tryd.func26, Tryd.ntmps26
  go_wp2
  go_loopw [1, 5] (fun mv i wr => MkRel w B g cap zs m mv i wr) (fun _ i _ => zs.length - (intOf i).toNat)
  case atStart => exact ⟨0, Nat.zero_le _, rfl, by simp, hI, World.grownBy.refl _ _⟩
  case round =>
    clear hI
    obtain ⟨k, hk, rfl, rfl, hown, hg⟩ := hrel
    by_cases hlt : k < zs.length
    · have c1 := hown.cellAt k (by omega)
      have hm : ((mkK zs m k).map (Value.int .i64))[k]? = some (.int .i64 ((mkK zs m k)[k]?.getD 0)) := by
        have := mkK_len zs m k
        simp [this, hlt]
      rw [hm] at c1
      have c2 := hown.frozenAt k
      have hst := hown.stored k (.int .i64 (m + (k : Int)))
      rw [mkK_map] at hst
      have HST : Hid _ := hst
      clear hst hm
      go_wp2
      go_roundw
      case rel => exact ⟨k + 1, by omega, by go_num, by go_num, HST.out.1, hg.trans HST.out.2⟩
      case measure => simp [intOf]; omega
    · have hkz : k = zs.length := by omega
      subst hkz
      go_wp2
      go_ret
      exact ⟨rfl, hown, hg⟩

theorem markK_any {w : World} {B : Nat} {v : Value} {zs : List Int} {m : Int} (hm0 : 0 ≤ m) (hm1 : m ≤ 1099511627776) (hz : zs.length ≤ 1073741824) (hI : Ints w B v zs) :
    Calls Tryd.prog 26 #[v, .int .i64 m] w fun e w' => e = .returned (.int .i64 (m + (zs.length : Int))) ∧ Ints w' B v (seqK m zs.length) ∧ w.grownBy w' v.ownBlock := by
  rcases hI.form with ⟨rfl, rfl⟩ | ⟨g, cap, rfl, h1, h2⟩
  · refine (markK_none w _ _ m).mono ?_
    rintro e w' ⟨rfl, rfl⟩
    exact ⟨by simp, hI, World.grownBy.refl _ _⟩
  · refine (markK_row w B g cap zs m hm0 hm1 hz hI).mono ?_
    rintro e w' ⟨rfl, h3, h4⟩
    refine ⟨rfl, ?_, h4⟩
    unfold Ints
    rw [seqK_len, ← mkK_all]
    exact h3
end Go.Proofs.YtanfebccenfffafDoor

namespace Go.Proofs.YtanfebccenfffafDoor
open Go.RowKit

set_option maxRecDepth 100000 in
set_option maxHeartbeats 1000000 in
theorem heldK_none (w : World) (a : Option Addr) (c : Nat) (m : Int) : Calls Tryd.prog 27 #[.slice a 0 c, .int .i64 m] w fun e w' => e = .returned (.int .i64 m) ∧ w' = w := by
  go_enter Tryd.func27, Tryd.ntmps27
  go_wp2
  go_loop [1, 5] (fun k i => k = .int .i64 m ∧ i = .int .i64 0) (fun _ _ => 0)
  case atStart => exact ⟨rfl, rfl⟩
  case round =>
    obtain ⟨rfl, rfl⟩ := hrel
    go_wp2
    go_ret
    exact ⟨rfl, rfl⟩

set_option maxRecDepth 100000 in
set_option maxHeartbeats 1000000 in
theorem heldK_row (w : World) (g cap n : Nat) (m : Int) (hm0 : 0 ≤ m) (hm1 : m ≤ 1099511627776) (hz : n ≤ 1073741824) (h1 : ∀ j, j < n → w.cell? ⟨g, j, none⟩ = some (.int .i64 (m + (j : Int)))) :
    Calls Tryd.prog 27 #[.slice (some ⟨g, 0, none⟩) n cap, .int .i64 m] w fun e w' => e = .returned (.int .i64 (m + (n : Int))) ∧ w' = w := by
  go_enter Tryd.func27, Tryd.ntmps27
  go_wp2
  go_loop [1, 5] (fun mv i => ∃ k : Nat, k ≤ n ∧ i = .int .i64 k ∧ mv = .int .i64 (m + (k : Int))) (fun _ i => n - (intOf i).toNat)
  case atStart => exact ⟨0, Nat.zero_le _, rfl, by simp⟩
  case round =>
    obtain ⟨k, hk, rfl, rfl⟩ := hrel
    by_cases hlt : k < n
    · have g1 := h1 k hlt
      clear h1
      go_wp2
      go_round
      case rel => exact ⟨k + 1, by omega, by go_num, by go_num⟩
      case measure => simp [intOf]; omega
    · have hkz : k = n := by omega
      subst hkz
      go_wp2
      go_ret
      exact ⟨rfl, rfl⟩

theorem heldK_any {w : World} {B : Nat} {v : Value} {n : Nat} {m : Int} (hm0 : 0 ≤ m) (hm1 : m ≤ 1099511627776) (hz : n ≤ 1073741824) (hI : Ints w B v (seqK m n)) :
    Calls Tryd.prog 27 #[v, .int .i64 m] w fun e w' => e = .returned (.int .i64 (m + (n : Int))) ∧ w' = w := by
  have hl := seqK_len m n
  rcases hI.form with ⟨rfl, h⟩ | ⟨g, cap, rfl, h1, h2⟩
  · rw [h] at hl
    have : n = 0 := by simpa using hl.symm
    subst this
    have := heldK_none w none 0 m
    simpa using this
  · have hc := fun j hj => hI.cell j hj
    rw [hl]
    exact heldK_row w g cap n m hm0 hm1 hz (fun j hj => by rw [hc j (by omega), seqK_at m n j hj]; rfl)
end Go.Proofs.YtanfebccenfffafDoor

namespace Go.Proofs.YtanfebccenfffafDoor
open Go.RowKit

/-- A row of entries of the call's own, no two of whose lists share a block; all its blocks lie ahead of T. -/
def EntsD (w : World) (B T : Nat) (v : Value) (es : List Ent) : Prop :=
  ∃ xs : List Value, xs.length = es.length ∧ w.ownsRow B 82 5 v es.length (entAll xs es) ∧ (∀ (k : Nat) (e : Ent), es[k]? = some e → ∃ x, xs[k]? = some x ∧ Ints w B x e.runes) ∧
    (∀ (i j : Nat) (x y : Value), i ≠ j → xs[i]? = some x → xs[j]? = some y → x.ownBlock = none ∨ x.ownBlock ≠ y.ownBlock) ∧
    (∀ g, v.ownBlock = some g → g < T) ∧ ∀ (i : Nat) (x : Value) (g : Nat), xs[i]? = some x → x.ownBlock = some g → g < T

theorem EntsD.ents {w : World} {B T : Nat} {v : Value} {es : List Ent} (h : EntsD w B T v es) : Ents w B v es := by
  obtain ⟨xs, hl, h1, h2, _⟩ := h
  exact ⟨xs, hl, h1, h2⟩

theorem EntsD.nil (w : World) (B T : Nat) : EntsD w B T (.slice none 0 0) [] := ⟨[], rfl, ⟨rfl, .inl ⟨rfl, rfl⟩⟩, fun k e h => by simp at h, fun i j x y _ h => by simp at h, (fun g h => by simp [Value.ownBlock] at h), (fun i x g h => by simp at h)⟩

theorem EntsD.below {w w' : World} {B T : Nat} {v : Value} {es : List Ent} (h : EntsD w B T v es) (hb : Below w.heap.size w w') : EntsD w' B T v es := by
  obtain ⟨xs, hl, h1, h2, h3, h4, h5⟩ := h
  refine ⟨xs, hl, World.ownsRow.kept h1 (row := none) ⟨hb.os, hb.tape, hb.output, hb.size, fun k hk _ => hb.block k hk⟩ (by cases h : v.ownBlock <;> simp), fun k e he => ?_, h3, h4, h5⟩
  obtain ⟨x, hx, hI⟩ := h2 k e he
  exact ⟨x, hx, hI.below hb⟩

/-- What lies ahead of B or from T on has not turned. -/
structure Mid (B T : Nat) (w w' : World) : Prop where
  os : w'.os = w.os
  tape : w'.tape = w.tape
  output : w'.output = w.output
  size : w.heap.size ≤ w'.heap.size
  block : ∀ b, b < w.heap.size → (b < B ∨ T ≤ b) → w'.heap[b]? = w.heap[b]?

theorem Mid.refl (B T : Nat) (w : World) : Mid B T w w := ⟨rfl, rfl, rfl, Nat.le_refl _, fun _ _ _ => rfl⟩

theorem Mid.grown {B T : Nat} {w u u' : World} {row : Option Nat} (h : Mid B T w u) (hg : u.grownBy u' row) (hr : ∀ g, row = some g → B ≤ g ∧ g < T) : Mid B T w u' := by
  refine ⟨hg.os.trans h.os, hg.tape.trans h.tape, hg.output.trans h.output, Nat.le_trans h.size hg.size, fun b hb hbt => ?_⟩
  rw [hg.block b (Nat.lt_of_lt_of_le hb h.size) (fun e => by have := hr b e.symm; omega)]
  exact h.block b hb hbt

theorem Mid.trans {B T : Nat} {w u u' : World} (h : Mid B T w u) (h' : Mid B T u u') : Mid B T w u' :=
  ⟨h'.os.trans h.os, h'.tape.trans h.tape, h'.output.trans h.output, Nat.le_trans h.size h'.size, fun b hb hbt => by rw [h'.block b (Nat.lt_of_lt_of_le hb h.size) hbt]; exact h.block b hb hbt⟩

theorem Mid.of {B T : Nat} {w w' : World} (hb : Below w.heap.size w w') : Mid B T w w' := ⟨hb.os, hb.tape, hb.output, hb.size, fun b h _ => hb.block b h⟩

theorem Mid.below {B T : Nat} {w w' : World} (h : Mid B T w w') (hB : B ≤ w.heap.size) : Below B w w' := ⟨h.os, h.tape, h.output, h.size, fun b hb => h.block b (Nat.lt_of_lt_of_le hb hB) (.inl hb)⟩

theorem entAll_setEl (xs : List Value) (es : List Ent) (k : Nat) (e : Ent) (h : xs.length = es.length) (hk : k < es.length) :
    entAll xs (es.set k e) = ((((entAll xs es).set (k * 5 + 1) (.int .i64 e.el.first)).set (k * 5 + 2) (.int .i64 e.el.second)).set (k * 5 + 3) (.int .i64 e.el.third)).set (k * 5 + 4) (.bool e.el.varies) := by
  induction es generalizing xs k with
  | nil => simp at hk
  | cons e' es ih => cases xs with
    | nil => simp at h
    | cons y ys =>
      cases k with
      | zero => rfl
      | succ k =>
        have hk' : k < es.length := by simpa using hk
        show entC y e'.el ++ entAll ys (es.set k e) = ((((entC y e'.el ++ entAll ys es).set ((k + 1) * 5 + 1) _).set ((k + 1) * 5 + 2) _).set ((k + 1) * 5 + 3) _).set ((k + 1) * 5 + 4) _
        rw [ih ys k (by simpa using h) hk', List.set_append_right _ _ (by show 5 ≤ _; omega), List.set_append_right _ _ (by show 5 ≤ _; omega), List.set_append_right _ _ (by show 5 ≤ _; omega), List.set_append_right _ _ (by show 5 ≤ _; omega)]
        have q1 : (k + 1) * 5 + 1 - (entC y e'.el).length = k * 5 + 1 := by show (k + 1) * 5 + 1 - 5 = _; omega
        have q2 : (k + 1) * 5 + 2 - (entC y e'.el).length = k * 5 + 2 := by show (k + 1) * 5 + 2 - 5 = _; omega
        have q3 : (k + 1) * 5 + 3 - (entC y e'.el).length = k * 5 + 3 := by show (k + 1) * 5 + 3 - 5 = _; omega
        have q4 : (k + 1) * 5 + 4 - (entC y e'.el).length = k * 5 + 4 := by show (k + 1) * 5 + 4 - 5 = _; omega
        rw [q1, q2, q3, q4]

def set4 (u : World) (g p : Nat) (e : El) : World := (((u.setCell ⟨g, p + 1, none⟩ (.int .i64 e.first)).setCell ⟨g, p + 2, none⟩ (.int .i64 e.second)).setCell ⟨g, p + 3, none⟩ (.int .i64 e.third)).setCell ⟨g, p + 4, none⟩ (.bool e.varies)

theorem set4_grown (u : World) (g p : Nat) (e : El) : u.grownBy (set4 u g p e) (some g) :=
  (((setCell_grown u g (p + 1) _).trans (setCell_grown _ g (p + 2) _)).trans (setCell_grown _ g (p + 3) _)).trans (setCell_grown _ g (p + 4) _)

/-- An entry's list marked, then its elem laid anew. -/
theorem entsD_mark {u u3 : World} {B T g cap n j : Nat} {es : List Ent} {xs : List Value} {x : Value} {ys : List Int} {el : El} (hn : es.length = n) (hl : xs.length = es.length) (h1 : u.ownsRow B 82 5 (.slice (some ⟨g, 0, none⟩) n cap) n (entAll xs es))
    (h2 : ∀ (k : Nat) (e : Ent), es[k]? = some e → ∃ x, xs[k]? = some x ∧ Ints u B x e.runes) (h3 : ∀ (i j : Nat) (x y : Value), i ≠ j → xs[i]? = some x → xs[j]? = some y → x.ownBlock = none ∨ x.ownBlock ≠ y.ownBlock)
    (h4 : g < T) (h5 : ∀ (i : Nat) (x : Value) (g : Nat), xs[i]? = some x → x.ownBlock = some g → g < T)
    (hj : j < n) (hx : xs[j]? = some x) (hI0 : Ints u B x ys ∨ ∃ l, Ints u B x l) (hI : Ints u3 B x ys) (hg : u.grownBy u3 x.ownBlock) :
    EntsD (set4 u3 g (j * 5) el) B T (.slice (some ⟨g, 0, none⟩) n cap) (es.set j ⟨ys, el⟩) := by
  subst hn
  have hI0' : ∃ l, Ints u B x l := by
    rcases hI0 with h | h
    · exact ⟨_, h⟩
    · exact h
  obtain ⟨l0, hI0⟩ := hI0'
  have k1 := World.ownsRow.kept h1 hg (own_type h1 hI0 (by decide))
  have s2 := k1.stored (j * 5 + 1) (.int .i64 el.first)
  have s3 := s2.1.stored (j * 5 + 2) (.int .i64 el.second)
  have s4 := s3.1.stored (j * 5 + 3) (.int .i64 el.third)
  have s5 := s4.1.stored (j * 5 + 4) (.bool el.varies)
  have hg4 := set4_grown u3 g (j * 5) el
  refine ⟨xs, by simp [hl], ?_, fun i y hy => ?_, h3, fun g' e => by cases e; exact h4, h5⟩
  · rw [entAll_setEl xs es j ⟨ys, el⟩ hl hj, List.length_set]
    exact s5.1
  · by_cases c : i = j
    · subst c
      rw [List.getElem?_set_self (by omega)] at hy
      cases hy
      exact ⟨x, hx, World.ownsRow.kept hI hg4 (own_type hI k1 (by decide))⟩
    · rw [List.getElem?_set_ne (by omega)] at hy
      obtain ⟨z, hz, hzi⟩ := h2 i y hy
      have hz3 := World.ownsRow.kept hzi hg (h3 i j z x c hz hx)
      exact ⟨z, hz, World.ownsRow.kept hz3 hg4 (own_type hz3 k1 (by decide))⟩

def mkR (k : Int) : El := ⟨k, k + 1, k + 1 + 1, (k + 1 + 1 + 1) % 3 == 0⟩

def markEs : List Ent → Int → List Ent
  | [], _ => []
  | e :: es, m => ⟨seqK m e.runes.length, mkR (m + (e.runes.length : Int))⟩ :: markEs es (m + (e.runes.length : Int) + 1 + 1 + 1 + 1)

def endM : List Ent → Int → Int
  | [], m => m
  | e :: es, m => endM es (m + (e.runes.length : Int) + 1 + 1 + 1 + 1)

theorem markEs_len : ∀ (es : List Ent) (m : Int), (markEs es m).length = es.length
  | [], _ => rfl
  | e :: es, m => by simp [markEs, markEs_len es]

def MRel (w : World) (B T : Nat) (v : Value) (es : List Ent) (m0 : Int) (kv i : Value) (wr : World) : Prop :=
  ∃ (j : Nat) (m : Int) (done : List Ent), j ≤ es.length ∧ i = .int .i64 j ∧ kv = .int .i64 m ∧ 0 ≤ m ∧ m ≤ m0 + 2000 * (j : Int) ∧ done.length = j ∧ EntsD wr B T v (done ++ es.drop j) ∧
    done ++ markEs (es.drop j) m = markEs es m0 ∧ endM (es.drop j) m = endM es m0 ∧ Mid B T w wr

theorem ents_drop {es : List Ent} {k : Nat} {e : Ent} (h : es[k]? = some e) : es.drop k = e :: es.drop (k + 1) := by
  obtain ⟨hk, rfl⟩ := List.getElem?_eq_some_iff.1 h
  exact List.drop_eq_getElem_cons hk

set_option maxRecDepth 100000 in
set_option maxHeartbeats 4000000 in
theorem markEs_row (w : World) (B T g cap : Nat) (es : List Ent) (m0 : Int) (hm0 : 0 ≤ m0) (hm1 : m0 ≤ 1048576) (hz : es.length ≤ 1048576) (hr : ∀ e ∈ es, e.runes.length ≤ 1000) (hE : EntsD w B T (.slice (some ⟨g, 0, none⟩) es.length cap) es) :
    Calls Tryd.prog 44 #[.slice (some ⟨g, 0, none⟩) es.length cap, .int .i64 m0] w fun e w' => e = .returned (.int .i64 (endM es m0)) ∧ EntsD w' B T (.slice (some ⟨g, 0, none⟩) es.length cap) (markEs es m0) ∧ Mid B T w w' := by
  go_enter Tryd.func44, Tryd.ntmps44
  go_wp2
  go_loopw [1, 5] (fun kv i wr => MRel w B T (.slice (some ⟨g, 0, none⟩) es.length cap) es m0 kv i wr) (fun _ i _ => es.length - (intOf i).toNat)
  case atStart => exact ⟨0, m0, [], Nat.zero_le _, rfl, rfl, hm0, by simp, rfl, by simpa using hE, by simp, by simp, Mid.refl _ _ _⟩
  case round =>
    clear hE
    obtain ⟨j, m, done, hj, rfl, rfl, hmm0, hmm1, hdl, hED, hmk, hend, hbw⟩ := hrel
    have HMK : Hid _ := hmk
    have HEND : Hid _ := hend
    clear hmk hend
    by_cases hlt : j < es.length
    · obtain ⟨e, he⟩ : ∃ e, es[j]? = some e := ⟨_, List.getElem?_eq_getElem hlt⟩
      have hre := hr e (List.mem_of_getElem? he)
      have hdr := ents_drop he
      have hlen : (done ++ es.drop j).length = es.length := by rw [List.length_append, hdl, List.length_drop]; omega
      have hat : (done ++ es.drop j)[j]? = some e := by rw [List.getElem?_append_right (by omega), hdl, Nat.sub_self, hdr]; rfl
      obtain ⟨xs, hxl, h1, h2, h3, h4, h5⟩ := hED
      obtain ⟨x, hx, hI⟩ := h2 j e hat
      rw [hlen] at h1
      obtain ⟨xa, xn, xc, rfl⟩ : ∃ xa xn xc, x = .slice xa xn xc := by
        rcases hI.form with ⟨rfl, _⟩ | ⟨_, _, rfl, _, _⟩
        · exact ⟨_, _, _, rfl⟩
        · exact ⟨_, _, _, rfl⟩
      have at' : ∀ i, i < 5 → wr.cell? ⟨g, j * 5 + i, none⟩ = (entC (.slice xa xn xc) e.el)[i]? := fun i hi => by
        rw [World.ownsRow.cellAt h1 (j * 5 + i) (by omega), entAll_at xs _ j i _ e hx hat hi]
      have a0 : wr.cell? ⟨g, j * 5, none⟩ = some (.slice xa xn xc) := at' 0 (by omega)
      have hj8 : (j : Int) < (es.length : Int) := by omega
      have MK := markK_any (m := m) hmm0 (by omega) (by omega) hI
      obtain ⟨M, hM⟩ : ∃ M, M = m + (e.runes.length : Int) := ⟨_, rfl⟩
      rw [← hM] at MK
      have hMb : 0 ≤ M ∧ M ≤ 1048576 + 2000 * 1048576 + 1000 := by omega
      obtain ⟨hMb0, hMb1⟩ := hMb
      have HM : Hid _ := hM
      have HX : Hid _ := hx
      have HE : Hid _ := he
      have HDR : Hid _ := hdr
      have HLEN : Hid _ := hlen
      have HAT : Hid _ := hat
      have H1 : Hid _ := h1
      have H2 : Hid _ := h2
      have H3 : Hid _ := h3
      have H4 : Hid (g < T) := h4 g rfl
      have H5 : Hid _ := h5
      have HXL : Hid _ := hxl
      have HI : Hid (Ints _ _ _ _) := hI
      clear hM hx he hdr hlen hat h1 h2 h3 h4 h5 hxl hI at' hr
      go_wp2_with fail
      refine MK.mono ?_
      rintro e' w3 ⟨rfl, i3, g3⟩
      have k1 := World.ownsRow.kept H1.out g3 (own_type H1.out HI.out (by decide))
      have at3 : ∀ i, i < 5 → w3.cell? ⟨g, j * 5 + i, none⟩ = (entC (.slice xa xn xc) e.el)[i]? := fun i hi => by
        rw [World.ownsRow.cellAt k1 (j * 5 + i) (by omega), entAll_at xs _ j i _ e HX.out HAT.out hi]
      have c1 : w3.cell? ⟨g, j * 5 + 1, none⟩ = some (.int .i64 e.el.first) := at3 1 (by omega)
      have c2 : w3.cell? ⟨g, j * 5 + 2, none⟩ = some (.int .i64 e.el.second) := at3 2 (by omega)
      have c3 : w3.cell? ⟨g, j * 5 + 3, none⟩ = some (.int .i64 e.el.third) := at3 3 (by omega)
      have c4 : w3.cell? ⟨g, j * 5 + 4, none⟩ = some (.bool e.el.varies) := at3 4 (by omega)
      have f1 := k1.frozenAt (j * 5 + 1)
      have f2 := k1.frozenAt (j * 5 + 2)
      have f3 := k1.frozenAt (j * 5 + 3)
      have f4 := k1.frozenAt (j * 5 + 4)
      have hD := entsD_mark (el := mkR M) HLEN.out HXL.out H1.out H2.out H3.out H4.out H5.out hlt HX.out (.inr ⟨_, HI.out⟩) i3 g3
      have hset : (done ++ es.drop j).set j ⟨seqK m e.runes.length, mkR M⟩ = (done ++ [⟨seqK m e.runes.length, mkR M⟩]) ++ es.drop (j + 1) := by
        rw [List.set_append_right _ _ (by omega), hdl, Nat.sub_self, HDR.out, List.set_cons_zero]; simp
      rw [hset] at hD
      have hgB := (World.ownsRow.lt H1.out g rfl).1
      have hb3 : Mid B T w w3 := hbw.grown g3 (fun jj hjj => ⟨(World.ownsRow.lt HI.out jj hjj).1, H5.out j _ jj HX.out hjj⟩)
      have hb4 : Mid B T w (set4 w3 g (j * 5) (mkR M)) := hb3.grown (set4_grown w3 g (j * 5) (mkR M)) (fun jj hjj => by cases hjj; exact ⟨hgB, H4.out⟩)
      have HD : Hid (EntsD _ _ _ _ _) := hD
      have HB4 : Hid (Mid _ _ _ _) := hb4
      have HMK2 : Hid ((done ++ [⟨seqK m e.runes.length, mkR M⟩]) ++ markEs (es.drop (j + 1)) (M + 1 + 1 + 1 + 1) = markEs es m0) := by
        show _ = _
        rw [← HMK.out, HDR.out, HM.out]
        simp [markEs]
      have HEND2 : Hid (endM (es.drop (j + 1)) (M + 1 + 1 + 1 + 1) = endM es m0) := by
        show _ = _
        rw [← HEND.out, HDR.out, HM.out]
        rfl
      have HBD : Hid (M + 1 + 1 + 1 + 1 ≤ m0 + 2000 * ((j + 1 : Nat) : Int)) := by show _ ≤ _; have := HM.out; omega
      have HDL : Hid ((done ++ [(⟨seqK m e.runes.length, mkR M⟩ : Ent)]).length = j + 1) := by show _ = _; simp [hdl]
      clear MK k1 at3 hD hset hb3 hb4 HMK HEND HM HX HE HDR HLEN HAT H1 H2 H3 H4 H5 HXL HI i3 g3 a0 hdl
      go_wp2
      exact ⟨⟨j + 1, M + 1 + 1 + 1 + 1, _, hlt, by go_num, rfl, by omega, HBD.out, HDL.out, HD.out, HMK2.out, HEND2.out, HB4.out⟩, by simp [intOf]; omega⟩
    · have hjz : j = es.length := by omega
      subst hjz
      have e1 : es.drop es.length = [] := List.drop_length
      have HF : Hid (m = endM es m0) := by show _ = _; rw [← HEND.out, e1]; rfl
      have HG : Hid (done = markEs es m0) := by show _ = _; rw [← HMK.out, e1]; simp [markEs]
      rw [e1, List.append_nil] at hED
      clear HMK HEND e1 hr
      go_wp2
      go_ret
      rw [← HF.out, ← HG.out]
      exact ⟨rfl, hED, hbw⟩

set_option maxRecDepth 100000 in
set_option maxHeartbeats 1000000 in
theorem markEs_none (w : World) (a : Option Addr) (c : Nat) (m : Int) : Calls Tryd.prog 44 #[.slice a 0 c, .int .i64 m] w fun e w' => e = .returned (.int .i64 m) ∧ w' = w := by
  go_enter Tryd.func44, Tryd.ntmps44
  go_wp2
  go_loop [1, 5] (fun k i => k = .int .i64 m ∧ i = .int .i64 0) (fun _ _ => 0)
  case atStart => exact ⟨rfl, rfl⟩
  case round =>
    obtain ⟨rfl, rfl⟩ := hrel
    go_wp2
    go_ret
    exact ⟨rfl, rfl⟩

theorem markEs_any {w : World} {B T : Nat} {v : Value} {es : List Ent} {m0 : Int} (hm0 : 0 ≤ m0) (hm1 : m0 ≤ 1048576) (hz : es.length ≤ 1048576) (hr : ∀ e ∈ es, e.runes.length ≤ 1000) (hE : EntsD w B T v es) :
    Calls Tryd.prog 44 #[v, .int .i64 m0] w fun e w' => e = .returned (.int .i64 (endM es m0)) ∧ EntsD w' B T v (markEs es m0) ∧ Mid B T w w' := by
  rcases hE.ents.form with ⟨rfl, rfl⟩ | ⟨g, cap, rfl, _, _, _, _⟩
  · refine (markEs_none w _ _ m0).mono ?_
    rintro e w' ⟨rfl, rfl⟩
    exact ⟨rfl, hE, Mid.refl _ _ _⟩
  · exact markEs_row w B T g cap es m0 hm0 hm1 hz hr hE

set_option maxRecDepth 100000 in
set_option maxHeartbeats 1000000 in
theorem markRules_any {w : World} {B T : Nat} {v : Value} {es : List Ent} {m0 : Int} (sh : Bool) (lv : Int) (hm0 : 0 ≤ m0) (hm1 : m0 ≤ 1048576) (hz : es.length ≤ 1048576) (hr : ∀ e ∈ es, e.runes.length ≤ 1000) (hE : EntsD w B T v es) :
    Calls Tryd.prog 19 #[.agg #[v, .bool sh, .int .i64 lv], .int .i64 m0] w fun e w' => e = .returned (.int .i64 (endM es m0)) ∧ EntsD w' B T v (markEs es m0) ∧ Mid B T w w' := by
  obtain ⟨xa, xn, xc, rfl⟩ : ∃ xa xn xc, v = .slice xa xn xc := by
    rcases hE.ents.form with ⟨rfl, _⟩ | ⟨_, _, rfl, _, _, _, _⟩
    · exact ⟨_, _, _, rfl⟩
    · exact ⟨_, _, _, rfl⟩
  have hb := (Below.refl w.heap.size w).alloc (Nat.le_refl _) (.cells #[.slice xa xn xc, .bool sh, .int .i64 lv] 33)
  have M := markEs_any (m0 := m0) hm0 hm1 hz hr (hE.below hb)
  have HB : Hid (Mid B T _ _) := Mid.of hb
  clear hb hE hr
  go_enter Tryd.func19, Tryd.ntmps19
  go_wp2_with fail
  refine M.mono ?_
  rintro e w3 ⟨rfl, i3, b3⟩
  clear M
  go_wp2
  go_ret
  exact ⟨rfl, i3, HB.out.trans b3⟩

theorem endM_pos : ∀ (es : List Ent) (m : Int), 0 ≤ m → 0 ≤ endM es m
  | [], _, h => h
  | e :: es, m, h => endM_pos es _ (by omega)
end Go.Proofs.YtanfebccenfffafDoor

namespace Go.Proofs.YtanfebccenfffafDoor
open Go.RowKit

theorem entsD_made {w : World} {B : Nat} {v : Value} {n : Nat} (h : w.ownsRow B 82 5 v n (madeCells zCells (n * 5)).toList) : EntsD w B w.heap.size v (List.replicate n zEnt) := by
  refine ⟨List.replicate n (.slice none 0 0), by simp, ?_, fun k e he => ?_, fun i j x y _ hx _ => ?_, fun g hg => (World.ownsRow.lt h g hg).2, fun i x g hx hg => ?_⟩
  · rw [← made_ents, List.length_replicate]; exact h
  · have hk := (List.getElem?_eq_some_iff.1 he).1
    rw [List.length_replicate] at hk
    refine ⟨.slice none 0 0, by simp [hk], ?_⟩
    have : e = zEnt := by simp [hk] at he; exact he.symm
    subst this
    exact ⟨rfl, .inl ⟨rfl, rfl⟩⟩
  · have := (List.mem_replicate.1 (List.mem_of_getElem? hx)).2
    subst this
    exact .inl rfl
  · have := (List.mem_replicate.1 (List.mem_of_getElem? hx)).2
    subst this
    cases hg

theorem EntsD.high {w : World} {B T T' : Nat} {v : Value} {es : List Ent} (h : EntsD w B T v es) (hT : T ≤ T') : EntsD w B T' v es := by
  obtain ⟨xs, hl, h1, h2, h3, h4, h5⟩ := h
  exact ⟨xs, hl, h1, h2, h3, fun g hg => Nat.lt_of_lt_of_le (h4 g hg) hT, fun i x g hx hg => Nat.lt_of_lt_of_le (h5 i x g hx hg) hT⟩

theorem EntsD.low {w : World} {B B' T : Nat} {v : Value} {es : List Ent} (h : EntsD w B' T v es) (hB : B ≤ B') : EntsD w B T v es := by
  obtain ⟨xs, hl, h1, h2, h3, h4, h5⟩ := h
  refine ⟨xs, hl, ⟨h1.1, ?_⟩, fun k e he => ?_, h3, h4, h5⟩
  · rcases h1.2 with h | ⟨g, cap, cur, a, b, c⟩
    · exact .inl h
    · exact .inr ⟨g, cap, cur, a, Nat.le_trans hB b, c⟩
  · obtain ⟨x, hx, hI⟩ := h2 k e he
    exact ⟨x, hx, ints_low2 hI hB⟩

theorem EntsD.grown {u u' : World} {B T b : Nat} {v : Value} {es : List Ent} (h : EntsD u B T v es) (hg : u.grownBy u' (some b)) (hb : b < B) : EntsD u' B T v es := by
  obtain ⟨xs, hl, h1, h2, h3, h4, h5⟩ := h
  refine ⟨xs, hl, World.ownsRow.kept h1 hg ?_, fun k e he => ?_, h3, h4, h5⟩
  · cases e : v.ownBlock with
    | none => exact .inl rfl
    | some g => exact .inr fun c => by have := (World.ownsRow.lt h1 g e).1; cases c; omega
  · obtain ⟨x, hx, hI⟩ := h2 k e he
    exact ⟨x, hx, hI.away hg hb⟩

/-- An entry laid anew at its place, its list in a block of its own. -/
theorem EntsD.setAt {u : World} {B C T g cap n k : Nat} {es : List Ent} {x : Value} {e : Ent} (h : EntsD u B T (.slice (some ⟨g, 0, none⟩) n cap) es) (hn : es.length = n) (hk : k < n) (hI : Ints u C x e.runes) (hB : B ≤ C) (hC : T ≤ u.heap.size) (hTC : T ≤ C := by omega) :
    EntsD (set5 u g (k * 5) x e.el) B (set5 u g (k * 5) x e.el).heap.size (.slice (some ⟨g, 0, none⟩) n cap) (es.set k e) := by
  subst hn
  obtain ⟨xs, hl, h1, h2, h3, h4, h5⟩ := h
  have s1 := h1.stored (k * 5) x
  have s2 := s1.1.stored (k * 5 + 1) (.int .i64 e.el.first)
  have s3 := s2.1.stored (k * 5 + 2) (.int .i64 e.el.second)
  have s4 := s3.1.stored (k * 5 + 3) (.int .i64 e.el.third)
  have s5 := s4.1.stored (k * 5 + 4) (.bool e.el.varies)
  have hg := set5_grown u g (k * 5) x e.el
  have hsz := hg.size
  have hIB := ints_low2 hI hB
  have away : ∀ (j : Nat) (y : Value), j ≠ k → xs[j]? = some y → y.ownBlock = none ∨ y.ownBlock ≠ x.ownBlock := fun j y _ hy => by
    cases c : y.ownBlock with
    | none => exact .inl rfl
    | some b =>
      refine .inr fun e' => ?_
      have l1 := h5 j y b hy c
      have l2 := (World.ownsRow.lt hI b e'.symm).1
      omega
  refine ⟨xs.set k x, by simp [hl], ?_, fun j y hy => ?_, fun i j y z hij hy hz => ?_, fun b hb => ?_, fun i y b hy hb => ?_⟩
  · rw [entAll_set xs es k x e hl hk, List.length_set]
    exact s5.1
  · by_cases c : j = k
    · subst c
      rw [List.getElem?_set_self (by omega)] at hy
      cases hy
      exact ⟨x, by rw [List.getElem?_set_self (by omega)], World.ownsRow.kept hIB hg (own_type hIB h1 (by decide))⟩
    · rw [List.getElem?_set_ne (by omega)] at hy
      obtain ⟨z, hz, hzi⟩ := h2 j y hy
      exact ⟨z, by rw [List.getElem?_set_ne (by omega)]; exact hz, World.ownsRow.kept hzi hg (own_type hzi h1 (by decide))⟩
  · by_cases ci : i = k
    · subst ci
      rw [List.getElem?_set_self (by omega)] at hy
      cases hy
      rw [List.getElem?_set_ne hij] at hz
      rcases away j z (fun c => hij c.symm) hz with c | c
      · cases c2 : x.ownBlock with
        | none => exact .inl rfl
        | some b => exact .inr fun e' => by rw [c] at e'; cases e'
      · exact .inr fun e' => c e'.symm
    · rw [List.getElem?_set_ne (fun c => ci c.symm)] at hy
      by_cases cj : j = k
      · subst cj
        rw [List.getElem?_set_self (by omega)] at hz
        cases hz
        exact away i y ci hy
      · rw [List.getElem?_set_ne (fun c => cj c.symm)] at hz
        exact h3 i j y z hij hy hz
  · exact Nat.lt_of_lt_of_le (World.ownsRow.lt h1 b hb).2 hsz
  · by_cases ci : i = k
    · subst ci
      rw [List.getElem?_set_self (by omega)] at hy
      cases hy
      exact Nat.lt_of_lt_of_le (World.ownsRow.lt hI b hb).2 hsz
    · rw [List.getElem?_set_ne (fun c => ci c.symm)] at hy
      exact Nat.lt_of_lt_of_le (h5 i y b hy hb) (Nat.le_trans hC hsz)

def TDRel (w : World) (es : List Ent) (i : Value) (wr : World) : Prop :=
  ∃ k : Nat, k ≤ es.length ∧ i = .int .i64 k ∧ EntsD wr w.heap.size wr.heap.size (.slice (some ⟨w.heap.size, 0, none⟩) es.length es.length) (fillE es k) ∧ Below w.heap.size w wr

set_option maxRecDepth 100000 in
set_option maxHeartbeats 2000000 in
theorem toEntsD_any (w0 w : World) (a : Option Addr) (len cap : Nat) (es : List Ent) (hA : ArgEnts w0 a len cap es) (hb : Below w0.heap.size w0 w) (hm : len ≤ 1048576) (hr : ∀ e ∈ es, e.runes.length ≤ 1048576) :
    Calls Tryd.prog 34 #[.slice a len cap] w fun e w' => ∃ g, e = .returned (.slice (some ⟨g, 0, none⟩) len len) ∧ EntsD w' w.heap.size w'.heap.size (.slice (some ⟨g, 0, none⟩) len len) es ∧ Below w.heap.size w w' := by
  obtain ⟨hlen, hlc, hcm, hA⟩ := hA
  subst hlen
  obtain ⟨i0, hi, hz0, hz1, hz2⟩ := info_parts info_ent
  go_enter Tryd.func34, Tryd.ntmps34
  go_wp2_with (at_make; refine wpList_make_full _ rfl _ _ 31 rfl w.heap.size 82 i0 _ 5 Tryd.underlying31 hi hz0 hz1 .i64 .i64 _ _ es.length rfl rfl rfl rfl (by rw [hz2]; omega) (by unfold maxLen; omega) (Nat.le_refl _) ?_; intro w1 hown hgr)
  have hE1 : EntsD w1 w.heap.size w1.heap.size (.slice (some ⟨w.heap.size, 0, none⟩) es.length es.length) (fillE es 0) := by
    have := entsD_made hown
    simpa [fillE] using this
  have hb1 : Below w.heap.size w w1 := Below.grown (Below.refl _ _) hgr (Nat.le_refl _) (fun j hj => by cases hj)
  clear hown hgr
  go_loopw [4] (fun i wr => TDRel w es i wr) (fun i _ => es.length - (intOf i).toNat)
  case atStart => exact ⟨0, Nat.zero_le _, rfl, hE1, hb1⟩
  case round =>
    clear hE1 hb1
    obtain ⟨k, hk, rfl, hE, hbr⟩ := hrel
    by_cases hlt : k < es.length
    · obtain ⟨e, he⟩ : ∃ e, es[k]? = some e := ⟨_, List.getElem?_eq_getElem hlt⟩
      obtain ⟨b, o, rfl, hAE⟩ := hA.resolve_left (by omega)
      obtain ⟨ra, rl, rc, zs, hro, e1, e2, a0, a1, a2, a3, a4⟩ := (hAE k e he).below (hb.trans (hbr.mono hb.size))
      have hk8 : (k : Int) < (es.length : Int) := by omega
      have T := toEntry_any w0 wr ra rl rc zs e.el.first e.el.second e.el.third e.el.varies hro (hb.trans (hbr.mono hb.size)) (by have := hr e (List.mem_of_getElem? he); omega)
      rw [← e1] at T
      have HE : Hid (EntsD _ _ _ _ _) := hE
      have HG : Hid (es[k]? = some e) := he
      clear hAE he hro e1 e2 hr hE
      go_wp2_with fail
      refine T.mono ?_
      rintro e' w3 ⟨x, rfl, i3, b3⟩
      obtain ⟨xa, xn, xc, rfl⟩ : ∃ xa xn xc, x = .slice xa xn xc := by
        rcases i3.form with ⟨rfl, _⟩ | ⟨_, _, rfl, _, _⟩
        · exact ⟨_, _, _, rfl⟩
        · exact ⟨_, _, _, rfl⟩
      have hE3 := HE.out.below b3
      have hfl := fillE_len es k hk
      have hset := hE3.setAt (k := k) (x := .slice xa xn xc) (e := e) hfl hlt i3 hbr.size b3.size
      rw [fillE_set HG.out] at hset
      have HS : Hid (EntsD _ _ _ _ _) := hset
      have HB : Hid (Below _ _ _) := grown_ge (hbr.trans (b3.mono hbr.size)) (set5_grown w3 w.heap.size (k * 5) (.slice xa xn xc) e.el) (Nat.le_refl _)
      obtain ⟨xs, hxl, h1, _⟩ := hE3.ents
      rw [hfl] at h1
      obtain ⟨y, hy⟩ : ∃ y, (fillE es k)[k]? = some y := ⟨_, List.getElem?_eq_getElem (by omega)⟩
      have hE3' : Ents w3 w.heap.size (.slice (some ⟨w.heap.size, 0, none⟩) (fillE es k).length es.length) (fillE es k) := by rw [hfl]; exact (HE.out.below b3).ents
      obtain ⟨z, _, c0, c1, c2, c3, c4⟩ := hE3'.cells k y hy
      have f0 := h1.frozenAt (k * 5)
      have f1 := h1.frozenAt (k * 5 + 1)
      have f2 := h1.frozenAt (k * 5 + 2)
      have f3 := h1.frozenAt (k * 5 + 3)
      have f4 := h1.frozenAt (k * 5 + 4)
      clear T a0 a1 a2 a3 a4 HE HG hset hxl h1 hy hE3' b3 i3 hfl
      go_wp2
      exact ⟨⟨k + 1, hlt, by go_num, HS.out, HB.out⟩, by simp [intOf]; omega⟩
    · have hk3 : k = es.length := by omega
      subst hk3
      rw [fillE_all] at hE
      clear hA hr
      go_wp2
      go_ret
      exact ⟨_, rfl, hE, hbr⟩

set_option maxRecDepth 100000 in
set_option maxHeartbeats 2000000 in
theorem toRulesD_any (w0 w : World) (a : Option Addr) (len cap : Nat) (es : List Ent) (sh : Bool) (lv : Int) (hA : ArgEnts w0 a len cap es) (hb : Below w0.heap.size w0 w) (hm : len ≤ 1048576) (hr : ∀ e ∈ es, e.runes.length ≤ 1048576) :
    Calls Tryd.prog 10 #[.agg #[.slice a len cap, .bool sh, .int .i64 lv]] w fun e w' => ∃ g, e = .returned (.agg #[.slice (some ⟨g, 0, none⟩) len len, .bool sh, .int .i64 lv]) ∧ EntsD w' w.heap.size w'.heap.size (.slice (some ⟨g, 0, none⟩) len len) es ∧ Below w.heap.size w w' := by
  have hb3 := (((Below.refl w.heap.size w).alloc (Nat.le_refl _) (.cells #[.slice a len cap, .bool sh, .int .i64 lv] 24)).alloc (by simp) (.cells #[.slice none 0 0, .bool false, .int .i64 0] 33)).alloc (by simp; omega) (.cells #[.slice none 0 0, .bool false, .int .i64 0] 33)
  have T := toEntsD_any w0 _ a len cap es hA (hb.trans (hb3.mono hb.size)) hm hr
  have HX : Hid (TR _ _ _ _ _ _ _ _) := alloc3_heap w (.cells #[.slice a len cap, .bool sh, .int .i64 lv] 24) (.cells #[.slice none 0 0, .bool false, .int .i64 0] 33) (.cells #[.slice none 0 0, .bool false, .int .i64 0] 33)
  have HB : Hid (Below _ _ _) := hb3
  clear hb3 hb hA hr
  go_enter Tryd.func10, Tryd.ntmps10
  go_wp2_with fail
  refine T.mono ?_
  rintro e w3 ⟨g, rfl, i3, b3⟩
  have hx3 := HX.out.below b3
  have HI3 : Hid (EntsD w3 (w.heap.size + 1 + 1 + 1) w3.heap.size (.slice (some ⟨g, 0, none⟩) len len) es) := by show EntsD _ _ _ _ _; simpa using i3
  have HC3 : Hid (Below _ _ _) := HB.out.trans (b3.mono HB.out.size)
  obtain ⟨⟨l1, l2, l3⟩, ⟨a0, a1, a2⟩, ⟨q0, q1, q2, qf⟩, ⟨p0, p1, p2, pf⟩⟩ := hx3.facts
  clear T HX HB b3 i3 hx3
  go_wp2
  refine bodyPost_ret (v := .agg #[.slice (some ⟨g, 0, none⟩) len len, .bool sh, .int .i64 lv]) ?_ rfl ⟨_, rfl, ?_, ?_⟩
  · rw [results_cell1 rfl]
    go_simp
  · refine EntsD.low (B' := w.heap.size + 1 + 1 + 1) ?_ (by omega)
    refine EntsD.high (T := w3.heap.size) ?_ (by simp [World.setCell])
    iterate 6 (refine EntsD.grown ?_ (setCell_grown _ _ _ _) (by omega))
    exact HI3.out
  · iterate 6 (refine grown_ge ?_ (setCell_grown _ _ _ _) (by omega))
    exact HC3.out
end Go.Proofs.YtanfebccenfffafDoor

namespace Go.Proofs.YtanfebccenfffafDoor
open Go.RowKit

theorem endM_ge : ∀ (es : List Ent) (m : Int), m ≤ endM es m
  | [], _ => Int.le_refl _
  | e :: es, m => by
    have := endM_ge es (m + (e.runes.length : Int) + 1 + 1 + 1 + 1)
    unfold endM
    omega

theorem endM_szEs : ∀ (es : List Ent) (m left : Int), 0 ≤ left → 0 ≤ szEs es left → endM es m ≤ m + left + 4 * (es.length : Int)
  | [], m, left, h0, _ => by unfold endM; simp; omega
  | e :: es, m, left, h0, h => by
    unfold szEs at h
    split at h
    · omega
    · rename_i c
      have hb := szL_bd c
      rw [hb.1] at h
      have := endM_szEs es (m + (e.runes.length : Int) + 1 + 1 + 1 + 1) (left - (e.runes.length : Int)) hb.2 h
      unfold endM
      rw [List.length_cons]
      omega

theorem endM_szA {es : List Ent} {m left : Int} (h : 0 ≤ szA es left) : endM es m ≤ m + left + 4 * (es.length : Int) := by
  unfold szA at h
  split at h
  · omega
  · have := endM_szEs es m (left - (es.length : Int)) (by omega) h
    omega

def MRel1 (w : World) (B T : Nat) (v : Value) (es : List Ent) (m0 : Int) (kv i : Value) (wr : World) : Prop :=
  ∃ (j : Nat) (m : Int) (done : List Ent), j ≤ es.length ∧ i = .int .i64 j ∧ kv = .int .i64 m ∧ 0 ≤ m ∧ m ≤ endM es m0 ∧ done.length = j ∧ EntsD wr B T v (done ++ es.drop j) ∧
    done ++ markEs (es.drop j) m = markEs es m0 ∧ endM (es.drop j) m = endM es m0 ∧ Mid B T w wr

set_option maxRecDepth 100000 in
set_option maxHeartbeats 4000000 in
theorem markEs1_row (w : World) (B T g cap : Nat) (es : List Ent) (m0 : Int) (hm0 : 0 ≤ m0) (hm1 : endM es m0 ≤ 1073741824) (hz : es.length ≤ 1048576) (hE : EntsD w B T (.slice (some ⟨g, 0, none⟩) es.length cap) es) :
    Calls Tryd.prog 44 #[.slice (some ⟨g, 0, none⟩) es.length cap, .int .i64 m0] w fun e w' => e = .returned (.int .i64 (endM es m0)) ∧ EntsD w' B T (.slice (some ⟨g, 0, none⟩) es.length cap) (markEs es m0) ∧ Mid B T w w' := by
  go_enter Tryd.func44, Tryd.ntmps44
  go_wp2
  go_loopw [1, 5] (fun kv i wr => MRel1 w B T (.slice (some ⟨g, 0, none⟩) es.length cap) es m0 kv i wr) (fun _ i _ => es.length - (intOf i).toNat)
  case atStart => exact ⟨0, m0, [], Nat.zero_le _, rfl, rfl, hm0, endM_ge _ _, rfl, by simpa using hE, by simp, by simp, Mid.refl _ _ _⟩
  case round =>
    clear hE
    obtain ⟨j, m, done, hj, rfl, rfl, hmm0, hmm1, hdl, hED, hmk, hend, hbw⟩ := hrel
    have HMK : Hid _ := hmk
    have HEND : Hid _ := hend
    clear hmk hend
    by_cases hlt : j < es.length
    · obtain ⟨e, he⟩ : ∃ e, es[j]? = some e := ⟨_, List.getElem?_eq_getElem hlt⟩
      have hdr := ents_drop he
      have hge : m + (e.runes.length : Int) + 1 + 1 + 1 + 1 ≤ endM es m0 := by
        rw [← HEND.out, hdr]
        exact endM_ge _ _
      have hlen : (done ++ es.drop j).length = es.length := by rw [List.length_append, hdl, List.length_drop]; omega
      have hat : (done ++ es.drop j)[j]? = some e := by rw [List.getElem?_append_right (by omega), hdl, Nat.sub_self, hdr]; rfl
      obtain ⟨xs, hxl, h1, h2, h3, h4, h5⟩ := hED
      obtain ⟨x, hx, hI⟩ := h2 j e hat
      rw [hlen] at h1
      obtain ⟨xa, xn, xc, rfl⟩ : ∃ xa xn xc, x = .slice xa xn xc := by
        rcases hI.form with ⟨rfl, _⟩ | ⟨_, _, rfl, _, _⟩
        · exact ⟨_, _, _, rfl⟩
        · exact ⟨_, _, _, rfl⟩
      have at' : ∀ i, i < 5 → wr.cell? ⟨g, j * 5 + i, none⟩ = (entC (.slice xa xn xc) e.el)[i]? := fun i hi => by
        rw [World.ownsRow.cellAt h1 (j * 5 + i) (by omega), entAll_at xs _ j i _ e hx hat hi]
      have a0 : wr.cell? ⟨g, j * 5, none⟩ = some (.slice xa xn xc) := at' 0 (by omega)
      have hj8 : (j : Int) < (es.length : Int) := by omega
      have MK := markK_any (m := m) hmm0 (by omega) (by omega) hI
      obtain ⟨M, hM⟩ : ∃ M, M = m + (e.runes.length : Int) := ⟨_, rfl⟩
      rw [← hM] at MK
      have hMb : 0 ≤ M ∧ M ≤ 1073741824 := by omega
      obtain ⟨hMb0, hMb1⟩ := hMb
      have HM : Hid _ := hM
      have HX : Hid _ := hx
      have HE : Hid _ := he
      have HDR : Hid _ := hdr
      have HLEN : Hid _ := hlen
      have HAT : Hid _ := hat
      have H1 : Hid _ := h1
      have H2 : Hid _ := h2
      have H3 : Hid _ := h3
      have H4 : Hid (g < T) := h4 g rfl
      have H5 : Hid _ := h5
      have HXL : Hid _ := hxl
      have HI : Hid (Ints _ _ _ _) := hI
      clear hM hx he hdr hlen hat h1 h2 h3 h4 h5 hxl hI at'
      go_wp2_with fail
      refine MK.mono ?_
      rintro e' w3 ⟨rfl, i3, g3⟩
      have k1 := World.ownsRow.kept H1.out g3 (own_type H1.out HI.out (by decide))
      have at3 : ∀ i, i < 5 → w3.cell? ⟨g, j * 5 + i, none⟩ = (entC (.slice xa xn xc) e.el)[i]? := fun i hi => by
        rw [World.ownsRow.cellAt k1 (j * 5 + i) (by omega), entAll_at xs _ j i _ e HX.out HAT.out hi]
      have c1 : w3.cell? ⟨g, j * 5 + 1, none⟩ = some (.int .i64 e.el.first) := at3 1 (by omega)
      have c2 : w3.cell? ⟨g, j * 5 + 2, none⟩ = some (.int .i64 e.el.second) := at3 2 (by omega)
      have c3 : w3.cell? ⟨g, j * 5 + 3, none⟩ = some (.int .i64 e.el.third) := at3 3 (by omega)
      have c4 : w3.cell? ⟨g, j * 5 + 4, none⟩ = some (.bool e.el.varies) := at3 4 (by omega)
      have f1 := k1.frozenAt (j * 5 + 1)
      have f2 := k1.frozenAt (j * 5 + 2)
      have f3 := k1.frozenAt (j * 5 + 3)
      have f4 := k1.frozenAt (j * 5 + 4)
      have hD := entsD_mark (el := mkR M) HLEN.out HXL.out H1.out H2.out H3.out H4.out H5.out hlt HX.out (.inr ⟨_, HI.out⟩) i3 g3
      have hset : (done ++ es.drop j).set j ⟨seqK m e.runes.length, mkR M⟩ = (done ++ [⟨seqK m e.runes.length, mkR M⟩]) ++ es.drop (j + 1) := by
        rw [List.set_append_right _ _ (by omega), hdl, Nat.sub_self, HDR.out, List.set_cons_zero]; simp
      rw [hset] at hD
      have hgB := (World.ownsRow.lt H1.out g rfl).1
      have hb3 : Mid B T w w3 := hbw.grown g3 (fun jj hjj => ⟨(World.ownsRow.lt HI.out jj hjj).1, H5.out j _ jj HX.out hjj⟩)
      have hb4 : Mid B T w (set4 w3 g (j * 5) (mkR M)) := hb3.grown (set4_grown w3 g (j * 5) (mkR M)) (fun jj hjj => by cases hjj; exact ⟨hgB, H4.out⟩)
      have HD : Hid (EntsD _ _ _ _ _) := hD
      have HB4 : Hid (Mid _ _ _ _) := hb4
      have HMK2 : Hid ((done ++ [⟨seqK m e.runes.length, mkR M⟩]) ++ markEs (es.drop (j + 1)) (M + 1 + 1 + 1 + 1) = markEs es m0) := by
        show _ = _
        rw [← HMK.out, HDR.out, HM.out]
        simp [markEs]
      have HEND2 : Hid (endM (es.drop (j + 1)) (M + 1 + 1 + 1 + 1) = endM es m0) := by
        show _ = _
        rw [← HEND.out, HDR.out, HM.out]
        rfl
      have HBD : Hid (M + 1 + 1 + 1 + 1 ≤ endM es m0) := by show _ ≤ _; have := HM.out; omega
      have HDL : Hid ((done ++ [(⟨seqK m e.runes.length, mkR M⟩ : Ent)]).length = j + 1) := by show _ = _; simp [hdl]
      clear MK k1 at3 hD hset hb3 hb4 HMK HEND HM HX HE HDR HLEN HAT H1 H2 H3 H4 H5 HXL HI i3 g3 a0 hdl
      go_wp2
      exact ⟨⟨j + 1, M + 1 + 1 + 1 + 1, _, hlt, by go_num, rfl, by omega, HBD.out, HDL.out, HD.out, HMK2.out, HEND2.out, HB4.out⟩, by simp [intOf]; omega⟩
    · have hjz : j = es.length := by omega
      subst hjz
      have e1 : es.drop es.length = [] := List.drop_length
      have HF : Hid (m = endM es m0) := by show _ = _; rw [← HEND.out, e1]; rfl
      have HG : Hid (done = markEs es m0) := by show _ = _; rw [← HMK.out, e1]; simp [markEs]
      rw [e1, List.append_nil] at hED
      clear HMK HEND e1
      go_wp2
      go_ret
      rw [← HF.out, ← HG.out]
      exact ⟨rfl, hED, hbw⟩

theorem markEs1_any {w : World} {B T : Nat} {v : Value} {es : List Ent} {m0 : Int} (hm0 : 0 ≤ m0) (hm1 : endM es m0 ≤ 1073741824) (hz : es.length ≤ 1048576) (hE : EntsD w B T v es) :
    Calls Tryd.prog 44 #[v, .int .i64 m0] w fun e w' => e = .returned (.int .i64 (endM es m0)) ∧ EntsD w' B T v (markEs es m0) ∧ Mid B T w w' := by
  rcases hE.ents.form with ⟨rfl, rfl⟩ | ⟨g, cap, rfl, _, _, _, _⟩
  · refine (markEs_none w _ _ m0).mono ?_
    rintro e w' ⟨rfl, rfl⟩
    exact ⟨rfl, hE, Mid.refl _ _ _⟩
  · exact markEs1_row w B T g cap es m0 hm0 hm1 hz hE

set_option maxRecDepth 100000 in
set_option maxHeartbeats 1000000 in
theorem markRules1_any {w : World} {B T : Nat} {v : Value} {es : List Ent} {m0 : Int} (sh : Bool) (lv : Int) (hm0 : 0 ≤ m0) (hm1 : endM es m0 ≤ 1073741824) (hz : es.length ≤ 1048576) (hE : EntsD w B T v es) :
    Calls Tryd.prog 19 #[.agg #[v, .bool sh, .int .i64 lv], .int .i64 m0] w fun e w' => e = .returned (.int .i64 (endM es m0)) ∧ EntsD w' B T v (markEs es m0) ∧ Mid B T w w' := by
  obtain ⟨xa, xn, xc, rfl⟩ : ∃ xa xn xc, v = .slice xa xn xc := by
    rcases hE.ents.form with ⟨rfl, _⟩ | ⟨_, _, rfl, _, _, _, _⟩
    · exact ⟨_, _, _, rfl⟩
    · exact ⟨_, _, _, rfl⟩
  have hb := (Below.refl w.heap.size w).alloc (Nat.le_refl _) (.cells #[.slice xa xn xc, .bool sh, .int .i64 lv] 33)
  have M := markEs1_any (m0 := m0) hm0 hm1 hz (hE.below hb)
  have HB : Hid (Mid B T _ _) := Mid.of hb
  clear hb hE
  go_enter Tryd.func19, Tryd.ntmps19
  go_wp2_with fail
  refine M.mono ?_
  rintro e w3 ⟨rfl, i3, b3⟩
  clear M
  go_wp2
  go_ret
  exact ⟨rfl, i3, HB.out.trans b3⟩

end Go.Proofs.YtanfebccenfffafDoor

namespace Go.Proofs.YtanfebccenfffafDoor
open Go.RowKit

theorem Elems.mid {w w' : World} {B T B' : Nat} {v : Value} {es : List El} (h : Elems w B' v es) (hm : Mid B T w w') (ha : ∀ g, v.ownBlock = some g → g < B ∨ T ≤ g) : Elems w' B' v es := by
  refine ⟨h.1, ?_⟩
  rcases h.2 with h2 | ⟨g, cap, cur, h1, h2, h3, h4⟩
  · exact .inl h2
  · refine .inr ⟨g, cap, cur, h1, h2, ?_, h4⟩
    rw [hm.block g (Array.getElem?_eq_some_iff.1 h3).1 (ha g (by rw [h1]; rfl))]; exact h3

theorem Ints.mid {w w' : World} {B T B' : Nat} {v : Value} {l : List Int} (h : Ints w B' v l) (hm : Mid B T w w') (ha : ∀ g, v.ownBlock = some g → g < B ∨ T ≤ g) : Ints w' B' v l := by
  refine ⟨h.1, ?_⟩
  rcases h.2 with h2 | ⟨g, cap, cur, h1, h2, h3, h4⟩
  · exact .inl h2
  · refine .inr ⟨g, cap, cur, h1, h2, ?_, h4⟩
    rw [hm.block g (Array.getElem?_eq_some_iff.1 h3).1 (ha g (by rw [h1]; rfl))]; exact h3

theorem row_apart {w w' : World} {B B' n n' k k' : Nat} {t t' : TypeId} {v v' : Value} {l l' : List Value} (h : w.ownsRow B t k v n l) (h' : w'.ownsRow B' t' k' v' n' l') (hB : w.heap.size ≤ B') : v.ownBlock = none ∨ v.ownBlock ≠ v'.ownBlock := by
  cases c : v.ownBlock with
  | none => exact .inl rfl
  | some j =>
    refine .inr fun e => ?_
    have l1 := (World.ownsRow.lt h j c).2
    have l2 := (World.ownsRow.lt h' j e.symm).1
    omega
end Go.Proofs.YtanfebccenfffafDoor

namespace Go.Proofs.YtanfebccenfffafDoor
open Go.RowKit

theorem Blk.mid {w w' : World} {g B T : Nat} {cs : Array Value} {t : TypeId} (h : Blk w g cs t) (hm : Mid B T w w') (hg : g < B ∨ T ≤ g) : Blk w' g cs t := by
  unfold Blk
  rw [hm.block g (Array.getElem?_eq_some_iff.1 h).1 hg]; exact h
end Go.Proofs.YtanfebccenfffafDoor

namespace Go.Proofs.YtanfebccenfffafDoor
open Go.RowKit

set_option maxRecDepth 100000 in
set_option maxHeartbeats 8000000 in
theorem firstsOf_walk (w : World) (a : Option Addr) (len cap : Nat) (es : List Ent) (sh : Bool) (lv : Int) (s : ByteArray) (hs : s.size ≤ maxLen) (hA : ArgEnts w a len cap es)
    (I : ∀ (u : World) (B : Nat) (v : Value), Below w.heap.size w u → Ents u B v es → (∀ e ∈ es, e.runes.length ≤ 1048576) → s.size ≤ 1048576 → Calls Tryd.prog 25 #[.agg #[v, .bool sh, .int .i64 lv], .string s] u fun e w' => ∃ v', e = .returned (.tuple #[v', .bool (okE es lv s)]) ∧ Ints w' u.heap.size v' (firsT es sh lv s) ∧ Below u.heap.size u w') :
    Calls Tryd.prog 6 #[.agg #[.slice a len cap, .bool sh, .int .i64 lv], .string s] w fun e w' => e = .returned (.bool true) ∧ Below w.heap.size w w' := by
  unfold maxLen at hs
  have hb1 := (Below.refl w.heap.size w).alloc (Nat.le_refl _) (.cells #[.slice a len cap, .bool sh, .int .i64 lv] 24)
  have hx1 : Blk (w.alloc (.cells #[.slice a len cap, .bool sh, .int .i64 lv] 24)) w.heap.size #[.slice a len cap, .bool sh, .int .i64 lv] 24 := heap_alloc_new _ _
  have S := szRules_any w _ a len cap es sh lv 1048576 (by omega) (by omega) hA hb1
  have HA : Hid (ArgEnts w a len cap es) := hA
  have HI : Hid _ := I
  have HB1 : Hid (Below _ _ _) := hb1
  have HX1 : Hid (Blk _ _ _ _) := hx1
  clear hA I hb1 hx1
  by_cases hls : 1048576 < s.size
  · have hl2s : (1048576 : Int) < (s.size : Int) := by omega
    clear S
    go_enter Tryd.func6, Tryd.ntmps6
    go_wp2
    go_ret
    exact ⟨rfl, HB1.out⟩
  have hl2s : ¬ (1048576 : Int) < (s.size : Int) := by omega
  by_cases hneg : szA es 1048576 < 0
  · generalize szA es 1048576 = sz at *
    go_enter Tryd.func6, Tryd.ntmps6
    go_wp2_with fail
    refine S.mono ?_
    rintro e w2 ⟨rfl, b2⟩
    clear S
    go_wp2
    go_ret
    exact ⟨rfl, HB1.out.trans (b2.mono HB1.out.size)⟩
  · have hbd := szA_bd (es := es) (left := 1048576) (by omega)
    have hem := endM_szA (es := es) (m := 1) (left := 1048576) (by omega)
    have hle : len ≤ 1048576 := by have := HA.out.1; omega
    have HR : Hid (∀ e ∈ es, e.runes.length ≤ 1048576) := fun e he => by have := hbd.2 e he; omega
    have hel : es.length ≤ 1048576 := by omega
    have hpos := endM_ge es 1
    obtain ⟨en, HEN⟩ : ∃ en, Hid (endM es 1 = en) := ⟨_, rfl⟩
    rw [HEN.out] at hem hpos
    have hpos2 : ¬ en < 0 := by omega
    clear hbd
    generalize szA es 1048576 = sz at *
    have T := fun (u : World) (hu : Below w.heap.size w u) => toRules_any w u a len cap es sh lv HA.out hu hle HR.out
    have TD := fun (u : World) (hu : Below w.heap.size w u) => toRulesD_any w u a len cap es sh lv HA.out hu hle HR.out
    have A0 := fun (u : World) (B : Nat) (v : Value) (h : Ents u B v es) => specFirsts_any (sh := sh) (lv := lv) s (by omega) h HR.out
    have I0 := fun (u : World) (B : Nat) (v : Value) (hu : Below w.heap.size w u) (h : Ents u B v es) => HI.out u B v hu h HR.out (by omega)
    have hll := firsT_len es sh lv s
    generalize firsT es sh lv s = fl at *
    generalize okE es lv s = ok at *
    have HA0 : Hid _ := A0
    have HI0 : Hid _ := I0
    clear A0 I0 HI
    go_enter Tryd.func6, Tryd.ntmps6
    go_wp2_with fail
    refine S.mono ?_
    rintro e w2 ⟨rfl, b2⟩
    clear S
    have HX2 : Hid (Blk _ _ _ _) := HX1.out.below b2
    have HB2 : Hid (Below _ _ _) := HB1.out.trans (b2.mono HB1.out.size)
    obtain ⟨p0, p1, p2⟩ := HX2.out.three
    clear HX1 HB1 b2
    go_wp2_with fail
    refine (T _ HB2.out).mono ?_
    rintro e w3 ⟨g3, rfl, i3, b3⟩
    have HX3 : Hid (Blk _ _ _ _) := HX2.out.below b3
    have HB3 : Hid (Below _ _ _) := HB2.out.trans (b3.mono HB2.out.size)
    have A := HA0.out _ _ _ i3
    clear p0 p1 p2 HX2 HB2 b3 i3 HA0
    go_wp2_with fail
    refine A.mono ?_
    rintro e w4 ⟨v4, rfl, r4, b4⟩
    have HX4 : Hid (Blk _ _ _ _) := HX3.out.below b4
    have HB4 : Hid (Below _ _ _) := HB3.out.trans (b4.mono HB3.out.size)
    have HXL : Hid (w.heap.size < w4.heap.size) := HX4.out.lt
    have H44 : Hid (Ints w4 w3.heap.size v4 fl) := r4
    obtain ⟨p0, p1, p2⟩ := HX4.out.three
    clear A HX3 HB3 b4 r4
    go_wp2_with fail
    refine (TD _ HB4.out).mono ?_
    rintro e w5 ⟨g5, rfl, d5, b5⟩
    have b56 := (Below.refl w5.heap.size w5).alloc (Nat.le_refl _) (.cells #[.slice (some ⟨g5, 0, none⟩) len len, .bool sh, .int .i64 lv] 33)
    have HX6 : Hid (Blk _ _ _ _) := (HX4.out.below b5).below b56
    have HY6 : Hid (Blk (w5.alloc (.cells #[.slice (some ⟨g5, 0, none⟩) len len, .bool sh, .int .i64 lv] 33)) w5.heap.size #[.slice (some ⟨g5, 0, none⟩) len len, .bool sh, .int .i64 lv] 33) := heap_alloc_new _ _
    have H45 : Hid (Below w4.heap.size w4 w5) := b5
    have H46 : Hid (Below _ _ _) := b5.trans (b56.mono b5.size)
    have HB5 := HB4.out.trans (b5.mono HB4.out.size)
    have HB6 : Hid (Below _ _ _) := HB5.trans (b56.mono HB5.size)
    have D6 : Hid (EntsD _ _ _ _ _) := d5.below b56
    have HS6 : Hid (w5.heap.size < (w5.alloc (.cells #[.slice (some ⟨g5, 0, none⟩) len len, .bool sh, .int .i64 lv] 33)).heap.size) := by show _ < _; simp
    have G := HI0.out _ _ _ HB6.out D6.out.ents
    clear p0 p1 p2 HX4 b5 b56 d5 HB5
    go_wp2_with fail
    refine G.mono ?_
    rintro e w7 ⟨v7, rfl, r7, b7⟩
    have HX7 : Hid (Blk _ _ _ _) := HX6.out.below b7
    have HY7 : Hid (Blk _ _ _ _) := HY6.out.below b7
    have HB7 : Hid (Below _ _ _) := HB6.out.trans (b7.mono HB6.out.size)
    have D7 : Hid (EntsD _ _ _ _ _) := D6.out.below b7
    have H47 : Hid (Below _ _ _) := H46.out.trans (b7.mono H46.out.size)
    have H77 : Hid (Ints _ _ v7 fl) := r7
    have E7 := eq_any r7 (H44.out.below H47.out)
    have HA7 : Hid (∀ g, v7.ownBlock = some g → g < w4.heap.size ∨ w5.heap.size ≤ g) := fun g hg => .inr (by have := (World.ownsRow.lt r7 g hg).1; have := HS6.out; omega)
    have HA4 : Hid (∀ g, v4.ownBlock = some g → g < w4.heap.size ∨ w5.heap.size ≤ g) := fun g hg => .inl (World.ownsRow.lt H44.out g hg).2
    have HP47 : Hid (v4.ownBlock = none ∨ v4.ownBlock ≠ v7.ownBlock) := row_apart H44.out r7 H46.out.size
    have HX7L : Hid (∀ g, v7.ownBlock = some g → w4.heap.size ≤ g) := fun g hg => by have := (World.ownsRow.lt r7 g hg).1; have := H46.out.size; omega
    have HG7 : Hid (∀ g, v7.ownBlock = some g → w.heap.size ≤ g) := fun g hg => by have := (World.ownsRow.lt r7 g hg).1; have := HB6.out.size; omega
    clear G HX6 HY6 HB6 D6 b7 r7 H46
    go_wp2_with fail
    refine E7.mono ?_
    rintro e w8 ⟨rfl, nqb8, hqb8⟩
    have b8 : Below w7.heap.size w7 w8 := by rw [hqb8]; exact below_drewN (Below.refl _ _) nqb8
    clear hqb8
    have hx7 := HX7.out.below b8
    have hy7 := HY7.out.below b8
    have HB8 : Hid (Below _ _ _) := HB7.out.trans (b8.mono HB7.out.size)
    have D8 : Hid (EntsD _ _ _ _ _) := D7.out.below b8
    have H48 : Hid (Below _ _ _) := H47.out.trans (b8.mono H47.out.size)
    have H78 : Hid (Ints _ _ v7 fl) := H77.out.below b8
    obtain ⟨p0, p1, p2⟩ := hx7.three
    obtain ⟨q0, q1, q2⟩ := hy7.three
    have hgx := hx7.lt
    have hgy := hy7.lt
    have HX8 : Hid (Blk _ _ _ _) := hx7
    have HY8 : Hid (Blk _ _ _ _) := hy7
    have hS : w8.cell? ⟨w.heap.size, 0, none⟩ = some (.slice a len cap) ∧ w8.cell? ⟨w.heap.size, 1, none⟩ = some (.bool sh) ∧ w8.cell? ⟨w.heap.size, 2, none⟩ = some (.int .i64 lv) ∧ w8.cell? ⟨w5.heap.size, 0, none⟩ = some (.slice (some ⟨g5, 0, none⟩) len len) ∧ w8.cell? ⟨w5.heap.size, 1, none⟩ = some (.bool sh) ∧ w8.cell? ⟨w5.heap.size, 2, none⟩ = some (.int .i64 lv) ∧ Below w8.heap.size w8 w8 := ⟨p0, p1, p2, q0, q1, q2, Below.refl _ _⟩
    have hS2 := keep6 hgx hgy ((Below.refl w8.heap.size w8).drew) hS
    have K := fun (u1 u2 : World) (hb : Below u1.heap.size u1 u2) (hu : u1.cell? ⟨w.heap.size, 0, none⟩ = some (.slice a len cap) ∧ u1.cell? ⟨w.heap.size, 1, none⟩ = some (.bool sh) ∧ u1.cell? ⟨w.heap.size, 2, none⟩ = some (.int .i64 lv) ∧ u1.cell? ⟨w5.heap.size, 0, none⟩ = some (.slice (some ⟨g5, 0, none⟩) len len) ∧ u1.cell? ⟨w5.heap.size, 1, none⟩ = some (.bool sh) ∧ u1.cell? ⟨w5.heap.size, 2, none⟩ = some (.int .i64 lv) ∧ Below w8.heap.size w8 u1) => keep6 hgx hgy hb hu
    have T2 := fun (u : World) (hu : u.cell? ⟨w.heap.size, 0, none⟩ = some (.slice a len cap) ∧ u.cell? ⟨w.heap.size, 1, none⟩ = some (.bool sh) ∧ u.cell? ⟨w.heap.size, 2, none⟩ = some (.int .i64 lv) ∧ u.cell? ⟨w5.heap.size, 0, none⟩ = some (.slice (some ⟨g5, 0, none⟩) len len) ∧ u.cell? ⟨w5.heap.size, 1, none⟩ = some (.bool sh) ∧ u.cell? ⟨w5.heap.size, 2, none⟩ = some (.int .i64 lv) ∧ Below w8.heap.size w8 u) => T u (HB8.out.trans (hu.2.2.2.2.2.2.mono HB8.out.size))
    have EQ := fun (u : World) (B : Nat) (g : Nat) (hu : u.cell? ⟨w.heap.size, 0, none⟩ = some (.slice a len cap) ∧ u.cell? ⟨w.heap.size, 1, none⟩ = some (.bool sh) ∧ u.cell? ⟨w.heap.size, 2, none⟩ = some (.int .i64 lv) ∧ u.cell? ⟨w5.heap.size, 0, none⟩ = some (.slice (some ⟨g5, 0, none⟩) len len) ∧ u.cell? ⟨w5.heap.size, 1, none⟩ = some (.bool sh) ∧ u.cell? ⟨w5.heap.size, 2, none⟩ = some (.int .i64 lv) ∧ Below w8.heap.size w8 u) (he : Ents u B (.slice (some ⟨g, 0, none⟩) len len) es) => eqRules_same sh lv hel (D8.out.ents.below hu.2.2.2.2.2.2) he
    have HT : Hid _ := T
    clear E7 HX7 HY7 HB7 D7 H47 H77 b8 hx7 hy7 T TD p0 p1 p2 q0 q1 q2
    go_wp2_with fail
    go_region_held (fun u => u.cell? ⟨w.heap.size, 0, none⟩ = some (.slice a len cap) ∧ u.cell? ⟨w.heap.size, 1, none⟩ = some (.bool sh) ∧ u.cell? ⟨w.heap.size, 2, none⟩ = some (.int .i64 lv) ∧ u.cell? ⟨w5.heap.size, 0, none⟩ = some (.slice (some ⟨g5, 0, none⟩) len len) ∧ u.cell? ⟨w5.heap.size, 1, none⟩ = some (.bool sh) ∧ u.cell? ⟨w5.heap.size, 2, none⟩ = some (.int .i64 lv) ∧ Below w8.heap.size w8 u)
      (first | exact hS2 | exact K _ _ (by assumption) (by assumption))
      (first | (go_at_call 10; refine (T2 _ (by assumption)).mono ?_; rintro e w' ⟨g, rfl, hEn, hbw⟩) | (go_at_call 14; refine (EQ _ _ _ (by assumption) (by assumption)).mono ?_; rintro e w' ⟨rfl, hbw⟩))
    all_goals
      have hE := (show w'.cell? ⟨w.heap.size, 0, none⟩ = _ ∧ _ ∧ _ ∧ _ ∧ _ ∧ _ ∧ Below w8.heap.size w8 w' by assumption).2.2.2.2.2.2
      clear hS hS2 EQ K T2
      have HX9 : Hid (Blk _ _ _ _) := HX8.out.below hE
      have HY9 : Hid (Blk _ _ _ _) := HY8.out.below hE
      have HB9 : Hid (Below _ _ _) := HB8.out.trans (hE.mono HB8.out.size)
      have D9 : Hid (EntsD _ _ _ _ _) := D8.out.below hE
      have H49 : Hid (Below _ _ _) := H48.out.trans (hE.mono H48.out.size)
      have H79 : Hid (Ints _ _ v7 fl) := H78.out.below hE
      have M9 := markRules1_any (m0 := 1) sh lv (by omega) (by rw [HEN.out]; omega) hel D9.out
      rw [HEN.out] at M9
      obtain ⟨q0, q1, q2⟩ := HY9.out.three
      clear HX8 HY8 HB8 D8 H48 H78 hE
      go_wp2_with fail
      refine M9.mono ?_
      rintro e w10 ⟨rfl, _, m10⟩
      have hB9 : w4.heap.size ≤ w'.heap.size := H49.out.size
      have b10 := m10.below hB9
      have HX10 : Hid (Blk _ _ _ _) := HX9.out.mid m10 (.inl HXL.out)
      have HB10 : Hid (Below _ _ _) := HB9.out.trans (b10.mono HB4.out.size)
      have H410 : Hid (Ints w10 w3.heap.size v4 fl) := (H44.out.below H49.out).mid m10 HA4.out
      have H710 : Hid (Ints w10 _ v7 fl) := H79.out.mid m10 HA7.out
      have E10 := eq_any H710.out H410.out
      clear M9 HX9 HY9 HB9 D9 H49 H79 m10 b10 q0 q1 q2 hB9
      go_wp2_with fail
      refine E10.mono ?_
      rintro e w11 ⟨rfl, nqb11, hqb11⟩
      have b11 : Below w10.heap.size w10 w11 := by rw [hqb11]; exact below_drewN (Below.refl _ _) nqb11
      clear hqb11
      have HX11 : Hid (Blk _ _ _ _) := HX10.out.below b11
      have HB11 : Hid (Below _ _ _) := HB10.out.trans (b11.mono HB10.out.size)
      have H411 : Hid (Ints w11 w3.heap.size v4 fl) := H410.out.below b11
      have H711 : Hid (Ints w11 _ v7 fl) := H710.out.below b11
      have M11 := markK_any (m := 1) (by omega) (by omega) (by omega) H711.out
      clear E10 HX10 HB10 H410 H710 b11
      go_wp2_with fail
      refine M11.mono ?_
      rintro e w12 ⟨rfl, r12, g12⟩
      have HX12 : Hid (Blk w12 w.heap.size #[.slice a len cap, .bool sh, .int .i64 lv] 24) := by
        show w12.heap[w.heap.size]? = _
        rw [g12.block w.heap.size HX11.out.lt (fun c => by rcases HA7.out _ c.symm with h | h <;> have := HXL.out <;> have := HX7L.out _ c.symm <;> omega)]
        exact HX11.out
      have HB12 : Hid (Below w.heap.size w w12) := Below.grown HB11.out g12 HB11.out.size (fun g hg => HG7.out g hg)
      have H412 : Hid (Ints w12 w3.heap.size v4 fl) := World.ownsRow.kept H411.out g12 HP47.out
      have H712 : Hid (Ints w12 _ v7 (seqK 1 fl.length)) := r12
      have L12 := heldK_any (m := 1) (by omega) (by omega) (by omega) r12
      have hq8 : ¬ (1 + (fl.length : Int) < 0) := by omega
      clear M11 HX11 HB11 H411 H711 r12 g12
      go_wp2_with fail
      refine L12.mono ?_
      rintro e w13 ⟨rfl, hw13⟩
      obtain rfl : w12 = w13 := hw13.symm
      clear L12
      obtain ⟨p0, p1, p2⟩ := HX12.out.three
      go_wp2_with fail
      refine (HT.out _ HB12.out).mono ?_
      rintro e w14 ⟨g14, rfl, i14, b14⟩
      have HB14 : Hid (Below _ _ _) := HB12.out.trans (b14.mono HB12.out.size)
      have H414 : Hid (Ints w14 w3.heap.size v4 fl) := H412.out.below b14
      have H714 : Hid (Ints w14 _ v7 (seqK 1 fl.length)) := H712.out.below b14
      have G14 := HI0.out _ _ _ HB14.out i14
      clear p0 p1 p2 HX12 HB12 H412 H712 b14 i14 HT HI0
      go_wp2_with fail
      refine G14.mono ?_
      rintro e w15 ⟨v15, rfl, r15, b15⟩
      have HB15 : Hid (Below _ _ _) := HB14.out.trans (b15.mono HB14.out.size)
      have H415 : Hid (Ints w15 w3.heap.size v4 fl) := H414.out.below b15
      have H715 : Hid (Ints w15 _ v7 (seqK 1 fl.length)) := H714.out.below b15
      have E15 := eq_any r15 H415.out
      clear G14 HB14 H414 H714 r15 b15
      go_wp2_with fail
      refine E15.mono ?_
      rintro e w16 ⟨rfl, nqb16, hqb16⟩
      have b16 : Below w15.heap.size w15 w16 := by rw [hqb16]; exact below_drewN (Below.refl _ _) nqb16
      clear hqb16
      have HB16 : Hid (Below _ _ _) := HB15.out.trans (b16.mono HB15.out.size)
      have L16 := heldK_any (m := 1) (by omega) (by omega) (by omega) (H715.out.below b16)
      clear E15 HB15 H715 b16 H415
      go_wp2_with fail
      refine L16.mono ?_
      rintro e w17 ⟨rfl, hw17⟩
      obtain rfl : w16 = w17 := hw17.symm
      clear L16
      go_wp2
      go_ret
      exact ⟨rfl, HB16.out⟩
end Go.Proofs.YtanfebccenfffafDoor

namespace Go.Proofs.YtanfebccenfffafDoor
open Go.ChangeShapes Go.WideShapes Go.ChangeAt Go.WideMaps Go.WideElems Go.RowKit

theorem fnExactFirstsOf_law (a0 : Option Addr) (len0 cap0 : Nat) (es0 : List Ent) (sh0 : Bool) (lv0 : Int) (s1 : ByteArray) (w : World) (w0 : ArgEnts w a0 len0 cap0 es0) (w1 : s1.size ≤ maxLen) (t_marks : Held w 0 marksF) (t_cap : Held w 2 capF) (t_oth : Held w 3 othF) :
    Calls Tryd.prog 6 #[.agg #[.slice a0 len0 cap0, .bool sh0, .int .i64 lv0], .string s1] w fun e w' => e = .returned (.bool true) ∧ Below w.heap.size w w' :=
  firstsOf_walk w a0 len0 cap0 es0 sh0 lv0 s1 w1 w0 fun _ _ _ hu hE hr h1 => implFirsts_any _ h1 hE hr (Tabs3.below (w := w) ⟨t_marks, t_cap, t_oth⟩ hu)

theorem own_fnExactFirstsOf : ownKnob Tryd.prog.godebug = none := by kernel_rfl
theorem laidOut_fnExactFirstsOf : laidOutB Tryd.prog = true := by kernel_rfl

open Go.ChangeMaps (open_string shut_string) in
set_option linter.unusedVariables false in
set_option maxRecDepth 100000 in
theorem fnExactFirstsOf_contract (H : Type) (enc : TypeId × Value → H) (W : World) (base : Nat) (args : Array Value) (ds gs : List (DataW H)) (before : List MemPlace)
    (hval0 : ∀ (j : Nat) t v, Tryd.f6.params[j]? = some t → args[j]? = some v → Value.okWide Tryd.prog W .any base t v)
    (hW : DataW.Whole enc Tryd.prog Tryd.f6.params.toList Rows.fnExactFirstsOfSpec.vars false W args.toList ds gs before) (hL : laidMetH Tryd.prog Rows.fnExactFirstsOfRow.laid W) :
    Calls Tryd.prog 6 args W fun e W' => ∃ v, e = .returned v ∧ Rows.fnExactFirstsOfSpec.post enc Tryd.prog Tryd.f6 false true false false W args v W' := by
  have hval : ∀ (j : Nat) t v, Tryd.f6.params[j]? = some t → args[j]? = some v → Value.okWide Tryd.prog W .any base t v := hval0
  have hW' := hW
  obtain ⟨p, q, hA0, hV, rfl, hfz, hnd⟩ := hW
  have hA : DataW.TrodAll enc Tryd.prog W 0 (fun _ => true) true Tryd.f6.params.toList args.toList ds p := hA0
  rw [Tryd.params6] at hA hval
  obtain ⟨v0, vs0, d0, ds0, p0, q0, hargs, rfl, rfl, h0, r0⟩ := trodAll_cons hA
  obtain ⟨v1, vs1, d1, ds1, p1, q1, rfl, rfl, rfl, h1, r1⟩ := trodAll_cons r0
  obtain ⟨rfl, rfl, rfl⟩ := trodAll_nil r1
  obtain rfl : args = #[v0, v1] := by cases args; simp_all
  obtain ⟨g1, g2, g3, rfl⟩ : ∃ g1 g2 g3, gs = [g1, g2, g3] := by
    have hg := trodVars_len hV
    match gs, hg with
    | [x1, x2, x3], _ => exact ⟨x1, x2, x3, rfl⟩
  have k0 := h0
  have lt0 : ∀ x ∈ p0, x.block < W.heap.size := by obtain ⟨m, hm⟩ := k0; exact DataW.trod_lt m _ _ _ hm
  obtain ⟨c0, e0, l0, y0, y0b, y0c, n0, hv0, _, _, f0, f0b, f0c⟩ := Joins.open_agg3 Tryd.underlying24 (by kernel_rfl) (by kernel_rfl) (hval 0 24 v0 rfl rfl) h0
  obtain ⟨a0, len0, cap0, hs0⟩ := Joins.slice_form Tryd.underlying22 f0
  obtain ⟨sh0, hb0, _⟩ := DataW.trod_bool Tryd.underlying4 f0b
  obtain ⟨lv0, hi0, _⟩ := DataW.trod_int Tryd.underlying3 f0c
  cases hs0
  cases hb0
  cases hi0
  subst hv0
  obtain ⟨es0, w0⟩ := open_entries f0
  obtain ⟨a1, rfl, rfl, rfl, w1⟩ := open_string Tryd.underlying9 (hval 1 9 v1 rfl rfl) h1
  have hL2 : laidMet Tryd.prog Rows.fnExactFirstsOfRow.laid W := hL
  have t_marks := marks_held hL2
  have t_cap := cap_held (laidMet.tail hL2)
  have t_oth := oth_held (laidMet.tail (laidMet.tail hL2))
  clear hA0 hval0
  refine (fnExactFirstsOf_law a0 len0 cap0 es0 sh0 lv0 a1 W w0 w1 t_marks t_cap t_oth).mono fun e W' ⟨he, bel⟩ => ?_
  subst he
  exact ⟨_, rfl, _, _, _, [], _, q, hW', trodAll_mk1 (shut_bool Tryd.underlying4 _), (trodAll_cons_mk (Below.trod laidOut_fnExactFirstsOf (by kernel_rfl) (of_decide_eq_true (by kernel_rfl)) k0 bel lt0) (trodAll_cons_mk (shut_string Tryd.underlying9 w1) trodAll_mk0)), bel.trodVars laidOut_fnExactFirstsOf (by kernel_rfl) hV, bel.frame _, fun h => by cases h⟩

theorem fnExactFirstsOf_door (os : Os) (args : Array Value) : laidMetH Tryd.prog Rows.fnExactFirstsOfRow.laid ((World.doorLaid Tryd.prog 70 os).forCall (fun _ _ => 0) ⟨#[], args, []⟩).memory :=
  laidMetH_of_parts3 (fuel := 8) (laidMet_of_run' 8 (by kernel_rfl) (by kernel_rfl)) (by kernel_rfl) (by kernel_rfl)

set_option maxRecDepth 100000 in
theorem fnExactFirstsOf_lifted (os : Os) (started : os.Started) (H : Type) (enc : TypeId × Value → H) :
    ReturnsInHanded {} Tryd.checked os 6 .any (fun w args => (Rows.fnExactFirstsOfSpec.pre enc Tryd.prog Tryd.f6 [] false w args ∧ laidMetH Tryd.prog Rows.fnExactFirstsOfRow.laid w) ∧ sizedMet enc Tryd.prog Tryd.f6 (OpenSpec.ofChange Rows.fnExactFirstsOfSpec) false w args)
      (Rows.fnExactFirstsOfSpec.post enc Tryd.prog Tryd.f6 false true false false) := by
  refine returnsInHanded_of_change_and (C := Tryd.checked) (X := fun w _ => laidMetH Tryd.prog Rows.fnExactFirstsOfRow.laid w) (fun _ _ _ hh h => h.of_heap hh) own_fnExactFirstsOf started (by kernel_rfl) Tryd.func6
    (ChangeSpec.witness_shaped (enc := enc) (C := Tryd.checked) (os := os) (X := fun w _ => laidMetH Tryd.prog Rows.fnExactFirstsOfRow.laid w) false (World.doorLaid Tryd.prog 70 os) #[.agg #[.slice none 0 0, .bool false, .int .i64 0], .string ByteArray.empty] 8 rfl (World.shaped_of_RefB (by kernel_rfl) (by kernel_rfl)) (by kernel_rfl) (by kernel_rfl) (by kernel_rfl) (fnExactFirstsOf_door os _)) ?_
  intro W base args ds gs before hval0 hW _ _ hL _
  exact fnExactFirstsOf_contract H enc W base args ds gs before hval0 hW hL

theorem fnExactFirstsOf_said : Rows.FnExactFirstsOfSaid :=
  OpenClaim.holds_of_wide 6 Tryd.f6 rfl rfl rfl rfl rfl rfl rfl ⟨rfl, rfl, rfl, rfl, rfl⟩ rfl rfl rfl rfl rfl (by kernel_rfl) Tryd.func6 (by kernel_rfl)
    (of_decide_eq_true (by kernel_rfl)) (by unfold Func.isWrapper; first | (rw [if_pos (by decide +kernel)]; kernel_rfl) | (rw [if_neg (by decide +kernel)]; exact ⟨rfl, rfl⟩))
    (fun os started H enc _ => fnExactFirstsOf_lifted os started H enc)

theorem fnExactFirstsOf_plain (f : FuncId) (fn : Func) (hf : Tryd.pinned.checked.prog.funcNamed "loop.example/g00158/laws.FnExactFirstsOf" = some f) (hfn : Tryd.pinned.checked.prog.funcs[f]? = some fn) :
    ∀ (j : Nat) t, fn.params[j]? = some t → Tryd.pinned.checked.prog.wantsStandIn t = false := by
  obtain rfl : f = 6 := Option.some.inj ((show Tryd.prog.funcNamed "loop.example/g00158/laws.FnExactFirstsOf" = some 6 by kernel_rfl).symm.trans hf) |>.symm
  obtain rfl : fn = Tryd.f6 := (Option.some.inj (Tryd.func6.symm.trans hfn)).symm
  intro j t ht
  rw [Tryd.params6] at ht
  have hm : t = 24 ∨ t = 9 := by simpa using Array.mem_of_getElem? ht
  rcases hm with rfl | rfl
  · exact (show Tryd.prog.wantsStandIn 24 = false by kernel_rfl)
  · exact (show Tryd.prog.wantsStandIn 9 = false by kernel_rfl)

theorem fnExactFirstsOf_card : Rows.FnExactFirstsOfCardSaid :=
  Claim7.holds_tied_plain_at .later [] _ _ _ _ fnExactFirstsOf_said (fun _ h => by cases h) (by kernel_rfl) (fun _ h => by cases h) fnExactFirstsOf_row_tie rfl ⟨rfl, rfl⟩ (by kernel_rfl) rfl (fun f fn hf hfn => ⟨by kernel_rfl, fnExactFirstsOf_plain f fn hf hfn⟩) (by kernel_rfl)
#print axioms fnExactFirstsOf_card
end Go.Proofs.YtanfebccenfffafDoor
