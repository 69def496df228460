/- Texts of mine laid together: IKey, Bys, IKeyOf, PSortT, ISortT, SMark. -/
import Derived.Test.YtanfebccenfffagGreatDoorICount
import Derived.Test.YtanfebccenfffagGreatDoorGrown1
import Derived.Test.YtanfebccenfffagGreatDoorMT4
import Derived.Test.YtanfebccenfffagGreatDoorPKey2
import Derived.Laws.BytesString
import Derived.Deep.Cut
import Derived.Deep.CutRange
import Derived.Test.YtanfebccenfffagGreatDoorPSort4
import Derived.Test.YtanfebccenfffagGreatDoorIKT
import Derived.Test.YtanfebccenfffagGreatDoorIClone
import Derived.Test.YtanfebccenfffagGreatDoorPKey
import Derived.Deep.RegionLaw
import Derived.Deep.DrawnRows
import Derived.Deep.RegionHeld3
import Derived.Deep.AppendLies
import Derived.Deep.MidRow
namespace Go.Proofs.YtanfebccenfffagGreatDoor
open Go.RowKit

theorem counted_nil (sh : Bool) : counted sh [] = [] := rfl
theorem fourths_nil (sh : Bool) : fourths sh [] = [] := rfl

/-- The block of counted elems. -/
def BoxC (u : World) (b : Nat) (v v' : Value) : Prop := u.heap[b]? = some (.cells #[v, v'] 92)
theorem BoxC.below {B b : Nat} {u u' : World} {v v' : Value} (h : BoxC u b v v') (hb : Below B u u') (hlt : b < B) : BoxC u' b v v' := (hb.block b hlt).trans h
theorem BoxC.cells {b : Nat} {u : World} {v v' : Value} (h : BoxC u b v v') : u.cell? ⟨b, 0, none⟩ = some v ∧ u.cell? ⟨b, 1, none⟩ = some v' ∧ ∀ j, u.frozen? ⟨b, j, none⟩ = false :=
  ⟨cell_of_row _ _ 0 _ _ _ h, cell_of_row _ _ 1 _ _ _ h, fun j => by unfold BoxC at h; simp [World.frozen?, h]⟩

theorem els_form {w : World} {B : Nat} {v : Value} {es : List El} (h : Elems w B v es) : ∃ a c, v = .slice a es.length c := by
  obtain ⟨a, c, h, _⟩ := els_slice h; exact ⟨a, c, h⟩
theorem ints_form {w : World} {B : Nat} {v : Value} {l : List Int} (h : Ints w B v l) : ∃ a c, v = .slice a l.length c := by
  obtain ⟨a, c, h, _⟩ := ints_slice h; exact ⟨a, c, h⟩

theorem els_set2 {w : World} {B b : Nat} {v x y : Value} {es : List El} (h : Elems w B v es) (hb : b < B) : Elems ((w.setCell ⟨b, 0, none⟩ x).setCell ⟨b, 1, none⟩ y) B v es :=
  World.ownsRow.kept (World.ownsRow.kept h (setCell_grown w b 0 x) (by
    cases e : v.ownBlock with
    | none => exact .inl rfl
    | some g => exact .inr fun c => by have := (World.ownsRow.lt h g e).1; cases c; omega)) (setCell_grown _ b 1 y) (by
    cases e : v.ownBlock with
    | none => exact .inl rfl
    | some g => exact .inr fun c => by have := (World.ownsRow.lt h g e).1; cases c; omega)
theorem ints_set2 {w : World} {B b : Nat} {v x y : Value} {l : List Int} (h : Ints w B v l) (hb : b < B) : Ints ((w.setCell ⟨b, 0, none⟩ x).setCell ⟨b, 1, none⟩ y) B v l :=
  World.ownsRow.kept (World.ownsRow.kept h (setCell_grown w b 0 x) (by
    cases e : v.ownBlock with
    | none => exact .inl rfl
    | some g => exact .inr fun c => by have := (World.ownsRow.lt h g e).1; cases c; omega)) (setCell_grown _ b 1 y) (by
    cases e : v.ownBlock with
    | none => exact .inl rfl
    | some g => exact .inr fun c => by have := (World.ownsRow.lt h g e).1; cases c; omega)
theorem below_set2 {w u : World} {b B : Nat} {x y : Value} (h : Below B w u) (hb : B ≤ b) : Below B w ((u.setCell ⟨b, 0, none⟩ x).setCell ⟨b, 1, none⟩ y) := (h.setCell hb _).setCell hb _

set_option maxRecDepth 100000 in
set_option maxHeartbeats 4000000 in
theorem count_any {w : World} {B : Nat} {ve : Value} {es : List Ent} {sh : Bool} {lv : Int} (x : ByteArray) (hx : x.size ≤ 1048576) (hE : Ents w B ve es) (hr : ∀ e ∈ es, e.runes.length ≤ 1048576) (ht : Tabs3 w) :
    Calls Tryz.prog 51 #[.agg #[ve, .bool sh, .int .i64 lv], .string x] w fun e w' => ∃ v v', e = .returned (.tuple #[.agg #[v, v'], .bool (okE es lv x)]) ∧ Elems w' w.heap.size v (counted sh (elsA es lv x)) ∧ Ints w' w.heap.size v' (fourths sh (elsA es lv x)) ∧ Below w.heap.size w w' := by
  obtain ⟨va, vc, rfl⟩ : ∃ a c, ve = .slice a es.length c := by
    rcases hE.form with ⟨rfl, rfl⟩ | ⟨_, _, rfl, _, _, _, _⟩
    · exact ⟨_, _, rfl⟩
    · exact ⟨_, _, rfl⟩
  have hb2 : Below w.heap.size w ((w.alloc (.cells #[.slice va es.length vc, .bool sh, .int .i64 lv] 32)).alloc (.cells #[.slice none 0 0, .slice none 0 0] 92)) := ((Below.refl _ _).alloc (Nat.le_refl _) _).alloc (by simp) _
  have hbox : BoxR4 ((w.alloc (.cells #[.slice va es.length vc, .bool sh, .int .i64 lv] 32)).alloc (.cells #[.slice none 0 0, .slice none 0 0] 92)) w.heap.size (.slice va es.length vc) sh lv := by
    unfold BoxR4
    rw [Below.heap_alloc _ _ _ (by simp)]; exact heap_alloc_new w _
  have hboc : BoxC ((w.alloc (.cells #[.slice va es.length vc, .bool sh, .int .i64 lv] 32)).alloc (.cells #[.slice none 0 0, .slice none 0 0] 92)) (w.heap.size + 1) (.slice none 0 0) (.slice none 0 0) := heap_alloc2_new w _ _
  have hsz : ((w.alloc (.cells #[.slice va es.length vc, .bool sh, .int .i64 lv] 32)).alloc (.cells #[.slice none 0 0, .slice none 0 0] 92)).heap.size = w.heap.size + 1 + 1 := by simp
  have EI := implElemsIn_any (sh := sh) (lv := lv) x hx (hE.below hb2) hr (ht.below hb2)
  have hlen := elsA_len es lv x
  have HSZ : Hid (_ = _) := hsz
  have HBX : Hid (BoxR4 _ _ _ _ _) := hbox
  have HBC : Hid (BoxC _ _ _ _) := hboc
  have HB2 : Hid (Below _ _ _) := hb2
  clear hE ht hr hx hsz hbox hboc hb2
  cases hok : okE es lv x
  · rw [hok] at EI
    have he0 : elsA es lv x = [] := by unfold elsA; rw [hok]; rfl
    rw [he0, counted_nil, fourths_nil]
    clear hok he0 hlen
    go_enter Tryz.func51, Tryz.ntmps51
    go_wp2_with fail
    refine EI.mono ?_
    rintro e w1 ⟨v1, rfl, i1, b1⟩
    have hc1 := HBC.out.below b1 (by rw [HSZ.out]; omega)
    obtain ⟨c0, c1, cf⟩ := hc1.cells
    have hl1 : w.heap.size + 1 < w1.heap.size := (Array.getElem?_eq_some_iff.1 hc1).1
    have HB1 : Hid (Below _ _ _) := HB2.out.trans (b1.mono HB2.out.size)
    clear EI i1 b1 hc1
    go_wp2
    refine bodyPost_ret (v := .tuple #[.agg #[.slice none 0 0, .slice none 0 0], .bool false]) ?_ rfl ⟨_, _, rfl, ⟨rfl, .inl ⟨rfl, rfl⟩⟩, ⟨rfl, .inl ⟨rfl, rfl⟩⟩, below_set2 HB1.out (by omega)⟩
    rw [results_cell_tmp rfl]
    go_simp
  · rw [hok] at EI
    clear hok
    generalize elsA es lv x = el at *
    go_enter Tryz.func51, Tryz.ntmps51
    go_wp2_with fail
    refine EI.mono ?_
    rintro e w1 ⟨v1, rfl, i1, b1⟩
    have hx1 := HBX.out.below b1 (by rw [HSZ.out]; omega)
    have hc1 := HBC.out.below b1 (by rw [HSZ.out]; omega)
    obtain ⟨p0, p1, p2⟩ := hx1.cells
    have hl1 : w.heap.size + 1 < w1.heap.size := (Array.getElem?_eq_some_iff.1 hc1).1
    have HB1 : Hid (Below _ _ _) := HB2.out.trans (b1.mono HB2.out.size)
    have FO := implFourth_ok sh (by omega) i1
    have HC1 : Hid (BoxC _ _ _ _) := hc1
    clear EI i1 b1 hc1 hx1
    go_wp2_with fail
    refine FO.mono ?_
    rintro e w2 ⟨v2, v3, rfl, i2, e2, b2⟩
    have hc2 := HC1.out.below b2 hl1
    obtain ⟨c0, c1, cf⟩ := hc2.cells
    have hl2 : w.heap.size + 1 < w2.heap.size := (Array.getElem?_eq_some_iff.1 hc2).1
    have HBB : Hid (Below _ _ _) := HB1.out.trans (b2.mono HB1.out.size)
    have HI2 : Hid (Ints _ _ _ _) := i2
    have HE2 : Hid (Elems _ _ _ _) := e2
    obtain ⟨a3, k3, rfl⟩ := els_form e2
    obtain ⟨a2, k2, rfl⟩ := ints_form i2
    clear FO p0 p1 p2 b2 hc2 i2 e2 HC1
    go_wp2
    refine bodyPost_ret (v := .tuple #[.agg #[.slice a3 (counted sh el).length k3, .slice a2 (fourths sh el).length k2], .bool true]) ?_ rfl ⟨_, _, rfl, els_low (els_set2 HE2.out hl1) (by omega), low_ints (ints_set2 HI2.out hl1) (by omega), below_set2 HBB.out (by omega)⟩
    rw [results_cell_tmp rfl]
    go_simp
end Go.Proofs.YtanfebccenfffagGreatDoor

namespace Go.Proofs.YtanfebccenfffagGreatDoor
open Go.RowKit

theorem info_u8 : (Tryz.prog.info? 5).map (fun i => (i.zero, i.size, i.bytes)) = some (some (.int .u8 0), 1, 1) := by kernel_rfl

def Bys (w : World) (base : Nat) (v : Value) (bs : List Int) : Prop := w.ownsRow base 5 1 v bs.length (bs.map (Value.int .u8))

theorem Bys.form {w : World} {B : Nat} {v : Value} {bs : List Int} (h : Bys w B v bs) : (v = .slice none 0 0 ∧ bs = []) ∨ ∃ g cap, v = .slice (some ⟨g, 0, none⟩) bs.length cap := by
  rcases h.2 with ⟨a, b⟩ | ⟨g, cap, cur, a, _⟩
  · exact .inl ⟨a, by simpa using b⟩
  · exact .inr ⟨g, cap, a⟩

theorem Bys.below {w w' : World} {B : Nat} {v : Value} {bs : List Int} (h : Bys w B v bs) (hb : Below w.heap.size w w') : Bys w' B v bs :=
  World.ownsRow.kept h (row := none) ⟨hb.os, hb.tape, hb.output, hb.size, fun k hk _ => hb.block k hk⟩ (by cases h : v.ownBlock <;> simp)

theorem Bys.app2 {w : World} {B : Nat} {v : Value} {bs : List Int} {x y : Int} (h : w.ownsRow B 5 1 v (bs.length + 2) (bs.map (Value.int .u8) ++ [.int .u8 x, .int .u8 y])) : Bys w B v (bs ++ [x, y]) := by
  unfold Bys; simpa using h

theorem cells2_at (w : World) (n : Nat) (x y : Value) (t : TypeId) (hn : n = w.heap.size) : ∀ j u, [x, y][j]? = some u → (w.alloc (.cells #[x, y] t)).cell? ((⟨n, 0, none⟩ : Addr).add j) = some u := by
  subst hn
  intro j u hj
  match j, hj with
  | 0, hj => simp at hj; subst hj; simp [Addr.add]
  | 1, hj => simp at hj; subst hj; simp [Addr.add]
  | j + 2, hj => simp at hj

theorem foldl_pushB : ∀ (xs : List Int) (r : ByteArray), xs.foldl (fun r n => r.push (UInt8.ofNat n.toNat)) r = ⟨r.data ++ (xs.map fun x => x.toNat.toUInt8).toArray⟩
  | [], r => by simp
  | x :: xs, r => by
    simp only [List.map_cons, List.foldl_cons]
    rw [foldl_pushB xs]
    simp [ByteArray.push]

theorem addr_zero (b j : Nat) : (⟨b, 0, none⟩ : Addr).add j = ⟨b, j, none⟩ := by
  unfold Addr.add
  split
  · rename_i h; subst h; rfl
  · simp

theorem conv_bys {w : World} {B : Nat} {v : Value} {bs : List Int} (h : Bys w B v bs) : (convert 95 9 v).run Tryz.prog w = .ok (.string (bytesOf bs)) w := by
  rcases h.form with ⟨rfl, rfl⟩ | ⟨g, cap, rfl⟩
  · rw [run_convert_bytes_string _ _ _ _ _ _ _ Tryz.underlying95 Tryz.underlying5 Tryz.underlying9]
    rfl
  · rw [run_convert_bytes_string _ _ _ _ _ _ _ Tryz.underlying95 Tryz.underlying5 Tryz.underlying9]
    have hl := run_loadCells_list (P := Tryz.prog) w ⟨g, 0, none⟩ (bs.map (Value.int .u8)) (fun j v hj => by
      have hjl : j < bs.length := by have := (List.getElem?_eq_some_iff.1 hj).1; simpa using this
      rw [addr_zero, World.ownsRow.cellAt h j (by omega), hj])
    simp only [List.length_map] at hl
    rw [run_bytesToString _ _ _ _ bs hl, foldl_pushB]
    have he0 : ByteArray.empty.data = #[] := rfl
    rw [he0]
    simp [bytesOf]
end Go.Proofs.YtanfebccenfffagGreatDoor

namespace Go.Proofs.YtanfebccenfffagGreatDoor
open Go.RowKit

theorem weightsL_any {w : World} {B B' : Nat} {ve vf : Value} {xs : List El} {fs : List Int} (lv : Nat) (h1 : 1 ≤ lv) (h4 : lv ≤ 4) (hE : Elems w B ve xs) (hI : Ints w B' vf fs) (hl : fs.length = xs.length) (hn : xs.length ≤ 1048576) :
    Calls Tryz.prog 52 #[.agg #[ve, vf], .int .i64 lv] w fun e w' => ∃ v, e = .returned v ∧ Ints w' w.heap.size v (wts lv xs fs) ∧ Below w.heap.size w w' := by
  obtain rfl | rfl | rfl | rfl : lv = 1 ∨ lv = 2 ∨ lv = 3 ∨ lv = 4 := by omega
  · exact weights1_any hE hI hl hn
  · exact weights2_any hE hI hl hn
  · exact weights3_any hE hI hl hn
  · exact weights4_any hE hI hl hn

def KoRel (W : World) (xs : List El) (fs : List Int) (n : Nat) (v8 v9 : Value) (wr : World) : Prop :=
  ∃ l : Nat, l ≤ n ∧ v9 = .int .i64 ((l : Int) + 1) ∧ Bys wr W.heap.size v8 (keyN xs fs l) ∧ Below W.heap.size W wr

def KiRel (W : World) (B : Nat) (v33 : Value) (pre ws : List Int) (v8 i : Value) (wr : World) : Prop :=
  ∃ k : Nat, k ≤ ws.length ∧ i = .int .i64 k ∧ Bys wr W.heap.size v8 (pre ++ bysOf (ws.take k)) ∧ Ints wr B v33 ws ∧ Below W.heap.size W wr

theorem take_bys {ws : List Int} {k : Nat} {x : Int} (h : ws[k]? = some x) (pre : List Int) : pre ++ bysOf (ws.take (k + 1)) = (pre ++ bysOf (ws.take k)) ++ [x / 256, x % 256] := by
  rw [List.take_add_one, h, bysOf_app, List.append_assoc]
  simp [bysOf_one]

theorem wts_rng {lv : Nat} {es : List El} {sh : Bool} (h : ∀ e ∈ es, rngE e) : ∀ n ∈ wts lv (counted sh es) (fourths sh es), 1 ≤ n ∧ n ≤ 65535 :=
  wtsK_rng (fourS_rng h _).2 (fourS_rng h _).1 _

theorem keyT_ok {es : List Ent} {sh : Bool} {lv : Int} {x : ByteArray} (h : okE es lv x = true) : keyT es sh lv x = bytesOf (keyN (counted sh (elsA es lv x)) (fourths sh (elsA es lv x)) lv.toNat) := by
  unfold keyT elsA
  rw [if_pos h, if_pos h]; rfl

theorem elsA_rng {es : List Ent} {lv : Int} {x : ByteArray} : ∀ e ∈ elsA es lv x, rngE e := by
  unfold elsA
  split
  · rename_i h
    exact elems4_rng (okE_parts h).2.2 (rn4_rng x)
  · intro e he; cases he

theorem ret_key {a b : ByteArray} {c : Bool} (h : a = b) : Ending.returned (.tuple #[.string a, .bool c]) = .returned (.tuple #[.string b, .bool c]) := by rw [h]

set_option maxRecDepth 100000 in
set_option maxHeartbeats 4000000 in
theorem implKey_any {w : World} {B : Nat} {ve : Value} {es : List Ent} {sh : Bool} {lv : Int} (x : ByteArray) (hx : x.size ≤ 1048576) (hE : Ents w B ve es) (hr : ∀ e ∈ es, e.runes.length ≤ 1048576) (ht : Tabs3 w) :
    Calls Tryz.prog 26 #[.agg #[ve, .bool sh, .int .i64 lv], .string x] w fun e w' => e = .returned (.tuple #[.string (keyT es sh lv x), .bool (okE es lv x)]) ∧ Below w.heap.size w w' := by
  obtain ⟨va, vc, rfl⟩ : ∃ a c, ve = .slice a es.length c := by
    rcases hE.form with ⟨rfl, rfl⟩ | ⟨_, _, rfl, _, _, _, _⟩
    · exact ⟨_, _, rfl⟩
    · exact ⟨_, _, rfl⟩
  obtain ⟨i0, hi0, hz0, hs0, hy0⟩ := info_parts info_u8
  have hbx : Below w.heap.size w (w.alloc (.cells #[.slice va es.length vc, .bool sh, .int .i64 lv] 32)) := (Below.refl _ _).alloc (Nat.le_refl _) _
  have hbox : BoxR4 (w.alloc (.cells #[.slice va es.length vc, .bool sh, .int .i64 lv] 32)) w.heap.size (.slice va es.length vc) sh lv := heap_alloc_new w _
  have C := count_any (sh := sh) (lv := lv) x hx (hE.below hbx) hr (ht.below hbx)
  have hlen := elsA_len es lv x
  have hcl := counted_len sh (elsA es lv x)
  have hfl := fourths_len sh (elsA es lv x)
  have hfc : (fourths sh (elsA es lv x)).length = (counted sh (elsA es lv x)).length := by omega
  have hcn : (counted sh (elsA es lv x)).length ≤ 400 := by omega
  have HBX : Hid (Below _ _ _) := hbx
  have HBO : Hid (BoxR4 _ _ _ _ _) := hbox
  have HFC : Hid (_ = _) := hfc
  clear hE ht hr hx hlen hcl hfl hfc hbx hbox
  cases hok : okE es lv x
  · rw [hok] at C
    have hk0 : keyT es sh lv x = ⟨#[]⟩ := by unfold keyT; rw [hok]; rfl
    rw [hk0]
    clear hok hk0 HFC hcn HBO
    go_enter Tryz.func26, Tryz.ntmps26
    go_wp2_with fail
    refine C.mono ?_
    rintro e w1 ⟨v1, v2, rfl, e1, i1, b1⟩
    obtain ⟨a1, k1, rfl⟩ := els_form e1
    obtain ⟨a2, k2, rfl⟩ := ints_form i1
    have HB1 : Hid (Below _ _ _) := HBX.out.trans (b1.mono HBX.out.size)
    clear C i1 e1 b1
    go_wp2
    go_ret2
    exact ⟨rfl, HB1.out.alloc HB1.out.size _⟩
  · rw [hok] at C
    obtain ⟨_, hl1, hl4⟩ := rulesOk_parts (okE_parts hok).2.2
    obtain ⟨n, rfl⟩ : ∃ n : Nat, lv = (n : Int) := ⟨lv.toNat, by omega⟩
    rw [keyT_ok hok, Int.toNat_natCast]
    have hrg := fun l => wts_rng (lv := l) (sh := sh) (elsA_rng (es := es) (lv := (n : Int)) (x := x))
    have HRG : Hid (∀ l, ∀ m ∈ wts l (counted sh (elsA es n x)) (fourths sh (elsA es n x)), 1 ≤ m ∧ m ≤ 65535) := hrg
    have hwl := fun l => wtsK_len l (counted sh (elsA es n x)) (fourths sh (elsA es n x)) (counted sh (elsA es n x)).length
    have hkl := fun l => keyN_len (counted sh (elsA es n x)) (fourths sh (elsA es n x)) l
    clear hok hrg
    generalize counted sh (elsA es n x) = xs at *
    generalize fourths sh (elsA es n x) = fs at *
    have HWL : Hid (∀ l, (wts l xs fs).length ≤ 400) := fun l => Nat.le_trans (hwl l) hcn
    have HKL : Hid (∀ l, l ≤ 4 → (keyN xs fs l).length ≤ 3208) := fun l hl => Nat.le_trans (hkl l) (Nat.le_trans (Nat.mul_le_mul hl (show 2 + 2 * xs.length ≤ 802 by omega)) (by omega))
    clear hwl hkl
    obtain ⟨W0, HW0⟩ : ∃ W0, Hid (W0 = w.alloc (.cells #[.slice va es.length vc, .bool sh, .int .i64 n] 32)) := ⟨_, rfl⟩
    have hw0s : w.heap.size < W0.heap.size := by rw [HW0.out]; simp
    rw [← HW0.out] at HBX HBO C
    go_enter Tryz.func26, Tryz.ntmps26
    go_wp2_with fail
    rw [← HW0.out]
    refine C.mono ?_
    rintro e w1 ⟨v1, v2, rfl, e1, i1, b1⟩
    obtain ⟨a1, k1, rfl⟩ := els_form e1
    obtain ⟨a2, k2, rfl⟩ := ints_form i1
    have hb2 : Below w1.heap.size w1 (w1.alloc (.cells #[.slice a1 xs.length k1, .slice a2 fs.length k2] 92)) := (Below.refl _ _).alloc (Nat.le_refl _) _
    have HE2 : Hid (Elems _ _ _ _) := e1.below hb2
    have HI2 : Hid (Ints _ _ _ _) := i1.below hb2
    have HBC : Hid (BoxC (w1.alloc (.cells #[.slice a1 xs.length k1, .slice a2 fs.length k2] 92)) w1.heap.size (.slice a1 xs.length k1) (.slice a2 fs.length k2)) := heap_alloc_new w1 _
    have HBR : Hid (BoxR4 (w1.alloc (.cells #[.slice a1 xs.length k1, .slice a2 fs.length k2] 92)) w.heap.size (.slice va es.length vc) sh n) := (HBO.out.below b1 hw0s).below hb2 (by have := b1.size; omega)
    have HB2 : Hid (Below w.heap.size w (w1.alloc (.cells #[.slice a1 xs.length k1, .slice a2 fs.length k2] 92))) := (HBX.out.trans (b1.mono HBX.out.size)).trans (hb2.mono (HBX.out.trans (b1.mono HBX.out.size)).size)
    have hws : w.heap.size < w1.heap.size := by have := b1.size; omega
    clear C i1 e1 b1 hb2 HBO HBX HW0
    obtain ⟨W, HW⟩ : ∃ W, Hid (W = w1.alloc (.cells #[.slice a1 xs.length k1, .slice a2 fs.length k2] 92)) := ⟨_, rfl⟩
    have hWs : w1.heap.size < W.heap.size := by rw [HW.out]; simp
    rw [← HW.out] at HE2 HI2 HBC HBR HB2
    go_wp2_with fail
    rw [← HW.out]
    go_loopw [8, 9] (fun v8 v9 wr => KoRel W xs fs n v8 v9 wr) (fun _ v9 _ => n + 1 - (intOf v9).toNat)
    case atStart => exact ⟨0, by omega, rfl, World.ownsRow_nil _ _ _ _, Below.refl _ _⟩
    case round =>
      clear HW
      obtain ⟨l, hl, rfl, hK, hbw⟩ := hrel
      obtain ⟨c0, c1, c2⟩ := (HBR.out.below hbw (by omega)).cells
      have hbc := HBC.out.below hbw hWs
      obtain ⟨d0, d1, _⟩ := hbc.cells
      have hkl := HKL.out l (by omega)
      have hsz := hbw.size
      by_cases hlt : l < n
      · have hlt8 : (l : Int) + 1 ≤ (n : Int) := by omega
        have HK : Hid (Bys _ _ _ _) := hK
        have HBW : Hid (Below _ _ _) := hbw
        clear hK hbw
        go_upto_if 27 with fail
        go_cut [8] from 20 to 47 (fun v8 wx => Bys wx W.heap.size v8 (keyN xs fs l ++ sepB (l + 1)) ∧ Below W.heap.size W wx)
        case first =>
          by_cases h0 : l = 0
          · subst h0
            go_wp2
            go_meet
            case rel => exact ⟨by simpa [sepB] using HK.out, HBW.out⟩
          · have h08 : (1 : Int) < (l : Int) + 1 := by omega
            have hs : sepB (l + 1) = [0, 0] := by unfold sepB; rw [if_pos (by omega)]
            have HS : Hid _ := hs
            have hK := HK.out
            unfold Bys at hK
            clear hs
            go_wp2_with (at_builtin; refine wpList_append_own _ rfl _ _ 95 rfl W.heap.size 5 i0 (.int .u8 0) 1 1 Tryz.underlying95 hi0 hz0 hs0 hy0 rfl (by decide) _ _ _ rfl (hK.alloc _) ⟨wr.heap.size, 0, none⟩ 2 2 [.int .u8 0, .int .u8 0] rfl rfl (cells2_at _ _ _ _ _ (by simp)) (fun u hu => by simp at hu; subst hu; rfl) (by unfold maxLen; omega) (by omega) (by simp; omega) ?_)
            intro v4 w4 ho4 hg4 _
            have hI4 : Bys w4 W.heap.size v4 (keyN xs fs l ++ [0, 0]) := Bys.app2 ho4
            have hb4 : Below W.heap.size W w4 := Below.grown (HBW.out.alloc HBW.out.size _) hg4 (HBW.out.alloc HBW.out.size _).size (fun j hj => (World.ownsRow.lt hK j hj).1)
            have HI4 : Hid (Bys _ _ _ _) := hI4
            clear ho4 hg4 hK hI4
            go_wp2
            go_meet
            case rel => exact ⟨by rw [HS.out]; exact HI4.out, hb4⟩
        case rest =>
          obtain ⟨hK, hbw⟩ := hcut
          clear HK HBW c0 c1 c2 d0 d1 hbc
          obtain ⟨c0, c1, c2⟩ := (HBR.out.below hbw (by omega)).cells
          obtain ⟨d0, d1, _⟩ := (HBC.out.below hbw hWs).cells
          have hsz2 := hbw.size
          have hws2 : w1.heap.size < wc.heap.size := by omega
          have WT := weightsL_any (l + 1) (by omega) (by omega) (HE2.out.below hbw) (HI2.out.below hbw) HFC.out (by omega)
          have hwl := HWL.out (l + 1)
          have hpl : (keyN xs fs l ++ sepB (l + 1)).length ≤ 3210 := by
            have : (sepB (l + 1)).length ≤ 2 := by unfold sepB; split <;> simp
            rw [List.length_append]; omega
          have HPR : Hid (keyN xs fs (l + 1) = (keyN xs fs l ++ sepB (l + 1)) ++ bysOf (wts (l + 1) xs fs)) := by show _ = _; rw [keyN, List.append_assoc]
          have hrg := HRG.out (l + 1)
          have HK2 : Hid (Bys _ _ _ _) := hK
          have HBW2 : Hid (Below _ _ _) := hbw
          generalize keyN xs fs l ++ sepB (l + 1) = pre at *
          generalize wts (l + 1) xs fs = ws at *
          have HRW : Hid (∀ m ∈ ws, 1 ≤ m ∧ m ≤ 65535) := hrg
          clear hK hbw hrg
          rw [Int.natCast_add] at WT
          go_wp2_with fail
          refine WT.mono ?_
          rintro e w5 ⟨v5, rfl, i5, b5⟩
          obtain ⟨a5, k5, rfl⟩ := ints_form i5
          have HK5 : Hid (Bys _ _ _ _) := HK2.out.below b5
          have HB5 : Hid (Below _ _ _) := HBW2.out.trans (b5.mono HBW2.out.size)
          have HI5 : Hid (Ints _ _ _ _) := i5
          clear WT i5 b5 HK2 HBW2 c0 c1 c2 d0 d1
          go_wp2_with fail
          go_loopw [8, 35] (fun v8 i wr => KiRel W wc.heap.size (.slice a5 ws.length k5) pre ws v8 i wr) (fun _ i _ => ws.length - (intOf i).toNat)
          case atStart => exact ⟨0, Nat.zero_le _, rfl, by rw [List.take_zero, bysOf_nil, List.append_nil]; exact HK5.out, HI5.out, HB5.out⟩
          case round =>
            clear HK5 HI5 HB5
            obtain ⟨k, hk, rfl, hK, hI, hbw⟩ := hrel
            by_cases hlk : k < ws.length
            · obtain ⟨y, hy⟩ : ∃ y, ws[k]? = some y := ⟨_, List.getElem?_eq_getElem hlk⟩
              have hyr := HRW.out y (List.mem_of_getElem? hy)
              have HT : Hid _ := take_bys hy pre
              obtain ⟨g5, rfl, c5⟩ : ∃ g5, a5 = some ⟨g5, 0, none⟩ ∧ wr.cell? ⟨g5, k, none⟩ = some (.int .i64 y) := by
                rcases hI.form with ⟨_, h2⟩ | ⟨g, cap, h, _, _⟩
                · subst h2; simp at hlk
                · injection h with h1 _ h3
                  subst h1
                  subst h3
                  refine ⟨g, rfl, ?_⟩
                  have := hI.cell k hlk
                  rw [hy] at this
                  exact this
              have hk8 : (k : Int) < (ws.length : Int) := by omega
              obtain ⟨hy1, hy2⟩ := hyr
              have hbl : (pre ++ bysOf (ws.take k)).length ≤ 4100 := by rw [List.length_append, bysOf_len, List.length_take]; omega
              have hsz3 := hbw.size
              have HI : Hid (Ints _ _ _ _) := hI
              obtain ⟨cur, HCUR⟩ : ∃ cur, Hid (pre ++ bysOf (ws.take k) = cur) := ⟨_, rfl⟩
              rw [HCUR.out] at hK HT hbl
              unfold Bys at hK
              clear hy hI
              go_wp2_with (at_builtin; refine wpList_append_own _ rfl _ _ 95 rfl W.heap.size 5 i0 (.int .u8 0) 1 1 Tryz.underlying95 hi0 hz0 hs0 hy0 rfl (by decide) _ _ _ rfl (hK.alloc _) ⟨wr.heap.size, 0, none⟩ 2 2 [.int .u8 (y / 256), .int .u8 (y % 256)] rfl rfl (cells2_at _ _ _ _ _ (by simp)) (fun u hu => by simp at hu; rcases hu with rfl | rfl <;> rfl) (by unfold maxLen; omega) (by omega) (by simp; omega) ?_)
              intro v6 w6 ho6 hg6 _
              have hI6 : Bys w6 W.heap.size v6 (cur ++ [y / 256, y % 256]) := Bys.app2 ho6
              have hb6 : Below W.heap.size W w6 := Below.grown (hbw.alloc hbw.size _) hg6 (hbw.alloc hbw.size _).size (fun j hj => (World.ownsRow.lt hK j hj).1)
              have HN6 : Hid (Ints w6 wc.heap.size (.slice (some ⟨g5, 0, none⟩) ws.length k5) ws) := World.ownsRow.kept (World.ownsRow.alloc HI.out _) hg6 (own_type HI.out hK (by decide))
              have HI6 : Hid (Bys _ _ _ _) := hI6
              clear ho6 hg6 hK hI6 HI c5 hbw
              go_wp2
              exact ⟨⟨k + 1, by omega, by go_num, by rw [HT.out]; exact HI6.out, HN6.out, hb6⟩, by simp [intOf]; omega⟩
            · have hkl : k = ws.length := by omega
              subst hkl
              have HK6 : Hid (Bys wr W.heap.size u8 (keyN xs fs (l + 1))) := by show Bys _ _ _ _; rw [HPR.out]; rw [List.take_length] at hK; exact hK
              clear hK hI
              go_wp2
              go_roundw
              case rel => exact ⟨l + 1, by omega, by go_num, HK6.out, hbw⟩
              case measure => simp [intOf]; omega
      · have hln : l = n := by omega
        subst hln
        have CV := conv_bys hK
        clear hK c0 c1 d0 d1 hbc
        go_wp2
        go_ret2
        exact ⟨rfl, HB2.out.trans (hbw.mono HB2.out.size)⟩
end Go.Proofs.YtanfebccenfffagGreatDoor

namespace Go.Proofs.YtanfebccenfffagGreatDoor

def ktOf (es : List Ent) (sh : Bool) (lv : Int) (s : ByteArray) : KT := ⟨keyT es sh lv s, s⟩
def okS (es : List Ent) (lv : Int) (ss : List ByteArray) : Bool := decide (ss.length ≤ 60) && (rulesOk es lv && ss.all fun s => ok4 s)
def sortS (es : List Ent) (sh : Bool) (lv : Int) (ss : List ByteArray) : List ByteArray := if okS es lv ss = true then (insK (ss.map (ktOf es sh lv)) ss.length).map KT.text else []

theorem okS_long {es : List Ent} {lv : Int} {ss : List ByteArray} (h : 60 < ss.length) : okS es lv ss = false := by unfold okS; rw [decide_eq_false (by omega), Bool.false_and]
theorem okS_rules {es : List Ent} {lv : Int} {ss : List ByteArray} (h : rulesOk es lv = false) : okS es lv ss = false := by unfold okS; rw [h, Bool.false_and, Bool.and_false]
theorem okS_bad {es : List Ent} {lv : Int} {ss : List ByteArray} {k : Nat} {s : ByteArray} (hs : ss[k]? = some s) (h : ok4 s = false) : okS es lv ss = false := by
  have : (ss.all fun s => ok4 s) = false := by
    rw [List.all_eq_false]
    exact ⟨s, List.mem_of_getElem? hs, by rw [h]; simp⟩
  unfold okS
  rw [this, Bool.and_false, Bool.and_false]
theorem okS_good {es : List Ent} {lv : Int} {ss : List ByteArray} (h1 : ss.length ≤ 60) (h2 : rulesOk es lv = true) (h3 : ∀ k s, k < ss.length → ss[k]? = some s → ok4 s = true) : okS es lv ss = true := by
  unfold okS
  rw [decide_eq_true h1, h2, Bool.true_and, Bool.true_and, List.all_eq_true]
  intro s hs
  obtain ⟨k, hk⟩ := List.getElem?_of_mem hs
  exact h3 k s (List.getElem?_eq_some_iff.1 hk).1 hk

theorem ktAt_map {es : List Ent} {sh : Bool} {lv : Int} {ss : List ByteArray} {k : Nat} {s : ByteArray} (h : ss[k]? = some s) : ktAt (ss.map (ktOf es sh lv)) k = ktOf es sh lv s := by
  unfold ktAt
  rw [List.getElem?_map, h]; rfl

theorem okE_rules {es : List Ent} {lv : Int} (x : ByteArray) (h : rulesOk es lv = true) : okE es lv x = ok4 x := by unfold okE; rw [h, Bool.and_true]

theorem insK_succ (l : List KT) (k : Nat) : insK l (k + 1) = bubK (insK l k ++ [ktAt l k]) k := rfl

theorem sortS_len (es : List Ent) (sh : Bool) (lv : Int) (ss : List ByteArray) : (sortS es sh lv ss).length ≤ 60 := by
  unfold sortS
  split
  · rename_i h
    rw [List.length_map, insK_len]
    unfold okS at h
    rw [Bool.and_eq_true] at h
    exact of_decide_eq_true h.1
  · simp

theorem bubK_perm (l : List KT) (j : Nat) (h : j < l.length) : (bubK l j).Perm l := by
  induction j generalizing l with
  | zero => exact List.Perm.refl _
  | succ j ih =>
    rw [bubK]
    split
    · have hj : j < l.length := by omega
      refine (ih _ (by simp; omega)).trans ?_
      have e1 : ktAt l j = l[j] := by unfold ktAt; rw [List.getElem?_eq_getElem hj]; rfl
      have e2 : ktAt l (j + 1) = l[j + 1] := by unfold ktAt; rw [List.getElem?_eq_getElem h]; rfl
      rw [e1, e2]
      exact List.set_set_perm hj h
    · exact List.Perm.refl _

theorem insK_perm (l : List KT) (k : Nat) (h : k ≤ l.length) : (insK l k).Perm (l.take k) := by
  induction k with
  | zero => exact List.Perm.refl _
  | succ k ih =>
    have hk : k < l.length := by omega
    rw [insK, List.take_add_one, List.getElem?_eq_getElem hk]
    have e : ktAt l k = l[k] := by unfold ktAt; rw [List.getElem?_eq_getElem hk]; rfl
    rw [e]
    refine (bubK_perm _ k (by simp [insK_len])).trans ?_
    exact (ih (by omega)).append_right _

theorem insK_all (l : List KT) : (insK l l.length).Perm l := by
  have := insK_perm l l.length (Nat.le_refl _)
  rw [List.take_length] at this
  exact this
end Go.Proofs.YtanfebccenfffagGreatDoor

namespace Go.Proofs.YtanfebccenfffagGreatDoor
open Go.RowKit

theorem info_kt : (Tryz.prog.info? 52).map (fun i => (i.zero, i.size, i.bytes)) = some (some (.agg #[.string ⟨#[]⟩, .string ⟨#[]⟩]), 2, 32) := by kernel_rfl

set_option maxRecDepth 100000 in
set_option maxHeartbeats 1000000 in
theorem sortK_none (w : World) : Calls Tryz.prog 27 #[.slice none 0 0, .func (.func 28) #[] #[]] w fun e w' => e = .returned (.tuple #[]) ∧ w' = w := by
  go_enter Tryz.func27, Tryz.ntmps27
  go_wp2
  go_loop [8] (fun i => i = .int .i64 0) (fun _ => 0)
  case atStart => rfl
  case round =>
    subst hrel
    go_wp2
    go_end0
    exact ⟨rfl, rfl⟩

theorem sortK_any {w : World} {B : Nat} {v : Value} {l : List KT} (h : KTs w B v l) (hn : l.length ≤ 1048576) :
    Calls Tryz.prog 27 #[v, .func (.func 28) #[] #[]] w fun e w' => e = .returned (.tuple #[]) ∧ KTs w' B v (insK l l.length) ∧ w.grownBy w' v.ownBlock := by
  rcases h.form with ⟨rfl, rfl⟩ | ⟨g, cap, rfl⟩
  · refine (sortK_none w).mono ?_
    rintro e w' ⟨rfl, rfl⟩
    exact ⟨rfl, h, grown_refl _ _⟩
  · refine (sortK_row w B g cap l.length l rfl h hn).mono ?_
    rintro e w' ⟨rfl, h1, h2, h3⟩
    refine ⟨rfl, ?_, h3⟩
    rw [srtK_all] at h1 h2
    unfold KTs
    rw [h1]
    exact h2

theorem cellsK_at (w : World) (n : Nat) (x : KT) (t : TypeId) (hn : n = w.heap.size) : ∀ j u, (ktC x)[j]? = some u → (w.alloc (.cells #[.string x.key, .string x.text] t)).cell? ((⟨n, 0, none⟩ : Addr).add j) = some u := by
  subst hn
  intro j u hj
  match j, hj with
  | 0, hj => simp [ktC] at hj; subst hj; simp [Addr.add]
  | 1, hj => simp [ktC] at hj; subst hj; simp [Addr.add]
  | j + 2, hj => simp [ktC] at hj

theorem KTs.snoc {w : World} {B : Nat} {v : Value} {l : List KT} {x : KT} (h : w.ownsRow B 52 2 v (l.length + 1) (ktAll l ++ ktC x)) : KTs w B v (l ++ [x]) := by
  unfold KTs
  rw [ktAll_snoc, List.length_append]
  exact h

theorem Strs.sliceI {w : World} {B : Nat} {v : Value} {ss : List ByteArray} (h : Strs w B v ss) :
    ∃ a c, v = .slice a ss.length c ∧ ∀ k x, ss[k]? = some x → ∃ g, a = some ⟨g, 0, none⟩ ∧ g < w.heap.size ∧ w.cell? ⟨g, k, none⟩ = some (.string x) := by
  rcases h.form with ⟨rfl, rfl⟩ | ⟨g, cap, rfl, _, _⟩
  · exact ⟨_, _, rfl, fun k x hx => by simp at hx⟩
  · exact ⟨_, _, rfl, fun k x hx => ⟨g, rfl, (World.ownsRow.lt h g rfl).2, Strs.cell h k x hx⟩⟩

theorem KTs.sliceK {w : World} {B : Nat} {v : Value} {l : List KT} (h : KTs w B v l) : ∃ a c, v = .slice a l.length c ∧ (∀ k, k < l.length → ∃ g, a = some ⟨g, 0, none⟩ ∧ g < w.heap.size ∧ w.cell? ⟨g, k * 2, none⟩ = some (.string (ktAt l k).key) ∧ w.cell? ⟨g, k * 2 + 1, none⟩ = some (.string (ktAt l k).text)) := by
  rcases h.form with ⟨rfl, rfl⟩ | ⟨g, cap, rfl⟩
  · exact ⟨_, _, rfl, fun k hk => by simp at hk⟩
  · exact ⟨_, _, rfl, fun k hk => ⟨g, rfl, (World.ownsRow.lt h g rfl).2, KTs.cells h k _ (ktAt_of hk)⟩⟩

def I1R (W : World) (L : List KT) (n : Nat) (v6 i : Value) (wr : World) : Prop :=
  ∃ k : Nat, k ≤ n ∧ i = .int .i64 k ∧ KTs wr W.heap.size v6 (L.take k) ∧ Below W.heap.size W wr
def I2R (W : World) (L : List KT) (v11 i : Value) (wr : World) : Prop :=
  ∃ k : Nat, k ≤ L.length ∧ i = .int .i64 k ∧ Strs wr W.heap.size v11 ((L.take k).map KT.text) ∧ Below W.heap.size W wr

theorem take_kt {L : List KT} {k : Nat} (h : k < L.length) : L.take (k + 1) = L.take k ++ [ktAt L k] := by
  rw [List.take_add_one, ktAt_of h]; rfl

theorem low_strs {w : World} {B B' : Nat} {v : Value} {l : List ByteArray} (h : Strs w B' v l) (hB : B ≤ B') : Strs w B v l := by
  refine ⟨h.1, ?_⟩
  rcases h.2 with h | ⟨g, cap, cur, h1, h2, h3⟩
  · exact .inl h
  · exact .inr ⟨g, cap, cur, h1, Nat.le_trans hB h2, h3⟩

theorem cellU_at (w : World) (n : Nat) (x : ByteArray) (t : TypeId) (hn : n = w.heap.size) : ∀ j u, [Value.string x][j]? = some u → (w.alloc (.cells #[.string x] t)).cell? ((⟨n, 0, none⟩ : Addr).add j) = some u := by
  subst hn
  intro j u hj
  match j, hj with
  | 0, hj => simp at hj; subst hj; simp [Addr.add]

set_option maxRecDepth 100000 in
set_option maxHeartbeats 4000000 in
theorem implSort_any {w : World} {B B' : Nat} {ve vl : Value} {es : List Ent} {sh : Bool} {lv : Int} (ss : List ByteArray) (hE : Ents w B ve es) (hr : ∀ e ∈ es, e.runes.length ≤ 1048576) (ht : Tabs3 w) (hL : Strs w B' vl ss) (hsz : ∀ s ∈ ss, s.size ≤ 1048576) (hln : ss.length ≤ 1048576) :
    Calls Tryz.prog 10 #[.agg #[ve, .bool sh, .int .i64 lv], vl] w fun e w' => ∃ v', e = .returned (.tuple #[v', .bool (okS es lv ss)]) ∧ Strs w' w.heap.size v' (sortS es sh lv ss) ∧ Below w.heap.size w w' := by
  obtain ⟨va, vc, rfl⟩ : ∃ a c, ve = .slice a es.length c := by
    rcases hE.form with ⟨rfl, rfl⟩ | ⟨_, _, rfl, _, _, _, _⟩
    · exact ⟨_, _, rfl⟩
    · exact ⟨_, _, rfl⟩
  obtain ⟨la, lc, rfl, hcL⟩ := hL.sliceI
  obtain ⟨i0, hi0, hz0, hs0, hy0⟩ := info_parts info_str
  obtain ⟨i1, hi1, hz1, hs1, hy1⟩ := info_parts info_kt
  have hbx : Below w.heap.size w (w.alloc (.cells #[.slice va es.length vc, .bool sh, .int .i64 lv] 32)) := (Below.refl _ _).alloc (Nat.le_refl _) _
  have hbox : BoxR4 (w.alloc (.cells #[.slice va es.length vc, .bool sh, .int .i64 lv] 32)) w.heap.size (.slice va es.length vc) sh lv := heap_alloc_new w _
  have hlb : w.heap.size < (w.alloc (.cells #[.slice va es.length vc, .bool sh, .int .i64 lv] 32)).heap.size := by simp
  have GR := implGood3_any (sh := sh) (lv := lv) (hE.below hbx) hr (ht.below hbx)
  have HE : Hid (Ents _ _ _ _) := hE
  have HTT : Hid (Tabs3 _) := ht
  have HCL : Hid _ := hcL
  have HSZ : Hid (∀ s ∈ ss, s.size ≤ 1048576) := hsz
  clear hE hL hcL hsz ht
  by_cases h60 : 60 < ss.length
  · have h608 : (60 : Int) < (ss.length : Int) := by omega
    have h609 : decide ((60 : Int) < (ss.length : Int)) = true := decide_eq_true h608
    have hf := okS_long (es := es) (lv := lv) h60
    unfold sortS
    rw [hf, if_neg (by simp)]
    clear hf GR
    go_enter Tryz.func10, Tryz.ntmps10
    go_wp2
    go_ret2
    exact ⟨_, rfl, ⟨rfl, .inl ⟨rfl, rfl⟩⟩, hbx⟩
  · have h608 : ¬ (60 : Int) < (ss.length : Int) := by omega
    have h609 : decide ((60 : Int) < (ss.length : Int)) = false := decide_eq_false h608
    cases hro : rulesOk es lv
    · rw [hro] at GR
      have hf := okS_rules (ss := ss) hro
      unfold sortS
      rw [hf, if_neg (by simp)]
      clear hf hro
      go_enter Tryz.func10, Tryz.ntmps10
      go_wp2_with fail
      refine GR.mono ?_
      rintro e w2 ⟨rfl, b2⟩
      clear GR
      go_wp2
      go_ret2
      exact ⟨_, rfl, ⟨rfl, .inl ⟨rfl, rfl⟩⟩, hbx.trans (b2.mono hbx.size)⟩
    · rw [hro] at GR
      have KY2 : ∀ (u : World) (hu : Below w.heap.size w u) (x : ByteArray) (hx : x.size ≤ 1048576), Calls Tryz.prog 26 #[.agg #[.slice va es.length vc, .bool sh, .int .i64 lv], .string x] u fun e w' => e = .returned (.tuple #[.string (keyT es sh lv x), .bool (ok4 x)]) ∧ Below u.heap.size u w' := fun u hu x hx => by
        have := implKey_any (sh := sh) (lv := lv) x hx (HE.out.below hu) hr (HTT.out.below hu)
        rw [okE_rules x hro] at this
        exact this
      have HKY : Hid _ := KY2
      have HRO : Hid (rulesOk es lv = true) := hro
      clear KY2 hro
      obtain ⟨W0, HW0⟩ : ∃ W0, Hid (W0 = w.alloc (.cells #[.slice va es.length vc, .bool sh, .int .i64 lv] 32)) := ⟨_, rfl⟩
      rw [← HW0.out] at hbx hbox hlb GR
      go_enter Tryz.func10, Tryz.ntmps10
      go_wp2_with fail
      rw [← HW0.out]
      obtain ⟨c0, c1, c2⟩ := hbox.cells
      refine GR.mono ?_
      rintro e W ⟨rfl, bW⟩
      have HBO : Hid (BoxR4 W w.heap.size (.slice va es.length vc) sh lv) := hbox.below bW hlb
      have HBW : Hid (Below w.heap.size w W) := hbx.trans (bW.mono hbx.size)
      have hwW : w.heap.size < W.heap.size := Nat.lt_of_lt_of_le hlb bW.size
      obtain ⟨L, HL⟩ : ∃ L, Hid (ss.map (ktOf es sh lv) = L) := ⟨_, rfl⟩
      have HLL : Hid (L.length = ss.length) := by show _ = _; rw [← HL.out, List.length_map]
      clear GR c0 c1 c2 hbox hbx bW HW0 hlb
      go_wp2_with fail
      go_loopw [6, 24] (fun v6 i wr => (∀ j s, j < (intOf i).toNat → ss[j]? = some s → ok4 s = true) ∧ I1R W L ss.length v6 i wr) (fun _ i _ => ss.length - (intOf i).toNat)
      case atStart => exact ⟨fun j s hj => by simp [intOf] at hj, 0, Nat.zero_le _, rfl, ⟨rfl, .inl ⟨rfl, rfl⟩⟩, Below.refl _ _⟩
      case round =>
        obtain ⟨hgd, k, hk, rfl, hK, hbw⟩ := hrel
        have HGD : Hid (∀ j s, j < k → ss[j]? = some s → ok4 s = true) := fun j s hj hs => hgd j s (by simpa [intOf] using hj) hs
        clear hgd
        have hsz1 := hbw.size
        have hkl : (L.take k).length = k := by rw [List.length_take, HLL.out]; omega
        by_cases hlt : k < ss.length
        · obtain ⟨x, hx⟩ : ∃ x, ss[k]? = some x := ⟨_, List.getElem?_eq_getElem hlt⟩
          obtain ⟨g, rfl, hgl, y0⟩ := HCL.out k x hx
          have a0 : wr.cell? ⟨g, k, none⟩ = some (.string x) := ((HBW.out.trans (hbw.mono HBW.out.size)).cell (p := ⟨g, k, none⟩) hgl).trans y0
          have hk8 : (k : Int) < (ss.length : Int) := by omega
          obtain ⟨c0, c1, c2⟩ := (HBO.out.below hbw hwW).cells
          have K1 := HKY.out wr (HBW.out.trans (hbw.mono HBW.out.size)) x (HSZ.out x (List.mem_of_getElem? hx))
          have HX : Hid (ss[k]? = some x) := hx
          clear hx y0
          cases hok : ok4 x
          · rw [hok] at K1
            have hf := okS_bad (es := es) (lv := lv) HX.out hok
            have hf2 : sortS es sh lv ss = [] := by unfold sortS; rw [hf, if_neg (by simp)]
            have HF : Hid (okS es lv ss = false ∧ sortS es sh lv ss = []) := ⟨hf, hf2⟩
            clear hf hf2 hok hK
            go_wp2_with fail
            refine K1.mono ?_
            rintro e w2 ⟨rfl, b2⟩
            have HB2 : Hid (Below w.heap.size w w2) := HBW.out.trans ((hbw.trans (b2.mono hbw.size)).mono HBW.out.size)
            clear K1 c0 c1 c2 a0 b2 hbw
            go_wp2
            go_ret2
            rw [HF.out.1, HF.out.2]
            exact ⟨_, rfl, ⟨rfl, .inl ⟨rfl, rfl⟩⟩, HB2.out⟩
          · rw [hok] at K1
            have HGD2 : Hid (∀ j s, j < k + 1 → ss[j]? = some s → ok4 s = true) := fun j s hj hs => by
              by_cases c : j = k
              · subst c
                rw [HX.out] at hs
                cases hs
                exact hok
              · exact HGD.out j s (by omega) hs
            have HKA : Hid (L.take (k + 1) = L.take k ++ [⟨keyT es sh lv x, x⟩]) := by
              show _ = _
              rw [take_kt (by rw [HLL.out]; exact hlt), ← HL.out, ktAt_map HX.out]; rfl
            generalize keyT es sh lv x = kx at *
            have HK : Hid (KTs _ _ _ _) := hK
            clear hok HGD HX hK
            go_wp2_with fail
            refine K1.mono ?_
            rintro e w2 ⟨rfl, b2⟩
            have hK2 := HK.out.below b2
            have hb2 := hbw.trans (b2.mono hbw.size)
            have hsz2 := hb2.size
            unfold KTs at hK2
            clear K1 c0 c1 c2 a0 b2 hbw HK
            go_wp2_with (at_builtin; refine wpList_append_own _ rfl _ _ 50 rfl W.heap.size 52 i1 _ 2 32 Tryz.underlying50 hi1 hz1 hs1 hy1 rfl (by decide) _ _ _ rfl (hK2.alloc _) ⟨w2.heap.size, 0, none⟩ 1 1 (ktC ⟨kx, x⟩) rfl rfl (cellsK_at _ _ ⟨kx, x⟩ _ (by simp)) (fun u hu => by simp [ktC] at hu; rcases hu with rfl | rfl <;> rfl) (by unfold maxLen; omega) (by omega) (by simp; omega) ?_)
            intro v4 w4 ho4 hg4 _
            have hI4 : KTs w4 W.heap.size v4 (L.take k ++ [⟨kx, x⟩]) := KTs.snoc (by rw [hkl]; exact ho4)
            have hb4 : Below W.heap.size W w4 := Below.grown (hb2.alloc hb2.size _) hg4 (hb2.alloc hb2.size _).size (fun j hj => (World.ownsRow.lt hK2 j hj).1)
            have HI4 : Hid (KTs _ _ _ _) := hI4
            clear ho4 hg4 hK2 hI4 hb2
            go_wp2
            exact ⟨⟨fun j s hj hs => HGD2.out j s (by simp [intOf] at hj; omega) hs, k + 1, by omega, by go_num, by rw [HKA.out]; exact HI4.out, hb4⟩, by simp [intOf]; omega⟩
        · have hk3 : k = ss.length := by omega
          subst hk3
          have hfin := okS_good (es := es) (lv := lv) (ss := ss) (by omega) HRO.out (fun j s hj hs => HGD.out j s hj hs)
          have hfin2 : sortS es sh lv ss = (insK L L.length).map KT.text := by unfold sortS; rw [hfin, if_pos rfl, HL.out, HLL.out]
          have HF : Hid (okS es lv ss = true ∧ sortS es sh lv ss = (insK L L.length).map KT.text) := ⟨hfin, hfin2⟩
          have htk : L.take ss.length = L := by rw [← HLL.out, List.take_length]
          rw [htk] at hK
          have SK := sortK_any hK (by rw [HLL.out]; exact hln)
          have hG6 : ∀ b, u6.ownBlock = some b → W.heap.size ≤ b := fun b hb => (World.ownsRow.lt hK b hb).1
          have HG6 : Hid _ := hG6
          have HSZK : Hid (∀ j, j < (insK L L.length).length → (ktAt (insK L L.length) j).text.size ≤ 1048576) := fun j hj => by
            have hm : ktAt (insK L L.length) j ∈ insK L L.length := List.mem_of_getElem? (ktAt_of hj)
            have hm2 := (insK_all L).mem_iff.1 hm
            rw [← HL.out] at hm2
            obtain ⟨s, hs, he⟩ := List.mem_map.1 hm2
            rw [HL.out] at he
            rw [← he]
            exact HSZ.out s hs
          have hil : (insK L L.length).length ≤ 60 := by rw [insK_len, HLL.out]; omega
          obtain ⟨M, HM⟩ : ∃ M, Hid (insK L L.length = M) := ⟨_, rfl⟩
          rw [HM.out] at SK HF HSZK hil
          obtain ⟨a6, c6, hu6⟩ : ∃ a c, u6 = .slice a ss.length c := by
            obtain ⟨a, c, h, _⟩ := hK.sliceK
            rw [HLL.out] at h
            exact ⟨a, c, h⟩
          subst hu6
          clear hfin hfin2 hK HGD htk hG6 hkl
          go_wp2_with fail
          refine SK.mono ?_
          rintro e w3 ⟨rfl, k3, g3⟩
          have hb3 : Below W.heap.size W w3 := Below.grown hbw g3 hbw.size (fun b hb => HG6.out b hb)
          obtain ⟨a7, c7, hv7, hcK⟩ := k3.sliceK
          injection hv7 with q1 q2 q3
          subst q1
          subst q3
          have HML : Hid (M.length = ss.length) := q2.symm
          have HCK : Hid _ := hcK
          have hsz3 := hb3.size
          clear SK g3 hbw k3 q2 hcK HG6
          go_wp2_with fail
          go_loopw [11, 47] (fun v11 i wr => I2R w3 M v11 i wr) (fun _ i _ => ss.length - (intOf i).toNat)
          case atStart => exact ⟨0, Nat.zero_le _, rfl, ⟨rfl, .inl ⟨rfl, rfl⟩⟩, Below.refl _ _⟩
          case round =>
            obtain ⟨k, hk, rfl, hS, hbr⟩ := hrel
            have hml := HML.out
            have hkl : ((M.take k).map KT.text).length = k := by rw [List.length_map, List.length_take]; omega
            have hszr := hbr.size
            by_cases hlt : k < M.length
            · obtain ⟨g, rfl, hgl, y0, y1⟩ := HCK.out k hlt
              have a0 : wr.cell? ⟨g, k * 2, none⟩ = some (.string (ktAt M k).key) := (hbr.cell (p := ⟨g, k * 2, none⟩) hgl).trans y0
              have a1 : wr.cell? ⟨g, k * 2 + 1, none⟩ = some (.string (ktAt M k).text) := (hbr.cell (p := ⟨g, k * 2 + 1, none⟩) hgl).trans y1
              have hk8 : (k : Int) < (ss.length : Int) := by omega
              have hba := hbr.alloc hbr.size (.cells #[.string (ktAt M k).key, .string (ktAt M k).text] 52)
              have CL := clone_str (ktAt M k).text (wr.alloc (.cells #[.string (ktAt M k).key, .string (ktAt M k).text] 52)) (HSZK.out k hlt)
              have HTK : Hid ((M.take (k + 1)).map KT.text = (M.take k).map KT.text ++ [(ktAt M k).text]) := by show _ = _; rw [take_kt hlt, List.map_append]; rfl
              have HS : Hid (Strs _ _ _ _) := World.ownsRow.alloc hS (.cells #[.string (ktAt M k).key, .string (ktAt M k).text] 52)
              generalize (ktAt M k).text = tx at *
              generalize (ktAt M k).key = kk at *
              have HBA : Hid (Below _ _ _) := hba
              clear hS hbr y0 y1 hba hml
              go_wp2_with fail
              refine CL.mono ?_
              rintro e w4 ⟨rfl, b4⟩
              have hS4 := Strs.below HS.out b4
              have hb4 := HBA.out.trans (b4.mono HBA.out.size)
              have hsz4 := hb4.size
              unfold Strs at hS4
              rw [hkl] at hS4
              clear CL HS HBA b4 a0 a1
              go_wp2_with (at_builtin; refine wpList_append_own _ rfl _ _ 25 rfl w3.heap.size 9 i0 (.string ⟨#[]⟩) 1 16 Tryz.underlying25 hi0 hz0 hs0 hy0 rfl (by decide) _ _ _ rfl (hS4.alloc _) ⟨w4.heap.size, 0, none⟩ 1 1 [.string tx] rfl rfl (cellU_at _ _ _ _ (by simp)) (fun u hu => by simp at hu; subst hu; rfl) (by unfold maxLen; omega) (by omega) (by simp; omega) ?_)
              intro v5 w5 ho5 hg5 _
              have hI5 : Strs w5 w3.heap.size v5 ((M.take k).map KT.text ++ [tx]) := Strs.snoc (by rw [hkl]; simpa using ho5)
              have hb5 : Below w3.heap.size w3 w5 := Below.grown (hb4.alloc hb4.size _) hg5 (hb4.alloc hb4.size _).size (fun j hj => (World.ownsRow.lt hS4 j hj).1)
              have HI5 : Hid (Strs _ _ _ _) := hI5
              clear ho5 hg5 hS4 hI5 hb4
              go_wp2
              exact ⟨⟨k + 1, by omega, by go_num, by rw [HTK.out]; exact HI5.out, hb5⟩, by simp [intOf]; omega⟩
            · have hk4 : k = M.length := by omega
              subst hk4
              have HT : Hid (Strs wr w3.heap.size u11 (M.map KT.text)) := by show Strs _ _ _ _; rw [List.take_length] at hS; exact hS
              clear hS hkl
              go_wp2
              go_ret2
              rw [HF.out.1, HF.out.2]
              exact ⟨_, rfl, low_strs HT.out (by have := HBW.out.size; omega), HBW.out.trans ((hb3.trans (hbr.mono hb3.size)).mono HBW.out.size)⟩
end Go.Proofs.YtanfebccenfffagGreatDoor

namespace Go.Proofs.YtanfebccenfffagGreatDoor
open Go.RowKit

theorem step_app_i {ops : Array Oper} {o : Oper} {a : Act} {w : World} {K : Act → World → Prop} {Q : Exit → Act → World → Prop} {E : Prop} (hw : Region.wanted o (yielded ops a.tmps) = true) (s x : Operand)
    (ho : o.op = .call { callee := .builtin .append, args := #[s, x], argTypes := #[59, 59] }) (B : Nat) (v : Value) (l l' : List Int) (hs : a.eval s = v) (hown : Ints w B v l)
    (ad : Addr) (m c : Nat) (hx : a.eval x = .slice (some ad) m c) (hml : l'.length = m) (hnews : ∀ j u, (l'.map (Value.int .i64))[j]? = some u → w.cell? (ad.add j) = some u) (hm : 0 < m) (hb : l.length + m ≤ 1048576) (hbase : B ≤ w.heap.size) (N : Nat) (hN : N = l.length + m) (L : List Int) (hL : L = l ++ l')
    (h : ∀ g cap w', Ints w' B (.slice (some ⟨g, 0, none⟩) N cap) L → w.grownBy w' v.ownBlock → g < w'.heap.size → K (a.put o.dst (.slice (some ⟨g, 0, none⟩) N cap)) w') :
    if Region.wanted o (yielded ops a.tmps) = true then Oper.wp Tryz.prog o a w K Q else E := by
  obtain ⟨i0, hi, hzz, hz1, hz2⟩ := info_parts info_int
  rw [if_pos hw]
  subst hN
  subst hL
  subst hml
  refine wp_append_lies w s x 59 ho B 3 i0 (.int .i64 0) 1 8 Tryz.underlying59 hi hzz hz1 hz2 rfl (by decide) v l.length (l.map (Value.int .i64)) hs hown ad l'.length c (l'.map (Value.int .i64)) hx (by simp) hnews (fun u hu => by obtain ⟨y, _, rfl⟩ := List.mem_map.1 hu; rfl) hm (by unfold maxLen; omega) (by omega) hbase w.heap.size rfl fun g cap w' h1 h2 _ h4 => h g cap w' ?_ h2 h4
  unfold Ints
  rw [List.length_append, List.map_append]
  exact h1

theorem fresh0 (w : World) (n B : Nat) (hn : n = w.heap.size) (hB : B ≤ n) : Ints (w.alloc (.cells #[] 3)) B (.slice (some ⟨n, 0, none⟩) 0 0) [] := by
  subst hn
  exact ⟨rfl, .inr ⟨w.heap.size, 0, #[], rfl, hB, heap_alloc_new _ _, Nat.le_refl _, Nat.zero_le _, rfl, rfl⟩⟩

theorem ints_drew {w : World} {B : Nat} {v : Value} {l : List Int} (h : Ints w B v l) : Ints w.drew B v l := h
theorem ints_alloc {w : World} {B : Nat} {v : Value} {l : List Int} (h : Ints w B v l) (o : Obj) : Ints (w.alloc o) B v l := World.ownsRow.alloc h o

/-- A block of one int. -/
def NewsAt (w : World) (n : Nat) (x : Int) : Prop := n < w.heap.size ∧ w.cell? ⟨n, 0, none⟩ = some (.int .i64 x)
theorem NewsAt.new (w : World) (n : Nat) (x : Int) (hn : n = w.heap.size) : NewsAt (w.alloc (.cells #[.int .i64 x] 3)) n x := by
  subst hn
  exact ⟨by simp, by simp⟩
theorem NewsAt.drew {w : World} {n : Nat} {x : Int} (h : NewsAt w n x) : NewsAt w.drew n x := h
theorem NewsAt.alloc {w : World} {n : Nat} {x : Int} (h : NewsAt w n x) (o : Obj) : NewsAt (w.alloc o) n x :=
  ⟨Nat.lt_of_lt_of_le h.1 (by simp), (World.cell?_of_block (Below.heap_alloc _ _ _ h.1)).trans h.2⟩
theorem NewsAt.grown {w w' : World} {row : Option Nat} {n : Nat} {x : Int} (h : NewsAt w n x) (hg : w.grownBy w' row) (hne : some n ≠ row) : NewsAt w' n x :=
  ⟨Nat.lt_of_lt_of_le h.1 hg.size, (hg.cell_far _ h.1 hne).trans h.2⟩
theorem NewsAt.news {w : World} {n : Nat} {x : Int} (h : NewsAt w n x) : ∀ j u, (([x] : List Int).map (Value.int .i64))[j]? = some u → w.cell? ((⟨n, 0, none⟩ : Addr).add j) = some u := by
  intro j u hj
  match j, hj with
  | 0, hj => simp at hj; subst hj; simpa [Addr.add] using h.2

theorem NewsAt.of {w w' : World} {n : Nat} {x : Int} (h : NewsAt w n x) (e : w'.heap = w.heap) : NewsAt w' n x := by
  refine ⟨by rw [e]; exact h.1, ?_⟩
  rw [World.cell?_of_block (w := w) (w' := w') (by rw [e])]
  exact h.2
theorem ints_of {w w' : World} {B : Nat} {v : Value} {l : List Int} (h : Ints w B v l) (e : w'.heap = w.heap) : Ints w' B v l := by
  unfold Ints World.ownsRow at h ⊢
  rw [e]
  exact h
theorem own_ne_succ (n : Nat) : some (n + 1) ≠ (Value.slice (some ⟨n, 0, none⟩) 0 0).ownBlock := fun e => by injection e with e2; simp at e2
theorem own_ne_size (n : Nat) : some n ≠ (Value.slice (some ⟨n + 1, 0, none⟩) 0 0).ownBlock := fun e => by injection e with e2; simp at e2
/-- The three orders in which the two new lists are laid. -/
theorem freshA {u W : World} (e : W.heap = (u.alloc (.cells #[] 3)).heap) : Ints W u.heap.size (.slice (some ⟨u.heap.size, 0, none⟩) 0 0) [] := ints_of (fresh0 u _ _ rfl (Nat.le_refl _)) e
theorem freshB {u W : World} {x : Int} (e : W.heap = ((u.alloc (.cells #[] 3)).alloc (.cells #[.int .i64 x] 3)).heap) : Ints W u.heap.size (.slice (some ⟨u.heap.size, 0, none⟩) 0 0) [] := ints_of (ints_alloc (fresh0 u _ _ rfl (Nat.le_refl _)) _) e
theorem freshC {u W : World} {x : Int} (e : W.heap = ((u.alloc (.cells #[.int .i64 x] 3)).alloc (.cells #[] 3)).heap) : Ints W u.heap.size (.slice (some ⟨u.heap.size + 1, 0, none⟩) 0 0) [] := ints_of (fresh0 _ _ _ (by simp) (by omega)) e
theorem newsB {u W W' : World} {x : Int} (hg : W.grownBy W' (Value.slice (some ⟨u.heap.size, 0, none⟩) 0 0).ownBlock) (e : W.heap = ((u.alloc (.cells #[] 3)).alloc (.cells #[.int .i64 x] 3)).heap) : NewsAt W' (u.heap.size + 1) x := ((NewsAt.new _ _ x (by simp)).of e).grown hg (own_ne_succ _)
theorem newsC {u W W' : World} {x : Int} (hg : W.grownBy W' (Value.slice (some ⟨u.heap.size + 1, 0, none⟩) 0 0).ownBlock) (e : W.heap = ((u.alloc (.cells #[.int .i64 x] 3)).alloc (.cells #[] 3)).heap) : NewsAt W' u.heap.size x := (((NewsAt.new u _ x rfl).alloc _).of e).grown hg (own_ne_size _)

/-- The block of the rules. -/
def BoxR (w u : World) (v : Value) (sh : Bool) (lv : Int) : Prop := u.heap[w.heap.size]? = some (.cells #[v, .bool sh, .int .i64 lv] 32)

theorem BoxR.below {w u u' : World} {v : Value} {sh : Bool} {lv : Int} (h : BoxR w u v sh lv) (hb : Below u.heap.size u u') : BoxR w u' v sh lv := by
  unfold BoxR
  rw [hb.block _ (Array.getElem?_eq_some_iff.1 h).1]; exact h

def LMRel (w : World) (es : List Ent) (run rest : List Int) (v : Value) (sh : Bool) (lv : Int) (ans : Int) (i : Value) (wr : World) : Prop :=
  ∃ k : Nat, k ≤ rest.length ∧ i = .int .i64 k ∧ markFrom es run rest (rest.drop k) k = ans ∧ BoxR w wr v sh lv ∧ Below w.heap.size w wr

set_option maxRecDepth 100000 in
set_option maxHeartbeats 4000000 in
theorem mark4_row (w : World) (B Br Bs gr cr gs cs : Nat) (v : Value) (es : List Ent) (sh : Bool) (lv : Int) (run rest : List Int) (hE : Ents w B v es) (hn : es.length ≤ 1048576) (hr : ∀ e ∈ es, e.runes.length ≤ 1048576)
    (hR : Ints w Br (.slice (some ⟨gr, 0, none⟩) run.length cr) run) (hS : Ints w Bs (.slice (some ⟨gs, 0, none⟩) rest.length cs) rest) (h1 : 1 ≤ run.length) (hrl : run.length ≤ 4000) (hsl : rest.length ≤ 4000) :
    Calls Tryz.prog 90 #[.agg #[v, .bool sh, .int .i64 lv], .slice (some ⟨gr, 0, none⟩) run.length cr, .slice (some ⟨gs, 0, none⟩) rest.length cs] w fun e w' => e = .returned (.int .i64 (markAt es run rest)) ∧ Below w.heap.size w w' := by
  obtain ⟨i0, hi, hzz, hz1, hz2⟩ := info_parts info_int
  obtain ⟨ans, HANS⟩ : ∃ ans, Hid (markAt es run rest = ans) := ⟨_, rfl⟩
  rw [HANS.out]
  obtain ⟨va, vn, vc, rfl⟩ : ∃ a n c, v = .slice a n c := by
    rcases hE.form with ⟨rfl, _⟩ | ⟨_, _, rfl, _, _, _, _⟩
    · exact ⟨_, _, _, rfl⟩
    · exact ⟨_, _, _, rfl⟩
  have CL := fun r w => specClass_any r w
  have hcap : rest.length ≤ cs := by
    rcases hS.form with ⟨h, _⟩ | ⟨_, _, h, h2, _⟩
    · cases h
    · injection h with _ _ h3; omega
  go_enter Tryz.func90, Tryz.ntmps90
  go_wp2
  go_loopw [15] (fun i wr => LMRel w es run rest (.slice va vn vc) sh lv ans i wr) (fun i _ => rest.length - (intOf i).toNat)
  case atStart => exact ⟨0, Nat.zero_le _, rfl, by rw [List.drop_zero]; exact HANS.out, heap_alloc_new w _, (Below.refl _ _).alloc (Nat.le_refl _) _⟩
  case round =>
    clear HANS
    obtain ⟨k, hk, rfl, hA, hB, hb⟩ := hrel
    have HA : Hid _ := hA
    clear hA
    by_cases hlt : k < rest.length
    · obtain ⟨m, hm⟩ : ∃ m, rest[k]? = some m := ⟨_, List.getElem?_eq_getElem hlt⟩
      have c0 := ints_at0 (hS.below hb) k m hm
      have hk8 : (k : Int) < (rest.length : Int) := by omega
      have HA2 : Hid ((if cls m = 0 then -1 else if blkB rest k (cls m) = false ∧ 0 ≤ atE es (run ++ [m]) then (k : Int) else markFrom es run rest (rest.drop (k + 1)) (k + 1)) = ans) := by
        show _ = _
        rw [← HA.out, int_drop hm]
        rfl
      clear HA
      by_cases hc : cls m = 0
      · have HF : Hid (-1 = ans) := by show _ = _; rw [← HA2.out, if_pos hc]
        have C0 := fun w => CL m w
        rw [hc] at C0
        clear HA2 CL
        go_wp2_with fail
        refine (C0 _).mono ?_
        rintro e w3 ⟨rfl, rfl⟩
        go_wp2
        go_ret
        rw [← HF.out]
        exact ⟨rfl, hb⟩
      · have HA3 : Hid ((if blkB rest k (cls m) = false ∧ 0 ≤ atE es (run ++ [m]) then (k : Int) else markFrom es run rest (rest.drop (k + 1)) (k + 1)) = ans) := by show _ = _; rw [← HA2.out, if_neg hc]
        have hc' : (cls m == 0) = false := by simpa using hc
        clear HA2
        obtain ⟨c, HC⟩ : ∃ c, Hid (cls m = c) := ⟨_, rfl⟩
        have C0 := fun w => CL m w
        rw [HC.out] at C0 hc' HA3
        have hSb := hS.below hb
        have hkc : k ≤ cs := by omega
        go_wp2_with fail
        refine (C0 _).mono ?_
        rintro e w3 ⟨rfl, hw3⟩
        obtain rfl : wr = w3 := hw3.symm
        clear C0 c0
        go_wp2_with fail
        go_loop [10, 28] (fun bv i => ∃ j : Nat, j ≤ k ∧ i = .int .i64 j ∧ bv = .bool (blkB rest j c)) (fun _ i => k - (intOf i).toNat)
        case atStart => exact ⟨0, Nat.zero_le _, rfl, rfl⟩
        case round =>
          obtain ⟨j, hj, rfl, rfl⟩ := hrel
          by_cases hjl : j < k
          · obtain ⟨x, hx⟩ : ∃ x, rest[j]? = some x := ⟨_, List.getElem?_eq_getElem (by omega)⟩
            have cx := ints_at0 hSb j x hx
            have hj8 : (j : Int) < (k : Int) := by omega
            have hst := blk_step (c := c) hx
            cases hbl : blkB rest j c
            · have CX := fun w => CL x w
              rw [hbl, Bool.false_or] at hst
              have HST : Hid _ := hst
              clear hst hx
              go_wp2_with fail
              refine (CX _).mono ?_
              rintro e w4 ⟨rfl, hw4⟩
              obtain rfl : wr = w4 := hw4.symm
              clear CX
              go_wp2
              exact ⟨⟨j + 1, hjl, by go_num, by rw [HST.out]⟩, by simp [intOf]; omega⟩
            · rw [hbl, Bool.true_or] at hst
              have HST : Hid _ := hst
              clear hst hx
              go_wp2
              exact ⟨⟨j + 1, hjl, by go_num, by rw [HST.out]⟩, by simp [intOf]; omega⟩
          · have hjk : j = k := by omega
            subst hjk
            obtain ⟨p0, p1, p2⟩ : wr.cell? ⟨w.heap.size, 0, none⟩ = some (.slice va vn vc) ∧ wr.cell? ⟨w.heap.size, 1, none⟩ = some (.bool sh) ∧ wr.cell? ⟨w.heap.size, 2, none⟩ = some (.int .i64 lv) := ⟨cell_of_row _ _ 0 _ _ _ hB, cell_of_row _ _ 1 _ _ _ hB, cell_of_row _ _ 2 _ _ _ hB⟩
            generalize hbl : blkB rest j c = bb
            cases bb
            · have HB : Hid (BoxR _ _ _ _ _) := hB
              have HBE : Hid (Below _ _ _) := hb
              have RC : ∀ W : World, Below wr.heap.size wr W → ∀ i u, (run.map (Value.int .i64))[i]? = some u → W.cell? ((⟨gr, 0, none⟩ : Addr).add i) = some u := fun W hW i u hi => by
                rw [List.getElem?_map, Option.map_eq_some_iff] at hi
                obtain ⟨y, hy, rfl⟩ := hi
                rw [Addr.add_mid, hW.cell (Nat.lt_of_lt_of_le (World.ownsRow.lt hR gr rfl).2 hb.size), Nat.zero_add]
                exact ints_at0 (hR.below hb) i y hy
              have AT := fun (W : World) (B' : Nat) (v' : Value) (hW : Below wr.heap.size wr W) (hi : Ints W B' v' (run ++ [m])) => at3_any (sh := sh) (lv := lv) ((hE.below hb).below hW) hi hn (by rw [List.length_append]; simp; omega) hr
              go_wp2_with fail
              have KS : Hid (∀ u, Below wr.heap.size wr u → u.cell? ⟨w.heap.size, 0, none⟩ = some (.slice va vn vc) ∧ u.cell? ⟨w.heap.size, 1, none⟩ = some (.bool sh) ∧ u.cell? ⟨w.heap.size, 2, none⟩ = some (.int .i64 lv)) := fun u hu => (show _ from ⟨cell_of_row _ _ 0 _ _ _ (hB.below hu), cell_of_row _ _ 1 _ _ _ (hB.below hu), cell_of_row _ _ 2 _ _ _ (hB.below hu)⟩)
              go_region_held3 (fun u => u.cell? ⟨w.heap.size, 0, none⟩ = some (.slice va vn vc) ∧ u.cell? ⟨w.heap.size, 1, none⟩ = some (.bool sh) ∧ u.cell? ⟨w.heap.size, 2, none⟩ = some (.int .i64 lv)) (exact KS.out _ (by repeat (first | with_reducible exact Below.refl _ _ | with_reducible exact hbw4 | with_reducible exact hbw3 | with_reducible exact hbw2 | with_reducible refine Below.drew ?_ | with_reducible refine Below.alloc ?_ (by first | omega | (simp; done) | (simp; omega)) _))) ((first
                | (refine step_app_i (by rfl) (.tmp 44) (.tmp 45) rfl wr.heap.size (.slice (some ⟨wr.heap.size, 0, none⟩) 0 0) [] run rfl (freshA rfl) ⟨gr, 0, none⟩ run.length cr rfl rfl (RC _ (by repeat (first | with_reducible exact Below.refl _ _ | with_reducible exact hbw4 | with_reducible exact hbw3 | with_reducible exact hbw2 | with_reducible refine Below.drew ?_ | with_reducible refine Below.alloc ?_ (by first | omega | (simp; done) | (simp; omega)) _))) (by omega) (by simp; omega) (by first | omega | (simp; done) | (simp; omega)) run.length (by simp) run rfl ?_; intro g2 c2 w2 i2 hg2 hl2; have hbw2 : Below wr.heap.size wr w2 := Below.grown (by repeat (first | with_reducible exact Below.refl _ _ | with_reducible exact hbw4 | with_reducible exact hbw3 | with_reducible exact hbw2 | with_reducible refine Below.drew ?_ | with_reducible refine Below.alloc ?_ (by first | omega | (simp; done) | (simp; omega)) _)) hg2 (by first | omega | (simp; done) | (simp; omega)) (fun k hk => by simp [Value.ownBlock] at hk; omega); have hsw2 := hbw2.size; clear hg2)
                | (refine step_app_i (by rfl) (.tmp 44) (.tmp 45) rfl wr.heap.size (.slice (some ⟨wr.heap.size, 0, none⟩) 0 0) [] run rfl (freshB (x := m) rfl) ⟨gr, 0, none⟩ run.length cr rfl rfl (RC _ (by repeat (first | with_reducible exact Below.refl _ _ | with_reducible exact hbw4 | with_reducible exact hbw3 | with_reducible exact hbw2 | with_reducible refine Below.drew ?_ | with_reducible refine Below.alloc ?_ (by first | omega | (simp; done) | (simp; omega)) _))) (by omega) (by simp; omega) (by first | omega | (simp; done) | (simp; omega)) run.length (by simp) run rfl ?_; intro g2 c2 w2 i2 hg2 hl2; have hbw2 : Below wr.heap.size wr w2 := Below.grown (by repeat (first | with_reducible exact Below.refl _ _ | with_reducible exact hbw4 | with_reducible exact hbw3 | with_reducible exact hbw2 | with_reducible refine Below.drew ?_ | with_reducible refine Below.alloc ?_ (by first | omega | (simp; done) | (simp; omega)) _)) hg2 (by first | omega | (simp; done) | (simp; omega)) (fun k hk => by simp [Value.ownBlock] at hk; omega); have hsw2 := hbw2.size; have nw2 := newsB (x := m) hg2 rfl; clear hg2)
                | (refine step_app_i (by rfl) (.tmp 44) (.tmp 45) rfl wr.heap.size (.slice (some ⟨wr.heap.size + 1, 0, none⟩) 0 0) [] run rfl (freshC (x := m) rfl) ⟨gr, 0, none⟩ run.length cr rfl rfl (RC _ (by repeat (first | with_reducible exact Below.refl _ _ | with_reducible exact hbw4 | with_reducible exact hbw3 | with_reducible exact hbw2 | with_reducible refine Below.drew ?_ | with_reducible refine Below.alloc ?_ (by first | omega | (simp; done) | (simp; omega)) _))) (by omega) (by simp; omega) (by first | omega | (simp; done) | (simp; omega)) run.length (by simp) run rfl ?_; intro g2 c2 w2 i2 hg2 hl2; have hbw2 : Below wr.heap.size wr w2 := Below.grown (by repeat (first | with_reducible exact Below.refl _ _ | with_reducible exact hbw4 | with_reducible exact hbw3 | with_reducible exact hbw2 | with_reducible refine Below.drew ?_ | with_reducible refine Below.alloc ?_ (by first | omega | (simp; done) | (simp; omega)) _)) hg2 (by first | omega | (simp; done) | (simp; omega)) (fun k hk => by simp [Value.ownBlock] at hk; omega); have hsw2 := hbw2.size; have nw2 := newsC (x := m) hg2 rfl; clear hg2)
                | (refine step_app_i (by rfl) (.tmp 46) (.tmp 48) rfl wr.heap.size (.slice (some ⟨g2, 0, none⟩) run.length c2) run [m] rfl (ints_of (ints_alloc i2 (.cells #[.int .i64 m] 3)) rfl) ⟨w2.heap.size, 0, none⟩ 1 1 rfl rfl (NewsAt.news ((NewsAt.new w2 _ m rfl).of rfl)) (by omega) (by omega) (by have := hbw2.size; first | omega | (simp; done) | (simp; omega)) (run.length + 1) rfl (run ++ [m]) rfl ?_; intro g3 c3 w3 i3 hg3 hl3; have hbw3 : Below wr.heap.size wr w3 := Below.grown (by repeat (first | with_reducible exact Below.refl _ _ | with_reducible exact hbw4 | with_reducible exact hbw3 | with_reducible exact hbw2 | with_reducible refine Below.drew ?_ | with_reducible refine Below.alloc ?_ (by first | omega | (simp; done) | (simp; omega)) _)) hg3 (by have := hbw2.size; first | omega | (simp; done) | (simp; omega)) (fun k hk => (World.ownsRow.lt i2 k hk).1); have hsw3 := hbw3.size; clear hg3)
                | (refine step_app_i (by rfl) (.tmp 46) (.tmp 48) rfl wr.heap.size (.slice (some ⟨g2, 0, none⟩) run.length c2) run [m] rfl (ints_of i2 rfl) ⟨wr.heap.size + 1, 0, none⟩ 1 1 rfl rfl (NewsAt.news (nw2.of rfl)) (by omega) (by omega) (by have := hbw2.size; first | omega | (simp; done) | (simp; omega)) (run.length + 1) rfl (run ++ [m]) rfl ?_; intro g3 c3 w3 i3 hg3 hl3; have hbw3 : Below wr.heap.size wr w3 := Below.grown (by repeat (first | with_reducible exact Below.refl _ _ | with_reducible exact hbw4 | with_reducible exact hbw3 | with_reducible exact hbw2 | with_reducible refine Below.drew ?_ | with_reducible refine Below.alloc ?_ (by first | omega | (simp; done) | (simp; omega)) _)) hg3 (by have := hbw2.size; first | omega | (simp; done) | (simp; omega)) (fun k hk => (World.ownsRow.lt i2 k hk).1); have hsw3 := hbw3.size; clear hg3)
                | (refine step_app_i (by rfl) (.tmp 46) (.tmp 48) rfl wr.heap.size (.slice (some ⟨g2, 0, none⟩) run.length c2) run [m] rfl (ints_of i2 rfl) ⟨wr.heap.size, 0, none⟩ 1 1 rfl rfl (NewsAt.news (nw2.of rfl)) (by omega) (by omega) (by have := hbw2.size; first | omega | (simp; done) | (simp; omega)) (run.length + 1) rfl (run ++ [m]) rfl ?_; intro g3 c3 w3 i3 hg3 hl3; have hbw3 : Below wr.heap.size wr w3 := Below.grown (by repeat (first | with_reducible exact Below.refl _ _ | with_reducible exact hbw4 | with_reducible exact hbw3 | with_reducible exact hbw2 | with_reducible refine Below.drew ?_ | with_reducible refine Below.alloc ?_ (by first | omega | (simp; done) | (simp; omega)) _)) hg3 (by have := hbw2.size; first | omega | (simp; done) | (simp; omega)) (fun k hk => (World.ownsRow.lt i2 k hk).1); have hsw3 := hbw3.size; clear hg3)
                | (go_at_call 45; refine (AT _ _ _ (by repeat (first | with_reducible exact Below.refl _ _ | with_reducible exact hbw4 | with_reducible exact hbw3 | with_reducible exact hbw2 | with_reducible refine Below.drew ?_ | with_reducible refine Below.alloc ?_ (by first | omega | (simp; done) | (simp; omega)) _)) (by repeat (first | with_reducible exact i3 | with_reducible refine ints_drew ?_ | with_reducible refine ints_alloc ?_ _))).mono ?_; rintro e w4 ⟨rfl, b4⟩; have hbw4 : Below wr.heap.size wr w4 := hbw3.trans (Below.mono (by first | exact b4 | exact ((Below.refl _ _).drew).trans b4) hbw3.size))))
              all_goals
                have hbx : Below w.heap.size w w4 := HBE.out.trans (hbw4.mono HBE.out.size)
                have HBX : Hid (Below _ _ _) := hbx
                have HBR : Hid (BoxR _ _ _ _ _) := hB.below hbw4
                clear AT RC KS hbx hbw4 hbw3 hbw2 i3 i2 b4
                by_cases hp : 0 ≤ atE es (run ++ [m])
                · have HF : Hid ((j : Int) = ans) := by show _ = _; rw [← HA3.out, if_pos ⟨hbl, hp⟩]
                  clear HA3
                  go_wp2
                  go_ret
                  rw [← HF.out]
                  exact ⟨rfl, HBX.out⟩
                · have HF : Hid (markFrom es run rest (rest.drop (j + 1)) (j + 1) = ans) := by show _ = _; rw [← HA3.out, if_neg (fun c => hp c.2)]
                  clear HA3
                  go_wp2
                  exact ⟨⟨j + 1, hlt, by go_num, HF.out, HBR.out, HBX.out⟩, by simp [intOf]; omega⟩
            · have HF : Hid (markFrom es run rest (rest.drop (j + 1)) (j + 1) = ans) := by show _ = _; rw [← HA3.out, if_neg (by simp [hbl])]
              clear HA3 CL
              go_wp2_with fail
              go_quiet (fail)
              go_wp2
              exact ⟨⟨j + 1, hlt, by go_num, HF.out, hB.below (below_drewN (Below.refl _ _) _), below_drewN hb _⟩, by simp [intOf]; omega⟩
    · have hk3 : k = rest.length := by omega
      subst hk3
      have HF : Hid (-1 = ans) := by show _ = _; rw [← HA.out, List.drop_length]; rfl
      clear HA CL
      go_wp2
      go_ret
      rw [← HF.out]
      exact ⟨rfl, hb⟩
end Go.Proofs.YtanfebccenfffagGreatDoor
