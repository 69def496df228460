/- Proved: for every Rules r and any two strings a and b, impl.CompareTexts answers as the specification's CompareTexts and writes nothing into its arguments, so the law FnExactCompareTexts returns true and leaves the input as it was; the tables are as the program's own text lays them (the tied card). -/
import Derived.Test.YtanfebccenfffafDoorProg
import Derived.Test.YtanfebccenfffafDoorMG5
import Derived.Test.YtanfebccenfffafDoorMG7
import Derived.Test.YtanfebccenfffafDoorMG8
import Derived.Test.YtanfebccenfffafDoorCards
import Derived.Test.YtanfebccenfffafDoorTie
import Derived.WalkKit
import Derived.ProofKit
import Derived.OpenShut
import Derived.LaidMore
import Derived.Stop.Joined
import Derived.ChangeOld
namespace Go.Proofs.YtanfebccenfffafDoor

def ltS (a b : ByteArray) : Bool := Op.bytesLess a.toList b.toList
def eqS (a b : ByteArray) : Bool := a.toList == b.toList
def gtS (a b : ByteArray) : Bool := !(ltS a b || eqS a b)
/-- How two keys stand to each other. -/
def cmpS (a b : ByteArray) : Int := if ltS a b = true then -1 else if gtS a b = true then 1 else 0

theorem less_irrefl : ∀ x : List UInt8, Op.bytesLess x x = false
  | [] => rfl
  | a :: x => by simp [Op.bytesLess, less_irrefl x]

theorem less_asymm : ∀ x y : List UInt8, Op.bytesLess x y = true → Op.bytesLess y x = false ∧ (x == y) = false
  | _, [], h => by simp [Op.bytesLess] at h
  | [], b :: y, _ => by simp [Op.bytesLess]
  | a :: x, b :: y, h => by
    simp only [Op.bytesLess, Bool.or_eq_true, Bool.and_eq_true, decide_eq_true_eq, beq_iff_eq] at h
    rcases h with h | ⟨rfl, h⟩
    · have h1 : ¬ b < a := fun c => absurd (UInt8.lt_trans h c) (UInt8.lt_irrefl _)
      have h2 : a ≠ b := UInt8.ne_of_lt h
      have h3 : b ≠ a := fun e => h2 e.symm
      simp [Op.bytesLess, h1, h2, h3]
    · have := less_asymm x y h
      simp only [beq_eq_false_iff_ne] at this
      simp [Op.bytesLess, this.1, this.2]

theorem less_total : ∀ x y : List UInt8, Op.bytesLess x y = true ∨ (x == y) = true ∨ Op.bytesLess y x = true
  | [], [] => by simp
  | [], _ :: _ => by simp [Op.bytesLess]
  | _ :: _, [] => by simp [Op.bytesLess]
  | a :: x, b :: y => by
    have := less_total x y
    rcases Nat.lt_trichotomy a.toNat b.toNat with h | h | h
    · left
      simp [Op.bytesLess, UInt8.lt_iff_toNat_lt, h]
    · obtain rfl : a = b := UInt8.toNat.inj h
      simpa [Op.bytesLess] using this
    · right; right
      simp [Op.bytesLess, UInt8.lt_iff_toNat_lt, h]

theorem less_trans : ∀ x y z : List UInt8, Op.bytesLess x y = true → Op.bytesLess y z = true → Op.bytesLess x z = true
  | _, _, [], _, h => by cases h' : ‹List UInt8› <;> simp [Op.bytesLess] at h
  | _, [], _ :: _, h, _ => by simp [Op.bytesLess] at h
  | [], _ :: _, _ :: _, _, _ => by simp [Op.bytesLess]
  | a :: x, b :: y, c :: z, h1, h2 => by
    simp only [Op.bytesLess, Bool.or_eq_true, Bool.and_eq_true, decide_eq_true_eq, beq_iff_eq] at h1 h2 ⊢
    rcases h1 with h1 | ⟨rfl, h1⟩
    · rcases h2 with h2 | ⟨rfl, h2⟩
      · exact .inl (UInt8.lt_trans h1 h2)
      · exact .inl h1
    · rcases h2 with h2 | ⟨rfl, h2⟩
      · exact .inl h2
      · exact .inr ⟨rfl, less_trans x y z h1 h2⟩

theorem gtS_lt (a b : ByteArray) : gtS a b = ltS b a := by
  unfold gtS ltS eqS
  cases h : Op.bytesLess b.toList a.toList
  · rcases less_total a.toList b.toList with h1 | h1 | h1
    · rw [h1]; rfl
    · rw [h1]; simp
    · rw [h] at h1; cases h1
  · have h1 := less_asymm _ _ h
    have h2 : (a.toList == b.toList) = false := by
      have := h1.2
      simp only [beq_eq_false_iff_ne, ne_eq] at this ⊢
      exact fun e => this e.symm
    rw [h1.1, h2]; rfl

theorem cmpS_neg (a b : ByteArray) : cmpS b a = - cmpS a b := by
  unfold cmpS
  rw [gtS_lt, gtS_lt]
  cases h : ltS a b
  · cases h2 : ltS b a <;> rfl
  · have := (less_asymm _ _ h).1
    have h2 : ltS b a = false := this
    rw [h2]; rfl

theorem cmpS_self (a : ByteArray) : cmpS a a = 0 := by
  unfold cmpS
  rw [gtS_lt]
  have : ltS a a = false := less_irrefl _
  rw [this]; rfl

/-- A key and its text. -/
structure KT where
  key : ByteArray
  text : ByteArray

def ktZ : KT := ⟨⟨#[]⟩, ⟨#[]⟩⟩
def ktAt (l : List KT) (k : Nat) : KT := (l[k]?).getD ktZ

/-- The one at place j goes to the front past what is greater. -/
def bubK : List KT → Nat → List KT
  | l, 0 => l
  | l, j + 1 => if gtS (ktAt l j).key (ktAt l (j + 1)).key = true then bubK ((l.set j (ktAt l (j + 1))).set (j + 1) (ktAt l j)) j else l

theorem bubK_go {l : List KT} {j : Nat} (h : gtS (ktAt l j).key (ktAt l (j + 1)).key = true) : bubK l (j + 1) = bubK ((l.set j (ktAt l (j + 1))).set (j + 1) (ktAt l j)) j := by
  rw [bubK, if_pos h]
theorem bubK_stop {l : List KT} {j : Nat} (h : gtS (ktAt l j).key (ktAt l (j + 1)).key = false) : bubK l (j + 1) = l := by
  rw [bubK, if_neg (by rw [h]; simp)]

theorem bubK_len (l : List KT) (j : Nat) : (bubK l j).length = l.length := by
  induction j generalizing l with
  | zero => rfl
  | succ j ih =>
    rw [bubK]
    split
    · rw [ih]; simp
    · rfl

/-- The first k are sorted. -/
def srtK (l : List KT) : Nat → List KT
  | 0 => l
  | k + 1 => bubK (srtK l k) k

theorem srtK_len (l : List KT) (k : Nat) : (srtK l k).length = l.length := by
  induction k with
  | zero => rfl
  | succ k ih => rw [srtK, bubK_len, ih]

theorem ktAt_app {l r : List KT} {k : Nat} (h : k < l.length) : ktAt (l ++ r) k = ktAt l k := by
  unfold ktAt; rw [List.getElem?_append_left h]

theorem bubK_app {l r : List KT} {j : Nat} (h : j < l.length) : bubK (l ++ r) j = bubK l j ++ r := by
  induction j generalizing l with
  | zero => rfl
  | succ j ih =>
    rw [bubK, bubK, ktAt_app (by omega), ktAt_app h]
    split
    · rw [List.set_append_left _ _ (by omega), List.set_append_left _ _ (by simpa using h), ih (by simp; omega)]
    · rfl

/-- One after the other, each to its place. -/
def insK (l : List KT) : Nat → List KT
  | 0 => []
  | k + 1 => bubK (insK l k ++ [ktAt l k]) k

theorem insK_len (l : List KT) (k : Nat) : (insK l k).length = k := by
  induction k with
  | zero => rfl
  | succ k ih => rw [insK, bubK_len]; simp [ih]

theorem srtK_ins {l : List KT} {k : Nat} (h : k ≤ l.length) : srtK l k = insK l k ++ l.drop k := by
  induction k with
  | zero => rfl
  | succ k ih =>
    have hk : k < l.length := by omega
    have hd : l.drop k = ktAt l k :: l.drop (k + 1) := by
      rw [List.drop_eq_getElem_cons hk]
      unfold ktAt
      rw [List.getElem?_eq_getElem hk]
      rfl
    rw [srtK, ih (by omega), insK, hd, show insK l k ++ ktAt l k :: l.drop (k + 1) = (insK l k ++ [ktAt l k]) ++ l.drop (k + 1) by simp, bubK_app (by simp [insK_len])]

theorem srtK_all (l : List KT) : srtK l l.length = insK l l.length := by
  rw [srtK_ins (Nat.le_refl _)]; simp

/-- A place that is free: what stands there is not looked at. -/
theorem hole_go {a : List KT} {x : KT} {j : Nat} (hj : j + 1 < a.length) (h : gtS (ktAt a j).key x.key = true) : bubK (a.set (j + 1) x) (j + 1) = bubK ((a.set (j + 1) (ktAt a j)).set j x) j := by
  have h1 : ktAt (a.set (j + 1) x) j = ktAt a j := by unfold ktAt; rw [List.getElem?_set_ne (by omega)]
  have h2 : ktAt (a.set (j + 1) x) (j + 1) = x := by unfold ktAt; rw [List.getElem?_set_self hj]; rfl
  rw [bubK_go (by rw [h1, h2]; exact h), h1, h2]
  congr 1
  rw [List.set_comm _ _ (by omega), List.set_set, List.set_comm _ _ (by omega)]

theorem hole_stop {a : List KT} {x : KT} {j : Nat} (hj : j + 1 < a.length) (h : gtS (ktAt a j).key x.key = false) : bubK (a.set (j + 1) x) (j + 1) = a.set (j + 1) x := by
  have h1 : ktAt (a.set (j + 1) x) j = ktAt a j := by unfold ktAt; rw [List.getElem?_set_ne (by omega)]
  have h2 : ktAt (a.set (j + 1) x) (j + 1) = x := by unfold ktAt; rw [List.getElem?_set_self hj]; rfl
  exact bubK_stop (by rw [h1, h2]; exact h)
end Go.Proofs.YtanfebccenfffafDoor

namespace Go.Proofs.YtanfebccenfffafDoor

def cmpT (es : List Ent) (sh : Bool) (lv : Int) (x y : ByteArray) : Int := if (okE es lv x && okE es lv y) = true then cmpS (keyT es sh lv x) (keyT es sh lv y) else 0
end Go.Proofs.YtanfebccenfffafDoor

namespace Go.Proofs.YtanfebccenfffafDoor
open Go.RowKit

set_option maxRecDepth 100000 in
set_option maxHeartbeats 1000000 in
theorem nan_any (a : ByteArray) (w : World) : Calls Tryd.prog 72 #[.string a] w fun e w' => e = .returned (.bool false) ∧ w' = w := by
  have h : (a.toList == a.toList) = true := by simp
  go_enter Tryd.func72, Tryd.ntmps72
  go_wp2
  go_ret
  exact ⟨rfl, rfl⟩

set_option maxRecDepth 100000 in
set_option maxHeartbeats 1000000 in
theorem compare_any (ka kb : ByteArray) (w : World) : Calls Tryd.prog 49 #[.string ka, .string kb] w fun e w' => e = .returned (.int .i64 (cmpS ka kb)) ∧ w' = w := by
  have N := fun a w => nan_any a w
  cases hlt : Op.bytesLess ka.toList kb.toList
  · cases heq : (ka.toList == kb.toList)
    · have HV : Hid (cmpS ka kb = 1) := by show _ = _; simp [cmpS, ltS, gtS, eqS, hlt, heq]
      rw [HV.out]
      go_enter Tryd.func49, Tryd.ntmps49
      go_wp2_with (go_at_call 72; refine (N _ _).mono ?_; rintro e w' ⟨rfl, rfl⟩)
      go_ret
      exact ⟨rfl, rfl⟩
    · have HV : Hid (cmpS ka kb = 0) := by show _ = _; simp [cmpS, ltS, gtS, eqS, hlt, heq]
      rw [HV.out]
      go_enter Tryd.func49, Tryd.ntmps49
      go_wp2_with (go_at_call 72; refine (N _ _).mono ?_; rintro e w' ⟨rfl, rfl⟩)
      go_ret
      exact ⟨rfl, rfl⟩
  · have HV : Hid (cmpS ka kb = -1) := by show _ = _; simp [cmpS, ltS, hlt]
    rw [HV.out]
    go_enter Tryd.func49, Tryd.ntmps49
    go_wp2_with (go_at_call 72; refine (N _ _).mono ?_; rintro e w' ⟨rfl, rfl⟩)
    go_ret
    exact ⟨rfl, rfl⟩

set_option maxRecDepth 100000 in
set_option maxHeartbeats 4000000 in
theorem implCmp_any {w : World} {B : Nat} {ve : Value} {es : List Ent} {sh : Bool} {lv : Int} (x : ByteArray) (hx : x.size ≤ 1048576) (y : ByteArray) (hy : y.size ≤ 1048576) (hE : Ents w B ve es) (hr : ∀ e ∈ es, e.runes.length ≤ 1048576) (ht : Tabs3 w) :
    Calls Tryd.prog 29 #[.agg #[ve, .bool sh, .int .i64 lv], .string x, .string y] w fun e w' => e = .returned (.tuple #[.int .i64 (cmpT es sh lv x y), .bool (okE es lv x && okE es lv y)]) ∧ Below w.heap.size w w' := by
  obtain ⟨va, vc, rfl⟩ := (show ∃ a c, ve = .slice a es.length c by
    rcases hE.form with ⟨rfl, rfl⟩ | ⟨_, _, rfl, _, _, _, _⟩
    · exact ⟨_, _, rfl⟩
    · exact ⟨_, _, rfl⟩)
  have hbx : Below w.heap.size w (w.alloc (.cells #[.slice va es.length vc, .bool sh, .int .i64 lv] 33)) := (Below.refl _ _).alloc (Nat.le_refl _) _
  have hbox : BoxR4 (w.alloc (.cells #[.slice va es.length vc, .bool sh, .int .i64 lv] 33)) w.heap.size (.slice va es.length vc) sh lv := heap_alloc_new w _
  have hlb : w.heap.size < (w.alloc (.cells #[.slice va es.length vc, .bool sh, .int .i64 lv] 33)).heap.size := by simp
  have KX := implKey_any (sh := sh) (lv := lv) x hx (hE.below hbx) hr (ht.below hbx)
  have KY := fun (u : World) (hu : Below w.heap.size w u) => implKey_any (sh := sh) (lv := lv) y hy (hE.below hu) hr (ht.below hu)
  have HBX : Hid (Below _ _ _) := hbx
  have HBO : Hid (BoxR4 _ _ _ _ _) := hbox
  unfold cmpT
  generalize keyT es sh lv x = ka at *
  generalize keyT es sh lv y = kb at *
  generalize okE es lv x = oa at *
  generalize okE es lv y = ob at *
  clear hE hr hbx hbox ht
  cases oa
  · rw [Bool.false_and, if_neg (by simp)]
    go_enter Tryd.func29, Tryd.ntmps29
    go_wp2_with fail
    refine KX.mono ?_
    rintro e w1 ⟨rfl, b1⟩
    have hb1 := HBX.out.trans (b1.mono HBX.out.size)
    have K2 := KY _ hb1
    obtain ⟨c0, c1, c2⟩ := (HBO.out.below b1 hlb).cells
    clear KX KY b1
    go_wp2_with fail
    refine K2.mono ?_
    rintro e w2 ⟨rfl, b2⟩
    have hb2 := hb1.trans (b2.mono hb1.size)
    clear K2 c0 c1 c2 b2 hb1
    go_wp2
    go_ret2
    exact ⟨rfl, hb2⟩
  · cases ob
    · rw [Bool.and_false, if_neg (by simp)]
      go_enter Tryd.func29, Tryd.ntmps29
      go_wp2_with fail
      refine KX.mono ?_
      rintro e w1 ⟨rfl, b1⟩
      have hb1 := HBX.out.trans (b1.mono HBX.out.size)
      have K2 := KY _ hb1
      obtain ⟨c0, c1, c2⟩ := (HBO.out.below b1 hlb).cells
      clear KX KY b1
      go_wp2_with fail
      refine K2.mono ?_
      rintro e w2 ⟨rfl, b2⟩
      have hb2 := hb1.trans (b2.mono hb1.size)
      clear K2 c0 c1 c2 b2 hb1
      go_wp2
      go_ret2
      exact ⟨rfl, hb2⟩
    · rw [Bool.and_true, if_pos rfl]
      go_enter Tryd.func29, Tryd.ntmps29
      go_wp2_with fail
      refine KX.mono ?_
      rintro e w1 ⟨rfl, b1⟩
      have hb1 := HBX.out.trans (b1.mono HBX.out.size)
      have K2 := KY _ hb1
      obtain ⟨c0, c1, c2⟩ := (HBO.out.below b1 hlb).cells
      clear KX KY b1
      go_wp2_with fail
      refine K2.mono ?_
      rintro e w2 ⟨rfl, b2⟩
      have hb2 := hb1.trans (b2.mono hb1.size)
      clear K2 c0 c1 c2 b2 hb1
      have CM := compare_any ka kb w2
      go_wp2_with fail
      refine CM.mono ?_
      rintro e w3 ⟨rfl, hw3⟩
      obtain rfl : w2 = w3 := hw3.symm
      clear CM
      go_wp2
      go_ret2
      exact ⟨rfl, hb2⟩
end Go.Proofs.YtanfebccenfffafDoor

namespace Go.Proofs.YtanfebccenfffafDoor
open Go.RowKit

set_option maxRecDepth 100000 in
set_option maxHeartbeats 4000000 in
theorem specCmp_any {w : World} {B : Nat} {ve : Value} {es : List Ent} {sh : Bool} {lv : Int} (x : ByteArray) (hx : x.size ≤ 1048576) (y : ByteArray) (hy : y.size ≤ 1048576) (hE : Ents w B ve es) (hr : ∀ e ∈ es, e.runes.length ≤ 1048576) :
    Calls Tryd.prog 28 #[.agg #[ve, .bool sh, .int .i64 lv], .string x, .string y] w fun e w' => e = .returned (.tuple #[.int .i64 (cmpT es sh lv x y), .bool (okE es lv x && okE es lv y)]) ∧ Below w.heap.size w w' := by
  obtain ⟨va, vc, rfl⟩ := ents_slice hE
  have hbx : Below w.heap.size w (w.alloc (.cells #[.slice va es.length vc, .bool sh, .int .i64 lv] 33)) := (Below.refl _ _).alloc (Nat.le_refl _) _
  have hbox : BoxS (w.alloc (.cells #[.slice va es.length vc, .bool sh, .int .i64 lv] 33)) w.heap.size (.slice va es.length vc) sh lv := heap_alloc_new w _
  have hlb : w.heap.size < (w.alloc (.cells #[.slice va es.length vc, .bool sh, .int .i64 lv] 33)).heap.size := by simp
  have KX := specKey_any (sh := sh) (lv := lv) x hx (hE.below hbx) hr
  have KY := fun (u : World) (hu : Below w.heap.size w u) => specKey_any (sh := sh) (lv := lv) y hy (hE.below hu) hr
  have HBX : Hid (Below _ _ _) := hbx
  have HBO : Hid (BoxS _ _ _ _ _) := hbox
  unfold cmpT
  generalize keyT es sh lv x = ka at *
  generalize keyT es sh lv y = kb at *
  generalize okE es lv x = oa at *
  generalize okE es lv y = ob at *
  clear hE hr hbx hbox
  cases oa
  · rw [Bool.false_and, if_neg (by simp)]
    go_enter Tryd.func28, Tryd.ntmps28
    go_wp2_with fail
    refine KX.mono ?_
    rintro e w1 ⟨rfl, b1⟩
    have hb1 := HBX.out.trans (b1.mono HBX.out.size)
    have K2 := KY _ hb1
    obtain ⟨c0, c1, c2⟩ := (HBO.out.below b1 hlb).cells
    clear KX KY b1
    go_wp2_with fail
    refine K2.mono ?_
    rintro e w2 ⟨rfl, b2⟩
    have hb2 := hb1.trans (b2.mono hb1.size)
    clear K2 c0 c1 c2 b2 hb1
    go_wp2
    go_ret2
    exact ⟨rfl, hb2⟩
  · cases ob
    · rw [Bool.and_false, if_neg (by simp)]
      go_enter Tryd.func28, Tryd.ntmps28
      go_wp2_with fail
      refine KX.mono ?_
      rintro e w1 ⟨rfl, b1⟩
      have hb1 := HBX.out.trans (b1.mono HBX.out.size)
      have K2 := KY _ hb1
      obtain ⟨c0, c1, c2⟩ := (HBO.out.below b1 hlb).cells
      clear KX KY b1
      go_wp2_with fail
      refine K2.mono ?_
      rintro e w2 ⟨rfl, b2⟩
      have hb2 := hb1.trans (b2.mono hb1.size)
      clear K2 c0 c1 c2 b2 hb1
      go_wp2
      go_ret2
      exact ⟨rfl, hb2⟩
    · rw [Bool.and_true, if_pos rfl]
      go_enter Tryd.func28, Tryd.ntmps28
      go_wp2_with fail
      refine KX.mono ?_
      rintro e w1 ⟨rfl, b1⟩
      have hb1 := HBX.out.trans (b1.mono HBX.out.size)
      have K2 := KY _ hb1
      obtain ⟨c0, c1, c2⟩ := (HBO.out.below b1 hlb).cells
      clear KX KY b1
      go_wp2_with fail
      refine K2.mono ?_
      rintro e w2 ⟨rfl, b2⟩
      have hb2 := hb1.trans (b2.mono hb1.size)
      clear K2 c0 c1 c2 b2 hb1
      cases hlt : Op.bytesLess ka.toList kb.toList
      · cases heq : (ka.toList == kb.toList)
        · have HV : Hid (cmpS ka kb = 1) := by show _ = _; simp [cmpS, ltS, gtS, eqS, hlt, heq]
          go_wp2
          go_ret2
          rw [HV.out]
          exact ⟨rfl, hb2⟩
        · have HV : Hid (cmpS ka kb = 0) := by show _ = _; simp [cmpS, ltS, gtS, eqS, hlt, heq]
          go_wp2
          go_ret2
          rw [HV.out]
          exact ⟨rfl, hb2⟩
      · have HV : Hid (cmpS ka kb = -1) := by show _ = _; simp [cmpS, ltS, hlt]
        go_wp2
        go_ret2
        rw [HV.out]
        exact ⟨rfl, hb2⟩
end Go.Proofs.YtanfebccenfffafDoor

namespace Go.Proofs.YtanfebccenfffafDoor
open Go.RowKit

set_option maxRecDepth 100000 in
set_option maxHeartbeats 4000000 in
theorem compareTexts_walk (w : World) (a : Option Addr) (len cap : Nat) (es : List Ent) (sh : Bool) (lv : Int) (s t : ByteArray) (hs : s.size ≤ maxLen) (ht : t.size ≤ maxLen) (hA : ArgEnts w a len cap es)
    (I : ∀ (u : World) (B : Nat) (v : Value), Below w.heap.size w u → Ents u B v es → (∀ e ∈ es, e.runes.length ≤ 1048576) → s.size ≤ 1048576 → t.size ≤ 1048576 → Calls Tryd.prog 29 #[.agg #[v, .bool sh, .int .i64 lv], .string s, .string t] u fun e w' => e = .returned (.tuple #[.int .i64 (cmpT es sh lv s t), .bool (okE es lv s && okE es lv t)]) ∧ Below u.heap.size u w') :
    Calls Tryd.prog 7 #[.agg #[.slice a len cap, .bool sh, .int .i64 lv], .string s, .string t] w fun e w' => e = .returned (.bool true) ∧ Below w.heap.size w w' := by
  unfold maxLen at hs
  unfold maxLen at ht
  have hb1 := (Below.refl w.heap.size w).alloc (Nat.le_refl _) (.cells #[.slice a len cap, .bool sh, .int .i64 lv] 24)
  have hx1 : Blk (w.alloc (.cells #[.slice a len cap, .bool sh, .int .i64 lv] 24)) w.heap.size #[.slice a len cap, .bool sh, .int .i64 lv] 24 := heap_alloc_new _ _
  have S := szRules_any w _ a len cap es sh lv 1048576 (by omega) (by omega) hA hb1
  have HA : Hid (ArgEnts w a len cap es) := hA
  have HI : Hid _ := I
  have HB1 : Hid (Below _ _ _) := hb1
  have HX1 : Hid (Blk _ _ _ _) := hx1
  clear hA I hb1 hx1
  by_cases hls : 1048576 < s.size
  · have hl2s : (1048576 : Int) < (s.size : Int) := by omega
    clear S
    go_enter Tryd.func7, Tryd.ntmps7
    go_wp2
    go_ret
    exact ⟨rfl, HB1.out⟩
  have hl2s : ¬ (1048576 : Int) < (s.size : Int) := by omega
  by_cases hlt : 1048576 < t.size
  · have hl2t : (1048576 : Int) < (t.size : Int) := by omega
    clear S
    go_enter Tryd.func7, Tryd.ntmps7
    go_wp2
    go_ret
    exact ⟨rfl, HB1.out⟩
  have hl2t : ¬ (1048576 : Int) < (t.size : Int) := by omega
  by_cases hneg : szA es 1048576 < 0
  · generalize szA es 1048576 = sz at *
    go_enter Tryd.func7, Tryd.ntmps7
    go_wp2_with fail
    refine S.mono ?_
    rintro e w2 ⟨rfl, b2⟩
    clear S
    go_wp2
    go_ret
    exact ⟨rfl, HB1.out.trans (b2.mono HB1.out.size)⟩
  · have hbd := szA_bd (es := es) (left := 1048576) (by omega)
    have hle : len ≤ 1048576 := by have := HA.out.1; omega
    have HR : Hid (∀ e ∈ es, e.runes.length ≤ 1048576) := fun e he => by have := hbd.2 e he; omega
    have hel : es.length ≤ 1048576 := by omega
    clear hbd
    generalize szA es 1048576 = sz at *
    have T := fun (u : World) (hu : Below w.heap.size w u) => toRules_any w u a len cap es sh lv HA.out hu hle HR.out
    have A0 := fun (u : World) (B : Nat) (v : Value) (h : Ents u B v es) => specCmp_any (sh := sh) (lv := lv) s (by omega) t (by omega) h HR.out
    have I0 := fun (u : World) (B : Nat) (v : Value) (hu : Below w.heap.size w u) (h : Ents u B v es) => HI.out u B v hu h HR.out (by omega) (by omega)
    obtain ⟨ky, HKY⟩ : ∃ ky, Hid (cmpT es sh lv s t = ky) := ⟨_, rfl⟩
    obtain ⟨ok, HOK⟩ : ∃ ok, Hid ((okE es lv s && okE es lv t) = ok) := ⟨_, rfl⟩
    rw [HKY.out, HOK.out] at A0 I0
    have HA0 : Hid _ := A0
    have HI0 : Hid _ := I0
    clear A0 I0 HI HKY HOK
    go_enter Tryd.func7, Tryd.ntmps7
    go_wp2_with fail
    refine S.mono ?_
    rintro e w2 ⟨rfl, b2⟩
    clear S
    have HX2 : Hid (Blk _ _ _ _) := HX1.out.below b2
    have HB2 : Hid (Below _ _ _) := HB1.out.trans (b2.mono HB1.out.size)
    obtain ⟨p0, p1, p2⟩ := HX2.out.three
    clear HX1 HB1 b2
    go_wp2_with fail
    refine (T _ HB2.out).mono ?_
    rintro e w3 ⟨g3, rfl, i3, b3⟩
    have HX3 : Hid (Blk _ _ _ _) := HX2.out.below b3
    have HB3 : Hid (Below _ _ _) := HB2.out.trans (b3.mono HB2.out.size)
    have A := HA0.out _ _ _ i3
    clear p0 p1 p2 HX2 HB2 b3 i3 HA0
    go_wp2_with fail
    refine A.mono ?_
    rintro e w4 ⟨rfl, b4⟩
    have HX4 : Hid (Blk _ _ _ _) := HX3.out.below b4
    have HB4 : Hid (Below _ _ _) := HB3.out.trans (b4.mono HB3.out.size)
    obtain ⟨p0, p1, p2⟩ := HX4.out.three
    clear A HX3 HB3 b4
    go_wp2_with fail
    refine (T _ HB4.out).mono ?_
    rintro e w5 ⟨g5, rfl, i5, b5⟩
    have b56 := (Below.refl w5.heap.size w5).alloc (Nat.le_refl _) (.cells #[.slice (some ⟨g5, 0, none⟩) len len, .bool sh, .int .i64 lv] 33)
    have HX6 : Hid (Blk _ _ _ _) := (HX4.out.below b5).below b56
    have HY6 : Hid (Blk (w5.alloc (.cells #[.slice (some ⟨g5, 0, none⟩) len len, .bool sh, .int .i64 lv] 33)) w5.heap.size #[.slice (some ⟨g5, 0, none⟩) len len, .bool sh, .int .i64 lv] 33) := heap_alloc_new _ _
    have HB5 := HB4.out.trans (b5.mono HB4.out.size)
    have HB6 : Hid (Below _ _ _) := HB5.trans (b56.mono HB5.size)
    have I6 : Hid (Ents _ _ _ _) := i5.below b56
    have G := HI0.out _ _ _ HB6.out I6.out
    clear p0 p1 p2 HX4 HB4 b5 b56 i5 HB5 HI0
    go_wp2_with fail
    refine G.mono ?_
    rintro e w7 ⟨rfl, b7⟩
    have hx7 := HX6.out.below b7
    have hy7 := HY6.out.below b7
    have HB7 : Hid (Below _ _ _) := HB6.out.trans (b7.mono HB6.out.size)
    have I7 : Hid (Ents _ _ _ _) := I6.out.below b7
    obtain ⟨p0, p1, p2⟩ := hx7.three
    obtain ⟨q0, q1, q2⟩ := hy7.three
    have hgx := hx7.lt
    have hgy := hy7.lt
    have hS : w7.cell? ⟨w.heap.size, 0, none⟩ = some (.slice a len cap) ∧ w7.cell? ⟨w.heap.size, 1, none⟩ = some (.bool sh) ∧ w7.cell? ⟨w.heap.size, 2, none⟩ = some (.int .i64 lv) ∧ w7.cell? ⟨w5.heap.size, 0, none⟩ = some (.slice (some ⟨g5, 0, none⟩) len len) ∧ w7.cell? ⟨w5.heap.size, 1, none⟩ = some (.bool sh) ∧ w7.cell? ⟨w5.heap.size, 2, none⟩ = some (.int .i64 lv) ∧ Below w7.heap.size w7 w7 := ⟨p0, p1, p2, q0, q1, q2, Below.refl _ _⟩
    have hS2 := keep6 hgx hgy ((Below.refl w7.heap.size w7).drew) hS
    have K := fun (u1 u2 : World) (hb : Below u1.heap.size u1 u2) (hu : u1.cell? ⟨w.heap.size, 0, none⟩ = some (.slice a len cap) ∧ u1.cell? ⟨w.heap.size, 1, none⟩ = some (.bool sh) ∧ u1.cell? ⟨w.heap.size, 2, none⟩ = some (.int .i64 lv) ∧ u1.cell? ⟨w5.heap.size, 0, none⟩ = some (.slice (some ⟨g5, 0, none⟩) len len) ∧ u1.cell? ⟨w5.heap.size, 1, none⟩ = some (.bool sh) ∧ u1.cell? ⟨w5.heap.size, 2, none⟩ = some (.int .i64 lv) ∧ Below w7.heap.size w7 u1) => keep6 hgx hgy hb hu
    have T2 := fun (u : World) (hu : u.cell? ⟨w.heap.size, 0, none⟩ = some (.slice a len cap) ∧ u.cell? ⟨w.heap.size, 1, none⟩ = some (.bool sh) ∧ u.cell? ⟨w.heap.size, 2, none⟩ = some (.int .i64 lv) ∧ u.cell? ⟨w5.heap.size, 0, none⟩ = some (.slice (some ⟨g5, 0, none⟩) len len) ∧ u.cell? ⟨w5.heap.size, 1, none⟩ = some (.bool sh) ∧ u.cell? ⟨w5.heap.size, 2, none⟩ = some (.int .i64 lv) ∧ Below w7.heap.size w7 u) => T u (HB7.out.trans (hu.2.2.2.2.2.2.mono HB7.out.size))
    have EQ := fun (u : World) (B : Nat) (g : Nat) (hu : u.cell? ⟨w.heap.size, 0, none⟩ = some (.slice a len cap) ∧ u.cell? ⟨w.heap.size, 1, none⟩ = some (.bool sh) ∧ u.cell? ⟨w.heap.size, 2, none⟩ = some (.int .i64 lv) ∧ u.cell? ⟨w5.heap.size, 0, none⟩ = some (.slice (some ⟨g5, 0, none⟩) len len) ∧ u.cell? ⟨w5.heap.size, 1, none⟩ = some (.bool sh) ∧ u.cell? ⟨w5.heap.size, 2, none⟩ = some (.int .i64 lv) ∧ Below w7.heap.size w7 u) (he : Ents u B (.slice (some ⟨g, 0, none⟩) len len) es) => eqRules_same sh lv hel (I7.out.below hu.2.2.2.2.2.2) he
    clear G HX6 HY6 HB6 I6 b7 hx7 hy7 T p0 p1 p2 q0 q1 q2
    go_wp2_with fail
    go_region_held (fun u => u.cell? ⟨w.heap.size, 0, none⟩ = some (.slice a len cap) ∧ u.cell? ⟨w.heap.size, 1, none⟩ = some (.bool sh) ∧ u.cell? ⟨w.heap.size, 2, none⟩ = some (.int .i64 lv) ∧ u.cell? ⟨w5.heap.size, 0, none⟩ = some (.slice (some ⟨g5, 0, none⟩) len len) ∧ u.cell? ⟨w5.heap.size, 1, none⟩ = some (.bool sh) ∧ u.cell? ⟨w5.heap.size, 2, none⟩ = some (.int .i64 lv) ∧ Below w7.heap.size w7 u)
      (first | exact hS2 | exact K _ _ (by assumption) (by assumption))
      (first | (go_at_call 10; refine (T2 _ (by assumption)).mono ?_; rintro e w' ⟨g, rfl, hEn, hbw⟩) | (go_at_call 14; refine (EQ _ _ _ (by assumption) (by assumption)).mono ?_; rintro e w' ⟨rfl, hbw⟩))
    all_goals
      have hE := (show w'.cell? ⟨w.heap.size, 0, none⟩ = _ ∧ _ ∧ _ ∧ _ ∧ _ ∧ _ ∧ Below w7.heap.size w7 w' by assumption).2.2.2.2.2.2
      clear hS hS2 EQ K T2
      go_wp2
      go_ret
      exact ⟨rfl, HB7.out.trans (hE.mono HB7.out.size)⟩
end Go.Proofs.YtanfebccenfffafDoor

namespace Go.Proofs.YtanfebccenfffafDoor
open Go.ChangeShapes Go.WideShapes Go.ChangeAt Go.WideMaps Go.WideElems Go.RowKit

theorem fnExactCompareTexts_law (a0 : Option Addr) (len0 cap0 : Nat) (es0 : List Ent) (sh0 : Bool) (lv0 : Int) (s1 : ByteArray) (s2 : ByteArray) (w : World) (w0 : ArgEnts w a0 len0 cap0 es0) (w1 : s1.size ≤ maxLen) (w2 : s2.size ≤ maxLen) (t_marks : Held w 0 marksF) (t_cap : Held w 2 capF) (t_oth : Held w 3 othF) :
    Calls Tryd.prog 7 #[.agg #[.slice a0 len0 cap0, .bool sh0, .int .i64 lv0], .string s1, .string s2] w fun e w' => e = .returned (.bool true) ∧ Below w.heap.size w w' :=
  compareTexts_walk w a0 len0 cap0 es0 sh0 lv0 s1 s2 w1 w2 w0 fun _ _ _ hu hE hr h1 h2 => implCmp_any _ h1 _ h2 hE hr (Tabs3.below (w := w) ⟨t_marks, t_cap, t_oth⟩ hu)

theorem own_fnExactCompareTexts : ownKnob Tryd.prog.godebug = none := by kernel_rfl
theorem laidOut_fnExactCompareTexts : laidOutB Tryd.prog = true := by kernel_rfl

open Go.ChangeMaps (open_string shut_string) in
set_option linter.unusedVariables false in
set_option maxRecDepth 100000 in
theorem fnExactCompareTexts_contract (H : Type) (enc : TypeId × Value → H) (W : World) (base : Nat) (args : Array Value) (ds gs : List (DataW H)) (before : List MemPlace)
    (hval0 : ∀ (j : Nat) t v, Tryd.f7.params[j]? = some t → args[j]? = some v → Value.okWide Tryd.prog W .any base t v)
    (hW : DataW.Whole enc Tryd.prog Tryd.f7.params.toList Rows.fnExactCompareTextsSpec.vars false W args.toList ds gs before) (hL : laidMetH Tryd.prog Rows.fnExactCompareTextsRow.laid W) :
    Calls Tryd.prog 7 args W fun e W' => ∃ v, e = .returned v ∧ Rows.fnExactCompareTextsSpec.post enc Tryd.prog Tryd.f7 false true false false W args v W' := by
  have hval : ∀ (j : Nat) t v, Tryd.f7.params[j]? = some t → args[j]? = some v → Value.okWide Tryd.prog W .any base t v := hval0
  have hW' := hW
  obtain ⟨p, q, hA0, hV, rfl, hfz, hnd⟩ := hW
  have hA : DataW.TrodAll enc Tryd.prog W 0 (fun _ => true) true Tryd.f7.params.toList args.toList ds p := hA0
  rw [Tryd.params7] at hA hval
  obtain ⟨v0, vs0, d0, ds0, p0, q0, hargs, rfl, rfl, h0, r0⟩ := trodAll_cons hA
  obtain ⟨v1, vs1, d1, ds1, p1, q1, rfl, rfl, rfl, h1, r1⟩ := trodAll_cons r0
  obtain ⟨v2, vs2, d2, ds2, p2, q2, rfl, rfl, rfl, h2, r2⟩ := trodAll_cons r1
  obtain ⟨rfl, rfl, rfl⟩ := trodAll_nil r2
  obtain rfl : args = #[v0, v1, v2] := by cases args; simp_all
  obtain ⟨g1, g2, g3, rfl⟩ : ∃ g1 g2 g3, gs = [g1, g2, g3] := by
    have hg := trodVars_len hV
    match gs, hg with
    | [x1, x2, x3], _ => exact ⟨x1, x2, x3, rfl⟩
  have k0 := h0
  have lt0 : ∀ x ∈ p0, x.block < W.heap.size := by obtain ⟨m, hm⟩ := k0; exact DataW.trod_lt m _ _ _ hm
  obtain ⟨c0, e0, l0, y0, y0b, y0c, n0, hv0, _, _, f0, f0b, f0c⟩ := Joins.open_agg3 Tryd.underlying24 (by kernel_rfl) (by kernel_rfl) (hval 0 24 v0 rfl rfl) h0
  obtain ⟨a0, len0, cap0, hs0⟩ := Joins.slice_form Tryd.underlying22 f0
  obtain ⟨sh0, hb0, _⟩ := DataW.trod_bool Tryd.underlying4 f0b
  obtain ⟨lv0, hi0, _⟩ := DataW.trod_int Tryd.underlying3 f0c
  cases hs0
  cases hb0
  cases hi0
  subst hv0
  obtain ⟨es0, w0⟩ := open_entries f0
  obtain ⟨a1, rfl, rfl, rfl, w1⟩ := open_string Tryd.underlying9 (hval 1 9 v1 rfl rfl) h1
  obtain ⟨a2, rfl, rfl, rfl, w2⟩ := open_string Tryd.underlying9 (hval 2 9 v2 rfl rfl) h2
  have hL2 : laidMet Tryd.prog Rows.fnExactCompareTextsRow.laid W := hL
  have t_marks := marks_held hL2
  have t_cap := cap_held (laidMet.tail hL2)
  have t_oth := oth_held (laidMet.tail (laidMet.tail hL2))
  clear hA0 hval0
  refine (fnExactCompareTexts_law a0 len0 cap0 es0 sh0 lv0 a1 a2 W w0 w1 w2 t_marks t_cap t_oth).mono fun e W' ⟨he, bel⟩ => ?_
  subst he
  exact ⟨_, rfl, _, _, _, [], _, q, hW', trodAll_mk1 (shut_bool Tryd.underlying4 _), (trodAll_cons_mk (Below.trod laidOut_fnExactCompareTexts (by kernel_rfl) (of_decide_eq_true (by kernel_rfl)) k0 bel lt0) (trodAll_cons_mk (shut_string Tryd.underlying9 w1) (trodAll_cons_mk (shut_string Tryd.underlying9 w2) trodAll_mk0))), bel.trodVars laidOut_fnExactCompareTexts (by kernel_rfl) hV, bel.frame _, fun h => by cases h⟩

theorem fnExactCompareTexts_door (os : Os) (args : Array Value) : laidMetH Tryd.prog Rows.fnExactCompareTextsRow.laid ((World.doorLaid Tryd.prog 70 os).forCall (fun _ _ => 0) ⟨#[], args, []⟩).memory :=
  laidMetH_of_parts3 (fuel := 8) (laidMet_of_run' 8 (by kernel_rfl) (by kernel_rfl)) (by kernel_rfl) (by kernel_rfl)

set_option maxRecDepth 100000 in
theorem fnExactCompareTexts_lifted (os : Os) (started : os.Started) (H : Type) (enc : TypeId × Value → H) :
    ReturnsInHanded {} Tryd.checked os 7 .any (fun w args => (Rows.fnExactCompareTextsSpec.pre enc Tryd.prog Tryd.f7 [] false w args ∧ laidMetH Tryd.prog Rows.fnExactCompareTextsRow.laid w) ∧ sizedMet enc Tryd.prog Tryd.f7 (OpenSpec.ofChange Rows.fnExactCompareTextsSpec) false w args)
      (Rows.fnExactCompareTextsSpec.post enc Tryd.prog Tryd.f7 false true false false) := by
  refine returnsInHanded_of_change_and (C := Tryd.checked) (X := fun w _ => laidMetH Tryd.prog Rows.fnExactCompareTextsRow.laid w) (fun _ _ _ hh h => h.of_heap hh) own_fnExactCompareTexts started (by kernel_rfl) Tryd.func7
    (ChangeSpec.witness_shaped (enc := enc) (C := Tryd.checked) (os := os) (X := fun w _ => laidMetH Tryd.prog Rows.fnExactCompareTextsRow.laid w) false (World.doorLaid Tryd.prog 70 os) #[.agg #[.slice none 0 0, .bool false, .int .i64 0], .string ByteArray.empty, .string ByteArray.empty] 8 rfl (World.shaped_of_RefB (by kernel_rfl) (by kernel_rfl)) (by kernel_rfl) (by kernel_rfl) (by kernel_rfl) (fnExactCompareTexts_door os _)) ?_
  intro W base args ds gs before hval0 hW _ _ hL _
  exact fnExactCompareTexts_contract H enc W base args ds gs before hval0 hW hL

theorem fnExactCompareTexts_said : Rows.FnExactCompareTextsSaid :=
  OpenClaim.holds_of_wide 7 Tryd.f7 rfl rfl rfl rfl rfl rfl rfl ⟨rfl, rfl, rfl, rfl, rfl⟩ rfl rfl rfl rfl rfl (by kernel_rfl) Tryd.func7 (by kernel_rfl)
    (of_decide_eq_true (by kernel_rfl)) (by unfold Func.isWrapper; first | (rw [if_pos (by decide +kernel)]; kernel_rfl) | (rw [if_neg (by decide +kernel)]; exact ⟨rfl, rfl⟩))
    (fun os started H enc _ => fnExactCompareTexts_lifted os started H enc)

theorem fnExactCompareTexts_plain (f : FuncId) (fn : Func) (hf : Tryd.pinned.checked.prog.funcNamed "loop.example/g00158/laws.FnExactCompareTexts" = some f) (hfn : Tryd.pinned.checked.prog.funcs[f]? = some fn) :
    ∀ (j : Nat) t, fn.params[j]? = some t → Tryd.pinned.checked.prog.wantsStandIn t = false := by
  obtain rfl : f = 7 := Option.some.inj ((show Tryd.prog.funcNamed "loop.example/g00158/laws.FnExactCompareTexts" = some 7 by kernel_rfl).symm.trans hf) |>.symm
  obtain rfl : fn = Tryd.f7 := (Option.some.inj (Tryd.func7.symm.trans hfn)).symm
  intro j t ht
  rw [Tryd.params7] at ht
  have hm : t = 24 ∨ t = 9 := by simpa using Array.mem_of_getElem? ht
  rcases hm with rfl | rfl
  · exact (show Tryd.prog.wantsStandIn 24 = false by kernel_rfl)
  · exact (show Tryd.prog.wantsStandIn 9 = false by kernel_rfl)

theorem fnExactCompareTexts_card : Rows.FnExactCompareTextsCardSaid :=
  Claim7.holds_tied_plain_at .later [] _ _ _ _ fnExactCompareTexts_said (fun _ h => by cases h) (by kernel_rfl) (fun _ h => by cases h) fnExactCompareTexts_row_tie rfl ⟨rfl, rfl⟩ (by kernel_rfl) rfl (fun f fn hf hfn => ⟨by kernel_rfl, fnExactCompareTexts_plain f fn hf hfn⟩) (by kernel_rfl)
#print axioms fnExactCompareTexts_card
end Go.Proofs.YtanfebccenfffafDoor
