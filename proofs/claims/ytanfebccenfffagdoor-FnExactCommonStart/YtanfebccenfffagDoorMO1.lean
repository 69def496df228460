/- Proved: for every Rules r and any two strings a and b, impl.CommonStart answers as the specification's CommonStart and writes nothing into its arguments, so the law FnExactCommonStart returns true and leaves the input as it was; the tables are as the program's own text lays them (the tied card). -/
import Derived.Test.YtanfebccenfffagDoorMB5
import Derived.Test.YtanfebccenfffagDoorMB6
import Derived.Test.YtanfebccenfffagDoorMB8
import Derived.BigQuiet
import Derived.Test.YtanfebccenfffagDoorMB9
import Derived.Test.YtanfebccenfffagDoorMB10
import Derived.Test.YtanfebccenfffagDoorCards
import Derived.Test.YtanfebccenfffagDoorTie
import Derived.WalkKit
import Derived.ProofKit
import Derived.OpenShut
import Derived.LaidMore
import Derived.Stop.Joined
import Derived.ChangeOld
namespace Go.Proofs.YtanfebccenfffagDoor

def comT (es : List Ent) (sh : Bool) (lv : Int) (x y : ByteArray) : Int := if (okE es lv x && okE es lv y) = true then (alike (firsT es sh lv x) (firsT es sh lv y) : Int) else 0
end Go.Proofs.YtanfebccenfffagDoor

namespace Go.Proofs.YtanfebccenfffagDoor
open Go.RowKit

set_option maxRecDepth 100000 in
set_option maxHeartbeats 4000000 in
theorem implCom_any {w : World} {B : Nat} {ve : Value} {es : List Ent} {sh : Bool} {lv : Int} (x : ByteArray) (hx : x.size ≤ 1048576) (y : ByteArray) (hy : y.size ≤ 1048576) (hE : Ents w B ve es) (hr : ∀ e ∈ es, e.runes.length ≤ 1048576) (ht : Tabs3 w) :
    Calls Tryd.prog 17 #[.agg #[ve, .bool sh, .int .i64 lv], .string x, .string y] w fun e w' => e = .returned (.tuple #[.int .i64 (comT es sh lv x y), .bool (okE es lv x && okE es lv y)]) ∧ Below w.heap.size w w' := by
  obtain ⟨va, vc, rfl⟩ := (show ∃ a c, ve = .slice a es.length c by
    rcases hE.form with ⟨rfl, rfl⟩ | ⟨_, _, rfl, _, _, _, _⟩
    · exact ⟨_, _, rfl⟩
    · exact ⟨_, _, rfl⟩)
  have hbx : Below w.heap.size w (w.alloc (.cells #[.slice va es.length vc, .bool sh, .int .i64 lv] 30)) := (Below.refl _ _).alloc (Nat.le_refl _) _
  have hbox : BoxR4 (w.alloc (.cells #[.slice va es.length vc, .bool sh, .int .i64 lv] 30)) w.heap.size (.slice va es.length vc) sh lv := heap_alloc_new w _
  have hlb : w.heap.size < (w.alloc (.cells #[.slice va es.length vc, .bool sh, .int .i64 lv] 30)).heap.size := by simp
  have KX := implFirsts_any (sh := sh) (lv := lv) x hx (hE.below hbx) hr (ht.below hbx)
  have KY := fun (u : World) (hu : Below w.heap.size w u) => implFirsts_any (sh := sh) (lv := lv) y hy (hE.below hu) hr (ht.below hu)
  have HBX : Hid (Below _ _ _) := hbx
  have HBO : Hid (BoxR4 _ _ _ _ _) := hbox
  have hfa := firsT_len es sh lv x
  have hfb := firsT_len es sh lv y
  have hra := firsT_rng es sh lv x
  have hrb := firsT_rng es sh lv y
  unfold comT
  generalize firsT es sh lv x = fa at *
  generalize firsT es sh lv y = fb at *
  generalize okE es lv x = oa at *
  generalize okE es lv y = ob at *
  clear hE hr hbx hbox ht
  cases oa
  · rw [Bool.false_and, if_neg (by simp)]
    all_goals
      go_enter Tryd.func17, Tryd.ntmps17
      go_wp2_with fail
      refine KX.mono ?_
      rintro e w1 ⟨v1, rfl, i1, b1⟩
      have hb1 := HBX.out.trans (b1.mono HBX.out.size)
      have K2 := KY _ hb1
      obtain ⟨c0, c1, c2⟩ := (HBO.out.below b1 hlb).cells
      have H1 : Hid (Ints _ _ _ _) := i1
      obtain ⟨a1, k1, rfl⟩ := ints_form i1
      clear KX KY b1 i1
      go_wp2_with fail
      refine K2.mono ?_
      rintro e w2 ⟨v2, rfl, i2, b2⟩
      have hb2 := hb1.trans (b2.mono hb1.size)
      have j1 := H1.out.below b2
      obtain ⟨a2, k2, rfl⟩ := ints_form i2
      clear K2 c0 c1 c2 b2 hb1 H1
      clear i2 j1
      go_wp2
      go_ret2
      exact ⟨rfl, hb2⟩
  · cases ob
    · rw [Bool.and_false, if_neg (by simp)]
      go_enter Tryd.func17, Tryd.ntmps17
      go_wp2_with fail
      refine KX.mono ?_
      rintro e w1 ⟨v1, rfl, i1, b1⟩
      have hb1 := HBX.out.trans (b1.mono HBX.out.size)
      have K2 := KY _ hb1
      obtain ⟨c0, c1, c2⟩ := (HBO.out.below b1 hlb).cells
      have H1 : Hid (Ints _ _ _ _) := i1
      obtain ⟨a1, k1, rfl⟩ := ints_form i1
      clear KX KY b1 i1
      go_wp2_with fail
      refine K2.mono ?_
      rintro e w2 ⟨v2, rfl, i2, b2⟩
      have hb2 := hb1.trans (b2.mono hb1.size)
      have j1 := H1.out.below b2
      obtain ⟨a2, k2, rfl⟩ := ints_form i2
      clear K2 c0 c1 c2 b2 hb1 H1
      clear i2 j1
      go_wp2
      go_ret2
      exact ⟨rfl, hb2⟩
    · rw [Bool.and_true, if_pos rfl]
      go_enter Tryd.func17, Tryd.ntmps17
      go_wp2_with fail
      refine KX.mono ?_
      rintro e w1 ⟨v1, rfl, i1, b1⟩
      have hb1 := HBX.out.trans (b1.mono HBX.out.size)
      have K2 := KY _ hb1
      obtain ⟨c0, c1, c2⟩ := (HBO.out.below b1 hlb).cells
      have H1 : Hid (Ints _ _ _ _) := i1
      obtain ⟨a1, k1, rfl⟩ := ints_form i1
      clear KX KY b1 i1
      go_wp2_with fail
      refine K2.mono ?_
      rintro e w2 ⟨v2, rfl, i2, b2⟩
      have hb2 := hb1.trans (b2.mono hb1.size)
      have j1 := H1.out.below b2
      obtain ⟨a2, k2, rfl⟩ := ints_form i2
      clear K2 c0 c1 c2 b2 hb1 H1
      have AL := alike_any (by omega) (by omega) hra hrb j1 i2
      clear i2 j1
      go_wp2_with fail
      refine AL.mono ?_
      rintro e w3 ⟨rfl, n3, hw3⟩
      have hb3 : Below w.heap.size w w3 := by rw [hw3]; exact below_drewN hb2 n3
      clear AL hw3
      go_wp2
      go_ret2
      exact ⟨rfl, hb3⟩
end Go.Proofs.YtanfebccenfffagDoor

namespace Go.Proofs.YtanfebccenfffagDoor
open Go.RowKit

theorem ints_sliceC {w : World} {B : Nat} {v : Value} {l : List Int} (h : Ints w B v l) :
    ∃ a c, v = .slice a l.length c ∧ ∀ (k : Nat) (x : Int), l[k]? = some x → ∃ g, a = some ⟨g, 0, none⟩ ∧ w.cell? ⟨g, k, none⟩ = some (.int .i64 x) := by
  rcases h.form with ⟨rfl, rfl⟩ | ⟨g, cap, rfl, _, _⟩
  · exact ⟨_, _, rfl, fun k x hx => by simp at hx⟩
  · refine ⟨_, _, rfl, fun k x hx => ⟨g, rfl, ?_⟩⟩
    have := h.cell k (List.getElem?_eq_some_iff.1 hx).1
    rw [hx] at this
    exact this

def ComRel (a b : List Int) (i : Value) : Prop := ∃ k : Nat, k ≤ a.length ∧ k ≤ b.length ∧ i = .int .i64 k ∧ ∀ j, j < k → a[j]? = b[j]?

set_option maxRecDepth 100000 in
set_option maxHeartbeats 4000000 in
theorem specCom_any {w : World} {B : Nat} {ve : Value} {es : List Ent} {sh : Bool} {lv : Int} (x : ByteArray) (hx : x.size ≤ 1048576) (y : ByteArray) (hy : y.size ≤ 1048576) (hE : Ents w B ve es) (hr : ∀ e ∈ es, e.runes.length ≤ 1048576) :
    Calls Tryd.prog 16 #[.agg #[ve, .bool sh, .int .i64 lv], .string x, .string y] w fun e w' => e = .returned (.tuple #[.int .i64 (comT es sh lv x y), .bool (okE es lv x && okE es lv y)]) ∧ Below w.heap.size w w' := by
  obtain ⟨va, vc, rfl⟩ := ents_slice hE
  have hbx : Below w.heap.size w (w.alloc (.cells #[.slice va es.length vc, .bool sh, .int .i64 lv] 30)) := (Below.refl _ _).alloc (Nat.le_refl _) _
  have hbox : BoxS (w.alloc (.cells #[.slice va es.length vc, .bool sh, .int .i64 lv] 30)) w.heap.size (.slice va es.length vc) sh lv := heap_alloc_new w _
  have hlb : w.heap.size < (w.alloc (.cells #[.slice va es.length vc, .bool sh, .int .i64 lv] 30)).heap.size := by simp
  have KX := specFirsts_any (sh := sh) (lv := lv) x hx (hE.below hbx) hr
  have KY := fun (u : World) (hu : Below w.heap.size w u) => specFirsts_any (sh := sh) (lv := lv) y hy (hE.below hu) hr
  have HBX : Hid (Below _ _ _) := hbx
  have HBO : Hid (BoxS _ _ _ _ _) := hbox
  have hfa := firsT_len es sh lv x
  have hfb := firsT_len es sh lv y
  have hra := firsT_rng es sh lv x
  have hrb := firsT_rng es sh lv y
  unfold comT
  generalize firsT es sh lv x = fa at *
  generalize firsT es sh lv y = fb at *
  generalize okE es lv x = oa at *
  generalize okE es lv y = ob at *
  clear hE hr hbx hbox
  cases oa
  · rw [Bool.false_and, if_neg (by simp)]
    all_goals
      go_enter Tryd.func16, Tryd.ntmps16
      go_wp2_with fail
      refine KX.mono ?_
      rintro e w1 ⟨v1, rfl, i1, b1⟩
      have hb1 := HBX.out.trans (b1.mono HBX.out.size)
      have K2 := KY _ hb1
      obtain ⟨c0, c1, c2⟩ := (HBO.out.below b1 hlb).cells
      have H1 : Hid (Ints _ _ _ _) := i1
      obtain ⟨a1, k1, rfl⟩ := lenS_form i1
      clear KX KY b1 i1
      go_wp2_with fail
      refine K2.mono ?_
      rintro e w2 ⟨v2, rfl, i2, b2⟩
      have hb2 := hb1.trans (b2.mono hb1.size)
      have j1 := H1.out.below b2
      obtain ⟨a2, k2, rfl⟩ := lenS_form i2
      clear K2 c0 c1 c2 b2 hb1 H1
      clear i2 j1
      go_wp2
      go_ret2
      exact ⟨rfl, hb2⟩
  · cases ob
    · rw [Bool.and_false, if_neg (by simp)]
      go_enter Tryd.func16, Tryd.ntmps16
      go_wp2_with fail
      refine KX.mono ?_
      rintro e w1 ⟨v1, rfl, i1, b1⟩
      have hb1 := HBX.out.trans (b1.mono HBX.out.size)
      have K2 := KY _ hb1
      obtain ⟨c0, c1, c2⟩ := (HBO.out.below b1 hlb).cells
      have H1 : Hid (Ints _ _ _ _) := i1
      obtain ⟨a1, k1, rfl⟩ := lenS_form i1
      clear KX KY b1 i1
      go_wp2_with fail
      refine K2.mono ?_
      rintro e w2 ⟨v2, rfl, i2, b2⟩
      have hb2 := hb1.trans (b2.mono hb1.size)
      have j1 := H1.out.below b2
      obtain ⟨a2, k2, rfl⟩ := lenS_form i2
      clear K2 c0 c1 c2 b2 hb1 H1
      clear i2 j1
      go_wp2
      go_ret2
      exact ⟨rfl, hb2⟩
    · rw [Bool.and_true, if_pos rfl]
      go_enter Tryd.func16, Tryd.ntmps16
      go_wp2_with fail
      refine KX.mono ?_
      rintro e w1 ⟨v1, rfl, i1, b1⟩
      have hb1 := HBX.out.trans (b1.mono HBX.out.size)
      have K2 := KY _ hb1
      obtain ⟨c0, c1, c2⟩ := (HBO.out.below b1 hlb).cells
      have H1 : Hid (Ints _ _ _ _) := i1
      clear KX KY b1 i1
      go_wp2_with fail
      refine K2.mono ?_
      rintro e w2 ⟨v2, rfl, i2, b2⟩
      have hb2 := hb1.trans (b2.mono hb1.size)
      have j1 := H1.out.below b2
      clear K2 c0 c1 c2 b2 hb1 H1
      obtain ⟨a1, k1, hv1, q1⟩ := ints_sliceC j1
      obtain ⟨a2, k2, hv2, q2⟩ := ints_sliceC i2
      subst hv1
      subst hv2
      have Q1 : Hid (∀ (k : Nat) (x : Int), fa[k]? = some x → ∃ g, a1 = some ⟨g, 0, none⟩ ∧ w2.cell? ⟨g, k, none⟩ = some (.int .i64 x)) := q1
      have Q2 : Hid (∀ (k : Nat) (x : Int), fb[k]? = some x → ∃ g, a2 = some ⟨g, 0, none⟩ ∧ w2.cell? ⟨g, k, none⟩ = some (.int .i64 x)) := q2
      clear i2 j1 q1 q2
      go_wp2_with fail
      go_loopw [12] (fun i wr => ComRel fa fb i ∧ ∃ n, wr = w2.drewN n) (fun i _ => fa.length - (intOf i).toNat)
      case atStart => exact ⟨⟨0, Nat.zero_le _, Nat.zero_le _, rfl, fun j hj => by omega⟩, 0, rfl⟩
      case round =>
        obtain ⟨⟨k, hka, hkb, rfl, hsame⟩, n0, rfl⟩ := hrel
        have HS : Hid (∀ j, j < k → fa[j]? = fb[j]?) := hsame
        clear hsame
        by_cases hla : k < fa.length
        · by_cases hlb2 : k < fb.length
          · obtain ⟨p, hp⟩ : ∃ p, fa[k]? = some p := ⟨_, List.getElem?_eq_getElem hla⟩
            obtain ⟨q, hq⟩ : ∃ q, fb[k]? = some q := ⟨_, List.getElem?_eq_getElem hlb2⟩
            obtain ⟨g1, rfl, d1⟩ := Q1.out k p hp
            obtain ⟨g2, rfl, d2⟩ := Q2.out k q hq
            have hla8 : (k : Int) < (fa.length : Int) := by omega
            have hlb8 : (k : Int) < (fb.length : Int) := by omega
            have hda : decide ((k : Int) < (fa.length : Int)) = true := decide_eq_true hla8
            have hdb : decide ((k : Int) < (fb.length : Int)) = true := decide_eq_true hlb8
            have HX : Hid (fa[k]? = some p ∧ fb[k]? = some q) := ⟨hp, hq⟩
            clear hp hq
            by_cases hpq : p = q
            · have HS2 : Hid (∀ j, j < k + 1 → fa[j]? = fb[j]?) := fun j hj => by
                by_cases c : j = k
                · subst c; rw [HX.out.1, HX.out.2, hpq]
                · exact HS.out j (by omega)
              subst hpq
              clear HX HS
              go_wp2_with fail
              go_quiet (fail)
              go_wp2
              exact ⟨⟨⟨k + 1, by omega, by omega, by go_num, HS2.out⟩, _, rfl⟩, by simp [intOf]; omega⟩
            · have HF : Hid (alike fa fb = k) := alike_at fa fb k p q HS.out HX.out.1 HX.out.2 hpq
              have hne : (p == q) = false := by simpa using hpq
              clear HX HS hpq
              go_wp2_with fail
              go_quiet (fail)
              go_wp2
              go_ret2
              rw [HF.out]
              exact ⟨rfl, below_drewN (below_drewN hb2 _) _⟩
          · obtain rfl : k = fb.length := by omega
            have HF : Hid (alike fa fb = fb.length) := by
              show _ = _
              have := alike_all fa fb (fun j hj => HS.out j (by omega))
              omega
            have hla8 : (fb.length : Int) < (fa.length : Int) := by omega
            have hda : decide ((fb.length : Int) < (fa.length : Int)) = true := decide_eq_true hla8
            clear HS Q1 Q2
            go_wp2_with fail
            go_quiet (fail)
            go_wp2
            go_ret2
            rw [HF.out]
            exact ⟨rfl, below_drewN (below_drewN hb2 _) _⟩
        · obtain rfl : k = fa.length := by omega
          have HF : Hid (alike fa fb = fa.length) := by
            show _ = _
            have := alike_all fa fb (fun j hj => HS.out j (by omega))
            omega
          clear HS Q1 Q2
          go_wp2_with fail
          go_quiet (fail)
          go_wp2
          go_ret2
          rw [HF.out]
          exact ⟨rfl, below_drewN (below_drewN hb2 _) _⟩
end Go.Proofs.YtanfebccenfffagDoor

namespace Go.Proofs.YtanfebccenfffagDoor
open Go.RowKit

set_option maxRecDepth 100000 in
set_option maxHeartbeats 4000000 in
theorem commonStart_walk (w : World) (a : Option Addr) (len cap : Nat) (es : List Ent) (sh : Bool) (lv : Int) (s t : ByteArray) (hs : s.size ≤ maxLen) (ht : t.size ≤ maxLen) (hA : ArgEnts w a len cap es)
    (I : ∀ (u : World) (B : Nat) (v : Value), Below w.heap.size w u → Ents u B v es → (∀ e ∈ es, e.runes.length ≤ 1048576) → s.size ≤ 1048576 → t.size ≤ 1048576 → Calls Tryd.prog 17 #[.agg #[v, .bool sh, .int .i64 lv], .string s, .string t] u fun e w' => e = .returned (.tuple #[.int .i64 (comT es sh lv s t), .bool (okE es lv s && okE es lv t)]) ∧ Below u.heap.size u w') :
    Calls Tryd.prog 5 #[.agg #[.slice a len cap, .bool sh, .int .i64 lv], .string s, .string t] w fun e w' => e = .returned (.bool true) ∧ Below w.heap.size w w' := by
  unfold maxLen at hs
  unfold maxLen at ht
  have hb1 := (Below.refl w.heap.size w).alloc (Nat.le_refl _) (.cells #[.slice a len cap, .bool sh, .int .i64 lv] 24)
  have hx1 : Blk (w.alloc (.cells #[.slice a len cap, .bool sh, .int .i64 lv] 24)) w.heap.size #[.slice a len cap, .bool sh, .int .i64 lv] 24 := heap_alloc_new _ _
  have S := szRules_any w _ a len cap es sh lv 1048576 (by omega) (by omega) hA hb1
  have HA : Hid (ArgEnts w a len cap es) := hA
  have HI : Hid _ := I
  have HB1 : Hid (Below _ _ _) := hb1
  have HX1 : Hid (Blk _ _ _ _) := hx1
  clear hA I hb1 hx1
  by_cases hls : 1048576 < s.size
  · have hl2s : (1048576 : Int) < (s.size : Int) := by omega
    clear S
    go_enter Tryd.func5, Tryd.ntmps5
    go_wp2
    go_ret
    exact ⟨rfl, HB1.out⟩
  have hl2s : ¬ (1048576 : Int) < (s.size : Int) := by omega
  by_cases hlt : 1048576 < t.size
  · have hl2t : (1048576 : Int) < (t.size : Int) := by omega
    clear S
    go_enter Tryd.func5, Tryd.ntmps5
    go_wp2
    go_ret
    exact ⟨rfl, HB1.out⟩
  have hl2t : ¬ (1048576 : Int) < (t.size : Int) := by omega
  by_cases hneg : szA es 1048576 < 0
  · generalize szA es 1048576 = sz at *
    go_enter Tryd.func5, Tryd.ntmps5
    go_wp2_with fail
    refine S.mono ?_
    rintro e w2 ⟨rfl, b2⟩
    clear S
    go_wp2
    go_ret
    exact ⟨rfl, HB1.out.trans (b2.mono HB1.out.size)⟩
  · have hbd := szA_bd (es := es) (left := 1048576) (by omega)
    have hle : len ≤ 1048576 := by have := HA.out.1; omega
    have HR : Hid (∀ e ∈ es, e.runes.length ≤ 1048576) := fun e he => by have := hbd.2 e he; omega
    have hel : es.length ≤ 1048576 := by omega
    clear hbd
    generalize szA es 1048576 = sz at *
    have T := fun (u : World) (hu : Below w.heap.size w u) => toRules_any w u a len cap es sh lv HA.out hu hle HR.out
    have A0 := fun (u : World) (B : Nat) (v : Value) (h : Ents u B v es) => specCom_any (sh := sh) (lv := lv) s (by omega) t (by omega) h HR.out
    have I0 := fun (u : World) (B : Nat) (v : Value) (hu : Below w.heap.size w u) (h : Ents u B v es) => HI.out u B v hu h HR.out (by omega) (by omega)
    obtain ⟨ky, HKY⟩ : ∃ ky, Hid (comT es sh lv s t = ky) := ⟨_, rfl⟩
    obtain ⟨ok, HOK⟩ : ∃ ok, Hid ((okE es lv s && okE es lv t) = ok) := ⟨_, rfl⟩
    rw [HKY.out, HOK.out] at A0 I0
    have HA0 : Hid _ := A0
    have HI0 : Hid _ := I0
    clear A0 I0 HI HKY HOK
    go_enter Tryd.func5, Tryd.ntmps5
    go_wp2_with fail
    refine S.mono ?_
    rintro e w2 ⟨rfl, b2⟩
    clear S
    have HX2 : Hid (Blk _ _ _ _) := HX1.out.below b2
    have HB2 : Hid (Below _ _ _) := HB1.out.trans (b2.mono HB1.out.size)
    obtain ⟨p0, p1, p2⟩ := HX2.out.three
    clear HX1 HB1 b2
    go_wp2_with fail
    refine (T _ HB2.out).mono ?_
    rintro e w3 ⟨g3, rfl, i3, b3⟩
    have HX3 : Hid (Blk _ _ _ _) := HX2.out.below b3
    have HB3 : Hid (Below _ _ _) := HB2.out.trans (b3.mono HB2.out.size)
    have A := HA0.out _ _ _ i3
    clear p0 p1 p2 HX2 HB2 b3 i3 HA0
    go_wp2_with fail
    refine A.mono ?_
    rintro e w4 ⟨rfl, b4⟩
    have HX4 : Hid (Blk _ _ _ _) := HX3.out.below b4
    have HB4 : Hid (Below _ _ _) := HB3.out.trans (b4.mono HB3.out.size)
    obtain ⟨p0, p1, p2⟩ := HX4.out.three
    clear A HX3 HB3 b4
    go_wp2_with fail
    refine (T _ HB4.out).mono ?_
    rintro e w5 ⟨g5, rfl, i5, b5⟩
    have b56 := (Below.refl w5.heap.size w5).alloc (Nat.le_refl _) (.cells #[.slice (some ⟨g5, 0, none⟩) len len, .bool sh, .int .i64 lv] 30)
    have HX6 : Hid (Blk _ _ _ _) := (HX4.out.below b5).below b56
    have HY6 : Hid (Blk (w5.alloc (.cells #[.slice (some ⟨g5, 0, none⟩) len len, .bool sh, .int .i64 lv] 30)) w5.heap.size #[.slice (some ⟨g5, 0, none⟩) len len, .bool sh, .int .i64 lv] 30) := heap_alloc_new _ _
    have HB5 := HB4.out.trans (b5.mono HB4.out.size)
    have HB6 : Hid (Below _ _ _) := HB5.trans (b56.mono HB5.size)
    have I6 : Hid (Ents _ _ _ _) := i5.below b56
    have G := HI0.out _ _ _ HB6.out I6.out
    clear p0 p1 p2 HX4 HB4 b5 b56 i5 HB5 HI0
    go_wp2_with fail
    refine G.mono ?_
    rintro e w7 ⟨rfl, b7⟩
    have hx7 := HX6.out.below b7
    have hy7 := HY6.out.below b7
    have HB7 : Hid (Below _ _ _) := HB6.out.trans (b7.mono HB6.out.size)
    have I7 : Hid (Ents _ _ _ _) := I6.out.below b7
    obtain ⟨p0, p1, p2⟩ := hx7.three
    obtain ⟨q0, q1, q2⟩ := hy7.three
    have hgx := hx7.lt
    have hgy := hy7.lt
    have hS : w7.cell? ⟨w.heap.size, 0, none⟩ = some (.slice a len cap) ∧ w7.cell? ⟨w.heap.size, 1, none⟩ = some (.bool sh) ∧ w7.cell? ⟨w.heap.size, 2, none⟩ = some (.int .i64 lv) ∧ w7.cell? ⟨w5.heap.size, 0, none⟩ = some (.slice (some ⟨g5, 0, none⟩) len len) ∧ w7.cell? ⟨w5.heap.size, 1, none⟩ = some (.bool sh) ∧ w7.cell? ⟨w5.heap.size, 2, none⟩ = some (.int .i64 lv) ∧ Below w7.heap.size w7 w7 := ⟨p0, p1, p2, q0, q1, q2, Below.refl _ _⟩
    have hS2 := keep6 hgx hgy ((Below.refl w7.heap.size w7).drew) hS
    have K := fun (u1 u2 : World) (hb : Below u1.heap.size u1 u2) (hu : u1.cell? ⟨w.heap.size, 0, none⟩ = some (.slice a len cap) ∧ u1.cell? ⟨w.heap.size, 1, none⟩ = some (.bool sh) ∧ u1.cell? ⟨w.heap.size, 2, none⟩ = some (.int .i64 lv) ∧ u1.cell? ⟨w5.heap.size, 0, none⟩ = some (.slice (some ⟨g5, 0, none⟩) len len) ∧ u1.cell? ⟨w5.heap.size, 1, none⟩ = some (.bool sh) ∧ u1.cell? ⟨w5.heap.size, 2, none⟩ = some (.int .i64 lv) ∧ Below w7.heap.size w7 u1) => keep6 hgx hgy hb hu
    have T2 := fun (u : World) (hu : u.cell? ⟨w.heap.size, 0, none⟩ = some (.slice a len cap) ∧ u.cell? ⟨w.heap.size, 1, none⟩ = some (.bool sh) ∧ u.cell? ⟨w.heap.size, 2, none⟩ = some (.int .i64 lv) ∧ u.cell? ⟨w5.heap.size, 0, none⟩ = some (.slice (some ⟨g5, 0, none⟩) len len) ∧ u.cell? ⟨w5.heap.size, 1, none⟩ = some (.bool sh) ∧ u.cell? ⟨w5.heap.size, 2, none⟩ = some (.int .i64 lv) ∧ Below w7.heap.size w7 u) => T u (HB7.out.trans (hu.2.2.2.2.2.2.mono HB7.out.size))
    have EQ := fun (u : World) (B : Nat) (g : Nat) (hu : u.cell? ⟨w.heap.size, 0, none⟩ = some (.slice a len cap) ∧ u.cell? ⟨w.heap.size, 1, none⟩ = some (.bool sh) ∧ u.cell? ⟨w.heap.size, 2, none⟩ = some (.int .i64 lv) ∧ u.cell? ⟨w5.heap.size, 0, none⟩ = some (.slice (some ⟨g5, 0, none⟩) len len) ∧ u.cell? ⟨w5.heap.size, 1, none⟩ = some (.bool sh) ∧ u.cell? ⟨w5.heap.size, 2, none⟩ = some (.int .i64 lv) ∧ Below w7.heap.size w7 u) (he : Ents u B (.slice (some ⟨g, 0, none⟩) len len) es) => eqRules_same sh lv hel (I7.out.below hu.2.2.2.2.2.2) he
    clear G HX6 HY6 HB6 I6 b7 hx7 hy7 T p0 p1 p2 q0 q1 q2
    go_wp2_with fail
    go_region_held (fun u => u.cell? ⟨w.heap.size, 0, none⟩ = some (.slice a len cap) ∧ u.cell? ⟨w.heap.size, 1, none⟩ = some (.bool sh) ∧ u.cell? ⟨w.heap.size, 2, none⟩ = some (.int .i64 lv) ∧ u.cell? ⟨w5.heap.size, 0, none⟩ = some (.slice (some ⟨g5, 0, none⟩) len len) ∧ u.cell? ⟨w5.heap.size, 1, none⟩ = some (.bool sh) ∧ u.cell? ⟨w5.heap.size, 2, none⟩ = some (.int .i64 lv) ∧ Below w7.heap.size w7 u)
      (first | exact hS2 | exact K _ _ (by assumption) (by assumption))
      (first | (go_at_call 8; refine (T2 _ (by assumption)).mono ?_; rintro e w' ⟨g, rfl, hEn, hbw⟩) | (go_at_call 10; refine (EQ _ _ _ (by assumption) (by assumption)).mono ?_; rintro e w' ⟨rfl, hbw⟩))
    all_goals
      have hE := (show w'.cell? ⟨w.heap.size, 0, none⟩ = _ ∧ _ ∧ _ ∧ _ ∧ _ ∧ _ ∧ Below w7.heap.size w7 w' by assumption).2.2.2.2.2.2
      clear hS hS2 EQ K T2
      go_wp2
      go_ret
      exact ⟨rfl, HB7.out.trans (hE.mono HB7.out.size)⟩
end Go.Proofs.YtanfebccenfffagDoor

namespace Go.Proofs.YtanfebccenfffagDoor
open Go.ChangeShapes Go.WideShapes Go.ChangeAt Go.WideMaps Go.WideElems Go.RowKit

theorem fnExactCommonStart_law (a0 : Option Addr) (len0 cap0 : Nat) (es0 : List Ent) (sh0 : Bool) (lv0 : Int) (s1 : ByteArray) (s2 : ByteArray) (w : World) (w0 : ArgEnts w a0 len0 cap0 es0) (w1 : s1.size ≤ maxLen) (w2 : s2.size ≤ maxLen) (t_marks : Held w 0 marksF) (t_cap : Held w 1 capF) (t_oth : Held w 2 othF) :
    Calls Tryd.prog 5 #[.agg #[.slice a0 len0 cap0, .bool sh0, .int .i64 lv0], .string s1, .string s2] w fun e w' => e = .returned (.bool true) ∧ Below w.heap.size w w' :=
  commonStart_walk w a0 len0 cap0 es0 sh0 lv0 s1 s2 w1 w2 w0 fun _ _ _ hu hE hr h1 h2 => implCom_any _ h1 _ h2 hE hr (Tabs3.below (w := w) ⟨t_marks, t_cap, t_oth⟩ hu)

theorem own_fnExactCommonStart : ownKnob Tryd.prog.godebug = none := by kernel_rfl
theorem laidOut_fnExactCommonStart : laidOutB Tryd.prog = true := by kernel_rfl

open Go.ChangeMaps (open_string shut_string) in
set_option linter.unusedVariables false in
set_option maxRecDepth 100000 in
theorem fnExactCommonStart_contract (H : Type) (enc : TypeId × Value → H) (W : World) (base : Nat) (args : Array Value) (ds gs : List (DataW H)) (before : List MemPlace)
    (hval0 : ∀ (j : Nat) t v, Tryd.f5.params[j]? = some t → args[j]? = some v → Value.okWide Tryd.prog W .any base t v)
    (hW : DataW.Whole enc Tryd.prog Tryd.f5.params.toList Rows.fnExactCommonStartSpec.vars false W args.toList ds gs before) (hL : laidMetH Tryd.prog Rows.fnExactCommonStartRow.laid W) :
    Calls Tryd.prog 5 args W fun e W' => ∃ v, e = .returned v ∧ Rows.fnExactCommonStartSpec.post enc Tryd.prog Tryd.f5 false true false false W args v W' := by
  have hval : ∀ (j : Nat) t v, Tryd.f5.params[j]? = some t → args[j]? = some v → Value.okWide Tryd.prog W .any base t v := hval0
  have hW' := hW
  obtain ⟨p, q, hA0, hV, rfl, hfz, hnd⟩ := hW
  have hA : DataW.TrodAll enc Tryd.prog W 0 (fun _ => true) true Tryd.f5.params.toList args.toList ds p := hA0
  rw [Tryd.params5] at hA hval
  obtain ⟨v0, vs0, d0, ds0, p0, q0, hargs, rfl, rfl, h0, r0⟩ := trodAll_cons hA
  obtain ⟨v1, vs1, d1, ds1, p1, q1, rfl, rfl, rfl, h1, r1⟩ := trodAll_cons r0
  obtain ⟨v2, vs2, d2, ds2, p2, q2, rfl, rfl, rfl, h2, r2⟩ := trodAll_cons r1
  obtain ⟨rfl, rfl, rfl⟩ := trodAll_nil r2
  obtain rfl : args = #[v0, v1, v2] := by cases args; simp_all
  obtain ⟨g1, g2, g3, rfl⟩ : ∃ g1 g2 g3, gs = [g1, g2, g3] := by
    have hg := trodVars_len hV
    match gs, hg with
    | [x1, x2, x3], _ => exact ⟨x1, x2, x3, rfl⟩
  have k0 := h0
  have lt0 : ∀ x ∈ p0, x.block < W.heap.size := by obtain ⟨m, hm⟩ := k0; exact DataW.trod_lt m _ _ _ hm
  obtain ⟨c0, e0, l0, y0, y0b, y0c, n0, hv0, _, _, f0, f0b, f0c⟩ := Joins.open_agg3 Tryd.underlying24 (by kernel_rfl) (by kernel_rfl) (hval 0 24 v0 rfl rfl) h0
  obtain ⟨a0, len0, cap0, hs0⟩ := Joins.slice_form Tryd.underlying22 f0
  obtain ⟨sh0, hb0, _⟩ := DataW.trod_bool Tryd.underlying4 f0b
  obtain ⟨lv0, hi0, _⟩ := DataW.trod_int Tryd.underlying3 f0c
  cases hs0
  cases hb0
  cases hi0
  subst hv0
  obtain ⟨es0, w0⟩ := open_entries f0
  obtain ⟨a1, rfl, rfl, rfl, w1⟩ := open_string Tryd.underlying9 (hval 1 9 v1 rfl rfl) h1
  obtain ⟨a2, rfl, rfl, rfl, w2⟩ := open_string Tryd.underlying9 (hval 2 9 v2 rfl rfl) h2
  have hL2 : laidMet Tryd.prog Rows.fnExactCommonStartRow.laid W := hL
  have t_marks := marks_held hL2
  have t_cap := cap_held (laidMet.tail hL2)
  have t_oth := oth_held (laidMet.tail (laidMet.tail hL2))
  clear hA0 hval0
  refine (fnExactCommonStart_law a0 len0 cap0 es0 sh0 lv0 a1 a2 W w0 w1 w2 t_marks t_cap t_oth).mono fun e W' ⟨he, bel⟩ => ?_
  subst he
  exact ⟨_, rfl, _, _, _, [], _, q, hW', trodAll_mk1 (shut_bool Tryd.underlying4 _), (trodAll_cons_mk (Below.trod laidOut_fnExactCommonStart (by kernel_rfl) (of_decide_eq_true (by kernel_rfl)) k0 bel lt0) (trodAll_cons_mk (shut_string Tryd.underlying9 w1) (trodAll_cons_mk (shut_string Tryd.underlying9 w2) trodAll_mk0))), bel.trodVars laidOut_fnExactCommonStart (by kernel_rfl) hV, bel.frame _, fun h => by cases h⟩

theorem fnExactCommonStart_door (os : Os) (args : Array Value) : laidMetH Tryd.prog Rows.fnExactCommonStartRow.laid ((World.doorLaid Tryd.prog 70 os).forCall (fun _ _ => 0) ⟨#[], args, []⟩).memory :=
  laidMetH_of_parts3 (fuel := 8) (laidMet_of_run' 8 (by kernel_rfl) (by kernel_rfl)) (by kernel_rfl) (by kernel_rfl)

set_option maxRecDepth 100000 in
theorem fnExactCommonStart_lifted (os : Os) (started : os.Started) (H : Type) (enc : TypeId × Value → H) :
    ReturnsInHanded {} Tryd.checked os 5 .any (fun w args => (Rows.fnExactCommonStartSpec.pre enc Tryd.prog Tryd.f5 [] false w args ∧ laidMetH Tryd.prog Rows.fnExactCommonStartRow.laid w) ∧ sizedMet enc Tryd.prog Tryd.f5 (OpenSpec.ofChange Rows.fnExactCommonStartSpec) false w args)
      (Rows.fnExactCommonStartSpec.post enc Tryd.prog Tryd.f5 false true false false) := by
  refine returnsInHanded_of_change_and (C := Tryd.checked) (X := fun w _ => laidMetH Tryd.prog Rows.fnExactCommonStartRow.laid w) (fun _ _ _ hh h => h.of_heap hh) own_fnExactCommonStart started (by kernel_rfl) Tryd.func5
    (ChangeSpec.witness_shaped (enc := enc) (C := Tryd.checked) (os := os) (X := fun w _ => laidMetH Tryd.prog Rows.fnExactCommonStartRow.laid w) false (World.doorLaid Tryd.prog 70 os) #[.agg #[.slice none 0 0, .bool false, .int .i64 0], .string ByteArray.empty, .string ByteArray.empty] 8 rfl (World.shaped_of_RefB (by kernel_rfl) (by kernel_rfl)) (by kernel_rfl) (by kernel_rfl) (by kernel_rfl) (fnExactCommonStart_door os _)) ?_
  intro W base args ds gs before hval0 hW _ _ hL _
  exact fnExactCommonStart_contract H enc W base args ds gs before hval0 hW hL

theorem fnExactCommonStart_said : Rows.FnExactCommonStartSaid :=
  OpenClaim.holds_of_wide 5 Tryd.f5 rfl rfl rfl rfl rfl rfl rfl ⟨rfl, rfl, rfl, rfl, rfl⟩ rfl rfl rfl rfl rfl (by kernel_rfl) Tryd.func5 (by kernel_rfl)
    (of_decide_eq_true (by kernel_rfl)) (by unfold Func.isWrapper; first | (rw [if_pos (by decide +kernel)]; kernel_rfl) | (rw [if_neg (by decide +kernel)]; exact ⟨rfl, rfl⟩))
    (fun os started H enc _ => fnExactCommonStart_lifted os started H enc)

theorem fnExactCommonStart_plain (f : FuncId) (fn : Func) (hf : Tryd.pinned.checked.prog.funcNamed "loop.example/g00158/laws.FnExactCommonStart" = some f) (hfn : Tryd.pinned.checked.prog.funcs[f]? = some fn) :
    ∀ (j : Nat) t, fn.params[j]? = some t → Tryd.pinned.checked.prog.wantsStandIn t = false := by
  obtain rfl : f = 5 := Option.some.inj ((show Tryd.prog.funcNamed "loop.example/g00158/laws.FnExactCommonStart" = some 5 by kernel_rfl).symm.trans hf) |>.symm
  obtain rfl : fn = Tryd.f5 := (Option.some.inj (Tryd.func5.symm.trans hfn)).symm
  intro j t ht
  rw [Tryd.params5] at ht
  have hm : t = 24 ∨ t = 9 := by simpa using Array.mem_of_getElem? ht
  rcases hm with rfl | rfl
  · exact (show Tryd.prog.wantsStandIn 24 = false by kernel_rfl)
  · exact (show Tryd.prog.wantsStandIn 9 = false by kernel_rfl)

theorem fnExactCommonStart_card : Rows.FnExactCommonStartCardSaid :=
  Claim7.holds_tied_plain_at .later [] _ _ _ _ fnExactCommonStart_said (fun _ h => by cases h) (by kernel_rfl) (fun _ h => by cases h) fnExactCommonStart_row_tie rfl ⟨rfl, rfl⟩ (by kernel_rfl) rfl (fun f fn hf hfn => ⟨by kernel_rfl, fnExactCommonStart_plain f fn hf hfn⟩) (by kernel_rfl)
#print axioms fnExactCommonStart_card
end Go.Proofs.YtanfebccenfffagDoor
