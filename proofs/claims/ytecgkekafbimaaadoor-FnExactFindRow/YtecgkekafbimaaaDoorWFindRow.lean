/- The walk of the law FnExactFindRow. -/
import Derived.Test.YtecgkekafbimaaaDoorSFRow6
import Derived.Test.YtecgkekafbimaaaDoorAStrs
import Derived.Test.YtecgkekafbimaaaDoorEqRow
namespace Go.Proofs.YtecgkekafbimaaaDoor
open Go.RowKit

set_option maxRecDepth 100000 in
set_option maxHeartbeats 4000000 in
theorem findRow_walk (w : World) (a : Option Addr) (len cap : Nat) (ss : List ByteArray) (key : ByteArray) (hA : ArgStrs w a len cap ss) (hkey : key.size ≤ maxLen) {ty : TypeId} {pv : Value} (hg : ErrG w ty pv) :
    Calls Tryd.prog 3 #[.slice a len cap, .string key] w fun e w' => e = .returned (.bool true) ∧ Below w.heap.size w w' := by
  unfold maxLen at hkey
  have SZ : Calls Tryd.prog 6 #[.slice a len cap, .int .i64 1048576] w fun e w' => e = .returned (.int .i64 (szSA ss 1048576)) ∧ Below w.heap.size w w' :=
    (szStrs_any w w a len cap ss 1048576 (by omega) (by omega) hA (Below.refl _ _)).mono fun e w' h => ⟨h.1, by rw [h.2]; exact Below.refl _ _⟩
  have hlen := hA.1
  have HA : Hid (ArgStrs w a len cap ss) := hA
  have HG : Hid (ErrG w ty pv) := hg
  have hgl := hg.lt
  clear hA hg
  by_cases h1 : key.size ≤ 1048576
  · have n1 : ¬ (1048576 : Int) < (key.size : Int) := by omega
    by_cases hneg : szSA ss 1048576 < 0
    · generalize szSA ss 1048576 = sz at *
      go_enter Tryd.func3, Tryd.ntmps3
      go_wp2_with fail
      refine SZ.mono ?_
      rintro e w1 ⟨rfl, b1⟩
      clear SZ
      go_wp2
      go_ret
      exact ⟨rfl, b1⟩
    · have hbd := szSA_bd (ss := ss) (left := 1048576) (by omega)
      have hsl : ss.length ≤ 1048576 := by omega
      have hln : len ≤ 1048576 := by omega
      have HZ : Hid (∀ s ∈ ss, s.size ≤ 1048576) := fun s hs => by have := hbd.2 s hs; omega
      have HT : Hid (∀ (u : World), Below w.heap.size w u → Calls Tryd.prog 8 #[.slice a len cap] u fun e w' => ∃ g, e = .returned (.slice (some ⟨g, 0, none⟩) len len) ∧ Strs w' u.heap.size (.slice (some ⟨g, 0, none⟩) len len) ss ∧ Below u.heap.size u w') := fun u hu => toStrs_any w u a len cap ss HA.out hu hln
      have HSL : Hid (ss.length ≤ 1048576) := hsl
      obtain ⟨R, HR⟩ : ∃ R, Hid (findA ss key = R) := ⟨_, rfl⟩
      obtain ⟨bk, HBK⟩ : ∃ bk, Hid ((bookF ss).isSome = bk) := ⟨_, rfl⟩
      obtain ⟨x, lk⟩ := R
      have HSP : Hid (∀ (u : World) (B : Nat) (v : Value), Strs u B v ss → Calls Tryd.prog 7 #[v, .string key] u fun e w' => e = .returned (.tuple #[.agg #[.string x.key, .string x.text, .string x.val], .int .i64 (lk : Int), .bool bk]) ∧ Below u.heap.size u w') := fun u B v h => by
        have := specFR_any key h HZ.out HSL.out
        rw [HR.out, HBK.out] at this
        exact this
      have HIM : Hid (∀ (u : World) (B : Nat) (v : Value), Below w.heap.size w u → Strs u B v ss → Calls Tryd.prog 9 #[v, .string key] u fun e w' => e = .returned (.tuple #[.agg #[.string x.key, .string x.text, .string x.val], .int .i64 (lk : Int), .bool bk]) ∧ Below u.heap.size u w') := fun u B v hu h => by
        have := implFR_any key h HZ.out HSL.out (show ErrG u ty pv from (hu.cell (p := ⟨1, 0, none⟩) hgl).trans HG.out)
        rw [HR.out, HBK.out] at this
        exact this
      clear hbd HA HR HBK HG HZ
      generalize szSA ss 1048576 = sz at *
      go_enter Tryd.func3, Tryd.ntmps3
      go_wp2_with fail
      refine SZ.mono ?_
      rintro e w1 ⟨rfl, b1⟩
      have T1 := HT.out w1 b1
      have HB1 : Hid (Below w.heap.size w w1) := b1
      clear SZ b1
      go_wp2_with fail
      refine T1.mono ?_
      rintro e w2 ⟨g2, rfl, s2, b2⟩
      have HB2 : Hid (Below w.heap.size w w2) := HB1.out.trans (b2.mono HB1.out.size)
      have SP := HSP.out w2 _ _ s2
      clear T1 s2 b2 HB1
      go_wp2_with fail
      refine SP.mono ?_
      rintro e w3 ⟨rfl, b3⟩
      have HB3 : Hid (Below w.heap.size w w3) := HB2.out.trans (b3.mono HB2.out.size)
      have bA := (Below.refl w3.heap.size w3).alloc (Nat.le_refl _) (.cells #[.string x.key, .string x.text, .string x.val] 25)
      have HBA : Hid (Below w.heap.size w _) := HB3.out.trans (bA.mono HB3.out.size)
      have c0 : (w3.alloc (.cells #[.string x.key, .string x.text, .string x.val] 25)).heap[w3.heap.size]? = _ := heap_alloc_new w3 _
      have T3 := HT.out _ HBA.out
      obtain ⟨W3, HW3⟩ : ∃ W3, Hid (W3 = w3.alloc (.cells #[.string x.key, .string x.text, .string x.val] 25)) := ⟨_, rfl⟩
      have HC3 : Hid (W3.heap[w3.heap.size]? = some (.cells #[.string x.key, .string x.text, .string x.val] 25)) := by show _ = _; rw [HW3.out]; exact c0
      have hlt3 : w3.heap.size < W3.heap.size := (Array.getElem?_eq_some_iff.1 HC3.out).1
      rw [← HW3.out] at T3
      have HBW : Hid (Below w.heap.size w W3) := by show Below _ _ _; rw [HW3.out]; exact HBA.out
      obtain ⟨n3, HN3⟩ : ∃ n3, Hid (n3 = w3.heap.size) := ⟨_, rfl⟩
      rw [← HN3.out] at HC3 hlt3
      clear SP b3 HB2 bA c0 HBA
      go_wp2_with fail
      rw [← HW3.out, ← HN3.out]
      refine T3.mono ?_
      rintro e w4 ⟨g4, rfl, s4, b4⟩
      have HB4 : Hid (Below w.heap.size w w4) := HBW.out.trans (b4.mono HBW.out.size)
      have HS4 : Hid (Strs w4 W3.heap.size (.slice (some ⟨g4, 0, none⟩) len len) ss) := s4
      have HC4 : Hid (w4.heap[n3]? = some (.cells #[.string x.key, .string x.text, .string x.val] 25)) := by show _ = _; rw [b4.block _ hlt3]; exact HC3.out
      have IM := HIM.out w4 _ _ HB4.out s4
      clear T3 s4 b4 HB3 HC3 hlt3 HBW HW3
      go_wp2_with fail
      refine IM.mono ?_
      rintro e w5 ⟨rfl, b5⟩
      have hn4 := (Array.getElem?_eq_some_iff.1 HC4.out).1
      have HB5 : Hid (Below w.heap.size w w5) := HB4.out.trans (b5.mono HB4.out.size)
      have HS5 : Hid (Strs w5 W3.heap.size (.slice (some ⟨g4, 0, none⟩) len len) ss) := HS4.out.below b5
      have hC5 : w5.heap[n3]? = some (.cells #[.string x.key, .string x.text, .string x.val] 25) := by rw [b5.block _ hn4]; exact HC4.out
      have hn5 := (Array.getElem?_eq_some_iff.1 hC5).1
      have d0 := cell_of_row w5 n3 0 _ _ _ hC5
      have d1 := cell_of_row w5 n3 1 _ _ _ hC5
      have d2 := cell_of_row w5 n3 2 _ _ _ hC5
      have HBA5 : Hid (∀ o, Below w.heap.size w (w5.alloc o)) := fun o => HB5.out.alloc HB5.out.size o
      have HSA5 : Hid (∀ o, Strs (w5.alloc o) W3.heap.size (.slice (some ⟨g4, 0, none⟩) len len) ss) := fun o => HS5.out.below ((Below.refl _ _).alloc (Nat.le_refl _) o)
      have EQ := fun u => eqRow_same u x
      clear IM b5 HB4 HS4 HC4 hn4 hC5
      go_wp2_with fail
      refine (EQ _).mono ?_
      rintro e w6 ⟨rfl, b6⟩
      have HB6 : Hid (Below w.heap.size w w6) := (HBA5.out _).trans (b6.mono (HBA5.out _).size)
      have HS6 : Hid (Strs w6 W3.heap.size (.slice (some ⟨g4, 0, none⟩) len len) ss) := (HSA5.out _).below b6
      have T5 := HT.out w6 HB6.out
      clear EQ b6 HBA5 HSA5 HB5 HS5 d0 d1 d2
      go_wp2_with fail
      refine T5.mono ?_
      rintro e w7 ⟨g7, rfl, s7, b7⟩
      have HB7 : Hid (Below w.heap.size w w7) := HB6.out.trans (b7.mono HB6.out.size)
      have EQ : Calls Tryd.prog 11 #[.slice (some ⟨g4, 0, none⟩) len len, .slice (some ⟨g7, 0, none⟩) len len] w7 fun e w' => e = .returned (.bool true) ∧ Below w7.heap.size w7 w' :=
        (eqStr_any hsl (HS6.out.below b7) s7).mono fun e w' h => ⟨h.1, by obtain ⟨n, hn⟩ := h.2; rw [hn]; exact below_drewN6 (Below.refl _ _) n⟩
      clear T5 s7 b7 HB6 HS6
      go_wp2_with fail
      refine EQ.mono ?_
      rintro e w8 ⟨rfl, b8⟩
      have HB8 : Hid (Below w.heap.size w w8) := HB7.out.trans (b8.mono HB7.out.size)
      clear EQ b8 HB7
      go_wp2
      go_ret
      exact ⟨rfl, HB8.out⟩
  · have n1 : (1048576 : Int) < (key.size : Int) := by omega
    clear SZ HA
    go_enter Tryd.func3, Tryd.ntmps3
    go_wp2
    go_ret
    exact ⟨rfl, Below.refl _ _⟩
end Go.Proofs.YtecgkekafbimaaaDoor
