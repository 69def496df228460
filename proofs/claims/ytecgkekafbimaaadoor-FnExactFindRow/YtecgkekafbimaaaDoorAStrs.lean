/- Strings handed in: their reading, and what the laws' szStringS and toStringS make of them. -/
import Derived.Test.YtecgkekafbimaaaDoorMarkT
import Derived.WalkKit
import Derived.ProofKit
import Derived.OpenShut
import Derived.LaidMore
import Derived.Laws.OwnMore
import Derived.OwnWalk
import Derived.SliceStrings
namespace Go.Proofs.YtecgkekafbimaaaDoor
open Go.ChangeShapes Go.WideShapes Go.ChangeAt Go.WideMaps Go.WideElems Go.RowKit

/-- A list of strings handed in. -/
def ArgStrs (w : World) (a : Option Addr) (len cap : Nat) (ss : List ByteArray) : Prop :=
  ss.length = len ∧ len ≤ cap ∧ cap ≤ maxLen ∧ (∀ s ∈ ss, s.size ≤ maxLen) ∧ (len = 0 ∨ ∃ b o, a = some ⟨b, o, none⟩ ∧ ∀ (k : Nat) (x : ByteArray), ss[k]? = some x → w.cell? ⟨b, o + k, none⟩ = some (.string x))

theorem spot_none2 {w : World} {a : Addr} {v : Value} (h : w.cell? a = some v) : a.spot = none := by
  unfold World.cell? at h
  split at h
  · cases hs : a.spot with
    | none => rfl
    | some x => simp [hs] at h
  · simp at h

section
variable {H : Type} {enc : TypeId × Value → H} {w : World} {base : Nat}

theorem open_strings4 {n : Nat} {a : Option Addr} {len cap : Nat} {x : DataW H × List MemPlace} (h : DataW.trod enc Tryd.prog w base (fun _ => true) true n 22 [.slice a len cap] = some x) : ∃ ss, ArgStrs w a len cap ss := by
  rcases open_strings Tryd.underlying22 Tryd.underlying9 (by kernel_rfl) h with ⟨hcs, _⟩ | ⟨a', len', cap', ss, hcs, _, hl, hm, hss, _, hx, hz⟩
  · cases hcs
    exact ⟨[], rfl, Nat.le_refl _, Nat.zero_le _, by simp, .inl rfl⟩
  · cases hcs
    simp only [if_true] at hss
    refine ⟨ss.take len, by rw [List.length_take]; omega, hl, hm, fun s hs => hz s (List.mem_of_mem_take hs), ?_⟩
    by_cases h0 : len = 0
    · exact .inl h0
    · right
      have hsp : a'.spot = none := by
        have := spot_none2 (hx 0 (by omega))
        simpa [Addr.add] using this
      obtain ⟨b, o, sp⟩ := a'
      simp at hsp
      subst hsp
      refine ⟨b, o, rfl, fun k y hy => ?_⟩
      rw [List.getElem?_take] at hy
      split at hy
      · have hk := (List.getElem?_eq_some_iff.1 hy).1
        have h2 := hx k hk
        have e1 : (⟨b, o, none⟩ : Addr).add k = ⟨b, o + k, none⟩ := by
          unfold Addr.add
          split
          · rename_i hk0; subst hk0; rfl
          · rfl
        rw [e1] at h2
        rw [h2, List.getD, hy]
        rfl
      · cases hy
end

def szT : List ByteArray → Int → Int
  | [], left => left
  | s :: ss, left => if left - (s.size : Int) < 0 then -1 else szT ss (left - (s.size : Int))

def szSA (ss : List ByteArray) (left : Int) : Int := if left - (ss.length : Int) < 0 then -1 else szT ss (left - (ss.length : Int))

theorem szT_bd : ∀ (ss : List ByteArray) (left : Int), 0 ≤ left → 0 ≤ szT ss left → ∀ s ∈ ss, (s.size : Int) ≤ left
  | [], _, _, _ => fun e he => by simp at he
  | x :: ss, left, h0, h => fun e he => by
    unfold szT at h
    split at h
    · omega
    · rcases List.mem_cons.1 he with rfl | he
      · omega
      · have := szT_bd ss _ (by omega) h e he
        omega

theorem szSA_bd {ss : List ByteArray} {left : Int} (h : 0 ≤ szSA ss left) : (ss.length : Int) ≤ left ∧ ∀ s ∈ ss, (s.size : Int) ≤ left := by
  unfold szSA at h
  split at h
  · omega
  · refine ⟨by omega, fun e he => ?_⟩
    have := szT_bd ss _ (by omega) h e he
    omega

theorem str_drop {ss : List ByteArray} {k : Nat} {x : ByteArray} (h : ss[k]? = some x) : ss.drop k = x :: ss.drop (k + 1) := by
  obtain ⟨hk, rfl⟩ := List.getElem?_eq_some_iff.1 h
  exact List.drop_eq_getElem_cons hk

theorem cell_lt2 {w : World} {b o : Nat} {v : Value} (h : w.cell? ⟨b, o, none⟩ = some v) : b < w.heap.size := by
  apply Classical.byContradiction
  intro hn
  have : w.heap[b]? = none := by simp; omega
  simp [World.cell?, this] at h

set_option maxRecDepth 100000 in
set_option maxHeartbeats 2000000 in
theorem szStrs_any (w w1 : World) (a : Option Addr) (len cap : Nat) (ss : List ByteArray) (left : Int) (h0 : 0 ≤ left) (h1 : left ≤ 1048576) (hA : ArgStrs w a len cap ss) (hb : Below w.heap.size w w1) :
    Calls Tryd.prog 6 #[.slice a len cap, .int .i64 left] w1 fun e w' => e = .returned (.int .i64 (szSA ss left)) ∧ w' = w1 := by
  obtain ⟨hlen, hlc, hcm, hsz, hA⟩ := hA
  unfold maxLen at hcm hsz
  by_cases hneg : left - (len : Int) < 0
  · have HA : Hid (szSA ss left = -1) := by show _ = _; unfold szSA; rw [hlen, if_pos hneg]
    clear hA
    go_enter Tryd.func6, Tryd.ntmps6
    go_wp2
    go_ret
    rw [HA.out]
    exact ⟨rfl, rfl⟩
  · have HA : Hid (szSA ss left = szT ss (left - (len : Int))) := by show _ = _; unfold szSA; rw [hlen, if_neg hneg]
    subst hlen
    obtain ⟨ans, HANS⟩ : ∃ ans, Hid (szT ss (left - (ss.length : Int)) = ans) := ⟨_, rfl⟩
    rw [HA.out, HANS.out]
    go_enter Tryd.func6, Tryd.ntmps6
    go_wp2
    go_loop [1, 5] (fun lv i => ∃ (k : Nat) (lf : Int), k ≤ ss.length ∧ i = .int .i64 k ∧ lv = .int .i64 lf ∧ 0 ≤ lf ∧ lf ≤ 1048576 ∧ szT (ss.drop k) lf = ans) (fun _ i => ss.length - (intOf i).toNat)
    case atStart => exact ⟨0, _, Nat.zero_le _, rfl, rfl, by omega, by omega, by rw [List.drop_zero]; exact HANS.out⟩
    case round =>
      obtain ⟨k, lf, hk, rfl, rfl, hf0, hf1, hR⟩ := hrel
      have HR : Hid _ := hR
      clear hR
      by_cases hlt : k < ss.length
      · obtain ⟨x, hx⟩ : ∃ x, ss[k]? = some x := ⟨_, List.getElem?_eq_getElem hlt⟩
        obtain ⟨b, o, rfl, hE⟩ := hA.resolve_left (by omega)
        have c0 := hE k x hx
        have a0 : w1.cell? ⟨b, o + k, none⟩ = some (.string x) := by rw [hb.cell (cell_lt2 c0)]; exact c0
        have hxs := hsz x (List.mem_of_getElem? hx)
        have hk8 : (k : Int) < (ss.length : Int) := by omega
        have HR2 : Hid ((if lf - (x.size : Int) < 0 then -1 else szT (ss.drop (k + 1)) (lf - (x.size : Int))) = ans) := by
          show _ = _
          rw [← HR.out, str_drop hx]
          rfl
        clear hE hx c0 HR hsz
        by_cases hs : lf - (x.size : Int) < 0
        · have HF : Hid (-1 = ans) := by show _ = _; rw [← HR2.out, if_pos hs]
          clear HR2
          go_wp2
          go_ret
          rw [← HF.out]
          exact ⟨rfl, rfl⟩
        · have HF : Hid (szT (ss.drop (k + 1)) (lf - (x.size : Int)) = ans) := by show _ = _; rw [← HR2.out, if_neg hs]
          clear HR2
          go_wp2
          exact ⟨⟨k + 1, _, hlt, by go_num, rfl, by omega, by omega, HF.out⟩, by simp [intOf]; omega⟩
      · have hk3 : k = ss.length := by omega
        subst hk3
        have HF : Hid (lf = ans) := by show _ = _; rw [← HR.out, List.drop_length]; rfl
        clear HR hA hsz
        go_wp2
        go_ret
        rw [← HF.out]
        exact ⟨rfl, rfl⟩

def fillS (ss : List ByteArray) (k : Nat) : List ByteArray := ss.take k ++ List.replicate (ss.length - k) ⟨#[]⟩

theorem fillS_len (ss : List ByteArray) (k : Nat) (h : k ≤ ss.length) : (fillS ss k).length = ss.length := by
  unfold fillS
  rw [List.length_append, List.length_take, List.length_replicate]; omega

theorem fillS_set {ss : List ByteArray} {k : Nat} {e : ByteArray} (h : ss[k]? = some e) : (fillS ss k).set k e = fillS ss (k + 1) := by
  have hk := (List.getElem?_eq_some_iff.1 h).1
  unfold fillS
  rw [List.set_append_right _ _ (by simp; omega), List.length_take, show k - min k ss.length = 0 by omega, show ss.length - k = (ss.length - (k + 1)) + 1 by omega, List.replicate_succ, List.set_cons_zero, List.take_add_one, h]
  simp

theorem fillS_all (ss : List ByteArray) : fillS ss ss.length = ss := by simp [fillS]

theorem made_strs (n : Nat) : (madeCells (Value.string ⟨#[]⟩).cells (n * 1)).toList = (List.replicate n (⟨#[]⟩ : ByteArray)).map Value.string := by
  have h := toList_madeCells_one (Value.string ⟨#[]⟩) n
  simpa [Value.cells] using h

set_option maxRecDepth 100000 in
set_option maxHeartbeats 2000000 in
theorem toStrs_any (w0 w : World) (a : Option Addr) (len cap : Nat) (ss : List ByteArray) (hA : ArgStrs w0 a len cap ss) (hb : Below w0.heap.size w0 w) (hm : len ≤ 1048576) :
    Calls Tryd.prog 8 #[.slice a len cap] w fun e w' => ∃ g, e = .returned (.slice (some ⟨g, 0, none⟩) len len) ∧ Strs w' w.heap.size (.slice (some ⟨g, 0, none⟩) len len) ss ∧ Below w.heap.size w w' := by
  obtain ⟨hlen, hlc, hcm, _, hA⟩ := hA
  subst hlen
  obtain ⟨i0, hi, hz0, hz1, hz2⟩ := info_parts info_str
  go_enter Tryd.func8, Tryd.ntmps8
  go_wp2_with (at_make; refine wpList_make_full _ rfl _ _ 22 rfl w.heap.size 9 i0 (.string ⟨#[]⟩) 1 Tryd.underlying22 hi hz0 hz1 .i64 .i64 _ _ ss.length rfl rfl rfl rfl (by rw [hz2]; omega) (by unfold maxLen; omega) (Nat.le_refl _) ?_; intro w1 hown hgr)
  have hE1 : w1.ownsRow w.heap.size 9 1 (.slice (some ⟨w.heap.size, 0, none⟩) ss.length ss.length) ss.length ((fillS ss 0).map Value.string) := by
    rw [made_strs] at hown
    simpa [fillS] using hown
  have hb1 : Below w.heap.size w w1 := Below.grown (Below.refl _ _) hgr (Nat.le_refl _) (fun j hj => by cases hj)
  clear hown hgr
  go_loopw [4] (fun i wr => ∃ k : Nat, k ≤ ss.length ∧ i = .int .i64 k ∧ wr.ownsRow w.heap.size 9 1 (.slice (some ⟨w.heap.size, 0, none⟩) ss.length ss.length) ss.length ((fillS ss k).map Value.string) ∧ Below w.heap.size w wr) (fun i _ => ss.length - (intOf i).toNat)
  case atStart => exact ⟨0, Nat.zero_le _, rfl, hE1, hb1⟩
  case round =>
    clear hE1 hb1
    obtain ⟨k, hk, rfl, hown, hbr⟩ := hrel
    by_cases hlt : k < ss.length
    · obtain ⟨x, hx⟩ : ∃ x, ss[k]? = some x := ⟨_, List.getElem?_eq_getElem hlt⟩
      obtain ⟨b, o, rfl, hE⟩ := hA.resolve_left (by omega)
      have c0 := hE k x hx
      have a0 : wr.cell? ⟨b, o + k, none⟩ = some (.string x) := by rw [(hb.trans (hbr.mono hb.size)).cell (cell_lt2 c0)]; exact c0
      have hk8 : (k : Int) < (ss.length : Int) := by omega
      have c1 := hown.cellAt k (by omega)
      have hm2 : ((fillS ss k).map Value.string)[k]? = some (.string ((fillS ss k)[k]?.getD ⟨#[]⟩)) := by
        have := fillS_len ss k hk
        simp [this, hlt]
      rw [hm2] at c1
      have c2 := hown.frozenAt k
      have hst := hown.stored k (.string x)
      have e1 : ((fillS ss k).map Value.string).set k (.string x) = (fillS ss (k + 1)).map Value.string := by rw [← fillS_set hx, List.map_set]
      rw [e1] at hst
      have HST : Hid _ := hst
      clear hst hm2 hE hx c0 e1 hown
      go_wp2
      exact ⟨⟨k + 1, by omega, by go_num, HST.out.1, Below.grown hbr HST.out.2 hbr.size (fun j hj => by cases hj; exact Nat.le_refl _)⟩, by simp [intOf]; omega⟩
    · have hkz : k = ss.length := by omega
      subst hkz
      rw [fillS_all] at hown
      clear hA
      go_wp2
      go_ret
      exact ⟨_, rfl, hown, hbr⟩
end Go.Proofs.YtecgkekafbimaaaDoor
