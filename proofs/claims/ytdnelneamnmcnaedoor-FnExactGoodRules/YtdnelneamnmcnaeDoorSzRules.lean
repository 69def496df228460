/- Contracts of the laws' szIntS, szEntry, szEntryS, szRules: whether rules that are handed in hold too much. -/
import Derived.Test.YtdnelneamnmcnaeDoorARules
namespace Go.Proofs.YtdnelneamnmcnaeDoor
open Go.RowKit

def szL (left : Int) (n : Nat) : Int := if left - (n : Int) < 0 then -1 else left - (n : Int)

def szEs : List Ent → Int → Int
  | [], left => left
  | e :: es, left => if szL left e.runes.length < 0 then -1 else szEs es (szL left e.runes.length)

def szA (es : List Ent) (left : Int) : Int := if left - (es.length : Int) < 0 then -1 else szEs es (left - (es.length : Int))

theorem szL_bd {left : Int} {n : Nat} (h : ¬ szL left n < 0) : szL left n = left - (n : Int) ∧ 0 ≤ left - (n : Int) := by
  unfold szL at *
  split at h
  · omega
  · rename_i c
    rw [if_neg c]
    omega

theorem szEs_bd : ∀ (es : List Ent) (left : Int), 0 ≤ left → 0 ≤ szEs es left → ∀ e ∈ es, (e.runes.length : Int) ≤ left
  | [], _, _, _ => fun e he => by simp at he
  | x :: es, left, h0, h => fun e he => by
    unfold szEs at h
    split at h
    · omega
    · rename_i c
      have hb := szL_bd c
      rw [hb.1] at h
      rcases List.mem_cons.1 he with rfl | he
      · omega
      · have := szEs_bd es _ hb.2 h e he
        omega

theorem szEs_neg : ∀ (es : List Ent) (left : Int), 0 ≤ left → szEs es left < 0 → szEs es left = -1
  | [], left, h0, h => by unfold szEs at h; omega
  | x :: es, left, h0, h => by
    unfold szEs at h ⊢
    split
    · rfl
    · rename_i c
      rw [if_neg c] at h
      have hb := szL_bd c
      exact szEs_neg es _ (by rw [hb.1]; exact hb.2) h

theorem szA_bd {es : List Ent} {left : Int} (h : 0 ≤ szA es left) : (es.length : Int) ≤ left ∧ ∀ e ∈ es, (e.runes.length : Int) ≤ left := by
  unfold szA at h
  split at h
  · omega
  · refine ⟨by omega, fun e he => ?_⟩
    have := szEs_bd es _ (by omega) h e he
    omega

set_option maxRecDepth 100000 in
set_option maxHeartbeats 1000000 in
theorem szInt_any (w : World) (a : Option Addr) (n c : Nat) (left : Int) (h0 : 0 ≤ left) (h1 : left ≤ 1048576) (hn : n ≤ 9223372036854775807) :
    Calls Tryd.prog 84 #[.slice a n c, .int .i64 left] w fun e w' => e = .returned (.int .i64 (szL left n)) ∧ w' = w := by
  unfold szL
  by_cases h : left - (n : Int) < 0
  · rw [if_pos h]
    go_enter Tryd.func84, Tryd.ntmps84
    go_wp2
    go_ret
    exact ⟨rfl, rfl⟩
  · rw [if_neg h]
    go_enter Tryd.func84, Tryd.ntmps84
    go_wp2
    go_ret
    exact ⟨rfl, rfl⟩

set_option maxRecDepth 100000 in
set_option maxHeartbeats 1000000 in
theorem szEnt_any (w : World) (a : Option Addr) (n c : Nat) (f s t : Int) (v : Bool) (left : Int) (h0 : 0 ≤ left) (h1 : left ≤ 1048576) (hn : n ≤ 9223372036854775807) :
    Calls Tryd.prog 64 #[.agg #[.slice a n c, .int .i64 f, .int .i64 s, .int .i64 t, .bool v], .int .i64 left] w fun e w' => e = .returned (.int .i64 (szL left n)) ∧ Below w.heap.size w w' := by
  have S := fun w => szInt_any w a n c left h0 h1 hn
  by_cases h : szL left n < 0
  · have h' : szL left n = -1 := by unfold szL at *; split at h <;> simp_all
    rw [h'] at S
    rw [h']
    clear h h'
    go_enter Tryd.func64, Tryd.ntmps64
    go_wp2_with (go_at_call 84; refine (S _).mono ?_; rintro e w1 ⟨rfl, rfl⟩)
    go_ret
    exact ⟨rfl, (Below.refl _ _).alloc (Nat.le_refl _) _⟩
  · obtain ⟨z, hz⟩ : ∃ z, z = szL left n := ⟨_, rfl⟩
    rw [← hz] at S h ⊢
    clear hz
    go_enter Tryd.func64, Tryd.ntmps64
    go_wp2_with (go_at_call 84; refine (S _).mono ?_; rintro e w1 ⟨rfl, rfl⟩)
    go_ret
    exact ⟨rfl, (Below.refl _ _).alloc (Nat.le_refl _) _⟩

def SzRel (w : World) (es : List Ent) (ans : Int) (lv i : Value) (wr : World) : Prop :=
  ∃ (k : Nat) (left : Int), k ≤ es.length ∧ i = .int .i64 k ∧ lv = .int .i64 left ∧ 0 ≤ left ∧ left ≤ 1048576 ∧ szEs (es.drop k) left = ans ∧ Below w.heap.size w wr

theorem ent_drop {es : List Ent} {k : Nat} {e : Ent} (h : es[k]? = some e) : es.drop k = e :: es.drop (k + 1) := by
  obtain ⟨hk, rfl⟩ := List.getElem?_eq_some_iff.1 h
  exact List.drop_eq_getElem_cons hk

theorem cell_lt {w : World} {b o : Nat} {v : Value} (h : w.cell? ⟨b, o, none⟩ = some v) : b < w.heap.size := by
  apply Classical.byContradiction
  intro hn
  have : w.heap[b]? = none := by simp; omega
  simp [World.cell?, this] at h

theorem ArgEnt.below {w w' : World} {b p : Nat} {e : Ent} (h : ArgEnt w b p e) (hb : Below w.heap.size w w') : ∃ (ra : Option Addr) (rl rc : Nat) (zs : List Int), IsRow .i64 w ra rl rc zs ∧ e.runes = zs.take rl ∧ e.runes.length = rl ∧ w'.cell? ⟨b, p, none⟩ = some (.slice ra rl rc) ∧ w'.cell? ⟨b, p + 1, none⟩ = some (.int .i64 e.el.first) ∧
    w'.cell? ⟨b, p + 2, none⟩ = some (.int .i64 e.el.second) ∧ w'.cell? ⟨b, p + 3, none⟩ = some (.int .i64 e.el.third) ∧ w'.cell? ⟨b, p + 4, none⟩ = some (.bool e.el.varies) := by
  obtain ⟨ra, rl, rc, zs, hr, h1, h2, a0, a1, a2, a3, a4⟩ := h
  have hlt := cell_lt a0
  exact ⟨ra, rl, rc, zs, hr, h1, h2, by rw [hb.cell hlt]; exact a0, by rw [hb.cell hlt]; exact a1, by rw [hb.cell hlt]; exact a2, by rw [hb.cell hlt]; exact a3, by rw [hb.cell hlt]; exact a4⟩

theorem isRow_len {w : World} {a : Option Addr} {len cap : Nat} {zs : List Int} (h : IsRow .i64 w a len cap zs) : len ≤ 9223372036854775807 := by
  rcases h with ⟨_, rfl, _, _⟩ | ⟨_, _, h1, h2, _⟩
  · omega
  · unfold maxLen at h2; omega

set_option maxRecDepth 100000 in
set_option maxHeartbeats 2000000 in
theorem szEnts_any (w w1 : World) (a : Option Addr) (len cap : Nat) (es : List Ent) (left : Int) (h0 : 0 ≤ left) (h1 : left ≤ 1048576) (hA : ArgEnts w a len cap es) (hb : Below w.heap.size w w1) :
    Calls Tryd.prog 38 #[.slice a len cap, .int .i64 left] w1 fun e w' => e = .returned (.int .i64 (szA es left)) ∧ Below w1.heap.size w1 w' := by
  obtain ⟨hlen, hlc, hcm, hA⟩ := hA
  unfold maxLen at hcm
  by_cases hneg : left - (len : Int) < 0
  · have HA : Hid (szA es left = -1) := by show _ = _; unfold szA; rw [hlen, if_pos hneg]
    clear hA
    go_enter Tryd.func38, Tryd.ntmps38
    go_wp2
    go_ret
    rw [HA.out]
    exact ⟨rfl, Below.refl _ _⟩
  · have HA : Hid (szA es left = szEs es (left - (len : Int))) := by show _ = _; unfold szA; rw [hlen, if_neg hneg]
    subst hlen
    obtain ⟨ans, HANS⟩ : ∃ ans, Hid (szEs es (left - (es.length : Int)) = ans) := ⟨_, rfl⟩
    go_enter Tryd.func38, Tryd.ntmps38
    go_wp2
    go_loopw [1, 5] (fun lv i wr => SzRel w1 es ans lv i wr) (fun _ i _ => es.length - (intOf i).toNat)
    case atStart => exact ⟨0, _, Nat.zero_le _, rfl, rfl, by omega, by omega, by rw [List.drop_zero]; exact HANS.out, Below.refl _ _⟩
    case round =>
      obtain ⟨k, lf, hk, rfl, rfl, hf0, hf1, hR, hbr⟩ := hrel
      have HR : Hid _ := hR
      clear hR
      by_cases hlt : k < es.length
      · obtain ⟨e, he⟩ : ∃ e, es[k]? = some e := ⟨_, List.getElem?_eq_getElem hlt⟩
        obtain ⟨b, o, rfl, hE⟩ := hA.resolve_left (by omega)
        obtain ⟨ra, rl, rc, zs, hr, e1, e2, a0, a1, a2, a3, a4⟩ := (hE k e he).below (hb.trans (hbr.mono hb.size))
        have E2 : Hid (e.runes.length = rl) := e2
        have hrl := isRow_len hr
        have hk8 : (k : Int) < (es.length : Int) := by omega
        have SZ := fun w => szEnt_any w ra rl rc e.el.first e.el.second e.el.third e.el.varies lf hf0 hf1 hrl
        have HR2 : Hid ((if szL lf rl < 0 then -1 else szEs (es.drop (k + 1)) (szL lf rl)) = ans) := by
          show _ = _
          rw [← HR.out, ent_drop he, ← E2.out]
          rfl
        clear hE he hr hrl HR e1 e2
        go_wp2_with fail
        refine (SZ _).mono ?_
        rintro e' w3 ⟨rfl, b3⟩
        clear SZ a0 a1 a2 a3 a4
        by_cases hs : szL lf rl < 0
        · have HF : Hid (-1 = ans) := by show _ = _; rw [← HR2.out, if_pos hs]
          go_wp2
          go_ret
          rw [HA.out, HANS.out, ← HF.out]
          exact ⟨rfl, hbr.trans (b3.mono hbr.size)⟩
        · have hbd := szL_bd hs
          have HF : Hid (szEs (es.drop (k + 1)) (szL lf rl) = ans) := by show _ = _; rw [← HR2.out, if_neg hs]
          obtain ⟨z, hz⟩ : ∃ z, z = szL lf rl := ⟨_, rfl⟩
          have hzb : 0 ≤ z ∧ z ≤ 1048576 := by rw [hz, hbd.1]; omega
          rw [← hz] at HF hs ⊢
          clear hz hbd HR2
          go_wp2
          exact ⟨⟨k + 1, z, hlt, by go_num, rfl, hzb.1, hzb.2, HF.out, hbr.trans (b3.mono hbr.size)⟩, by simp [intOf]; omega⟩
      · have hk3 : k = es.length := by omega
        subst hk3
        have HF : Hid (lf = ans) := by show _ = _; rw [← HR.out, List.drop_length]; rfl
        clear HR hA
        go_wp2
        go_ret
        rw [HA.out, HANS.out, ← HF.out]
        exact ⟨rfl, hbr⟩

set_option maxRecDepth 100000 in
set_option maxHeartbeats 2000000 in
theorem szRules_any (w w1 : World) (a : Option Addr) (len cap : Nat) (es : List Ent) (sh : Bool) (lv left : Int) (h0 : 0 ≤ left) (h1 : left ≤ 1048576) (hA : ArgEnts w a len cap es) (hb : Below w.heap.size w w1) :
    Calls Tryd.prog 19 #[.agg #[.slice a len cap, .bool sh, .int .i64 lv], .int .i64 left] w1 fun e w' => e = .returned (.int .i64 (szA es left)) ∧ Below w1.heap.size w1 w' := by
  have S := fun (u : World) (hu : Below w.heap.size w u) => szEnts_any w u a len cap es left h0 h1 hA hu
  have hb2 := (Below.refl w1.heap.size w1).alloc (Nat.le_refl _) (.cells #[.slice a len cap, .bool sh, .int .i64 lv] 37)
  have S2 := S _ (hb.trans (hb2.mono hb.size))
  have HB : Hid (Below _ _ _) := hb2
  clear S hA hb hb2
  by_cases h : szA es left < 0
  · have h' : szA es left = -1 := by
      unfold szA at *
      split at h
      · rename_i c; rw [if_pos c]
      · rename_i c; rw [if_neg c]; exact szEs_neg _ _ (by omega) h
    rw [h'] at S2
    rw [h']
    clear h h'
    go_enter Tryd.func19, Tryd.ntmps19
    go_wp2_with fail
    refine S2.mono ?_
    rintro e w3 ⟨rfl, b3⟩
    go_wp2
    go_ret
    exact ⟨rfl, HB.out.trans (b3.mono HB.out.size)⟩
  · obtain ⟨z, hz⟩ : ∃ z, z = szA es left := ⟨_, rfl⟩
    rw [← hz] at S2 h ⊢
    clear hz
    go_enter Tryd.func19, Tryd.ntmps19
    go_wp2_with fail
    refine S2.mono ?_
    rintro e w3 ⟨rfl, b3⟩
    go_wp2
    go_ret
    exact ⟨rfl, HB.out.trans (b3.mono HB.out.size)⟩
end Go.Proofs.YtdnelneamnmcnaeDoor
