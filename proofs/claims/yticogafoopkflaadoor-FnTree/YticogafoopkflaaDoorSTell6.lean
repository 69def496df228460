/- Contracts of the specification's l6Tell and l6Place. -/
import Derived.Test.YticogafoopkflaaDoorIBytes6
import Derived.Test.YticogafoopkflaaDoorPPut6
import Derived.Test.YticogafoopkflaaDoorSPage6
import Derived.BigQuiet
import Derived.Deep.QuietTactic
namespace Go.Proofs.YticogafoopkflaaDoor
open Go.RowKit

/-- How many rows the first k pages have. -/
def totK (gs : List (List Rw)) (k : Nat) : Nat := (gs.take k).flatten.length

theorem totK_succ {gs : List (List Rw)} {k : Nat} {g : List Rw} (h : gs[k]? = some g) : totK gs (k + 1) = totK gs k + g.length := by
  unfold totK
  rw [List.take_add_one, h]
  simp

theorem totK_le {gs : List (List Rw)} (h : ∀ g ∈ gs, g.length ≤ 255) : ∀ k, totK gs k ≤ 255 * k
  | 0 => by simp [totK]
  | k + 1 => by
    have ih := totK_le h k
    cases hk : gs[k]? with
    | none =>
      have hle : gs.length ≤ k := List.getElem?_eq_none_iff.1 hk
      have : totK gs (k + 1) = totK gs k := by unfold totK; rw [List.take_of_length_le (by omega), List.take_of_length_le hle]
      omega
    | some g =>
      have := h g (List.mem_of_getElem? hk)
      rw [totK_succ hk]
      omega

def TlRel (w : World) (gs : List (List Rw)) (v n i : Value) (wr : World) : Prop :=
  ∃ k : Nat, k ≤ gs.length ∧ i = .int .i64 (k : Int) ∧ n = .int .i64 (totK gs k : Int) ∧ Strs wr w.heap.size v ((gs.take k).map pgB) ∧ Below w.heap.size w wr

/-- Whether pages and rows are no more than may be. -/
def tellOk (gs : List (List Rw)) : Bool := decide (gs.length ≤ 40) && decide (gs.flatten.length ≤ 60)

set_option maxRecDepth 100000 in
set_option maxHeartbeats 4000000 in
theorem tell_any {w : World} {v : Value} {gs : List (List Rw)} (hV : BkV w v gs) (hl : gs.length ≤ 1000) (hz : ∀ g ∈ gs, RwB g) :
    Calls Tryd.prog 48 #[v] w fun e w' => ∃ v', e = .returned (.tuple #[v', .bool (tellOk gs)]) ∧ Strs w' w.heap.size v' (gs.map pgB) ∧ Below w.heap.size w w' := by
  obtain ⟨a, c, rfl, hq⟩ := hV
  have HV : Hid (BkV w (.slice a gs.length c) gs) := ⟨a, c, rfl, hq⟩
  have HRB : Hid (∀ g ∈ gs, RwB g) := hz
  have HTK : Hid (∀ k, totK gs k ≤ 255 * k) := totK_le (fun g hg => (hz g hg).1)
  have HTA : Hid (totK gs gs.length = gs.flatten.length) := by show (gs.take gs.length).flatten.length = _; rw [List.take_length]
  obtain ⟨i0, hi0, hy0, hy1, hy2⟩ := info_parts info_strB
  obtain ⟨ok, HOK⟩ : ∃ ok, Hid (tellOk gs = ok) := ⟨_, rfl⟩
  rw [HOK.out]
  clear hq hz
  go_enter Tryd.func48, Tryd.ntmps48
  go_wp2_with fail
  go_loopw [4, 5, 10] (fun v n i wr => TlRel w gs v n i wr) (fun _ _ i _ => gs.length - (intOf i).toNat)
  case atStart => exact ⟨0, Nat.zero_le _, rfl, rfl, World.ownsRow_nil _ _ _ _, Below.refl _ _⟩
  case round =>
    obtain ⟨k, hk, rfl, rfl, hS, hb⟩ := hrel
    by_cases hlt : k < gs.length
    · obtain ⟨g, hg⟩ : ∃ g, gs[k]? = some g := ⟨_, List.getElem?_eq_getElem hlt⟩
      obtain ⟨a', c', hv', hq⟩ := HV.out.below hb (Nat.le_refl _)
      injection hv' with q1 _ q3
      subst q1
      subst q3
      obtain ⟨b, o, ax, cx, rfl, d1, hsl⟩ := hq k g hg
      have hbl := rw_cell_lt d1
      have hk8 : (k : Int) < (gs.length : Int) := by omega
      have hgb := HRB.out g (List.mem_of_getElem? hg)
      have hg8 := hgb.1
      have PB : Calls Tryd.prog 47 #[.slice ax g.length cx] wr fun e w' => e = .returned (.string (pgB g)) ∧ Below wr.heap.size wr w' := specPage_any (cap := cx) hsl hgb
      have HT : Hid ((gs.take (k + 1)).map pgB = (gs.take k).map pgB ++ [pgB g]) := map_take_succ pgB hg
      have hlt1 : ((gs.take k).map pgB).length ≤ 1000 := by simp; omega
      have hts := totK_succ hg
      have htk := HTK.out k
      have HTS : Hid (totK gs (k + 1) = totK gs k + g.length) := hts
      obtain ⟨tk, HK⟩ : ∃ tk, Hid (totK gs k = tk) := ⟨_, rfl⟩
      rw [HK.out] at htk HTS
      rw [HK.out]
      obtain ⟨ss, HSS⟩ : ∃ ss, Hid ((gs.take k).map pgB = ss) := ⟨_, rfl⟩
      rw [HSS.out] at HT hlt1 hS
      obtain ⟨a4, c4, hv4⟩ := strs_formB hS
      subst hv4
      have HS : Hid (Strs wr w.heap.size (.slice a4 ss.length c4) ss) := hS
      have HB : Hid (Below w.heap.size w wr) := hb
      clear hq hsl hg hS hb hgb hts
      generalize pgB g = pg at *
      go_wp2_with fail
      refine PB.mono ?_
      rintro e w2 ⟨rfl, b2⟩
      have HB2 : Hid (Below w.heap.size w w2) := HB.out.trans (b2.mono HB.out.size)
      have bA := (Below.refl w2.heap.size w2).alloc (Nat.le_refl _) (.cells #[.string pg] 9)
      have hrow := (HS.out.below b2).below bA
      have HBA : Hid (Below w.heap.size w _) := HB2.out.trans (bA.mono HB2.out.size)
      have hsU := HB2.out.size
      unfold Strs at hrow
      clear PB b2 HS HB bA
      go_wp2_with (at_builtin; refine wpList_append_lies _ rfl _ _ 25 rfl w.heap.size 9 i0 _ 1 16 Tryd.underlying25 hi0 hy0 hy1 hy2 rfl (by decide) _ _ _ rfl hrow ⟨_, 0, none⟩ 1 1 [.string pg] rfl rfl (cell_one_new _ _ _) (fun x hx => by simp at hx; subst hx; rfl) (by omega) (by unfold maxLen; omega) (by omega) (by simp; omega) _ rfl ?_)
      intro g5 c5 u5 ho5 hg5 hgo5 hlt5
      have HS5 : Hid (Strs u5 w.heap.size (.slice (some ⟨g5, 0, none⟩) (ss.length + 1) c5) ((gs.take (k + 1)).map pgB)) := by rw [HT.out]; exact Strs.snoc ho5
      have HB5 : Hid (Below w.heap.size w u5) := Below.grown HBA.out hg5 HBA.out.size (fun i hj => (World.ownsRow.lt hrow i hj).1)
      clear ho5 hg5 hrow HB2 HBA
      go_wp2
      exact ⟨⟨k + 1, by omega, by go_num, by rw [HTS.out]; go_num, HS5.out, HB5.out⟩, by simp [intOf]; omega⟩
    · have hkz : k = gs.length := by omega
      subst hkz
      rw [List.take_length] at hS
      have htk := HTK.out gs.length
      rw [HTA.out] at htk
      rw [HTA.out]
      have HS : Hid (Strs wr w.heap.size u4 (gs.map pgB)) := hS
      have HB : Hid (Below w.heap.size w wr) := hb
      have HOE : Hid (ok = (decide (gs.length ≤ 40) && decide (gs.flatten.length ≤ 60))) := by show _ = _; rw [← HOK.out]; rfl
      generalize gs.flatten.length = fl at *
      clear hS hb
      by_cases h40 : gs.length ≤ 40
      · have h48 : (gs.length : Int) ≤ 40 := by omega
        by_cases h60 : fl ≤ 60
        · have h68 : (fl : Int) ≤ 60 := by omega
          have HO2 : Hid (ok = true) := by show _ = _; rw [HOE.out, decide_eq_true h40, decide_eq_true h60]; rfl
          clear HOE
          go_wp2
          go_ret2
          rw [HO2.out]
          exact ⟨_, rfl, HS.out, HB.out⟩
        · have h68 : ¬ (fl : Int) ≤ 60 := by omega
          have HO2 : Hid (ok = false) := by show _ = _; rw [HOE.out, decide_eq_false h60, Bool.and_false]
          clear HOE
          go_wp2
          go_ret2
          rw [HO2.out]
          exact ⟨_, by simp, HS.out, HB.out⟩
      · have h48 : ¬ (gs.length : Int) ≤ 40 := by omega
        have HO2 : Hid (ok = false) := by show _ = _; rw [HOE.out, decide_eq_false h40]; rfl
        clear HOE
        go_wp2
        go_ret2
        rw [HO2.out]
        exact ⟨_, by simp, HS.out, HB.out⟩

theorem below_drewN7 {B : Nat} {w u : World} (h : Below B w u) (n m : Nat) : Below B w ((u.drewN n).drewN m) := ⟨h.os, h.tape, h.output, h.size, h.block⟩

theorem tw_le {gs : List (List Rw)} {key : ByteArray} : plF gs key ≤ gs.length := (plF_is key).1

set_option maxRecDepth 100000 in
set_option maxHeartbeats 4000000 in
theorem place_any {w : World} {v : Value} {gs : List (List Rw)} (key : ByteArray) (hV : BkV w v gs) (hl : gs.length ≤ 1048576) (hz : ∀ g ∈ gs, 0 < g.length ∧ g.length ≤ 1048576) :
    Calls Tryd.prog 49 #[v, .string key] w fun e w' => e = .returned (.int .i64 (plF gs key : Int)) ∧ Below w.heap.size w w' := by
  obtain ⟨a, c, rfl, hq⟩ := hV
  have HQ : Hid _ := hq
  have HZ : Hid (∀ g ∈ gs, 0 < g.length ∧ g.length ≤ 1048576) := hz
  obtain ⟨P, HP⟩ : ∃ P, Hid (plF gs key = P) := ⟨_, rfl⟩
  have hpis := plF_is (gs := gs) key
  rw [HP.out] at hpis ⊢
  obtain ⟨p1, p2, p3⟩ := hpis
  have HP2 : Hid (∀ (i : Nat) (a : List Rw), i < P → gs[i]? = some a → ltK (endK a) key = true) := p2
  have HP3 : Hid (∀ a, gs[P]? = some a → ltK (endK a) key = false) := p3
  clear hq hz p2 p3
  go_enter Tryd.func49, Tryd.ntmps49
  go_wp2_with fail
  go_loopw [5] (fun i wr => ∃ k q : Nat, k ≤ P ∧ i = .int .i64 (k : Int) ∧ wr = w.drewN q) (fun i _ => gs.length - (intOf i).toNat)
  case atStart => exact ⟨0, 0, Nat.zero_le _, rfl, rfl⟩
  case round =>
    obtain ⟨k, q, hk, rfl, rfl⟩ := hrel
    by_cases hlt : k < gs.length
    · obtain ⟨g, hg⟩ : ∃ g, gs[k]? = some g := ⟨_, List.getElem?_eq_getElem hlt⟩
      obtain ⟨b, o, ax, cx, rfl, d1, hsl⟩ := HQ.out k g hg
      obtain ⟨g0, g1⟩ := HZ.out g (List.mem_of_getElem? hg)
      have hbl := rw_cell_lt d1
      have hk8 : (k : Int) < (gs.length : Int) := by omega
      obtain ⟨x, hx⟩ : ∃ x, g[g.length - 1]? = some x := ⟨_, List.getElem?_eq_getElem (by omega)⟩
      rcases hsl with h | ⟨b2, o2, rfl, hE⟩
      · rw [h] at g0; simp at g0
      obtain ⟨e0, _, _⟩ := hE _ x hx
      have hb2 := rw_cell_lt e0
      have hek := endK_at hx
      have hm1 : (g.length : Int) - 1 = ((g.length - 1 : Nat) : Int) := by omega
      have hm2 : ((g.length - 1 : Nat) : Int) < (g.length : Int) := by omega
      by_cases hkP : k = P
      · have hlk : ltK x.key key = false := by rw [← hek]; exact HP3.out g (by rw [← hkP]; exact hg)
        unfold ltK at hlk
        have HKP : Hid (k = P) := hkP
        clear hg hE hx hek HQ HZ hkP
        go_wp2
        go_quiet (fail)
        go_wp2
        go_ret
        exact ⟨by rw [← HKP.out]; rfl, below_drewN7 (Below.refl _ _) _ _⟩
      · have hlk : ltK x.key key = true := by rw [← hek]; exact HP2.out k g (by omega) hg
        unfold ltK at hlk
        clear hg hE hx hek
        go_wp2
        go_quiet (fail)
        go_wp2
        exact ⟨⟨k + 1, _, by omega, by go_num, rfl⟩, by simp [intOf]; omega⟩
    · have HKP : Hid (k = P) := by show _ = _; omega
      clear HQ HZ
      go_wp2
      have d1 : decide ((k : Int) < (gs.length : Int)) = false := decide_eq_false (by omega)
      go_quiet (fail)
      go_wp2
      go_ret
      exact ⟨by rw [← HKP.out]; rfl, below_drewN7 (Below.refl _ _) _ _⟩
end Go.Proofs.YticogafoopkflaaDoor
