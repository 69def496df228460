/- What the program's reader does at a word, without memory. -/
import Derived.Test.YtanfebccenfffaaDoorRd
import Derived.Test.YtanfebccenfffaaDoorWf
import Derived.Test.YtanfebccenfffaaDoorPRule
namespace Go.Proofs.YtanfebccenfffaaDoor

/-- The word at the front of what is left. -/
def wdB (l : List UInt8) : ByteArray := ⟨(nextL l).1.toArray⟩
def wdR (l : List UInt8) : List UInt8 := (nextL l).2

theorem wf_none {l : List UInt8} (h : (nextL l).1 = []) : wf l [] = [] := by rw [wf_next, if_pos h]
theorem wf_some {l : List UInt8} (h : (nextL l).1 ≠ []) : wf l [] = wdB l :: wf (wdR l) [] := by rw [wf_next, if_neg h]; rfl

/-- Whether a word stands for runes that an entry may have. -/
def jOk (x : ByteArray) : Bool := decide (x.size ≤ 200) && runesOk (nD (Dec.decT x.size x).1)

def putW (st : RS) (lev : Nat) (x : ByteArray) : Except Int RS := if 200 < x.size then .error 2 else putIn st lev (nD (Dec.decT x.size x).1)
def levR (st : RS) (x : ByteArray) : Except Int RS := match levN x with
  | none => .error 2
  | some n => .ok { st with lv := n }

theorem putI_bad {st : RS} {lev : Nat} {l : List Int} (h : runesOk l = false) : putIn st lev l = .error 2 := if_pos h

theorem putW_no {st : RS} {lev : Nat} {x : ByteArray} (h : jOk x = false) : putW st lev x = .error 2 := by
  unfold putW
  split
  · rfl
  · rename_i c
    unfold jOk at h
    rw [decide_eq_true (show x.size ≤ 200 by omega), Bool.true_and] at h
    exact putI_bad h

theorem putW_yes {st : RS} {lev : Nat} {x : ByteArray} (h : jOk x = true) : putW st lev x = putIn st lev (nD (Dec.decT x.size x).1) := by
  unfold putW
  unfold jOk at h
  rw [Bool.and_eq_true] at h
  rw [if_neg (by have := of_decide_eq_true h.1; omega)]

theorem nD_nil : nD [] = [] := rfl

theorem putW_nil {st : RS} {lev : Nat} {l : List UInt8} (h : (nextL l).1 = []) : putW st lev (wdB l) = .error 2 := by
  apply putW_no
  unfold jOk wdB
  rw [h]
  rfl

theorem levR_nil {st : RS} {l : List UInt8} (h : (nextL l).1 = []) : levR st (wdB l) = .error 2 := by
  have e : levN (wdB l) = none := by
    unfold wdB levN
    rw [h]
    rfl
  unfold levR
  rw [e]

theorem readI_nil {l : List UInt8} {st : RS} (h : (nextL l).1 = []) : readW (wf l []) st = .ok st := by
  rw [wf_none h]; rfl

theorem readI_shift {l : List UInt8} {st : RS} (h : (nextL l).1 ≠ []) (hx : ((wdB l).toList == wShift) = true) : readW (wf l []) st = readW (wf (wdR l) []) { st with sh := true } := by
  rw [wf_some h]
  conv => lhs; unfold readW
  rw [if_pos hx]

theorem readW_levels {l : List UInt8} {st : RS} (h : (nextL l).1 ≠ []) (h1 : ((wdB l).toList == wShift) = false) (hx : ((wdB l).toList == wLevels) = true) :
    readW (wf l []) st = match levR st (wdB (wdR l)) with
      | .error c => .error c
      | .ok st' => readW (wf (wdR (wdR l)) []) st' := by
  rw [wf_some h]
  by_cases h2 : (nextL (wdR l)).1 = []
  · rw [wf_none h2, levR_nil h2]
    conv => lhs; unfold readW
    rw [if_neg (by simp [h1]), if_pos hx]
  · rw [wf_some h2]
    conv => lhs; unfold readW
    rw [if_neg (by simp [h1]), if_pos hx]
    simp only
    unfold levR
    cases levN (wdB (wdR l)) <;> rfl

theorem readW_op {l : List UInt8} {st : RS} {lev : Nat} (h : (nextL l).1 ≠ []) (h1 : ((wdB l).toList == wShift) = false) (h2 : ((wdB l).toList == wLevels) = false) (hx : levOf (wdB l) = some lev) :
    readW (wf l []) st = match putW st lev (wdB (wdR l)) with
      | .error c => .error c
      | .ok st' => readW (wf (wdR (wdR l)) []) st' := by
  rw [wf_some h]
  by_cases h3 : (nextL (wdR l)).1 = []
  · rw [wf_none h3, putW_nil h3]
    conv => lhs; unfold readW
    rw [if_neg (by simp [h1]), if_neg (by simp [h2]), hx]
  · rw [wf_some h3]
    conv => lhs; unfold readW
    rw [if_neg (by simp [h1]), if_neg (by simp [h2]), hx]
    simp only
    unfold putW
    split
    · rfl
    · cases putIn st lev (nD (Dec.decT (wdB (wdR l)).size (wdB (wdR l))).1) <;> rfl

theorem readW_bad {l : List UInt8} {st : RS} (h : (nextL l).1 ≠ []) (h1 : ((wdB l).toList == wShift) = false) (h2 : ((wdB l).toList == wLevels) = false) (hx : levOf (wdB l) = none) : readW (wf l []) st = .error 2 := by
  rw [wf_some h]
  conv => lhs; unfold readW
  rw [if_neg (by simp [h1]), if_neg (by simp [h2]), hx]

theorem putIn_code {st : RS} {lev : Nat} {l : List Int} {c : Int} (h : putIn st lev l = .error c) : c ≠ 0 := by
  unfold putIn at h
  split at h
  · cases h; decide
  · split at h
    · split at h
      · cases h; decide
      · split at h
        · cases h; decide
        · cases h
    · split at h
      · cases h; decide
      · split at h
        · cases h; decide
        · split at h
          · cases h
          · cases h; decide

theorem putW_code {st : RS} {lev : Nat} {x : ByteArray} {c : Int} (h : putW st lev x = .error c) : c ≠ 0 := by
  unfold putW at h
  split at h
  · cases h; decide
  · exact putIn_code h

theorem putW_inv {st st' : RS} {lev : Nat} {x : ByteArray} (hi : RInv st) (h : putW st lev x = .ok st') : RInv st' := by
  unfold putW at h
  split at h
  · cases h
  · exact putIn_inv hi h

theorem levN_some {x : ByteArray} {n : Int} (h : levN x = some n) : 1 ≤ n ∧ n ≤ 4 := by
  unfold levN at h
  split at h
  · cases h; omega
  · cases h

theorem levR_inv {st st' : RS} {x : ByteArray} (hi : RInv st) (h : levR st x = .ok st') : RInv st' := by
  unfold levR at h
  split at h
  · cases h
  · rename_i n hn
    cases h
    exact ⟨rulesOk_lv hi.good (levN_some hn), hi.f0, hi.f1, hi.s0, hi.s1, hi.t0, hi.t1⟩

theorem levR_code {st : RS} {x : ByteArray} {c : Int} (h : levR st x = .error c) : c ≠ 0 := by
  unfold levR at h
  split at h
  · cases h; decide
  · cases h

theorem shift_inv {st : RS} (hi : RInv st) : RInv { st with sh := true } := ⟨hi.good, hi.f0, hi.f1, hi.s0, hi.s1, hi.t0, hi.t1⟩

/-- The number that a second word tells, by its bytes. -/
theorem levN_lit (x : ByteArray) : levN x = if x.toList == [49, 93] then some 1 else if x.toList == [50, 93] then some 2 else if x.toList == [51, 93] then some 3 else if x.toList == [52, 93] then some 4 else none := by
  obtain ⟨⟨l⟩⟩ := x
  have e : (⟨⟨l⟩⟩ : ByteArray).toList = l := by rw [ByteArray.toList_eq]
  rw [e]
  unfold levN
  match l with
  | [] => rfl
  | [_] =>
    rw [if_neg (fun h => by have := h.1; simp [ByteArray.size] at this)]
    simp
  | [a, c] =>
    have s2 : (⟨⟨[a, c]⟩⟩ : ByteArray).size = 2 := rfl
    have b0 : Dec.bt ⟨⟨[a, c]⟩⟩ 0 = a.toNat := rfl
    have b1 : Dec.bt ⟨⟨[a, c]⟩⟩ 1 = c.toNat := rfl
    rw [s2, b0, b1]
    have inj : ∀ (p : UInt8) (n : Nat), n < 256 → (p = UInt8.ofNat n ↔ p.toNat = n) := fun p n hn => by
      constructor
      · intro h; rw [h]; simp; omega
      · intro h; rw [← h]; simp
    have c93 : (c = 93) ↔ c.toNat = 93 := inj c 93 (by omega)
    have a49 : (a = 49) ↔ a.toNat = 49 := inj a 49 (by omega)
    have a50 : (a = 50) ↔ a.toNat = 50 := inj a 50 (by omega)
    have a51 : (a = 51) ↔ a.toNat = 51 := inj a 51 (by omega)
    have a52 : (a = 52) ↔ a.toNat = 52 := inj a 52 (by omega)
    have eqs : ∀ k : UInt8, ([a, c] == [k, 93]) = decide (a = k ∧ c = 93) := fun k => by
      rw [Bool.eq_iff_iff]; simp
    rw [eqs, eqs, eqs, eqs]
    by_cases hc : c.toNat = 93
    · have hc' := c93.2 hc
      by_cases q1 : a.toNat = 49
      · simp [hc', a49.2 q1]
      · by_cases q2 : a.toNat = 50
        · simp [hc', a50.2 q2]
        · by_cases q3 : a.toNat = 51
          · simp [hc', a51.2 q3]
          · by_cases q4 : a.toNat = 52
            · simp [hc', a52.2 q4]
            · have n1 : ¬ a = 49 := fun h => q1 (a49.1 h)
              have n2 : ¬ a = 50 := fun h => q2 (a50.1 h)
              have n3 : ¬ a = 51 := fun h => q3 (a51.1 h)
              have n4 : ¬ a = 52 := fun h => q4 (a52.1 h)
              rw [if_neg (by omega)]
              simp [n1, n2, n3, n4]
    · have hc' : ¬ c = 93 := fun h => hc (c93.1 h)
      rw [if_neg (fun h => hc h.2.2.2)]
      simp [hc']
  | _ :: _ :: _ :: t =>
    rw [if_neg (fun h => by have := h.1; simp [ByteArray.size] at this)]
    simp
end Go.Proofs.YtanfebccenfffaaDoor
