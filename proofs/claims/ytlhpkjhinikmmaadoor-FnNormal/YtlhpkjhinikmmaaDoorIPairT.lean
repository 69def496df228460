/- Contract of the program's pairTogether, over its two tables of pairs. -/
import Derived.Test.YtlhpkjhinikmmaaDoorIPair
namespace Go.Proofs.YtlhpkjhinikmmaaDoor
open Go.RowKit

def togRes (o : Option Int) : Value := .tuple #[.int .i64 (o.getD 0), .bool o.isSome]
def byParts (x y : Int) : List Int → Bool := fun t => at0 t 1 == x && at0 t 2 == y
theorem byParts_yes {x y a b c : Int} (h1 : b = x) (h2 : c = y) : byParts x y [a, b, c] = true := by simp [byParts, at0, h1, h2]
theorem byParts_no {x y a b c : Int} (h : ¬ (b = x ∧ c = y)) : byParts x y [a, b, c] = false := by
  simp only [byParts, at0]; simp; intro h1 h2; exact h ⟨h1, h2⟩

theorem ret_t {o : Option Int} {a : Int} (h : o = some a) : Ending.returned (.tuple #[.int .i64 a, .bool true]) = .returned (togRes o) := by rw [h]; rfl
theorem ret_t0 {o : Option Int} (h : o = none) : Ending.returned (.tuple #[.int .i64 0, .bool false]) = .returned (togRes o) := by rw [h]; rfl

def QRel (n : Nat) (w : World) (p : List Int → Bool) (m o : Nat) (i : Value) (wr : World) : Prop :=
  ∃ k : Nat, k ≤ n ∧ i = .int .i64 k ∧ NoneI p (o + m * k) ∧ Below w.heap.size w wr

theorem q_next {n m o k : Nat} {w wr : World} {p : List Int → Bool} (hk : k < n) (hN : NoneI p (o + m * (k + 1))) (hb : Below w.heap.size w wr) : QRel n w p m o (.int .i64 ((k : Int) + 1)) wr := ⟨k + 1, hk, by go_num, hN, hb⟩

set_option maxRecDepth 100000 in
set_option maxHeartbeats 4000000 in
theorem implTog_any (x y : Int) (w : World) (hc : Held w 0 capF) (ho : Held w 1 othF) :
    Calls Tryd.prog 29 #[.int .i64 x, .int .i64 y] w fun e w' => e = .returned (togRes ((tabI.find? (byParts x y)).map (fun t => at0 t 0))) ∧ Below w.heap.size w w' := by
  obtain ⟨t, fr, hh0⟩ := hc
  have hlt1 := ho.lt
  have HO : Hid (Held w 1 othF) := ho
  have hh : w.heap[0]? = some (.cells capA t fr) := hh0
  clear hh0 ho
  go_enter Tryd.func29, Tryd.ntmps29
  go_wp2_with (refine wpList_load_row rfl 55 (.global 0) rfl 0 rfl t capA fr _ hh Tryd.underlying55 rfl (by kernel_rfl) ?_)
  clear hh
  go_loopw [12] (fun i wr => QRel 26 w (byParts x y) 2 0 i wr) (fun i _ => 26 - (intOf i).toNat)
  case atStart => exact ⟨0, Nat.zero_le _, rfl, fun j t hj => by omega, Below.refl _ _⟩
  case round =>
    obtain ⟨k, hk, rfl, HN0, hb⟩ := hrel
    have HN : Hid (NoneI (byParts x y) (0 + 2 * k)) := HN0
    clear HN0
    by_cases hlt : k < 26
    · have hi := fun w => cap_index k hlt w
      have HT := tabI_cap k (by simpa using hlt)
      obtain ⟨b1, b2⟩ := cap_bound k (by simpa using hlt)
      generalize at0 (capT.getD k []) 0 = a at *
      generalize at0 (capT.getD k []) 1 = b at *
      generalize at0 (capT.getD k []) 2 = c at *
      have hk8 : (k : Int) < 26 := by omega
      by_cases e : b = x ∧ c = y
      · have HF : Hid ((tabI.find? (byParts x y)).map (fun t => at0 t 0) = some a) := by
          show _ = _
          rw [findI_at HN.out (by rw [Nat.zero_add]; exact HT.1) (byParts_yes e.1 e.2)]; rfl
        obtain ⟨e1, e2⟩ := e
        subst e1
        subst e2
        clear HN HT
        go_wp2
        go_ret2
        exact ⟨ret_t HF.out, hb.alloc hb.size _⟩
      · have SM := fun w => small_any w a b c b1 b2
        have HN1 := HN.out.succ (t := [a, b, c]) (by rw [Nat.zero_add]; exact HT.1) (byParts_no e)
        have HT2 := HT.2
        have HC : Hid (∀ w1 : World, Below (wr.alloc (.cells #[.int .i64 a, .int .i64 b, .int .i64 c] 54)).heap.size (wr.alloc (.cells #[.int .i64 a, .int .i64 b, .int .i64 c] 54)) w1 → Below w.heap.size w w1) :=
          fun w1 hb1 => (hb.alloc hb.size _).trans (hb1.mono (hb.alloc hb.size _).size)
        have HS : Hid (¬ (b + 32 = x ∧ c = y) → NoneI (byParts x y) (0 + 2 * (k + 1))) := fun h => by
          rw [show 0 + 2 * (k + 1) = 0 + 2 * k + 1 + 1 by omega]; exact HN1.succ (t := [a + 32, b + 32, c]) (by rw [Nat.zero_add]; exact HT2) (byParts_no h)
        have HY : Hid (b + 32 = x ∧ c = y → (tabI.find? (byParts x y)).map (fun t => at0 t 0) = some (a + 32)) := fun h => by
          rw [findI_at HN1 (by rw [Nat.zero_add]; exact HT2) (byParts_yes h.1 h.2)]; rfl
        clear HN HT HN1 HT2 hb
        by_cases e1 : b = x
        · have e2 : (c == y) = false := by simpa using fun h => e ⟨e1, h⟩
          have e1' : (b == x) = true := by simpa using e1
          have e3 : (b + 32 == x) = false := by simp; omega
          have HS2 := HS.out (fun h => by omega)
          clear e e1 HS HY
          go_wp2_with fail
          refine (SM _).mono ?_
          rintro e w1 ⟨rfl, hb1⟩
          have hbb := HC.out w1 hb1
          have HP : Hid (QRel 26 w (byParts x y) 2 0 (.int .i64 ((k : Int) + 1)) (w1.alloc (.cells #[.int .i64 (a + 32), .int .i64 (b + 32), .int .i64 c] 54))) := q_next hlt HS2 (hbb.alloc hbb.size _)
          clear SM HC HS2
          go_wp2
          exact ⟨HP.out, by simp [intOf]; omega⟩
        · have e1' : (b == x) = false := by simpa using e1
          clear e
          go_wp2_with fail
          refine (SM _).mono ?_
          rintro e w1 ⟨rfl, hb1⟩
          have hbb := HC.out w1 hb1
          clear SM HC hb1 e1
          by_cases e3 : b + 32 = x
          · have e3' : (b + 32 == x) = true := by simpa using e3
            by_cases e4 : c = y
            · have HF : Hid _ := HY.out ⟨e3, e4⟩
              have e4' : (c == y) = true := by simpa using e4
              clear HS HY e3 e4
              go_wp2
              go_ret2
              exact ⟨ret_t HF.out, hbb.alloc hbb.size _⟩
            · have e4' : (c == y) = false := by simpa using e4
              have HP : Hid (QRel 26 w (byParts x y) 2 0 (.int .i64 ((k : Int) + 1)) (w1.alloc (.cells #[.int .i64 (a + 32), .int .i64 (b + 32), .int .i64 c] 54))) := q_next hlt (HS.out (fun h => e4 h.2)) (hbb.alloc hbb.size _)
              clear HS HY e3 e4
              go_wp2
              exact ⟨HP.out, by simp [intOf]; omega⟩
          · have e3' : (b + 32 == x) = false := by simpa using e3
            have HP : Hid (QRel 26 w (byParts x y) 2 0 (.int .i64 ((k : Int) + 1)) (w1.alloc (.cells #[.int .i64 (a + 32), .int .i64 (b + 32), .int .i64 c] 54))) := q_next hlt (HS.out (fun h => e3 h.1)) (hbb.alloc hbb.size _)
            clear HS HY e3
            go_wp2
            exact ⟨HP.out, by simp [intOf]; omega⟩
    · have hk26 : k = 26 := by omega
      subst hk26
      obtain ⟨t2, fr2, hh0⟩ := HO.out.below hb hlt1
      have hh : wr.heap[1]? = some (.cells othA t2 fr2) := hh0
      clear hh0 HO
      go_wp2_with (refine wpList_load_row rfl 57 (.global 1) rfl 1 rfl t2 othA fr2 _ hh Tryd.underlying57 rfl (by kernel_rfl) ?_)
      clear hh
      go_loopw [43] (fun i wr => QRel 5 w (byParts x y) 1 52 i wr) (fun i _ => 5 - (intOf i).toNat)
      case atStart => exact ⟨0, Nat.zero_le _, rfl, HN.out, hb⟩
      case round =>
        clear hb HN
        obtain ⟨k, hk, rfl, HN0, hb⟩ := hrel
        have HN : Hid (NoneI (byParts x y) (52 + 1 * k)) := HN0
        clear HN0
        by_cases hlt : k < 5
        · have hi := fun w => oth_index k hlt w
          have HT := tabI_oth k (by simpa using hlt)
          generalize at0 (othT.getD k []) 0 = a at *
          generalize at0 (othT.getD k []) 1 = b at *
          generalize at0 (othT.getD k []) 2 = c at *
          have hk8 : (k : Int) < 5 := by omega
          by_cases e : b = x ∧ c = y
          · have HF : Hid ((tabI.find? (byParts x y)).map (fun t => at0 t 0) = some a) := by
              show _ = _
              rw [findI_at HN.out (by rw [Nat.one_mul]; exact HT) (byParts_yes e.1 e.2)]; rfl
            obtain ⟨e1, e2⟩ := e
            subst e1
            subst e2
            clear HN HT
            go_wp2
            go_ret2
            exact ⟨ret_t HF.out, hb.alloc hb.size _⟩
          · have HN1 := HN.out.succ (t := [a, b, c]) (by rw [Nat.one_mul]; exact HT) (byParts_no e)
            have HP : Hid (QRel 5 w (byParts x y) 1 52 (.int .i64 ((k : Int) + 1)) (wr.alloc (.cells #[.int .i64 a, .int .i64 b, .int .i64 c] 54))) :=
              q_next hlt (by rw [show 52 + 1 * (k + 1) = 52 + 1 * k + 1 by omega]; exact HN1) (hb.alloc hb.size _)
            clear HN HT HN1
            by_cases e1 : b = x
            · have e2 : (c == y) = false := by simpa using fun h => e ⟨e1, h⟩
              have e1' : (b == x) = true := by simpa using e1
              clear e e1
              go_wp2
              exact ⟨HP.out, by simp [intOf]; omega⟩
            · have e1' : (b == x) = false := by simpa using e1
              clear e e1
              go_wp2
              exact ⟨HP.out, by simp [intOf]; omega⟩
        · have HF : Hid ((tabI.find? (byParts x y)).map (fun t => at0 t 0) = none) := by
            show _ = _
            rw [findI_no HN.out (by omega)]; rfl
          clear HN
          go_wp2
          go_ret2
          exact ⟨ret_t0 HF.out, hb⟩
end Go.Proofs.YtlhpkjhinikmmaaDoor
