/- Runs of runes, marks that go into them from behind others, and the elems of runes, without memory. -/
import Derived.Test.YtinjldagfhbioaaGreatDoorPEnt
import Derived.Test.YtinjldagfhbioaaGreatDoorSBase
namespace Go.Proofs.YtinjldagfhbioaaGreatDoor

/-- Whether a mark at place k of what is left is blocked. -/
def blkB (rest : List Int) (k : Nat) (c : Int) : Bool := (rest.take k).any fun x => decide (c ≤ cls x)

def markFrom (es : List Ent) (run rest : List Int) : List Int → Nat → Int
  | [], _ => -1
  | m :: ms, k => if cls m = 0 then -1 else if blkB rest k (cls m) = false ∧ 0 ≤ atE es (run ++ [m]) then (k : Int) else markFrom es run rest ms (k + 1)

/-- The place of the mark that goes into the run next; less than 0: none. -/
def markAt (es : List Ent) (run rest : List Int) : Int := markFrom es run rest rest 0

theorem int_drop {l : List Int} {k : Nat} {x : Int} (h : l[k]? = some x) : l.drop k = x :: l.drop (k + 1) := by
  obtain ⟨hk, rfl⟩ := List.getElem?_eq_some_iff.1 h
  exact List.drop_eq_getElem_cons hk

theorem blk_step {rest : List Int} {j : Nat} {c x : Int} (h : rest[j]? = some x) : blkB rest (j + 1) c = (blkB rest j c || decide (c ≤ cls x)) := by
  unfold blkB
  rw [List.take_add_one, h]
  simp

theorem markFrom_cases (es : List Ent) (run rest : List Int) (ms : List Int) (k : Nat) : markFrom es run rest ms k = -1 ∨ ∃ j : Nat, k ≤ j ∧ j < k + ms.length ∧ markFrom es run rest ms k = (j : Int) := by
  induction ms generalizing k with
  | nil => exact .inl rfl
  | cons m ms ih =>
    unfold markFrom
    split
    · exact .inl rfl
    · split
      · exact .inr ⟨k, Nat.le_refl _, by simp, rfl⟩
      · rcases ih (k + 1) with h | ⟨j, h1, h2, h3⟩
        · exact .inl h
        · exact .inr ⟨j, by omega, by simp; omega, h3⟩

theorem mark_cases (es : List Ent) (run rest : List Int) : markAt es run rest = -1 ∨ ∃ j : Nat, j < rest.length ∧ markAt es run rest = (j : Int) := by
  rcases markFrom_cases es run rest rest 0 with h | ⟨j, _, h2, h3⟩
  · exact .inl h
  · exact .inr ⟨j, by omega, h3⟩

/-- Whether the first k runes are an entry's. -/
def hitN (es : List Ent) (l : List Int) (k : Nat) : Bool := decide (k ≤ l.length) && decide (0 ≤ atE es (l.take k))

/-- How many runes at the front are a run. -/
def runN (es : List Ent) (l : List Int) : Nat := if hitN es l 4 = true then 4 else if hitN es l 3 = true then 3 else if hitN es l 2 = true then 2 else 1

/-- The same, of those below k. -/
def runTo (es : List Ent) (l : List Int) : Nat → Nat
  | 0 => 1
  | k + 1 => if 2 ≤ k ∧ hitN es l k = true then k else runTo es l k

theorem hitN_len {es : List Ent} {l : List Int} {k : Nat} (h : hitN es l k = true) : k ≤ l.length := by
  unfold hitN at h
  simp at h
  exact h.1

theorem hitN_far {es : List Ent} {l : List Int} {k : Nat} (h : l.length < k) : hitN es l k = false := by
  unfold hitN
  rw [decide_eq_false (by omega), Bool.false_and]

theorem hitN_near {es : List Ent} {l : List Int} {k : Nat} (h : k ≤ l.length) : hitN es l k = decide (0 ≤ atE es (l.take k)) := by
  unfold hitN
  rw [decide_eq_true h, Bool.true_and]

theorem runTo_two (es : List Ent) (l : List Int) : runTo es l 2 = 1 := by simp [runTo]

theorem runTo_succ {es : List Ent} {l : List Int} {k : Nat} (hk : 2 ≤ k) : runTo es l (k + 1) = if hitN es l k = true then k else runTo es l k := by
  rw [runTo]
  simp [hk]

theorem runTo_five (es : List Ent) (l : List Int) : runTo es l 5 = runN es l := by
  rw [runTo_succ (by omega), runTo_succ (by omega), runTo_succ (by omega), runTo_two]
  rfl

theorem runTo_far {es : List Ent} {l : List Int} {k : Nat} (h2 : 2 ≤ k) (h5 : k ≤ 5) (h : l.length < k) : runTo es l k = runN es l := by
  rw [← runTo_five]
  have step : ∀ d, k + d ≤ 5 → runTo es l (k + d) = runTo es l k := by
    intro d
    induction d with
    | zero => intro _; rfl
    | succ d ih =>
      intro hd
      rw [show k + (d + 1) = (k + d) + 1 by omega, runTo_succ (by omega), hitN_far (by omega)]
      exact ih (by omega)
  have := step (5 - k) (by omega)
  rw [show k + (5 - k) = 5 by omega] at this
  exact this.symm

theorem runTo_bd {es : List Ent} {l : List Int} {k : Nat} (h : 1 ≤ l.length) : 1 ≤ runTo es l k ∧ runTo es l k ≤ l.length ∧ runTo es l k ≤ max 1 (k - 1) := by
  induction k with
  | zero => exact ⟨Nat.le_refl _, h, by simp [runTo]⟩
  | succ k ih =>
    rw [runTo]
    split
    · rename_i c
      have := hitN_len c.2
      omega
    · omega

theorem runN_bd {es : List Ent} {l : List Int} (h : 1 ≤ l.length) : 1 ≤ runN es l ∧ runN es l ≤ l.length ∧ runN es l ≤ 4 := by
  have := runTo_bd (es := es) (k := 5) h
  rw [runTo_five] at this
  omega

theorem runN_hit {es : List Ent} {l : List Int} {k : Nat} (h2 : 2 ≤ k) (h4 : k ≤ 4) (h : hitN es l k = true) (hn : ∀ j, k < j → j ≤ 4 → hitN es l j = false) : runN es l = k := by
  unfold runN
  obtain rfl | rfl | rfl : k = 2 ∨ k = 3 ∨ k = 4 := by omega
  · rw [hn 4 (by omega) (by omega), hn 3 (by omega) (by omega), h]; simp
  · rw [hn 4 (by omega) (by omega), h]; simp
  · rw [h]; simp

theorem runN_one {es : List Ent} {l : List Int} (hn : ∀ j, 1 < j → j ≤ 4 → hitN es l j = false) : runN es l = 1 := by
  unfold runN
  rw [hn 4 (by omega) (by omega), hn 3 (by omega) (by omega), hn 2 (by omega) (by omega)]; simp

/-- A run and what is left, once all marks that may have gone into it. -/
def grabF (es : List Ent) : Nat → List Int → List Int → List Int × List Int
  | 0, run, rest => (run, rest)
  | f + 1, run, rest => if markAt es run rest < 0 then (run, rest) else grabF es f (run ++ [at0 rest (markAt es run rest).toNat]) (rest.eraseIdx (markAt es run rest).toNat)

def grab (es : List Ent) (run rest : List Int) : List Int × List Int := grabF es rest.length run rest

theorem grab_stop {es : List Ent} {run rest : List Int} (h : markAt es run rest = -1) : grab es run rest = (run, rest) := by
  unfold grab
  cases rest.length with
  | zero => rfl
  | succ n => rw [grabF, if_pos (by omega)]

theorem grab_go {es : List Ent} {run rest : List Int} {k : Nat} (hk : k < rest.length) (h : markAt es run rest = (k : Int)) : grab es run rest = grab es (run ++ [at0 rest k]) (rest.eraseIdx k) := by
  unfold grab
  rw [List.length_eraseIdx_of_lt hk]
  obtain ⟨n, hn⟩ : ∃ n, rest.length = n + 1 := ⟨rest.length - 1, by omega⟩
  rw [hn, grabF, if_neg (by omega), h, Int.toNat_natCast]
  rfl

/-- What all runes, the first one and the number of them keep. -/
theorem grabF_kept (es : List Ent) (f : Nat) (run rest : List Int) (h1 : 1 ≤ run.length) :
    (grabF es f run rest).1.length + (grabF es f run rest).2.length = run.length + rest.length ∧ 1 ≤ (grabF es f run rest).1.length ∧ at0 (grabF es f run rest).1 0 = at0 run 0 ∧
    (∀ x ∈ (grabF es f run rest).1, x ∈ run ∨ x ∈ rest) ∧ (∀ x ∈ (grabF es f run rest).2, x ∈ rest) := by
  induction f generalizing run rest with
  | zero => exact ⟨rfl, h1, rfl, fun x hx => .inl hx, fun x hx => hx⟩
  | succ f ih =>
    unfold grabF
    split
    · exact ⟨rfl, h1, rfl, fun x hx => .inl hx, fun x hx => hx⟩
    · rename_i c
      rcases mark_cases es run rest with h | ⟨j, hj, h⟩
      · omega
      · rw [h, Int.toNat_natCast]
        obtain ⟨a, b, d, e, g⟩ := ih (run ++ [at0 rest j]) (rest.eraseIdx j) (by simp)
        refine ⟨?_, b, ?_, ?_, ?_⟩
        · rw [a, List.length_append, List.length_eraseIdx_of_lt hj]
          simp
          omega
        · rw [d]
          unfold at0
          rw [List.getElem?_append_left (by omega)]
        · intro x hx
          rcases e x hx with h1 | h1
          · rcases List.mem_append.1 h1 with h2 | h2
            · exact .inl h2
            · right
              simp only [List.mem_singleton] at h2
              subst h2
              unfold at0
              rw [List.getElem?_eq_getElem hj]
              exact List.getElem_mem hj
          · exact .inr (List.mem_of_mem_eraseIdx h1)
        · intro x hx
          exact List.mem_of_mem_eraseIdx (g x hx)

theorem grab_kept (es : List Ent) (run rest : List Int) (h1 : 1 ≤ run.length) :
    (grab es run rest).1.length + (grab es run rest).2.length = run.length + rest.length ∧ 1 ≤ (grab es run rest).1.length ∧ at0 (grab es run rest).1 0 = at0 run 0 ∧
    (∀ x ∈ (grab es run rest).1, x ∈ run ∨ x ∈ rest) ∧ (∀ x ∈ (grab es run rest).2, x ∈ rest) := grabF_kept es rest.length run rest h1

/-- The elems of a run. -/
def elsOf (es : List Ent) (run : List Int) : List El := match entOf es run with
  | some e => [e]
  | none => base (at0 run 0)

theorem elsOf_len (es : List Ent) (run : List Int) : (elsOf es run).length ≤ 2 := by
  unfold elsOf
  split
  · simp
  · exact base_len _

/-- The run at the front, with the marks that go into it, and what is left. -/
def take4 (es : List Ent) (l : List Int) : List Int × List Int := grab es (l.take (runN es l)) (l.drop (runN es l))

theorem take4_kept {es : List Ent} {l : List Int} (h : 1 ≤ l.length) :
    (take4 es l).1.length + (take4 es l).2.length = l.length ∧ 1 ≤ (take4 es l).1.length ∧ at0 (take4 es l).1 0 = at0 l 0 ∧ (∀ x ∈ (take4 es l).1, x ∈ l) ∧ (∀ x ∈ (take4 es l).2, x ∈ l) := by
  obtain ⟨b1, b2, b3⟩ := runN_bd (es := es) h
  obtain ⟨a, b, c, d, e⟩ := grab_kept es (l.take (runN es l)) (l.drop (runN es l)) (by rw [List.length_take]; omega)
  refine ⟨?_, b, ?_, ?_, ?_⟩
  · show (grab es _ _).1.length + (grab es _ _).2.length = _
    rw [a, List.length_take, List.length_drop]
    omega
  · show at0 (grab es _ _).1 0 = _
    rw [c]
    unfold at0
    rw [List.getElem?_take_of_lt (by omega)]
  · intro x hx
    rcases d x hx with h | h
    · exact List.mem_of_mem_take h
    · exact List.mem_of_mem_drop h
  · intro x hx
    exact List.mem_of_mem_drop (e x hx)

def elemsF (es : List Ent) : Nat → List Int → List El
  | 0, _ => []
  | f + 1, l => if l.length = 0 then [] else elsOf es (take4 es l).1 ++ elemsF es f (take4 es l).2

/-- The elems of runes. -/
def elems4 (es : List Ent) (l : List Int) : List El := elemsF es l.length l

theorem elemsF_more (es : List Ent) (f g : Nat) (l : List Int) (h1 : l.length ≤ f) (h2 : l.length ≤ g) : elemsF es f l = elemsF es g l := by
  induction f generalizing g l with
  | zero =>
    have : l.length = 0 := by omega
    cases g with
    | zero => rfl
    | succ g => rw [elemsF, elemsF, if_pos this]
  | succ f ih =>
    by_cases c : l.length = 0
    · cases g with
      | zero => rw [elemsF, elemsF, if_pos c]
      | succ g => rw [elemsF, elemsF, if_pos c, if_pos c]
    · cases g with
      | zero => omega
      | succ g =>
        have := take4_kept (es := es) (l := l) (by omega)
        rw [elemsF, elemsF, if_neg c, if_neg c, ih g (take4 es l).2 (by omega) (by omega)]

theorem elems4_nil (es : List Ent) : elems4 es [] = [] := rfl

theorem elems4_step {es : List Ent} {l : List Int} (h : 1 ≤ l.length) : elems4 es l = elsOf es (take4 es l).1 ++ elems4 es (take4 es l).2 := by
  unfold elems4
  obtain ⟨n, hn⟩ : ∃ n, l.length = n + 1 := ⟨l.length - 1, by omega⟩
  have := take4_kept (es := es) h
  rw [hn, elemsF, if_neg (by omega), elemsF_more es n (take4 es l).2.length (take4 es l).2 (by omega) (Nat.le_refl _)]

theorem elemsF_len (es : List Ent) (f : Nat) (l : List Int) : (elemsF es f l).length ≤ 2 * l.length := by
  induction f generalizing l with
  | zero => exact Nat.zero_le _
  | succ f ih =>
    rw [elemsF]
    split
    · exact Nat.zero_le _
    · have := take4_kept (es := es) (l := l) (by omega)
      have h2 := ih (take4 es l).2
      have h3 := elsOf_len es (take4 es l).1
      rw [List.length_append]
      omega

theorem elems4_len (es : List Ent) (l : List Int) : (elems4 es l).length ≤ 2 * l.length := elemsF_len es l.length l

/-- What holds of every elem of the entries and of every rune's holds of a text's. -/
theorem elemsF_all {P : El → Prop} {es : List Ent} (hes : ∀ e ∈ es, P e.el) (f : Nat) (l : List Int) (hl : ∀ x ∈ l, ∀ e ∈ base x, P e) : ∀ e ∈ elemsF es f l, P e := by
  induction f generalizing l with
  | zero => intro e he; cases he
  | succ f ih =>
    intro e he
    rw [elemsF] at he
    split at he
    · cases he
    · rename_i c
      have hk := take4_kept (es := es) (l := l) (by omega)
      rcases List.mem_append.1 he with h | h
      · unfold elsOf at h
        split at h
        · rename_i x hx
          simp only [List.mem_singleton] at h
          subst h
          unfold entOf at hx
          split at hx
          · obtain ⟨y, hy, rfl⟩ := Option.map_eq_some_iff.1 hx
            exact hes y (List.mem_of_getElem? hy)
          · cases hx
        · refine hl (at0 (take4 es l).1 0) ?_ e h
          rw [hk.2.2.1]
          unfold at0
          rw [List.getElem?_eq_getElem (show 0 < l.length by omega)]
          exact List.getElem_mem _
      · exact ih _ (fun x hx => hl x (hk.2.2.2.2 x hx)) e h

theorem elems4_all {P : El → Prop} {es : List Ent} (hes : ∀ e ∈ es, P e.el) (l : List Int) (hl : ∀ x ∈ l, ∀ e ∈ base x, P e) : ∀ e ∈ elems4 es l, P e := elemsF_all hes l.length l hl
end Go.Proofs.YtinjldagfhbioaaGreatDoor
