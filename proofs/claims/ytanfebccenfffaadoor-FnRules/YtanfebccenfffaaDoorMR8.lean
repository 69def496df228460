/- Texts of mine laid together: IRead, IReadR, WRules, Cur. -/
import Derived.Test.YtanfebccenfffaaDoorMR7
import Derived.WalkMore
import Derived.ScopeJumps
import Derived.Laws.ResultCell
import Derived.Deep.WholeRow
import Derived.Test.YtanfebccenfffaaDoorPRul
import Derived.Test.YtanfebccenfffaaDoorMR2
import Derived.Test.YtanfebccenfffaaDoorMR6
import Derived.Test.YtanfebccenfffaaDoorMR1
import Derived.Test.YtanfebccenfffaaDoorProg
import Derived.Test.YtanfebccenfffaaDoorInts
import Derived.WalkKit
import Derived.WalkSpells
import Derived.WalkLawsBesides
import Derived.WalkSmall
import Derived.BigQuiet
import Derived.Deep.QuietTactic
namespace Go.Proofs.YtanfebccenfffaaDoor
open Go.RowKit

/-- The length of what the reader has left. -/
def leftOf (b : Nat) (u : World) : Nat := match u.cell? ⟨b, 0, none⟩ with
  | some (.string s) => s.size
  | _ => 0

theorem leftOf_rd {w u : World} {b T : Nat} {l : List UInt8} {st : RS} {vE : Value} (h : RdM w u b T l st vE) : leftOf b u = l.length := by
  unfold leftOf
  rw [h.cells.1]
  simp [ByteArray.size]

theorem wdR_lt {l : List UInt8} (h : (nextL l).1 ≠ []) : (wdR l).length < l.length := by
  unfold wdR
  induction l with
  | nil => exact absurd rfl h
  | cons x l ih =>
    by_cases hx : x = 32
    · have e : nextL (x :: l) = nextL l := by simp [nextL, hx]
      rw [e] at h ⊢
      have := ih h
      simp only [List.length_cons]
      omega
    · have e : (nextL (x :: l)).2 = (l.dropWhile (· != 32)).drop 1 := by simp [nextL, hx]
      rw [e]
      have := (List.dropWhile_sublist (l := l) (fun y => y != 32)).length_le
      simp only [List.length_drop, List.length_cons]
      omega

/-- What holds at each word. -/
def RdJ (w : World) (b : Nat) (R : Except Int RS) (u : World) : Prop := ∃ l T st vE, RdM w u b T l st vE ∧ RInv st ∧ l.length ≤ 1048576 ∧ readW (wf l []) st = R

/-- What read leaves. -/
def RdEnd (w : World) (b : Nat) (R : Except Int RS) (c : Int) (u : World) : Prop := ∃ l, Out w u b l R c

theorem wp_scope_back {P : Program} {a : Act} {w : World} {Q : Exit → Act → World → Prop} {r1 rest : Code} (l : Nat) (J : Act → World → Prop) (μ : Act → World → Nat) (hf : findLabel (r1.seq ((Code.label l).seq rest)) l = some (Code.skip.seq rest))
    (first : r1.wp P (fun e a w => e = .normal ∧ J a w) a w)
    (pass : ∀ a w, J a w → rest.wp P (Exit.jump l (fun a' w' => J a' w' ∧ μ a' w' < μ a w) Q) a w) : (Code.scope (r1.seq ((Code.label l).seq rest))).wp P Q a w := by
  refine wp_scope_jumps l J μ hf ?_ (fun a w hJ => wp_seq (wp_skip (show Code.wp P rest _ a w from pass a w hJ)))
  refine wp_seq (wp_mono first ?_)
  rintro e a w ⟨rfl, hJ⟩
  show ((Code.label l).seq rest).wp P (Exit.jump l J Q) a w
  refine wp_seq (wp_label ?_)
  show rest.wp P (Exit.jump l J Q) a w
  refine wp_mono (pass a w hJ) ?_
  intro e a' w' hq
  cases e with
  | goto l' => exact ⟨hq.1, hq.2.1⟩
  | normal => exact hq
  | exit _ => exact hq
  | ret => exact hq
  | panic _ => exact hq
  | outgrown => exact hq

theorem rd_next {w u u' : World} {b T T' : Nat} {l l' : List UInt8} {st st' : RS} {vE vE' : Value} {R : Except Int RS} (hm : RdM w u b T l st vE) (hm' : RdM w u' b T' l' st' vE') (hi : RInv st') (hlt : l'.length < l.length) (hl : l.length ≤ 1048576) (hR : readW (wf l' []) st' = R) : RdJ w b R u' ∧ leftOf b u' < leftOf b u :=
  ⟨⟨l', T', st', vE', hm', hi, by omega, hR⟩, by rw [leftOf_rd hm, leftOf_rd hm']; exact hlt⟩

theorem levOf_lit (x : ByteArray) : levOf x = if (x.toList == [38]) = true then some 0 else if (x.toList == [60]) = true then some 1 else if (x.toList == [60, 60]) = true then some 2 else if (x.toList == [60, 60, 60]) = true then some 3 else none := rfl

theorem size_of_list {x : ByteArray} {l : List UInt8} (h : (x.toList == l) = true) : x.size = l.length := by
  have e := beq_iff_eq.1 h
  rw [ByteArray.toList_eq] at e
  rw [← e, Array.length_toList]
  rfl

/-- Where the words go on behind one. -/
def goOn (r : Except Int RS) (l : List UInt8) : Except Int RS := match r with
  | .error c => .error c
  | .ok st' => readW (wf l []) st'

/-- What one word leads to: an end, or the next word. -/
theorem step_end {w u u' : World} {b T : Nat} {l l' : List UInt8} {st : RS} {vE : Value} {R r : Except Int RS} {c : Int} (hm : RdM w u b T l st vE) (hlt : l'.length < l.length) (hl : l.length ≤ 1048576) (hinv : ∀ st', r = .ok st' → RInv st')
    (hR : R = goOn r l') (h : Out w u' b l' r c) : (c ≠ 0 ∧ RdEnd w b R c u') ∨ (c = 0 ∧ RdJ w b R u' ∧ leftOf b u' < leftOf b u) := by
  rcases h with ⟨h1, h2, h3⟩ | ⟨st', T', vE', h1, h2, h3⟩
  · rw [h1] at hR
    exact .inl ⟨h2, l', .inl ⟨hR, h2, h3⟩⟩
  · rw [h1] at hR
    exact .inr ⟨h2, rd_next hm h3 (hinv st' h1) hlt hl hR.symm⟩

set_option maxRecDepth 100000 in
set_option maxHeartbeats 16000000 in
theorem readI_any {w u : World} {b T : Nat} {l : List UInt8} {st : RS} {vE : Value} (h : RdM w u b T l st vE) (hl : l.length ≤ 1048576) (hi : RInv st) :
    Calls Tryd.prog 43 #[.pointer (some ⟨b, 0, none⟩)] u fun e u' => ∃ c, e = .returned (.int .i64 c) ∧ RdEnd w b (readW (wf l []) st) c u' := by
  obtain ⟨R, HR⟩ : ∃ R, Hid (readW (wf l []) st = R) := ⟨_, rfl⟩
  rw [HR.out]
  have HJ : Hid (RdJ w b R u) := ⟨l, T, st, vE, h, hi, hl, HR.out⟩
  clear h hl hi HR
  go_enter Tryd.func43, Tryd.ntmps43
  go_wp2
  refine wp_scope_back 0 (fun a' u' => RdJ w b R u' ∧ ∃ (u4 u5 u6 u7 u8 u9 u10 u11 u12 u13 u14 u15 u16 u17 u18 u19 u20 u21 u22 u23 u24 u25 u26 u27 u28 u29 u30 u31 u32 u33 u34 u35 : Value), a' = { tmps := #[.pointer (some ⟨b, 0, none⟩), undef, .int .i64 0, .int .i64 0, u4, u5, u6, u7, u8, u9, u10, u11, u12, u13, u14, u15, u16, u17, u18, u19, u20, u21, u22, u23, u24, u25, u26, u27, u28, u29, u30, u31, u32, u33, u34, u35], defers := [] }) (fun _ u' => leftOf b u') rfl ?_ ?_
  · go_wp2
    exact HJ.out
  · clear HJ
    rintro a u0 ⟨⟨l, T, st, vE, hm, hi, hl, hR⟩, u4, u5, u6, u7, u8, u9, u10, u11, u12, u13, u14, u15, u16, u17, u18, u19, u20, u21, u22, u23, u24, u25, u26, u27, u28, u29, u30, u31, u32, u33, u34, u35, rfl⟩
    have NW := nextWd_any hm hl
    have HM0 : Hid (RdM _ _ _ _ _ _ _) := hm
    have HI : Hid (RInv st) := hi
    have HR : Hid (readW (wf l []) st = R) := hR
    clear hm hi hR
    by_cases he : (nextL l).1 = []
    · have e0 : ((wdB l).toList == []) = true := by unfold wdB; rw [he, ByteArray.toList_eq]; rfl
      have e1 : (wdB l).toList.isEmpty = true := by unfold wdB; rw [he, ByteArray.toList_eq]; rfl
      have HE : Hid (∀ u1, RdM w u1 b T (wdR l) st vE → RdEnd w b R 0 u1) := fun u1 h1 => ⟨_, .inr ⟨st, T, vE, by rw [← HR.out, readI_nil he], rfl, h1⟩⟩
      generalize wdB l = x at *
      clear he HR HI HM0
      go_wp2_with fail
      refine NW.mono ?_
      rintro e u1 ⟨rfl, hm1⟩
      have hE := HE.out _ hm1
      clear NW HE hm1
      go_wp2
      simp only [Exit.jump]
      go_ret
      exact ⟨0, rfl, hE⟩
    · have hne : ∃ y ys, (nextL l).1 = y :: ys := by
        cases c : (nextL l).1 with
        | nil => exact absurd c he
        | cons y ys => exact ⟨y, ys, rfl⟩
      have z0 : ((wdB l).toList == []) = false := by
        obtain ⟨y, ys, h⟩ := hne
        unfold wdB; rw [h, ByteArray.toList_eq]; simp
      have z1 : (wdB l).toList.isEmpty = false := by
        obtain ⟨y, ys, h⟩ := hne
        unfold wdB; rw [h, ByteArray.toList_eq]; simp
      clear hne
      have hlt := wdR_lt he
      have hl1 : (wdR l).length ≤ 1048576 := by omega
      have hlt2 : (wdR (wdR l)).length < l.length := Nat.lt_of_le_of_lt (wd_len (wdR l)).2 hlt
      by_cases n_shift : ((wdB l).toList == [91, 115, 104, 105, 102, 116, 101, 100, 93]) = true
      · have ST : Hid (∀ u1, RdM w u1 b T (wdR l) { st with sh := true } vE → RdJ w b R u1 ∧ leftOf b u1 < leftOf b u0) := fun u1 h1 => rd_next HM0.out h1 (shift_inv HI.out) hlt hl (by rw [← HR.out, readI_shift he n_shift])
        generalize wdB l = x at *
        clear he HR HI HM0
        go_wp2_with fail
        refine NW.mono ?_
        rintro e u1 ⟨rfl, hm1⟩
        have hJ2 := ST.out _ (hm1.set (i := 2) (x := .bool true) (l' := wdR l) (st' := { st with sh := true }) (vE' := vE) rfl rfl rfl)
        obtain ⟨_, _, c2, _, _, _, _, _, _, fz⟩ := hm1.cells
        have hb1 := hm1.lt
        clear NW ST hm1
        go_wp2
        go_step3
        exact ⟨rfl, ⟨hJ2.1, _, _, _, _, _, _, _, _, _, _, _, _, _, _, _, _, _, _, _, _, _, _, _, _, _, _, _, _, _, _, _, _, rfl⟩, hJ2.2⟩
      · have f_shift : ((wdB l).toList == [91, 115, 104, 105, 102, 116, 101, 100, 93]) = false := by simpa using n_shift
        by_cases n_lev : ((wdB l).toList == [91, 108, 101, 118, 101, 108, 115]) = true
        · have ST : Hid (∀ u2 c, Out w u2 b (wdR (wdR l)) (levR st (wdB (wdR l))) c → (c ≠ 0 ∧ RdEnd w b R c u2) ∨ (c = 0 ∧ RdJ w b R u2 ∧ leftOf b u2 < leftOf b u0)) := fun u2 c h2 => step_end HM0.out hlt2 hl (fun st' h => levR_inv HI.out h) (by rw [← HR.out, readW_levels he f_shift n_lev]; unfold goOn; cases levR st (wdB (wdR l)) <;> rfl) h2
          generalize wdB l = x at *
          clear he HR HI HM0
          go_wp2_with fail
          refine NW.mono ?_
          rintro e u1 ⟨rfl, hm1⟩
          have C1 := levels_any hm1 hl1
          clear NW hm1
          go_wp2_with fail
          refine C1.mono ?_
          rintro e u2 ⟨c, rfl, ho⟩
          clear C1
          rcases ST.out _ _ ho with ⟨hc, hE⟩ | ⟨rfl, hJ2⟩
          · have hc2 : (c == 0) = false := by simpa using hc
            clear ST ho hc
            go_wp2
            simp only [Exit.jump]
            go_ret
            exact ⟨c, rfl, hE⟩
          · clear ST ho
            go_wp2
            go_step3
            exact ⟨rfl, ⟨hJ2.1, _, _, _, _, _, _, _, _, _, _, _, _, _, _, _, _, _, _, _, _, _, _, _, _, _, _, _, _, _, _, _, _, rfl⟩, hJ2.2⟩
        · have f_lev : ((wdB l).toList == [91, 108, 101, 118, 101, 108, 115]) = false := by simpa using n_lev
          have OP : Hid (∀ lev, levOf (wdB l) = some lev → ∀ u2 c, Out w u2 b (wdR (wdR l)) (putW st lev (wdB (wdR l))) c → (c ≠ 0 ∧ RdEnd w b R c u2) ∨ (c = 0 ∧ RdJ w b R u2 ∧ leftOf b u2 < leftOf b u0)) := fun lev hx u2 c h2 => step_end HM0.out hlt2 hl (fun st' h => putW_inv HI.out h) (by rw [← HR.out, readW_op he f_shift f_lev hx]; unfold goOn; cases putW st lev (wdB (wdR l)) <;> rfl) h2
          have BAD : Hid (levOf (wdB l) = none → R = .error 2) := fun hx => by rw [← HR.out, readW_bad he f_shift f_lev hx]
          have LO : Hid (levOf (wdB l) = if ((wdB l).toList == [38]) = true then some 0 else if ((wdB l).toList == [60]) = true then some 1 else if ((wdB l).toList == [60, 60]) = true then some 2 else if ((wdB l).toList == [60, 60, 60]) = true then some 3 else none) := levOf_lit (wdB l)
          generalize wdB l = x at *
          clear he HR HM0 n_shift n_lev
          by_cases n_amp : (x.toList == [38]) = true
          · have ST : Hid _ := OP.out 0 (LO.out.trans (by rw [if_pos n_amp]))
            clear OP BAD LO
            go_wp2_with fail
            refine NW.mono ?_
            rintro e u1 ⟨rfl, hm1⟩
            have C1 := reset_any hm1 hl1 HI.out
            clear NW hm1
            go_wp2_with fail
            refine C1.mono ?_
            rintro e u2 ⟨c, rfl, ho⟩
            clear C1
            rcases ST.out _ _ ho with ⟨hc, hE⟩ | ⟨rfl, hJ2⟩
            · have hc2 : (c == 0) = false := by simpa using hc
              clear ST ho hc
              go_wp2
              simp only [Exit.jump]
              go_ret
              exact ⟨c, rfl, hE⟩
            · clear ST ho
              go_wp2
              go_step3
              exact ⟨rfl, ⟨hJ2.1, _, _, _, _, _, _, _, _, _, _, _, _, _, _, _, _, _, _, _, _, _, _, _, _, _, _, _, _, _, _, _, _, rfl⟩, hJ2.2⟩
          · have f_amp : (x.toList == [38]) = false := by simpa using n_amp
            by_cases n_l1 : (x.toList == [60]) = true
            · have hsz : x.size = 1 := size_of_list n_l1
              have ST : Hid _ := OP.out x.size (by rw [hsz]; exact LO.out.trans (by rw [if_neg n_amp, if_pos n_l1]))
              have hlv : x.size = 1 ∨ x.size = 2 ∨ x.size = 3 := by omega
              clear OP BAD LO hsz n_amp
              go_wp2_with fail
              refine NW.mono ?_
              rintro e u1 ⟨rfl, hm1⟩
              have C1 := put_any hm1 hl1 HI.out hlv
              clear NW hm1
              go_wp2_with fail
              refine C1.mono ?_
              rintro e u2 ⟨c, rfl, ho⟩
              clear C1
              rcases ST.out _ _ ho with ⟨hc, hE⟩ | ⟨rfl, hJ2⟩
              · have hc2 : (c == 0) = false := by simpa using hc
                clear ST ho hc
                go_wp2
                simp only [Exit.jump]
                go_ret
                exact ⟨c, rfl, hE⟩
              · clear ST ho
                go_wp2
                go_step3
                exact ⟨rfl, ⟨hJ2.1, _, _, _, _, _, _, _, _, _, _, _, _, _, _, _, _, _, _, _, _, _, _, _, _, _, _, _, _, _, _, _, _, rfl⟩, hJ2.2⟩
            · have f_l1 : (x.toList == [60]) = false := by simpa using n_l1
              by_cases n_l2 : (x.toList == [60, 60]) = true
              · have hsz : x.size = 2 := size_of_list n_l2
                have ST : Hid _ := OP.out x.size (by rw [hsz]; exact LO.out.trans (by rw [if_neg n_amp, if_neg n_l1, if_pos n_l2]))
                have hlv : x.size = 1 ∨ x.size = 2 ∨ x.size = 3 := by omega
                clear OP BAD LO hsz n_amp n_l1
                go_wp2_with fail
                refine NW.mono ?_
                rintro e u1 ⟨rfl, hm1⟩
                have C1 := put_any hm1 hl1 HI.out hlv
                clear NW hm1
                go_wp2_with fail
                refine C1.mono ?_
                rintro e u2 ⟨c, rfl, ho⟩
                clear C1
                rcases ST.out _ _ ho with ⟨hc, hE⟩ | ⟨rfl, hJ2⟩
                · have hc2 : (c == 0) = false := by simpa using hc
                  clear ST ho hc
                  go_wp2
                  simp only [Exit.jump]
                  go_ret
                  exact ⟨c, rfl, hE⟩
                · clear ST ho
                  go_wp2
                  go_step3
                  exact ⟨rfl, ⟨hJ2.1, _, _, _, _, _, _, _, _, _, _, _, _, _, _, _, _, _, _, _, _, _, _, _, _, _, _, _, _, _, _, _, _, rfl⟩, hJ2.2⟩
              · have f_l2 : (x.toList == [60, 60]) = false := by simpa using n_l2
                by_cases n_l3 : (x.toList == [60, 60, 60]) = true
                · have hsz : x.size = 3 := size_of_list n_l3
                  have ST : Hid _ := OP.out x.size (by rw [hsz]; exact LO.out.trans (by rw [if_neg n_amp, if_neg n_l1, if_neg n_l2, if_pos n_l3]))
                  have hlv : x.size = 1 ∨ x.size = 2 ∨ x.size = 3 := by omega
                  clear OP BAD LO hsz n_amp n_l1 n_l2
                  go_wp2_with fail
                  refine NW.mono ?_
                  rintro e u1 ⟨rfl, hm1⟩
                  have C1 := put_any hm1 hl1 HI.out hlv
                  clear NW hm1
                  go_wp2_with fail
                  refine C1.mono ?_
                  rintro e u2 ⟨c, rfl, ho⟩
                  clear C1
                  rcases ST.out _ _ ho with ⟨hc, hE⟩ | ⟨rfl, hJ2⟩
                  · have hc2 : (c == 0) = false := by simpa using hc
                    clear ST ho hc
                    go_wp2
                    simp only [Exit.jump]
                    go_ret
                    exact ⟨c, rfl, hE⟩
                  · clear ST ho
                    go_wp2
                    go_step3
                    exact ⟨rfl, ⟨hJ2.1, _, _, _, _, _, _, _, _, _, _, _, _, _, _, _, _, _, _, _, _, _, _, _, _, _, _, _, _, _, _, _, _, rfl⟩, hJ2.2⟩
                · have f_l3 : (x.toList == [60, 60, 60]) = false := by simpa using n_l3
                  have HB : Hid (R = .error 2) := BAD.out (LO.out.trans (by rw [if_neg n_amp, if_neg n_l1, if_neg n_l2, if_neg n_l3]))
                  clear OP BAD LO n_amp n_l1 n_l2 n_l3 HI
                  go_wp2_with fail
                  refine NW.mono ?_
                  rintro e u1 ⟨rfl, hm1⟩
                  have hE : RdEnd w b R 2 u1 := ⟨[], .inl ⟨HB.out, by decide, hm1.be⟩⟩
                  clear NW hm1
                  go_wp2
                  simp only [Exit.jump]
                  go_ret
                  exact ⟨2, rfl, hE⟩
end Go.Proofs.YtanfebccenfffaaDoor

namespace Go.Proofs.YtanfebccenfffaaDoor
open Go.RowKit

set_option maxRecDepth 100000 in
set_option maxHeartbeats 1000000 in
theorem implPlain_any (w : World) : Calls Tryd.prog 42 #[] w fun e w' => e = .returned (.agg #[.slice none 0 0, .bool false, .int .i64 3]) ∧ Below w.heap.size w w' := by
  go_enter Tryd.func42, Tryd.ntmps42
  go_wp2
  refine bodyPost_ret (v := .agg #[.slice none 0 0, .bool false, .int .i64 3]) ?_ rfl ⟨rfl, (Below.refl _ _).alloc (Nat.le_refl _) _⟩
  exact results_cell_row rfl _ _ w.heap.size 39 _ (0, 0) _ rfl (heap_alloc_new _ _) Tryd.underlying39 rfl (by kernel_rfl)

/-- The answer's block, still zero. -/
def Zru (u : World) (b : Nat) : Prop := u.heap[b]? = some (.cells #[.slice none 0 0, .bool false, .int .i64 0] 39)
theorem Zru.facts {u : World} {b : Nat} (h : Zru u b) : b < u.heap.size ∧ (u.cell? ⟨b, 0, none⟩ = some (.slice none 0 0) ∧ u.cell? ⟨b, 1, none⟩ = some (.bool false) ∧ u.cell? ⟨b, 2, none⟩ = some (.int .i64 0)) ∧ ∀ j, u.frozen? ⟨b, j, none⟩ = false :=
  ⟨(Array.getElem?_eq_some_iff.1 h).1, ⟨cell_of_row _ _ 0 _ _ _ h, cell_of_row _ _ 1 _ _ _ h, cell_of_row _ _ 2 _ _ _ h⟩, fun j => by simp [World.frozen?, show u.heap[b]? = _ from h]⟩
theorem Zru.below {u u' : World} {b B : Nat} (h : Zru u b) (hb : Below B u u') (hB : b < B) : Zru u' b := (hb.block _ hB).trans h

theorem below_res3i {w wr : World} (h : Below w.heap.size w wr) (x y z : Value) : Below w.heap.size w (((wr.setCell ⟨w.heap.size, 0, none⟩ x).setCell ⟨w.heap.size, 1, none⟩ y).setCell ⟨w.heap.size, 2, none⟩ z) :=
  ((h.setCell (Nat.le_refl _) _).setCell (Nat.le_refl _) _).setCell (Nat.le_refl _) _

theorem res3_grown (u : World) (b : Nat) (x y z : Value) : u.grownBy (((u.setCell ⟨b, 0, none⟩ x).setCell ⟨b, 1, none⟩ y).setCell ⟨b, 2, none⟩ z) (some b) :=
  ((setCell_grown u b 0 _).trans (setCell_grown _ b 1 _)).trans (setCell_grown _ b 2 _)

theorem EntsD.low {u : World} {B B' T : Nat} {v : Value} {es : List Ent} (h : EntsD u B' T v es) (hB : B ≤ B') : EntsD u B T v es := by
  obtain ⟨xs, hl, h1, h2, h3, h4, h5⟩ := h
  refine ⟨xs, hl, ?_, fun k e he => ?_, h3, h4, h5⟩
  · obtain ⟨h6, h7⟩ := h1
    refine ⟨h6, ?_⟩
    rcases h7 with h7 | ⟨g, cap, cur, a, b, c⟩
    · exact .inl h7
    · exact .inr ⟨g, cap, cur, a, by omega, c⟩
  · obtain ⟨x, hx, hI⟩ := h2 k e he
    exact ⟨x, hx, ints_low2 hI hB⟩

set_option maxRecDepth 100000 in
set_option maxHeartbeats 8000000 in
theorem implRead_any (s : ByteArray) (u : World) (ht : Tabs3 u) (hs : s.size ≤ 1048576) :
    Calls Tryd.prog 18 #[.string s] u fun e w' => ∃ v, e = .returned (.tuple #[.agg #[v, .bool (readA s).sh, .int .i64 (readA s).lv], .int .i64 (readA s).code]) ∧ EntsD w' u.heap.size w'.heap.size v (readA s).es ∧ Below u.heap.size u w' := by
  have hz : Zru (u.alloc (.cells #[.slice none 0 0, .bool false, .int .i64 0] 39)) u.heap.size := heap_alloc_new _ _
  have hba := (Below.refl u.heap.size u).alloc (Nat.le_refl _) (.cells #[.slice none 0 0, .bool false, .int .i64 0] 39)
  by_cases h3 : 300 < s.size
  · have h3' : (300 : Int) < (s.size : Int) := by omega
    have HA : Hid (readA s = ⟨[], false, 0, 1⟩) := if_pos h3
    obtain ⟨hlt, ⟨q0, q1, q2⟩, f0⟩ := hz.facts
    clear hz ht h3
    go_enter Tryd.func18, Tryd.ntmps18
    go_wp2
    refine bodyPost_ret (v := .tuple #[.agg #[.slice none 0 0, .bool false, .int .i64 0], .int .i64 1]) ?_ rfl ⟨.slice none 0 0, by rw [HA.out], by rw [HA.out]; exact EntsD.nil _ _ _, hba⟩
    rw [results_cell_tmp rfl]
    go_simp
  · have h3' : ¬ (300 : Int) < (s.size : Int) := by omega
    have HA : Hid (readA s = raOf (readW (wf s.data.toList []) rs0)) := by show _ = _; unfold readA; rw [if_neg h3, words_wf]
    have hsl : s.data.toList.length ≤ 1048576 := by rw [Array.length_toList]; exact hs
    have P := fun w => implPlain_any w
    have HT : Hid (Tabs3 u) := ht
    have HZ : Hid (Zru _ _) := hz
    have HB : Hid (Below _ _ _) := hba
    clear ht hz hba h3
    go_enter Tryd.func18, Tryd.ntmps18
    go_wp2_with fail
    refine (P _).mono ?_
    rintro e u1 ⟨rfl, b1⟩
    have hz1 := HZ.out.below b1 (HZ.out.facts).1
    have c1 := HB.out.trans (b1.mono HB.out.size)
    have t1 := HT.out.below c1
    have hsz : u.heap.size < u1.heap.size := (hz1.facts).1
    have hal : Below u1.heap.size u1 (u1.alloc (.cells #[.string s, .slice none 0 0, .bool false, .int .i64 3, .int .i64 0, .int .i64 0, .int .i64 0, .bool false, .bool false] 67)) := (Below.refl u1.heap.size u1).alloc (Nat.le_refl _) _
    have hm : RdM u1 (u1.alloc (.cells #[.string s, .slice none 0 0, .bool false, .int .i64 3, .int .i64 0, .int .i64 0, .int .i64 0, .bool false, .bool false] 67)) u1.heap.size u1.heap.size s.data.toList rs0 (.slice none 0 0) := by
      refine ⟨?_, EntsD.nil _ _ _, hal.size, hal, t1.below hal, ⟨Nat.lt_of_lt_of_le HT.out.1.lt c1.size, Nat.lt_of_lt_of_le HT.out.2.1.lt c1.size, Nat.lt_of_lt_of_le HT.out.2.2.lt c1.size⟩⟩
      rw [heap_alloc_new u1]
      unfold rdC rs0
      have hse : (⟨s.data.toList.toArray⟩ : ByteArray) = s := by simp
      rw [hse]
    have RD := readI_any hm hsl rinv0
    have HZ1 : Hid (Zru _ _) := hz1
    have HC1 : Hid (Below _ _ _) := c1
    clear P HT HZ HB hz1 c1 t1 hal hm b1 hsl
    go_wp2_with fail
    refine RD.mono ?_
    rintro e u2 ⟨c, rfl, l2, ho⟩
    clear RD
    rcases ho with ⟨hR, hc, hbe⟩ | ⟨st, T, vE, hR, rfl, hm⟩
    · have HA2 : Hid (readA s = ⟨[], false, 0, c⟩) := HA.out.trans (by rw [hR]; rfl)
      have hc2 : (c != 0) = true := by simpa using hc
      obtain ⟨hlt, ⟨q0, q1, q2⟩, f0⟩ := (HZ1.out.below hbe hsz).facts
      have c2 := HC1.out.trans (hbe.mono HC1.out.size)
      clear HA hR hc hbe HZ1 HC1
      go_wp2
      refine bodyPost_ret (v := .tuple #[.agg #[.slice none 0 0, .bool false, .int .i64 0], .int .i64 c]) ?_ rfl ⟨.slice none 0 0, by rw [HA2.out], by rw [HA2.out]; exact EntsD.nil _ _ _, below_res3i c2 _ _ _⟩
      rw [results_cell_tmp rfl]
      go_simp
    · obtain ⟨ea, el, ec, rfl⟩ := hm.en.ents.slice
      have HA2 : Hid (readA s = ⟨st.es, st.sh, st.lv, 0⟩) := HA.out.trans (by rw [hR]; rfl)
      obtain ⟨hlt, ⟨q0, q1, q2⟩, f0⟩ := (HZ1.out.below hm.be hsz).facts
      obtain ⟨d0, d1, d2, d3, _, _, _, _, _, fz⟩ := hm.cells
      have hltb := hm.lt
      have c2 := HC1.out.trans (hm.be.mono HC1.out.size)
      have HEN : Hid (∀ x y z, EntsD (((u2.setCell ⟨u.heap.size, 0, none⟩ x).setCell ⟨u.heap.size, 1, none⟩ y).setCell ⟨u.heap.size, 2, none⟩ z) u.heap.size u2.heap.size (.slice ea el ec) st.es) := fun x y z => (((hm.en.up hm.tl).grown (res3_grown u2 u.heap.size x y z) (by omega)).low (by omega))
      clear HA hR HZ1 HC1 hm
      go_wp2
      refine bodyPost_ret (v := .tuple #[.agg #[.slice ea el ec, .bool st.sh, .int .i64 st.lv], .int .i64 0]) ?_ rfl ⟨.slice ea el ec, by rw [HA2.out], by rw [HA2.out]; exact (HEN.out _ _ _).up (by simp), below_res3i c2 _ _ _⟩
      rw [results_cell_tmp rfl]
      go_simp
end Go.Proofs.YtanfebccenfffaaDoor

namespace Go.Proofs.YtanfebccenfffaaDoor
open Go.RowKit

/-- The rules' box. -/
def BoxQ (u : World) (b : Nat) (v : Value) (sh : Bool) (lv : Int) : Prop := u.heap[b]? = some (.cells #[v, .bool sh, .int .i64 lv] 39)
theorem BoxQ.below {B b : Nat} {u u' : World} {v : Value} {sh : Bool} {lv : Int} (h : BoxQ u b v sh lv) (hb : Below B u u') (hlt : b < B) : BoxQ u' b v sh lv := (hb.block b hlt).trans h
theorem BoxQ.cells {b : Nat} {u : World} {v : Value} {sh : Bool} {lv : Int} (h : BoxQ u b v sh lv) : u.cell? ⟨b, 0, none⟩ = some v ∧ u.cell? ⟨b, 1, none⟩ = some (.bool sh) ∧ u.cell? ⟨b, 2, none⟩ = some (.int .i64 lv) :=
  ⟨cell_of_row _ _ 0 _ _ _ h, cell_of_row _ _ 1 _ _ _ h, cell_of_row _ _ 2 _ _ _ h⟩

theorem el_same {a b : El} (h1 : a.first = b.first) (h2 : a.second = b.second) (h3 : a.third = b.third) (h4 : a.varies = b.varies) : a = b := by
  cases a
  cases b
  simp_all

/-- An entry's box. -/
def BoxN (u : World) (b : Nat) (x : Value) (e : El) : Prop := u.heap[b]? = some (.cells #[x, .int .i64 e.first, .int .i64 e.second, .int .i64 e.third, .bool e.varies] 46)
theorem BoxN.below {B b : Nat} {u u' : World} {x : Value} {e : El} (h : BoxN u b x e) (hb : Below B u u') (hlt : b < B) : BoxN u' b x e := (hb.block b hlt).trans h
theorem BoxN.cells {b : Nat} {u : World} {x : Value} {e : El} (h : BoxN u b x e) : u.cell? ⟨b, 0, none⟩ = some x ∧ u.cell? ⟨b, 1, none⟩ = some (.int .i64 e.first) ∧ u.cell? ⟨b, 2, none⟩ = some (.int .i64 e.second) ∧ u.cell? ⟨b, 3, none⟩ = some (.int .i64 e.third) ∧ u.cell? ⟨b, 4, none⟩ = some (.bool e.varies) :=
  ⟨cell_of_row _ _ 0 _ _ _ h, cell_of_row _ _ 1 _ _ _ h, cell_of_row _ _ 2 _ _ _ h, cell_of_row _ _ 3 _ _ _ h, cell_of_row _ _ 4 _ _ _ h⟩

set_option maxRecDepth 100000 in
set_option maxHeartbeats 4000000 in
theorem rules_walk (w : World) (a0 : Option Addr) (len0 cap0 : Nat) (ht : Tabs3 w) (hmx : len0 ≤ 9223372036854775807)
    (D : len0 ≤ 1048576 → Calls Tryd.prog 17 #[.slice a0 len0 cap0] w fun e w' => ∃ s : ByteArray, e = .returned (.string s) ∧ s.size ≤ 400 ∧ Below w.heap.size w w') :
    Calls Tryd.prog 5 #[.slice a0 len0 cap0] w fun e w' => e = .returned (.bool true) ∧ Below w.heap.size w w' := by
  by_cases h1 : 1048576 < len0
  · have h18 : (1048576 : Int) < (len0 : Int) := by omega
    clear D
    go_enter Tryd.func5, Tryd.ntmps5
    go_wp2
    go_ret
    exact ⟨rfl, Below.refl _ _⟩
  have h18 : ¬ (1048576 : Int) < (len0 : Int) := by omega
  have D1 := D (by omega)
  have HT : Hid (Tabs3 w) := ht
  clear D ht
  go_enter Tryd.func5, Tryd.ntmps5
  go_wp2_with fail
  refine D1.mono ?_
  rintro e w1 ⟨s, rfl, hs, b1⟩
  have IR := implRead_any s w1 (HT.out.below b1) (by omega)
  have SR := fun u => read_any s u (by omega)
  have hbd := readA_bd s
  have hdi := readA_dist s
  have hze := readA_zero (s := s)
  have HB1 : Hid (Below w.heap.size w w1) := b1
  clear D1 b1
  generalize readA s = R at *
  obtain ⟨es, sh, lv, code⟩ := R
  have hdi2 : code = 0 → rulesOk es lv = true ∧ DistE es := hdi
  have hze2 : code ≠ 0 → lv = 0 := hze
  have hel : es.length ≤ 40 := hbd.1
  have HRB : Hid (∀ e ∈ es, e.runes.length ≤ 1048576) := fun e he => Nat.le_trans (hbd.2 e he) (by decide)
  clear hdi hze hbd
  go_wp2_with fail
  refine IR.mono ?_
  rintro e w2 ⟨v2, rfl, d2, b2⟩
  have e2 := d2.ents
  obtain ⟨va, vc, rfl⟩ : ∃ a c, v2 = .slice a es.length c := by
    rcases e2.form with ⟨rfl, rfl⟩ | ⟨_, _, rfl, _, _, _, _⟩
    · exact ⟨_, _, rfl⟩
    · exact ⟨_, _, rfl⟩
  have b23 := (Below.refl w2.heap.size w2).alloc (Nat.le_refl _) (.cells #[.slice va es.length vc, .bool sh, .int .i64 lv] 39)
  have hb3 : BoxQ (w2.alloc (.cells #[.slice va es.length vc, .bool sh, .int .i64 lv] 39)) w2.heap.size (.slice va es.length vc) sh lv := heap_alloc_new w2 _
  have hl3 : w2.heap.size < (w2.alloc (.cells #[.slice va es.length vc, .bool sh, .int .i64 lv] 39)).heap.size := by simp
  have HW2 : Hid (Below w.heap.size w w2) := HB1.out.trans (b2.mono HB1.out.size)
  obtain ⟨W3, HW3⟩ : ∃ W3, Hid (W3 = w2.alloc (.cells #[.slice va es.length vc, .bool sh, .int .i64 lv] 39)) := ⟨_, rfl⟩
  rw [← HW3.out] at b23 hb3 hl3
  have HE3 : Hid (Ents W3 _ (.slice va es.length vc) es) := e2.below b23
  have HB3 : Hid (Below w.heap.size w W3) := HW2.out.trans (b23.mono HW2.out.size)
  have HX3 : Hid (BoxQ W3 _ _ _ _) := hb3
  have S3 := SR W3
  clear IR SR d2 e2 b2 b23 hb3
  go_wp2_with fail
  rw [← HW3.out]
  refine S3.mono ?_
  rintro e w4 ⟨v4, rfl, e4, b4⟩
  have HX4 : Hid (BoxQ w4 w2.heap.size (.slice va es.length vc) sh lv) := HX3.out.below b4 hl3
  have hl4 : w2.heap.size < w4.heap.size := Nat.lt_of_lt_of_le hl3 b4.size
  have b45 := (Below.refl w4.heap.size w4).alloc (Nat.le_refl _) (.cells #[v4, .bool sh, .int .i64 lv] 39)
  have b35 := b4.trans (b45.mono b4.size)
  obtain ⟨W5, HW5⟩ : ∃ W5, Hid (W5 = w4.alloc (.cells #[v4, .bool sh, .int .i64 lv] 39)) := ⟨_, rfl⟩
  rw [← HW5.out] at b35
  have HE5 : Hid (Ents W5 _ (.slice va es.length vc) es) := HE3.out.below b35
  have HB5 : Hid (Below w.heap.size w W5) := HB3.out.trans (b35.mono HB3.out.size)
  have HX5 : Hid (BoxQ W5 w2.heap.size (.slice va es.length vc) sh lv) := HX3.out.below b35 hl3
  have hl5 : w2.heap.size < W5.heap.size := Nat.lt_of_lt_of_le hl3 b35.size
  obtain ⟨va4, vn4, vc4, rfl⟩ : ∃ a n c, v4 = .slice a n c := by
    rcases e4.form with ⟨rfl, _⟩ | ⟨_, _, rfl, _, _, _, _⟩
    · exact ⟨_, _, _, rfl⟩
    · exact ⟨_, _, _, rfl⟩
  clear S3 HE3 HX3 b4 b45 b35 e4
  by_cases hc : code = 0
  · obtain ⟨hro, hdd⟩ := hdi2 hc
    have GR := implGood3_any (sh := sh) (lv := lv) HE5.out HRB.out (HT.out.below HB5.out)
    rw [hro] at GR
    subst hc
    obtain ⟨p0, p1, p2⟩ := HX4.out.cells
    have HRO : Hid (rulesOk es lv = true) := hro
    have HDD : Hid (DistE es) := hdd
    clear hdi2 hze2 hro hdd
    go_wp2_with fail
    rw [← HW5.out]
    refine GR.mono ?_
    rintro e w6 ⟨rfl, b6⟩
    have HE6 : Hid (Ents w6 _ (.slice va es.length vc) es) := HE5.out.below b6
    have HB6 : Hid (Below w.heap.size w w6) := HB5.out.trans (b6.mono HB5.out.size)
    have HX6 : Hid (BoxQ w6 w2.heap.size (.slice va es.length vc) sh lv) := HX5.out.below b6 hl5
    have hl6 : w2.heap.size < w6.heap.size := Nat.lt_of_lt_of_le hl5 b6.size
    obtain ⟨p0, p1, p2⟩ := HX6.out.cells
    clear GR HE5 HX5 b6
    go_wp2_with fail
    go_loopw [43] (fun i wr => ∃ k : Nat, k ≤ es.length ∧ i = .int .i64 k ∧ Below w6.heap.size w6 wr) (fun i _ => es.length - (intOf i).toNat)
    case atStart => exact ⟨0, Nat.zero_le _, rfl, Below.refl _ _⟩
    case round =>
      clear p0 p1 p2
      obtain ⟨k, hk, rfl, hbr⟩ := hrel
      by_cases hlt : k < es.length
      · obtain ⟨e, he⟩ : ∃ e, es[k]? = some e := ⟨_, List.getElem?_eq_getElem hlt⟩
        have hEr := HE6.out.below hbr
        obtain ⟨g, cap, hv, hcap⟩ : ∃ g cap, (Value.slice va es.length vc) = .slice (some ⟨g, 0, none⟩) es.length cap ∧ es.length ≤ cap := by
          rcases hEr.form with ⟨_, h⟩ | ⟨g, cap, h, hc, _⟩
          · rw [h] at hlt; simp at hlt
          · exact ⟨g, cap, h, hc⟩
        injection hv with q1 _ q3
        subst q1
        subst q3
        obtain ⟨x, hI, a0, a1, a2, a3, a4⟩ := hEr.cells k e he
        have hk8 : (k : Int) < (es.length : Int) := by omega
        have hk9 : (k : Int) ≤ (vc : Int) := by omega
        have bA := (Below.refl wr.heap.size wr).alloc (Nat.le_refl _) (.cells #[x, .int .i64 e.el.first, .int .i64 e.el.second, .int .i64 e.el.third, .bool e.el.varies] 46)
        have hnx : BoxN (wr.alloc (.cells #[x, .int .i64 e.el.first, .int .i64 e.el.second, .int .i64 e.el.third, .bool e.el.varies] 46)) wr.heap.size x e.el := heap_alloc_new wr _
        have hbA := hbr.trans (bA.mono hbr.size)
        have EL := implElemOf_any (sh := sh) (lv := lv) (hEr.below bA) (hI.below bA) (by omega) (HRB.out e (List.mem_of_getElem? he)) HRB.out (HT.out.below (HB6.out.trans (hbA.mono HB6.out.size)))
        rw [ent_told HRO.out he] at EL
        unfold elRes elV elOf at EL
        simp only [Option.getD_some, Option.isSome_some] at EL
        obtain ⟨p0, p1, p2⟩ := (HX6.out.below hbr hl6).cells
        obtain ⟨xa, xn, xc, rfl⟩ : ∃ a n c, x = .slice a n c := by
          rcases hI.form with ⟨rfl, _⟩ | ⟨_, _, rfl, _, _⟩
          · exact ⟨_, _, _, rfl⟩
          · exact ⟨_, _, _, rfl⟩
        have hlr : w2.heap.size < wr.heap.size := Nat.lt_of_lt_of_le hl6 hbr.size
        have HNX : Hid (BoxN _ _ _ _) := hnx
        have HBA : Hid (Below w6.heap.size w6 _) := hbA
        have HEE : Hid (es[k]? = some e) := he
        have HBR : Hid (Below w6.heap.size w6 wr) := hbr
        have hla : wr.heap.size < (wr.alloc (.cells #[.slice xa xn xc, .int .i64 e.el.first, .int .i64 e.el.second, .int .i64 e.el.third, .bool e.el.varies] 46)).heap.size := by simp
        clear hEr hI bA hnx hbA he hbr
        go_wp2_with fail
        refine EL.mono ?_
        rintro e' w7 ⟨rfl, b7⟩
        have HB7 : Hid (Below w6.heap.size w6 w7) := HBA.out.trans (b7.mono HBA.out.size)
        have HN7 : Hid (BoxN w7 wr.heap.size (.slice xa xn xc) e.el) := HNX.out.below b7 hla
        have hl7 : wr.heap.size < w7.heap.size := Nat.lt_of_lt_of_le hla b7.size
        clear EL a0 a1 a2 a3 a4 p0 p1 p2 HNX HBA
        obtain ⟨d0, d1, d2, d3, d4⟩ := HN7.out.cells
        obtain ⟨p0, p1, p2⟩ := (HX6.out.below HB7.out hl6).cells
        have hl67 : w2.heap.size < w7.heap.size := by omega
        have b78 := (Below.refl w7.heap.size w7).alloc (Nat.le_refl _) (.cells #[.int .i64 e.el.first, .int .i64 e.el.second, .int .i64 e.el.third, .bool e.el.varies] 44)
        have HB8 : Hid (Below w6.heap.size w6 _) := HB7.out.trans (b78.mono HB7.out.size)
        have HN8 : Hid (BoxN _ wr.heap.size (.slice xa xn xc) e.el) := HN7.out.below b78 hl7
        clear b78 b7
        have hl8 : wr.heap.size < (w7.alloc (.cells #[.int .i64 e.el.first, .int .i64 e.el.second, .int .i64 e.el.third, .bool e.el.varies] 44)).heap.size := by simp; omega
        obtain ⟨W8, HW8⟩ : ∃ W8, Hid (W8 = w7.alloc (.cells #[.int .i64 e.el.first, .int .i64 e.el.second, .int .i64 e.el.third, .bool e.el.varies] 44)) := ⟨_, rfl⟩
        rw [← HW8.out] at hl8 HB8 HN8
        go_wp2_with fail
        rw [← HW8.out]
        go_loopw [68] (fun i wr' => ∃ j : Nat, j ≤ k ∧ i = .int .i64 j ∧ Below W8.heap.size W8 wr') (fun i _ => k - (intOf i).toNat)
        case atStart => exact ⟨0, Nat.zero_le _, rfl, Below.refl _ _⟩
        case round =>
          obtain ⟨j, hj, rfl, hbq⟩ := hrel
          clear d0 d1 d2 d3 d4 p0 p1 p2
          by_cases hjl : j < k
          · obtain ⟨e2, he2⟩ : ∃ e2, es[j]? = some e2 := ⟨_, List.getElem?_eq_getElem (by omega)⟩
            have hE2 := HE6.out.below (HB8.out.trans (hbq.mono HB8.out.size))
            obtain ⟨x2, hI2, a0, a1, a2, a3, a4⟩ := hE2.cells j e2 he2
            obtain ⟨d0, d1, d2, d3, d4⟩ := (HN8.out.below hbq hl8).cells
            have hlq := Nat.lt_of_lt_of_le hl8 hbq.size
            obtain ⟨ya, yn, yc, rfl⟩ : ∃ a n c, x2 = .slice a n c := by
              rcases hI2.form with ⟨rfl, _⟩ | ⟨_, _, rfl, _, _⟩
              · exact ⟨_, _, _, rfl⟩
              · exact ⟨_, _, _, rfl⟩
            have HB9 : Hid (∀ o, Below W8.heap.size W8 (wr.alloc o)) := fun o => hbq.alloc hbq.size o
            have hne := dist_ne HDD.out hjl HEE.out he2
            have hj8 : (j : Int) < (k : Int) := by omega
            clear hE2 hI2 hbq he2
            go_wp2
            all_goals
              first
                | exact ⟨⟨j + 1, by omega, by go_num, HB9.out _⟩, by simp [intOf]; omega⟩
                | exact absurd (el_same (by assumption) (by assumption) (by assumption) (by assumption)) hne
          · obtain rfl : j = k := by omega
            go_wp2
            exact ⟨⟨j + 1, by omega, by go_num, HB8.out.trans (hbq.mono HB8.out.size)⟩, by simp [intOf]; omega⟩
      · obtain rfl : k = es.length := by omega
        go_wp2
        go_ret
        exact ⟨rfl, HB6.out.trans (hbr.mono HB6.out.size)⟩
  · have hlv := hze2 hc
    subst hlv
    obtain ⟨p0, p1, p2⟩ := HX4.out.cells
    have hc8 : (code != 0) = true := by simpa using hc
    clear hdi2 hze2 hc
    go_wp2
    go_ret
    exact ⟨rfl, by rw [← HW5.out]; exact HB5.out⟩
end Go.Proofs.YtanfebccenfffaaDoor

namespace Go.Proofs.YtanfebccenfffaaDoor
open Go.RowKit

/-- The bytes that the cursor reads: none, or a row below B that is not the cursor's own block. -/
def Code (w : World) (B b : Nat) (a : Option Addr) (n : Nat) : Prop :=
  n = 0 ∨ ∃ cb off, a = some ⟨cb, off, none⟩ ∧ cb ≠ b ∧ cb < B ∧ ∀ j, j < n → ∃ x : Int, 0 ≤ x ∧ x ≤ 255 ∧ w.cell? ⟨cb, off + j, none⟩ = some (.int .u8 x)

def Cur (w : World) (B b k : Nat) : Prop :=
  ∃ (a : Option Addr) (n cap : Nat) (seed : Int), w.heap[b]? = some (.cells #[.slice a n cap, .int .i64 (k : Int), .int .u64 seed] 55 (0, 0)) ∧ b < B ∧ B ≤ w.heap.size ∧ n ≤ 1048576 ∧ 0 ≤ seed ∧ seed < 18446744073709551616 ∧ Code w B b a n

theorem Code.kept {w w' : World} {B b : Nat} {a : Option Addr} {n : Nat} (h : Code w B b a n) (hs : B ≤ w.heap.size) {row : Option Nat} (hg : w.grownBy w' row) (hr : ∀ k, row = some k → k = b ∨ B ≤ k) : Code w' B b a n := by
  rcases h with h | ⟨cb, off, rfl, h1, h2, h3⟩
  · exact .inl h
  · refine .inr ⟨cb, off, rfl, h1, h2, fun j hj => ?_⟩
    obtain ⟨x, x0, x1, hx⟩ := h3 j hj
    refine ⟨x, x0, x1, ?_⟩
    rw [World.cell?_of_block (w := w) (hg.block cb (by omega) (fun e => by rcases hr cb e.symm with h | h <;> omega))]
    exact hx

theorem Cur.kept {w w' : World} {B b k : Nat} (h : Cur w B b k) {row : Option Nat} (hg : w.grownBy w' row) (hr : ∀ k, row = some k → B ≤ k) : Cur w' B b k := by
  obtain ⟨a, n, cap, seed, h1, h2, h3, h4, h5, h6, h7⟩ := h
  refine ⟨a, n, cap, seed, ?_, h2, Nat.le_trans h3 hg.size, h4, h5, h6, h7.kept h3 hg (fun k hk => .inr (hr k hk))⟩
  rw [hg.block b (by omega) (fun e => by have := hr b e.symm; omega)]
  exact h1

theorem Cur.drewN {w : World} {B b k : Nat} (h : Cur w B b k) (n : Nat) : Cur (w.drewN n) B b k := h
theorem Cur.lt {w : World} {B b k : Nat} (h : Cur w B b k) : b < B ∧ B ≤ w.heap.size := by obtain ⟨_, _, _, _, _, h1, h2, _⟩ := h; exact ⟨h1, h2⟩

theorem grown_and {a b c : World} {row : Option Nat} (h : a.grownBy b row) (k : b.grownBy c row) : a.grownBy c row := h.trans k
theorem grown_own {a b c : World} {row row' : Option Nat} (h : a.grownBy b row) (k : b.grownBy c row') (hr : ∀ j, row' = some j → a.heap.size ≤ j) : a.grownBy c row :=
  ⟨k.os.trans h.os, k.tape.trans h.tape, k.output.trans h.output, Nat.le_trans h.size k.size, fun i hi hn => by
    rw [k.block i (Nat.lt_of_lt_of_le hi h.size) (fun e => by have := hr i e.symm; omega)]; exact h.block i hi hn⟩

theorem and255 (x : Int) (h0 : 0 ≤ x) (h1 : x < 18446744073709551616) : 0 ≤ bits .and .u64 (x / 1099511627776) 255 ∧ bits .and .u64 (x / 1099511627776) 255 ≤ 255 := by
  have e40 : (2 : Int) ^ 40 = 1099511627776 := by decide
  have hw : ∀ n : Int, 0 ≤ n → n < 2 ^ 40 → IntKind.u64.wrap n = n := fun n a b => by
    have e : IntKind.u64.wrap n = n % 18446744073709551616 := by simp [IntKind.wrap, IntKind.bits, IntKind.signed]
    rw [e40] at b
    rw [e]; omega
  have h := bits_mask .u64 40 (by decide) hw 8 (by decide) (x / 1099511627776) (by omega) (by rw [e40]; omega)
  have e8 : (2 : Int) ^ 8 - 1 = 255 := by decide
  have e9 : (2 : Int) ^ 8 = 256 := by decide
  rw [e8, e9] at h
  rw [h]; omega

theorem ret_w64 {y : Int} (h0 : 0 ≤ y) (h1 : y ≤ 255) : Ending.returned (.int .i64 (wrap64 y)) = .returned (.int .i64 y) := by
  have e : wrap64 y = y := by
    unfold wrap64; omega
  rw [e]

theorem wrapU (n : Int) : 0 ≤ IntKind.u64.wrap n ∧ IntKind.u64.wrap n < 18446744073709551616 := by
  have e : IntKind.u64.wrap n = n % 18446744073709551616 := by simp [IntKind.wrap, IntKind.bits, IntKind.signed]
  rw [e]; omega

theorem cur_step {w : World} {B b k : Nat} {a : Option Addr} {n cap : Nat} {seed : Int} (h1 : w.heap[b]? = some (.cells #[.slice a n cap, .int .i64 (k : Int), .int .u64 seed] 55 (0, 0))) (h2 : b < B) (h3 : B ≤ w.heap.size) (h4 : n ≤ 1048576) (h7 : Code w B b a n) (s : Int) (h5 : 0 ≤ s) (h6 : s < 18446744073709551616) (q q' : Nat) :
    Cur ((((w.drewN q).setCell ⟨b, 1, none⟩ (.int .i64 ((k : Int) + 1))).setCell ⟨b, 2, none⟩ (.int .u64 s)).drewN q') B b (k + 1) ∧ w.grownBy ((((w.drewN q).setCell ⟨b, 1, none⟩ (.int .i64 ((k : Int) + 1))).setCell ⟨b, 2, none⟩ (.int .u64 s)).drewN q') (some b) := by
  have e1 := heap_setCell_same (w.drewN q) b 1 _ _ (.int .i64 ((k : Int) + 1)) h1
  have e2 := heap_setCell_same _ b 2 _ _ (.int .u64 s) e1
  have g : w.grownBy ((((w.drewN q).setCell ⟨b, 1, none⟩ (.int .i64 ((k : Int) + 1))).setCell ⟨b, 2, none⟩ (.int .u64 s)).drewN q') (some b) := by
    refine ⟨rfl, rfl, rfl, by simp [World.drewN], fun i hi hn => ?_⟩
    have hne : i ≠ b := fun e => hn (by rw [e])
    exact (heap_setCell_other _ ⟨b, 2, none⟩ i _ hne).trans (heap_setCell_other _ ⟨b, 1, none⟩ i _ hne)
  refine ⟨⟨a, n, cap, s, ?_, h2, Nat.le_trans h3 g.size, h4, h5, h6, h7.kept h3 g (fun j hj => by cases hj; exact .inl rfl)⟩, g⟩
  have e3 : (((#[.slice a n cap, .int .i64 (k : Int), .int .u64 seed] : Array Value).setIfInBounds 1 (.int .i64 ((k : Int) + 1))).setIfInBounds 2 (.int .u64 s)) = #[.slice a n cap, .int .i64 ((k + 1 : Nat) : Int), .int .u64 s] := by
    simp
  rw [← e3]
  exact e2

set_option maxRecDepth 100000 in
set_option maxHeartbeats 2000000 in
theorem next_any (w : World) (B b k : Nat) (h : Cur w B b k) (hk : k ≤ 1073741824) :
    Calls Tryd.prog 71 #[.pointer (some ⟨b, 0, none⟩)] w fun e w' => ∃ x : Int, e = .returned (.int .i64 x) ∧ 0 ≤ x ∧ x ≤ 255 ∧ Cur w' B b (k + 1) ∧ w.grownBy w' (some b) := by
  obtain ⟨a, n, cap, seed, h1, h2, h3, h4, h5, h6, h7⟩ := h
  have c0 := cell_of_row w b 0 _ _ _ h1
  have c1 := cell_of_row w b 1 _ _ _ h1
  have c2 := cell_of_row w b 2 _ _ _ h1
  simp at c0 c1 c2
  have f0 := fun j => frozen_of_row w b j _ _ h1
  have HS : Hid _ := And.intro h5 h6
  have H1 : Hid _ := h1
  have H7 : Hid _ := h7
  clear h5 h6 h1
  by_cases hlt : k < n
  · rcases h7 with h7 | ⟨cb, off, rfl, g1, g2, g3⟩
    · omega
    · obtain ⟨x, x0, x1, hx⟩ := g3 k hlt
      clear g3
      go_enter Tryd.func71, Tryd.ntmps71
      go_wp2
      go_quiet (fail)
      go_wp2
      go_quiet (fail)
      go_wp2
      go_quiet (fail)
      go_wp2
      go_ret
      have hs := wrapU (IntKind.u64.wrap (IntKind.u64.wrap (seed * 6364136223846793005) + x) + 1442695040888963407)
      have hc := cur_step H1.out h2 h3 h4 H7.out _ hs.1 hs.2
      exact ⟨x, rfl, x0, x1, (hc _ _).1, (hc _ _).2⟩
  · clear h7
    go_enter Tryd.func71, Tryd.ntmps71
    go_wp2
    go_quiet (fail)
    go_wp2
    go_quiet (fail)
    go_wp2
    go_ret
    have hs := wrapU (IntKind.u64.wrap (IntKind.u64.wrap (seed * 6364136223846793005)) + 1442695040888963407)
    have hc := cur_step H1.out h2 h3 h4 H7.out _ hs.1 hs.2
    have hx := and255 _ hs.1 hs.2
    exact ⟨_, ret_w64 hx.1 hx.2, hx.1, hx.2, (hc _ _).1, (hc _ _).2⟩

/-- Behind a draw: the cursor has moved on by at most m places, nothing else has turned. -/
def Moved (w w' : World) (B b k m : Nat) : Prop := (∃ k', k' ≤ k + m ∧ Cur w' B b k') ∧ w.grownBy w' (some b)

set_option maxRecDepth 100000 in
set_option maxHeartbeats 2000000 in
theorem pick_any (w : World) (B b k : Nat) (h : Cur w B b k) (hk : k ≤ 1000000000) (n : Int) (hn : n ≤ 1048576) (hn0 : -1048576 ≤ n) :
    Calls Tryd.prog 39 #[.pointer (some ⟨b, 0, none⟩), .int .i64 n] w fun e w' => ∃ x : Int, e = .returned (.int .i64 x) ∧ 0 ≤ x ∧ (x < n ∨ x = 0) ∧ Moved w w' B b k 2 := by
  by_cases c1 : n ≤ 1
  · go_enter Tryd.func39, Tryd.ntmps39
    go_wp2
    go_ret
    exact ⟨0, rfl, by omega, .inr rfl, ⟨k, by omega, h⟩, World.grownBy.refl _ _⟩
  by_cases c2 : n ≤ 200
  · have N := next_any w B b k h (by omega)
    clear h
    go_enter Tryd.func39, Tryd.ntmps39
    go_wp2_with (go_at_call 71; refine N.mono ?_; rintro e w' ⟨x, rfl, x0, x1, hC, hg⟩)
    go_ret
    exact ⟨_, rfl, Int.emod_nonneg _ (by omega), .inl (Int.emod_lt_of_pos _ (by omega)), ⟨k + 1, by omega, hC⟩, hg⟩
  · have N := next_any w B b k h (by omega)
    clear h
    go_enter Tryd.func39, Tryd.ntmps39
    go_wp2_with fail
    refine N.mono ?_
    rintro e w1 ⟨x, rfl, x0, x1, hC, hg⟩
    clear N
    go_wp2_with fail
    refine (next_any w1 B b (k + 1) hC (by omega)).mono ?_
    rintro e w2 ⟨y, rfl, y0, y1, hC2, hg2⟩
    go_wp2
    go_ret
    exact ⟨_, rfl, Int.emod_nonneg _ (by omega), .inl (Int.emod_lt_of_pos _ (by omega)), ⟨k + 1 + 1, by omega, hC2⟩, grown_and hg hg2⟩

set_option maxRecDepth 100000 in
set_option maxHeartbeats 1000000 in
theorem oneIn_any (w : World) (B b k : Nat) (h : Cur w B b k) (hk : k ≤ 1000000000) (n : Int) (hn : n ≤ 1048576) (hn0 : -1048576 ≤ n) :
    Calls Tryd.prog 32 #[.pointer (some ⟨b, 0, none⟩), .int .i64 n] w fun e w' => ∃ x : Bool, e = .returned (.bool x) ∧ Moved w w' B b k 2 := by
  have N := pick_any w B b k h hk n hn hn0
  clear h
  go_enter Tryd.func32, Tryd.ntmps32
  go_wp2_with (go_at_call 39; refine N.mono ?_; rintro e w' ⟨x, rfl, x0, x1, hM⟩)
  go_ret
  exact ⟨_, rfl, hM⟩

set_option maxRecDepth 100000 in
set_option maxHeartbeats 1000000 in
theorem among_any (w : World) (B b k : Nat) (h : Cur w B b k) (hk : k ≤ 1000000000) (g m cap : Nat) (zs : List Int) (hz : zs.length = m) (hm0 : 0 < m) (hm : m ≤ 1048576) (hg : g < w.heap.size) (hgb : g ≠ b)
    (hc : ∀ j, j < m → w.cell? ⟨g, j, none⟩ = some (.int .i64 (zs[j]?.getD 0))) :
    Calls Tryd.prog 66 #[.pointer (some ⟨b, 0, none⟩), .slice (some ⟨g, 0, none⟩) m cap] w fun e w' => ∃ x : Int, e = .returned (.int .i64 x) ∧ x ∈ zs ∧ Moved w w' B b k 2 := by
  have N := pick_any w B b k h hk (m : Int) (by omega) (by omega)
  clear h
  go_enter Tryd.func66, Tryd.ntmps66
  go_wp2_with fail
  refine N.mono ?_
  rintro e w' ⟨x, rfl, x0, x1, hM⟩
  obtain ⟨j, rfl⟩ := Int.eq_ofNat_of_zero_le x0
  have hj : j < m := by omega
  have hj2 : (j : Int) < (m : Int) := by omega
  obtain ⟨y, hy⟩ : ∃ y, zs[j]? = some y := ⟨_, List.getElem?_eq_getElem (by omega)⟩
  have c := hc j hj
  rw [hy] at c
  have c1 : w'.cell? ⟨g, j, none⟩ = some (.int .i64 y) := by
    rw [World.cell?_of_block (w := w) (hM.2.block g hg (fun e => hgb (Option.some.inj e)))]
    exact c
  have HY : Hid _ := hy
  clear N hc c hy
  go_wp2
  go_ret
  exact ⟨y, rfl, List.mem_of_getElem? HY.out, hM⟩
end Go.Proofs.YtanfebccenfffaaDoor
