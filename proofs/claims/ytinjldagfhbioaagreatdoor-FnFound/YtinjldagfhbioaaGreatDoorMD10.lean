/- Texts of mine laid together: SMark, SElems, SRunes4, SFourth. -/
import Derived.Test.YtinjldagfhbioaaGreatDoorPKey
import Derived.Deep.Cut
import Derived.Deep.CutRange
import Derived.Deep.RegionLaw
import Derived.Deep.DrawnRows
import Derived.Deep.RegionHeld3
import Derived.Deep.AppendLies
import Derived.Deep.MidRow
import Derived.Test.YtinjldagfhbioaaGreatDoorMD5
import Derived.Test.YtinjldagfhbioaaGreatDoorMD4
import Derived.Test.YtinjldagfhbioaaGreatDoorMD3
import Derived.Test.YtinjldagfhbioaaGreatDoorSD
import Derived.Test.YtinjldagfhbioaaGreatDoorDecode
import Derived.Test.YtinjldagfhbioaaGreatDoorRn4
import Derived.Test.YtinjldagfhbioaaGreatDoorFour
namespace Go.Proofs.YtinjldagfhbioaaGreatDoor
open Go.RowKit

theorem step_app_i {ops : Array Oper} {o : Oper} {a : Act} {w : World} {K : Act → World → Prop} {Q : Exit → Act → World → Prop} {E : Prop} (hw : Region.wanted o (yielded ops a.tmps) = true) (s x : Operand)
    (ho : o.op = .call { callee := .builtin .append, args := #[s, x], argTypes := #[35, 35] }) (B : Nat) (v : Value) (l l' : List Int) (hs : a.eval s = v) (hown : Ints w B v l)
    (ad : Addr) (m c : Nat) (hx : a.eval x = .slice (some ad) m c) (hml : l'.length = m) (hnews : ∀ j u, (l'.map (Value.int .i64))[j]? = some u → w.cell? (ad.add j) = some u) (hm : 0 < m) (hb : l.length + m ≤ 1048576) (hbase : B ≤ w.heap.size) (N : Nat) (hN : N = l.length + m) (L : List Int) (hL : L = l ++ l')
    (h : ∀ g cap w', Ints w' B (.slice (some ⟨g, 0, none⟩) N cap) L → w.grownBy w' v.ownBlock → g < w'.heap.size → K (a.put o.dst (.slice (some ⟨g, 0, none⟩) N cap)) w') :
    if Region.wanted o (yielded ops a.tmps) = true then Oper.wp Tryz.prog o a w K Q else E := by
  obtain ⟨i0, hi, hzz, hz1, hz2⟩ := info_parts info_int
  rw [if_pos hw]
  subst hN
  subst hL
  subst hml
  refine wp_append_lies w s x 35 ho B 3 i0 (.int .i64 0) 1 8 Tryz.underlying35 hi hzz hz1 hz2 rfl (by decide) v l.length (l.map (Value.int .i64)) hs hown ad l'.length c (l'.map (Value.int .i64)) hx (by simp) hnews (fun u hu => by obtain ⟨y, _, rfl⟩ := List.mem_map.1 hu; rfl) hm (by unfold maxLen; omega) (by omega) hbase w.heap.size rfl fun g cap w' h1 h2 _ h4 => h g cap w' ?_ h2 h4
  unfold Ints
  rw [List.length_append, List.map_append]
  exact h1

theorem fresh0 (w : World) (n B : Nat) (hn : n = w.heap.size) (hB : B ≤ n) : Ints (w.alloc (.cells #[] 3)) B (.slice (some ⟨n, 0, none⟩) 0 0) [] := by
  subst hn
  exact ⟨rfl, .inr ⟨w.heap.size, 0, #[], rfl, hB, heap_alloc_new _ _, Nat.le_refl _, Nat.zero_le _, rfl, rfl⟩⟩

theorem ints_drew {w : World} {B : Nat} {v : Value} {l : List Int} (h : Ints w B v l) : Ints w.drew B v l := h
theorem ints_alloc {w : World} {B : Nat} {v : Value} {l : List Int} (h : Ints w B v l) (o : Obj) : Ints (w.alloc o) B v l := World.ownsRow.alloc h o

/-- A block of one int. -/
def NewsAt (w : World) (n : Nat) (x : Int) : Prop := n < w.heap.size ∧ w.cell? ⟨n, 0, none⟩ = some (.int .i64 x)
theorem NewsAt.new (w : World) (n : Nat) (x : Int) (hn : n = w.heap.size) : NewsAt (w.alloc (.cells #[.int .i64 x] 3)) n x := by
  subst hn
  exact ⟨by simp, by simp⟩
theorem NewsAt.drew {w : World} {n : Nat} {x : Int} (h : NewsAt w n x) : NewsAt w.drew n x := h
theorem NewsAt.alloc {w : World} {n : Nat} {x : Int} (h : NewsAt w n x) (o : Obj) : NewsAt (w.alloc o) n x :=
  ⟨Nat.lt_of_lt_of_le h.1 (by simp), (World.cell?_of_block (Below.heap_alloc _ _ _ h.1)).trans h.2⟩
theorem NewsAt.grown {w w' : World} {row : Option Nat} {n : Nat} {x : Int} (h : NewsAt w n x) (hg : w.grownBy w' row) (hne : some n ≠ row) : NewsAt w' n x :=
  ⟨Nat.lt_of_lt_of_le h.1 hg.size, (hg.cell_far _ h.1 hne).trans h.2⟩
theorem NewsAt.news {w : World} {n : Nat} {x : Int} (h : NewsAt w n x) : ∀ j u, (([x] : List Int).map (Value.int .i64))[j]? = some u → w.cell? ((⟨n, 0, none⟩ : Addr).add j) = some u := by
  intro j u hj
  match j, hj with
  | 0, hj => simp at hj; subst hj; simpa [Addr.add] using h.2

theorem NewsAt.of {w w' : World} {n : Nat} {x : Int} (h : NewsAt w n x) (e : w'.heap = w.heap) : NewsAt w' n x := by
  refine ⟨by rw [e]; exact h.1, ?_⟩
  rw [World.cell?_of_block (w := w) (w' := w') (by rw [e])]
  exact h.2
theorem ints_of {w w' : World} {B : Nat} {v : Value} {l : List Int} (h : Ints w B v l) (e : w'.heap = w.heap) : Ints w' B v l := by
  unfold Ints World.ownsRow at h ⊢
  rw [e]
  exact h
theorem own_ne_succ (n : Nat) : some (n + 1) ≠ (Value.slice (some ⟨n, 0, none⟩) 0 0).ownBlock := fun e => by injection e with e2; simp at e2
theorem own_ne_size (n : Nat) : some n ≠ (Value.slice (some ⟨n + 1, 0, none⟩) 0 0).ownBlock := fun e => by injection e with e2; simp at e2
/-- The three orders in which the two new lists are laid. -/
theorem freshA {u W : World} (e : W.heap = (u.alloc (.cells #[] 3)).heap) : Ints W u.heap.size (.slice (some ⟨u.heap.size, 0, none⟩) 0 0) [] := ints_of (fresh0 u _ _ rfl (Nat.le_refl _)) e
theorem freshB {u W : World} {x : Int} (e : W.heap = ((u.alloc (.cells #[] 3)).alloc (.cells #[.int .i64 x] 3)).heap) : Ints W u.heap.size (.slice (some ⟨u.heap.size, 0, none⟩) 0 0) [] := ints_of (ints_alloc (fresh0 u _ _ rfl (Nat.le_refl _)) _) e
theorem freshC {u W : World} {x : Int} (e : W.heap = ((u.alloc (.cells #[.int .i64 x] 3)).alloc (.cells #[] 3)).heap) : Ints W u.heap.size (.slice (some ⟨u.heap.size + 1, 0, none⟩) 0 0) [] := ints_of (fresh0 _ _ _ (by simp) (by omega)) e
theorem newsB {u W W' : World} {x : Int} (hg : W.grownBy W' (Value.slice (some ⟨u.heap.size, 0, none⟩) 0 0).ownBlock) (e : W.heap = ((u.alloc (.cells #[] 3)).alloc (.cells #[.int .i64 x] 3)).heap) : NewsAt W' (u.heap.size + 1) x := ((NewsAt.new _ _ x (by simp)).of e).grown hg (own_ne_succ _)
theorem newsC {u W W' : World} {x : Int} (hg : W.grownBy W' (Value.slice (some ⟨u.heap.size + 1, 0, none⟩) 0 0).ownBlock) (e : W.heap = ((u.alloc (.cells #[.int .i64 x] 3)).alloc (.cells #[] 3)).heap) : NewsAt W' u.heap.size x := (((NewsAt.new u _ x rfl).alloc _).of e).grown hg (own_ne_size _)

/-- The block of the rules. -/
def BoxR (w u : World) (v : Value) (sh : Bool) (lv : Int) : Prop := u.heap[w.heap.size]? = some (.cells #[v, .bool sh, .int .i64 lv] 25)

theorem BoxR.below {w u u' : World} {v : Value} {sh : Bool} {lv : Int} (h : BoxR w u v sh lv) (hb : Below u.heap.size u u') : BoxR w u' v sh lv := by
  unfold BoxR
  rw [hb.block _ (Array.getElem?_eq_some_iff.1 h).1]; exact h

def LMRel (w : World) (es : List Ent) (run rest : List Int) (v : Value) (sh : Bool) (lv : Int) (ans : Int) (i : Value) (wr : World) : Prop :=
  ∃ k : Nat, k ≤ rest.length ∧ i = .int .i64 k ∧ markFrom es run rest (rest.drop k) k = ans ∧ BoxR w wr v sh lv ∧ Below w.heap.size w wr

set_option maxRecDepth 100000 in
set_option maxHeartbeats 4000000 in
theorem mark4_row (w : World) (B Br Bs gr cr gs cs : Nat) (v : Value) (es : List Ent) (sh : Bool) (lv : Int) (run rest : List Int) (hE : Ents w B v es) (hn : es.length ≤ 1048576) (hr : ∀ e ∈ es, e.runes.length ≤ 1048576)
    (hR : Ints w Br (.slice (some ⟨gr, 0, none⟩) run.length cr) run) (hS : Ints w Bs (.slice (some ⟨gs, 0, none⟩) rest.length cs) rest) (h1 : 1 ≤ run.length) (hrl : run.length ≤ 4000) (hsl : rest.length ≤ 4000) :
    Calls Tryz.prog 85 #[.agg #[v, .bool sh, .int .i64 lv], .slice (some ⟨gr, 0, none⟩) run.length cr, .slice (some ⟨gs, 0, none⟩) rest.length cs] w fun e w' => e = .returned (.int .i64 (markAt es run rest)) ∧ Below w.heap.size w w' := by
  obtain ⟨i0, hi, hzz, hz1, hz2⟩ := info_parts info_int
  obtain ⟨ans, HANS⟩ : ∃ ans, Hid (markAt es run rest = ans) := ⟨_, rfl⟩
  rw [HANS.out]
  obtain ⟨va, vn, vc, rfl⟩ : ∃ a n c, v = .slice a n c := by
    rcases hE.form with ⟨rfl, _⟩ | ⟨_, _, rfl, _, _, _, _⟩
    · exact ⟨_, _, _, rfl⟩
    · exact ⟨_, _, _, rfl⟩
  have CL := fun r w => specClass_any r w
  have hcap : rest.length ≤ cs := by
    rcases hS.form with ⟨h, _⟩ | ⟨_, _, h, h2, _⟩
    · cases h
    · injection h with _ _ h3; omega
  go_enter Tryz.func85, Tryz.ntmps85
  go_wp2
  go_loopw [15] (fun i wr => LMRel w es run rest (.slice va vn vc) sh lv ans i wr) (fun i _ => rest.length - (intOf i).toNat)
  case atStart => exact ⟨0, Nat.zero_le _, rfl, by rw [List.drop_zero]; exact HANS.out, heap_alloc_new w _, (Below.refl _ _).alloc (Nat.le_refl _) _⟩
  case round =>
    clear HANS
    obtain ⟨k, hk, rfl, hA, hB, hb⟩ := hrel
    have HA : Hid _ := hA
    clear hA
    by_cases hlt : k < rest.length
    · obtain ⟨m, hm⟩ : ∃ m, rest[k]? = some m := ⟨_, List.getElem?_eq_getElem hlt⟩
      have c0 := ints_at0 (hS.below hb) k m hm
      have hk8 : (k : Int) < (rest.length : Int) := by omega
      have HA2 : Hid ((if cls m = 0 then -1 else if blkB rest k (cls m) = false ∧ 0 ≤ atE es (run ++ [m]) then (k : Int) else markFrom es run rest (rest.drop (k + 1)) (k + 1)) = ans) := by
        show _ = _
        rw [← HA.out, int_drop hm]
        rfl
      clear HA
      by_cases hc : cls m = 0
      · have HF : Hid (-1 = ans) := by show _ = _; rw [← HA2.out, if_pos hc]
        have C0 := fun w => CL m w
        rw [hc] at C0
        clear HA2 CL
        go_wp2_with fail
        refine (C0 _).mono ?_
        rintro e w3 ⟨rfl, rfl⟩
        go_wp2
        go_ret
        rw [← HF.out]
        exact ⟨rfl, hb⟩
      · have HA3 : Hid ((if blkB rest k (cls m) = false ∧ 0 ≤ atE es (run ++ [m]) then (k : Int) else markFrom es run rest (rest.drop (k + 1)) (k + 1)) = ans) := by show _ = _; rw [← HA2.out, if_neg hc]
        have hc' : (cls m == 0) = false := by simpa using hc
        clear HA2
        obtain ⟨c, HC⟩ : ∃ c, Hid (cls m = c) := ⟨_, rfl⟩
        have C0 := fun w => CL m w
        rw [HC.out] at C0 hc' HA3
        have hSb := hS.below hb
        have hkc : k ≤ cs := by omega
        go_wp2_with fail
        refine (C0 _).mono ?_
        rintro e w3 ⟨rfl, hw3⟩
        obtain rfl : wr = w3 := hw3.symm
        clear C0 c0
        go_wp2_with fail
        go_loop [10, 28] (fun bv i => ∃ j : Nat, j ≤ k ∧ i = .int .i64 j ∧ bv = .bool (blkB rest j c)) (fun _ i => k - (intOf i).toNat)
        case atStart => exact ⟨0, Nat.zero_le _, rfl, rfl⟩
        case round =>
          obtain ⟨j, hj, rfl, rfl⟩ := hrel
          by_cases hjl : j < k
          · obtain ⟨x, hx⟩ : ∃ x, rest[j]? = some x := ⟨_, List.getElem?_eq_getElem (by omega)⟩
            have cx := ints_at0 hSb j x hx
            have hj8 : (j : Int) < (k : Int) := by omega
            have hst := blk_step (c := c) hx
            cases hbl : blkB rest j c
            · have CX := fun w => CL x w
              rw [hbl, Bool.false_or] at hst
              have HST : Hid _ := hst
              clear hst hx
              go_wp2_with fail
              refine (CX _).mono ?_
              rintro e w4 ⟨rfl, hw4⟩
              obtain rfl : wr = w4 := hw4.symm
              clear CX
              go_wp2
              exact ⟨⟨j + 1, hjl, by go_num, by rw [HST.out]⟩, by simp [intOf]; omega⟩
            · rw [hbl, Bool.true_or] at hst
              have HST : Hid _ := hst
              clear hst hx
              go_wp2
              exact ⟨⟨j + 1, hjl, by go_num, by rw [HST.out]⟩, by simp [intOf]; omega⟩
          · have hjk : j = k := by omega
            subst hjk
            obtain ⟨p0, p1, p2⟩ : wr.cell? ⟨w.heap.size, 0, none⟩ = some (.slice va vn vc) ∧ wr.cell? ⟨w.heap.size, 1, none⟩ = some (.bool sh) ∧ wr.cell? ⟨w.heap.size, 2, none⟩ = some (.int .i64 lv) := ⟨cell_of_row _ _ 0 _ _ _ hB, cell_of_row _ _ 1 _ _ _ hB, cell_of_row _ _ 2 _ _ _ hB⟩
            generalize hbl : blkB rest j c = bb
            cases bb
            · have HB : Hid (BoxR _ _ _ _ _) := hB
              have HBE : Hid (Below _ _ _) := hb
              have RC : ∀ W : World, Below wr.heap.size wr W → ∀ i u, (run.map (Value.int .i64))[i]? = some u → W.cell? ((⟨gr, 0, none⟩ : Addr).add i) = some u := fun W hW i u hi => by
                rw [List.getElem?_map, Option.map_eq_some_iff] at hi
                obtain ⟨y, hy, rfl⟩ := hi
                rw [Addr.add_mid, hW.cell (Nat.lt_of_lt_of_le (World.ownsRow.lt hR gr rfl).2 hb.size), Nat.zero_add]
                exact ints_at0 (hR.below hb) i y hy
              have AT := fun (W : World) (B' : Nat) (v' : Value) (hW : Below wr.heap.size wr W) (hi : Ints W B' v' (run ++ [m])) => at3_any (sh := sh) (lv := lv) ((hE.below hb).below hW) hi hn (by rw [List.length_append]; simp; omega) hr
              go_wp2_with fail
              have KS : Hid (∀ u, Below wr.heap.size wr u → u.cell? ⟨w.heap.size, 0, none⟩ = some (.slice va vn vc) ∧ u.cell? ⟨w.heap.size, 1, none⟩ = some (.bool sh) ∧ u.cell? ⟨w.heap.size, 2, none⟩ = some (.int .i64 lv)) := fun u hu => (show _ from ⟨cell_of_row _ _ 0 _ _ _ (hB.below hu), cell_of_row _ _ 1 _ _ _ (hB.below hu), cell_of_row _ _ 2 _ _ _ (hB.below hu)⟩)
              go_region_held3 (fun u => u.cell? ⟨w.heap.size, 0, none⟩ = some (.slice va vn vc) ∧ u.cell? ⟨w.heap.size, 1, none⟩ = some (.bool sh) ∧ u.cell? ⟨w.heap.size, 2, none⟩ = some (.int .i64 lv)) (exact KS.out _ (by repeat (first | with_reducible exact Below.refl _ _ | with_reducible exact hbw4 | with_reducible exact hbw3 | with_reducible exact hbw2 | with_reducible refine Below.drew ?_ | with_reducible refine Below.alloc ?_ (by first | omega | (simp; done) | (simp; omega)) _))) ((first
                | (refine step_app_i (by rfl) (.tmp 44) (.tmp 45) rfl wr.heap.size (.slice (some ⟨wr.heap.size, 0, none⟩) 0 0) [] run rfl (freshA rfl) ⟨gr, 0, none⟩ run.length cr rfl rfl (RC _ (by repeat (first | with_reducible exact Below.refl _ _ | with_reducible exact hbw4 | with_reducible exact hbw3 | with_reducible exact hbw2 | with_reducible refine Below.drew ?_ | with_reducible refine Below.alloc ?_ (by first | omega | (simp; done) | (simp; omega)) _))) (by omega) (by simp; omega) (by first | omega | (simp; done) | (simp; omega)) run.length (by simp) run rfl ?_; intro g2 c2 w2 i2 hg2 hl2; have hbw2 : Below wr.heap.size wr w2 := Below.grown (by repeat (first | with_reducible exact Below.refl _ _ | with_reducible exact hbw4 | with_reducible exact hbw3 | with_reducible exact hbw2 | with_reducible refine Below.drew ?_ | with_reducible refine Below.alloc ?_ (by first | omega | (simp; done) | (simp; omega)) _)) hg2 (by first | omega | (simp; done) | (simp; omega)) (fun k hk => by simp [Value.ownBlock] at hk; omega); have hsw2 := hbw2.size; clear hg2)
                | (refine step_app_i (by rfl) (.tmp 44) (.tmp 45) rfl wr.heap.size (.slice (some ⟨wr.heap.size, 0, none⟩) 0 0) [] run rfl (freshB (x := m) rfl) ⟨gr, 0, none⟩ run.length cr rfl rfl (RC _ (by repeat (first | with_reducible exact Below.refl _ _ | with_reducible exact hbw4 | with_reducible exact hbw3 | with_reducible exact hbw2 | with_reducible refine Below.drew ?_ | with_reducible refine Below.alloc ?_ (by first | omega | (simp; done) | (simp; omega)) _))) (by omega) (by simp; omega) (by first | omega | (simp; done) | (simp; omega)) run.length (by simp) run rfl ?_; intro g2 c2 w2 i2 hg2 hl2; have hbw2 : Below wr.heap.size wr w2 := Below.grown (by repeat (first | with_reducible exact Below.refl _ _ | with_reducible exact hbw4 | with_reducible exact hbw3 | with_reducible exact hbw2 | with_reducible refine Below.drew ?_ | with_reducible refine Below.alloc ?_ (by first | omega | (simp; done) | (simp; omega)) _)) hg2 (by first | omega | (simp; done) | (simp; omega)) (fun k hk => by simp [Value.ownBlock] at hk; omega); have hsw2 := hbw2.size; have nw2 := newsB (x := m) hg2 rfl; clear hg2)
                | (refine step_app_i (by rfl) (.tmp 44) (.tmp 45) rfl wr.heap.size (.slice (some ⟨wr.heap.size + 1, 0, none⟩) 0 0) [] run rfl (freshC (x := m) rfl) ⟨gr, 0, none⟩ run.length cr rfl rfl (RC _ (by repeat (first | with_reducible exact Below.refl _ _ | with_reducible exact hbw4 | with_reducible exact hbw3 | with_reducible exact hbw2 | with_reducible refine Below.drew ?_ | with_reducible refine Below.alloc ?_ (by first | omega | (simp; done) | (simp; omega)) _))) (by omega) (by simp; omega) (by first | omega | (simp; done) | (simp; omega)) run.length (by simp) run rfl ?_; intro g2 c2 w2 i2 hg2 hl2; have hbw2 : Below wr.heap.size wr w2 := Below.grown (by repeat (first | with_reducible exact Below.refl _ _ | with_reducible exact hbw4 | with_reducible exact hbw3 | with_reducible exact hbw2 | with_reducible refine Below.drew ?_ | with_reducible refine Below.alloc ?_ (by first | omega | (simp; done) | (simp; omega)) _)) hg2 (by first | omega | (simp; done) | (simp; omega)) (fun k hk => by simp [Value.ownBlock] at hk; omega); have hsw2 := hbw2.size; have nw2 := newsC (x := m) hg2 rfl; clear hg2)
                | (refine step_app_i (by rfl) (.tmp 46) (.tmp 48) rfl wr.heap.size (.slice (some ⟨g2, 0, none⟩) run.length c2) run [m] rfl (ints_of (ints_alloc i2 (.cells #[.int .i64 m] 3)) rfl) ⟨w2.heap.size, 0, none⟩ 1 1 rfl rfl (NewsAt.news ((NewsAt.new w2 _ m rfl).of rfl)) (by omega) (by omega) (by have := hbw2.size; first | omega | (simp; done) | (simp; omega)) (run.length + 1) rfl (run ++ [m]) rfl ?_; intro g3 c3 w3 i3 hg3 hl3; have hbw3 : Below wr.heap.size wr w3 := Below.grown (by repeat (first | with_reducible exact Below.refl _ _ | with_reducible exact hbw4 | with_reducible exact hbw3 | with_reducible exact hbw2 | with_reducible refine Below.drew ?_ | with_reducible refine Below.alloc ?_ (by first | omega | (simp; done) | (simp; omega)) _)) hg3 (by have := hbw2.size; first | omega | (simp; done) | (simp; omega)) (fun k hk => (World.ownsRow.lt i2 k hk).1); have hsw3 := hbw3.size; clear hg3)
                | (refine step_app_i (by rfl) (.tmp 46) (.tmp 48) rfl wr.heap.size (.slice (some ⟨g2, 0, none⟩) run.length c2) run [m] rfl (ints_of i2 rfl) ⟨wr.heap.size + 1, 0, none⟩ 1 1 rfl rfl (NewsAt.news (nw2.of rfl)) (by omega) (by omega) (by have := hbw2.size; first | omega | (simp; done) | (simp; omega)) (run.length + 1) rfl (run ++ [m]) rfl ?_; intro g3 c3 w3 i3 hg3 hl3; have hbw3 : Below wr.heap.size wr w3 := Below.grown (by repeat (first | with_reducible exact Below.refl _ _ | with_reducible exact hbw4 | with_reducible exact hbw3 | with_reducible exact hbw2 | with_reducible refine Below.drew ?_ | with_reducible refine Below.alloc ?_ (by first | omega | (simp; done) | (simp; omega)) _)) hg3 (by have := hbw2.size; first | omega | (simp; done) | (simp; omega)) (fun k hk => (World.ownsRow.lt i2 k hk).1); have hsw3 := hbw3.size; clear hg3)
                | (refine step_app_i (by rfl) (.tmp 46) (.tmp 48) rfl wr.heap.size (.slice (some ⟨g2, 0, none⟩) run.length c2) run [m] rfl (ints_of i2 rfl) ⟨wr.heap.size, 0, none⟩ 1 1 rfl rfl (NewsAt.news (nw2.of rfl)) (by omega) (by omega) (by have := hbw2.size; first | omega | (simp; done) | (simp; omega)) (run.length + 1) rfl (run ++ [m]) rfl ?_; intro g3 c3 w3 i3 hg3 hl3; have hbw3 : Below wr.heap.size wr w3 := Below.grown (by repeat (first | with_reducible exact Below.refl _ _ | with_reducible exact hbw4 | with_reducible exact hbw3 | with_reducible exact hbw2 | with_reducible refine Below.drew ?_ | with_reducible refine Below.alloc ?_ (by first | omega | (simp; done) | (simp; omega)) _)) hg3 (by have := hbw2.size; first | omega | (simp; done) | (simp; omega)) (fun k hk => (World.ownsRow.lt i2 k hk).1); have hsw3 := hbw3.size; clear hg3)
                | (go_at_call 42; refine (AT _ _ _ (by repeat (first | with_reducible exact Below.refl _ _ | with_reducible exact hbw4 | with_reducible exact hbw3 | with_reducible exact hbw2 | with_reducible refine Below.drew ?_ | with_reducible refine Below.alloc ?_ (by first | omega | (simp; done) | (simp; omega)) _)) (by repeat (first | with_reducible exact i3 | with_reducible refine ints_drew ?_ | with_reducible refine ints_alloc ?_ _))).mono ?_; rintro e w4 ⟨rfl, b4⟩; have hbw4 : Below wr.heap.size wr w4 := hbw3.trans (Below.mono (by first | exact b4 | exact ((Below.refl _ _).drew).trans b4) hbw3.size))))
              all_goals
                have hbx : Below w.heap.size w w4 := HBE.out.trans (hbw4.mono HBE.out.size)
                have HBX : Hid (Below _ _ _) := hbx
                have HBR : Hid (BoxR _ _ _ _ _) := hB.below hbw4
                clear AT RC KS hbx hbw4 hbw3 hbw2 i3 i2 b4
                by_cases hp : 0 ≤ atE es (run ++ [m])
                · have HF : Hid ((j : Int) = ans) := by show _ = _; rw [← HA3.out, if_pos ⟨hbl, hp⟩]
                  clear HA3
                  go_wp2
                  go_ret
                  rw [← HF.out]
                  exact ⟨rfl, HBX.out⟩
                · have HF : Hid (markFrom es run rest (rest.drop (j + 1)) (j + 1) = ans) := by show _ = _; rw [← HA3.out, if_neg (fun c => hp c.2)]
                  clear HA3
                  go_wp2
                  exact ⟨⟨j + 1, hlt, by go_num, HF.out, HBR.out, HBX.out⟩, by simp [intOf]; omega⟩
            · have HF : Hid (markFrom es run rest (rest.drop (j + 1)) (j + 1) = ans) := by show _ = _; rw [← HA3.out, if_neg (by simp [hbl])]
              clear HA3 CL
              go_wp2_with fail
              go_quiet (fail)
              go_wp2
              exact ⟨⟨j + 1, hlt, by go_num, HF.out, hB.below (below_drewN (Below.refl _ _) _), below_drewN hb _⟩, by simp [intOf]; omega⟩
    · have hk3 : k = rest.length := by omega
      subst hk3
      have HF : Hid (-1 = ans) := by show _ = _; rw [← HA.out, List.drop_length]; rfl
      clear HA CL
      go_wp2
      go_ret
      rw [← HF.out]
      exact ⟨rfl, hb⟩
end Go.Proofs.YtinjldagfhbioaaGreatDoor

namespace Go.Proofs.YtinjldagfhbioaaGreatDoor
open Go.RowKit

set_option maxRecDepth 100000 in
set_option maxHeartbeats 1000000 in
theorem mark4_nil (w : World) (va : Value) (sh : Bool) (lv : Int) (vr : Value) (a : Option Addr) (c : Nat) (es : List Ent) (run : List Int) :
    Calls Tryz.prog 85 #[.agg #[va, .bool sh, .int .i64 lv], vr, .slice a 0 c] w fun e w' => e = .returned (.int .i64 (markAt es run [])) ∧ Below w.heap.size w w' := by
  have HF : Hid (-1 = markAt es run []) := rfl
  go_enter Tryz.func85, Tryz.ntmps85
  go_wp2
  go_loop [15] (fun i => i = .int .i64 0) (fun _ => 0)
  case atStart => rfl
  case round =>
    subst hrel
    go_wp2
    go_ret
    rw [← HF.out]
    exact ⟨rfl, (Below.refl _ _).alloc (Nat.le_refl _) _⟩

theorem mark4_any {w : World} {B Br Bs : Nat} {v vr vq : Value} {es : List Ent} {sh : Bool} {lv : Int} {run rest : List Int} (hE : Ents w B v es) (hn : es.length ≤ 1048576) (hr : ∀ e ∈ es, e.runes.length ≤ 1048576)
    (hR : Ints w Br vr run) (hS : Ints w Bs vq rest) (h1 : 1 ≤ run.length) (hrl : run.length ≤ 4000) (hsl : rest.length ≤ 4000) :
    Calls Tryz.prog 85 #[.agg #[v, .bool sh, .int .i64 lv], vr, vq] w fun e w' => e = .returned (.int .i64 (markAt es run rest)) ∧ Below w.heap.size w w' := by
  rcases hS.form with ⟨rfl, rfl⟩ | ⟨gs, cs, rfl, _, _⟩
  · exact mark4_nil w v sh lv vr none 0 es run
  · rcases hR.form with ⟨rfl, rfl⟩ | ⟨gr, cr, rfl, _, _⟩
    · simp at h1
    · exact mark4_row w B Br Bs gr cr gs cs v es sh lv run rest hE hn hr hR hS h1 hrl hsl

theorem BoxR.three {w u : World} {v : Value} {sh : Bool} {lv : Int} (h : BoxR w u v sh lv) : u.cell? ⟨w.heap.size, 0, none⟩ = some v ∧ u.cell? ⟨w.heap.size, 1, none⟩ = some (.bool sh) ∧ u.cell? ⟨w.heap.size, 2, none⟩ = some (.int .i64 lv) :=
  ⟨cell_of_row _ _ 0 _ _ _ h, cell_of_row _ _ 1 _ _ _ h, cell_of_row _ _ 2 _ _ _ h⟩

theorem BoxR.kept {w u u' : World} {v : Value} {sh : Bool} {lv : Int} {row : Option Nat} (h : BoxR w u v sh lv) (hg : u.grownBy u' row) (hne : ∀ g, row = some g → w.heap.size + 1 ≤ g) : BoxR w u' v sh lv := by
  unfold BoxR at h ⊢
  rw [hg.block _ (Array.getElem?_eq_some_iff.1 h).1 (fun e => by have := hne _ e.symm; omega)]
  exact h

def sliceLenS : Value → Nat
  | .slice _ n _ => n
  | _ => 0

/-- A run, what is left, and how they lie. -/
structure RR (w u : World) (v : Value) (sh : Bool) (lv : Int) (v5 vr vq : Value) (done : List El) (run rest : List Int) : Prop where
  run : Ints u (w.heap.size + 1) vr run
  rest : ∃ T, Ints u T vq rest ∧ w.heap.size + 1 ≤ T ∧ ∀ g, vr.ownBlock = some g → g < T
  els : Elems u (w.heap.size + 1) v5 done
  box : BoxR w u v sh lv
  bel : Below w.heap.size w u

theorem RR.below {w u u' : World} {v v5 vr vq : Value} {sh : Bool} {lv : Int} {done : List El} {run rest : List Int} (h : RR w u v sh lv v5 vr vq done run rest) (hb : Below u.heap.size u u') : RR w u' v sh lv v5 vr vq done run rest := by
  obtain ⟨T, h1, h2, h3⟩ := h.rest
  exact ⟨h.run.below hb, ⟨T, h1.below hb, h2, h3⟩, h.els.below hb, h.box.below hb, h.bel.trans (hb.mono h.bel.size)⟩

def R3Rel (w : World) (v : Value) (sh : Bool) (lv : Int) (es : List Ent) (v5 : Value) (done : List El) (N : Nat) (goal : List Int × List Int) (vr vq : Value) (wr : World) : Prop :=
  ∃ run rest, 1 ≤ run.length ∧ run.length + rest.length = N ∧ grab es run rest = goal ∧ RR w wr v sh lv v5 vr vq done run rest

def R1Rel (w : World) (v : Value) (sh : Bool) (lv : Int) (es : List Ent) (goal : List El) (v1 v5 : Value) (wr : World) : Prop :=
  ∃ (rest : List Int) (done : List El), rest.length ≤ 1800 ∧ done.length + 2 * rest.length ≤ 3600 ∧ (∀ x ∈ rest, 0 ≤ x ∧ x ≤ 1114111) ∧ Ints wr (w.heap.size + 1) v1 rest ∧ Elems wr (w.heap.size + 1) v5 done ∧ done ++ elems4 es rest = goal ∧ BoxR w wr v sh lv ∧ Below w.heap.size w wr

/-- What stands while runes are gone along. -/
structure St1 (w u : World) (v : Value) (sh : Bool) (lv : Int) (v1 v5 : Value) (rest : List Int) (done : List El) : Prop where
  ints : Ints u (w.heap.size + 1) v1 rest
  els : Elems u (w.heap.size + 1) v5 done
  box : BoxR w u v sh lv
  bel : Below w.heap.size w u

theorem St1.below {w u u' : World} {v v1 v5 : Value} {sh : Bool} {lv : Int} {rest : List Int} {done : List El} (h : St1 w u v sh lv v1 v5 rest done) (hb : Below u.heap.size u u') : St1 w u' v sh lv v1 v5 rest done :=
  ⟨h.ints.below hb, h.els.below hb, h.box.below hb, h.bel.trans (hb.mono h.bel.size)⟩

def R2Rel (w : World) (v : Value) (sh : Bool) (lv : Int) (v1 v5 : Value) (es : List Ent) (rest : List Int) (done : List El) (nv kv : Value) (wr : World) : Prop :=
  ∃ k : Nat, 2 ≤ k ∧ k ≤ 5 ∧ kv = .int .i64 k ∧ nv = .int .i64 (runTo es rest k) ∧ St1 w wr v sh lv v1 v5 rest done

theorem rowAt_drop {w : World} {g c n m : Nat} {l : List Int} (hg : g < w.heap.size) (hc : ∀ j x, l[j]? = some x → w.cell? ⟨g, 0 + j, none⟩ = some (.int .i64 x)) (hm : m = l.length - n) : RowAt w (.slice (some ⟨g, n, none⟩) m c) (l.drop n) := by
  subst hm
  refine .inr ⟨g, n, c, by rw [List.length_drop], hg, fun j x hx => ?_⟩
  rw [List.getElem?_drop] at hx
  have := hc (n + j) x hx
  rw [Nat.zero_add] at this
  exact this

theorem rowAt_none {w : World} {a : Option Addr} {c m : Nat} {l : List Int} (hm : m = 0) (hl : l = []) : RowAt w (.slice a m c) l := .inl ⟨a, c, by rw [hm], hl⟩

theorem els_lowS {w : World} {B B' : Nat} {v : Value} {es : List El} (h : Elems w B' v es) (hB : B ≤ B') : Elems w B v es := by
  refine ⟨h.1, ?_⟩
  rcases h.2 with h | ⟨g, cap, cur, h1, h2, h3⟩
  · exact .inl h
  · exact .inr ⟨g, cap, cur, h1, Nat.le_trans hB h2, h3⟩

theorem ints_form1S {w : World} {B : Nat} {v : Value} {l : List Int} (h : Ints w B v l) (h1 : 1 ≤ l.length) : ∃ g c, v = .slice (some ⟨g, 0, none⟩) l.length c ∧ B ≤ g ∧ g < w.heap.size ∧ ∀ j x, l[j]? = some x → w.cell? ⟨g, 0 + j, none⟩ = some (.int .i64 x) := by
  rcases h.form with ⟨rfl, rfl⟩ | ⟨g, cap, rfl, _, _⟩
  · simp at h1
  · refine ⟨g, cap, rfl, (World.ownsRow.lt h g rfl).1, (World.ownsRow.lt h g rfl).2, fun j x hx => ?_⟩
    have hj := (List.getElem?_eq_some_iff.1 hx).1
    rw [Nat.zero_add, h.cell j hj, hx]
    rfl

theorem below_app {B : Nat} {a u u' : World} {v : Value} (h : Below B a u) (hg : u.grownBy u' v.ownBlock) (hB : B ≤ u.heap.size) (hv : ∀ g, v.ownBlock = some g → B ≤ g) : Below B a u' := Below.grown h hg hB hv

theorem rowAt_of {w w' : World} {v : Value} {l : List Int} (h : RowAt w v l) (e : w'.heap = w.heap) : RowAt w' v l := by
  rcases h with h | ⟨g, f, c, h1, h2, h3⟩
  · exact .inl h
  · exact .inr ⟨g, f, c, h1, by rw [e]; exact h2, fun j x hx => (World.cell?_of_block (by rw [e])).trans (h3 j x hx)⟩

theorem ents_elem {w : World} {B g cap : Nat} {es : List Ent} (h : Ents w B (.slice (some ⟨g, 0, none⟩) es.length cap) es) (k : Nat) (e : Ent) (hk : es[k]? = some e) :
    w.cell? ⟨g, k * 5 + 1, none⟩ = some (.int .i64 e.el.first) ∧ w.cell? ⟨g, k * 5 + 2, none⟩ = some (.int .i64 e.el.second) ∧ w.cell? ⟨g, k * 5 + 3, none⟩ = some (.int .i64 e.el.third) ∧ w.cell? ⟨g, k * 5 + 4, none⟩ = some (.bool e.el.varies) := by
  obtain ⟨_, _, _, h1, h2, h3, h4⟩ := h.cells k e hk
  exact ⟨h1, h2, h3, h4⟩

theorem elsOf_at {es : List Ent} {run : List Int} {i : Nat} {e : Ent} (he : es[i]? = some e) (h : atE es run = (i : Int)) : elsOf es run = [e.el] := by
  have : entOf es run = some e.el := by unfold entOf; rw [h, if_pos (by omega), Int.toNat_natCast, he]; rfl
  unfold elsOf
  rw [this]

theorem elsOf_no {es : List Ent} {run : List Int} (h : atE es run = -1) : elsOf es run = base (at0 run 0) := by
  have : entOf es run = none := by unfold entOf; rw [h, if_neg (by omega)]
  unfold elsOf
  rw [this]

theorem lenS_form {w : World} {B : Nat} {v : Value} {l : List Int} (h : Ints w B v l) : ∃ a c, v = .slice a l.length c := h.rowAt.slice

set_option maxRecDepth 100000 in
set_option maxHeartbeats 8000000 in
theorem elems4S_any {w : World} {B B' : Nat} {v vl : Value} {es : List Ent} {sh : Bool} {lv : Int} {l : List Int} (hE : Ents w B v es) (hn : es.length ≤ 1048576) (hr : ∀ e ∈ es, e.runes.length ≤ 1048576)
    (hL : Ints w B' vl l) (hl : l.length ≤ 1800) (hg : ∀ x ∈ l, 0 ≤ x ∧ x ≤ 1114111) :
    Calls Tryz.prog 66 #[.agg #[v, .bool sh, .int .i64 lv], vl] w fun e w' => ∃ v', e = .returned v' ∧ Elems w' w.heap.size v' (elems4 es l) ∧ Below w.heap.size w w' := by
  obtain ⟨va, vc, rfl⟩ : ∃ a c, v = .slice a es.length c := by
    rcases hE.form with ⟨rfl, rfl⟩ | ⟨_, _, rfl, _, _, _, _⟩
    · exact ⟨_, _, rfl⟩
    · exact ⟨_, _, rfl⟩
  obtain ⟨al, cl, rfl⟩ := lenS_form hL
  have hbx : Below w.heap.size w (w.alloc (.cells #[.slice va es.length vc, .bool sh, .int .i64 lv] 25)) := (Below.refl _ _).alloc (Nat.le_refl _) _
  have hbox : BoxR w (w.alloc (.cells #[.slice va es.length vc, .bool sh, .int .i64 lv] 25)) (.slice va es.length vc) sh lv := heap_alloc_new w _
  obtain ⟨goal, HGOAL⟩ : ∃ goal, Hid (elems4 es l = goal) := ⟨_, rfl⟩
  rw [HGOAL.out]
  have HE : Hid (Ents _ _ _ _) := hE
  have hi0 : Ints ((w.alloc (.cells #[.slice va es.length vc, .bool sh, .int .i64 lv] 25)).alloc (.cells #[] 3)) (w.heap.size + 1) (.slice (some ⟨w.heap.size + 1, 0, none⟩) 0 0) [] := fresh0 _ _ _ (by simp) (by omega)
  have hR0 : RowAt ((w.alloc (.cells #[.slice va es.length vc, .bool sh, .int .i64 lv] 25)).alloc (.cells #[] 3)) (.slice al l.length cl) l := ((hL.below hbx).below (below_alloc_any _ _)).rowAt
  clear hE hL
  go_enter Tryz.func66, Tryz.ntmps66
  go_wp2_with (at_builtin; refine append_ints rfl _ _ rfl (w.heap.size + 1) _ _ [] l rfl rfl hi0 hR0 (by simp; omega) (by simp) ?_)
  intro v1 w1 i1 g1
  have hst : R1Rel w (.slice va es.length vc) sh lv es goal v1 (.slice none 0 0) w1 :=
    ⟨l, [], hl, by simp; omega, hg, i1, ⟨rfl, .inl ⟨rfl, rfl⟩⟩, HGOAL.out, (hbox.below (below_alloc_any _ _)).kept g1 (fun g e => by simp [Value.ownBlock] at e; omega), Below.grown (hbx.trans ((below_alloc_any _ _).mono hbx.size)) g1 (by simp; omega) (fun g e => by simp [Value.ownBlock] at e; omega)⟩
  have HST : Hid (R1Rel _ _ _ _ _ _ _ _ _) := hst
  clear hst g1 i1 hi0 hR0 HGOAL hbox hbx hg hl
  go_wp2_with fail
  go_loopw [1, 5] (fun v1 v5 wr => R1Rel w (.slice va es.length vc) sh lv es goal v1 v5 wr) (fun v1 _ _ => sliceLenS v1)
  case atStart => exact HST.out
  case round =>
    clear HST
    obtain ⟨rest, done, hrl, hdl, hgd, i1, d1, hgo, hbx, hbw⟩ := hrel
    have HGO : Hid (done ++ elems4 es rest = goal) := hgo
    clear hgo
    by_cases h0 : rest.length = 0
    · have hr0 : rest = [] := List.eq_nil_of_length_eq_zero h0
      subst hr0
      have HF : Hid (done = goal) := by show _ = _; rw [← HGO.out, elems4_nil, List.append_nil]
      obtain ⟨a6, c6, rfl⟩ := lenS_form i1
      have HD : Hid (Elems _ _ _ _) := d1
      have HBR : Hid (Below _ _ _) := hbw
      clear HGO d1 hbw i1
      go_wp2
      go_ret
      rw [← HF.out]
      exact ⟨_, rfl, els_lowS HD.out (by omega), HBR.out⟩
    · obtain ⟨g1, c1, rfl, hB1, hg1, hc1⟩ := ints_form1S i1 (by omega)
      have hcap1 : rest.length ≤ c1 := by
        rcases i1.form with ⟨h, _⟩ | ⟨_, _, h, h2, _⟩
        · cases h
        · injection h with _ _ h3; omega
      have hk := take4_kept (es := es) (l := rest) (by omega)
      have HGO2 : Hid ((done ++ elsOf es (take4 es rest).1) ++ elems4 es (take4 es rest).2 = goal) := by
        show _ = _
        rw [← HGO.out, elems4_step (es := es) (l := rest) (by omega), List.append_assoc]
      have hel := elsOf_len es (take4 es rest).1
      have hbd := runN_bd (es := es) (l := rest) (by omega)
      have h08 : (0 : Int) < (rest.length : Int) := by omega
      have h09 : 0 < rest.length := by omega
      have h10 : decide (0 < rest.length) = true := decide_eq_true h09
      have HS1 : Hid (St1 w wr (.slice va es.length vc) sh lv (.slice (some ⟨g1, 0, none⟩) rest.length c1) u5 rest done) := ⟨i1, d1, hbx, hbw⟩
      clear HGO d1 hbw hbx i1 hc1 hg1
      go_wp2_with fail
      go_loopw [6, 7] (fun nv kv w2 => R2Rel w (.slice va es.length vc) sh lv (.slice (some ⟨g1, 0, none⟩) rest.length c1) u5 es rest done nv kv w2) (fun _ kv _ => 5 - (intOf kv).toNat)
      case atStart => exact ⟨2, by omega, by omega, rfl, by rw [runTo_two]; rfl, HS1.out⟩
      case round =>
        clear HS1
        obtain ⟨k, hk2, hk5, rfl, rfl, hs2⟩ := hrel
        obtain ⟨n0, HN0⟩ : ∃ n0, Hid (runTo es rest k = n0) := ⟨_, rfl⟩
        rw [HN0.out]
        have hn0 := runTo_bd (es := es) (l := rest) (k := k) (by omega)
        rw [HN0.out] at hn0
        obtain ⟨p0, p1, p2⟩ := hs2.box.three
        by_cases hk4 : k ≤ 4 ∧ k ≤ rest.length
        · have hk48 : (k : Int) ≤ 4 := by omega
          have hkl8 : (k : Int) ≤ (rest.length : Int) := by omega
          have hkc : k ≤ c1 := by omega
          have AT := fun (u : World) (hu : Below wr.heap.size wr u) => at3_any (sh := sh) (lv := lv) ((HE.out.below hs2.bel).below hu) ((hs2.ints.take k hk4.2).below hu) hn (by rw [List.length_take]; omega) hr
          have HST : Hid (runTo es rest (k + 1) = if 0 ≤ atE es (rest.take k) then k else n0) := by
            show _ = _
            rw [runTo_succ hk2, hitN_near hk4.2, HN0.out]
            by_cases c : 0 ≤ atE es (rest.take k)
            · rw [decide_eq_true c, if_pos rfl, if_pos c]
            · rw [decide_eq_false c, if_neg (by simp), if_neg c]
          have HS2 : Hid (St1 _ _ _ _ _ _ _ _ _) := hs2
          have KS : Hid (∀ u, Below wr.heap.size wr u → u.cell? ⟨w.heap.size, 0, none⟩ = some (.slice va es.length vc) ∧ u.cell? ⟨w.heap.size, 1, none⟩ = some (.bool sh) ∧ u.cell? ⟨w.heap.size, 2, none⟩ = some (.int .i64 lv)) := fun u hu => (hs2.box.below hu).three
          clear hs2 HN0
          generalize atE es (rest.take k) = ae at *
          go_wp2_with fail
          go_region_held3 (fun u => u.cell? ⟨w.heap.size, 0, none⟩ = some (.slice va es.length vc) ∧ u.cell? ⟨w.heap.size, 1, none⟩ = some (.bool sh) ∧ u.cell? ⟨w.heap.size, 2, none⟩ = some (.int .i64 lv))
            (exact KS.out _ (by repeat (first | with_reducible exact Below.refl _ _ | with_reducible exact hbw4 | with_reducible refine Below.drew ?_)))
            ((go_at_call 42; refine (AT _ (by repeat (first | with_reducible exact Below.refl _ _ | with_reducible refine Below.drew ?_))).mono ?_; rintro e w4 ⟨rfl, b4⟩; have hbw4 : Below wr.heap.size wr w4 := by first | exact b4 | exact ((Below.refl _ _).drew).trans b4))
          all_goals
            have HS4 : Hid (St1 _ _ _ _ _ _ _ _ _) := HS2.out.below hbw4
            clear AT KS HS2 b4 hbw4 p0 p1 p2
            by_cases hae : 0 ≤ ae
            · have HR : Hid (runTo es rest (k + 1) = k) := by show _ = _; rw [HST.out, if_pos hae]
              clear HST
              go_wp2
              exact ⟨⟨k + 1, by omega, by omega, by go_num, by rw [HR.out], HS4.out⟩, by simp [intOf]; omega⟩
            · have HR : Hid (runTo es rest (k + 1) = n0) := by show _ = _; rw [HST.out, if_neg hae]
              clear HST
              go_wp2
              exact ⟨⟨k + 1, by omega, by omega, by go_num, by rw [HR.out], HS4.out⟩, by simp [intOf]; omega⟩
        · have HN : Hid (runN es rest = n0) := by
            show _ = _
            rw [← HN0.out]
            by_cases h5 : k = 5
            · subst h5; exact (runTo_five es rest).symm
            · exact (runTo_far hk2 hk5 (by omega)).symm
          have HS2 : Hid (St1 _ _ _ _ _ _ _ _ _) := hs2
          have hnc1 : n0 ≤ c1 := by omega
          clear HN0 p0 p1 p2
          go_upto_region 6 with fail
          go_cut [25] from 18 to 25 (fun b wx => b = .bool false ∧ wx = wr)
          case first =>
            by_cases h4 : (k : Int) ≤ 4
            · have h5 : ¬ (k : Int) ≤ (rest.length : Int) := by omega
              go_wp2
              go_meet
              case rel => exact ⟨rfl, rfl⟩
            · go_wp2
              go_meet
              case rel => exact ⟨rfl, rfl⟩
          case rest =>
            obtain ⟨rfl, rfl⟩ := hcut
            have hsw := hs2.bel.size
            obtain ⟨gq, cq, hvq, hBq, hgq, hcq⟩ := ints_form1S hs2.ints (by omega)
            injection hvq with hv1 _ hv3
            injection hv1 with hv2
            injection hv2 with hv4
            subst hv4
            subst hv3
            have hi0 : Ints (wc.alloc (.cells #[] 3)) (w.heap.size + 1) (.slice (some ⟨wc.heap.size, 0, none⟩) 0 0) [] := fresh0 _ _ _ rfl (by have := (World.ownsRow.lt hs2.ints g1 rfl).1; omega)
            have hR0 : RowAt (wc.alloc (.cells #[] 3)) (.slice (some ⟨g1, 0, none⟩) n0 c1) (rest.take n0) := RowAt.below (rowAt_take n0 (by omega) hgq hcq) (below_alloc_any _ _)
            have hwsz : w.heap.size + 1 ≤ wc.heap.size := by have := (World.ownsRow.lt hs2.ints g1 rfl).1; omega
            clear hs2
            go_wp2_with (at_builtin; refine append_ints rfl _ _ rfl (w.heap.size + 1) _ _ [] (rest.take n0) rfl rfl hi0 hR0 (by simp; omega) (by simp; omega) ?_)
            intro vr u2 ir gr
            have ir' : Ints u2 (w.heap.size + 1) vr (rest.take n0) := ir
            have b2 : Below wc.heap.size wc u2 := Below.grown (below_alloc_any wc _) gr (by simp) (fun g e => by cases e; exact Nat.le_refl _)
            have S2 := HS2.out.below b2
            have hcq2 : ∀ j x, rest[j]? = some x → u2.cell? ⟨g1, 0 + j, none⟩ = some (.int .i64 x) := fun j x hx => (b2.cell hgq).trans (hcq j x hx)
            have hgq2 : g1 < u2.heap.size := Nat.lt_of_lt_of_le hgq b2.size
            have hsz2 := b2.size
            have HIR : Hid (Ints _ _ _ _) := ir'
            have HS3 : Hid (St1 _ _ _ _ _ _ _ _ _) := S2
            clear ir ir' gr hi0 hR0 HS2 S2 hcq hgq b2
            have hi0 : Ints (u2.alloc (.cells #[] 3)) u2.heap.size (.slice (some ⟨u2.heap.size, 0, none⟩) 0 0) [] := fresh0 _ _ _ rfl (Nat.le_refl _)
            go_upto_region 11 with fail
            go_cut [9] from 40 to 44 (fun vq wx => Ints wx u2.heap.size vq (rest.drop n0) ∧ Below u2.heap.size u2 wx)
            case first =>
              by_cases hcn : c1 = n0
              · subst hcn
                have hR0 : rest.drop c1 = [] := List.drop_eq_nil_of_le (by omega)
                go_wp2_with (at_builtin; refine append_ints rfl _ _ rfl u2.heap.size _ _ [] (rest.drop c1) rfl rfl hi0 (rowAt_none (by first | rfl | omega) hR0) (by simp; omega) (by simp) ?_)
                intro vq u4 iq gq
                have b4 : Below u2.heap.size u2 u4 := Below.grown (below_alloc_any u2 _) gq (by simp) (fun g e => by cases e; exact Nat.le_refl _)
                have hK : Ints u4 u2.heap.size vq (rest.drop c1) ∧ Below u2.heap.size u2 u4 := ⟨by rw [hR0]; exact iq, b4⟩
                clear iq b4 gq hR0 hi0
                go_wp2_with fail
                go_meet
                case rel => exact hK
              · have hcn2 : (c1 == n0) = false := by simpa using hcn
                have hR0 : RowAt (u2.alloc (.cells #[] 3)) (.slice (some ⟨g1, n0, none⟩) (rest.length - n0) (c1 - n0)) (rest.drop n0) := RowAt.below (rowAt_drop hgq2 hcq2 rfl) (below_alloc_any _ _)
                go_wp2_with (at_builtin; refine append_ints rfl _ _ rfl u2.heap.size _ _ [] (rest.drop n0) rfl rfl hi0 hR0 (by simp; omega) (by simp) ?_)
                intro vq u4 iq gq
                have b4 : Below u2.heap.size u2 u4 := Below.grown (below_alloc_any u2 _) gq (by simp) (fun g e => by cases e; exact Nat.le_refl _)
                have hK : Ints u4 u2.heap.size vq (rest.drop n0) ∧ Below u2.heap.size u2 u4 := ⟨iq, b4⟩
                clear iq b4 gq hR0 hi0
                go_wp2_with fail
                go_meet
                case rel => exact hK
            case rest =>
              obtain ⟨iq, b4⟩ := hcut
              have hrr : RR w wc (.slice va es.length vc) sh lv u5 vr u9 done (rest.take n0) (rest.drop n0) :=
                ⟨HIR.out.below b4, ⟨u2.heap.size, iq, by omega, fun g e => (World.ownsRow.lt HIR.out g e).2⟩, (HS3.out.below b4).els, (HS3.out.below b4).box, (HS3.out.below b4).bel⟩
              have hst : R3Rel w (.slice va es.length vc) sh lv es u5 done rest.length (take4 es rest) vr u9 wc :=
                ⟨rest.take n0, rest.drop n0, by rw [List.length_take]; omega, by rw [List.length_take, List.length_drop]; omega, by unfold take4; rw [HN.out], hrr⟩
              have HST : Hid (R3Rel _ _ _ _ _ _ _ _ _ _ _ _) := hst
              clear hst hrr iq b4 HIR HS3 hcq2 hi0 HN
              obtain ⟨hk1, hk2', hk3, hk4', hk5'⟩ := hk
              generalize take4 es rest = tk at *
              go_wp2_with fail
              go_loopw [8, 9] (fun vr vq wr => R3Rel w (.slice va es.length vc) sh lv es u5 done rest.length tk vr vq wr) (fun _ vq _ => sliceLenS vq)
              case atStart => exact HST.out
              case round =>
                clear HST
                obtain ⟨run, rst, hr1, hrn, hgrab, hrr⟩ := hrel
                obtain ⟨T, hq, hT, hTr⟩ := hrr.rest
                have MK := fun (u : World) (hu : Below wr.heap.size wr u) => mark4_any (sh := sh) (lv := lv) ((HE.out.below hrr.bel).below hu) hn hr (hrr.run.below hu) (hq.below hu) hr1 (by omega) (by omega)
                obtain ⟨p0, p1, p2⟩ := hrr.box.three
                have HGR : Hid (grab es run rst = tk) := hgrab
                have HRR : Hid (RR _ _ _ _ _ _ _ _ _ _ _) := hrr
                have MK1 := MK _ (Below.refl _ _)
                clear MK hgrab
                rcases mark_cases es run rst with hmk | ⟨k, hkl, hmk⟩
                · rw [hmk] at MK1
                  have HF : Hid (tk = (run, rst)) := by show _ = _; rw [← HGR.out]; exact grab_stop hmk
                  clear HGR hmk
                  have htk := HF.out
                  subst htk
                  simp only at hk1 hk2' hk3 hk4' hk5' HGO2 hel
                  go_wp2_with fail
                  refine MK1.mono ?_
                  rintro e w2 ⟨rfl, b2⟩
                  clear MK1 p0 p1 p2
                  have hrr2 := HRR.out.below b2
                  obtain ⟨p0, p1, p2⟩ := hrr2.box.three
                  have AT := at3_any (sh := sh) (lv := lv) (HE.out.below hrr2.bel) hrr2.run hn (by omega) hr
                  have HR2 : Hid (RR _ _ _ _ _ _ _ _ _ _ _) := hrr2
                  obtain ⟨g8, c8, hu8, _, hg8, hc8⟩ := ints_form1S hrr2.run hr1
                  obtain ⟨x, hx⟩ : ∃ x, run[0]? = some x := ⟨_, List.getElem?_eq_getElem (by omega)⟩
                  have hx0 : at0 run 0 = x := by unfold at0; rw [hx]; rfl
                  have hxg := hgd x (hk4' x (List.mem_of_getElem? hx))
                  have c80 : w2.cell? ⟨g8, 0, none⟩ = some (.int .i64 x) := hc8 0 x hx
                  have hl80 : (0 : Int) < (run.length : Int) := by omega
                  have hEf := HE.out.form
                  clear hrr hrr2 HRR hq hTr hc8
                  subst hu8
                  rcases atE_cases es run with hat | ⟨ai, ae, hae, hat⟩
                  · have HEL : Hid (elsOf es run = base x) := by show _ = _; rw [elsOf_no hat, hx0]
                    rw [hat] at AT
                    go_wp2_with fail
                    refine AT.mono ?_
                    rintro e w3 ⟨rfl, b3⟩
                    clear AT p0 p1 p2
                    have hrr3 := HR2.out.below b3
                    obtain ⟨T3, hq3, hT3, _⟩ := hrr3.rest
                    have c83 : w3.cell? ⟨g8, 0, none⟩ = some (.int .i64 x) := (b3.cell hg8).trans c80
                    have SB := specBase_any x hxg.1 hxg.2 w3
                    clear c80 b3
                    go_wp2_with fail
                    refine SB.mono ?_
                    rintro e w4 ⟨v4, rfl, e4, b4⟩
                    have hrr4 := hrr3.below b4
                    have d4 : Elems w4 (w.heap.size + 1) u5 done := hrr4.els
                    have hq4 : Ints w4 (w.heap.size + 1) u9 rst := ints_low2 (hq3.below b4) hT3
                    have bx4 := hrr4.box
                    have bl4 := hrr4.bel
                    have hsz4 : w.heap.size + 1 ≤ w4.heap.size := by have := (Array.getElem?_eq_some_iff.1 bx4).1; omega
                    rw [HEL.out] at hel
                    clear SB c83 hrr3 hrr4 hq3 b4 HR2
                    go_wp2_with (at_builtin; refine append_els rfl _ _ rfl (w.heap.size + 1) _ u5 v4 done (base x) rfl rfl d4 e4 (by omega) (by omega) ?_)
                    intro v5 w5 e5 g5
                    rw [← HEL.out] at hel
                    clear e4
                    have HQ : Hid (Ints w5 (w.heap.size + 1) u9 rst) := World.ownsRow.kept hq4 g5 (own_type hq4 d4 (by decide))
                    have HX5 : Hid (BoxR w w5 (.slice va es.length vc) sh lv) := BoxR.kept bx4 g5 (fun g e => (World.ownsRow.lt d4 g e).1)
                    have HB5 : Hid (Below w.heap.size w w5) := Below.grown bl4 g5 bl4.size (fun g e => by have := (World.ownsRow.lt d4 g e).1; omega)
                    have HE5 : Hid (Elems _ _ _ _) := e5
                    have hlq := lenS_form hq4
                    obtain ⟨a9, c9, rfl⟩ := hlq
                    clear g5 e5 d4 hq4 bx4 bl4
                    go_wp2
                    refine ⟨⟨rst, done ++ elsOf es run, by omega, by rw [List.length_append]; omega, fun x hx => hgd x (hk5' x hx), HQ.out, by rw [HEL.out]; exact HE5.out, HGO2.out, HX5.out, HB5.out⟩, ?_⟩
                    show sliceLenS _ < sliceLenS _
                    show rst.length < rest.length
                    omega
                  · have HEL : Hid (elsOf es run = [ae.el]) := elsOf_at hae hat
                    obtain ⟨ge, ce, hve, hcge, hge⟩ : ∃ ge ce, (va = some ⟨ge, 0, none⟩ ∧ vc = ce) ∧ ge < w.heap.size ∧ (0 : Nat) = 0 := by
                      rcases hEf with ⟨h, h2⟩ | ⟨ge, ce, h, _, _, h5, _⟩
                      · subst h2; simp at hae
                      · injection h with h6 _ h8
                        exact ⟨ge, ce, ⟨h6, h8⟩, h5, rfl⟩
                    obtain ⟨rfl, rfl⟩ := hve
                    have hail : ai < es.length := (List.getElem?_eq_some_iff.1 hae).1
                    have hai8 : (ai : Int) < (es.length : Int) := by omega
                    rw [hat] at AT
                    go_wp2_with fail
                    refine AT.mono ?_
                    rintro e w3 ⟨rfl, b3⟩
                    clear AT p0 p1 p2 c80
                    have hrr3 := HR2.out.below b3
                    obtain ⟨p0, p1, p2⟩ := hrr3.box.three
                    obtain ⟨y1, y2, y3, y4⟩ := ents_elem (HE.out.below hrr3.bel) ai ae hae
                    obtain ⟨T3, hq3, hT3, _⟩ := hrr3.rest
                    have bl3 := hrr3.bel
                    have hba := (Below.refl w3.heap.size w3).alloc (Nat.le_refl _) (.cells #[.int .i64 ae.el.first, .int .i64 ae.el.second, .int .i64 ae.el.third, .bool ae.el.varies] 72)
                    have hrr4 := hrr3.below hba
                    have d4 : Elems _ (w.heap.size + 1) u5 done := hrr4.els
                    have hq4 : Ints _ (w.heap.size + 1) u9 rst := ints_low2 (hq3.below hba) hT3
                    have bx4 := hrr4.box
                    have bl4 := hrr4.bel
                    have e4 := elems_lit w3 [ae.el] 1 rfl (by unfold maxLen; omega) #[.int .i64 ae.el.first, .int .i64 ae.el.second, .int .i64 ae.el.third, .bool ae.el.varies] rfl
                    have hsz4 : w.heap.size + 1 ≤ w3.heap.size := by have := (Array.getElem?_eq_some_iff.1 hrr3.box).1; omega
                    rw [HEL.out] at hel
                    clear hrr3 hrr4 hq3 hba HR2 b3 bl3
                    go_wp2_with (at_builtin; refine append_els rfl _ _ rfl (w.heap.size + 1) _ u5 _ done [ae.el] rfl rfl d4 e4 (by simp; omega) (by simp; omega) ?_)
                    intro v5 w5 e5 g5
                    rw [← HEL.out] at hel
                    clear e4 y1 y2 y3 y4 p0 p1 p2
                    have HQ : Hid (Ints w5 (w.heap.size + 1) u9 rst) := World.ownsRow.kept hq4 g5 (own_type hq4 d4 (by decide))
                    have HX5 : Hid (BoxR w w5 (.slice (some ⟨ge, 0, none⟩) es.length vc) sh lv) := BoxR.kept bx4 g5 (fun g e => (World.ownsRow.lt d4 g e).1)
                    have HB5 : Hid (Below w.heap.size w w5) := Below.grown bl4 g5 bl4.size (fun g e => by have := (World.ownsRow.lt d4 g e).1; omega)
                    have HE5 : Hid (Elems _ _ _ _) := e5
                    have hlq := lenS_form hq4
                    obtain ⟨a9, c9, rfl⟩ := hlq
                    clear g5 e5 d4 hq4 bx4 bl4
                    go_wp2
                    refine ⟨⟨rst, done ++ elsOf es run, by omega, by rw [List.length_append]; omega, fun x hx => hgd x (hk5' x hx), HQ.out, by rw [HEL.out]; exact HE5.out, HGO2.out, HX5.out, HB5.out⟩, ?_⟩
                    show sliceLenS _ < sliceLenS _
                    show rst.length < rest.length
                    omega
                · rw [hmk] at MK1
                  obtain ⟨x, hx⟩ : ∃ x, rst[k]? = some x := ⟨_, List.getElem?_eq_getElem hkl⟩
                  have HF : Hid (grab es (run ++ [x]) (rst.eraseIdx k) = tk) := by
                    show _ = _
                    rw [← HGR.out, grab_go hkl hmk]
                    unfold at0
                    rw [hx]
                    rfl
                  obtain ⟨g9, c9, hu9, hT9, hg9, hc9⟩ := ints_form1S hq (by omega)
                  have hcap9 : rst.length ≤ c9 := by
                    rw [hu9] at hq
                    rcases hq.form with ⟨h, _⟩ | ⟨_, _, h, h2, _⟩
                    · cases h
                    · injection h with _ _ h3; omega
                  have hkn8 : ¬ ((k : Int) < 0) := by omega
                  have hk8 : (k : Int) < (rst.length : Int) := by omega
                  clear HGR hmk
                  subst hu9
                  obtain ⟨i0, hi, hzz, hz1, hz2⟩ := info_parts info_int
                  go_wp2_with fail
                  refine MK1.mono ?_
                  rintro e w2 ⟨rfl, b2⟩
                  clear MK1 p0 p1 p2
                  have hrr2 := HRR.out.below b2
                  have ir2 := hrr2.run
                  have c92 : w2.cell? ⟨g9, k, none⟩ = some (.int .i64 x) := by have := hc9 k x hx; rw [Nat.zero_add] at this; exact (b2.cell hg9).trans this
                  have hc92 : ∀ j y, rst[j]? = some y → w2.cell? ⟨g9, 0 + j, none⟩ = some (.int .i64 y) := fun j y hy => (b2.cell hg9).trans (hc9 j y hy)
                  have hg92 : g9 < w2.heap.size := Nat.lt_of_lt_of_le hg9 b2.size
                  have hsz2 : w.heap.size + 1 ≤ w2.heap.size := by have := (Array.getElem?_eq_some_iff.1 hrr2.box).1; omega
                  have HC92 : Hid (∀ j y, rst[j]? = some y → w2.cell? ⟨g9, 0 + j, none⟩ = some (.int .i64 y)) := hc92
                  have HR2 : Hid (RR _ _ _ _ _ _ _ _ _ _ _) := hrr2
                  unfold Ints at ir2
                  clear hrr hrr2 HRR hq hc9 hg9 b2 hc92 hx
                  go_wp2_with (at_builtin; refine wpList_append_own _ rfl _ _ 35 rfl (w.heap.size + 1) 3 i0 (.int .i64 0) 1 8 Tryz.underlying35 hi hzz hz1 hz2 rfl (by decide) _ _ _ rfl (ir2.alloc _) ⟨w2.heap.size, 0, none⟩ 1 1 [.int .i64 x] rfl rfl (cells1_at _ _ _ _ (by simp)) (fun u hu => by simp at hu; subst hu; rfl) (by unfold maxLen; omega) (by omega) (by simp; omega) ?_)
                  intro vr4 w4 ho4 hg4 _
                  have ir4 : Ints w4 (w.heap.size + 1) vr4 (run ++ [x]) := Ints.snoc ho4
                  have hne : some g9 ≠ u8.ownBlock := fun e => by have := hTr g9 e.symm; omega
                  have hc94 : ∀ j y, rst[j]? = some y → w4.cell? ⟨g9, 0 + j, none⟩ = some (.int .i64 y) := fun j y hy => by
                    rw [World.cell?_of_block ((hg4.block g9 (by simp; omega) hne).trans (Below.heap_alloc _ _ _ hg92))]
                    exact HC92.out j y hy
                  have hg94 : g9 < w4.heap.size := Nat.lt_of_lt_of_le hg92 (Nat.le_trans (by simp) hg4.size)
                  have d4 : Elems w4 (w.heap.size + 1) u5 done := World.ownsRow.kept (World.ownsRow.alloc HR2.out.els _) hg4 (own_type HR2.out.els ir2 (by decide))
                  have bx4 : BoxR w w4 (.slice va es.length vc) sh lv := BoxR.kept (HR2.out.box.below (below_alloc_any _ _)) hg4 (fun g e => (World.ownsRow.lt ir2 g e).1)
                  have bl4 : Below w.heap.size w w4 := Below.grown (HR2.out.bel.trans ((below_alloc_any _ _).mono HR2.out.bel.size)) hg4 (by simp; omega) (fun g e => by have := (World.ownsRow.lt ir2 g e).1; omega)
                  have hlen := List.length_eraseIdx_of_lt hkl
                  have HIR4 : Hid (Ints _ _ _ _) := ir4
                  have HD4 : Hid (Elems _ _ _ _) := d4
                  have HX4 : Hid (BoxR _ _ _ _ _) := bx4
                  have HB4 : Hid (Below _ _ _) := bl4
                  have hsz4 : w.heap.size + 1 ≤ w4.heap.size := Nat.le_trans hsz2 (Nat.le_trans (by simp) hg4.size)
                  clear ho4 hg4 ir2 HR2 HC92 c92 ir4 d4 bx4 bl4 hne
                  have hkc9 : k ≤ c9 := by omega
                  have hkc8 : (k : Int) + 1 ≤ (rst.length : Int) := by omega
                  have hkc7 : (k : Int) + 1 ≤ (c9 : Int) := by omega
                  have hwr : IntKind.i64.wrap ((k : Int) + 1) = (k : Int) + 1 := by rw [IntKind.wrap_i64]; omega
                  have hto : ((k : Int) + 1).toNat = k + 1 := by omega
                  have hzp : (0 : Int) ≤ (k : Int) + 1 := by omega
                  go_wp2_with fail
                  by_cases hcn : c9 = k + 1
                  · subst hcn
                    have hdr : rst.drop (k + 1) = [] := List.drop_eq_nil_of_le (by omega)
                    have hq1 : (k : Int) ≤ (k : Int) + 1 := by omega
                    have hq2 : (rst.length : Int) ≤ (k : Int) + 1 := by omega
                    go_region_law (first
                      | (refine step_append_ints rfl (.tmp 58) (.tmp 61) rfl w4.heap.size (.slice (some ⟨w4.heap.size, 0, none⟩) 0 0) (.slice (some ⟨g9, 0, none⟩) k (k + 1)) [] (rst.take k) rfl rfl (ints_of (fresh0 w4 _ _ rfl (Nat.le_refl _)) rfl) (rowAt_of (RowAt.below (rowAt_take k (by omega) hg94 hc94) (below_alloc_any w4 (.cells #[] 3))) rfl) (by simp; omega) (by simp) ?_; intro v6 w6 i6 g6; have b6 : Below w4.heap.size w4 w6 := Below.grown (by repeat (first | with_reducible exact below_alloc_any _ _ | with_reducible refine Below.drew ?_)) g6 (by simp) (fun g e => by cases e; exact Nat.le_refl _); have hsz6 := b6.size; clear g6)
                      | (refine step_append_ints rfl (.tmp 62) (.tmp 66) rfl w4.heap.size v6 _ ([] ++ rst.take k) (rst.drop (k + 1)) rfl rfl (ints_of i6 rfl) (rowAt_of (rowAt_none (by first | rfl | omega) hdr) rfl) (by simp; omega) (by first | omega | (simp; omega)) ?_; intro v7 w7 i7 g7; have b7 : Below w4.heap.size w4 w7 := Below.grown (by repeat (first | with_reducible exact b6 | with_reducible refine Below.drew ?_)) g7 (by first | omega | (simp; omega)) (fun g e => (World.ownsRow.lt i6 g e).1); clear g7))
                    all_goals
                      have iq : Ints w7 w4.heap.size v7 (rst.eraseIdx k) := by rw [List.eraseIdx_eq_take_drop_succ]; exact i7
                      have hrr7 : RR w w7 (.slice va es.length vc) sh lv u5 vr4 v7 done (run ++ [x]) (rst.eraseIdx k) :=
                        ⟨HIR4.out.below b7, ⟨w4.heap.size, iq, hsz4, fun g e => (World.ownsRow.lt HIR4.out g e).2⟩, HD4.out.below b7, HX4.out.below b7, HB4.out.trans (b7.mono HB4.out.size)⟩
                      obtain ⟨a9, c9', hv7⟩ := lenS_form iq
                      have HR7 : Hid (RR _ _ _ _ _ _ _ _ _ _ _) := hrr7
                      clear hrr7 iq b7 i7 i6 b6 HIR4 HD4 HX4 HB4
                      go_wp2
                      refine ⟨?_, ?_⟩
                      · exact ⟨_, _, _, _, _, _, _, _, _, _, _, _, _, _, _, _, _, _, _, _, _, _, _, _, _, _, ⟨run ++ [x], rst.eraseIdx k, by simp, by rw [List.length_append]; simp; omega, HF.out, HR7.out⟩, rfl⟩
                      · subst hv7
                        show sliceLenS _ < sliceLenS _
                        show (rst.eraseIdx k).length < rst.length
                        omega
                  · have hcn2 : (c9 == k + 1) = false := by simpa using hcn
                    go_region_law (first
                      | (refine step_append_ints rfl (.tmp 58) (.tmp 61) rfl w4.heap.size (.slice (some ⟨w4.heap.size, 0, none⟩) 0 0) (.slice (some ⟨g9, 0, none⟩) k c9) [] (rst.take k) rfl rfl (ints_of (fresh0 w4 _ _ rfl (Nat.le_refl _)) rfl) (rowAt_of (RowAt.below (rowAt_take k (by omega) hg94 hc94) (below_alloc_any w4 (.cells #[] 3))) rfl) (by simp; omega) (by simp) ?_; intro v6 w6 i6 g6; have b6 : Below w4.heap.size w4 w6 := Below.grown (by repeat (first | with_reducible exact below_alloc_any _ _ | with_reducible refine Below.drew ?_)) g6 (by simp) (fun g e => by cases e; exact Nat.le_refl _); have hsz6 := b6.size; clear g6)
                      | (refine step_append_ints rfl (.tmp 62) (.tmp 66) rfl w4.heap.size v6 _ ([] ++ rst.take k) (rst.drop (k + 1)) rfl rfl (ints_of i6 rfl) (rowAt_of (RowAt.below (rowAt_drop hg94 hc94 rfl) b6) rfl) (by simp; omega) (by first | omega | (simp; omega)) ?_; intro v7 w7 i7 g7; have b7 : Below w4.heap.size w4 w7 := Below.grown (by repeat (first | with_reducible exact b6 | with_reducible refine Below.drew ?_)) g7 (by first | omega | (simp; omega)) (fun g e => (World.ownsRow.lt i6 g e).1); clear g7))
                    all_goals
                      have iq : Ints w7 w4.heap.size v7 (rst.eraseIdx k) := by rw [List.eraseIdx_eq_take_drop_succ]; exact i7
                      have hrr7 : RR w w7 (.slice va es.length vc) sh lv u5 vr4 v7 done (run ++ [x]) (rst.eraseIdx k) :=
                        ⟨HIR4.out.below b7, ⟨w4.heap.size, iq, hsz4, fun g e => (World.ownsRow.lt HIR4.out g e).2⟩, HD4.out.below b7, HX4.out.below b7, HB4.out.trans (b7.mono HB4.out.size)⟩
                      obtain ⟨a9, c9', hv7⟩ := lenS_form iq
                      have HR7 : Hid (RR _ _ _ _ _ _ _ _ _ _ _) := hrr7
                      clear hrr7 iq b7 i7 i6 b6 HIR4 HD4 HX4 HB4
                      go_wp2
                      refine ⟨?_, ?_⟩
                      · exact ⟨_, _, _, _, _, _, _, _, _, _, _, _, _, _, _, _, _, _, _, _, _, _, _, _, _, _, ⟨run ++ [x], rst.eraseIdx k, by simp, by rw [List.length_append]; simp; omega, HF.out, HR7.out⟩, rfl⟩
                      · subst hv7
                        show sliceLenS _ < sliceLenS _
                        show (rst.eraseIdx k).length < rst.length
                        omega
end Go.Proofs.YtinjldagfhbioaaGreatDoor

namespace Go.Proofs.YtinjldagfhbioaaGreatDoor
open Go.RowKit

set_option maxRecDepth 100000 in
set_option maxHeartbeats 1000000 in
theorem runes4_any (s : ByteArray) (w : World) (hs : s.size ≤ 1073741824) :
    Calls Tryz.prog 18 #[.string s] w fun e w' => ∃ v, e = .returned (.tuple #[v, .bool (ok4 s)]) ∧ (s.size ≤ 200 → Ints w' w.heap.size v (rn4 s)) ∧ Below w.heap.size w w' := by
  by_cases hl : 200 < s.size
  · have h2 : (200 : Int) < (s.size : Int) := by omega
    have HK : Hid (ok4 s = false) := decide_eq_false fun c => by omega
    go_enter Tryz.func18, Tryz.ntmps18
    go_wp2
    go_ret2
    rw [HK.out]
    exact ⟨_, rfl, fun h => absurd h (by omega), Below.refl _ _⟩
  · have h2 : ¬ (200 : Int) < (s.size : Int) := by omega
    have HK : Hid (ok4 s = decide (((rn4 s).length : Int) ≤ 200)) := by
      show _ = _
      unfold ok4
      rw [decide_eq_decide]
      omega
    have DEC := fun w => l1Decode_any s w hs
    have hdl := (Dec.decT_len s.size s (Nat.le_refl _)).1
    have hnl : (rn4 s).length ≤ 1800 := by unfold rn4; rw [nD_len]; have := apD_len (Dec.decT s.size s).1; omega
    have D := fun (u : World) (B : Nat) (v : Value) (h : Ints u B v (Dec.decT s.size s).1) => d_any (by omega) h
    change ∀ (u : World) (B : Nat) (v : Value), Ints u B v (Dec.decT s.size s).1 → Calls Tryz.prog 39 #[v] u fun e w' => ∃ v', e = .returned v' ∧ Ints w' u.heap.size v' (rn4 s) ∧ Below u.heap.size u w' at D
    rw [HK.out]
    clear HK hdl
    generalize rn4 s = l at *
    generalize (Dec.decT s.size s).1 = l0 at *
    generalize (Dec.decT s.size s).2 = n0 at *
    go_enter Tryz.func18, Tryz.ntmps18
    go_wp2_with fail
    refine (DEC _).mono ?_
    rintro e w1 ⟨v1, rfl, i1, b1⟩
    clear DEC
    go_wp2_with fail
    refine (D _ _ _ i1).mono ?_
    rintro e w2 ⟨v2, rfl, i2, b2⟩
    clear D i1
    have i2' := ints_low2 i2 b1.size
    have HB : Hid (Below _ _ _) := b1.trans (b2.mono b1.size)
    obtain ⟨a, c, rfl⟩ : ∃ a c, v2 = .slice a l.length c := by
      rcases i2'.form with ⟨rfl, rfl⟩ | ⟨g, cap, rfl, _, _⟩
      · exact ⟨_, _, rfl⟩
      · exact ⟨_, _, rfl⟩
    have HI : Hid (Ints _ _ _ _) := i2'
    clear i2 i2' b1 b2
    go_wp2
    go_ret2
    exact ⟨_, rfl, fun _ => HI.out, HB.out⟩
end Go.Proofs.YtinjldagfhbioaaGreatDoor

namespace Go.Proofs.YtinjldagfhbioaaGreatDoor
open Go.RowKit

def FoRel (w : World) (sh : Bool) (es : List El) (v6 v7 bv iv : Value) (wr : World) : Prop :=
  ∃ (k : Nat) (fs : List Int) (xs : List El) (b : Bool), k ≤ es.length ∧ iv = .int .i64 k ∧ bv = .bool b ∧ fourS sh es k = (fs, xs, b) ∧ Ints wr w.heap.size v6 fs ∧ Elems wr w.heap.size v7 xs ∧ Below w.heap.size w wr

set_option maxRecDepth 100000 in
set_option maxHeartbeats 8000000 in
theorem fourth_row (w : World) (B g cap : Nat) (es : List El) (sh : Bool) (hz : es.length ≤ 1048576) (hL : Elems w B (.slice (some ⟨g, 0, none⟩) es.length cap) es) :
    Calls Tryz.prog 65 #[.slice (some ⟨g, 0, none⟩) es.length cap, .bool sh] w fun e w' => ∃ v v', e = .returned (.tuple #[v, v']) ∧ Ints w' w.heap.size v (fourths sh es) ∧ Elems w' w.heap.size v' (counted sh es) ∧ Below w.heap.size w w' := by
  obtain ⟨i0, hi0, hz0, hs0, hy0⟩ := info_parts info_int
  obtain ⟨i1, hi1, hz1, hs1, hy1⟩ := info_parts info_elem
  go_enter Tryz.func65, Tryz.ntmps65
  go_wp2
  go_loopw [6, 7, 8, 14] (fun v6 v7 bv iv wr => FoRel w sh es v6 v7 bv iv wr) (fun _ _ _ iv _ => es.length - (intOf iv).toNat)
  case atStart => exact ⟨0, [], [], false, Nat.zero_le _, rfl, rfl, rfl, World.ownsRow_nil _ _ _ _, World.ownsRow_nil _ _ _ _, Below.refl _ _⟩
  case round =>
    obtain ⟨k, fs, xs, b, hk, rfl, rfl, hf, hI, hE, hbw⟩ := hrel
    have hfl := fourS_len sh es k
    rw [hf] at hfl
    have hfl1 : fs.length ≤ k := hfl.1
    have hfl2 : xs.length ≤ k := hfl.2
    have HF : Hid (fourS sh es k = (fs, xs, b)) := hf
    clear hf hfl
    by_cases hlt : k < es.length
    · obtain ⟨e, he⟩ : ∃ e, es[k]? = some e := ⟨_, List.getElem?_eq_getElem hlt⟩
      have hS2 := fourS_succ he HF.out
      obtain ⟨a0, a1, a2, a3⟩ := (hL.below hbw).cells k e he
      have hk8 : (k : Int) < (es.length : Int) := by omega
      have hsz := hbw.size
      unfold Ints at hI
      unfold Elems at hE
      clear he HF hL
      cases sh
      · rw [four1_plain] at hS2
        have HS2 : Hid _ := hS2
        clear hS2
        have hblk : (wr.alloc (.cells #[.int .i64 e.first, .int .i64 e.second, .int .i64 e.third, .bool e.varies] 72)).heap[wr.heap.size]? = some (.cells #[.int .i64 e.first, .int .i64 e.second, .int .i64 e.third, .bool e.varies] 72) := heap_alloc_new wr _
        have HBLK : Hid _ := hblk
        clear hblk
        go_wp2_with (at_builtin; refine wpList_append_own _ rfl _ _ 35 rfl w.heap.size 3 i0 (.int .i64 0) 1 8 Tryz.underlying35 hi0 hz0 hs0 hy0 rfl (by decide) _ _ _ rfl ((hI.alloc _).alloc _) ⟨wr.heap.size + 1, 0, none⟩ 1 1 [.int .i64 65535] rfl rfl (cells1_at _ _ _ _ (by simp)) (fun u hu => by simp at hu; subst hu; rfl) (by unfold maxLen; omega) (by omega) (by simp; omega) ?_)
        intro v6' w2 ho2 hg2 _
        have hI2 : Ints w2 w.heap.size v6' (fs ++ [65535]) := Ints.snoc ho2
        have hE2 : Elems w2 w.heap.size u7 xs := World.ownsRow.kept ((hE.alloc _).alloc _) hg2 (own_type hE hI (by decide))
        have hlow := fun j hj => (World.ownsRow.lt hI j hj).2
        have hb2 : w2.heap[wr.heap.size]? = some (.cells #[.int .i64 e.first, .int .i64 e.second, .int .i64 e.third, .bool e.varies] 72) := by
          rw [hg2.block wr.heap.size (by simp; omega) (fun c => by have := hlow wr.heap.size c.symm; omega), Below.heap_alloc _ _ _ (by simp)]; exact HBLK.out
        have hbw2 : Below w.heap.size w w2 := Below.grown ((hbw.alloc hbw.size _).alloc (hbw.alloc hbw.size _).size _) hg2 ((hbw.alloc hbw.size _).alloc (hbw.alloc hbw.size _).size _).size (fun j hj => (World.ownsRow.lt hI j hj).1)
        have d0 := cell_of_row _ _ 0 _ _ _ hb2
        have d1 := cell_of_row _ _ 1 _ _ _ hb2
        have d2 := cell_of_row _ _ 2 _ _ _ hb2
        have d3 := cell_of_row _ _ 3 _ _ _ hb2
        have hsz2 := hbw2.size
        have HI2 : Hid (Ints _ _ _ _) := hI2
        have HB2 : Hid (Below _ _ _) := hbw2
        clear ho2 hg2 hb2 HBLK hlow hI hE hI2 hbw2 a0 a1 a2 a3
        unfold Elems at hE2
        go_wp2_with (at_builtin; refine wpList_append_own _ rfl _ _ 62 rfl w.heap.size 72 i1 _ 4 32 Tryz.underlying62 hi1 hz1 hs1 hy1 rfl (by decide) _ _ _ rfl (hE2.alloc _) ⟨w2.heap.size, 0, none⟩ 1 1 (elC e) rfl rfl (cells4_at _ _ e _ (by simp)) ?hone (by unfold maxLen; omega) (by omega) (by simp; omega) ?_)
        case hone =>
          intro u hu
          simp [elC] at hu
          rcases hu with rfl | rfl | rfl | rfl <;> rfl
        intro v7' w3 ho3 hg3 _
        have hE3 : Elems w3 w.heap.size v7' (xs ++ [e]) := Elems.snoc ho3
        have hI3 : Ints w3 w.heap.size v6' (fs ++ [65535]) := World.ownsRow.kept (World.ownsRow.alloc HI2.out _) hg3 (own_type HI2.out hE2 (by decide))
        have hbw3 : Below w.heap.size w w3 := Below.grown (HB2.out.alloc HB2.out.size _) hg3 (HB2.out.alloc HB2.out.size _).size (fun j hj => (World.ownsRow.lt hE2 j hj).1)
        have HE3 : Hid (Elems _ _ _ _) := hE3
        have HI3 : Hid (Ints _ _ _ _) := hI3
        have HB3 : Hid (Below _ _ _) := hbw3
        clear ho3 hg3 hE3 hI3 hbw3 HI2 HB2 d0 d1 d2 d3 hE2
        go_wp2
        exact ⟨⟨k + 1, _, _, b, hlt, by go_num, rfl, HS2.out, HI3.out, HE3.out, HB3.out⟩, by simp [intOf]; omega⟩
      · cases hv : e.varies
        · rw [hv] at a3
          by_cases h0 : e.first = 0
          · rw [h0] at a0
            cases b
            · by_cases h1 : e.second = 0
              · rw [h1] at a1
                by_cases h2 : e.third = 0
                · rw [h2] at a2
                  rw [four1_zero hv h0 h1 h2] at hS2
                  have HS2 : Hid _ := hS2
                  clear hS2
                  have he2 : e = ⟨0, 0, 0, false⟩ := by cases e; simp_all
                  rw [he2] at HS2
                  have hblk : (wr.alloc (.cells #[.int .i64 0, .int .i64 0, .int .i64 0, .bool false] 72)).heap[wr.heap.size]? = some (.cells #[.int .i64 0, .int .i64 0, .int .i64 0, .bool false] 72) := heap_alloc_new wr _
                  have HBLK : Hid _ := hblk
                  clear hblk
                  go_wp2_with (at_builtin; refine wpList_append_own _ rfl _ _ 35 rfl w.heap.size 3 i0 (.int .i64 0) 1 8 Tryz.underlying35 hi0 hz0 hs0 hy0 rfl (by decide) _ _ _ rfl ((hI.alloc _).alloc _) ⟨wr.heap.size + 1, 0, none⟩ 1 1 [.int .i64 0] rfl rfl (cells1_at _ _ _ _ (by simp)) (fun u hu => by simp at hu; subst hu; rfl) (by unfold maxLen; omega) (by omega) (by simp; omega) ?_)
                  intro v6' w2 ho2 hg2 _
                  have hI2 : Ints w2 w.heap.size v6' (fs ++ [0]) := Ints.snoc ho2
                  have hE2 : Elems w2 w.heap.size u7 xs := World.ownsRow.kept ((hE.alloc _).alloc _) hg2 (own_type hE hI (by decide))
                  have hlow := fun j hj => (World.ownsRow.lt hI j hj).2
                  have hb2 : w2.heap[wr.heap.size]? = some (.cells #[.int .i64 0, .int .i64 0, .int .i64 0, .bool false] 72) := by
                    rw [hg2.block wr.heap.size (by simp; omega) (fun c => by have := hlow wr.heap.size c.symm; omega), Below.heap_alloc _ _ _ (by simp)]; exact HBLK.out
                  have hbw2 : Below w.heap.size w w2 := Below.grown ((hbw.alloc hbw.size _).alloc (hbw.alloc hbw.size _).size _) hg2 ((hbw.alloc hbw.size _).alloc (hbw.alloc hbw.size _).size _).size (fun j hj => (World.ownsRow.lt hI j hj).1)
                  have d0 := cell_of_row _ _ 0 _ _ _ hb2
                  have d1 := cell_of_row _ _ 1 _ _ _ hb2
                  have d2 := cell_of_row _ _ 2 _ _ _ hb2
                  have d3 := cell_of_row _ _ 3 _ _ _ hb2
                  have hsz2 := hbw2.size
                  have HI2 : Hid (Ints _ _ _ _) := hI2
                  have HB2 : Hid (Below _ _ _) := hbw2
                  clear ho2 hg2 hb2 HBLK hlow hI hE hI2 hbw2 a0 a1 a2 a3
                  unfold Elems at hE2
                  go_wp2_with (at_builtin; refine wpList_append_own _ rfl _ _ 62 rfl w.heap.size 72 i1 _ 4 32 Tryz.underlying62 hi1 hz1 hs1 hy1 rfl (by decide) _ _ _ rfl (hE2.alloc _) ⟨w2.heap.size, 0, none⟩ 1 1 (elC (⟨0, 0, 0, false⟩ : El)) rfl rfl (cells4_at _ _ (⟨0, 0, 0, false⟩ : El) _ (by simp)) ?hone (by unfold maxLen; omega) (by omega) (by simp; omega) ?_)
                  case hone =>
                    intro u hu
                    simp [elC] at hu
                    rcases hu with rfl | rfl | rfl | rfl <;> rfl
                  intro v7' w3 ho3 hg3 _
                  have hE3 : Elems w3 w.heap.size v7' (xs ++ [(⟨0, 0, 0, false⟩ : El)]) := Elems.snoc ho3
                  have hI3 : Ints w3 w.heap.size v6' (fs ++ [0]) := World.ownsRow.kept (World.ownsRow.alloc HI2.out _) hg3 (own_type HI2.out hE2 (by decide))
                  have hbw3 : Below w.heap.size w w3 := Below.grown (HB2.out.alloc HB2.out.size _) hg3 (HB2.out.alloc HB2.out.size _).size (fun j hj => (World.ownsRow.lt hE2 j hj).1)
                  have HE3 : Hid (Elems _ _ _ _) := hE3
                  have HI3 : Hid (Ints _ _ _ _) := hI3
                  have HB3 : Hid (Below _ _ _) := hbw3
                  clear ho3 hg3 hE3 hI3 hbw3 HI2 HB2 d0 d1 d2 d3 hE2
                  go_wp2
                  exact ⟨⟨k + 1, _, _, false, hlt, by go_num, rfl, HS2.out, HI3.out, HE3.out, HB3.out⟩, by simp [intOf]; omega⟩
                · rw [four1_some hv h0 (fun c => h2 c.2)] at hS2
                  have HS2 : Hid _ := hS2
                  have h2' : (e.third == 0) = false := by simpa using h2
                  clear hS2
                  have he2 : e = ⟨0, 0, e.third, false⟩ := by cases e; simp_all
                  rw [he2] at HS2
                  clear he2
                  have hblk : (wr.alloc (.cells #[.int .i64 0, .int .i64 0, .int .i64 e.third, .bool false] 72)).heap[wr.heap.size]? = some (.cells #[.int .i64 0, .int .i64 0, .int .i64 e.third, .bool false] 72) := heap_alloc_new wr _
                  have HBLK : Hid _ := hblk
                  clear hblk
                  go_wp2_with (at_builtin; refine wpList_append_own _ rfl _ _ 35 rfl w.heap.size 3 i0 (.int .i64 0) 1 8 Tryz.underlying35 hi0 hz0 hs0 hy0 rfl (by decide) _ _ _ rfl ((hI.alloc _).alloc _) ⟨wr.heap.size + 1, 0, none⟩ 1 1 [.int .i64 65535] rfl rfl (cells1_at _ _ _ _ (by simp)) (fun u hu => by simp at hu; subst hu; rfl) (by unfold maxLen; omega) (by omega) (by simp; omega) ?_)
                  intro v6' w2 ho2 hg2 _
                  have hI2 : Ints w2 w.heap.size v6' (fs ++ [65535]) := Ints.snoc ho2
                  have hE2 : Elems w2 w.heap.size u7 xs := World.ownsRow.kept ((hE.alloc _).alloc _) hg2 (own_type hE hI (by decide))
                  have hlow := fun j hj => (World.ownsRow.lt hI j hj).2
                  have hb2 : w2.heap[wr.heap.size]? = some (.cells #[.int .i64 0, .int .i64 0, .int .i64 e.third, .bool false] 72) := by
                    rw [hg2.block wr.heap.size (by simp; omega) (fun c => by have := hlow wr.heap.size c.symm; omega), Below.heap_alloc _ _ _ (by simp)]; exact HBLK.out
                  have hbw2 : Below w.heap.size w w2 := Below.grown ((hbw.alloc hbw.size _).alloc (hbw.alloc hbw.size _).size _) hg2 ((hbw.alloc hbw.size _).alloc (hbw.alloc hbw.size _).size _).size (fun j hj => (World.ownsRow.lt hI j hj).1)
                  have d0 := cell_of_row _ _ 0 _ _ _ hb2
                  have d1 := cell_of_row _ _ 1 _ _ _ hb2
                  have d2 := cell_of_row _ _ 2 _ _ _ hb2
                  have d3 := cell_of_row _ _ 3 _ _ _ hb2
                  have hsz2 := hbw2.size
                  have HI2 : Hid (Ints _ _ _ _) := hI2
                  have HB2 : Hid (Below _ _ _) := hbw2
                  clear ho2 hg2 hb2 HBLK hlow hI hE hI2 hbw2 a0 a1 a2 a3
                  unfold Elems at hE2
                  go_wp2_with (at_builtin; refine wpList_append_own _ rfl _ _ 62 rfl w.heap.size 72 i1 _ 4 32 Tryz.underlying62 hi1 hz1 hs1 hy1 rfl (by decide) _ _ _ rfl (hE2.alloc _) ⟨w2.heap.size, 0, none⟩ 1 1 (elC (⟨0, 0, e.third, false⟩ : El)) rfl rfl (cells4_at _ _ (⟨0, 0, e.third, false⟩ : El) _ (by simp)) ?hone (by unfold maxLen; omega) (by omega) (by simp; omega) ?_)
                  case hone =>
                    intro u hu
                    simp [elC] at hu
                    rcases hu with rfl | rfl | rfl | rfl <;> rfl
                  intro v7' w3 ho3 hg3 _
                  have hE3 : Elems w3 w.heap.size v7' (xs ++ [(⟨0, 0, e.third, false⟩ : El)]) := Elems.snoc ho3
                  have hI3 : Ints w3 w.heap.size v6' (fs ++ [65535]) := World.ownsRow.kept (World.ownsRow.alloc HI2.out _) hg3 (own_type HI2.out hE2 (by decide))
                  have hbw3 : Below w.heap.size w w3 := Below.grown (HB2.out.alloc HB2.out.size _) hg3 (HB2.out.alloc HB2.out.size _).size (fun j hj => (World.ownsRow.lt hE2 j hj).1)
                  have HE3 : Hid (Elems _ _ _ _) := hE3
                  have HI3 : Hid (Ints _ _ _ _) := hI3
                  have HB3 : Hid (Below _ _ _) := hbw3
                  clear ho3 hg3 hE3 hI3 hbw3 HI2 HB2 d0 d1 d2 d3 hE2
                  go_wp2
                  exact ⟨⟨k + 1, _, _, false, hlt, by go_num, rfl, HS2.out, HI3.out, HE3.out, HB3.out⟩, by simp [intOf]; omega⟩
              · rw [four1_some hv h0 (fun c => h1 c.1)] at hS2
                have HS2 : Hid _ := hS2
                have h1' : (e.second == 0) = false := by simpa using h1
                clear hS2
                have he2 : e = ⟨0, e.second, e.third, false⟩ := by cases e; simp_all
                rw [he2] at HS2
                clear he2
                have hblk : (wr.alloc (.cells #[.int .i64 0, .int .i64 e.second, .int .i64 e.third, .bool false] 72)).heap[wr.heap.size]? = some (.cells #[.int .i64 0, .int .i64 e.second, .int .i64 e.third, .bool false] 72) := heap_alloc_new wr _
                have HBLK : Hid _ := hblk
                clear hblk
                go_wp2_with (at_builtin; refine wpList_append_own _ rfl _ _ 35 rfl w.heap.size 3 i0 (.int .i64 0) 1 8 Tryz.underlying35 hi0 hz0 hs0 hy0 rfl (by decide) _ _ _ rfl ((hI.alloc _).alloc _) ⟨wr.heap.size + 1, 0, none⟩ 1 1 [.int .i64 65535] rfl rfl (cells1_at _ _ _ _ (by simp)) (fun u hu => by simp at hu; subst hu; rfl) (by unfold maxLen; omega) (by omega) (by simp; omega) ?_)
                intro v6' w2 ho2 hg2 _
                have hI2 : Ints w2 w.heap.size v6' (fs ++ [65535]) := Ints.snoc ho2
                have hE2 : Elems w2 w.heap.size u7 xs := World.ownsRow.kept ((hE.alloc _).alloc _) hg2 (own_type hE hI (by decide))
                have hlow := fun j hj => (World.ownsRow.lt hI j hj).2
                have hb2 : w2.heap[wr.heap.size]? = some (.cells #[.int .i64 0, .int .i64 e.second, .int .i64 e.third, .bool false] 72) := by
                  rw [hg2.block wr.heap.size (by simp; omega) (fun c => by have := hlow wr.heap.size c.symm; omega), Below.heap_alloc _ _ _ (by simp)]; exact HBLK.out
                have hbw2 : Below w.heap.size w w2 := Below.grown ((hbw.alloc hbw.size _).alloc (hbw.alloc hbw.size _).size _) hg2 ((hbw.alloc hbw.size _).alloc (hbw.alloc hbw.size _).size _).size (fun j hj => (World.ownsRow.lt hI j hj).1)
                have d0 := cell_of_row _ _ 0 _ _ _ hb2
                have d1 := cell_of_row _ _ 1 _ _ _ hb2
                have d2 := cell_of_row _ _ 2 _ _ _ hb2
                have d3 := cell_of_row _ _ 3 _ _ _ hb2
                have hsz2 := hbw2.size
                have HI2 : Hid (Ints _ _ _ _) := hI2
                have HB2 : Hid (Below _ _ _) := hbw2
                clear ho2 hg2 hb2 HBLK hlow hI hE hI2 hbw2 a0 a1 a2 a3
                unfold Elems at hE2
                go_wp2_with (at_builtin; refine wpList_append_own _ rfl _ _ 62 rfl w.heap.size 72 i1 _ 4 32 Tryz.underlying62 hi1 hz1 hs1 hy1 rfl (by decide) _ _ _ rfl (hE2.alloc _) ⟨w2.heap.size, 0, none⟩ 1 1 (elC (⟨0, e.second, e.third, false⟩ : El)) rfl rfl (cells4_at _ _ (⟨0, e.second, e.third, false⟩ : El) _ (by simp)) ?hone (by unfold maxLen; omega) (by omega) (by simp; omega) ?_)
                case hone =>
                  intro u hu
                  simp [elC] at hu
                  rcases hu with rfl | rfl | rfl | rfl <;> rfl
                intro v7' w3 ho3 hg3 _
                have hE3 : Elems w3 w.heap.size v7' (xs ++ [(⟨0, e.second, e.third, false⟩ : El)]) := Elems.snoc ho3
                have hI3 : Ints w3 w.heap.size v6' (fs ++ [65535]) := World.ownsRow.kept (World.ownsRow.alloc HI2.out _) hg3 (own_type HI2.out hE2 (by decide))
                have hbw3 : Below w.heap.size w w3 := Below.grown (HB2.out.alloc HB2.out.size _) hg3 (HB2.out.alloc HB2.out.size _).size (fun j hj => (World.ownsRow.lt hE2 j hj).1)
                have HE3 : Hid (Elems _ _ _ _) := hE3
                have HI3 : Hid (Ints _ _ _ _) := hI3
                have HB3 : Hid (Below _ _ _) := hbw3
                clear ho3 hg3 hE3 hI3 hbw3 HI2 HB2 d0 d1 d2 d3 hE2
                go_wp2
                exact ⟨⟨k + 1, _, _, false, hlt, by go_num, rfl, HS2.out, HI3.out, HE3.out, HB3.out⟩, by simp [intOf]; omega⟩
            · rw [four1_gone hv h0] at hS2
              have HS2 : Hid _ := hS2
              clear hS2
              have hblk : (wr.alloc (.cells #[.int .i64 0, .int .i64 0, .int .i64 0, .bool false] 72)).heap[wr.heap.size]? = some (.cells #[.int .i64 0, .int .i64 0, .int .i64 0, .bool false] 72) := heap_alloc_new wr _
              have HBLK : Hid _ := hblk
              clear hblk
              go_wp2_with (at_builtin; refine wpList_append_own _ rfl _ _ 35 rfl w.heap.size 3 i0 (.int .i64 0) 1 8 Tryz.underlying35 hi0 hz0 hs0 hy0 rfl (by decide) _ _ _ rfl ((hI.alloc _).alloc _) ⟨wr.heap.size + 1, 0, none⟩ 1 1 [.int .i64 0] rfl rfl (cells1_at _ _ _ _ (by simp)) (fun u hu => by simp at hu; subst hu; rfl) (by unfold maxLen; omega) (by omega) (by simp; omega) ?_)
              intro v6' w2 ho2 hg2 _
              have hI2 : Ints w2 w.heap.size v6' (fs ++ [0]) := Ints.snoc ho2
              have hE2 : Elems w2 w.heap.size u7 xs := World.ownsRow.kept ((hE.alloc _).alloc _) hg2 (own_type hE hI (by decide))
              have hlow := fun j hj => (World.ownsRow.lt hI j hj).2
              have hb2 : w2.heap[wr.heap.size]? = some (.cells #[.int .i64 0, .int .i64 0, .int .i64 0, .bool false] 72) := by
                rw [hg2.block wr.heap.size (by simp; omega) (fun c => by have := hlow wr.heap.size c.symm; omega), Below.heap_alloc _ _ _ (by simp)]; exact HBLK.out
              have hbw2 : Below w.heap.size w w2 := Below.grown ((hbw.alloc hbw.size _).alloc (hbw.alloc hbw.size _).size _) hg2 ((hbw.alloc hbw.size _).alloc (hbw.alloc hbw.size _).size _).size (fun j hj => (World.ownsRow.lt hI j hj).1)
              have d0 := cell_of_row _ _ 0 _ _ _ hb2
              have d1 := cell_of_row _ _ 1 _ _ _ hb2
              have d2 := cell_of_row _ _ 2 _ _ _ hb2
              have d3 := cell_of_row _ _ 3 _ _ _ hb2
              have hsz2 := hbw2.size
              have HI2 : Hid (Ints _ _ _ _) := hI2
              have HB2 : Hid (Below _ _ _) := hbw2
              clear ho2 hg2 hb2 HBLK hlow hI hE hI2 hbw2 a0 a1 a2 a3
              unfold Elems at hE2
              go_wp2_with (at_builtin; refine wpList_append_own _ rfl _ _ 62 rfl w.heap.size 72 i1 _ 4 32 Tryz.underlying62 hi1 hz1 hs1 hy1 rfl (by decide) _ _ _ rfl (hE2.alloc _) ⟨w2.heap.size, 0, none⟩ 1 1 (elC elZ) rfl rfl (cells4_at _ _ elZ _ (by simp)) ?hone (by unfold maxLen; omega) (by omega) (by simp; omega) ?_)
              case hone =>
                intro u hu
                simp [elC] at hu
                rcases hu with rfl | rfl | rfl | rfl <;> rfl
              intro v7' w3 ho3 hg3 _
              have hE3 : Elems w3 w.heap.size v7' (xs ++ [elZ]) := Elems.snoc ho3
              have hI3 : Ints w3 w.heap.size v6' (fs ++ [0]) := World.ownsRow.kept (World.ownsRow.alloc HI2.out _) hg3 (own_type HI2.out hE2 (by decide))
              have hbw3 : Below w.heap.size w w3 := Below.grown (HB2.out.alloc HB2.out.size _) hg3 (HB2.out.alloc HB2.out.size _).size (fun j hj => (World.ownsRow.lt hE2 j hj).1)
              have HE3 : Hid (Elems _ _ _ _) := hE3
              have HI3 : Hid (Ints _ _ _ _) := hI3
              have HB3 : Hid (Below _ _ _) := hbw3
              clear ho3 hg3 hE3 hI3 hbw3 HI2 HB2 d0 d1 d2 d3 hE2
              go_wp2
              exact ⟨⟨k + 1, _, _, true, hlt, by go_num, rfl, HS2.out, HI3.out, HE3.out, HB3.out⟩, by simp [intOf]; omega⟩
          · rw [four1_first hv h0] at hS2
            have HS2 : Hid _ := hS2
            have h0' : (e.first == 0) = false := by simpa using h0
            clear hS2
            have he2 : e = ⟨e.first, e.second, e.third, false⟩ := by cases e; simp_all
            rw [he2] at HS2
            clear he2
            have hblk : (wr.alloc (.cells #[.int .i64 e.first, .int .i64 e.second, .int .i64 e.third, .bool false] 72)).heap[wr.heap.size]? = some (.cells #[.int .i64 e.first, .int .i64 e.second, .int .i64 e.third, .bool false] 72) := heap_alloc_new wr _
            have HBLK : Hid _ := hblk
            clear hblk
            go_wp2_with (at_builtin; refine wpList_append_own _ rfl _ _ 35 rfl w.heap.size 3 i0 (.int .i64 0) 1 8 Tryz.underlying35 hi0 hz0 hs0 hy0 rfl (by decide) _ _ _ rfl ((hI.alloc _).alloc _) ⟨wr.heap.size + 1, 0, none⟩ 1 1 [.int .i64 65535] rfl rfl (cells1_at _ _ _ _ (by simp)) (fun u hu => by simp at hu; subst hu; rfl) (by unfold maxLen; omega) (by omega) (by simp; omega) ?_)
            intro v6' w2 ho2 hg2 _
            have hI2 : Ints w2 w.heap.size v6' (fs ++ [65535]) := Ints.snoc ho2
            have hE2 : Elems w2 w.heap.size u7 xs := World.ownsRow.kept ((hE.alloc _).alloc _) hg2 (own_type hE hI (by decide))
            have hlow := fun j hj => (World.ownsRow.lt hI j hj).2
            have hb2 : w2.heap[wr.heap.size]? = some (.cells #[.int .i64 e.first, .int .i64 e.second, .int .i64 e.third, .bool false] 72) := by
              rw [hg2.block wr.heap.size (by simp; omega) (fun c => by have := hlow wr.heap.size c.symm; omega), Below.heap_alloc _ _ _ (by simp)]; exact HBLK.out
            have hbw2 : Below w.heap.size w w2 := Below.grown ((hbw.alloc hbw.size _).alloc (hbw.alloc hbw.size _).size _) hg2 ((hbw.alloc hbw.size _).alloc (hbw.alloc hbw.size _).size _).size (fun j hj => (World.ownsRow.lt hI j hj).1)
            have d0 := cell_of_row _ _ 0 _ _ _ hb2
            have d1 := cell_of_row _ _ 1 _ _ _ hb2
            have d2 := cell_of_row _ _ 2 _ _ _ hb2
            have d3 := cell_of_row _ _ 3 _ _ _ hb2
            have hsz2 := hbw2.size
            have HI2 : Hid (Ints _ _ _ _) := hI2
            have HB2 : Hid (Below _ _ _) := hbw2
            clear ho2 hg2 hb2 HBLK hlow hI hE hI2 hbw2 a0 a1 a2 a3
            unfold Elems at hE2
            go_wp2_with (at_builtin; refine wpList_append_own _ rfl _ _ 62 rfl w.heap.size 72 i1 _ 4 32 Tryz.underlying62 hi1 hz1 hs1 hy1 rfl (by decide) _ _ _ rfl (hE2.alloc _) ⟨w2.heap.size, 0, none⟩ 1 1 (elC (⟨e.first, e.second, e.third, false⟩ : El)) rfl rfl (cells4_at _ _ (⟨e.first, e.second, e.third, false⟩ : El) _ (by simp)) ?hone (by unfold maxLen; omega) (by omega) (by simp; omega) ?_)
            case hone =>
              intro u hu
              simp [elC] at hu
              rcases hu with rfl | rfl | rfl | rfl <;> rfl
            intro v7' w3 ho3 hg3 _
            have hE3 : Elems w3 w.heap.size v7' (xs ++ [(⟨e.first, e.second, e.third, false⟩ : El)]) := Elems.snoc ho3
            have hI3 : Ints w3 w.heap.size v6' (fs ++ [65535]) := World.ownsRow.kept (World.ownsRow.alloc HI2.out _) hg3 (own_type HI2.out hE2 (by decide))
            have hbw3 : Below w.heap.size w w3 := Below.grown (HB2.out.alloc HB2.out.size _) hg3 (HB2.out.alloc HB2.out.size _).size (fun j hj => (World.ownsRow.lt hE2 j hj).1)
            have HE3 : Hid (Elems _ _ _ _) := hE3
            have HI3 : Hid (Ints _ _ _ _) := hI3
            have HB3 : Hid (Below _ _ _) := hbw3
            clear ho3 hg3 hE3 hI3 hbw3 HI2 HB2 d0 d1 d2 d3 hE2
            go_wp2
            exact ⟨⟨k + 1, _, _, false, hlt, by go_num, rfl, HS2.out, HI3.out, HE3.out, HB3.out⟩, by simp [intOf]; omega⟩
        · rw [hv] at a3
          rw [four1_var hv] at hS2
          have HS2 : Hid _ := hS2
          clear hS2
          have hblk : (wr.alloc (.cells #[.int .i64 0, .int .i64 0, .int .i64 0, .bool false] 72)).heap[wr.heap.size]? = some (.cells #[.int .i64 0, .int .i64 0, .int .i64 0, .bool false] 72) := heap_alloc_new wr _
          have HBLK : Hid _ := hblk
          clear hblk
          go_wp2_with (at_builtin; refine wpList_append_own _ rfl _ _ 35 rfl w.heap.size 3 i0 (.int .i64 0) 1 8 Tryz.underlying35 hi0 hz0 hs0 hy0 rfl (by decide) _ _ _ rfl ((hI.alloc _).alloc _) ⟨wr.heap.size + 1, 0, none⟩ 1 1 [.int .i64 e.first] rfl rfl (cells1_at _ _ _ _ (by simp)) (fun u hu => by simp at hu; subst hu; rfl) (by unfold maxLen; omega) (by omega) (by simp; omega) ?_)
          intro v6' w2 ho2 hg2 _
          have hI2 : Ints w2 w.heap.size v6' (fs ++ [e.first]) := Ints.snoc ho2
          have hE2 : Elems w2 w.heap.size u7 xs := World.ownsRow.kept ((hE.alloc _).alloc _) hg2 (own_type hE hI (by decide))
          have hlow := fun j hj => (World.ownsRow.lt hI j hj).2
          have hb2 : w2.heap[wr.heap.size]? = some (.cells #[.int .i64 0, .int .i64 0, .int .i64 0, .bool false] 72) := by
            rw [hg2.block wr.heap.size (by simp; omega) (fun c => by have := hlow wr.heap.size c.symm; omega), Below.heap_alloc _ _ _ (by simp)]; exact HBLK.out
          have hbw2 : Below w.heap.size w w2 := Below.grown ((hbw.alloc hbw.size _).alloc (hbw.alloc hbw.size _).size _) hg2 ((hbw.alloc hbw.size _).alloc (hbw.alloc hbw.size _).size _).size (fun j hj => (World.ownsRow.lt hI j hj).1)
          have d0 := cell_of_row _ _ 0 _ _ _ hb2
          have d1 := cell_of_row _ _ 1 _ _ _ hb2
          have d2 := cell_of_row _ _ 2 _ _ _ hb2
          have d3 := cell_of_row _ _ 3 _ _ _ hb2
          have hsz2 := hbw2.size
          have HI2 : Hid (Ints _ _ _ _) := hI2
          have HB2 : Hid (Below _ _ _) := hbw2
          clear ho2 hg2 hb2 HBLK hlow hI hE hI2 hbw2 a0 a1 a2 a3
          unfold Elems at hE2
          go_wp2_with (at_builtin; refine wpList_append_own _ rfl _ _ 62 rfl w.heap.size 72 i1 _ 4 32 Tryz.underlying62 hi1 hz1 hs1 hy1 rfl (by decide) _ _ _ rfl (hE2.alloc _) ⟨w2.heap.size, 0, none⟩ 1 1 (elC elZ) rfl rfl (cells4_at _ _ elZ _ (by simp)) ?hone (by unfold maxLen; omega) (by omega) (by simp; omega) ?_)
          case hone =>
            intro u hu
            simp [elC] at hu
            rcases hu with rfl | rfl | rfl | rfl <;> rfl
          intro v7' w3 ho3 hg3 _
          have hE3 : Elems w3 w.heap.size v7' (xs ++ [elZ]) := Elems.snoc ho3
          have hI3 : Ints w3 w.heap.size v6' (fs ++ [e.first]) := World.ownsRow.kept (World.ownsRow.alloc HI2.out _) hg3 (own_type HI2.out hE2 (by decide))
          have hbw3 : Below w.heap.size w w3 := Below.grown (HB2.out.alloc HB2.out.size _) hg3 (HB2.out.alloc HB2.out.size _).size (fun j hj => (World.ownsRow.lt hE2 j hj).1)
          have HE3 : Hid (Elems _ _ _ _) := hE3
          have HI3 : Hid (Ints _ _ _ _) := hI3
          have HB3 : Hid (Below _ _ _) := hbw3
          clear ho3 hg3 hE3 hI3 hbw3 HI2 HB2 d0 d1 d2 d3 hE2
          go_wp2
          exact ⟨⟨k + 1, _, _, true, hlt, by go_num, rfl, HS2.out, HI3.out, HE3.out, HB3.out⟩, by simp [intOf]; omega⟩
    · have hk3 : k = es.length := by omega
      subst hk3
      have HF1 : Hid (fourths sh es = fs ∧ counted sh es = xs) := by
        show _ ∧ _
        unfold fourths counted
        rw [HF.out]
        exact ⟨rfl, rfl⟩
      clear HF hL
      go_wp2
      go_ret2
      rw [HF1.out.1, HF1.out.2]
      exact ⟨_, _, rfl, hI, hE, hbw⟩

set_option maxRecDepth 100000 in
set_option maxHeartbeats 1000000 in
theorem fourth_none (w : World) (a : Option Addr) (c : Nat) (sh : Bool) :
    Calls Tryz.prog 65 #[.slice a 0 c, .bool sh] w fun e w' => ∃ v v', e = .returned (.tuple #[v, v']) ∧ Ints w' w.heap.size v [] ∧ Elems w' w.heap.size v' [] ∧ Below w.heap.size w w' := by
  go_enter Tryz.func65, Tryz.ntmps65
  go_wp2
  go_loop [6, 7, 8, 14] (fun v6 v7 bv iv => v6 = .slice none 0 0 ∧ v7 = .slice none 0 0 ∧ bv = .bool false ∧ iv = .int .i64 0) (fun _ _ _ _ => 0)
  case atStart => exact ⟨rfl, rfl, rfl, rfl⟩
  case round =>
    obtain ⟨rfl, rfl, rfl, rfl⟩ := hrel
    go_wp2
    go_ret2
    exact ⟨_, _, rfl, World.ownsRow_nil _ _ _ _, World.ownsRow_nil _ _ _ _, Below.refl _ _⟩

theorem fourth_any {w : World} {B : Nat} {v : Value} {es : List El} (sh : Bool) (hz : es.length ≤ 1048576) (hL : Elems w B v es) :
    Calls Tryz.prog 65 #[v, .bool sh] w fun e w' => ∃ v v', e = .returned (.tuple #[v, v']) ∧ Ints w' w.heap.size v (fourths sh es) ∧ Elems w' w.heap.size v' (counted sh es) ∧ Below w.heap.size w w' := by
  rcases hL.form with ⟨rfl, rfl⟩ | ⟨g, cap, rfl, _, _⟩
  · exact fourth_none w _ _ sh
  · exact fourth_row w B g cap es sh hz hL
end Go.Proofs.YtinjldagfhbioaaGreatDoor
