/- Texts of mine laid together: WPages. -/
import Derived.Test.YtbgomhgohphglaaDoorMP2
import Derived.Test.YtbgomhgohphglaaDoorMP3
import Derived.Test.YtbgomhgohphglaaDoorMP4
import Derived.Test.YtbgomhgohphglaaDoorSlT6
namespace Go.Proofs.YtbgomhgohphglaaDoor
open Go.RowKit

/-- What the draw of rows gives. -/
def DrawsRows (w : World) (a : Option Addr) (n cap : Nat) : Prop :=
  Calls Tryd.prog 7 #[.slice a n cap] w fun e w' => ∃ (a' : Option Addr) (l : List Rw) (c : Nat), e = .returned (.slice a' l.length c) ∧ Rws w' w.heap.size (.slice a' l.length c) l ∧ l.length ≤ c ∧ c ≤ 9223372036854775807 ∧ l.length ≤ 1048576 ∧ Below w.heap.size w w'

theorem flat_le : ∀ (p : List ByteArray), (p.map readP).flatten.length ≤ 60 * p.length
  | [] => by simp
  | s :: p => by
    have h1 := flat_le p
    have h2 := readP_len s
    simp only [List.map_cons, List.flatten_cons, List.length_append, List.length_cons]
    omega

theorem flat_step {p : List ByteArray} {j : Nat} {s : ByteArray} (h : p[j]? = some s) : ((p.take (j + 1)).map readP).flatten = ((p.take j).map readP).flatten ++ readP s := by
  rw [List.take_add_one, h]
  simp

def PgRel (w5 : World) (p : List ByteArray) (v i : Value) (wr : World) : Prop :=
  ∃ j : Nat, j ≤ p.length ∧ i = .int .i64 (j : Int) ∧ Rws wr w5.heap.size v ((p.take j).map readP).flatten ∧ Below w5.heap.size w5 wr

set_option maxRecDepth 100000 in
set_option maxHeartbeats 1000000 in
theorem pages_long (w : World) (a : Option Addr) (n cap : Nat) (hn : 1048576 < n) (_ : n ≤ 9223372036854775807) : Calls Tryd.prog 3 #[.slice a n cap] w fun e w' => e = .returned (.bool true) ∧ Below w.heap.size w w' := by
  have hn8 : (1048576 : Int) < (n : Int) := by omega
  go_enter Tryd.func3, Tryd.ntmps3
  go_wp2
  go_ret
  exact ⟨rfl, Below.refl _ _⟩

set_option maxRecDepth 100000 in
set_option maxHeartbeats 16000000 in
theorem pages_walk (w : World) (a : Option Addr) (n cap : Nat) (hn : n ≤ 1048576) (P0 : DrawsRows w a n cap) {ty : TypeId} {pv : Value} (hg : ErrG w ty pv) :
    Calls Tryd.prog 3 #[.slice a n cap] w fun e w' => e = .returned (.bool true) ∧ Below w.heap.size w w' := by
  have P := P0
  unfold DrawsRows at P
  have hgl := hg.lt
  have HE : Hid (∀ u, Below w.heap.size w u → ErrG u ty pv) := fun u hu => (hu.cell (p := ⟨0, 0, none⟩) hgl).trans hg
  have hn8 : ¬ (1048576 : Int) < (n : Int) := by omega
  clear hg P0
  go_enter Tryd.func3, Tryd.ntmps3
  go_wp2_with fail
  refine P.mono ?_
  rintro e w1 ⟨a1, l, c1, rfl, r1, hl, hc, hl2, b1⟩
  have IP := implPO_any r1.slT.sl hl hc hl2
  have HR1 : Hid (Rws w1 w.heap.size (.slice a1 l.length c1) l) := r1
  have HB1 : Hid (Below w.heap.size w w1) := b1
  clear P r1 b1
  go_wp2_with fail
  refine IP.mono ?_
  rintro e w2 ⟨v2, rfl, s2, b2⟩
  have HR2 : Hid (Rws w2 w.heap.size (.slice a1 l.length c1) l) := HR1.out.below b2
  have HB2 : Hid (Below w.heap.size w w2) := HB1.out.trans (b2.mono HB1.out.size)
  have SP := specPO_any HR2.out.slT.sl hl hc hl2
  have HP2 : Hid (Strs w2 w1.heap.size v2 ((pagesA l).getD [])) := s2
  clear IP b2 s2 HR1 HB1
  go_wp2_with fail
  refine SP.mono ?_
  rintro e w3 ⟨v3, rfl, s3, b3⟩
  have HR3 : Hid (Rws w3 w.heap.size (.slice a1 l.length c1) l) := HR2.out.below b3
  have HB3 : Hid (Below w.heap.size w w3) := HB2.out.trans (b3.mono HB2.out.size)
  have hP3 := HP2.out.below b3
  clear SP b3 HR2 HB2 HP2
  cases hp : pagesA l with
  | none =>
    rw [hp] at hP3 s3
    obtain ⟨a3, c3, hv3, _⟩ := strs6_all hP3
    obtain ⟨a4, c4, hv4, _⟩ := strs6_all s3
    subst hv3
    subst hv4
    clear hP3 s3
    go_wp2
    go_ret
    exact ⟨rfl, HB3.out⟩
  | some p =>
    rw [hp] at hP3 s3
    have hP4 : Strs w3 w1.heap.size v2 p := hP3
    have s4 : Strs w3 w2.heap.size v3 p := s3
    obtain ⟨a3, c3, hv3, hq3⟩ := strs6_all hP4
    obtain ⟨a4, c4, hv4, hq4⟩ := strs6_all s4
    subst hv3
    subst hv4
    obtain ⟨gs, hbk, hfl, hgs, hcd, h40, hsz⟩ := pages_tree hp
    have HQ3 : Hid _ := hq3
    have HQ4 : Hid _ := hq4
    have HP3 : Hid (Strs w3 w1.heap.size (.slice a3 p.length c3) p) := hP4
    have HCD : Hid (∀ s ∈ p, codeP s = 0) := hcd
    have HSZ : Hid (∀ s ∈ p, s.size ≤ 1048576) := fun s hs => by have := hsz s hs; omega
    have HFL : Hid ((p.map readP).flatten = l) := by show _ = _; rw [← hgs]; exact hfl
    have hl24 : l.length ≤ 2400 := by have := flat_le p; rw [HFL.out] at this; omega
    have HFR : Hid (∀ (u : World) (x : Rw), x ∈ l → Below w.heap.size w u → Strs u w1.heap.size (.slice a3 p.length c3) p → Calls Tryd.prog 12 #[.slice a3 p.length c3, .string x.key] u fun e w' => ∃ k : Nat, k ≤ 7 ∧ e = .returned (.tuple #[.agg #[.string x.key, .string x.text, .string x.val], .int .i64 (k : Int), .bool true]) ∧ Below u.heap.size u w') := fun u x hx hu hs => by
      have r := implFR_any x.key hs HSZ.out (by omega) (HE.out u hu)
      have f := findA_row hbk (x := x) (by rw [hfl]; exact hx)
      unfold frV rwV at r
      rw [hbk, f.1] at r
      exact r.mono fun e w' h => ⟨_, f.2, h.1, h.2⟩
    clear hbk hgs hcd hsz hfl hq3 hq4 hP3 s3 hP4 s4 hp
    go_wp2_with fail
    go_loopw [8, 50] (fun v i wr => PgRel w3 p v i wr) (fun _ i _ => p.length - (intOf i).toNat)
    case atStart => exact ⟨0, Nat.zero_le _, rfl, World.ownsRow_nil _ _ _ _, Below.refl _ _⟩
    case round =>
      obtain ⟨j, hj, rfl, hI, hb⟩ := hrel
      have HBr : Hid (Below w3.heap.size w3 wr) := hb
      have hw5 := hb.size
      by_cases hjl : j < p.length
      · obtain ⟨s, hs⟩ : ∃ s, p[j]? = some s := ⟨_, List.getElem?_eq_getElem hjl⟩
        obtain ⟨g3, rfl, hz3⟩ := HQ3.out j s hs
        obtain ⟨g4, rfl, hz4⟩ := HQ4.out j s hs
        have e3 := hz3 wr hb j s hs
        have HZ4 : Hid (∀ u, Below w3.heap.size w3 u → u.cell? ⟨g4, j, none⟩ = some (.string s)) := fun u hu => hz4 u hu j s hs
        have hsm : s ∈ p := List.mem_of_getElem? hs
        have h3l := rw_cell_lt e3
        have hj8 : (j : Int) < (p.length : Int) := by omega
        have HST : Hid (((p.take (j + 1)).map readP).flatten = ((p.take j).map readP).flatten ++ readP s) := flat_step hs
        have HFB : Hid (((p.take j).map readP).flatten.length ≤ 2400) := by
          show _ ≤ _
          have h1 := flat_le (p.take j)
          rw [List.length_take] at h1
          omega
        have hrl := readP_len s
        obtain ⟨F, HF⟩ : ∃ F, Hid (((p.take j).map readP).flatten = F) := ⟨_, rfl⟩
        rw [HF.out] at hI HST HFB
        have HI : Hid (Rws wr w3.heap.size u8 F) := hI
        have RP := implRP_any s wr (HSZ.out s hsm) (HE.out wr (HB3.out.trans (hb.mono HB3.out.size)))
        rw [HCD.out s hsm] at RP
        clear hz3 hz4 hs hb hI hsm
        go_wp2_with fail
        refine RP.mono ?_
        rintro e w6 ⟨v6, rfl, r6, b6⟩
        have HI6 : Hid (Rws w6 w3.heap.size u8 F) := HI.out.below b6
        have HB6 : Hid (Below w3.heap.size w3 w6) := HBr.out.trans (b6.mono HBr.out.size)
        have HY6 : Hid (SlV w6 v6 (readP s)) := r6.slV
        have e4 := HZ4.out w6 HB6.out
        have h4l := rw_cell_lt e4
        clear RP r6 b6 HI HBr e3 h3l
        go_wp2_with (at_builtin; refine append_rws rfl _ _ rfl w3.heap.size u8 v6 F (readP s) rfl rfl HI6.out HY6.out (by have := HFB.out; omega) HB6.out.size ?_)
        intro v7 w7 i7 g7
        have HI7 : Hid (Rws w7 w3.heap.size v7 (F ++ readP s)) := i7
        have HB7 : Hid (Below w3.heap.size w3 w7) := Below.grown HB6.out g7 HB6.out.size (fun j hj => (World.ownsRow.lt HI6.out j hj).1)
        clear i7 g7 HI6 HY6 HB6 e4 h4l
        go_wp2
        exact ⟨⟨j + 1, by omega, by go_num, by rw [HST.out]; exact HI7.out, HB7.out⟩, by simp [intOf]; omega⟩
      · obtain rfl : j = p.length := by omega
        rw [List.take_length, HFL.out] at hI
        obtain ⟨w5, rfl⟩ : ∃ w5, w5 = wr := ⟨_, rfl⟩
        have hR5 := HR3.out.below hb
        have SM := sameR_any (by omega) hI hR5
        have HR5 : Hid (Rws w5 w.heap.size (.slice a1 l.length c1) l) := hR5
        have HB5 : Hid (Below w.heap.size w w5) := HB3.out.trans (hb.mono HB3.out.size)
        have HP5 : Hid (Strs w5 w1.heap.size (.slice a3 p.length c3) p) := HP3.out.below hb
        clear hI hb hjl hj hR5 HBr HQ3 HQ4 HR3 HB3 HP3
        go_wp2_with fail
        refine SM.mono ?_
        rintro e w6 ⟨rfl, b6⟩
        have HR6 : Hid (Rws w6 w.heap.size (.slice a1 l.length c1) l) := HR5.out.below b6
        have HB6 : Hid (Below w.heap.size w w6) := HB5.out.trans (b6.mono HB5.out.size)
        have HP6 : Hid (Strs w6 w1.heap.size (.slice a3 p.length c3) p) := HP5.out.below b6
        have HLA : Hid (∀ u, Below w6.heap.size w6 u → SlV u (.slice a1 l.length c1) l) := fun u hu => (HR6.out.below hu).slV
        clear SM b6 HR5 HB5 HP5
        go_wp2_with fail
        go_loopw [80] (fun i wr => SRel6 w6 l.length i wr) (fun i _ => l.length - (intOf i).toNat)
        case atStart => exact ⟨0, Nat.zero_le _, rfl, Below.refl _ _⟩
        case round =>
          obtain ⟨j, hj, rfl, hb⟩ := hrel
          have HBr : Hid (Below w6.heap.size w6 wr) := hb
          by_cases hjl : j < l.length
          · obtain ⟨y, hy⟩ : ∃ y, l[j]? = some y := ⟨_, List.getElem?_eq_getElem hjl⟩
            obtain ⟨a', c', hv', hsl'⟩ := HLA.out wr hb
            injection hv' with e1 _ e3
            subst e1
            subst e3
            rcases hsl' with h | ⟨b, o, rfl, hE⟩
            · rw [h] at hy; simp at hy
            obtain ⟨e0, e1, e2⟩ := hE j y hy
            have hbl := rw_cell_lt e0
            have hj8 : (j : Int) < (l.length : Int) := by omega
            have b1 : Below wr.heap.size wr (wr.alloc (.cells #[.string y.key, .string y.text, .string y.val] 32)) := (Below.refl _ _).alloc (Nat.le_refl _) _
            have hb7 := hb.trans (b1.mono hb.size)
            have HB7 : Hid (Below w6.heap.size w6 (wr.alloc (.cells #[.string y.key, .string y.text, .string y.val] 32))) := hb7
            have FR := HFR.out (wr.alloc (.cells #[.string y.key, .string y.text, .string y.val] 32)) y (List.mem_of_getElem? hy) (HB6.out.trans (hb7.mono HB6.out.size)) (HP6.out.below hb7)
            have HX7 : Hid (BoxR6 (wr.alloc (.cells #[.string y.key, .string y.text, .string y.val] 32)) wr.heap.size y) := box_new6 wr y
            clear hE hy hb b1 hb7
            go_wp2_with fail
            refine FR.mono ?_
            rintro e w8 ⟨k8, hk8, rfl, b8⟩
            have hk9 : ¬ (8 : Int) < (k8 : Int) := by omega
            have X8 := HX7.out.below b8
            have HB8 : Hid (∀ o, Below w6.heap.size w6 (w8.alloc o)) := fun o => (HB7.out.trans (b8.mono HB7.out.size)).alloc (HB7.out.trans (b8.mono HB7.out.size)).size o
            obtain ⟨d0, d1, d2⟩ := X8.cells
            have hdl := X8.lt
            clear FR b8 X8 HX7 HB7 HBr e0 e1 e2 hbl
            go_wp2
            exact ⟨⟨j + 1, by omega, by go_num, HB8.out _⟩, by simp [intOf]; omega⟩
          · clear hb
            have HB9 : Hid (Below w.heap.size w wr) := HB6.out.trans (HBr.out.mono HB6.out.size)
            go_wp2
            go_ret
            exact ⟨rfl, HB9.out⟩
end Go.Proofs.YtbgomhgohphglaaDoor
