/- Contract of the specification's draw of rows ((*l1Cur).rows): a row of Rows of its own, at most 61 of them; the cursor moves on. -/
import Derived.Test.YtbgomhgohphglaaDoorRowD6
import Derived.Test.YtbgomhgohphglaaDoorPGood6
import Derived.Deep.RegionLaw
import Derived.Deep.RegionHeldLaw
import Derived.Deep.Cut
import Derived.Deep.CutRange
import Derived.BigQuiet
import Derived.Deep.QuietTactic
namespace Go.Proofs.YtbgomhgohphglaaDoor
open Go.RowKit

theorem below_drewR {B : Nat} {w u : World} (h : Below B w u) (n : Nat) : Below B w (u.drewN n) := ⟨h.os, h.tape, h.output, h.size, h.block⟩
theorem grown_noneR {u w' : World} (h : u.grownBy w' none) : Below u.heap.size u w' := ⟨h.os, h.tape, h.output, h.size, fun k hk => h.block k hk (by simp)⟩
theorem list_neR {a b : ByteArray} (h : ¬ a = b) : (a.toList == b.toList) = false := ne_list6 h

theorem rwsR_cap {w : World} {B c : Nat} {a : Option Addr} {l : List Rw} (h : Rws w B (.slice a l.length c) l) : l.length ≤ c ∧ c ≤ 9223372036854775807 := by
  rcases h.form with ⟨q, rfl⟩ | ⟨g, cap, q, h1, h2⟩
  · injection q with _ q2 q3
    subst q3
    simp
  · injection q with _ _ q3
    subst q3
    exact ⟨h1, by unfold maxLen at h2; omega⟩

theorem byz_lit2 (w : World) (B : Nat) (p q : Int) (hB : B ≤ w.heap.size) : Byz (w.alloc (.cells #[.int .u8 p, .int .u8 q] 5)) B (.slice (some ⟨w.heap.size, 0, none⟩) 2 2) [p, q] :=
  ⟨rfl, .inr ⟨w.heap.size, 2, _, rfl, hB, heap_alloc_new _ _, Nat.le_refl _, by unfold maxLen; omega, rfl, rfl⟩⟩

def RdRel (w : World) (B b K : Nat) (v n : Value) (wr : World) : Prop :=
  ∃ (j k : Nat) (l : List Rw), n = .int .i64 (j : Int) ∧ Rws wr w.heap.size v l ∧ l.length + j ≤ 20 ∧ k + 30 * j ≤ K ∧ Cur wr B b k ∧ w.grownBy wr (some b)

def RkRel (w : World) (B b K : Nat) (v i : Value) (wr : World) : Prop :=
  ∃ (j k : Nat), i = .int .i64 (j : Int) ∧ j ≤ 61 ∧ k ≤ K + 2 * j ∧ (∃ l : List Rw, l.length = j ∧ Rws wr w.heap.size v l) ∧ Cur wr B b k ∧ w.grownBy wr (some b)

/-- Where a key goes in: behind all that are less. -/
def inP (l : List Rw) (key : ByteArray) : Nat := (l.takeWhile fun y => ltK y.key key).length

theorem inP_le (l : List Rw) (key : ByteArray) : inP l key ≤ l.length := (List.takeWhile_sublist _).length_le

theorem inP_lt (l : List Rw) (key : ByteArray) : ∀ (k : Nat) (y : Rw), k < inP l key → l[k]? = some y → ltK y.key key = true := by
  induction l with
  | nil => intro k y _ h; simp at h
  | cons z l ih =>
    intro k y hk hy
    unfold inP at hk
    rw [List.takeWhile_cons] at hk
    split at hk
    · rename_i hz
      cases k with
      | zero => simp at hy; subst hy; exact hz
      | succ k => exact ih k y (by simpa [inP] using hk) (by simpa using hy)
    · simp at hk

theorem inP_at (l : List Rw) (key : ByteArray) : ∀ (y : Rw), l[inP l key]? = some y → ltK y.key key = false := by
  induction l with
  | nil => intro y h; simp at h
  | cons z l ih =>
    intro y hy
    unfold inP at hy
    rw [List.takeWhile_cons] at hy
    split at hy
    · exact ih y (by simpa [inP] using hy)
    · rename_i hz
      simp at hy
      subst hy
      simpa using hz

set_option maxRecDepth 100000 in
set_option maxHeartbeats 16000000 in
theorem rowsD_any (w : World) (B b k : Nat) (h : Cur w B b k) (hk : k ≤ 1000) :
    Calls Tryd.prog 54 #[.pointer (some ⟨b, 0, none⟩)] w fun e w' => ∃ (v : Value) (l : List Rw), e = .returned v ∧ Rws w' w.heap.size v l ∧ l.length ≤ 61 ∧ Moved w w' B b k 1000 := by
  have P := pick_any w B b k h (by omega) 8 (by omega) (by omega)
  obtain ⟨i0, hi0, hz0, hz1, hz2⟩ := info_parts info_byteC
  have hB := h.lt
  have hbB : b < B := hB.1
  have hbw : b < w.heap.size := by omega
  have HKB : Hid (∀ (u : World) (k : Nat), Cur u B b k → k ≤ 3000 → Calls Tryd.prog 38 #[.pointer (some ⟨b, 0, none⟩)] u fun e w' => ∃ s : ByteArray, e = .returned (.string s) ∧ s.size ≤ 13 ∧ Moved u w' B b k 4) := fun u k hc hk => keyBytes_any u B b k hc (by omega)
  have HBT : Hid (∀ (u : World) (k : Nat), Cur u B b k → k ≤ 3000 → Calls Tryd.prog 39 #[.pointer (some ⟨b, 0, none⟩), .int .i64 6] u fun e w' => ∃ v zs, e = .returned v ∧ Byz w' u.heap.size v zs ∧ zs.length ≤ 6 ∧ Moved u w' B b k 8) := fun u k hc hk => cbytes_any u B b k 6 hc (by omega) (by omega)
  have HON : Hid (∀ (u : World) (k : Nat) (m : Int), Cur u B b k → k ≤ 3000 → 0 ≤ m → m ≤ 100 → Calls Tryd.prog 40 #[.pointer (some ⟨b, 0, none⟩), .int .i64 m] u fun e w' => ∃ x : Bool, e = .returned (.bool x) ∧ Moved u w' B b k 2) := fun u k m hc hk h0 h1 => oneIn_any u B b k hc (by omega) m (by omega) (by omega)
  have HPK : Hid (∀ (u : World) (k : Nat) (m : Int), Cur u B b k → k ≤ 3000 → 0 ≤ m → m ≤ 100 → Calls Tryd.prog 37 #[.pointer (some ⟨b, 0, none⟩), .int .i64 m] u fun e w' => ∃ x : Int, e = .returned (.int .i64 x) ∧ 0 ≤ x ∧ (x < m ∨ x = 0) ∧ Moved u w' B b k 2) := fun u k m hc hk h0 h1 => pick_any u B b k hc (by omega) m (by omega) (by omega)
  clear h
  go_enter Tryd.func54, Tryd.ntmps54
  go_wp2_with fail
  refine P.mono ?_
  rintro e w1 ⟨x0, rfl, hx0, hx1, ⟨⟨k1, hk1, C1⟩, g1⟩⟩
  obtain ⟨j0, rfl⟩ := Int.eq_ofNat_of_zero_le hx0
  have ON := HON.out w1 k1 10 C1 (by omega) (by omega) (by omega)
  have HG1 : Hid (w.grownBy w1 (some b)) := g1
  have hj0 : j0 ≤ 20 := by omega
  clear P C1 g1 hx0 hx1
  go_wp2_with fail
  refine ON.mono ?_
  rintro e w2 ⟨yes, rfl, ⟨⟨k2, hk2, C2⟩, g2⟩⟩
  have HC2 : Hid (Cur w2 B b k2) := C2
  have HG2 : Hid (w.grownBy w2 (some b)) := grown_and HG1.out g2
  clear ON C2 g2 HG1
  go_upto_if 12 with fail
  go_cut [3, 4] from 9 to 119 (fun v3 v4 wx => v3 = .slice none 0 0 ∧ (∃ j1 : Nat, v4 = .int .i64 (j1 : Int) ∧ j1 ≤ 20) ∧ wx = w2)
  case first =>
    cases yes
    · go_wp2
      go_meet
      case rel => exact ⟨rfl, ⟨j0, rfl, hj0⟩, rfl⟩
    · go_wp2
      go_meet
      case rel => exact ⟨rfl, ⟨20, rfl, by omega⟩, rfl⟩
  case rest =>
    obtain ⟨h3, ⟨j1, h4, hj1⟩, hwc⟩ := hcut
    subst hwc
    subst h3
    subst h4
    clear hj0
    go_wp2_with fail
    go_loopw [3, 4] (fun v n wr => RdRel w B b (k + 604) v n wr) (fun _ n _ => (intOf n).toNat)
    case atStart => exact ⟨j1, k2, [], rfl, World.ownsRow_nil _ _ _ _, by simp; omega, by omega, HC2.out, HG2.out⟩
    case round =>
      clear hk1 hk2 HC2 HG2 hj1
      obtain ⟨j, k3, l, rfl, hI, hlj, hk3, hC, hg⟩ := hrel
      obtain ⟨va, vc, hv⟩ := rw_form hI
      subst hv
      have HI : Hid (Rws wr w.heap.size (.slice va l.length vc) l) := hI
      have HC : Hid (Cur wr B b k3) := hC
      have HG : Hid (w.grownBy wr (some b)) := hg
      have hwr := hg.size
      have HOB : Hid (∀ j, (Value.slice va l.length vc).ownBlock = some j → j < wr.heap.size) := fun j hj => (World.ownsRow.lt hI j hj).2
      clear hI hC hg
      by_cases hj0 : 0 < j
      · have hj8 : (0 : Int) < (j : Int) := by omega
        go_upto_region 7 with fail
        go_cut [3, 4, 5] from 13 to 82 (fun v3 v4 v5 wx => v3 = .slice va l.length vc ∧ v4 = .int .i64 (j : Int) ∧ RowAtR wr wx B b k3 v5)
        case first =>
          go_region_law (first
            | (go_simp; go_at_call 38; refine (HKB.out _ k3 (by first | exact HC.out | exact HC.out.allocR (.cells #[.string ⟨#[]⟩, .string ⟨#[]⟩, .string ⟨#[]⟩] 32)) (by omega)).mono ?_; rintro e w3 ⟨s3, rfl, z3, ⟨⟨k3b, hk3b, C3⟩, q3⟩⟩; have g3 : wr.grownBy w3 (some b) := (by first | exact ⟨q3.os, q3.tape, q3.output, q3.size, q3.block⟩ | exact grownR (o := .cells #[.string ⟨#[]⟩, .string ⟨#[]⟩, .string ⟨#[]⟩] 32) ⟨q3.os, q3.tape, q3.output, q3.size, q3.block⟩); have hs3 := g3.size; have hner : wr.heap.size ≠ b := (by omega); have hne3 : w3.heap.size ≠ b := (by omega); (try (have x3 : BoxY w3 wr.heap.size := BoxY.kept (boxy_new wr) ⟨q3.os, q3.tape, q3.output, q3.size, q3.block⟩ hner; obtain ⟨l3, c30, c31, c32, f3⟩ := x3.facts)))
            | (go_simp; go_at_call 39; refine (HBT.out _ k4 (by first | exact C4 | exact C4.allocR _) (by omega)).mono ?_; rintro e w5 ⟨v5, zs5, rfl, y5, z5, ⟨⟨k5, hk5, C5⟩, q5⟩⟩; have g5 : w4.grownBy w5 (some b) := (by first | exact q5 | exact grownR q5); have hs5 := g5.size; have y4 := Byz.keptR y4b g5 (by have h9 := C3.lt; first | omega | (simp; omega)); have cv45 := conv_row y4; have cv55 := conv_row y5; have ya4 : Byz (w5.alloc (.cells #[.string ⟨#[]⟩, .string ⟨#[]⟩, .string ⟨#[]⟩] 32)) _ v4 zs4 := World.ownsRow.alloc y4 _; have ya5 : Byz (w5.alloc (.cells #[.string ⟨#[]⟩, .string ⟨#[]⟩, .string ⟨#[]⟩] 32)) _ v5 zs5 := World.ownsRow.alloc y5 _; have cv45a := conv_row ya4; have cv55a := conv_row ya5; (try (have x53 : BoxY w5 wr.heap.size := BoxY.kept x43 g5 hner; obtain ⟨l53, c530, c531, c532, f53⟩ := x53.facts)); (try (have x54 : BoxY w5 w3.heap.size := BoxY.kept x44 g5 hne3; obtain ⟨l54, c540, c541, c542, f54⟩ := x54.facts)); (try (have x55 : BoxY w5 w4.heap.size := BoxY.kept (boxy_new w4) q5 hne4; obtain ⟨l55, c550, c551, c552, f55⟩ := x55.facts)))
            | (go_simp; go_at_call 39; refine (HBT.out _ k3b (by first | exact C3 | exact C3.allocR _) (by omega)).mono ?_; rintro e w4 ⟨v4, zs4, rfl, y4b, z4, ⟨⟨k4, hk4, C4⟩, q4⟩⟩; have g4 : w3.grownBy w4 (some b) := (by first | exact q4 | exact grownR q4); have hs4 := g4.size; have hne4 : w4.heap.size ≠ b := (by omega); have cv44 := conv_row y4b; have yb4 : Byz (w4.alloc (.cells #[.string ⟨#[]⟩, .string ⟨#[]⟩, .string ⟨#[]⟩] 32)) _ v4 zs4 := World.ownsRow.alloc y4b _; have cv44a := conv_row yb4; (try (have x43 : BoxY w4 wr.heap.size := BoxY.kept x3 g4 hner; obtain ⟨l43, c430, c431, c432, f43⟩ := x43.facts)); (try (have x44 : BoxY w4 w3.heap.size := BoxY.kept (boxy_new w3) q4 hne3; obtain ⟨l44, c440, c441, c442, f44⟩ := x44.facts))))
          all_goals
            have hg5 : wr.grownBy w5 (some b) := grown_and (grown_and g3 g4) g5
            go_wp2_with fail
            go_meet
            case rel => first | exact ⟨rfl, rfl, rowAt_newR (x := ⟨s3, txR zs4, txR zs5⟩) (by omega) C5 hg5⟩ | exact ⟨rfl, rfl, rowAt_oldR (x := ⟨s3, txR zs4, txR zs5⟩) x53 (by omega) (by omega) (by omega) C5 hg5⟩ | exact ⟨rfl, rfl, rowAt_oldR (x := ⟨s3, txR zs4, txR zs5⟩) x54 (by omega) (by omega) (by omega) C5 hg5⟩ | exact ⟨rfl, rfl, rowAt_oldR (x := ⟨s3, txR zs4, txR zs5⟩) x55 (by omega) (by omega) (by omega) C5 hg5⟩
        case rest =>
          obtain ⟨h3, h4, bx, k4, x, h5, hbx, X, hk4, C4, g4⟩ := hcut
          subst h3
          subst h4
          subst h5
          obtain ⟨w4, rfl⟩ : ∃ w4, w4 = wc := ⟨_, rfl⟩
          have ON := HON.out w4 k4 12 C4 (by omega) (by omega) (by omega)
          have hxb : some bx ≠ some b := fun e => by have := Option.some.inj e; omega
          have HX4 : Hid (BoxR6 w4 bx x) := X
          have HI4 : Hid (Rws w4 w.heap.size (.slice va l.length vc) l) := HI.out.keptR g4 hbw
          have HG4 : Hid (w.grownBy w4 (some b)) := grown_and HG.out g4
          clear X C4 g4 HI HC HG
          go_wp2_with fail
          refine ON.mono ?_
          rintro e w5 ⟨yes, rfl, ⟨⟨k5, hk5, C5⟩, g5⟩⟩
          have HX5 : Hid (BoxR6 w5 bx x) := HX4.out.keptR g5 hxb
          have HI5 : Hid (Rws w5 w.heap.size (.slice va l.length vc) l) := HI4.out.keptR g5 hbw
          have HG5 : Hid (w.grownBy w5 (some b)) := grown_and HG4.out g5
          have HC5 : Hid (Cur w5 B b k5) := C5
          clear ON C5 g5 HX4 HI4 HG4
          go_upto_if 27 with fail
          go_cut [3, 4, 5] from 13 to 82 (fun v3 v4 v5 wx => v3 = .slice va l.length vc ∧ v4 = .int .i64 (j : Int) ∧ v5 = .pointer (some ⟨bx, 0, none⟩) ∧ ∃ (x' : Rw) (k6 : Nat), BoxR6 wx bx x' ∧ k6 ≤ k5 + 2 ∧ Cur wx B b k6 ∧ Rws wx w.heap.size (.slice va l.length vc) l ∧ w.grownBy wx (some b))
          case first =>
            cases yes
            · go_wp2
              go_meet
              case rel => exact ⟨rfl, rfl, rfl, x, k5, HX5.out, by omega, HC5.out, HI5.out, HG5.out⟩
            · have hx5 := HX5.out.lt
              have hw5 := HG5.out.size
              have AM := among_any _ B b k5 (HC5.out.allocR (.cells #[.int .i64 40, .int .i64 80, .int .i64 81] 3)) (by omega) w5.heap.size 3 3 [40, 80, 81] rfl (by omega) (by omega) (by simp) (by omega) (fun j hj => by rw [World.cell?_alloc_new]; match j, hj with | 0, _ => rfl | 1, _ => rfl | 2, _ => rfl)
              go_wp2_with fail
              refine AM.mono ?_
              rintro e w6 ⟨z, rfl, hz, ⟨⟨k6, hk6, C6⟩, g6⟩⟩
              obtain ⟨y, hy, hy81⟩ : ∃ y : Nat, z = (y : Int) ∧ y ≤ 81 := by
                simp at hz
                rcases hz with h | h | h
                · exact ⟨40, by omega, by omega⟩
                · exact ⟨80, by omega, by omega⟩
                · exact ⟨81, by omega, by omega⟩
              subst hy
              have bA : Below w5.heap.size w5 (w5.alloc (.cells #[.int .i64 40, .int .i64 80, .int .i64 81] 3)) := (Below.refl _ _).alloc (Nat.le_refl _) _
              have HX6 : Hid (BoxR6 w6 bx x) := (HX5.out.below bA).keptR g6 hxb
              have HI6 : Hid (Rws w6 w.heap.size (.slice va l.length vc) l) := (HI5.out.below bA).keptR g6 hbw
              have HG6 : Hid (w.grownBy w6 (some b)) := grown_and HG5.out (grownR g6)
              have HC6 : Hid (Cur w6 B b k6) := C6
              have hB6 := C6.lt.2
              clear AM C6 g6 bA hz HX5 HI5 HG5 HC5
              go_wp2_with (at_make; refine wpList_make_full _ rfl _ _ 22 rfl B 5 i0 (.int .u8 0) 1 Tryd.underlying22 hi0 hz0 hz1 .i64 .i64 _ _ y rfl rfl (by omega) (by omega) (by rw [hz2]; omega) (by unfold maxLen; omega) (by omega) ?_; intro w9 hown hgr; have V := conv_made hown; generalize (ByteArray.mk ((List.replicate y (0 : Int)).map fun x => x.toNat.toUInt8).toArray) = u at V; have X9 := HX6.out.keptR hgr (by simp); obtain ⟨x90, x91, x92⟩ := X9.cells; have xf := box_melt X9; have xl := X9.lt)
              have b9 : Below w6.heap.size w6 w9 := grown_noneR hgr
              have HR : Hid (BoxR6 (w9.setCell ⟨bx, 2, none⟩ (.string u)) bx ⟨x.key, x.text, u⟩ ∧ k6 ≤ k5 + 2 ∧ Cur (w9.setCell ⟨bx, 2, none⟩ (.string u)) B b k6 ∧ Rws (w9.setCell ⟨bx, 2, none⟩ (.string u)) w.heap.size (.slice va l.length vc) l ∧ w.grownBy (w9.setCell ⟨bx, 2, none⟩ (.string u)) (some b)) :=
                ⟨box_val X9 u, hk6, (HC6.out.kept hgr (fun i hi => by cases hi)).kept (grown_set6 w9 bx 2 _) (fun i hi => by have := Option.some.inj hi; omega), World.ownsRow.kept (HI6.out.below b9) (grown_set6 w9 bx 2 _) (.inr (fun e => by have := HOB.out bx e; omega)), grown_own (grown_and HG6.out (below_gR b9 (some b))) (grown_set6 w9 bx 2 _) (fun i hi => by have := Option.some.inj hi; omega)⟩
              clear X9 x90 x91 x92 xf xl b9 hown hgr V HX6 HI6 HG6 HC6
              go_wp2_with fail
              go_meet
              case rel => exact ⟨rfl, rfl, rfl, _, k6, HR.out⟩
          case rest =>
            obtain ⟨h3, h4, h5, x', k6, X6, hk6, C6, I6, G6⟩ := hcut
            subst h3
            subst h4
            subst h5
            obtain ⟨w6, rfl⟩ : ∃ w6, w6 = wc := ⟨_, rfl⟩
            obtain ⟨wo, hwo⟩ : ∃ wo, wo = wr := ⟨_, rfl⟩
            rw [← hwo] at hbx hwr HOB
            clear hwo
            clear HX5 HI5 HG5 HC5 x yes
            obtain ⟨P, hP⟩ : ∃ P, P = inP l x'.key := ⟨_, rfl⟩
            have hPl : P ≤ l.length := by rw [hP]; exact inP_le _ _
            have HQ2 : Hid (∀ k y, k < P → l[k]? = some y → ltK y.key x'.key = true) := by rw [hP]; exact inP_lt l x'.key
            have HQ3 : Hid (∀ y, l[P]? = some y → ltK y.key x'.key = false) := by rw [hP]; exact inP_at l x'.key
            have HX6 : Hid (BoxR6 w6 bx x') := X6
            have HI6 : Hid (Rws w6 w.heap.size (.slice va l.length vc) l) := I6
            have HG6 : Hid (w.grownBy w6 (some b)) := G6
            have HC6 : Hid (Cur w6 B b k6) := C6
            have HSL : Hid (∀ u, Below w6.heap.size w6 u → SlV u (.slice va l.length vc) l) := fun u hu => (HI6.out.below hu).slV
            clear X6 I6 G6 C6 hP
            go_wp2_with fail
            go_loopw [6] (fun i wr => ∃ k : Nat, k ≤ P ∧ i = .int .i64 (k : Int) ∧ Below w6.heap.size w6 wr) (fun i _ => l.length - (intOf i).toNat)
            case atStart => exact ⟨0, Nat.zero_le _, rfl, Below.refl _ _⟩
            case round =>
              obtain ⟨q, hq, rfl, hb⟩ := hrel
              have HBr : Hid (Below w6.heap.size w6 wr) := hb
              obtain ⟨x0, x1, x2⟩ := (HX6.out.below hb).cells
              have hxl := (HX6.out.below hb).lt
              obtain ⟨a', c', hv', SL⟩ := HSL.out wr hb
              injection hv' with e1 _ e3
              subst e1
              subst e3
              by_cases hqP : q < P
              · obtain ⟨y, hy⟩ : ∃ y, l[q]? = some y := ⟨_, List.getElem?_eq_getElem (by omega)⟩
                rcases SL with h | ⟨b2, o2, rfl, hE⟩
                · rw [h] at hy; simp at hy
                obtain ⟨e0, _, _⟩ := hE q y hy
                have hbl := rw_cell_lt e0
                have hk8 : (q : Int) < (l.length : Int) := by omega
                have hlk : ltK y.key x'.key = true := HQ2.out q y hqP hy
                unfold ltK at hlk
                clear hE hy hb
                go_wp2
                go_quiet (fail)
                go_wp2
                exact ⟨⟨q + 1, by omega, by go_num, below_drewR HBr.out _⟩, by simp [intOf]; omega⟩
              · obtain rfl : q = P := by omega
                clear hqP hq hb
                by_cases hql : q < l.length
                · obtain ⟨y, hy⟩ : ∃ y, l[q]? = some y := by exact ⟨_, List.getElem?_eq_getElem (by omega)⟩
                  rcases SL with h | ⟨b2, o2, rfl, hE⟩
                  · rw [h] at hy; simp at hy
                  obtain ⟨e0, _, _⟩ := hE q y hy
                  have hbl := rw_cell_lt e0
                  have hk8 : (q : Int) < (l.length : Int) := by omega
                  have hlk : ltK y.key x'.key = false := HQ3.out y hy
                  unfold ltK at hlk
                  clear hE hy
                  go_wp2
                  go_quiet (fail)
                  go_upto_region 13 with fail
                  clear hlk
                  go_cut [3, 4, 5, 6, 68] from 13 to 82 (fun v3 v4 v5 v6 v68 wx => v3 = .slice (some ⟨b2, o2, none⟩) l.length vc ∧ v4 = .int .i64 (j : Int) ∧ v5 = .pointer (some ⟨bx, 0, none⟩) ∧ v6 = .int .i64 (q : Int) ∧ ∃ (c : Bool) (k8 : Nat), v68 = .bool c ∧ BoxR6 wx bx x' ∧ k8 ≤ k6 + 2 ∧ Cur wx B b k8 ∧ Rws wx w.heap.size (.slice (some ⟨b2, o2, none⟩) l.length vc) l ∧ w.grownBy wx (some b))
                  case first =>
                    have HR : Hid (∀ u, Below w6.heap.size w6 u → BoxR6 u bx x' ∧ Cur u B b k6 ∧ Rws u w.heap.size (.slice (some ⟨b2, o2, none⟩) l.length vc) l ∧ w.grownBy u (some b)) := fun u hu => ⟨HX6.out.below hu, HC6.out.kept (below_gR hu none) (fun i hi => by cases hi), HI6.out.below hu, grown_and HG6.out (below_gR hu (some b))⟩
                    by_cases hyk : y.key = x'.key
                    · rw [hyk] at e0
                      clear hyk
                      have hS : wr.cell? ⟨b2, o2 + q * 3, none⟩ = some (.string x'.key) ∧ wr.cell? ⟨bx, 0, none⟩ = some (.string x'.key) := ⟨e0, x0⟩
                      have HCr : Hid (Cur wr B b k6) := (HR.out wr HBr.out).2.1
                      have HX7 : Hid (∀ u, wr.grownBy u (some b) → u.cell? ⟨b2, o2 + q * 3, none⟩ = some (.string x'.key) ∧ u.cell? ⟨bx, 0, none⟩ = some (.string x'.key) ∧ BoxR6 u bx x' ∧ Rws u w.heap.size (.slice (some ⟨b2, o2, none⟩) l.length vc) l ∧ w.grownBy u (some b)) := fun u hu => by
                        have HRr := HR.out wr HBr.out
                        have hob := World.ownsRow.lt HRr.2.2.1 b2 rfl
                        refine ⟨?_, ?_, HRr.1.keptR hu hxb, HRr.2.2.1.keptR hu hbw, grown_and HRr.2.2.2 hu⟩
                        · rw [World.cell?_of_block (w := wr) (hu.block b2 hbl (fun e => by have := Option.some.inj e; omega))]; exact hS.1
                        · rw [World.cell?_of_block (w := wr) (hu.block bx hxl hxb)]; exact hS.2
                      clear x0 x1 x2 e0
                      go_region_held_law (fun u => u.cell? ⟨b2, o2 + q * 3, none⟩ = some (.string x'.key) ∧ u.cell? ⟨bx, 0, none⟩ = some (.string x'.key)) (first | exact S7 | exact hS) (first | (go_simp; go_at_call 40; refine (HON.out _ k6 30 (by exact HCr.out) (by omega) (by omega) (by omega)).mono ?_; rintro e w7 ⟨yes, rfl, ⟨⟨k7, hk7, C7⟩, q7⟩⟩; have g7 : wr.grownBy w7 (some b) := ⟨q7.os, q7.tape, q7.output, q7.size, q7.block⟩; have S7 : w7.cell? ⟨b2, o2 + q * 3, none⟩ = some (.string x'.key) ∧ w7.cell? ⟨bx, 0, none⟩ = some (.string x'.key) := ⟨(HX7.out w7 g7).1, (HX7.out w7 g7).2.1⟩))
                      all_goals
                        have HR7 : Hid (BoxR6 w7 bx x' ∧ k7 ≤ k6 + 2 ∧ Cur w7 B b k7 ∧ Rws w7 w.heap.size (.slice (some ⟨b2, o2, none⟩) l.length vc) l ∧ w.grownBy w7 (some b)) := ⟨(HX7.out w7 g7).2.2.1, hk7, C7, (HX7.out w7 g7).2.2.2⟩
                        clear C7 g7 q7 S7
                        go_wp2_with fail
                        go_meet
                        case rel => exact ⟨rfl, rfl, rfl, rfl, _, k7, rfl, HR7.out⟩
                    · have hkF := list_neR hyk
                      clear hyk
                      go_quiet (fail)
                      go_wp2
                      go_meet
                      case rel => exact ⟨rfl, rfl, rfl, rfl, false, k6, rfl, (HR.out _ (below_drewR (below_drewR HBr.out _) _)).1, by omega, (HR.out _ (below_drewR (below_drewR HBr.out _) _)).2⟩
                  case rest =>
                    obtain ⟨h3, h4, h5, h6, c, k8, h68, X8, hk8, C8, I8, G8⟩ := hcut
                    subst h3
                    subst h4
                    subst h5
                    subst h6
                    subst h68
                    obtain ⟨w8, rfl⟩ : ∃ w8, w8 = wc := ⟨_, rfl⟩
                    have HX8 : Hid (BoxR6 w8 bx x') := X8
                    have HI8 : Hid (Rws w8 w.heap.size (.slice (some ⟨b2, o2, none⟩) l.length vc) l) := I8
                    have HG8 : Hid (w.grownBy w8 (some b)) := G8
                    have HC8 : Hid (Cur w8 B b k8) := C8
                    have hw8 := G8.size
                    clear X8 I8 G8 C8 HX6 HI6 HG6 HC6 HSL HBr HQ2 HQ3
                    cases c
                    · have hcp := rwsR_cap HI8.out
                      have hqc : (q : Int) ≤ (vc : Int) := by omega
                      have hql8 : (q : Int) ≤ (l.length : Int) := by omega
                      have HTP : Hid ((l.take q).length = q) := by show _ = _; rw [List.length_take]; omega
                      have HDL : Hid ((l.drop q).length = l.length - q) := List.length_drop
                      have HS8 : Hid (SlV w8 (.slice (some ⟨b2, o2, none⟩) q vc) (l.take q)) := ⟨_, _, by rw [HTP.out], (rws_sl HI8.out).take q⟩
                      go_wp2_with (at_builtin; refine append_rws rfl _ _ rfl w8.heap.size (.slice none 0 0) (.slice (some ⟨b2, o2, none⟩) q vc) [] (l.take q) rfl rfl (World.ownsRow_nil _ _ _ _) HS8.out (by rw [HTP.out]; simp; omega) (Nat.le_refl _) ?_)
                      intro v9 w9 i9 g9
                      have q9 : Below w8.heap.size w8 w9 := grown_noneR ⟨g9.os, g9.tape, g9.output, g9.size, fun j hj _ => g9.block j hj (by simp [Value.ownBlock])⟩
                      have HQ9 : Hid (Below w8.heap.size w8 w9) := q9
                      obtain ⟨z0, z1, z2⟩ := (HX8.out.below q9).cells
                      have hzl := (HX8.out.below q9).lt
                      have hw9 := q9.size
                      have bA : Below w9.heap.size w9 (w9.alloc (.cells #[.string x'.key, .string x'.text, .string x'.val] 32)) := (Below.refl _ _).alloc (Nat.le_refl _) _
                      have HI9 : Hid (Rws (w9.alloc (.cells #[.string x'.key, .string x'.text, .string x'.val] 32)) w8.heap.size v9 (l.take q)) := i9.below bA
                      have HX9 : Hid (SlV (w9.alloc (.cells #[.string x'.key, .string x'.text, .string x'.val] 32)) (.slice (some ⟨w9.heap.size, 0, none⟩) 1 1) [x']) := (rws_lit1 w9 _ w9.heap.size x' rfl (Nat.le_refl _)).slV
                      have HBA : Hid (Below w8.heap.size w8 (w9.alloc (.cells #[.string x'.key, .string x'.text, .string x'.val] 32))) := q9.trans (bA.mono q9.size)
                      have HIL : Hid (∀ j, v9.ownBlock = some j → w8.heap.size ≤ j) := fun j hj => (World.ownsRow.lt i9 j hj).1
                      clear g9 i9 q9 bA HS8
                      go_wp2_with (at_builtin; refine append_rws rfl _ _ rfl w8.heap.size v9 (.slice (some ⟨w9.heap.size, 0, none⟩) 1 1) (l.take q) [x'] rfl rfl HI9.out HX9.out (by rw [HTP.out]; simp; omega) HBA.out.size ?_)
                      intro v10 w10 i10 g10
                      have q10 : Below w8.heap.size w8 w10 := Below.grown HBA.out g10 HBA.out.size HIL.out
                      have HI10 : Hid (Rws w10 w8.heap.size v10 (l.take q ++ [x'])) := i10
                      have HQ10 : Hid (Below w8.heap.size w8 w10) := q10
                      have HL10 : Hid (Rws w10 w.heap.size (.slice (some ⟨b2, o2, none⟩) l.length vc) l) := HI8.out.below q10
                      have hw10 := q10.size
                      clear i10 g10 q10 HI9 HX9 HBA HIL z0 z1 z2 hzl HQ9
                      by_cases hcd : vc = q
                      · have hl0 : l.length - q = 0 := by omega
                        have hc0 : (vc == q) = true := by simpa using hcd
                        have hcq : vc - q = 0 := by omega
                        have HD : Hid (SlV w10 (.slice (some ⟨b2, o2, none⟩) 0 0) (l.drop q)) := ⟨_, _, by rw [HDL.out, hl0], .inl (List.drop_eq_nil_of_le (by omega))⟩
                        have hvq : (vc : Int) - (q : Int) = 0 := by omega
                        have hlq : (l.length : Int) - (q : Int) = 0 := by omega
                        go_wp2_with (at_builtin; refine append_rws rfl _ _ rfl w8.heap.size v10 (.slice (some ⟨b2, o2, none⟩) 0 0) (l.take q ++ [x']) (l.drop q) rfl (by kernel_rfl) HI10.out HD.out (by rw [List.length_append, HTP.out, HDL.out]; simp; omega) hw10 ?_)
                        intro v11 w11 i11 g11
                        have q11 : Below w8.heap.size w8 w11 := Below.grown HQ10.out g11 hw10 (fun j hj => (World.ownsRow.lt HI10.out j hj).1)
                        have HR : Hid (RdRel w B b (k + 604) v11 (.int .i64 ((j - 1 : Nat) : Int)) w11) := ⟨j - 1, k8, l.take q ++ [x'] ++ l.drop q, rfl, rws_low6 (by simpa using i11) hw8, by rw [List.length_append, List.length_append, HTP.out, HDL.out]; simp; omega, by omega, HC8.out.kept (below_gR q11 none) (fun i hi => by cases hi), grown_and HG8.out (below_gR q11 (some b))⟩
                        clear i11 g11 q11
                        go_wp2
                        exact ⟨by have e : (j : Int) - 1 = ((j - 1 : Nat) : Int) := by omega
                                  (first | (rw [e]; exact HR.out) | exact HR.out), by simp [intOf]; omega⟩
                      · have hcd2 : (vc == q) = false := by simpa using hcd
                        have HD : Hid (SlV w10 (.slice (some ⟨b2, o2 + q * 3, none⟩) (l.length - q) (vc - q)) (l.drop q)) := ⟨_, _, by rw [HDL.out], by have h9 := (rws_sl HL10.out).drop q; (first | exact h9 | (rw [Nat.zero_add] at h9; exact h9))⟩
                        go_wp2_with (at_builtin; refine append_rws rfl _ _ rfl w8.heap.size v10 (.slice (some ⟨b2, o2 + q * 3, none⟩) (l.length - q) (vc - q)) (l.take q ++ [x']) (l.drop q) rfl rfl HI10.out HD.out (by rw [List.length_append, HTP.out, HDL.out]; simp; omega) hw10 ?_)
                        intro v11 w11 i11 g11
                        have q11 : Below w8.heap.size w8 w11 := Below.grown HQ10.out g11 hw10 (fun j hj => (World.ownsRow.lt HI10.out j hj).1)
                        have HR : Hid (RdRel w B b (k + 604) v11 (.int .i64 ((j - 1 : Nat) : Int)) w11) := ⟨j - 1, k8, l.take q ++ [x'] ++ l.drop q, rfl, rws_low6 (by simpa using i11) hw8, by rw [List.length_append, List.length_append, HTP.out, HDL.out]; simp; omega, by omega, HC8.out.kept (below_gR q11 none) (fun i hi => by cases hi), grown_and HG8.out (below_gR q11 (some b))⟩
                        clear i11 g11 q11
                        go_wp2
                        exact ⟨by have e : (j : Int) - 1 = ((j - 1 : Nat) : Int) := by omega
                                  (first | (rw [e]; exact HR.out) | exact HR.out), by simp [intOf]; omega⟩
                    · have HR : Hid (RdRel w B b (k + 604) (.slice (some ⟨b2, o2, none⟩) l.length vc) (.int .i64 ((j - 1 : Nat) : Int)) w8) := ⟨j - 1, k8, l, rfl, HI8.out, by omega, by omega, HC8.out, HG8.out⟩
                      go_wp2
                      exact ⟨by have e : (j : Int) - 1 = ((j - 1 : Nat) : Int) := by omega
                                (first | (rw [e]; exact HR.out) | exact HR.out), by simp [intOf]; omega⟩
                · go_wp2
                  have d1 : decide ((q : Int) < (l.length : Int)) = false := decide_eq_false (by omega)
                  go_quiet (fail)
                  go_upto_region 13 with fail
                  go_cut [3, 4, 5, 6, 68] from 13 to 82 (fun v3 v4 v5 v6 v68 wx => v3 = .slice va l.length vc ∧ v4 = .int .i64 (j : Int) ∧ v5 = .pointer (some ⟨bx, 0, none⟩) ∧ v6 = .int .i64 (q : Int) ∧ ∃ (c : Bool) (k8 : Nat), v68 = .bool c ∧ BoxR6 wx bx x' ∧ k8 ≤ k6 + 2 ∧ Cur wx B b k8 ∧ Rws wx w.heap.size (.slice va l.length vc) l ∧ w.grownBy wx (some b))
                  case first =>
                    have HR : Hid (∀ u, Below w6.heap.size w6 u → BoxR6 u bx x' ∧ Cur u B b k6 ∧ Rws u w.heap.size (.slice va l.length vc) l ∧ w.grownBy u (some b)) := fun u hu => ⟨HX6.out.below hu, HC6.out.kept (below_gR hu none) (fun i hi => by cases hi), HI6.out.below hu, grown_and HG6.out (below_gR hu (some b))⟩
                    go_quiet (fail)
                    go_wp2
                    go_meet
                    case rel => exact ⟨rfl, rfl, rfl, rfl, false, k6, rfl, (HR.out _ (below_drewR (below_drewR HBr.out _) _)).1, by omega, (HR.out _ (below_drewR (below_drewR HBr.out _) _)).2⟩
                  case rest =>
                    obtain ⟨h3, h4, h5, h6, c, k8, h68, X8, hk8, C8, I8, G8⟩ := hcut
                    subst h3
                    subst h4
                    subst h5
                    subst h6
                    subst h68
                    obtain ⟨w8, rfl⟩ : ∃ w8, w8 = wc := ⟨_, rfl⟩
                    have HX8 : Hid (BoxR6 w8 bx x') := X8
                    have HI8 : Hid (Rws w8 w.heap.size (.slice va l.length vc) l) := I8
                    have HG8 : Hid (w.grownBy w8 (some b)) := G8
                    have HC8 : Hid (Cur w8 B b k8) := C8
                    have hw8 := G8.size
                    clear X8 I8 G8 C8 HX6 HI6 HG6 HC6 HSL HBr HQ2 HQ3
                    rcases HI8.out.form with ⟨hv8, hl8⟩ | ⟨g8, cap8, hv8', _⟩
                    · injection hv8 with e1 e2 e3
                      subst e1
                      subst e3
                      subst hl8
                      obtain rfl : q = 0 := by simpa using hPl
                      cases c
                      · go_wp2_with (at_builtin; refine append_rws rfl _ _ rfl w8.heap.size (.slice none 0 0) (.slice none 0 0) [] [] rfl rfl (World.ownsRow_nil _ _ _ _) ⟨none, 0, rfl, .inl rfl⟩ (by simp) (Nat.le_refl _) ?_)
                        intro v9 w9 i9 g9
                        have q9 : Below w8.heap.size w8 w9 := grown_noneR ⟨g9.os, g9.tape, g9.output, g9.size, fun j hj _ => g9.block j hj (by simp [Value.ownBlock])⟩
                        obtain ⟨z0, z1, z2⟩ := (HX8.out.below q9).cells
                        have hzl := (HX8.out.below q9).lt
                        have bA : Below w9.heap.size w9 (w9.alloc (.cells #[.string x'.key, .string x'.text, .string x'.val] 32)) := (Below.refl _ _).alloc (Nat.le_refl _) _
                        have HI9 : Hid (Rws (w9.alloc (.cells #[.string x'.key, .string x'.text, .string x'.val] 32)) w8.heap.size v9 []) := i9.below bA
                        have HX9 : Hid (SlV (w9.alloc (.cells #[.string x'.key, .string x'.text, .string x'.val] 32)) (.slice (some ⟨w9.heap.size, 0, none⟩) 1 1) [x']) := (rws_lit1 w9 _ w9.heap.size x' rfl (Nat.le_refl _)).slV
                        have HBA : Hid (Below w8.heap.size w8 (w9.alloc (.cells #[.string x'.key, .string x'.text, .string x'.val] 32))) := q9.trans (bA.mono q9.size)
                        have HIL : Hid (∀ j, v9.ownBlock = some j → w8.heap.size ≤ j) := fun j hj => (World.ownsRow.lt i9 j hj).1
                        clear g9 i9 q9 bA
                        go_wp2_with (at_builtin; refine append_rws rfl _ _ rfl w8.heap.size v9 (.slice (some ⟨w9.heap.size, 0, none⟩) 1 1) [] [x'] rfl rfl HI9.out HX9.out (by simp) HBA.out.size ?_)
                        intro v10 w10 i10 g10
                        have q10 : Below w8.heap.size w8 w10 := Below.grown HBA.out g10 HBA.out.size HIL.out
                        have HI10 : Hid (Rws w10 w8.heap.size v10 [x']) := i10
                        have HQ10 : Hid (Below w8.heap.size w8 w10) := q10
                        have hw10 := q10.size
                        clear i10 g10 q10 HI9 HX9 HBA HIL z0 z1 z2 hzl
                        go_wp2_with (at_builtin; refine append_rws rfl _ _ rfl w8.heap.size v10 (.slice none 0 0) [x'] [] rfl rfl HI10.out ⟨none, 0, rfl, .inl rfl⟩ (by simp) hw10 ?_)
                        intro v11 w11 i11 g11
                        have q11 : Below w8.heap.size w8 w11 := Below.grown HQ10.out g11 hw10 (fun j hj => (World.ownsRow.lt HI10.out j hj).1)
                        have HR : Hid (RdRel w B b (k + 604) v11 (.int .i64 ((j - 1 : Nat) : Int)) w11) := ⟨j - 1, k8, [x'] ++ [], rfl, rws_low6 i11 hw8, by simp; omega, by omega, HC8.out.kept (below_gR q11 none) (fun i hi => by cases hi), grown_and HG8.out (below_gR q11 (some b))⟩
                        clear i11 g11 q11
                        go_wp2
                        exact ⟨by have e : (j : Int) - 1 = ((j - 1 : Nat) : Int) := by omega
                                  (first | (rw [e]; exact HR.out) | exact HR.out), by simp [intOf]; omega⟩
                      · have HR : Hid (RdRel w B b (k + 604) (.slice none 0 0) (.int .i64 ((j - 1 : Nat) : Int)) w8) := ⟨j - 1, k8, [], rfl, HI8.out, by simp; omega, by omega, HC8.out, HG8.out⟩
                        go_wp2
                        exact ⟨by have e : (j : Int) - 1 = ((j - 1 : Nat) : Int) := by omega
                                  (first | (rw [e]; exact HR.out) | exact HR.out), by simp [intOf]; omega⟩
                    · have hv8 : va = some ⟨g8, 0, none⟩ := by injection hv8'
                      clear hv8'
                      subst hv8
                      cases c
                      · have hcp := rwsR_cap HI8.out
                        have hqc : (q : Int) ≤ (vc : Int) := by omega
                        have hql8 : (q : Int) ≤ (l.length : Int) := by omega
                        have HTP : Hid ((l.take q).length = q) := by show _ = _; rw [List.length_take]; omega
                        have HDL : Hid ((l.drop q).length = l.length - q) := List.length_drop
                        have HS8 : Hid (SlV w8 (.slice (some ⟨g8, 0, none⟩) q vc) (l.take q)) := ⟨_, _, by rw [HTP.out], (rws_sl HI8.out).take q⟩
                        go_wp2_with (at_builtin; refine append_rws rfl _ _ rfl w8.heap.size (.slice none 0 0) (.slice (some ⟨g8, 0, none⟩) q vc) [] (l.take q) rfl rfl (World.ownsRow_nil _ _ _ _) HS8.out (by rw [HTP.out]; simp; omega) (Nat.le_refl _) ?_)
                        intro v9 w9 i9 g9
                        have q9 : Below w8.heap.size w8 w9 := grown_noneR ⟨g9.os, g9.tape, g9.output, g9.size, fun j hj _ => g9.block j hj (by simp [Value.ownBlock])⟩
                        have HQ9 : Hid (Below w8.heap.size w8 w9) := q9
                        obtain ⟨z0, z1, z2⟩ := (HX8.out.below q9).cells
                        have hzl := (HX8.out.below q9).lt
                        have hw9 := q9.size
                        have bA : Below w9.heap.size w9 (w9.alloc (.cells #[.string x'.key, .string x'.text, .string x'.val] 32)) := (Below.refl _ _).alloc (Nat.le_refl _) _
                        have HI9 : Hid (Rws (w9.alloc (.cells #[.string x'.key, .string x'.text, .string x'.val] 32)) w8.heap.size v9 (l.take q)) := i9.below bA
                        have HX9 : Hid (SlV (w9.alloc (.cells #[.string x'.key, .string x'.text, .string x'.val] 32)) (.slice (some ⟨w9.heap.size, 0, none⟩) 1 1) [x']) := (rws_lit1 w9 _ w9.heap.size x' rfl (Nat.le_refl _)).slV
                        have HBA : Hid (Below w8.heap.size w8 (w9.alloc (.cells #[.string x'.key, .string x'.text, .string x'.val] 32))) := q9.trans (bA.mono q9.size)
                        have HIL : Hid (∀ j, v9.ownBlock = some j → w8.heap.size ≤ j) := fun j hj => (World.ownsRow.lt i9 j hj).1
                        clear g9 i9 q9 bA HS8
                        go_wp2_with (at_builtin; refine append_rws rfl _ _ rfl w8.heap.size v9 (.slice (some ⟨w9.heap.size, 0, none⟩) 1 1) (l.take q) [x'] rfl rfl HI9.out HX9.out (by rw [HTP.out]; simp; omega) HBA.out.size ?_)
                        intro v10 w10 i10 g10
                        have q10 : Below w8.heap.size w8 w10 := Below.grown HBA.out g10 HBA.out.size HIL.out
                        have HI10 : Hid (Rws w10 w8.heap.size v10 (l.take q ++ [x'])) := i10
                        have HQ10 : Hid (Below w8.heap.size w8 w10) := q10
                        have HL10 : Hid (Rws w10 w.heap.size (.slice (some ⟨g8, 0, none⟩) l.length vc) l) := HI8.out.below q10
                        have hw10 := q10.size
                        clear i10 g10 q10 HI9 HX9 HBA HIL z0 z1 z2 hzl HQ9
                        by_cases hcd : vc = q
                        · have hl0 : l.length - q = 0 := by omega
                          have hc0 : (vc == q) = true := by simpa using hcd
                          have hcq : vc - q = 0 := by omega
                          have HD : Hid (SlV w10 (.slice (some ⟨g8, 0, none⟩) 0 0) (l.drop q)) := ⟨_, _, by rw [HDL.out, hl0], .inl (List.drop_eq_nil_of_le (by omega))⟩
                          have hvq : (vc : Int) - (q : Int) = 0 := by omega
                          have hlq : (l.length : Int) - (q : Int) = 0 := by omega
                          go_wp2_with (at_builtin; refine append_rws rfl _ _ rfl w8.heap.size v10 (.slice (some ⟨g8, 0, none⟩) 0 0) (l.take q ++ [x']) (l.drop q) rfl (by kernel_rfl) HI10.out HD.out (by rw [List.length_append, HTP.out, HDL.out]; simp; omega) hw10 ?_)
                          intro v11 w11 i11 g11
                          have q11 : Below w8.heap.size w8 w11 := Below.grown HQ10.out g11 hw10 (fun j hj => (World.ownsRow.lt HI10.out j hj).1)
                          have HR : Hid (RdRel w B b (k + 604) v11 (.int .i64 ((j - 1 : Nat) : Int)) w11) := ⟨j - 1, k8, l.take q ++ [x'] ++ l.drop q, rfl, rws_low6 (by simpa using i11) hw8, by rw [List.length_append, List.length_append, HTP.out, HDL.out]; simp; omega, by omega, HC8.out.kept (below_gR q11 none) (fun i hi => by cases hi), grown_and HG8.out (below_gR q11 (some b))⟩
                          clear i11 g11 q11
                          go_wp2
                          exact ⟨by have e : (j : Int) - 1 = ((j - 1 : Nat) : Int) := by omega
                                    (first | (rw [e]; exact HR.out) | exact HR.out), by simp [intOf]; omega⟩
                        · have hcd2 : (vc == q) = false := by simpa using hcd
                          have HD : Hid (SlV w10 (.slice (some ⟨g8, q * 3, none⟩) (l.length - q) (vc - q)) (l.drop q)) := ⟨_, _, by rw [HDL.out], by have h9 := (rws_sl HL10.out).drop q; (first | exact h9 | (rw [Nat.zero_add] at h9; exact h9))⟩
                          go_wp2_with (at_builtin; refine append_rws rfl _ _ rfl w8.heap.size v10 (.slice (some ⟨g8, q * 3, none⟩) (l.length - q) (vc - q)) (l.take q ++ [x']) (l.drop q) rfl rfl HI10.out HD.out (by rw [List.length_append, HTP.out, HDL.out]; simp; omega) hw10 ?_)
                          intro v11 w11 i11 g11
                          have q11 : Below w8.heap.size w8 w11 := Below.grown HQ10.out g11 hw10 (fun j hj => (World.ownsRow.lt HI10.out j hj).1)
                          have HR : Hid (RdRel w B b (k + 604) v11 (.int .i64 ((j - 1 : Nat) : Int)) w11) := ⟨j - 1, k8, l.take q ++ [x'] ++ l.drop q, rfl, rws_low6 (by simpa using i11) hw8, by rw [List.length_append, List.length_append, HTP.out, HDL.out]; simp; omega, by omega, HC8.out.kept (below_gR q11 none) (fun i hi => by cases hi), grown_and HG8.out (below_gR q11 (some b))⟩
                          clear i11 g11 q11
                          go_wp2
                          exact ⟨by have e : (j : Int) - 1 = ((j - 1 : Nat) : Int) := by omega
                                    (first | (rw [e]; exact HR.out) | exact HR.out), by simp [intOf]; omega⟩
                      · have HR : Hid (RdRel w B b (k + 604) (.slice (some ⟨g8, 0, none⟩) l.length vc) (.int .i64 ((j - 1 : Nat) : Int)) w8) := ⟨j - 1, k8, l, rfl, HI8.out, by omega, by omega, HC8.out, HG8.out⟩
                        go_wp2
                        exact ⟨by have e : (j : Int) - 1 = ((j - 1 : Nat) : Int) := by omega
                                  (first | (rw [e]; exact HR.out) | exact HR.out), by simp [intOf]; omega⟩
      · obtain rfl : j = 0 := by omega
        clear hj0 HOB
        have PK := HPK.out wr k3 40 HC.out (by omega) (by omega) (by omega)
        go_wp2_with fail
        refine PK.mono ?_
        rintro e w4 ⟨q, rfl, hq0, hq1, ⟨⟨k4, hk4, C4⟩, g4⟩⟩
        have HI4 : Hid (Rws w4 w.heap.size (.slice va l.length vc) l) := HI.out.keptR g4 hbw
        have HG4 : Hid (w.grownBy w4 (some b)) := grown_and HG.out g4
        have HC4 : Hid (Cur w4 B b k4) := C4
        have hw4 := HG4.out.size
        clear PK C4 g4 HI HG HC hwr
        by_cases q0 : q = 0
        · subst q0
          have P2 := HPK.out w4 k4 2 HC4.out (by omega) (by omega) (by omega)
          go_wp2_with fail
          refine P2.mono ?_
          rintro e w5 ⟨r, rfl, hr0, hr1, ⟨⟨k5, hk5, C5⟩, g5⟩⟩
          obtain ⟨y, rfl⟩ := Int.eq_ofNat_of_zero_le hr0
          have HI5 : Hid (Rws w5 w.heap.size (.slice va l.length vc) l) := HI4.out.keptR g5 hbw
          have HG5 : Hid (w.grownBy w5 (some b)) := grown_and HG4.out g5
          have HC5 : Hid (Cur w5 B b k5) := C5
          have hB5 := C5.lt.2
          clear P2 C5 g5 HI4 HG4 HC4 hw4
          go_wp2_with (first
            | (at_make; refine wpList_make_full _ rfl _ _ 22 rfl B 5 i0 (.int .u8 0) 1 Tryd.underlying22 hi0 hz0 hz1 .i64 .i64 _ _ (200 + y) rfl rfl (by omega) (by omega) (by rw [hz2]; omega) (by unfold maxLen; omega) (by omega) ?_; intro w9 hown hgr; have V := conv_made hown; generalize (ByteArray.mk ((List.replicate (200 + y) (0 : Int)).map fun x => x.toNat.toUInt8).toArray) = u at V; have b9 : Below w5.heap.size w5 w9 := grown_noneR hgr; have bA : Below w9.heap.size w9 (w9.alloc (.cells #[.string u, .string ⟨#[]⟩, .string ⟨#[]⟩] 32)) := (Below.refl _ _).alloc (Nat.le_refl _) _; have HI9 : Hid (Rws (w9.alloc (.cells #[.string u, .string ⟨#[]⟩, .string ⟨#[]⟩] 32)) w.heap.size (.slice va l.length vc) l) := HI5.out.below (b9.trans (bA.mono b9.size)); have HX9 : Hid (SlV (w9.alloc (.cells #[.string u, .string ⟨#[]⟩, .string ⟨#[]⟩] 32)) (.slice (some ⟨w9.heap.size, 0, none⟩) 1 1) [⟨u, ⟨#[]⟩, ⟨#[]⟩⟩]) := (rws_lit1 w9 _ w9.heap.size ⟨u, ⟨#[]⟩, ⟨#[]⟩⟩ rfl (Nat.le_refl _)).slV; have HB9 : Hid (Below w5.heap.size w5 (w9.alloc (.cells #[.string u, .string ⟨#[]⟩, .string ⟨#[]⟩] 32))) := b9.trans (bA.mono b9.size); have hs9 := Nat.le_trans HG5.out.size HB9.out.size; clear b9 bA hown hgr)
            | (at_builtin; refine append_rws rfl _ _ rfl w.heap.size (.slice va l.length vc) (.slice (some ⟨w9.heap.size, 0, none⟩) 1 1) l [⟨u, ⟨#[]⟩, ⟨#[]⟩⟩] rfl rfl HI9.out HX9.out (by simp; omega) hs9 ?_; intro v10 w10 i10 g10))
          have hob : ∀ i, (Value.slice va l.length vc).ownBlock = some i → w.heap.size ≤ i := fun i hi => (World.ownsRow.lt HI9.out i hi).1
          have HG10 : Hid (w.grownBy w10 (some b)) := grown_own (grown_and HG5.out (below_gR HB9.out (some b))) g10 hob
          have HC10 : Hid (Cur w10 B b k5) := (HC5.out.kept (below_gR HB9.out none) (fun i hi => by cases hi)).kept g10 (fun i hi => by have := hob i hi; omega)
          have HI10 : Hid (Rws w10 w.heap.size v10 (l ++ [⟨u, ⟨#[]⟩, ⟨#[]⟩⟩])) := i10
          clear i10 g10 hob HI9 HX9 HB9
          go_ret
          exact ⟨_, _, rfl, HI10.out, by simp; omega, ⟨k5, by omega, HC10.out⟩, HG10.out⟩
        · by_cases q1 : q = 1
          · subst q1
            clear HI4 hlj
            go_wp2_with fail
            go_loopw [3, 8] (fun v i wr => RkRel w B b k4 v i wr) (fun _ i _ => 61 - (intOf i).toNat)
            case atStart => exact ⟨0, k4, rfl, by omega, by omega, ⟨[], rfl, World.ownsRow_nil _ _ _ _⟩, HC4.out, HG4.out⟩
            case round =>
              clear HC4 HG4 hw4
              obtain ⟨p, k5, rfl, hp, hk5, ⟨m, hm, hI5⟩, hC5, hg5⟩ := hrel
              have P2 := HPK.out wr k5 2 hC5 (by omega) (by omega) (by omega)
              have HI5 : Hid (Rws wr w.heap.size _ m) := hI5
              have HG5 : Hid (w.grownBy wr (some b)) := hg5
              have HM : Hid (m.length = p) := hm
              clear hI5 hC5 hg5 hm
              go_wp2_with fail
              refine P2.mono ?_
              rintro e w6 ⟨r, rfl, hr0, hr1, ⟨⟨k6, hk6, C6⟩, g6⟩⟩
              obtain ⟨y, rfl⟩ := Int.eq_ofNat_of_zero_le hr0
              have HI6 : Hid (Rws w6 w.heap.size _ m) := HI5.out.keptR g6 hbw
              have HG6 : Hid (w.grownBy w6 (some b)) := grown_and HG5.out g6
              have HC6 : Hid (Cur w6 B b k6) := C6
              clear P2 C6 g6 HI5 HG5
              by_cases hpy : p < 60 + y
              · have hp8 : (p : Int) < 60 + (y : Int) := by omega
                have hB6 := HC6.out.lt.2
                have V := conv_row (byz_lit2 w6 B (97 + (p : Int) / 10) (48 + (p : Int) % 10) hB6)
                generalize (ByteArray.mk (([97 + (p : Int) / 10, 48 + (p : Int) % 10] : List Int).map fun x => x.toNat.toUInt8).toArray) = u at V
                have b9 : Below w6.heap.size w6 (w6.alloc (.cells #[.int .u8 (97 + (p : Int) / 10), .int .u8 (48 + (p : Int) % 10)] 5)) := (Below.refl _ _).alloc (Nat.le_refl _) _
                have bA : Below w6.heap.size w6 ((w6.alloc (.cells #[.int .u8 (97 + (p : Int) / 10), .int .u8 (48 + (p : Int) % 10)] 5)).alloc (.cells #[.string u, .string ⟨#[]⟩, .string ⟨#[]⟩] 32)) := b9.alloc b9.size _
                have HI9 : Hid (Rws ((w6.alloc (.cells #[.int .u8 (97 + (p : Int) / 10), .int .u8 (48 + (p : Int) % 10)] 5)).alloc (.cells #[.string u, .string ⟨#[]⟩, .string ⟨#[]⟩] 32)) w.heap.size _ m) := HI6.out.below bA
                have HX9 : Hid (SlV ((w6.alloc (.cells #[.int .u8 (97 + (p : Int) / 10), .int .u8 (48 + (p : Int) % 10)] 5)).alloc (.cells #[.string u, .string ⟨#[]⟩, .string ⟨#[]⟩] 32)) (.slice (some ⟨w6.heap.size + 1, 0, none⟩) 1 1) [⟨u, ⟨#[]⟩, ⟨#[]⟩⟩]) := (rws_lit1 (w6.alloc (.cells #[.int .u8 (97 + (p : Int) / 10), .int .u8 (48 + (p : Int) % 10)] 5)) _ w6.heap.size ⟨u, ⟨#[]⟩, ⟨#[]⟩⟩ (by simp) (by simp)).slV
                have HB9 : Hid (Below w6.heap.size w6 ((w6.alloc (.cells #[.int .u8 (97 + (p : Int) / 10), .int .u8 (48 + (p : Int) % 10)] 5)).alloc (.cells #[.string u, .string ⟨#[]⟩, .string ⟨#[]⟩] 32))) := bA
                have hs9 := Nat.le_trans HG6.out.size bA.size
                clear b9 bA
                go_wp2_with (at_builtin; refine append_rws rfl _ _ rfl w.heap.size _ (.slice (some ⟨w6.heap.size + 1, 0, none⟩) 1 1) m [⟨u, ⟨#[]⟩, ⟨#[]⟩⟩] rfl rfl HI9.out HX9.out (by rw [HM.out]; simp; omega) hs9 ?_)
                intro v10 w10 i10 g10
                have hob := fun i hi => (World.ownsRow.lt HI9.out i hi).1
                have HG10 : Hid (w.grownBy w10 (some b)) := grown_own (grown_and HG6.out (below_gR HB9.out (some b))) g10 hob
                have HC10 : Hid (Cur w10 B b k6) := (HC6.out.kept (below_gR HB9.out none) (fun i hi => by cases hi)).kept g10 (fun i hi => by have := hob i hi; omega)
                have HI10 : Hid (Rws w10 w.heap.size v10 (m ++ [⟨u, ⟨#[]⟩, ⟨#[]⟩⟩])) := i10
                clear i10 g10 hob HI9 HX9 HB9 V
                go_wp2
                exact ⟨⟨p + 1, k6, by go_num, by omega, by omega, ⟨_, by simp [HM.out], HI10.out⟩, HC10.out, HG10.out⟩, by simp [intOf]; omega⟩
              · have hp8 : ¬ (p : Int) < 60 + (y : Int) := by omega
                go_wp2
                go_ret
                exact ⟨_, m, rfl, HI6.out, by rw [HM.out]; omega, ⟨k6, by omega, HC6.out⟩, HG6.out⟩
          · go_wp2
            go_ret
            exact ⟨_, l, rfl, HI4.out, by omega, ⟨k4, by omega, HC4.out⟩, HG4.out⟩
end Go.Proofs.YtbgomhgohphglaaDoor
