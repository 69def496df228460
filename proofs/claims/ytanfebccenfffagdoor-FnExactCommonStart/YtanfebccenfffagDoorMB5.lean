/- Texts of mine laid together: OkE, IElems2, IKey, IFirsts, Flt, PBeg. -/
import Derived.Test.YtanfebccenfffagDoorPKey2
import Derived.Test.YtanfebccenfffagDoorMB3
import Derived.Test.YtanfebccenfffagDoorMB4
import Derived.Test.YtanfebccenfffagDoorICount
import Derived.Test.YtanfebccenfffagDoorGrown1
import Derived.Test.YtanfebccenfffagDoorProg
namespace Go.Proofs.YtanfebccenfffagDoor

def okE (es : List Ent) (lv : Int) (x : ByteArray) : Bool := ok4 x && rulesOk es lv
def elsA (es : List Ent) (lv : Int) (x : ByteArray) : List El := if okE es lv x = true then elems4 es (rn4 x) else []
/-- The key of a text. -/
def keyT (es : List Ent) (sh : Bool) (lv : Int) (x : ByteArray) : ByteArray := if okE es lv x = true then bytesOf (keyB es sh lv (rn4 x)) else ⟨#[]⟩
/-- The first weights of a text. -/
def firsT (es : List Ent) (sh : Bool) (lv : Int) (x : ByteArray) : List Int := if okE es lv x = true then firstsB es sh (rn4 x) else []

theorem rn4_good (x : ByteArray) : ∀ y ∈ rn4 x, goodB y = true := fun y hy => apD_good (dec_good x.size x) y (mem_sortM.1 hy)
theorem rn4_rng (x : ByteArray) : ∀ y ∈ rn4 x, 0 ≤ y ∧ y ≤ 1114111 := fun y hy => by have := goodB_true (rn4_good x y hy); omega

theorem ok4_parts {x : ByteArray} (h : ok4 x = true) : x.size ≤ 200 ∧ (rn4 x).length ≤ 200 := of_decide_eq_true h

theorem okE_parts {es : List Ent} {lv : Int} {x : ByteArray} (h : okE es lv x = true) : x.size ≤ 200 ∧ (rn4 x).length ≤ 200 ∧ rulesOk es lv = true := by
  unfold okE at h
  rw [Bool.and_eq_true] at h
  exact ⟨(ok4_parts h.1).1, (ok4_parts h.1).2, h.2⟩

theorem rulesOk_parts {es : List Ent} {lv : Int} (h : rulesOk es lv = true) : es.length ≤ 40 ∧ 1 ≤ lv ∧ lv ≤ 4 := ⟨(of_decide_eq_true h).1, (of_decide_eq_true h).2.1.1, (of_decide_eq_true h).2.1.2⟩

theorem firsT_rng (es : List Ent) (sh : Bool) (lv : Int) (x : ByteArray) : ∀ n ∈ firsT es sh lv x, 1 ≤ n ∧ n ≤ 65535 := by
  unfold firsT
  split
  · rename_i h
    exact firstsB_rng (okE_parts h).2.2 (rn4_rng x)
  · intro n hn; cases hn

theorem firsT_len (es : List Ent) (sh : Bool) (lv : Int) (x : ByteArray) : (firsT es sh lv x).length ≤ 400 := by
  unfold firsT
  split
  · rename_i h
    have := firstsB_len es sh (rn4 x)
    have := (okE_parts h).2.1
    omega
  · simp

theorem elsA_len (es : List Ent) (lv : Int) (x : ByteArray) : (elsA es lv x).length ≤ 400 := by
  unfold elsA
  split
  · rename_i h
    have := elems4_len es (rn4 x)
    have := (okE_parts h).2.1
    omega
  · simp

theorem bytesOf_size (bs : List Int) : (bytesOf bs).size = bs.length := by simp [bytesOf, ByteArray.size]

theorem keyB_len (es : List Ent) (sh : Bool) {lv : Int} (h : 1 ≤ lv ∧ lv ≤ 4) (l : List Int) : (keyB es sh lv l).length ≤ 4 * (2 + 4 * l.length) := by
  have h1 := keyN_len (counted sh (elems4 es l)) (fourths sh (elems4 es l)) lv.toNat
  have h2 := counted_len sh (elems4 es l)
  have h3 := elems4_len es l
  unfold keyB
  refine Nat.le_trans h1 (Nat.mul_le_mul (by omega) (by omega))

theorem keyT_size (es : List Ent) (sh : Bool) (lv : Int) (x : ByteArray) : (keyT es sh lv x).size ≤ 4000 := by
  unfold keyT
  split
  · rename_i h
    obtain ⟨_, h1, h2⟩ := okE_parts h
    have := keyB_len es sh (rulesOk_parts h2).2 (rn4 x)
    rw [bytesOf_size]
    omega
  · show (0 : Nat) ≤ 4000; omega
end Go.Proofs.YtanfebccenfffagDoor

namespace Go.Proofs.YtanfebccenfffagDoor
open Go.RowKit

theorem els_low {w : World} {B B' : Nat} {v : Value} {es : List El} (h : Elems w B' v es) (hB : B ≤ B') : Elems w B v es := by
  refine ⟨h.1, ?_⟩
  rcases h.2 with h | ⟨g, cap, cur, h1, h2, h3⟩
  · exact .inl h
  · exact .inr ⟨g, cap, cur, h1, Nat.le_trans hB h2, h3⟩

theorem aR_good (x : ByteArray) : ∀ y ∈ aR x, goodB y = true := by
  unfold aR
  split
  · intro y hy
    exact apD_good (dec_good x.size x) y (mem_sortM.1 hy)
  · intro y hy; cases hy

/-- The rules' block. -/
def BoxR4 (u : World) (b : Nat) (v : Value) (sh : Bool) (lv : Int) : Prop := u.heap[b]? = some (.cells #[v, .bool sh, .int .i64 lv] 30)

theorem BoxR4.below {B b : Nat} {u u' : World} {v : Value} {sh : Bool} {lv : Int} (h : BoxR4 u b v sh lv) (hb : Below B u u') (hlt : b < B) : BoxR4 u' b v sh lv := (hb.block b hlt).trans h

theorem BoxR4.cells {b : Nat} {u : World} {v : Value} {sh : Bool} {lv : Int} (h : BoxR4 u b v sh lv) : u.cell? ⟨b, 0, none⟩ = some v ∧ u.cell? ⟨b, 1, none⟩ = some (.bool sh) ∧ u.cell? ⟨b, 2, none⟩ = some (.int .i64 lv) :=
  ⟨cell_of_row _ _ 0 _ _ _ h, cell_of_row _ _ 1 _ _ _ h, cell_of_row _ _ 2 _ _ _ h⟩

def EiRel (w0 : World) (es : List Ent) (goal : List El) (v6 v8 : Value) (wr : World) : Prop :=
  ∃ (g : Nat) (rest : List Int) (done : List El), w0.heap.size ≤ g ∧ rest.length ≤ 200 ∧ done.length + 2 * rest.length ≤ 400 ∧ (∀ x ∈ rest, goodB x = true) ∧ MidG wr g v6 rest ∧ Elems wr w0.heap.size v8 done ∧ done ++ elems4 es rest = goal ∧ Below w0.heap.size w0 wr

theorem els_apart {u u' : World} {B g : Nat} {v : Value} {es : List El} {cs : Array Value} (h : Elems u B v es) (hg : u.grownBy u' (some g)) (hc : u.heap[g]? = some (.cells cs 3)) : Elems u' B v es := by
  refine World.ownsRow.kept h hg ?_
  rcases h.2 with ⟨rfl, _⟩ | ⟨g', cap, cur, rfl, _, h3, _⟩
  · exact .inl rfl
  · refine .inr fun e => ?_
    have e2 : g' = g := Option.some.inj e
    subst e2
    rw [hc] at h3
    injection h3 with h4
    injection h4 with _ h5
    exact absurd h5 (by decide)

set_option maxRecDepth 100000 in
set_option maxHeartbeats 8000000 in
/-- The elems of runes that lie in memory made behind wb. -/
theorem elemsRn_any {w wb : World} {B : Nat} {ve v : Value} {es : List Ent} {rs : List Int} (hbw : Below wb.heap.size wb w) (hE : Ents wb B ve es) (hne : es.length ≤ 1048576) (hr : ∀ e ∈ es, e.runes.length ≤ 1048576) (ht : Tabs3 wb) (hI : Ints w wb.heap.size v rs) (hlen : rs.length ≤ 200) (hgood : ∀ x ∈ rs, goodB x = true) :
    Calls Tryd.prog 66 #[ve, v] w fun e w' => ∃ v', e = .returned v' ∧ Elems w' wb.heap.size v' (elems4 es rs) ∧ Below wb.heap.size wb w' := by
  obtain ⟨va, vc, rfl⟩ : ∃ a c, ve = .slice a es.length c := by
    rcases hE.form with ⟨rfl, rfl⟩ | ⟨_, _, rfl, _, _, _, _⟩
    · exact ⟨_, _, rfl⟩
    · exact ⟨_, _, rfl⟩
  have HS2 : Hid (EiRel wb es (elems4 es rs) v (.slice none 0 0) w) := by
    rcases hI.midI with h | ⟨g, f, c, cs, h1, h2, h3, h4, h5, h6⟩
    · exact ⟨wb.heap.size, rs, [], Nat.le_refl _, hlen, by simp; omega, hgood, .inl h, ⟨rfl, .inl ⟨rfl, rfl⟩⟩, rfl, hbw⟩
    · exact ⟨g, rs, [], h4, hlen, by simp; omega, hgood, .inr ⟨f, c, cs, h1, h2, h3, h5, h6⟩, ⟨rfl, .inl ⟨rfl, rfl⟩⟩, rfl, hbw⟩
  have HE : Hid (Ents _ _ _ _) := hE
  have HT : Hid (Tabs3 _) := ht
  generalize elems4 es rs = goal at *
  clear hlen hgood hI hbw hE ht
  go_enter Tryd.func66, Tryd.ntmps66
  go_wp2_with fail
  go_loopw [1, 5] (fun v6 v8 wr => EiRel wb es goal v6 v8 wr) (fun v6 _ _ => sliceLen v6)
  case atStart => exact HS2.out
  case round =>
    clear HS2
    obtain ⟨g, rest, done, hg0, hrl, hdl, hgd, hM, hD, hgo, hbr⟩ := hrel
    have hl6 := hM.len
    have HGO : Hid (done ++ elems4 es rest = goal) := hgo
    clear hgo
    by_cases h0 : rest.length = 0
    · have hr0 : rest = [] := List.eq_nil_of_length_eq_zero h0
      subst hr0
      have HF : Hid (done = goal) := by show _ = _; rw [← HGO.out, elems4_nil, List.append_nil]
      obtain ⟨a6, c6, rfl⟩ : ∃ a c, u1 = .slice a 0 c := by
        rcases hM with ⟨a, c, h, _⟩ | ⟨f, c, cs, h, _⟩
        · exact ⟨a, c, h⟩
        · exact ⟨_, _, h⟩
      have HD : Hid (Elems _ _ _ _) := hD
      have HBR : Hid (Below _ _ _) := hbr
      clear hM HGO hD hbr
      go_wp2
      go_ret
      rw [← HF.out]
      exact ⟨_, rfl, HD.out, HBR.out⟩
    · obtain ⟨f, c, cs, h61, h62, h63, h64, h65⟩ : ∃ f c cs, u1 = .slice (some ⟨g, f, none⟩) rest.length c ∧ rest.length ≤ c ∧ c ≤ maxLen ∧ wr.heap[g]? = some (.cells cs 3) ∧ ∀ j x, rest[j]? = some x → wr.cell? ⟨g, f + j, none⟩ = some (.int .i64 x) := by
        rcases hM with ⟨a, c, _, h⟩ | h
        · subst h; exact absurd rfl h0
        · exact h
      subst h61
      have hk := take4_kept (es := es) (l := rest) (by omega)
      have TR := takeRun_row wr wb B g f c cs (.slice va es.length vc) es rest hbr HE.out hne hr HT.out hg0 (by omega) (by omega) h62 h63 h64 h65
      have HGO2 : Hid ((done ++ elsOf es (take4 es rest).1) ++ elems4 es (take4 es rest).2 = goal) := by
        show _ = _
        rw [← HGO.out, elems4_step (es := es) (l := rest) (by omega), List.append_assoc]
      have hel := elsOf_len es (take4 es rest).1
      obtain ⟨k1, k2, k3, k4, k5⟩ := hk
      generalize (take4 es rest).1 = run at *
      generalize (take4 es rest).2 = rest2 at *
      have HG64 : Hid (wr.heap[g]? = some (.cells cs 3)) := h64
      have hgr : ∀ x ∈ run, goodB x = true := fun x hx => hgd x (k4 x hx)
      have hgr2 : ∀ x ∈ rest2, goodB x = true := fun x hx => hgd x (k5 x hx)
      have HGR2 : Hid (∀ x ∈ rest2, goodB x = true) := hgr2
      have HGR : Hid (∀ x ∈ run, goodB x = true) := hgr
      have HD : Hid (Elems _ _ _ _) := hD
      have hszr := hbr.size
      have h08 : (0 : Int) < (rest.length : Int) := by omega
      clear h64 h65 hM HGO hgd hgr hgr2 hD k3 k4 k5 hbr
      go_wp2_with fail
      refine TR.mono ?_
      rintro e w3 ⟨vr, vq, rfl, ir, mq, b3, g3⟩
      clear TR
      have HD3 : Hid (Elems w3 wb.heap.size u5 done) := els_apart HD.out g3 HG64.out
      have EO := elemsOf_any (HE.out.below b3) hne hr (HT.out.below b3) ir k2 HGR.out
      have hsz3 := b3.size
      have HMQ : Hid (MidG _ _ _ _) := mq
      have HB3 : Hid (Below _ _ _) := b3
      clear HD g3 HG64 ir mq b3 HGR
      go_wp2_with fail
      refine EO.mono ?_
      rintro e w4 ⟨v4, rfl, e4, b4⟩
      clear EO
      have b4' : Below wb.heap.size wb w4 := HB3.out.trans (b4.mono HB3.out.size)
      have d4 : Elems w4 wb.heap.size u5 done := HD3.out.below b4
      have m4 : MidG w4 g vq rest2 := HMQ.out.below b4
      have HM4 : Hid (MidG _ _ _ _) := m4
      have HB4 : Hid (Below _ _ _) := b4'
      have hsz4 := b4'.size
      clear HD3 HMQ HB3 b4 b4' m4
      go_wp2_with (at_builtin; refine append_els rfl _ _ rfl wb.heap.size _ u5 v4 done (elsOf es run) rfl rfl d4 e4 (by omega) (by omega) ?_)
      intro v5 w5 e5 g5
      have HM5 : Hid (MidG w5 g vq rest2) := by
        rcases HM4.out with h | ⟨f, c, cs, q1, q2, q3, q4, q5⟩
        · exact .inl h
        · refine MidG.kept (.inr ⟨f, c, cs, q1, q2, q3, q4, q5⟩) g5 fun c => ?_
          rcases d4.2 with ⟨rfl, _⟩ | ⟨g', cap, cur, rfl, _, h3, _⟩
          · cases c
          · have e2 : g = g' := Option.some.inj c
            subst e2
            rw [q4] at h3
            injection h3 with h4
            injection h4 with _ h5
            exact absurd h5 (by decide)
      have HB5 : Hid (Below wb.heap.size wb w5) := Below.grown HB4.out g5 HB4.out.size (fun j hj => (World.ownsRow.lt d4 j hj).1)
      have HE5 : Hid (Elems _ _ _ _) := e5
      clear e5 g5 d4 e4 HM4 HB4
      go_wp2
      refine ⟨⟨g, rest2, done ++ elsOf es run, hg0, by omega, by rw [List.length_append]; omega, HGR2.out, HM5.out, HE5.out, HGO2.out, HB5.out⟩, ?_⟩
      have := HM5.out.len
      show sliceLen _ < sliceLen _
      rw [this]
      show _ < rest.length
      omega

set_option maxRecDepth 100000 in
set_option maxHeartbeats 8000000 in
theorem implElemsIn_any {w : World} {B : Nat} {ve : Value} {es : List Ent} {sh : Bool} {lv : Int} (x : ByteArray) (hx : x.size ≤ 1048576) (hE : Ents w B ve es) (hr : ∀ e ∈ es, e.runes.length ≤ 1048576) (ht : Tabs3 w) :
    Calls Tryd.prog 53 #[.agg #[ve, .bool sh, .int .i64 lv], .string x] w fun e w' => ∃ v', e = .returned (.tuple #[v', .bool (okE es lv x)]) ∧ Elems w' w.heap.size v' (elsA es lv x) ∧ Below w.heap.size w w' := by
  obtain ⟨va, vc, rfl⟩ : ∃ a c, ve = .slice a es.length c := by
    rcases hE.form with ⟨rfl, rfl⟩ | ⟨_, _, rfl, _, _, _, _⟩
    · exact ⟨_, _, rfl⟩
    · exact ⟨_, _, rfl⟩
  have hbx : Below w.heap.size w (w.alloc (.cells #[.slice va es.length vc, .bool sh, .int .i64 lv] 30)) := (Below.refl _ _).alloc (Nat.le_refl _) _
  have hbox : BoxR4 (w.alloc (.cells #[.slice va es.length vc, .bool sh, .int .i64 lv] 30)) w.heap.size (.slice va es.length vc) sh lv := heap_alloc_new w _
  have AT := apartT_any x hx (w.alloc (.cells #[.slice va es.length vc, .bool sh, .int .i64 lv] 30)) (ht.below hbx)
  have hlen := aR_len x
  have hgood := aR_good x
  unfold elsA okE
  have HE : Hid (Ents _ _ _ _) := hE.below hbx
  have HT : Hid (Tabs3 _) := ht.below hbx
  clear hE ht
  cases hok : ok4 x
  · rw [hok] at AT
    rw [Bool.false_and, if_neg (by simp)]
    clear hok
    go_enter Tryd.func53, Tryd.ntmps53
    go_wp2_with fail
    refine AT.mono ?_
    rintro e w1 ⟨v1, rfl, i1, b1⟩
    clear AT
    go_wp2
    go_ret2
    exact ⟨_, rfl, ⟨rfl, .inl ⟨rfl, rfl⟩⟩, hbx.trans (b1.mono hbx.size)⟩
  · have har : aR x = rn4 x := by unfold aR; rw [hok]; rfl
    rw [hok, har] at AT
    rw [har] at hlen hgood
    rw [Bool.true_and]
    clear hok har
    generalize rn4 x = rs at *
    have GR := fun (u : World) (hu : Below (w.alloc (.cells #[.slice va es.length vc, .bool sh, .int .i64 lv] 30)).heap.size (w.alloc (.cells #[.slice va es.length vc, .bool sh, .int .i64 lv] 30)) u) => implGood3_any (sh := sh) (lv := lv) (HE.out.below hu) hr (HT.out.below hu)
    have hlb : w.heap.size < (w.alloc (.cells #[.slice va es.length vc, .bool sh, .int .i64 lv] 30)).heap.size := by simp
    cases hro : rulesOk es lv
    · rw [hro] at GR
      rw [if_neg (by simp)]
      clear hro
      go_enter Tryd.func53, Tryd.ntmps53
      go_wp2_with fail
      refine AT.mono ?_
      rintro e w1 ⟨v1, rfl, i1, b1⟩
      have G1 := GR _ b1
      obtain ⟨c0, c1, c2⟩ := (hbox.below b1 hlb).cells
      have hsz1 := b1.size
      clear AT GR hbox
      go_wp2_with fail
      refine G1.mono ?_
      rintro e w2 ⟨rfl, b2⟩
      clear G1
      have b3 := hbx.trans ((b1.trans (b2.mono b1.size)).mono hbx.size)
      go_wp2
      go_ret2
      exact ⟨_, rfl, ⟨rfl, .inl ⟨rfl, rfl⟩⟩, b3⟩
    · rw [hro] at GR
      rw [if_pos rfl]
      have hne : es.length ≤ 1048576 := by have := (of_decide_eq_true (show decide _ = true from hro)).1; omega
      clear hro
      obtain ⟨wb, HWB⟩ : ∃ wb, Hid (wb = w.alloc (.cells #[.slice va es.length vc, .bool sh, .int .i64 lv] 30)) := ⟨_, rfl⟩
      have hwb := HWB.out
      rw [← hwb] at hbx hbox HE HT hlb AT GR
      clear hwb
      go_enter Tryd.func53, Tryd.ntmps53
      go_wp2_with fail
      rw [← HWB.out]
      refine AT.mono ?_
      rintro e w1 ⟨v1, rfl, i1, b1⟩
      have G1 := GR _ b1
      obtain ⟨c0, c1, c2⟩ := (hbox.below b1 hlb).cells
      have hsz1 := b1.size
      have hsw : w.heap.size < w1.heap.size := by omega
      clear AT GR HWB
      go_wp2_with fail
      refine G1.mono ?_
      rintro e w2 ⟨rfl, b2⟩
      have b12 := b1.trans (b2.mono b1.size)
      have ER := elemsRn_any b12 HE.out hne hr HT.out (i1.below b2) hlen hgood
      clear G1 c0 c1 c2
      obtain ⟨c0, c1, c2⟩ := (hbox.below b12 hlb).cells
      have hsz2 := b12.size
      have hsw2 : w.heap.size < w2.heap.size := by omega
      clear i1 b1 b2 b12
      go_wp2_with fail
      refine ER.mono ?_
      rintro e w3 ⟨v3, rfl, e3, b3⟩
      clear ER c0 c1 c2
      go_wp2
      go_ret2
      exact ⟨_, rfl, els_low e3 hbx.size, hbx.trans (b3.mono hbx.size)⟩
end Go.Proofs.YtanfebccenfffagDoor

namespace Go.Proofs.YtanfebccenfffagDoor
open Go.RowKit

theorem counted_nil (sh : Bool) : counted sh [] = [] := rfl
theorem fourths_nil (sh : Bool) : fourths sh [] = [] := rfl

/-- The block of counted elems. -/
def BoxC (u : World) (b : Nat) (v v' : Value) : Prop := u.heap[b]? = some (.cells #[v, v'] 62)
theorem BoxC.below {B b : Nat} {u u' : World} {v v' : Value} (h : BoxC u b v v') (hb : Below B u u') (hlt : b < B) : BoxC u' b v v' := (hb.block b hlt).trans h
theorem BoxC.cells {b : Nat} {u : World} {v v' : Value} (h : BoxC u b v v') : u.cell? ⟨b, 0, none⟩ = some v ∧ u.cell? ⟨b, 1, none⟩ = some v' ∧ ∀ j, u.frozen? ⟨b, j, none⟩ = false :=
  ⟨cell_of_row _ _ 0 _ _ _ h, cell_of_row _ _ 1 _ _ _ h, fun j => by unfold BoxC at h; simp [World.frozen?, h]⟩

theorem els_form {w : World} {B : Nat} {v : Value} {es : List El} (h : Elems w B v es) : ∃ a c, v = .slice a es.length c := by
  obtain ⟨a, c, h, _⟩ := els_slice h; exact ⟨a, c, h⟩
theorem ints_form {w : World} {B : Nat} {v : Value} {l : List Int} (h : Ints w B v l) : ∃ a c, v = .slice a l.length c := by
  obtain ⟨a, c, h, _⟩ := ints_slice h; exact ⟨a, c, h⟩

theorem els_set2 {w : World} {B b : Nat} {v x y : Value} {es : List El} (h : Elems w B v es) (hb : b < B) : Elems ((w.setCell ⟨b, 0, none⟩ x).setCell ⟨b, 1, none⟩ y) B v es :=
  World.ownsRow.kept (World.ownsRow.kept h (setCell_grown w b 0 x) (by
    cases e : v.ownBlock with
    | none => exact .inl rfl
    | some g => exact .inr fun c => by have := (World.ownsRow.lt h g e).1; cases c; omega)) (setCell_grown _ b 1 y) (by
    cases e : v.ownBlock with
    | none => exact .inl rfl
    | some g => exact .inr fun c => by have := (World.ownsRow.lt h g e).1; cases c; omega)
theorem ints_set2 {w : World} {B b : Nat} {v x y : Value} {l : List Int} (h : Ints w B v l) (hb : b < B) : Ints ((w.setCell ⟨b, 0, none⟩ x).setCell ⟨b, 1, none⟩ y) B v l :=
  World.ownsRow.kept (World.ownsRow.kept h (setCell_grown w b 0 x) (by
    cases e : v.ownBlock with
    | none => exact .inl rfl
    | some g => exact .inr fun c => by have := (World.ownsRow.lt h g e).1; cases c; omega)) (setCell_grown _ b 1 y) (by
    cases e : v.ownBlock with
    | none => exact .inl rfl
    | some g => exact .inr fun c => by have := (World.ownsRow.lt h g e).1; cases c; omega)
theorem below_set2 {w u : World} {b B : Nat} {x y : Value} (h : Below B w u) (hb : B ≤ b) : Below B w ((u.setCell ⟨b, 0, none⟩ x).setCell ⟨b, 1, none⟩ y) := (h.setCell hb _).setCell hb _

set_option maxRecDepth 100000 in
set_option maxHeartbeats 4000000 in
theorem count_any {w : World} {B : Nat} {ve : Value} {es : List Ent} {sh : Bool} {lv : Int} (x : ByteArray) (hx : x.size ≤ 1048576) (hE : Ents w B ve es) (hr : ∀ e ∈ es, e.runes.length ≤ 1048576) (ht : Tabs3 w) :
    Calls Tryd.prog 34 #[.agg #[ve, .bool sh, .int .i64 lv], .string x] w fun e w' => ∃ v v', e = .returned (.tuple #[.agg #[v, v'], .bool (okE es lv x)]) ∧ Elems w' w.heap.size v (counted sh (elsA es lv x)) ∧ Ints w' w.heap.size v' (fourths sh (elsA es lv x)) ∧ Below w.heap.size w w' := by
  obtain ⟨va, vc, rfl⟩ : ∃ a c, ve = .slice a es.length c := by
    rcases hE.form with ⟨rfl, rfl⟩ | ⟨_, _, rfl, _, _, _, _⟩
    · exact ⟨_, _, rfl⟩
    · exact ⟨_, _, rfl⟩
  have hb2 : Below w.heap.size w ((w.alloc (.cells #[.slice va es.length vc, .bool sh, .int .i64 lv] 30)).alloc (.cells #[.slice none 0 0, .slice none 0 0] 62)) := ((Below.refl _ _).alloc (Nat.le_refl _) _).alloc (by simp) _
  have hbox : BoxR4 ((w.alloc (.cells #[.slice va es.length vc, .bool sh, .int .i64 lv] 30)).alloc (.cells #[.slice none 0 0, .slice none 0 0] 62)) w.heap.size (.slice va es.length vc) sh lv := by
    unfold BoxR4
    rw [Below.heap_alloc _ _ _ (by simp)]; exact heap_alloc_new w _
  have hboc : BoxC ((w.alloc (.cells #[.slice va es.length vc, .bool sh, .int .i64 lv] 30)).alloc (.cells #[.slice none 0 0, .slice none 0 0] 62)) (w.heap.size + 1) (.slice none 0 0) (.slice none 0 0) := heap_alloc2_new w _ _
  have hsz : ((w.alloc (.cells #[.slice va es.length vc, .bool sh, .int .i64 lv] 30)).alloc (.cells #[.slice none 0 0, .slice none 0 0] 62)).heap.size = w.heap.size + 1 + 1 := by simp
  have EI := implElemsIn_any (sh := sh) (lv := lv) x hx (hE.below hb2) hr (ht.below hb2)
  have hlen := elsA_len es lv x
  have HSZ : Hid (_ = _) := hsz
  have HBX : Hid (BoxR4 _ _ _ _ _) := hbox
  have HBC : Hid (BoxC _ _ _ _) := hboc
  have HB2 : Hid (Below _ _ _) := hb2
  clear hE ht hr hx hsz hbox hboc hb2
  cases hok : okE es lv x
  · rw [hok] at EI
    have he0 : elsA es lv x = [] := by unfold elsA; rw [hok]; rfl
    rw [he0, counted_nil, fourths_nil]
    clear hok he0 hlen
    go_enter Tryd.func34, Tryd.ntmps34
    go_wp2_with fail
    refine EI.mono ?_
    rintro e w1 ⟨v1, rfl, i1, b1⟩
    have hc1 := HBC.out.below b1 (by rw [HSZ.out]; omega)
    obtain ⟨c0, c1, cf⟩ := hc1.cells
    have hl1 : w.heap.size + 1 < w1.heap.size := (Array.getElem?_eq_some_iff.1 hc1).1
    have HB1 : Hid (Below _ _ _) := HB2.out.trans (b1.mono HB2.out.size)
    clear EI i1 b1 hc1
    go_wp2
    refine bodyPost_ret (v := .tuple #[.agg #[.slice none 0 0, .slice none 0 0], .bool false]) ?_ rfl ⟨_, _, rfl, ⟨rfl, .inl ⟨rfl, rfl⟩⟩, ⟨rfl, .inl ⟨rfl, rfl⟩⟩, below_set2 HB1.out (by omega)⟩
    rw [results_cell_tmp rfl]
    go_simp
  · rw [hok] at EI
    clear hok
    generalize elsA es lv x = el at *
    go_enter Tryd.func34, Tryd.ntmps34
    go_wp2_with fail
    refine EI.mono ?_
    rintro e w1 ⟨v1, rfl, i1, b1⟩
    have hx1 := HBX.out.below b1 (by rw [HSZ.out]; omega)
    have hc1 := HBC.out.below b1 (by rw [HSZ.out]; omega)
    obtain ⟨p0, p1, p2⟩ := hx1.cells
    have hl1 : w.heap.size + 1 < w1.heap.size := (Array.getElem?_eq_some_iff.1 hc1).1
    have HB1 : Hid (Below _ _ _) := HB2.out.trans (b1.mono HB2.out.size)
    have FO := implFourth_ok sh (by omega) i1
    have HC1 : Hid (BoxC _ _ _ _) := hc1
    clear EI i1 b1 hc1 hx1
    go_wp2_with fail
    refine FO.mono ?_
    rintro e w2 ⟨v2, v3, rfl, i2, e2, b2⟩
    have hc2 := HC1.out.below b2 hl1
    obtain ⟨c0, c1, cf⟩ := hc2.cells
    have hl2 : w.heap.size + 1 < w2.heap.size := (Array.getElem?_eq_some_iff.1 hc2).1
    have HBB : Hid (Below _ _ _) := HB1.out.trans (b2.mono HB1.out.size)
    have HI2 : Hid (Ints _ _ _ _) := i2
    have HE2 : Hid (Elems _ _ _ _) := e2
    obtain ⟨a3, k3, rfl⟩ := els_form e2
    obtain ⟨a2, k2, rfl⟩ := ints_form i2
    clear FO p0 p1 p2 b2 hc2 i2 e2 HC1
    go_wp2
    refine bodyPost_ret (v := .tuple #[.agg #[.slice a3 (counted sh el).length k3, .slice a2 (fourths sh el).length k2], .bool true]) ?_ rfl ⟨_, _, rfl, els_low (els_set2 HE2.out hl1) (by omega), low_ints (ints_set2 HI2.out hl1) (by omega), below_set2 HBB.out (by omega)⟩
    rw [results_cell_tmp rfl]
    go_simp
end Go.Proofs.YtanfebccenfffagDoor

namespace Go.Proofs.YtanfebccenfffagDoor
open Go.RowKit

theorem firsT_of {es : List Ent} {sh : Bool} {lv : Int} {x : ByteArray} : firsT es sh lv x = wts 1 (counted sh (elsA es lv x)) (fourths sh (elsA es lv x)) := by
  unfold firsT elsA
  split
  · rfl
  · rfl

set_option maxRecDepth 100000 in
set_option maxHeartbeats 4000000 in
theorem implFirsts_any {w : World} {B : Nat} {ve : Value} {es : List Ent} {sh : Bool} {lv : Int} (x : ByteArray) (hx : x.size ≤ 1048576) (hE : Ents w B ve es) (hr : ∀ e ∈ es, e.runes.length ≤ 1048576) (ht : Tabs3 w) :
    Calls Tryd.prog 22 #[.agg #[ve, .bool sh, .int .i64 lv], .string x] w fun e w' => ∃ v, e = .returned (.tuple #[v, .bool (okE es lv x)]) ∧ Ints w' w.heap.size v (firsT es sh lv x) ∧ Below w.heap.size w w' := by
  obtain ⟨va, vc, rfl⟩ : ∃ a c, ve = .slice a es.length c := by
    rcases hE.form with ⟨rfl, rfl⟩ | ⟨_, _, rfl, _, _, _, _⟩
    · exact ⟨_, _, rfl⟩
    · exact ⟨_, _, rfl⟩
  have hbx : Below w.heap.size w (w.alloc (.cells #[.slice va es.length vc, .bool sh, .int .i64 lv] 30)) := (Below.refl _ _).alloc (Nat.le_refl _) _
  have C := count_any (sh := sh) (lv := lv) x hx (hE.below hbx) hr (ht.below hbx)
  have hlen := elsA_len es lv x
  rw [firsT_of]
  have hcl := counted_len sh (elsA es lv x)
  have hfl := fourths_len sh (elsA es lv x)
  have HBX : Hid (Below _ _ _) := hbx
  have hfc : (fourths sh (elsA es lv x)).length = (counted sh (elsA es lv x)).length := by omega
  have hcn : (counted sh (elsA es lv x)).length ≤ 1048576 := by omega
  have HFC : Hid (_ = _) := hfc
  clear hE ht hr hx hlen hcl hfl hfc hbx
  cases hok : okE es lv x
  · rw [hok] at C
    have he0 : elsA es lv x = [] := by unfold elsA; rw [hok]; rfl
    rw [he0, counted_nil, fourths_nil] at C
    rw [he0, counted_nil, fourths_nil]
    clear hok he0 HFC hcn
    go_enter Tryd.func22, Tryd.ntmps22
    go_wp2_with fail
    refine C.mono ?_
    rintro e w1 ⟨v1, v2, rfl, e1, i1, b1⟩
    obtain ⟨a1, k1, rfl⟩ := els_form e1
    obtain ⟨a2, k2, rfl⟩ := ints_form i1
    have HB1 : Hid (Below _ _ _) := HBX.out.trans (b1.mono HBX.out.size)
    clear C i1 e1 b1
    go_wp2
    go_ret2
    exact ⟨_, rfl, ⟨rfl, .inl ⟨rfl, rfl⟩⟩, HB1.out.alloc HB1.out.size _⟩
  · rw [hok] at C
    clear hok
    generalize counted sh (elsA es lv x) = xs at *
    generalize fourths sh (elsA es lv x) = fs at *
    go_enter Tryd.func22, Tryd.ntmps22
    go_wp2_with fail
    refine C.mono ?_
    rintro e w1 ⟨v1, v2, rfl, e1, i1, b1⟩
    obtain ⟨a1, k1, rfl⟩ := els_form e1
    obtain ⟨a2, k2, rfl⟩ := ints_form i1
    have HB1 : Hid (Below _ _ _) := HBX.out.trans (b1.mono HBX.out.size)
    have hb2 : Below w1.heap.size w1 (w1.alloc (.cells #[.slice a1 xs.length k1, .slice a2 fs.length k2] 62)) := (Below.refl _ _).alloc (Nat.le_refl _) _
    have WT := weights1_any (e1.below hb2) (i1.below hb2) HFC.out hcn
    have HB2 : Hid (Below _ _ _) := HB1.out.trans (hb2.mono HB1.out.size)
    clear C i1 e1 b1 hb2
    go_wp2_with fail
    refine WT.mono ?_
    rintro e w3 ⟨v3, rfl, i3, b3⟩
    have HI3 : Hid (Ints _ _ _ _) := i3
    clear WT i3
    go_wp2
    go_ret2
    exact ⟨_, rfl, low_ints HI3.out HB2.out.size, HB2.out.trans (b3.mono HB2.out.size)⟩
end Go.Proofs.YtanfebccenfffagDoor

namespace Go.Proofs.YtanfebccenfffagDoor

theorem cut0 (neg : Bool) (n : Nat) : Ieee.Toward.even.cut neg n 0 = n := by
  unfold Ieee.Toward.cut
  simp [Nat.mod_one]

/-- The word of a small whole number. -/
def wordN (k n : Nat) : Nat := (k + 1022) * 2 ^ 52 + n * 2 ^ (52 - k)

theorem near_pos {k n : Nat} (hk : k < 16) (h1 : 2 ^ k ≤ n) (h2 : n < 2 ^ (k + 1)) : FloatKind.nearest .f64 (n : Int) = wordN k n := by
  have hn : n ≠ 0 := by have := Nat.two_pow_pos k; omega
  have hl : n.log2 = k := (Nat.log2_eq_iff hn).2 ⟨h1, h2⟩
  have h0 : ¬ ((n : Int) < 0) := by omega
  unfold FloatKind.nearest FloatKind.encode Ieee.Format.write Ieee.Format.nearest
  simp only [FloatKind.format, Int.natAbs_natCast, if_neg hn, hl, decide_eq_false h0]
  have hlast : max ((0 : Int) + (k : Int) - (Ieee.double.fractionBits : Nat)) Ieee.double.leastPlace = (k : Int) - 52 := by
    have : Ieee.double.leastPlace = -1074 := by decide
    rw [this]
    show max ((0 : Int) + (k : Int) - 52) (-1074) = _
    omega
  rw [hlast]
  have e1 : ((0 : Int) - ((k : Int) - 52)).toNat = 52 - k := by omega
  have e2 : ((k : Int) - 52 - 0).toNat = 0 := by omega
  have e3 : ((k : Int) - 52 - Ieee.double.leastPlace).toNat = k + 1022 := by
    have : Ieee.double.leastPlace = -1074 := by decide
    rw [this]; omega
  rw [e1, e2, e3, cut0, Nat.shiftLeft_eq]
  have hb : Ieee.double.binade = 2 ^ 52 := rfl
  have hi : Ieee.double.infRung = 2047 * 2 ^ 52 := rfl
  rw [hb, hi]
  have hle : n * 2 ^ (52 - k) < 2 ^ 53 := by
    have : 2 ^ (k + 1) * 2 ^ (52 - k) = 2 ^ 53 := by rw [← Nat.pow_add]; congr 1; omega
    rw [← this]
    exact Nat.mul_lt_mul_of_pos_right h2 (Nat.two_pow_pos _)
  unfold Ieee.Format.word wordN
  simp only [Bool.false_eq_true, if_false]
  rw [Nat.min_eq_left]
  omega

theorem read_pos {k n : Nat} (hk : k < 16) (h1 : 2 ^ k ≤ n) (h2 : n < 2 ^ (k + 1)) : Ieee.double.read (wordN k n) = .number false (n * 2 ^ (52 - k)) ((k : Int) - 52) := by
  have hlo : 2 ^ 52 ≤ n * 2 ^ (52 - k) := by
    have : 2 ^ k * 2 ^ (52 - k) = 2 ^ 52 := by rw [← Nat.pow_add]; congr 1; omega
    rw [← this]
    exact Nat.mul_le_mul_right _ h1
  have hhi : n * 2 ^ (52 - k) < 2 ^ 53 := by
    have : 2 ^ (k + 1) * 2 ^ (52 - k) = 2 ^ 53 := by rw [← Nat.pow_add]; congr 1; omega
    rw [← this]
    exact Nat.mul_lt_mul_of_pos_right h2 (Nat.two_pow_pos _)
  unfold wordN
  generalize n * 2 ^ (52 - k) = m at *
  have hs : Ieee.double.signWeight = 2 ^ 63 := rfl
  have hb : Ieee.double.binade = 2 ^ 52 := rfl
  have hi : Ieee.double.infRung = 2047 * 2 ^ 52 := rfl
  have hl : Ieee.double.leastPlace = -1074 := by decide
  unfold Ieee.Format.read
  rw [hs, hb, hi, hl]
  have q1 : ((k + 1022) * 2 ^ 52 + m) / 2 ^ 63 % 2 = 0 := by omega
  have q2 : ((k + 1022) * 2 ^ 52 + m) % 2 ^ 63 = (k + 1022) * 2 ^ 52 + m := by omega
  have q3 : ((k + 1022) * 2 ^ 52 + m) / 2 ^ 52 = k + 1023 := by omega
  have q4 : ((k + 1022) * 2 ^ 52 + m) % 2 ^ 52 = m - 2 ^ 52 := by omega
  have r1 : ¬ ((k + 1022) * 2 ^ 52 + m < 2 ^ 52) := by omega
  have r2 : (k + 1022) * 2 ^ 52 + m < 2047 * 2 ^ 52 := by omega
  show (if ((k + 1022) * 2 ^ 52 + m) % 2 ^ 63 < 2 ^ 52 then _ else _) = _
  rw [q1, q2, q3, q4, if_neg r1, if_pos r2]
  rw [show (2 ^ 52 + (m - 2 ^ 52) : Nat) = m by omega, show (-1074 : Int) + ((k + 1023 - 1 : Nat) : Int) = (k : Int) - 52 by omega]
  rfl

theorem order_pos {a b : Nat} (ha : 1 ≤ a) (ha2 : a < 65536) (hb : 1 ≤ b) (hb2 : b < 65536) :
    (Ieee.double.order (FloatKind.nearest .f64 (a : Int)) (FloatKind.nearest .f64 (b : Int)) == some .eq) = decide (a = b) := by
  have la : a.log2 < 16 := (Nat.log2_lt (by omega)).2 ha2
  have lb : b.log2 < 16 := (Nat.log2_lt (by omega)).2 hb2
  have a1 : 2 ^ a.log2 ≤ a := Nat.log2_self_le (by omega)
  have a2 : a < 2 ^ (a.log2 + 1) := Nat.lt_log2_self
  have b1 : 2 ^ b.log2 ≤ b := Nat.log2_self_le (by omega)
  have b2 : b < 2 ^ (b.log2 + 1) := Nat.lt_log2_self
  rw [near_pos la a1 a2, near_pos lb b1 b2]
  unfold Ieee.Format.order
  rw [read_pos la a1 a2, read_pos lb b1 b2]
  generalize a.log2 = k at *
  generalize b.log2 = j at *
  unfold Ieee.Datum.order Ieee.signed
  simp only [Bool.false_eq_true, if_false]
  obtain ⟨m, hm⟩ : ∃ m : Nat, min k j = m := ⟨_, rfl⟩
  have e1 : ((k : Int) - 52 - min ((k : Int) - 52) ((j : Int) - 52)).toNat = k - m := by omega
  have e2 : ((j : Int) - 52 - min ((k : Int) - 52) ((j : Int) - 52)).toNat = j - m := by omega
  rw [e1, e2]
  have f1 : (a * 2 ^ (52 - k)) <<< (k - m) = a * 2 ^ (52 - m) := by
    rw [Nat.shiftLeft_eq, Nat.mul_assoc, ← Nat.pow_add]; congr 2; omega
  have f2 : (b * 2 ^ (52 - j)) <<< (j - m) = b * 2 ^ (52 - m) := by
    rw [Nat.shiftLeft_eq, Nat.mul_assoc, ← Nat.pow_add]; congr 2; omega
  rw [f1, f2]
  have hp := Nat.two_pow_pos (52 - m)
  by_cases h : a = b
  · subst h
    simp
  · have hne : ((a * 2 ^ (52 - m) : Nat) : Int) ≠ ((b * 2 ^ (52 - m) : Nat) : Int) := by
      intro c
      have c2 : a * 2 ^ (52 - m) = b * 2 ^ (52 - m) := by omega
      exact h (Nat.eq_of_mul_eq_mul_right hp c2)
    rw [decide_eq_false h]
    simp only [beq_eq_false_iff_ne, ne_eq, Option.some.injEq]
    intro c
    exact hne (Std.LawfulEqCmp.eq_of_compare c)
end Go.Proofs.YtanfebccenfffagDoor

namespace Go.Proofs.YtanfebccenfffagDoor

def alike : List Int → List Int → Nat
  | x :: xs, y :: ys => if x = y then alike xs ys + 1 else 0
  | _, _ => 0

theorem alike_at : ∀ (a b : List Int) (k : Nat) (x y : Int), (∀ j, j < k → a[j]? = b[j]?) → a[k]? = some x → b[k]? = some y → x ≠ y → alike a b = k
  | [], _, k, _, _, _, h, _, _ => by simp at h
  | _ :: _, [], k, _, _, _, _, h, _ => by simp at h
  | p :: a, q :: b, 0, x, y, _, hx, hy, hne => by
    simp at hx hy
    subst hx
    subst hy
    unfold alike
    rw [if_neg hne]
  | p :: a, q :: b, k + 1, x, y, hj, hx, hy, hne => by
    have h0 := hj 0 (by omega)
    simp at h0
    subst h0
    unfold alike
    rw [if_pos rfl, alike_at a b k x y (fun j h => by have := hj (j + 1) (by omega); simpa using this) (by simpa using hx) (by simpa using hy) hne]

theorem alike_all : ∀ (a b : List Int), (∀ j, j < min a.length b.length → a[j]? = b[j]?) → alike a b = min a.length b.length
  | [], b, _ => by simp [alike]
  | _ :: _, [], _ => by simp [alike]
  | p :: a, q :: b, hj => by
    have h0 := hj 0 (by simp)
    simp at h0
    subst h0
    have := alike_all a b (fun j h => by have := hj (j + 1) (by simp; omega); simpa using this)
    unfold alike
    rw [if_pos rfl, this]
    simp

theorem alike_le : ∀ (a b : List Int), alike a b ≤ b.length
  | [], _ => by simp [alike]
  | _ :: _, [] => by simp [alike]
  | p :: a, q :: b => by
    have := alike_le a b
    unfold alike
    split <;> simp <;> omega

/-- Whether a begins with b. -/
def begL (a b : List Int) : Bool := decide (b.length ≤ a.length) && decide (a.take b.length = b)

theorem begL_alike : ∀ (a b : List Int), begL a b = decide (alike a b = b.length)
  | a, [] => by cases a <;> simp [begL, alike]
  | [], q :: b => by simp [begL, alike]
  | p :: a, q :: b => by
    have ih := begL_alike a b
    unfold begL at ih ⊢
    unfold alike
    by_cases h : p = q
    · subst h
      rw [if_pos rfl]
      simpa using ih
    · rw [if_neg h]
      simp [h]

theorem begL_self (a : List Int) : begL a a = true := by simp [begL]

def begT (es : List Ent) (sh : Bool) (lv : Int) (x y : ByteArray) : Bool := if (okE es lv x && okE es lv y) = true then begL (firsT es sh lv x) (firsT es sh lv y) else false

theorem near_neq {x y : Int} (hx : 1 ≤ x ∧ x ≤ 65535) (hy : 1 ≤ y ∧ y ≤ 65535) : (Ieee.double.order (FloatKind.nearest .f64 x) (FloatKind.nearest .f64 y) == some .eq) = decide (x = y) := by
  obtain ⟨a, rfl⟩ : ∃ a : Nat, x = (a : Int) := ⟨x.toNat, by omega⟩
  obtain ⟨b, rfl⟩ : ∃ b : Nat, y = (b : Int) := ⟨y.toNat, by omega⟩
  rw [order_pos (by omega) (by omega) (by omega) (by omega)]
  by_cases h : a = b
  · subst h; simp
  · rw [decide_eq_false h, decide_eq_false (by omega)]
end Go.Proofs.YtanfebccenfffagDoor
