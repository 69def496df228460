/- Texts of mine laid together: IElems, OkE, IElems2, IKey, PApL, PCut, PFind1, PFind2, IAlone, IGrow0, Flt, PBeg. -/
import Derived.Test.YtddelohmppdndaaGreatDoorMF1
import Derived.Test.YtddelohmppdndaaGreatDoorMF3
import Derived.Test.YtddelohmppdndaaGreatDoorMF2
import Derived.Maps.AppendAt
import Derived.ArgAppend
import Derived.Test.YtddelohmppdndaaGreatDoorProg
namespace Go.Proofs.YtddelohmppdndaaGreatDoor
open Go.RowKit

theorem elsOf_some {es : List Ent} {run : List Int} {e : El} (h : entOf es run = some e) : elsOf es run = [e] := by unfold elsOf; rw [h]
theorem elsOf_none {es : List Ent} {run : List Int} (h : entOf es run = none) : elsOf es run = base (at0 run 0) := by unfold elsOf; rw [h]

set_option maxRecDepth 100000 in
set_option maxHeartbeats 4000000 in
theorem elemsOf_any {w : World} {B B' : Nat} {ve v : Value} {es : List Ent} {run : List Int} (hE : Ents w B ve es) (hn : es.length ≤ 1048576) (hr : ∀ e ∈ es, e.runes.length ≤ 1048576) (ht : Tabs3 w) (hI : Ints w B' v run) (h1 : 1 ≤ run.length) (hg : ∀ x ∈ run, goodB x = true) :
    Calls Tryz.prog 82 #[ve, v] w fun e w' => ∃ v', e = .returned v' ∧ Elems w' w.heap.size v' (elsOf es run) ∧ Below w.heap.size w w' := by
  have EN := entryAt_any hE hI.rowAt hn hr
  obtain ⟨x, hx⟩ : ∃ x, run[0]? = some x := ⟨_, List.getElem?_eq_getElem (by omega)⟩
  have hx0 : at0 run 0 = x := by unfold at0; rw [hx]; rfl
  have hgx := hg x (List.mem_of_getElem? hx)
  obtain ⟨q0, q1, q2⟩ := goodB_true hgx
  obtain ⟨gv, cv, rfl, _, hgv, hcv⟩ := ints_form1 hI h1
  have c0 : w.cell? ⟨gv, 0, none⟩ = some (.int .i64 x) := hcv 0 x hx
  have hl8 : (0 : Int) < (run.length : Int) := by omega
  have W := fun (u : World) (hu : Below w.heap.size w u) => weight_any x q0 q1 (by omega) u ((ht.below hu).1)
  obtain ⟨va, vn, vc, rfl⟩ : ∃ a n c, ve = .slice a n c := by
    rcases hE.form with ⟨rfl, _⟩ | ⟨_, _, rfl, _, _, _, _⟩
    · exact ⟨_, _, _, rfl⟩
    · exact ⟨_, _, _, rfl⟩
  clear hE hI hg hgx hcv ht
  cases ho : entOf es run with
  | some e =>
    rw [ho] at EN
    rw [elsOf_some ho]
    unfold elRes elV elOf at EN
    simp only [Option.getD_some, Option.isSome_some] at EN
    clear ho W
    go_enter Tryz.func82, Tryz.ntmps82
    go_wp2_with fail
    refine EN.mono ?_
    rintro x w2 ⟨rfl, b2⟩
    clear EN c0
    go_wp2
    go_ret
    exact ⟨_, rfl, elems_block [e] rfl rfl (heap_alloc2_new w2 _ _) (by have := b2.size; omega) (by unfold maxLen; omega), (b2.alloc b2.size _).alloc (b2.alloc b2.size _).size _⟩
  | none =>
    rw [ho] at EN
    rw [elsOf_none ho, hx0]
    unfold elRes elV elOf at EN
    simp only [Option.getD_none, Option.isSome_none] at EN
    clear ho
    rcases base_cases x with hb | ⟨e, hb⟩ | ⟨e, f, hb⟩
    · rw [hb] at W ⊢
      unfold wtV at W
      have mt : ∀ (k : Nat) (w : World), (method (k + 1) 143 (.agg #[]) "loop.example/g00158/impl.elems").run Tryz.prog w = .ok (130, .agg #[]) w := fun _ _ => by kernel_rfl
      clear hb
      go_enter Tryz.func82, Tryz.ntmps82
      go_wp2_with fail
      refine EN.mono ?_
      rintro x w2 ⟨rfl, b2⟩
      clear EN
      have b3 : Below w.heap.size w (w2.alloc (.cells #[.int .i64 0, .int .i64 0, .int .i64 0, .bool false] 67)) := b2.alloc b2.size _
      have W1 := W _ b3
      have c2 : w2.cell? ⟨gv, 0, none⟩ = some (.int .i64 _) := (b2.cell hgv).trans c0
      have hgv2 : gv < w2.heap.size := Nat.lt_of_lt_of_le hgv b2.size
      clear W c0
      go_wp2_with fail
      refine W1.mono ?_
      rintro x w4 ⟨rfl, b4⟩
      have b5 := b3.trans (b4.mono b3.size)
      clear W1 b4 b3
      go_wp2
      go_ret
      exact ⟨_, rfl, ⟨rfl, .inl ⟨rfl, rfl⟩⟩, b5.alloc b5.size _⟩
    · rw [hb] at W ⊢
      unfold wtV at W
      have mt : ∀ (k : Nat) (w : World), (method (k + 1) 146 (.agg #[.int .i64 e.first, .int .i64 e.second, .int .i64 e.third, .bool e.varies]) "loop.example/g00158/impl.elems").run Tryz.prog w = .ok (131, .agg #[.int .i64 e.first, .int .i64 e.second, .int .i64 e.third, .bool e.varies]) w := fun _ _ => by kernel_rfl
      clear hb
      go_enter Tryz.func82, Tryz.ntmps82
      go_wp2_with fail
      refine EN.mono ?_
      rintro x w2 ⟨rfl, b2⟩
      clear EN
      have b3 : Below w.heap.size w (w2.alloc (.cells #[.int .i64 0, .int .i64 0, .int .i64 0, .bool false] 67)) := b2.alloc b2.size _
      have W1 := W _ b3
      have c2 : w2.cell? ⟨gv, 0, none⟩ = some (.int .i64 _) := (b2.cell hgv).trans c0
      have hgv2 : gv < w2.heap.size := Nat.lt_of_lt_of_le hgv b2.size
      clear W c0
      go_wp2_with fail
      refine W1.mono ?_
      rintro x w4 ⟨rfl, b4⟩
      have b5 := b3.trans (b4.mono b3.size)
      clear W1 b4 b3
      go_wp2
      go_ret
      exact ⟨_, rfl, elems_block [e] rfl rfl (heap_alloc2_new w4 _ _) (by have := b5.size; omega) (by unfold maxLen; omega), (b5.alloc b5.size _).alloc (b5.alloc b5.size _).size _⟩
    · rw [hb] at W ⊢
      unfold wtV at W
      have mt : ∀ (k : Nat) (w : World), (method (k + 1) 149 (.agg #[.int .i64 e.first, .int .i64 e.second, .int .i64 e.third, .bool e.varies, .int .i64 f.first, .int .i64 f.second, .int .i64 f.third, .bool f.varies]) "loop.example/g00158/impl.elems").run Tryz.prog w = .ok (132, .agg #[.int .i64 e.first, .int .i64 e.second, .int .i64 e.third, .bool e.varies, .int .i64 f.first, .int .i64 f.second, .int .i64 f.third, .bool f.varies]) w := fun _ _ => by kernel_rfl
      clear hb
      go_enter Tryz.func82, Tryz.ntmps82
      go_wp2_with fail
      refine EN.mono ?_
      rintro x w2 ⟨rfl, b2⟩
      clear EN
      have b3 : Below w.heap.size w (w2.alloc (.cells #[.int .i64 0, .int .i64 0, .int .i64 0, .bool false] 67)) := b2.alloc b2.size _
      have W1 := W _ b3
      have c2 : w2.cell? ⟨gv, 0, none⟩ = some (.int .i64 _) := (b2.cell hgv).trans c0
      have hgv2 : gv < w2.heap.size := Nat.lt_of_lt_of_le hgv b2.size
      clear W c0
      go_wp2_with fail
      refine W1.mono ?_
      rintro x w4 ⟨rfl, b4⟩
      have b5 := b3.trans (b4.mono b3.size)
      clear W1 b4 b3
      go_wp2
      go_ret
      exact ⟨_, rfl, elems_block [e, f] rfl rfl (heap_alloc2_new w4 _ _) (by have := b5.size; omega) (by unfold maxLen; omega), (b5.alloc b5.size _).alloc (b5.alloc b5.size _).size _⟩
end Go.Proofs.YtddelohmppdndaaGreatDoor

namespace Go.Proofs.YtddelohmppdndaaGreatDoor

def okE (es : List Ent) (lv : Int) (x : ByteArray) : Bool := ok4 x && rulesOk es lv
def elsA (es : List Ent) (lv : Int) (x : ByteArray) : List El := if okE es lv x = true then elems4 es (rn4 x) else []
/-- The key of a text. -/
def keyT (es : List Ent) (sh : Bool) (lv : Int) (x : ByteArray) : ByteArray := if okE es lv x = true then bytesOf (keyB es sh lv (rn4 x)) else ⟨#[]⟩
/-- The first weights of a text. -/
def firsT (es : List Ent) (sh : Bool) (lv : Int) (x : ByteArray) : List Int := if okE es lv x = true then firstsB es sh (rn4 x) else []

theorem rn4_good (x : ByteArray) : ∀ y ∈ rn4 x, goodB y = true := fun y hy => apD_good (dec_good x.size x) y (mem_sortM.1 hy)
theorem rn4_rng (x : ByteArray) : ∀ y ∈ rn4 x, 0 ≤ y ∧ y ≤ 1114111 := fun y hy => by have := goodB_true (rn4_good x y hy); omega

theorem ok4_parts {x : ByteArray} (h : ok4 x = true) : x.size ≤ 200 ∧ (rn4 x).length ≤ 200 := of_decide_eq_true h

theorem okE_parts {es : List Ent} {lv : Int} {x : ByteArray} (h : okE es lv x = true) : x.size ≤ 200 ∧ (rn4 x).length ≤ 200 ∧ rulesOk es lv = true := by
  unfold okE at h
  rw [Bool.and_eq_true] at h
  exact ⟨(ok4_parts h.1).1, (ok4_parts h.1).2, h.2⟩

theorem rulesOk_parts {es : List Ent} {lv : Int} (h : rulesOk es lv = true) : es.length ≤ 40 ∧ 1 ≤ lv ∧ lv ≤ 4 := ⟨(of_decide_eq_true h).1, (of_decide_eq_true h).2.1.1, (of_decide_eq_true h).2.1.2⟩

theorem firsT_rng (es : List Ent) (sh : Bool) (lv : Int) (x : ByteArray) : ∀ n ∈ firsT es sh lv x, 1 ≤ n ∧ n ≤ 65535 := by
  unfold firsT
  split
  · rename_i h
    exact firstsB_rng (okE_parts h).2.2 (rn4_rng x)
  · intro n hn; cases hn

theorem firsT_len (es : List Ent) (sh : Bool) (lv : Int) (x : ByteArray) : (firsT es sh lv x).length ≤ 400 := by
  unfold firsT
  split
  · rename_i h
    have := firstsB_len es sh (rn4 x)
    have := (okE_parts h).2.1
    omega
  · simp

theorem elsA_len (es : List Ent) (lv : Int) (x : ByteArray) : (elsA es lv x).length ≤ 400 := by
  unfold elsA
  split
  · rename_i h
    have := elems4_len es (rn4 x)
    have := (okE_parts h).2.1
    omega
  · simp

theorem bytesOf_size (bs : List Int) : (bytesOf bs).size = bs.length := by simp [bytesOf, ByteArray.size]

theorem keyB_len (es : List Ent) (sh : Bool) {lv : Int} (h : 1 ≤ lv ∧ lv ≤ 4) (l : List Int) : (keyB es sh lv l).length ≤ 4 * (2 + 4 * l.length) := by
  have h1 := keyN_len (counted sh (elems4 es l)) (fourths sh (elems4 es l)) lv.toNat
  have h2 := counted_len sh (elems4 es l)
  have h3 := elems4_len es l
  unfold keyB
  refine Nat.le_trans h1 (Nat.mul_le_mul (by omega) (by omega))

theorem keyT_size (es : List Ent) (sh : Bool) (lv : Int) (x : ByteArray) : (keyT es sh lv x).size ≤ 4000 := by
  unfold keyT
  split
  · rename_i h
    obtain ⟨_, h1, h2⟩ := okE_parts h
    have := keyB_len es sh (rulesOk_parts h2).2 (rn4 x)
    rw [bytesOf_size]
    omega
  · show (0 : Nat) ≤ 4000; omega
end Go.Proofs.YtddelohmppdndaaGreatDoor

namespace Go.Proofs.YtddelohmppdndaaGreatDoor
open Go.RowKit

theorem els_low {w : World} {B B' : Nat} {v : Value} {es : List El} (h : Elems w B' v es) (hB : B ≤ B') : Elems w B v es := by
  refine ⟨h.1, ?_⟩
  rcases h.2 with h | ⟨g, cap, cur, h1, h2, h3⟩
  · exact .inl h
  · exact .inr ⟨g, cap, cur, h1, Nat.le_trans hB h2, h3⟩

theorem aR_good (x : ByteArray) : ∀ y ∈ aR x, goodB y = true := by
  unfold aR
  split
  · intro y hy
    exact apD_good (dec_good x.size x) y (mem_sortM.1 hy)
  · intro y hy; cases hy

/-- The rules' block. -/
def BoxR4 (u : World) (b : Nat) (v : Value) (sh : Bool) (lv : Int) : Prop := u.heap[b]? = some (.cells #[v, .bool sh, .int .i64 lv] 31)

theorem BoxR4.below {B b : Nat} {u u' : World} {v : Value} {sh : Bool} {lv : Int} (h : BoxR4 u b v sh lv) (hb : Below B u u') (hlt : b < B) : BoxR4 u' b v sh lv := (hb.block b hlt).trans h

theorem BoxR4.cells {b : Nat} {u : World} {v : Value} {sh : Bool} {lv : Int} (h : BoxR4 u b v sh lv) : u.cell? ⟨b, 0, none⟩ = some v ∧ u.cell? ⟨b, 1, none⟩ = some (.bool sh) ∧ u.cell? ⟨b, 2, none⟩ = some (.int .i64 lv) :=
  ⟨cell_of_row _ _ 0 _ _ _ h, cell_of_row _ _ 1 _ _ _ h, cell_of_row _ _ 2 _ _ _ h⟩

def EiRel (w0 : World) (es : List Ent) (goal : List El) (v6 v8 : Value) (wr : World) : Prop :=
  ∃ (g : Nat) (rest : List Int) (done : List El), w0.heap.size ≤ g ∧ rest.length ≤ 200 ∧ done.length + 2 * rest.length ≤ 400 ∧ (∀ x ∈ rest, goodB x = true) ∧ MidG wr g v6 rest ∧ Elems wr w0.heap.size v8 done ∧ done ++ elems4 es rest = goal ∧ Below w0.heap.size w0 wr

theorem els_apart {u u' : World} {B g : Nat} {v : Value} {es : List El} {cs : Array Value} (h : Elems u B v es) (hg : u.grownBy u' (some g)) (hc : u.heap[g]? = some (.cells cs 3)) : Elems u' B v es := by
  refine World.ownsRow.kept h hg ?_
  rcases h.2 with ⟨rfl, _⟩ | ⟨g', cap, cur, rfl, _, h3, _⟩
  · exact .inl rfl
  · refine .inr fun e => ?_
    have e2 : g' = g := Option.some.inj e
    subst e2
    rw [hc] at h3
    injection h3 with h4
    injection h4 with _ h5
    exact absurd h5 (by decide)

set_option maxRecDepth 100000 in
set_option maxHeartbeats 8000000 in
/-- The elems of runes that lie in memory made behind wb. -/
theorem elemsRn_any {w wb : World} {B : Nat} {ve v : Value} {es : List Ent} {rs : List Int} (hbw : Below wb.heap.size wb w) (hE : Ents wb B ve es) (hne : es.length ≤ 1048576) (hr : ∀ e ∈ es, e.runes.length ≤ 1048576) (ht : Tabs3 wb) (hI : Ints w wb.heap.size v rs) (hlen : rs.length ≤ 200) (hgood : ∀ x ∈ rs, goodB x = true) :
    Calls Tryz.prog 75 #[ve, v] w fun e w' => ∃ v', e = .returned v' ∧ Elems w' wb.heap.size v' (elems4 es rs) ∧ Below wb.heap.size wb w' := by
  obtain ⟨va, vc, rfl⟩ : ∃ a c, ve = .slice a es.length c := by
    rcases hE.form with ⟨rfl, rfl⟩ | ⟨_, _, rfl, _, _, _, _⟩
    · exact ⟨_, _, rfl⟩
    · exact ⟨_, _, rfl⟩
  have HS2 : Hid (EiRel wb es (elems4 es rs) v (.slice none 0 0) w) := by
    rcases hI.midI with h | ⟨g, f, c, cs, h1, h2, h3, h4, h5, h6⟩
    · exact ⟨wb.heap.size, rs, [], Nat.le_refl _, hlen, by simp; omega, hgood, .inl h, ⟨rfl, .inl ⟨rfl, rfl⟩⟩, rfl, hbw⟩
    · exact ⟨g, rs, [], h4, hlen, by simp; omega, hgood, .inr ⟨f, c, cs, h1, h2, h3, h5, h6⟩, ⟨rfl, .inl ⟨rfl, rfl⟩⟩, rfl, hbw⟩
  have HE : Hid (Ents _ _ _ _) := hE
  have HT : Hid (Tabs3 _) := ht
  generalize elems4 es rs = goal at *
  clear hlen hgood hI hbw hE ht
  go_enter Tryz.func75, Tryz.ntmps75
  go_wp2_with fail
  go_loopw [1, 5] (fun v6 v8 wr => EiRel wb es goal v6 v8 wr) (fun v6 _ _ => sliceLen v6)
  case atStart => exact HS2.out
  case round =>
    clear HS2
    obtain ⟨g, rest, done, hg0, hrl, hdl, hgd, hM, hD, hgo, hbr⟩ := hrel
    have hl6 := hM.len
    have HGO : Hid (done ++ elems4 es rest = goal) := hgo
    clear hgo
    by_cases h0 : rest.length = 0
    · have hr0 : rest = [] := List.eq_nil_of_length_eq_zero h0
      subst hr0
      have HF : Hid (done = goal) := by show _ = _; rw [← HGO.out, elems4_nil, List.append_nil]
      obtain ⟨a6, c6, rfl⟩ : ∃ a c, u1 = .slice a 0 c := by
        rcases hM with ⟨a, c, h, _⟩ | ⟨f, c, cs, h, _⟩
        · exact ⟨a, c, h⟩
        · exact ⟨_, _, h⟩
      have HD : Hid (Elems _ _ _ _) := hD
      have HBR : Hid (Below _ _ _) := hbr
      clear hM HGO hD hbr
      go_wp2
      go_ret
      rw [← HF.out]
      exact ⟨_, rfl, HD.out, HBR.out⟩
    · obtain ⟨f, c, cs, h61, h62, h63, h64, h65⟩ : ∃ f c cs, u1 = .slice (some ⟨g, f, none⟩) rest.length c ∧ rest.length ≤ c ∧ c ≤ maxLen ∧ wr.heap[g]? = some (.cells cs 3) ∧ ∀ j x, rest[j]? = some x → wr.cell? ⟨g, f + j, none⟩ = some (.int .i64 x) := by
        rcases hM with ⟨a, c, _, h⟩ | h
        · subst h; exact absurd rfl h0
        · exact h
      subst h61
      have hk := take4_kept (es := es) (l := rest) (by omega)
      have TR := takeRun_row wr wb B g f c cs (.slice va es.length vc) es rest hbr HE.out hne hr HT.out hg0 (by omega) (by omega) h62 h63 h64 h65
      have HGO2 : Hid ((done ++ elsOf es (take4 es rest).1) ++ elems4 es (take4 es rest).2 = goal) := by
        show _ = _
        rw [← HGO.out, elems4_step (es := es) (l := rest) (by omega), List.append_assoc]
      have hel := elsOf_len es (take4 es rest).1
      obtain ⟨k1, k2, k3, k4, k5⟩ := hk
      generalize (take4 es rest).1 = run at *
      generalize (take4 es rest).2 = rest2 at *
      have HG64 : Hid (wr.heap[g]? = some (.cells cs 3)) := h64
      have hgr : ∀ x ∈ run, goodB x = true := fun x hx => hgd x (k4 x hx)
      have hgr2 : ∀ x ∈ rest2, goodB x = true := fun x hx => hgd x (k5 x hx)
      have HGR2 : Hid (∀ x ∈ rest2, goodB x = true) := hgr2
      have HGR : Hid (∀ x ∈ run, goodB x = true) := hgr
      have HD : Hid (Elems _ _ _ _) := hD
      have hszr := hbr.size
      have h08 : (0 : Int) < (rest.length : Int) := by omega
      clear h64 h65 hM HGO hgd hgr hgr2 hD k3 k4 k5 hbr
      go_wp2_with fail
      refine TR.mono ?_
      rintro e w3 ⟨vr, vq, rfl, ir, mq, b3, g3⟩
      clear TR
      have HD3 : Hid (Elems w3 wb.heap.size u5 done) := els_apart HD.out g3 HG64.out
      have EO := elemsOf_any (HE.out.below b3) hne hr (HT.out.below b3) ir k2 HGR.out
      have hsz3 := b3.size
      have HMQ : Hid (MidG _ _ _ _) := mq
      have HB3 : Hid (Below _ _ _) := b3
      clear HD g3 HG64 ir mq b3 HGR
      go_wp2_with fail
      refine EO.mono ?_
      rintro e w4 ⟨v4, rfl, e4, b4⟩
      clear EO
      have b4' : Below wb.heap.size wb w4 := HB3.out.trans (b4.mono HB3.out.size)
      have d4 : Elems w4 wb.heap.size u5 done := HD3.out.below b4
      have m4 : MidG w4 g vq rest2 := HMQ.out.below b4
      have HM4 : Hid (MidG _ _ _ _) := m4
      have HB4 : Hid (Below _ _ _) := b4'
      have hsz4 := b4'.size
      clear HD3 HMQ HB3 b4 b4' m4
      go_wp2_with (at_builtin; refine append_els rfl _ _ rfl wb.heap.size _ u5 v4 done (elsOf es run) rfl rfl d4 e4 (by omega) (by omega) ?_)
      intro v5 w5 e5 g5
      have HM5 : Hid (MidG w5 g vq rest2) := by
        rcases HM4.out with h | ⟨f, c, cs, q1, q2, q3, q4, q5⟩
        · exact .inl h
        · refine MidG.kept (.inr ⟨f, c, cs, q1, q2, q3, q4, q5⟩) g5 fun c => ?_
          rcases d4.2 with ⟨rfl, _⟩ | ⟨g', cap, cur, rfl, _, h3, _⟩
          · cases c
          · have e2 : g = g' := Option.some.inj c
            subst e2
            rw [q4] at h3
            injection h3 with h4
            injection h4 with _ h5
            exact absurd h5 (by decide)
      have HB5 : Hid (Below wb.heap.size wb w5) := Below.grown HB4.out g5 HB4.out.size (fun j hj => (World.ownsRow.lt d4 j hj).1)
      have HE5 : Hid (Elems _ _ _ _) := e5
      clear e5 g5 d4 e4 HM4 HB4
      go_wp2
      refine ⟨⟨g, rest2, done ++ elsOf es run, hg0, by omega, by rw [List.length_append]; omega, HGR2.out, HM5.out, HE5.out, HGO2.out, HB5.out⟩, ?_⟩
      have := HM5.out.len
      show sliceLen _ < sliceLen _
      rw [this]
      show _ < rest.length
      omega

set_option maxRecDepth 100000 in
set_option maxHeartbeats 8000000 in
theorem implElemsIn_any {w : World} {B : Nat} {ve : Value} {es : List Ent} {sh : Bool} {lv : Int} (x : ByteArray) (hx : x.size ≤ 1048576) (hE : Ents w B ve es) (hr : ∀ e ∈ es, e.runes.length ≤ 1048576) (ht : Tabs3 w) :
    Calls Tryz.prog 59 #[.agg #[ve, .bool sh, .int .i64 lv], .string x] w fun e w' => ∃ v', e = .returned (.tuple #[v', .bool (okE es lv x)]) ∧ Elems w' w.heap.size v' (elsA es lv x) ∧ Below w.heap.size w w' := by
  obtain ⟨va, vc, rfl⟩ : ∃ a c, ve = .slice a es.length c := by
    rcases hE.form with ⟨rfl, rfl⟩ | ⟨_, _, rfl, _, _, _, _⟩
    · exact ⟨_, _, rfl⟩
    · exact ⟨_, _, rfl⟩
  have hbx : Below w.heap.size w (w.alloc (.cells #[.slice va es.length vc, .bool sh, .int .i64 lv] 31)) := (Below.refl _ _).alloc (Nat.le_refl _) _
  have hbox : BoxR4 (w.alloc (.cells #[.slice va es.length vc, .bool sh, .int .i64 lv] 31)) w.heap.size (.slice va es.length vc) sh lv := heap_alloc_new w _
  have AT := apartT_any x hx (w.alloc (.cells #[.slice va es.length vc, .bool sh, .int .i64 lv] 31)) (ht.below hbx)
  have hlen := aR_len x
  have hgood := aR_good x
  unfold elsA okE
  have HE : Hid (Ents _ _ _ _) := hE.below hbx
  have HT : Hid (Tabs3 _) := ht.below hbx
  clear hE ht
  cases hok : ok4 x
  · rw [hok] at AT
    rw [Bool.false_and, if_neg (by simp)]
    clear hok
    go_enter Tryz.func59, Tryz.ntmps59
    go_wp2_with fail
    refine AT.mono ?_
    rintro e w1 ⟨v1, rfl, i1, b1⟩
    clear AT
    go_wp2
    go_ret2
    exact ⟨_, rfl, ⟨rfl, .inl ⟨rfl, rfl⟩⟩, hbx.trans (b1.mono hbx.size)⟩
  · have har : aR x = rn4 x := by unfold aR; rw [hok]; rfl
    rw [hok, har] at AT
    rw [har] at hlen hgood
    rw [Bool.true_and]
    clear hok har
    generalize rn4 x = rs at *
    have GR := fun (u : World) (hu : Below (w.alloc (.cells #[.slice va es.length vc, .bool sh, .int .i64 lv] 31)).heap.size (w.alloc (.cells #[.slice va es.length vc, .bool sh, .int .i64 lv] 31)) u) => implGood3_any (sh := sh) (lv := lv) (HE.out.below hu) hr (HT.out.below hu)
    have hlb : w.heap.size < (w.alloc (.cells #[.slice va es.length vc, .bool sh, .int .i64 lv] 31)).heap.size := by simp
    cases hro : rulesOk es lv
    · rw [hro] at GR
      rw [if_neg (by simp)]
      clear hro
      go_enter Tryz.func59, Tryz.ntmps59
      go_wp2_with fail
      refine AT.mono ?_
      rintro e w1 ⟨v1, rfl, i1, b1⟩
      have G1 := GR _ b1
      obtain ⟨c0, c1, c2⟩ := (hbox.below b1 hlb).cells
      have hsz1 := b1.size
      clear AT GR hbox
      go_wp2_with fail
      refine G1.mono ?_
      rintro e w2 ⟨rfl, b2⟩
      clear G1
      have b3 := hbx.trans ((b1.trans (b2.mono b1.size)).mono hbx.size)
      go_wp2
      go_ret2
      exact ⟨_, rfl, ⟨rfl, .inl ⟨rfl, rfl⟩⟩, b3⟩
    · rw [hro] at GR
      rw [if_pos rfl]
      have hne : es.length ≤ 1048576 := by have := (of_decide_eq_true (show decide _ = true from hro)).1; omega
      clear hro
      obtain ⟨wb, HWB⟩ : ∃ wb, Hid (wb = w.alloc (.cells #[.slice va es.length vc, .bool sh, .int .i64 lv] 31)) := ⟨_, rfl⟩
      have hwb := HWB.out
      rw [← hwb] at hbx hbox HE HT hlb AT GR
      clear hwb
      go_enter Tryz.func59, Tryz.ntmps59
      go_wp2_with fail
      rw [← HWB.out]
      refine AT.mono ?_
      rintro e w1 ⟨v1, rfl, i1, b1⟩
      have G1 := GR _ b1
      obtain ⟨c0, c1, c2⟩ := (hbox.below b1 hlb).cells
      have hsz1 := b1.size
      have hsw : w.heap.size < w1.heap.size := by omega
      clear AT GR HWB
      go_wp2_with fail
      refine G1.mono ?_
      rintro e w2 ⟨rfl, b2⟩
      have b12 := b1.trans (b2.mono b1.size)
      have ER := elemsRn_any b12 HE.out hne hr HT.out (i1.below b2) hlen hgood
      clear G1 c0 c1 c2
      obtain ⟨c0, c1, c2⟩ := (hbox.below b12 hlb).cells
      have hsz2 := b12.size
      have hsw2 : w.heap.size < w2.heap.size := by omega
      clear i1 b1 b2 b12
      go_wp2_with fail
      refine ER.mono ?_
      rintro e w3 ⟨v3, rfl, e3, b3⟩
      clear ER c0 c1 c2
      go_wp2
      go_ret2
      exact ⟨_, rfl, els_low e3 hbx.size, hbx.trans (b3.mono hbx.size)⟩
end Go.Proofs.YtddelohmppdndaaGreatDoor

namespace Go.Proofs.YtddelohmppdndaaGreatDoor
open Go.RowKit

theorem counted_nil (sh : Bool) : counted sh [] = [] := rfl
theorem fourths_nil (sh : Bool) : fourths sh [] = [] := rfl

/-- The block of counted elems. -/
def BoxC (u : World) (b : Nat) (v v' : Value) : Prop := u.heap[b]? = some (.cells #[v, v'] 83)
theorem BoxC.below {B b : Nat} {u u' : World} {v v' : Value} (h : BoxC u b v v') (hb : Below B u u') (hlt : b < B) : BoxC u' b v v' := (hb.block b hlt).trans h
theorem BoxC.cells {b : Nat} {u : World} {v v' : Value} (h : BoxC u b v v') : u.cell? ⟨b, 0, none⟩ = some v ∧ u.cell? ⟨b, 1, none⟩ = some v' ∧ ∀ j, u.frozen? ⟨b, j, none⟩ = false :=
  ⟨cell_of_row _ _ 0 _ _ _ h, cell_of_row _ _ 1 _ _ _ h, fun j => by unfold BoxC at h; simp [World.frozen?, h]⟩

theorem els_form {w : World} {B : Nat} {v : Value} {es : List El} (h : Elems w B v es) : ∃ a c, v = .slice a es.length c := by
  obtain ⟨a, c, h, _⟩ := els_slice h; exact ⟨a, c, h⟩
theorem ints_form {w : World} {B : Nat} {v : Value} {l : List Int} (h : Ints w B v l) : ∃ a c, v = .slice a l.length c := by
  obtain ⟨a, c, h, _⟩ := ints_slice h; exact ⟨a, c, h⟩

theorem els_set2 {w : World} {B b : Nat} {v x y : Value} {es : List El} (h : Elems w B v es) (hb : b < B) : Elems ((w.setCell ⟨b, 0, none⟩ x).setCell ⟨b, 1, none⟩ y) B v es :=
  World.ownsRow.kept (World.ownsRow.kept h (setCell_grown w b 0 x) (by
    cases e : v.ownBlock with
    | none => exact .inl rfl
    | some g => exact .inr fun c => by have := (World.ownsRow.lt h g e).1; cases c; omega)) (setCell_grown _ b 1 y) (by
    cases e : v.ownBlock with
    | none => exact .inl rfl
    | some g => exact .inr fun c => by have := (World.ownsRow.lt h g e).1; cases c; omega)
theorem ints_set2 {w : World} {B b : Nat} {v x y : Value} {l : List Int} (h : Ints w B v l) (hb : b < B) : Ints ((w.setCell ⟨b, 0, none⟩ x).setCell ⟨b, 1, none⟩ y) B v l :=
  World.ownsRow.kept (World.ownsRow.kept h (setCell_grown w b 0 x) (by
    cases e : v.ownBlock with
    | none => exact .inl rfl
    | some g => exact .inr fun c => by have := (World.ownsRow.lt h g e).1; cases c; omega)) (setCell_grown _ b 1 y) (by
    cases e : v.ownBlock with
    | none => exact .inl rfl
    | some g => exact .inr fun c => by have := (World.ownsRow.lt h g e).1; cases c; omega)
theorem below_set2 {w u : World} {b B : Nat} {x y : Value} (h : Below B w u) (hb : B ≤ b) : Below B w ((u.setCell ⟨b, 0, none⟩ x).setCell ⟨b, 1, none⟩ y) := (h.setCell hb _).setCell hb _

set_option maxRecDepth 100000 in
set_option maxHeartbeats 4000000 in
theorem count_any {w : World} {B : Nat} {ve : Value} {es : List Ent} {sh : Bool} {lv : Int} (x : ByteArray) (hx : x.size ≤ 1048576) (hE : Ents w B ve es) (hr : ∀ e ∈ es, e.runes.length ≤ 1048576) (ht : Tabs3 w) :
    Calls Tryz.prog 41 #[.agg #[ve, .bool sh, .int .i64 lv], .string x] w fun e w' => ∃ v v', e = .returned (.tuple #[.agg #[v, v'], .bool (okE es lv x)]) ∧ Elems w' w.heap.size v (counted sh (elsA es lv x)) ∧ Ints w' w.heap.size v' (fourths sh (elsA es lv x)) ∧ Below w.heap.size w w' := by
  obtain ⟨va, vc, rfl⟩ : ∃ a c, ve = .slice a es.length c := by
    rcases hE.form with ⟨rfl, rfl⟩ | ⟨_, _, rfl, _, _, _, _⟩
    · exact ⟨_, _, rfl⟩
    · exact ⟨_, _, rfl⟩
  have hb2 : Below w.heap.size w ((w.alloc (.cells #[.slice va es.length vc, .bool sh, .int .i64 lv] 31)).alloc (.cells #[.slice none 0 0, .slice none 0 0] 83)) := ((Below.refl _ _).alloc (Nat.le_refl _) _).alloc (by simp) _
  have hbox : BoxR4 ((w.alloc (.cells #[.slice va es.length vc, .bool sh, .int .i64 lv] 31)).alloc (.cells #[.slice none 0 0, .slice none 0 0] 83)) w.heap.size (.slice va es.length vc) sh lv := by
    unfold BoxR4
    rw [Below.heap_alloc _ _ _ (by simp)]; exact heap_alloc_new w _
  have hboc : BoxC ((w.alloc (.cells #[.slice va es.length vc, .bool sh, .int .i64 lv] 31)).alloc (.cells #[.slice none 0 0, .slice none 0 0] 83)) (w.heap.size + 1) (.slice none 0 0) (.slice none 0 0) := heap_alloc2_new w _ _
  have hsz : ((w.alloc (.cells #[.slice va es.length vc, .bool sh, .int .i64 lv] 31)).alloc (.cells #[.slice none 0 0, .slice none 0 0] 83)).heap.size = w.heap.size + 1 + 1 := by simp
  have EI := implElemsIn_any (sh := sh) (lv := lv) x hx (hE.below hb2) hr (ht.below hb2)
  have hlen := elsA_len es lv x
  have HSZ : Hid (_ = _) := hsz
  have HBX : Hid (BoxR4 _ _ _ _ _) := hbox
  have HBC : Hid (BoxC _ _ _ _) := hboc
  have HB2 : Hid (Below _ _ _) := hb2
  clear hE ht hr hx hsz hbox hboc hb2
  cases hok : okE es lv x
  · rw [hok] at EI
    have he0 : elsA es lv x = [] := by unfold elsA; rw [hok]; rfl
    rw [he0, counted_nil, fourths_nil]
    clear hok he0 hlen
    go_enter Tryz.func41, Tryz.ntmps41
    go_wp2_with fail
    refine EI.mono ?_
    rintro e w1 ⟨v1, rfl, i1, b1⟩
    have hc1 := HBC.out.below b1 (by rw [HSZ.out]; omega)
    obtain ⟨c0, c1, cf⟩ := hc1.cells
    have hl1 : w.heap.size + 1 < w1.heap.size := (Array.getElem?_eq_some_iff.1 hc1).1
    have HB1 : Hid (Below _ _ _) := HB2.out.trans (b1.mono HB2.out.size)
    clear EI i1 b1 hc1
    go_wp2
    refine bodyPost_ret (v := .tuple #[.agg #[.slice none 0 0, .slice none 0 0], .bool false]) ?_ rfl ⟨_, _, rfl, ⟨rfl, .inl ⟨rfl, rfl⟩⟩, ⟨rfl, .inl ⟨rfl, rfl⟩⟩, below_set2 HB1.out (by omega)⟩
    rw [results_cell_tmp rfl]
    go_simp
  · rw [hok] at EI
    clear hok
    generalize elsA es lv x = el at *
    go_enter Tryz.func41, Tryz.ntmps41
    go_wp2_with fail
    refine EI.mono ?_
    rintro e w1 ⟨v1, rfl, i1, b1⟩
    have hx1 := HBX.out.below b1 (by rw [HSZ.out]; omega)
    have hc1 := HBC.out.below b1 (by rw [HSZ.out]; omega)
    obtain ⟨p0, p1, p2⟩ := hx1.cells
    have hl1 : w.heap.size + 1 < w1.heap.size := (Array.getElem?_eq_some_iff.1 hc1).1
    have HB1 : Hid (Below _ _ _) := HB2.out.trans (b1.mono HB2.out.size)
    have FO := implFourth_ok sh (by omega) i1
    have HC1 : Hid (BoxC _ _ _ _) := hc1
    clear EI i1 b1 hc1 hx1
    go_wp2_with fail
    refine FO.mono ?_
    rintro e w2 ⟨v2, v3, rfl, i2, e2, b2⟩
    have hc2 := HC1.out.below b2 hl1
    obtain ⟨c0, c1, cf⟩ := hc2.cells
    have hl2 : w.heap.size + 1 < w2.heap.size := (Array.getElem?_eq_some_iff.1 hc2).1
    have HBB : Hid (Below _ _ _) := HB1.out.trans (b2.mono HB1.out.size)
    have HI2 : Hid (Ints _ _ _ _) := i2
    have HE2 : Hid (Elems _ _ _ _) := e2
    obtain ⟨a3, k3, rfl⟩ := els_form e2
    obtain ⟨a2, k2, rfl⟩ := ints_form i2
    clear FO p0 p1 p2 b2 hc2 i2 e2 HC1
    go_wp2
    refine bodyPost_ret (v := .tuple #[.agg #[.slice a3 (counted sh el).length k3, .slice a2 (fourths sh el).length k2], .bool true]) ?_ rfl ⟨_, _, rfl, els_low (els_set2 HE2.out hl1) (by omega), low_ints (ints_set2 HI2.out hl1) (by omega), below_set2 HBB.out (by omega)⟩
    rw [results_cell_tmp rfl]
    go_simp
end Go.Proofs.YtddelohmppdndaaGreatDoor

namespace Go.Proofs.YtddelohmppdndaaGreatDoor

theorem all2_pos (r : Int) : 1 ≤ (all2 r).length := by
  obtain ⟨h1, h2⟩ := all2_head r
  by_cases c : cls r = 0
  · obtain ⟨s, u, h, _⟩ := h1 c
    rw [h]; simp
  · rw [all2_leaf (h2 (by have := (cls_range r).1; omega))]; simp

theorem len_apD (zs : List Int) : zs.length ≤ (apD zs).length := by
  induction zs with
  | nil => simp
  | cons x zs ih =>
    have h1 := all2_pos x
    have e : apD (x :: zs) = all2 x ++ apD zs := by simp [apD]
    rw [e, List.length_append, List.length_cons]
    omega
end Go.Proofs.YtddelohmppdndaaGreatDoor

namespace Go.Proofs.YtddelohmppdndaaGreatDoor

theorem goes_ge (t : ByteArray) (m : Nat) : ∀ f k lo hi r, f + k = m + 1 → k ≤ (Dec.goes t m f k lo hi r).2.1 := by
  intro f
  induction f with
  | zero => intro k lo hi r h; simp [Dec.goes]; omega
  | succ f ih =>
    intro k lo hi r h
    simp only [Dec.goes]
    split
    · have := ih (k + 1) 128 191 (r * 64 + Dec.bt t k % 64) (by omega)
      omega
    · exact Nat.le_refl _

theorem goes_front {t u : ByteArray} {m : Nat} (hb : ∀ k, k < u.size → Dec.bt u k = Dec.bt t k) : ∀ f k lo hi r, f + k = m + 1 → (Dec.goes t m f k lo hi r).2.1 = u.size → Dec.goes u m f k lo hi r = Dec.goes t m f k lo hi r := by
  intro f
  induction f with
  | zero => intro k lo hi r _ _; simp [Dec.goes]
  | succ f ih =>
    intro k lo hi r h hn
    simp only [Dec.goes] at hn ⊢
    by_cases c : k < t.size ∧ lo ≤ Dec.bt t k ∧ Dec.bt t k ≤ hi
    · rw [if_pos c] at hn ⊢
      have hk : k < u.size := by have := goes_ge t m f (k + 1) 128 191 (r * 64 + Dec.bt t k % 64) (by omega); omega
      rw [hb k hk, if_pos ⟨hk, c.2⟩]
      exact ih (k + 1) 128 191 _ (by omega) hn
    · rw [if_neg c] at hn ⊢
      have hk : k = u.size := hn
      rw [if_neg (fun d => by omega)]

theorem one_front {t u : ByteArray} (h0 : 0 < t.size) (hn : (Dec.one t).2.1 = u.size) (hb : ∀ k, k < u.size → Dec.bt u k = Dec.bt t k) : Dec.one u = Dec.one t := by
  have hl := Dec.one_le t h0
  have e0 := hb 0 (by omega)
  unfold Dec.one at hn ⊢
  rw [e0]
  split
  · rfl
  · rename_i c
    rw [if_neg c] at hn
    exact goes_front hb _ _ _ _ _ rfl hn

theorem size_cut (s : ByteArray) {a n : Nat} (h : a + n ≤ s.size) : (s.extract a (a + n)).size = n := by simp [ByteArray.size_extract]; omega

theorem bt_cut (s : ByteArray) {a n k : Nat} (h : a + n ≤ s.size) (hk : k < n) : Dec.bt (s.extract a (a + n)) k = Dec.bt (s.extract a s.size) k := by
  rw [Dec.bt_extract s a k (by omega)]
  have h1 : k < (s.extract a (a + n)).size := by rw [size_cut s h]; exact hk
  rw [← Dec.bt_get _ _ h1, ← Dec.bt_get _ _ (by omega : a + k < s.size)]
  simp [ByteArray.getElem_extract]

/-- A sequence alone is read as it is at the front of more. -/
theorem dec_alone (s : ByteArray) {a : Nat} (h : a < s.size) : a + (Dec.one (s.extract a s.size)).2.1 ≤ s.size ∧ 1 ≤ (Dec.one (s.extract a s.size)).2.1 ∧
    (Dec.decT (s.extract a (a + (Dec.one (s.extract a s.size)).2.1)).size (s.extract a (a + (Dec.one (s.extract a s.size)).2.1))).1 = [(Dec.one (s.extract a s.size)).1] := by
  have hz := Dec.size_extract s a
  have hl := Dec.one_le (s.extract a s.size) (by omega)
  have hle : a + (Dec.one (s.extract a s.size)).2.1 ≤ s.size := by omega
  refine ⟨hle, hl.1, ?_⟩
  have hsz := size_cut s hle
  have ho := one_front (u := s.extract a (a + (Dec.one (s.extract a s.size)).2.1)) (by omega) hsz.symm (fun k hk => bt_cut s hle (by rw [hsz] at hk; exact hk))
  generalize hN : (Dec.one (s.extract a s.size)).2.1 = n at *
  obtain ⟨m, rfl⟩ : ∃ m, n = m + 1 := ⟨n - 1, by omega⟩
  rw [hsz]
  simp only [Dec.decT]
  rw [if_pos (by omega), ho, hN]
  rw [Dec.decT_end _ _ (by rw [Dec.size_extract]; omega)]

/-- Whether a text may be cut ahead of a rune. -/
def cutB (r : Int) : Bool := decide (cls (at0 (nD [r]) 0) = 0) && !decide (4449 ≤ at0 (nD [r]) 0 ∧ at0 (nD [r]) 0 ≤ 4546)

theorem nD_one (r : Int) : 1 ≤ (nD [r]).length ∧ (nD [r]).length ≤ 9 := by
  rw [nD_len]
  have h := apD_len [r]
  have h2 := len_apD [r]
  simp at h h2
  omega

def cutsFrom (s : ByteArray) : Nat → Nat → List Int
  | 0, _ => []
  | f + 1, a => if a < s.size then (if a = 0 ∨ cutB (Dec.one (s.extract a s.size)).1 = true then [(a : Int)] else []) ++ cutsFrom s f (a + (Dec.one (s.extract a s.size)).2.1) else []

def cutsPr (s : ByteArray) : Nat → Nat → List Int
  | 0, _ => []
  | f + 1, a => if a < s.size then (if 0 < a ∧ cutB (Dec.one (s.extract a s.size)).1 = true then [(a : Int)] else []) ++ cutsPr s f (a + (Dec.one (s.extract a s.size)).2.1) else []

theorem cuts_same (s : ByteArray) : ∀ f a, 0 < a → cutsPr s f a = cutsFrom s f a := by
  intro f
  induction f with
  | zero => intro a _; rfl
  | succ f ih =>
    intro a ha
    simp only [cutsPr, cutsFrom]
    by_cases h : a < s.size
    · rw [if_pos h, if_pos h, ih _ (by omega)]
      congr 1
      by_cases c : cutB (Dec.one (s.extract a s.size)).1 = true
      · rw [if_pos ⟨ha, c⟩, if_pos (.inr c)]
      · rw [if_neg (fun d => c d.2), if_neg (fun d => by rcases d with d | d; omega; exact c d)]
    · rw [if_neg h, if_neg h]

/-- All cuts of a text. -/
def cutsL (s : ByteArray) : List Int := cutsFrom s s.size 0 ++ [(s.size : Int)]

theorem cutsFrom_end (s : ByteArray) (f a : Nat) (h : ¬ a < s.size) : cutsFrom s f a = [] := by
  cases f with
  | zero => rfl
  | succ f => simp only [cutsFrom]; rw [if_neg h]

theorem cutsPr_end (s : ByteArray) (f a : Nat) (h : ¬ a < s.size) : cutsPr s f a = [] := by
  cases f with
  | zero => rfl
  | succ f => simp only [cutsPr]; rw [if_neg h]

/-- As the program makes them: 0 first. -/
theorem cuts_prog (s : ByteArray) (h : 0 < s.size) : [(0 : Int)] ++ cutsPr s s.size 0 = cutsFrom s s.size 0 := by
  obtain ⟨f, hf⟩ : ∃ f, s.size = f + 1 := ⟨s.size - 1, by omega⟩
  rw [hf]
  simp only [cutsPr, cutsFrom]
  have hl := (dec_alone s h).2.1
  rw [if_pos h, if_pos h, if_neg (fun d => by omega), if_pos (.inl trivial), List.nil_append, cuts_same s f _ (by omega)]
  rfl

theorem cutsFrom_len (s : ByteArray) : ∀ f a, (cutsFrom s f a).length ≤ f := by
  intro f
  induction f with
  | zero => intro a; simp [cutsFrom]
  | succ f ih =>
    intro a
    simp only [cutsFrom]
    split
    · have := ih (a + (Dec.one (s.extract a s.size)).2.1)
      rw [List.length_append]
      split <;> simp <;> omega
    · simp
end Go.Proofs.YtddelohmppdndaaGreatDoor

namespace Go.Proofs.YtddelohmppdndaaGreatDoor

def decL (x : ByteArray) : List Int := (Dec.decT x.size x).1

theorem decT_more : ∀ (f g : Nat) (t : ByteArray), t.size ≤ f → t.size ≤ g → Dec.decT f t = Dec.decT g t := by
  intro f
  induction f with
  | zero =>
    intro g t h _
    rw [Dec.decT_end _ t (by omega), Dec.decT_end _ t (by omega)]
  | succ f ih =>
    intro g t hf hg
    by_cases h0 : 0 < t.size
    · obtain ⟨g, rfl⟩ : ∃ g', g = g' + 1 := ⟨g - 1, by omega⟩
      have hl := Dec.one_le t h0
      have hz := Dec.size_extract t (Dec.one t).2.1
      simp only [Dec.decT, if_pos h0]
      rw [ih g _ (by omega) (by omega)]
    · rw [Dec.decT_end _ t (by omega), Dec.decT_end _ t (by omega)]

theorem goes_pre {t u : ByteArray} {m : Nat} (hb : ∀ k, k < u.size → k < t.size ∧ Dec.bt u k = Dec.bt t k) : ∀ f k lo hi r, f + k = m + 1 → (Dec.goes t m f k lo hi r).2.1 ≤ u.size → Dec.goes u m f k lo hi r = Dec.goes t m f k lo hi r := by
  intro f
  induction f with
  | zero => intro k lo hi r _ _; simp [Dec.goes]
  | succ f ih =>
    intro k lo hi r h hn
    simp only [Dec.goes] at hn ⊢
    by_cases c : k < t.size ∧ lo ≤ Dec.bt t k ∧ Dec.bt t k ≤ hi
    · rw [if_pos c] at hn ⊢
      have hk : k < u.size := by have := goes_ge t m f (k + 1) 128 191 (r * 64 + Dec.bt t k % 64) (by omega); omega
      rw [(hb k hk).2, if_pos ⟨hk, c.2⟩]
      exact ih (k + 1) 128 191 _ (by omega) hn
    · rw [if_neg c]
      rw [if_neg (fun d => c ⟨(hb k d.1).1, by rw [← (hb k d.1).2]; exact d.2⟩)]

theorem one_pre {t u : ByteArray} (h0 : 0 < u.size) (hb : ∀ k, k < u.size → k < t.size ∧ Dec.bt u k = Dec.bt t k) (hn : (Dec.one t).2.1 ≤ u.size) : Dec.one u = Dec.one t := by
  have e0 := (hb 0 h0).2
  unfold Dec.one at hn ⊢
  rw [e0]
  split
  · rfl
  · rename_i c
    rw [if_neg c] at hn
    exact goes_pre hb _ _ _ _ _ rfl hn

theorem size_part (s : ByteArray) {a q : Nat} (h : q ≤ s.size) : (s.extract a q).size = q - a := by simp [ByteArray.size_extract]; omega

theorem bt_part (s : ByteArray) {a q k : Nat} (h : q ≤ s.size) (hk : k < q - a) : k < (s.extract a s.size).size ∧ Dec.bt (s.extract a q) k = Dec.bt (s.extract a s.size) k := by
  have hz := Dec.size_extract s a
  refine ⟨by omega, ?_⟩
  rw [Dec.bt_extract s a k (by omega)]
  have h1 : k < (s.extract a q).size := by rw [size_part s h]; exact hk
  rw [← Dec.bt_get _ _ h1, ← Dec.bt_get _ _ (by omega : a + k < s.size)]
  simp [ByteArray.getElem_extract]

theorem part_rest (s : ByteArray) {a n q : Nat} (h : q ≤ s.size) : (s.extract a q).extract n (s.extract a q).size = s.extract (a + n) q := by
  ext i
  · simp [ByteArray.size_extract]; omega
  · simp [Nat.add_assoc]

/-- The width of the sequence at a place. -/
def wid (s : ByteArray) (a : Nat) : Nat := (Dec.one (s.extract a s.size)).2.1
def rnAt (s : ByteArray) (a : Nat) : Int := (Dec.one (s.extract a s.size)).1

theorem wid_bd (s : ByteArray) {a : Nat} (h : a < s.size) : 1 ≤ wid s a ∧ a + wid s a ≤ s.size := ⟨(dec_alone s h).2.1, (dec_alone s h).1⟩

theorem decL_step (s : ByteArray) {a q : Nat} (haq : a < q) (hq : q ≤ s.size) (hn : a + wid s a ≤ q) : decL (s.extract a q) = rnAt s a :: decL (s.extract (a + wid s a) q) := by
  have hz := size_part s (a := a) hq
  have ho : Dec.one (s.extract a q) = Dec.one (s.extract a s.size) := one_pre (by omega) (fun k hk => bt_part s hq (by omega)) (by unfold wid at hn; omega)
  unfold decL
  obtain ⟨f, hf⟩ : ∃ f, (s.extract a q).size = f + 1 := ⟨q - a - 1, by omega⟩
  have hw := wid_bd s (show a < s.size by omega)
  have hz2 := size_part s (a := a + wid s a) hq
  rw [hf]
  simp only [Dec.decT]
  rw [if_pos (by omega), ho, part_rest s hq]
  show rnAt s a :: (Dec.decT f (s.extract (a + wid s a) q)).1 = _
  rw [decT_more f (s.extract (a + wid s a) q).size _ (by omega) (Nat.le_refl _)]

/-- A place that is come to, sequence by sequence. -/
inductive Reach (s : ByteArray) : Nat → Nat → Prop
  | refl (a : Nat) : Reach s a a
  | step {a p : Nat} (h : a < s.size) (r : Reach s (a + wid s a) p) : Reach s a p

theorem Reach.le {s : ByteArray} {a p : Nat} (h : Reach s a p) : a ≤ p ∧ (a ≤ s.size → p ≤ s.size) := by
  induction h with
  | refl a => exact ⟨Nat.le_refl _, fun h => h⟩
  | step h _ ih =>
    have := wid_bd s h
    exact ⟨by omega, fun _ => ih.2 (by omega)⟩

theorem Reach.trans {s : ByteArray} {a p q : Nat} (h : Reach s a p) (h' : Reach s p q) : Reach s a q := by
  induction h with
  | refl a => exact h'
  | step h _ ih => exact .step h (ih h')

theorem decL_nil (s : ByteArray) (a : Nat) : decL (s.extract a a) = [] := by
  unfold decL
  have : (s.extract a a).size = 0 := by simp
  rw [Dec.decT_end _ _ this]

/-- Decoded in two parts. -/
theorem decL_cut {s : ByteArray} {a p q : Nat} (h : Reach s a p) (hp : p ≤ q) (hq : q ≤ s.size) : decL (s.extract a q) = decL (s.extract a p) ++ decL (s.extract p q) := by
  induction h with
  | refl a => rw [decL_nil, List.nil_append]
  | @step a p h r ih =>
    have hw := wid_bd s h
    have hl := r.le.1
    have hps : p ≤ s.size := by omega
    rw [decL_step s (by omega) hq (by omega), decL_step s (by omega) hps (by omega), ih hp]
    rfl

theorem insR_mem {a : List Int} {x y : Int} (h : y ∈ a) : y ∈ insR a x := by
  induction a with
  | nil => cases h
  | cons z t ih =>
    unfold insR
    split
    · rcases List.mem_cons.1 h with rfl | h
      · exact List.mem_cons_self
      · exact List.mem_cons_of_mem _ (ih h)
    · exact List.mem_cons_of_mem _ h

theorem insR_app {a : List Int} (b : List Int) {x : Int} (h : ∃ y ∈ a, cls y = 0) : insR (a ++ b) x = insR a x ++ b := by
  induction a with
  | nil => obtain ⟨y, hy, _⟩ := h; cases hy
  | cons z t ih =>
    show insR (z :: (t ++ b)) x = insR (z :: t) x ++ b
    by_cases c : 0 < cls x ∧ cls x < cls z
    · rw [insR_go c, insR_go c, ih (by
        obtain ⟨y, hy, hc⟩ := h
        rcases List.mem_cons.1 hy with rfl | hy
        · omega
        · exact ⟨y, hy, hc⟩)]
      rfl
    · rw [insR_stop c, insR_stop c]
      rfl

theorem fold_app (b : List Int) : ∀ (m a : List Int), (∃ y ∈ a, cls y = 0) → m.foldl insR (a ++ b) = m.foldl insR a ++ b := by
  intro m
  induction m with
  | nil => intro a _; rfl
  | cons x m ih =>
    intro a h
    rw [List.foldl_cons, List.foldl_cons, insR_app b h]
    obtain ⟨y, hy, hc⟩ := h
    exact ih _ ⟨y, insR_mem hy, hc⟩

/-- Marks are sorted in two parts where the second begins with a starter. -/
theorem sortM_app {p q : List Int} (h : q = [] ∨ cls (at0 q 0) = 0) : sortM (p ++ q) = sortM p ++ sortM q := by
  rcases h with rfl | h
  · rw [List.append_nil]
    have : sortM [] = [] := rfl
    rw [this, List.append_nil]
  · cases q with
    | nil => rw [List.append_nil]; have : sortM [] = [] := rfl; rw [this, List.append_nil]
    | cons y m =>
      have hy : cls y = 0 := h
      have i1 : ∀ t : List Int, insR t y = [y] ++ t := fun t => by
        cases t with
        | nil => rfl
        | cons z t => rw [insR_stop (by omega)]; rfl
      rw [sortM_stk, sortM_stk, sortM_stk]
      have e : stk (p ++ y :: m) = stk (y :: m) ++ stk p := by
        unfold stk
        rw [List.foldl_append, List.foldl_cons, List.foldl_cons, i1, fold_app _ m [y] ⟨y, List.mem_singleton.2 rfl, hy⟩]
        rfl
      rw [e, List.reverse_append]

theorem nD_app {x y : List Int} (h : apD y = [] ∨ cls (at0 (apD y) 0) = 0) : nD (x ++ y) = nD x ++ nD y := by
  unfold nD
  have e : apD (x ++ y) = apD x ++ apD y := by simp [apD]
  rw [e, sortM_app h]

/-- Ahead of a rune that may be cut stands nothing that is sorted behind it. -/
theorem cut_head {r : Int} (h : cutB r = true) (l : List Int) : cls (at0 (apD (r :: l)) 0) = 0 := by
  have e : apD (r :: l) = all2 r ++ apD l := by simp [apD]
  obtain ⟨h1, h2⟩ := all2_head r
  by_cases c : cls r = 0
  · obtain ⟨s, u, hs, hc⟩ := h1 c
    rw [e, hs]
    exact hc
  · exfalso
    have hp : 0 < cls r := by have := (cls_range r).1; omega
    have hl : all2 r = [r] := all2_leaf (h2 hp)
    have hn : nD [r] = [r] := by
      unfold nD
      have : apD [r] = [r] := by simp [apD, hl]
      rw [this]
      rfl
    unfold cutB at h
    rw [hn, Bool.and_eq_true] at h
    exact c (of_decide_eq_true h.1)
end Go.Proofs.YtddelohmppdndaaGreatDoor

namespace Go.Proofs.YtddelohmppdndaaGreatDoor

/-- The first weight of an elem, as it counts. -/
def fw (sh : Bool) (e : El) : Int := if sh = true ∧ e.varies = true then 0 else e.first
def firstsE (sh : Bool) (els : List El) : List Int := els.flatMap fun e => ifNot (fw sh e)

theorem firstsE_app (sh : Bool) (a b : List El) : firstsE sh (a ++ b) = firstsE sh a ++ firstsE sh b := by unfold firstsE; rw [List.flatMap_append]

theorem four1_fw (sh b : Bool) (e : El) : (four1 sh b e).2.1.first = fw sh e := by
  unfold four1 fw
  cases sh
  · simp
  · cases hv : e.varies
    · simp
      split
      · rename_i h; exact h.1.symm
      · rfl
    · simp [elZ]

theorem fourS_firsts (sh : Bool) (els : List El) : ∀ k, k ≤ els.length → (fourS sh els k).2.1.map El.first = (els.take k).map (fw sh) := by
  intro k
  induction k with
  | zero => intro _; rfl
  | succ k ih =>
    intro hk
    obtain ⟨e, he⟩ : ∃ e, els[k]? = some e := ⟨_, List.getElem?_eq_getElem (by omega)⟩
    have h : fourS sh els k = ((fourS sh els k).1, (fourS sh els k).2.1, (fourS sh els k).2.2) := rfl
    rw [fourS_succ he h, List.take_add_one, he]
    show ((fourS sh els k).2.1 ++ [(four1 sh (fourS sh els k).2.2 e).2.1]).map El.first = _
    rw [List.map_append, ih (by omega)]
    simp [four1_fw]

theorem wtsK_firsts (xs : List El) (fs : List Int) : ∀ k, k ≤ xs.length → wtsK 1 xs fs k = (xs.take k).flatMap fun e => ifNot e.first := by
  intro k
  induction k with
  | zero => intro _; rfl
  | succ k ih =>
    intro hk
    obtain ⟨e, he⟩ : ∃ e, xs[k]? = some e := ⟨_, List.getElem?_eq_getElem (by omega)⟩
    rw [wtsK, ih (by omega), List.take_add_one, he, List.flatMap_append]
    have : elAt xs k = e := by unfold elAt; rw [he]; rfl
    rw [this]
    simp [wtL]

theorem firstsB_eq (es : List Ent) (sh : Bool) (l : List Int) : firstsB es sh l = firstsE sh (elems4 es l) := by
  unfold firstsB wts firstsE
  rw [wtsK_firsts _ _ _ (Nat.le_refl _), List.take_length]
  have h := fourS_firsts sh (elems4 es l) (elems4 es l).length (Nat.le_refl _)
  rw [List.take_length] at h
  have e1 : (counted sh (elems4 es l)).flatMap (fun e => ifNot e.first) = ((counted sh (elems4 es l)).map El.first).flatMap ifNot := by rw [List.flatMap_map]
  have e2 : (elems4 es l).flatMap (fun e => ifNot (fw sh e)) = ((elems4 es l).map (fw sh)).flatMap ifNot := by rw [List.flatMap_map]
  rw [e1, e2]
  congr 1

/-- Nothing of what comes goes into what stands. -/
def Sta (q : List Int) : Prop := q = [] ∨ cls (at0 q 0) = 0

theorem markFrom_app (es : List Ent) (run rest : List Int) {q : List Int} (hq : Sta q) : ∀ (ms : List Int) (k : Nat), k + ms.length ≤ rest.length → markFrom es run (rest ++ q) (ms ++ q) k = markFrom es run rest ms k := by
  intro ms
  induction ms with
  | nil =>
    intro k _
    rcases hq with rfl | hq
    · rfl
    · cases q with
      | nil => rfl
      | cons y m =>
        show markFrom es run (rest ++ y :: m) (y :: m) k = -1
        have hy : cls y = 0 := hq
        rw [markFrom, if_pos hy]
  | cons x ms ih =>
    intro k hk
    have hb : ∀ c, blkB (rest ++ q) k c = blkB rest k c := fun c => by
      unfold blkB
      rw [List.take_append_of_le_length (by simp at hk; omega)]
    show markFrom es run (rest ++ q) (x :: (ms ++ q)) k = markFrom es run rest (x :: ms) k
    rw [markFrom, markFrom, hb, ih (k + 1) (by simp at hk; omega)]

theorem markAt_app (es : List Ent) (run rest : List Int) {q : List Int} (hq : Sta q) : markAt es run (rest ++ q) = markAt es run rest := markFrom_app es run rest hq rest 0 (by omega)

theorem grab_app (es : List Ent) {q : List Int} (hq : Sta q) : ∀ (n : Nat) (run rest : List Int), rest.length = n → grab es run (rest ++ q) = ((grab es run rest).1, (grab es run rest).2 ++ q) := by
  intro n
  induction n with
  | zero =>
    intro run rest hn
    rcases mark_cases es run rest with h | ⟨j, hj, _⟩
    · rw [grab_stop h, grab_stop (by rw [markAt_app es run rest hq]; exact h)]
    · omega
  | succ n ih =>
    intro run rest hn
    rcases mark_cases es run rest with h | ⟨j, hj, h⟩
    · rw [grab_stop h, grab_stop (by rw [markAt_app es run rest hq]; exact h)]
    · have e : at0 (rest ++ q) j = at0 rest j := at0_left rest q j hj
      rw [grab_go hj h, grab_go (rest := rest ++ q) (k := j) (by rw [List.length_append]; omega) (by rw [markAt_app es run rest hq]; exact h), e, List.eraseIdx_append_of_lt_length hj]
      exact ih _ _ (by rw [List.length_eraseIdx_of_lt hj]; omega)

theorem runN_app (es : List Ent) {l : List Int} (q : List Int) (h : 4 ≤ l.length) : runN es (l ++ q) = runN es l := by
  have hh : ∀ k, k ≤ 4 → hitN es (l ++ q) k = hitN es l k := fun k hk => by
    unfold hitN
    rw [List.take_append_of_le_length (by omega), decide_eq_true (show k ≤ l.length by omega), decide_eq_true (show k ≤ (l ++ q).length by rw [List.length_append]; omega)]
  unfold runN
  rw [hh 4 (by omega), hh 3 (by omega), hh 2 (by omega)]

/-- With four runes or more a run is whole. -/
theorem take4_app (es : List Ent) {l q : List Int} (h : 4 ≤ l.length) (hq : Sta q) : take4 es (l ++ q) = ((take4 es l).1, (take4 es l).2 ++ q) := by
  have hb := runN_bd (es := es) (l := l) (by omega)
  unfold take4
  rw [runN_app es q h, List.take_append_of_le_length (by omega), List.drop_append_of_le_length (by omega)]
  exact grab_app es hq _ _ _ rfl

/-- The first weights of whole runs, and the runes that are left. -/
def setF (es : List Ent) (sh : Bool) : Nat → List Int → List Int × List Int
  | 0, l => ([], l)
  | f + 1, l => if 4 ≤ l.length then (firstsE sh (elsOf es (take4 es l).1) ++ (setF es sh f (take4 es l).2).1, (setF es sh f (take4 es l).2).2) else ([], l)

theorem setF_spec (es : List Ent) (sh : Bool) {q : List Int} (hq : Sta q) : ∀ (f : Nat) (l : List Int), firstsB es sh (l ++ q) = (setF es sh f l).1 ++ firstsB es sh ((setF es sh f l).2 ++ q) := by
  intro f
  induction f with
  | zero => intro l; rfl
  | succ f ih =>
    intro l
    rw [setF]
    split
    · rename_i h
      rw [firstsB_eq, elems4_step (by rw [List.length_append]; omega), take4_app es h hq, firstsE_app, ← firstsB_eq, ih (take4 es l).2, List.append_assoc]
    · rfl

theorem setF_few (es : List Ent) (sh : Bool) : ∀ (f : Nat) (l : List Int), l.length ≤ f → (setF es sh f l).2.length ≤ 3 := by
  intro f
  induction f with
  | zero => intro l h; show l.length ≤ 3; omega
  | succ f ih =>
    intro l h
    rw [setF]
    split
    · have := take4_kept (es := es) (l := l) (by omega)
      exact ih _ (by omega)
    · show l.length ≤ 3
      omega

/-- A stretch that has grown by a piece. -/
def growS (es : List Ent) (sh : Bool) (st rest piece : List Int) : List Int × List Int := (st ++ (setF es sh (rest ++ piece).length (rest ++ piece)).1, (setF es sh (rest ++ piece).length (rest ++ piece)).2)

/-- What a stretch knows of its runes. -/
def Knows (es : List Ent) (sh : Bool) (C st rest : List Int) : Prop := ∀ q, Sta q → firstsB es sh (C ++ q) = st ++ firstsB es sh (rest ++ q)

theorem knows_first (es : List Ent) (sh : Bool) (P : List Int) : Knows es sh P (growS es sh [] [] P).1 (growS es sh [] [] P).2 := by
  intro q hq
  unfold growS
  rw [List.nil_append, List.nil_append]
  exact setF_spec es sh hq P.length P

theorem Knows.grow {es : List Ent} {sh : Bool} {C st rest P : List Int} (h : Knows es sh C st rest) (hP : Sta P) (hne : P ≠ []) : Knows es sh (C ++ P) (growS es sh st rest P).1 (growS es sh st rest P).2 := by
  intro q hq
  have hPq : Sta (P ++ q) := by
    rcases hP with h | h
    · exact absurd h hne
    · refine .inr ?_
      cases P with
      | nil => exact absurd rfl hne
      | cons y m => exact h
  have h1 := h (P ++ q) hPq
  have h2 := setF_spec es sh hq (rest ++ P).length (rest ++ P)
  unfold growS
  rw [List.append_assoc, h1, ← List.append_assoc rest P q, h2, List.append_assoc]

/-- The first weights of a stretch as a text that ends here. -/
theorem Knows.firsts {es : List Ent} {sh : Bool} {C st rest : List Int} (h : Knows es sh C st rest) : firstsB es sh C = st ++ firstsB es sh rest := by
  have := h [] (.inl rfl)
  simpa using this

/-- What is settled stands ahead of all that the stretch may grow to. -/
theorem Knows.ahead {es : List Ent} {sh : Bool} {C st rest q want : List Int} (h : Knows es sh C st rest) (hq : Sta q) (hw : firstsB es sh (C ++ q) = want) : want.take st.length = st := by
  rw [← hw, h q hq, List.take_left']
  rfl
end Go.Proofs.YtddelohmppdndaaGreatDoor

namespace Go.Proofs.YtddelohmppdndaaGreatDoor
open Go.RowKit

theorem wts_firstsE (sh : Bool) (xs : List El) : wts 1 (counted sh xs) (fourths sh xs) = firstsE sh xs := by
  unfold wts firstsE
  rw [wtsK_firsts _ _ _ (Nat.le_refl _), List.take_length]
  have h := fourS_firsts sh xs xs.length (Nat.le_refl _)
  rw [List.take_length] at h
  have e1 : (counted sh xs).flatMap (fun e => ifNot e.first) = ((counted sh xs).map El.first).flatMap ifNot := by rw [List.flatMap_map]
  have e2 : xs.flatMap (fun e => ifNot (fw sh e)) = (xs.map (fw sh)).flatMap ifNot := by rw [List.flatMap_map]
  rw [e1, e2]
  congr 1

set_option maxRecDepth 100000 in
set_option maxHeartbeats 4000000 in
theorem alone_any {w : World} {B : Nat} {v : Value} {xs : List El} (sh : Bool) (hz : xs.length ≤ 1000) (hE : Elems w B v xs) :
    Calls Tryz.prog 83 #[v, .bool sh] w fun e w' => ∃ v', e = .returned v' ∧ Ints w' w.heap.size v' (firstsE sh xs) ∧ Below w.heap.size w w' := by
  have FO := implFourth_ok sh hz hE
  rw [← wts_firstsE]
  have hcl := counted_len sh xs
  have hfl := fourths_len sh xs
  have HFC : Hid ((fourths sh xs).length = (counted sh xs).length) := by show _ = _; omega
  have hcn : (counted sh xs).length ≤ 1048576 := by omega
  obtain ⟨va, vc, rfl⟩ := els_form hE
  generalize counted sh xs = cs at *
  generalize fourths sh xs = fs at *
  clear hE hcl hfl
  go_enter Tryz.func83, Tryz.ntmps83
  go_wp2_with fail
  refine FO.mono ?_
  rintro e w1 ⟨v1, v2, rfl, i1, e1, b1⟩
  obtain ⟨a1, k1, rfl⟩ := ints_form i1
  obtain ⟨a2, k2, rfl⟩ := els_form e1
  have WT := weights1_any e1 i1 HFC.out hcn
  have HB1 : Hid (Below _ _ _) := b1
  clear FO i1 e1 b1
  go_wp2_with fail
  refine WT.mono ?_
  rintro e w3 ⟨v3, rfl, i3, b3⟩
  have HI3 : Hid (Ints _ _ _ _) := i3
  clear WT i3
  go_wp2
  go_ret
  exact ⟨_, rfl, low_ints HI3.out HB1.out.size, HB1.out.trans (b3.mono HB1.out.size)⟩
end Go.Proofs.YtddelohmppdndaaGreatDoor

namespace Go.Proofs.YtddelohmppdndaaGreatDoor
open Go.RowKit

theorem wp_append_at {w : World} {o : Oper} {a : Act} {K : Act → World → Prop} {Q : Exit → Act → World → Prop} (s x : Operand)
    (ho : o.op = .call { callee := .builtin .append, args := #[s, x], argTypes := #[39, 39] }) (B : Nat) (v vx : Value) (l l' : List Int) (hs : a.eval s = v) (hx : a.eval x = vx) (hI : Ints w B v l) (hR : RowAt w vx l')
    (h63 : l.length + l'.length ≤ 1048576) (hbase : B ≤ w.heap.size) (h : ∀ v' w', Ints w' B v' (l ++ l') → w.grownBy w' v.ownBlock → (∀ j, v'.ownBlock = some j → v.ownBlock = some j ∨ w.heap.size ≤ j) → K (a.put o.dst v') w') : Oper.wp Tryz.prog o a w K Q := by
  obtain ⟨i0, hi, hzz, hz1, hz2⟩ := info_parts info_int
  have app : ∀ (ad : Addr) (c : Nat), vx = .slice (some ad) l'.length c → (∀ j u, (l'.map (Value.int .i64))[j]? = some u → w.cell? (ad.add j) = some u) → Oper.wp Tryz.prog o a w K Q := fun ad c hv hc => by
    obtain ⟨v', w', hr, h1, h2, _, h5⟩ := run_append_own_at (P := Tryz.prog) w B 39 o.type 3 i0 (.int .i64 0) 1 8 Tryz.underlying39 hi hzz hz1 hz2 rfl (by decide) v l.length (l.map (Value.int .i64)) hI ad l'.length c (l'.map (Value.int .i64)) (by simp) hc (fun u hu => by obtain ⟨y, _, rfl⟩ := List.mem_map.1 hu; rfl) (by unfold maxLen; omega) (by omega) hbase
    have h6 : ∀ j, v'.ownBlock = some j → v.ownBlock = some j ∨ w.heap.size ≤ j := fun j hj => by
      rcases h5 with h5 | h5
      · exact .inl (h5.symm.trans hj)
      · exact .inr (Nat.le_of_eq (Option.some.inj (h5.symm.trans hj)))
    refine Go.Lib.wp_append_run w s x 39 39 ho _ _ hs (hx.trans hv) _ _ hr (h v' w' ?_ h2 h6)
    unfold Ints
    rw [List.length_append, List.map_append]
    exact h1
  rcases hR with ⟨b, c, hv, rfl⟩ | ⟨g, f, c, hv, _, hc⟩
  · cases b with
    | none =>
      obtain ⟨b, n, c', rfl, hnc⟩ : ∃ b n c, v = .slice b n c ∧ n ≤ c := by
        rcases hI.form with ⟨rfl, rfl⟩ | ⟨g, cap, rfl, h1, _⟩
        · exact ⟨_, _, _, rfl, Nat.le_refl _⟩
        · exact ⟨_, _, _, rfl, h1⟩
      refine Go.Lib.wp_append_run w s x 39 39 ho _ _ hs (hx.trans hv) _ _ (run_append_none1 w _ _ _ i0 Tryz.underlying39 hi b n c' c hnc) ?_
      refine h _ _ ?_ ⟨rfl, rfl, rfl, Nat.le_refl _, fun _ _ _ => rfl⟩ (fun _ hj => .inl hj)
      rw [List.append_nil]
      exact hI
    | some ad => exact app ad c hv (fun j u hj => by simp at hj)
  · refine app ⟨g, f, none⟩ c hv fun j u hj => ?_
    rw [List.getElem?_map, Option.map_eq_some_iff] at hj
    obtain ⟨y, hy, rfl⟩ := hj
    rw [Addr.add_mid]
    exact hc j y hy

theorem step_append_at {w : World} {ops : Array Oper} {o : Oper} {a : Act} {K : Act → World → Prop} {Q : Exit → Act → World → Prop} {E : Prop} (hgd : o.guard = none) (s x : Operand)
    (ho : o.op = .call { callee := .builtin .append, args := #[s, x], argTypes := #[39, 39] }) (B : Nat) (v vx : Value) (l l' : List Int) (hs : a.eval s = v) (hx : a.eval x = vx) (hI : Ints w B v l) (hR : RowAt w vx l')
    (h63 : l.length + l'.length ≤ 1048576) (hbase : B ≤ w.heap.size) (h : ∀ v' w', Ints w' B v' (l ++ l') → w.grownBy w' v.ownBlock → (∀ j, v'.ownBlock = some j → v.ownBlock = some j ∨ w.heap.size ≤ j) → K (a.put o.dst v') w') :
    if Region.wanted o (yielded ops a.tmps) = true then Oper.wp Tryz.prog o a w K Q else E := by
  rw [if_pos (by simp [Region.wanted, hgd])]
  exact wp_append_at s x ho B v vx l l' hs hx hI hR h63 hbase h

/-- What is left: nil, or a row in a block of the call's own, with its room. -/
def RestS (w : World) (B : Nat) (v : Value) (l : List Int) : Prop := (v = .slice none 0 0 ∧ l = []) ∨ ∃ g, B ≤ g ∧ v.ownBlock = some g ∧ MidS w g v l

theorem RestS.below {w w' : World} {B : Nat} {v : Value} {l : List Int} (h : RestS w B v l) (hb : Below w.heap.size w w') : RestS w' B v l := by
  rcases h with h | ⟨g, h1, h2, h3⟩
  · exact .inl h
  · exact .inr ⟨g, h1, h2, h3.below hb⟩

theorem RestS.kept {w w' : World} {B : Nat} {v : Value} {l : List Int} {row : Option Nat} (h : RestS w B v l) (hg : w.grownBy w' row) (hne : v.ownBlock = none ∨ v.ownBlock ≠ row) : RestS w' B v l := by
  rcases h with h | ⟨g, h1, h2, h3⟩
  · exact .inl h
  · refine .inr ⟨g, h1, h2, h3.kept hg ?_⟩
    rw [h2] at hne
    rcases hne with h | h
    · cases h
    · exact h

theorem midS_of_ints {w : World} {B : Nat} {v : Value} {l : List Int} (h : Ints w B v l) : RestS w B v l := by
  rcases h.2 with ⟨a, b⟩ | ⟨g, cap, cur, a, b, c, d, e, f, _⟩
  · exact .inl ⟨a, by simpa using b⟩
  · subst a
    refine .inr ⟨g, b, rfl, 0, cap, cur, rfl, d, e, ?_, c, fun j x hx => ?_⟩
    · have := f
      omega
    · have hj := (List.getElem?_eq_some_iff.1 hx).1
      rw [Nat.zero_add, h.cell j hj, hx]
      rfl

theorem wp_append_mid {w : World} {o : Oper} {a : Act} {K : Act → World → Prop} {Q : Exit → Act → World → Prop} (s x : Operand)
    (ho : o.op = .call { callee := .builtin .append, args := #[s, x], argTypes := #[39, 39] }) (B : Nat) (v : Value) (l l' : List Int) (gx fx cx : Nat) (hgx : gx < w.heap.size) (hs : a.eval s = v) (hx : a.eval x = .slice (some ⟨gx, fx, none⟩) l'.length cx) (hI : RestS w B v l) (hc : ∀ j y, l'[j]? = some y → w.cell? ⟨gx, fx + j, none⟩ = some (.int .i64 y))
    (h63 : l.length + l'.length ≤ 1048576) (hbase : B ≤ w.heap.size) (h : ∀ v' w', RestS w' B v' (l ++ l') → w.grownBy w' v.ownBlock → (∀ j, v'.ownBlock = some j → v.ownBlock = some j ∨ w.heap.size ≤ j) → K (a.put o.dst v') w') : Oper.wp Tryz.prog o a w K Q := by
  obtain ⟨i0, hi, hzz, hz1, hz2⟩ := info_parts info_int
  have hnews : ∀ j u, (l'.map (Value.int .i64))[j]? = some u → w.cell? ((⟨gx, fx, none⟩ : Addr).add j) = some u := fun j u hj => by
    rw [List.getElem?_map, Option.map_eq_some_iff] at hj
    obtain ⟨y, hy, rfl⟩ := hj
    rw [Addr.add_mid]
    exact hc j y hy
  have hone : ∀ u ∈ l'.map (Value.int .i64), u.oneCell' = true := fun u hu => by obtain ⟨y, _, rfl⟩ := List.mem_map.1 hu; rfl
  rcases hI with ⟨rfl, rfl⟩ | ⟨g, hB, hob, f, c, cs, rfl, h2, h3, h6, h4, h5⟩
  · refine wp_append_at s x ho B _ _ [] l' hs hx ⟨rfl, .inl ⟨rfl, rfl⟩⟩ (.inr ⟨gx, fx, cx, rfl, hgx, hc⟩) h63 hbase fun v' w' q1 q2 q3 => h v' w' (midS_of_ints q1) q2 q3
  · by_cases hr : l.length + l'.length ≤ c
    · have hsp : ∀ j, j < (l'.map (Value.int .i64)).length → (w.cell? ⟨g, f + l.length * i0.size + j, none⟩).isSome = true ∧ w.frozen? ⟨g, f + l.length * i0.size + j, none⟩ = false := fun j hj => by
        rw [List.length_map] at hj
        rw [hz1, Nat.mul_one]
        refine ⟨?_, by simp [World.frozen?, h4]⟩
        have : f + l.length + j < cs.size := by omega
        simp [World.cell?, h4, this]
      have hrun := run_append_room_cells (P := Tryz.prog) w 39 o.type 3 i0 Tryz.underlying39 hi g f l.length c ⟨gx, fx, none⟩ l'.length cx (l'.map (Value.int .i64)) (by rw [hz1]; simp) hnews hone hr (fun j hj => (hsp j hj).1) (fun j hj => (hsp j hj).2)
      rw [hz1, Nat.mul_one] at hrun
      refine Go.Lib.wp_append_run w s x 39 39 ho _ _ hs hx _ _ hrun (h _ _ ?_ (setCells_grown w 0 g _ _) (fun _ hj => .inl hj))
      obtain ⟨cs', q1, q2⟩ := setCells_blockS g (l'.map (Value.int .i64)) (f + l.length) w cs h4
      refine .inr ⟨g, hB, rfl, f, c, cs', by rw [List.length_append], by rw [List.length_append]; exact hr, h3, by omega, q1, fun j y hy => ?_⟩
      by_cases hj : j < l.length
      · rw [List.getElem?_append_left hj] at hy
        rw [World.cell?_setCells_out g _ _ _ _ (fun _ _ => .inl (by show f + j < f + l.length; omega))]
        exact h5 j y hy
      · rw [List.getElem?_append_right (by omega)] at hy
        have hj2 := (List.getElem?_eq_some_iff.1 hy).1
        have hin := World.cell?_setCells_in g (l'.map (Value.int .i64)) (f + l.length) w (fun k hk => by have := (hsp k hk).1; rw [hz1, Nat.mul_one] at this; exact this) (j - l.length) (by rw [List.length_map]; exact hj2)
        rw [show f + j = f + l.length + (j - l.length) by omega, hin, List.getElem_map]
        rw [List.getElem?_eq_getElem hj2] at hy
        rw [Option.some.inj hy]
    · obtain ⟨v', w', hrun, r1, r2⟩ := run_append_arg_grows (P := Tryz.prog) w 39 o.type 3 i0 (.int .i64 0) 1 8 Tryz.underlying39 hi hzz hz1 hz2 rfl (by decide) ⟨g, f, none⟩ l.length c (l.map (Value.int .i64)) (by simp) (fun j u hj => by
          rw [List.getElem?_map, Option.map_eq_some_iff] at hj
          obtain ⟨y, hy, rfl⟩ := hj
          rw [Addr.add_mid]
          exact h5 j y hy) ⟨gx, fx, none⟩ l'.length cx (l'.map (Value.int .i64)) (by simp) hnews (by omega) (by unfold maxLen; omega) (by omega)
      have hI' : Ints w' w.heap.size v' (l ++ l') := by
        unfold Ints
        rw [List.length_append, List.map_append]
        exact r1
      refine Go.Lib.wp_append_run w s x 39 39 ho _ _ hs hx _ _ hrun (h v' w' ?_ ⟨r2.os, r2.tape, r2.output, r2.size, fun k hk _ => r2.block k hk (by simp)⟩ fun j hj => .inr (World.ownsRow.lt r1 j hj).1)
      rcases midS_of_ints hI' with q | ⟨j, q1, q2, q3⟩
      · exact .inl q
      · exact .inr ⟨j, Nat.le_trans hbase q1, q2, q3⟩

theorem append_mid {w : World} {ops : Array Oper} {rest : List Oper} {o : Oper} {a : Act} {Q : Exit → Act → World → Prop} (hgd : o.guard = none) (s x : Operand)
    (ho : o.op = .call { callee := .builtin .append, args := #[s, x], argTypes := #[39, 39] }) (B : Nat) (v : Value) (l l' : List Int) (gx fx cx : Nat) (hgx : gx < w.heap.size) (hs : a.eval s = v) (hx : a.eval x = .slice (some ⟨gx, fx, none⟩) l'.length cx) (hI : RestS w B v l) (hc : ∀ j y, l'[j]? = some y → w.cell? ⟨gx, fx + j, none⟩ = some (.int .i64 y))
    (h63 : l.length + l'.length ≤ 1048576) (hbase : B ≤ w.heap.size) (h : ∀ v' w', RestS w' B v' (l ++ l') → w.grownBy w' v.ownBlock → (∀ j, v'.ownBlock = some j → v.ownBlock = some j ∨ w.heap.size ≤ j) → wpList Tryz.prog ops Q rest (a.put o.dst v') w') : wpList Tryz.prog ops Q (o :: rest) a w :=
  wpList_plain hgd fun _ hK => wp_append_mid s x ho B v l l' gx fx cx hgx hs hx hI hc h63 hbase fun v' w' h1 h2 h3 => hK _ _ (h v' w' h1 h2 h3)
end Go.Proofs.YtddelohmppdndaaGreatDoor

namespace Go.Proofs.YtddelohmppdndaaGreatDoor

theorem cut0 (neg : Bool) (n : Nat) : Ieee.Toward.even.cut neg n 0 = n := by
  unfold Ieee.Toward.cut
  simp [Nat.mod_one]

/-- The word of a small whole number. -/
def wordN (k n : Nat) : Nat := (k + 1022) * 2 ^ 52 + n * 2 ^ (52 - k)

theorem near_pos {k n : Nat} (hk : k < 16) (h1 : 2 ^ k ≤ n) (h2 : n < 2 ^ (k + 1)) : FloatKind.nearest .f64 (n : Int) = wordN k n := by
  have hn : n ≠ 0 := by have := Nat.two_pow_pos k; omega
  have hl : n.log2 = k := (Nat.log2_eq_iff hn).2 ⟨h1, h2⟩
  have h0 : ¬ ((n : Int) < 0) := by omega
  unfold FloatKind.nearest FloatKind.encode Ieee.Format.write Ieee.Format.nearest
  simp only [FloatKind.format, Int.natAbs_natCast, if_neg hn, hl, decide_eq_false h0]
  have hlast : max ((0 : Int) + (k : Int) - (Ieee.double.fractionBits : Nat)) Ieee.double.leastPlace = (k : Int) - 52 := by
    have : Ieee.double.leastPlace = -1074 := by decide
    rw [this]
    show max ((0 : Int) + (k : Int) - 52) (-1074) = _
    omega
  rw [hlast]
  have e1 : ((0 : Int) - ((k : Int) - 52)).toNat = 52 - k := by omega
  have e2 : ((k : Int) - 52 - 0).toNat = 0 := by omega
  have e3 : ((k : Int) - 52 - Ieee.double.leastPlace).toNat = k + 1022 := by
    have : Ieee.double.leastPlace = -1074 := by decide
    rw [this]; omega
  rw [e1, e2, e3, cut0, Nat.shiftLeft_eq]
  have hb : Ieee.double.binade = 2 ^ 52 := rfl
  have hi : Ieee.double.infRung = 2047 * 2 ^ 52 := rfl
  rw [hb, hi]
  have hle : n * 2 ^ (52 - k) < 2 ^ 53 := by
    have : 2 ^ (k + 1) * 2 ^ (52 - k) = 2 ^ 53 := by rw [← Nat.pow_add]; congr 1; omega
    rw [← this]
    exact Nat.mul_lt_mul_of_pos_right h2 (Nat.two_pow_pos _)
  unfold Ieee.Format.word wordN
  simp only [Bool.false_eq_true, if_false]
  rw [Nat.min_eq_left]
  omega

theorem read_pos {k n : Nat} (hk : k < 16) (h1 : 2 ^ k ≤ n) (h2 : n < 2 ^ (k + 1)) : Ieee.double.read (wordN k n) = .number false (n * 2 ^ (52 - k)) ((k : Int) - 52) := by
  have hlo : 2 ^ 52 ≤ n * 2 ^ (52 - k) := by
    have : 2 ^ k * 2 ^ (52 - k) = 2 ^ 52 := by rw [← Nat.pow_add]; congr 1; omega
    rw [← this]
    exact Nat.mul_le_mul_right _ h1
  have hhi : n * 2 ^ (52 - k) < 2 ^ 53 := by
    have : 2 ^ (k + 1) * 2 ^ (52 - k) = 2 ^ 53 := by rw [← Nat.pow_add]; congr 1; omega
    rw [← this]
    exact Nat.mul_lt_mul_of_pos_right h2 (Nat.two_pow_pos _)
  unfold wordN
  generalize n * 2 ^ (52 - k) = m at *
  have hs : Ieee.double.signWeight = 2 ^ 63 := rfl
  have hb : Ieee.double.binade = 2 ^ 52 := rfl
  have hi : Ieee.double.infRung = 2047 * 2 ^ 52 := rfl
  have hl : Ieee.double.leastPlace = -1074 := by decide
  unfold Ieee.Format.read
  rw [hs, hb, hi, hl]
  have q1 : ((k + 1022) * 2 ^ 52 + m) / 2 ^ 63 % 2 = 0 := by omega
  have q2 : ((k + 1022) * 2 ^ 52 + m) % 2 ^ 63 = (k + 1022) * 2 ^ 52 + m := by omega
  have q3 : ((k + 1022) * 2 ^ 52 + m) / 2 ^ 52 = k + 1023 := by omega
  have q4 : ((k + 1022) * 2 ^ 52 + m) % 2 ^ 52 = m - 2 ^ 52 := by omega
  have r1 : ¬ ((k + 1022) * 2 ^ 52 + m < 2 ^ 52) := by omega
  have r2 : (k + 1022) * 2 ^ 52 + m < 2047 * 2 ^ 52 := by omega
  show (if ((k + 1022) * 2 ^ 52 + m) % 2 ^ 63 < 2 ^ 52 then _ else _) = _
  rw [q1, q2, q3, q4, if_neg r1, if_pos r2]
  rw [show (2 ^ 52 + (m - 2 ^ 52) : Nat) = m by omega, show (-1074 : Int) + ((k + 1023 - 1 : Nat) : Int) = (k : Int) - 52 by omega]
  rfl

theorem order_pos {a b : Nat} (ha : 1 ≤ a) (ha2 : a < 65536) (hb : 1 ≤ b) (hb2 : b < 65536) :
    (Ieee.double.order (FloatKind.nearest .f64 (a : Int)) (FloatKind.nearest .f64 (b : Int)) == some .eq) = decide (a = b) := by
  have la : a.log2 < 16 := (Nat.log2_lt (by omega)).2 ha2
  have lb : b.log2 < 16 := (Nat.log2_lt (by omega)).2 hb2
  have a1 : 2 ^ a.log2 ≤ a := Nat.log2_self_le (by omega)
  have a2 : a < 2 ^ (a.log2 + 1) := Nat.lt_log2_self
  have b1 : 2 ^ b.log2 ≤ b := Nat.log2_self_le (by omega)
  have b2 : b < 2 ^ (b.log2 + 1) := Nat.lt_log2_self
  rw [near_pos la a1 a2, near_pos lb b1 b2]
  unfold Ieee.Format.order
  rw [read_pos la a1 a2, read_pos lb b1 b2]
  generalize a.log2 = k at *
  generalize b.log2 = j at *
  unfold Ieee.Datum.order Ieee.signed
  simp only [Bool.false_eq_true, if_false]
  obtain ⟨m, hm⟩ : ∃ m : Nat, min k j = m := ⟨_, rfl⟩
  have e1 : ((k : Int) - 52 - min ((k : Int) - 52) ((j : Int) - 52)).toNat = k - m := by omega
  have e2 : ((j : Int) - 52 - min ((k : Int) - 52) ((j : Int) - 52)).toNat = j - m := by omega
  rw [e1, e2]
  have f1 : (a * 2 ^ (52 - k)) <<< (k - m) = a * 2 ^ (52 - m) := by
    rw [Nat.shiftLeft_eq, Nat.mul_assoc, ← Nat.pow_add]; congr 2; omega
  have f2 : (b * 2 ^ (52 - j)) <<< (j - m) = b * 2 ^ (52 - m) := by
    rw [Nat.shiftLeft_eq, Nat.mul_assoc, ← Nat.pow_add]; congr 2; omega
  rw [f1, f2]
  have hp := Nat.two_pow_pos (52 - m)
  by_cases h : a = b
  · subst h
    simp
  · have hne : ((a * 2 ^ (52 - m) : Nat) : Int) ≠ ((b * 2 ^ (52 - m) : Nat) : Int) := by
      intro c
      have c2 : a * 2 ^ (52 - m) = b * 2 ^ (52 - m) := by omega
      exact h (Nat.eq_of_mul_eq_mul_right hp c2)
    rw [decide_eq_false h]
    simp only [beq_eq_false_iff_ne, ne_eq, Option.some.injEq]
    intro c
    exact hne (Std.LawfulEqCmp.eq_of_compare c)
end Go.Proofs.YtddelohmppdndaaGreatDoor

namespace Go.Proofs.YtddelohmppdndaaGreatDoor

def alike : List Int → List Int → Nat
  | x :: xs, y :: ys => if x = y then alike xs ys + 1 else 0
  | _, _ => 0

theorem alike_at : ∀ (a b : List Int) (k : Nat) (x y : Int), (∀ j, j < k → a[j]? = b[j]?) → a[k]? = some x → b[k]? = some y → x ≠ y → alike a b = k
  | [], _, k, _, _, _, h, _, _ => by simp at h
  | _ :: _, [], k, _, _, _, _, h, _ => by simp at h
  | p :: a, q :: b, 0, x, y, _, hx, hy, hne => by
    simp at hx hy
    subst hx
    subst hy
    unfold alike
    rw [if_neg hne]
  | p :: a, q :: b, k + 1, x, y, hj, hx, hy, hne => by
    have h0 := hj 0 (by omega)
    simp at h0
    subst h0
    unfold alike
    rw [if_pos rfl, alike_at a b k x y (fun j h => by have := hj (j + 1) (by omega); simpa using this) (by simpa using hx) (by simpa using hy) hne]

theorem alike_all : ∀ (a b : List Int), (∀ j, j < min a.length b.length → a[j]? = b[j]?) → alike a b = min a.length b.length
  | [], b, _ => by simp [alike]
  | _ :: _, [], _ => by simp [alike]
  | p :: a, q :: b, hj => by
    have h0 := hj 0 (by simp)
    simp at h0
    subst h0
    have := alike_all a b (fun j h => by have := hj (j + 1) (by simp; omega); simpa using this)
    unfold alike
    rw [if_pos rfl, this]
    simp

theorem alike_le : ∀ (a b : List Int), alike a b ≤ b.length
  | [], _ => by simp [alike]
  | _ :: _, [] => by simp [alike]
  | p :: a, q :: b => by
    have := alike_le a b
    unfold alike
    split <;> simp <;> omega

/-- Whether a begins with b. -/
def begL (a b : List Int) : Bool := decide (b.length ≤ a.length) && decide (a.take b.length = b)

theorem begL_alike : ∀ (a b : List Int), begL a b = decide (alike a b = b.length)
  | a, [] => by cases a <;> simp [begL, alike]
  | [], q :: b => by simp [begL, alike]
  | p :: a, q :: b => by
    have ih := begL_alike a b
    unfold begL at ih ⊢
    unfold alike
    by_cases h : p = q
    · subst h
      rw [if_pos rfl]
      simpa using ih
    · rw [if_neg h]
      simp [h]

theorem begL_self (a : List Int) : begL a a = true := by simp [begL]

def begT (es : List Ent) (sh : Bool) (lv : Int) (x y : ByteArray) : Bool := if (okE es lv x && okE es lv y) = true then begL (firsT es sh lv x) (firsT es sh lv y) else false

theorem near_neq {x y : Int} (hx : 1 ≤ x ∧ x ≤ 65535) (hy : 1 ≤ y ∧ y ≤ 65535) : (Ieee.double.order (FloatKind.nearest .f64 x) (FloatKind.nearest .f64 y) == some .eq) = decide (x = y) := by
  obtain ⟨a, rfl⟩ : ∃ a : Nat, x = (a : Int) := ⟨x.toNat, by omega⟩
  obtain ⟨b, rfl⟩ : ∃ b : Nat, y = (b : Int) := ⟨y.toNat, by omega⟩
  rw [order_pos (by omega) (by omega) (by omega) (by omega)]
  by_cases h : a = b
  · subst h; simp
  · rw [decide_eq_false h, decide_eq_false (by omega)]
end Go.Proofs.YtddelohmppdndaaGreatDoor
