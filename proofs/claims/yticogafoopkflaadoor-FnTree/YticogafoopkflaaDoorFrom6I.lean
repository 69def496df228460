/- Contracts of RowsFrom, the program's and the specification's. -/
import Derived.Test.YticogafoopkflaaDoorIBook6
import Derived.Test.YticogafoopkflaaDoorSBook6
import Derived.Test.YticogafoopkflaaDoorPFrom6
namespace Go.Proofs.YticogafoopkflaaDoor
open Go.RowKit

theorem info_rwF : (Tryd.prog.info? 32).map (fun i => (i.zero, i.size, i.bytes)) = some (some (.agg #[.string ⟨#[]⟩, .string ⟨#[]⟩, .string ⟨#[]⟩]), 3, 48) := by kernel_rfl

theorem rwsF_low {W : World} {B B' : Nat} {v : Value} {l : List Rw} (h : Rws W B v l) (hb : B' ≤ B) : Rws W B' v l := by
  refine ⟨h.1, ?_⟩
  rcases h.2 with h0 | ⟨g, cap, cur, q1, q2, q3⟩
  · exact .inl h0
  · exact .inr ⟨g, cap, cur, q1, by omega, q3⟩

def RfRel (w : World) (F : Nat → List Rw) (n : Nat) (v i : Value) (wr : World) : Prop :=
  ∃ k : Nat, k ≤ n ∧ i = .int .i64 (k : Int) ∧ Rws wr w.heap.size v (F k) ∧ Below w.heap.size w wr

set_option maxRecDepth 100000 in
set_option maxHeartbeats 8000000 in
theorem implRF_any {w : World} {B : Nat} {vp : Value} {ss : List ByteArray} (lo hi : ByteArray) (hS : Strs w B vp ss) (hz : ∀ s ∈ ss, s.size ≤ 1048576) (hl : ss.length ≤ 1048576) {ty : TypeId} {pv : Value} (hg : ErrG w ty pv) :
    Calls Tryd.prog 16 #[vp, .string lo, .string hi] w fun e w' => ∃ v, e = .returned (.tuple #[v, .bool (bookF ss).isSome]) ∧ Rws w' w.heap.size v (rowsF ss lo hi) ∧ Below w.heap.size w w' := by
  have BK := openBook_any hS hz hl hg
  obtain ⟨a, c, rfl, _⟩ := strs6_all hS
  clear hS hz hg
  cases hbk : bookF ss with
  | none =>
    have HA : Hid (rowsF ss lo hi = []) := by show _ = _; unfold rowsF; rw [hbk]
    rw [hbk] at BK
    rw [HA.out]
    go_enter Tryd.func16, Tryd.ntmps16
    go_wp2_with fail
    refine BK.mono ?_
    rintro e w2 ⟨v2, rfl, _, b2⟩
    clear BK
    go_wp2
    go_ret2
    exact ⟨_, rfl, World.ownsRow_nil _ _ _ _, b2⟩
  | some gs =>
    have HA : Hid (rowsF ss lo hi = fromK lo hi gs gs.length) := by show _ = _; unfold rowsF; rw [hbk]
    rw [hbk] at BK
    rw [HA.out]
    obtain ⟨hgl, hg60⟩ := bookF_is hbk
    obtain ⟨i0, hi0, hz0, hs0, hy0⟩ := info_parts info_rwF
    have HG6 : Hid (∀ l ∈ gs, l.length ≤ 60) := hg60
    have HFL : Hid (∀ k, (fromK lo hi gs k).length ≤ 60 * k) := fromK_len lo hi gs hg60
    clear hg60 hbk
    go_enter Tryd.func16, Tryd.ntmps16
    go_wp2_with fail
    refine BK.mono ?_
    rintro e w2 ⟨v2, rfl, hN, b2⟩
    obtain ⟨vs, N2⟩ := hN gs rfl
    obtain ⟨a2, c2, rfl, fm⟩ := N2.form
    have HN : Hid (NestR w2 w.heap.size w2.heap.size _ gs vs) := N2
    have HFM : Hid _ := fm
    have HB2 : Hid (Below w.heap.size w w2) := b2
    clear BK b2 hN N2 fm
    go_wp2_with fail
    go_loopw [10, 24] (fun v i wr => RfRel w2 (fun k => fromK lo hi gs k) gs.length v i wr) (fun _ i _ => gs.length - (intOf i).toNat)
    case atStart => exact ⟨0, Nat.zero_le _, rfl, World.ownsRow_nil _ _ _ _, Below.refl _ _⟩
    case round =>
      obtain ⟨k, hk, rfl, hR, hb⟩ := hrel
      by_cases hlt : k < gs.length
      · obtain ⟨l, hl'⟩ : ∃ l, gs[k]? = some l := ⟨_, List.getElem?_eq_getElem hlt⟩
        obtain ⟨x, hx, hI, _⟩ := HN.out.ins k l hl'
        obtain ⟨gb, rfl, _, hgb, cb, _⟩ := HFM.out k x hx
        have cbr : wr.cell? ⟨gb, k, none⟩ = some x := (hb.cell (p := ⟨gb, k, none⟩) hgb).trans cb
        have hgbr := rw_cell_lt cbr
        have hlt8 : (k : Int) < (gs.length : Int) := by omega
        have hl60 := HG6.out l (List.mem_of_getElem? hl')
        obtain ⟨ax, cx, rfl⟩ := rw_form hI
        have HSL : Hid (∀ u, Below w2.heap.size w2 u → SlRw u ax l) := fun u hu => rws_sl (hI.below hu)
        have HSC : Hid (fromK lo hi gs k ++ fromL lo hi l = fromK lo hi gs (k + 1)) := fromK_succ hl'
        have hF0 := HFL.out k
        obtain ⟨F0, HF0⟩ : ∃ F0, Hid (fromK lo hi gs k = F0) := ⟨_, rfl⟩
        have hR' : Rws wr w2.heap.size u10 (fromK lo hi gs k) := hR
        rw [HF0.out] at hR' hF0 HSC
        have HR : Hid (Rws wr w2.heap.size u10 F0) := hR'
        have HB : Hid (Below w2.heap.size w2 wr) := hb
        obtain ⟨w6, rfl⟩ : ∃ w6, w6 = wr := ⟨_, rfl⟩
        clear hR hR' hb hI hx hl' cb
        go_wp2_with fail
        go_loopw [10, 30] (fun v i wr => RfRel w2 (fun j => F0 ++ fromL lo hi (l.take j)) l.length v i wr) (fun _ i _ => l.length - (intOf i).toNat)
        case atStart => exact ⟨0, Nat.zero_le _, rfl, by simpa [fromL] using HR.out, HB.out⟩
        case round =>
          obtain ⟨j, hj, rfl, hR, hb⟩ := hrel
          by_cases hjl : j < l.length
          · obtain ⟨x, hx⟩ : ∃ x, l[j]? = some x := ⟨_, List.getElem?_eq_getElem hjl⟩
            rcases HSL.out wr hb with h0 | ⟨b, o, rfl, hE⟩
            · rw [h0] at hx; simp at hx
            obtain ⟨a0, a1, a2⟩ := hE j x hx
            have hbl := rw_cell_lt a0
            have hj8 : (j : Int) < (l.length : Int) := by omega
            have hFj := fromL_len lo hi l j
            obtain ⟨F1, HF1⟩ : ∃ F1, Hid (F0 ++ fromL lo hi (l.take j) = F1) := ⟨_, rfl⟩
            have hlen1 : F1.length ≤ 4000 := by rw [← HF1.out, List.length_append]; omega
            have hR' : Rws wr w2.heap.size u10 F1 := by rw [← HF1.out]; exact hR
            obtain ⟨ra, rc, hv⟩ := rw_form hR'
            subst hv
            have HR1 : Hid (Rws wr w2.heap.size (.slice ra F1.length rc) F1) := hR'
            have HB1 : Hid (Below w2.heap.size w2 wr) := hb
            have HXJ : Hid (l[j]? = some x) := hx
            clear hR hR' hb hE hx
            cases hlo : ltK x.key lo
            · cases hhi : ltK x.key hi
              · have HN1 : Hid (F0 ++ fromL lo hi (l.take (j + 1)) = F1) := by show _ = _; rw [fromL_no HXJ.out (by unfold inK; rw [hlo, hhi]; rfl), HF1.out]
                unfold ltK at hlo hhi
                have HBa : Hid (∀ o, Below w2.heap.size w2 (wr.alloc o)) := fun o => HB1.out.alloc HB1.out.size o
                have HRa : Hid (∀ o, Rws (wr.alloc o) w2.heap.size (.slice ra F1.length rc) F1) := fun o => HR1.out.below ((Below.refl _ _).alloc (Nat.le_refl _) o)
                clear HR1 HB1
                go_wp2
                exact ⟨⟨j + 1, by omega, by go_num, (by show Rws _ _ _ (F0 ++ fromL lo hi (l.take (j + 1))); rw [HN1.out]; exact HRa.out _), HBa.out _⟩, by simp [intOf]; omega⟩
              · have HN1 : Hid (F0 ++ fromL lo hi (l.take (j + 1)) = F1 ++ [x]) := by show _ = _; rw [fromL_yes HXJ.out (by unfold inK; rw [hlo, hhi]; rfl), ← List.append_assoc, HF1.out]
                unfold ltK at hlo hhi
                obtain ⟨W7, HW7⟩ : ∃ W7, Hid (W7 = (wr.alloc (.cells #[.string x.key, .string x.text, .string x.val] 32)).alloc (.cells #[.string x.key, .string x.text, .string x.val] 32)) := ⟨_, rfl⟩
                have b57 : Below wr.heap.size wr W7 := by rw [HW7.out]; exact ((Below.refl _ _).alloc (Nat.le_refl _) _).alloc (by simp) _
                have HN7 : Hid (∀ j u, [Value.string x.key, .string x.text, .string x.val][j]? = some u → W7.cell? ((⟨wr.heap.size + 1, 0, none⟩ : Addr).add j) = some u) := by rw [HW7.out]; exact cells3_at _ _ _ _ _ _ (by simp)
                have HR7 : Hid (W7.ownsRow w2.heap.size 32 3 (.slice ra F1.length rc) F1.length (rwAll F1)) := HR1.out.below b57
                have HB7 : Hid (Below w2.heap.size w2 W7) := HB1.out.trans (b57.mono HB1.out.size)
                have hsU := HB1.out.size
                have h1a : ∀ u : World, u = (wr.alloc (.cells #[.string x.key, .string x.text, .string x.val] 32)).alloc (.cells #[.string x.key, .string x.text, .string x.val] 32) → u.ownsRow w2.heap.size 32 3 (.slice ra F1.length rc) F1.length (rwAll F1) := fun u hu => by rw [hu, ← HW7.out]; exact HR7.out
                have h1b : ∀ u : World, u = (wr.alloc (.cells #[.string x.key, .string x.text, .string x.val] 32)).alloc (.cells #[.string x.key, .string x.text, .string x.val] 32) → ∀ j q, [Value.string x.key, .string x.text, .string x.val][j]? = some q → u.cell? ((⟨wr.heap.size + 1, 0, none⟩ : Addr).add j) = some q := fun u hu => by rw [hu, ← HW7.out]; exact HN7.out
                clear HR1 HB1 b57 HN7
                go_wp2_with (at_builtin; refine wpList_append_lies _ rfl _ _ 23 rfl w2.heap.size 32 i0 _ 3 48 Tryd.underlying23 hi0 hz0 hs0 hy0 rfl (by decide) _ _ _ rfl (h1a _ rfl) ⟨wr.heap.size + 1, 0, none⟩ 1 1 [.string x.key, .string x.text, .string x.val] rfl rfl (h1b _ rfl) (fun z hz => by simp at hz; rcases hz with rfl | rfl | rfl <;> rfl) (by omega) (by unfold maxLen; omega) (by omega) (by simp; omega) (wr.heap.size + 2) (by simp) ?_)
                intro g8 cap8 w8 ho8 hg8 hgg8 hlt8
                rw [← HW7.out] at hg8
                have HR8 : Hid (Rws w8 w2.heap.size (.slice (some ⟨g8, 0, none⟩) (F1.length + 1) cap8) (F1 ++ [x])) := rw_snoc ho8
                have HB8 : Hid (Below w2.heap.size w2 w8) := Below.grown HB7.out hg8 HB7.out.size (fun j hj => (World.ownsRow.lt HR7.out j hj).1)
                clear ho8 hg8 hgg8 HR7 HB7 h1a h1b HW7
                go_wp2
                exact ⟨⟨j + 1, by omega, by go_num, (by show Rws _ _ _ (F0 ++ fromL lo hi (l.take (j + 1))); rw [HN1.out]; exact HR8.out), HB8.out⟩, by simp [intOf]; omega⟩
            · have HN1 : Hid (F0 ++ fromL lo hi (l.take (j + 1)) = F1) := by show _ = _; rw [fromL_no HXJ.out (by unfold inK; rw [hlo]; rfl), HF1.out]
              unfold ltK at hlo
              have HBa : Hid (∀ o, Below w2.heap.size w2 (wr.alloc o)) := fun o => HB1.out.alloc HB1.out.size o
              have HRa : Hid (∀ o, Rws (wr.alloc o) w2.heap.size (.slice ra F1.length rc) F1) := fun o => HR1.out.below ((Below.refl _ _).alloc (Nat.le_refl _) o)
              clear HR1 HB1
              go_wp2
              exact ⟨⟨j + 1, by omega, by go_num, (by show Rws _ _ _ (F0 ++ fromL lo hi (l.take (j + 1))); rw [HN1.out]; exact HRa.out _), HBa.out _⟩, by simp [intOf]; omega⟩
          · have hjz : j = l.length := by omega
            subst hjz
            have hR' : Rws wr w2.heap.size _ (F0 ++ fromL lo hi (l.take l.length)) := hR
            rw [List.take_length, HSC.out] at hR'
            have HR1 : Hid (Rws _ _ _ _) := hR'
            have HB1 : Hid (Below w2.heap.size w2 wr) := hb
            clear hR hR' hb
            go_wp2
            exact ⟨⟨k + 1, by omega, by go_num, HR1.out, HB1.out⟩, by simp [intOf]; omega⟩
      · have hkz : k = gs.length := by omega
        subst hkz
        have HR1 : Hid (Rws wr w2.heap.size _ (fromK lo hi gs gs.length)) := hR
        have HB1 : Hid (Below w2.heap.size w2 wr) := hb
        clear hR hb
        go_wp2
        go_ret2
        exact ⟨_, rfl, rwsF_low HR1.out HB2.out.size, HB2.out.trans (HB1.out.mono HB2.out.size)⟩
end Go.Proofs.YticogafoopkflaaDoor
