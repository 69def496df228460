/- Contract of the program's pageFor. -/
import Derived.Test.YticogafoopkflaaDoorIBook6
import Derived.Test.YticogafoopkflaaDoorPFor6
namespace Go.Proofs.YticogafoopkflaaDoor
open Go.RowKit

def PfRel (w : World) (gs : List (List Rw)) (key : ByteArray) (vlo vhi vlk : Value) (wr : World) : Prop :=
  ∃ lo hi lk : Nat, lo ≤ hi ∧ hi ≤ gs.length ∧ lk + (hi - lo) ≤ gs.length ∧ vlo = .int .i64 (lo : Int) ∧ vhi = .int .i64 (hi : Int) ∧ vlk = .int .i64 (lk : Int) ∧ pfF gs key lo hi lk = pageF gs key ∧ wr = w

set_option maxRecDepth 100000 in
set_option maxHeartbeats 4000000 in
theorem pageFor_any {w : World} {lo hi : Nat} {v : Value} {gs : List (List Rw)} {vs : List Value} (key : ByteArray) (hN : NestR w lo hi v gs vs) (h40 : gs.length ≤ 1048576) (h60 : ∀ l ∈ gs, 0 < l.length ∧ l.length ≤ 1048576) :
    Calls Tryd.prog 35 #[v, .string key] w fun e w' => e = .returned (.tuple #[.int .i64 ((pageF gs key).1 : Int), .int .i64 ((pageF gs key).2 : Int)]) ∧ w' = w := by
  obtain ⟨a, c, rfl, fm⟩ := hN.form
  have HFM : Hid _ := fm
  have HN : Hid (NestR w lo hi _ gs vs) := hN
  have H60 : Hid (∀ l ∈ gs, 0 < l.length ∧ l.length ≤ 1048576) := h60
  obtain ⟨R, HR⟩ : ∃ R, Hid (pageF gs key = R) := ⟨_, rfl⟩
  rw [HR.out]
  clear hN fm h60
  go_enter Tryd.func35, Tryd.ntmps35
  go_wp2_with fail
  go_loopw [6, 7, 8] (fun vlo vhi vlk wr => PfRel w gs key vlo vhi vlk wr) (fun vlo vhi _ _ => (intOf vhi).toNat - (intOf vlo).toNat)
  case atStart => exact ⟨0, gs.length, 0, by omega, by omega, by omega, rfl, rfl, rfl, rfl, rfl⟩
  case round =>
    obtain ⟨l0, h0, k0, q1, q2, q3, rfl, rfl, rfl, hE, rfl⟩ := hrel
    have HE : Hid _ := hE
    clear hE
    by_cases hlt : l0 < h0
    · have hlt8 : (l0 : Int) < (h0 : Int) := by omega
      obtain ⟨m, HM⟩ : ∃ m, Hid ((l0 + h0) / 2 = m) := ⟨_, rfl⟩
      have hm := HM.out
      have hm1 : l0 ≤ m := by omega
      have hm2 : m < h0 := by omega
      have hq : ((l0 : Int) + (h0 : Int)).tdiv 2 = (m : Int) := by rw [Int.tdiv_eq_ediv_of_nonneg (by omega)]; omega
      have hm8 : (m : Int) < (gs.length : Int) := by omega
      obtain ⟨l, hl⟩ : ∃ l, gs[m]? = some l := ⟨_, List.getElem?_eq_getElem (by omega)⟩
      obtain ⟨vl, hvl, hI, _⟩ := HN.out.ins m l hl
      obtain ⟨gb, rfl, _, _, cb, _⟩ := HFM.out m _ hvl
      have hcb := rw_cell_lt cb
      obtain ⟨p1, p2⟩ := H60.out l (List.mem_of_getElem? hl)
      obtain ⟨gl, cl, rfl, ql⟩ := rws_at hI p1
      obtain ⟨xl, hxl⟩ : ∃ xl, l[l.length - 1]? = some xl := ⟨_, List.getElem?_eq_getElem (by omega)⟩
      have LK := lastKey_any (c := cl) p1 p2 (ql _ xl hxl)
      have hgm : gs[(l0 + h0) / 2]? = some l := by rw [hm]; exact hl
      have hek := endK_at hxl
      clear hvl hI ql hxl hl hm
      cases hlk : ltK xl.key key
      · have HE2 : Hid (pfF gs key l0 m (k0 + 1) = pageF gs key) := by show _ = _; rw [← HE.out, pfF_down hlt hgm (by rw [hek]; exact hlk), HM.out]
        unfold ltK at hlk
        clear hgm hek HE
        go_wp2_with fail
        refine LK.mono ?_
        rintro e w2 ⟨rfl, rfl⟩
        clear LK
        go_wp2
        exact ⟨⟨l0, m, k0 + 1, by omega, by omega, by omega, rfl, rfl, by go_num, HE2.out, rfl⟩, by simp [intOf]; omega⟩
      · have HE2 : Hid (pfF gs key (m + 1) h0 (k0 + 1) = pageF gs key) := by show _ = _; rw [← HE.out, pfF_up hlt hgm (by rw [hek]; exact hlk), HM.out]
        unfold ltK at hlk
        clear hgm hek HE
        go_wp2_with fail
        refine LK.mono ?_
        rintro e w2 ⟨rfl, rfl⟩
        clear LK
        go_wp2
        exact ⟨⟨m + 1, h0, k0 + 1, by omega, by omega, by omega, by go_num, rfl, by go_num, HE2.out, rfl⟩, by simp [intOf]; omega⟩
    · have hlt8 : ¬ (l0 : Int) < (h0 : Int) := by omega
      have HE2 : Hid (R = (h0, k0)) := by show _ = _; rw [← HR.out, ← HE.out, pfF_end hlt]
      clear HE
      go_wp2
      go_ret2
      rw [HE2.out]
      exact ⟨rfl, rfl⟩
end Go.Proofs.YticogafoopkflaaDoor
