/- Rows come back from their page, without memory. -/
import Derived.Test.YtbgomhgohphglaaDoorPRead6
import Derived.Test.YtbgomhgohphglaaDoorPCut6
namespace Go.Proofs.YtbgomhgohphglaaDoor

def gB (x : Int) : UInt8 := x.toNat.toUInt8

theorem byT_list (bs : List Int) : (byT bs).data.toList = bs.map gB := by simp [byT, gB]

theorem bI_gB (s : ByteArray) : (bI s).map gB = s.data.toList := by
  have := congrArg (fun t : ByteArray => t.data.toList) (byT_bI s)
  rw [byT_list] at this
  exact this

theorem ext_list (s : ByteArray) (a b : Nat) : (s.extract a b).data.toList = (s.data.toList.drop a).take (b - a) := by
  rw [ext_data, Array.toList_extract, List.extract_eq_take_drop]

theorem ba_eq {s t : ByteArray} (h : s.data.toList = t.data.toList) : s = t := ByteArray.ext (Array.toList_inj.1 h)

theorem seg {t : ByteArray} {a b c : List UInt8} {i n : Nat} (h : t.data.toList = a ++ (b ++ c)) (ha : a.length = i) (hb : b.length = n) : (t.extract i (i + n)).data.toList = b := by
  subst ha
  subst hb
  rw [ext_list, h, List.drop_left]
  simp

theorem seg_end {t : ByteArray} {a c : List UInt8} {i : Nat} (h : t.data.toList = a ++ c) (ha : a.length = i) : (t.extract i t.size).data.toList = c := by
  subst ha
  have hs : t.size = a.length + c.length := by
    have h1 : t.data.toList.length = t.size := Array.length_toList
    rw [h, List.length_append] at h1
    exact h1.symm
  rw [ext_list, h, List.drop_left, hs]
  simp

theorem shL_take : ∀ (x y : List UInt8), x.take (shL x y) = y.take (shL x y)
  | [], y => by cases y <;> simp [shL]
  | a :: x, [] => by simp [shL]
  | a :: x, b :: y => by
    unfold shL
    split
    · rename_i h
      simp [h, shL_take x y]
    · simp

theorem gB_nat {n : Nat} (h : n ≤ 255) : (gB (n : Int)).toNat = n := by
  unfold gB
  simp
  omega

theorem getD_app {a c : List UInt8} {i : Nat} (h : i < a.length) : (a ++ c).getD i 0 = a.getD i 0 := by
  simp [List.getD, List.getElem?_append_left h]

/-- The bytes of a row, part by part. -/
theorem row_list (p : ByteArray) (x : Rw) (rs : List Int) : (byT (rowI p x ++ rs)).data.toList = [gB (shB p x.key : Int), gB ((x.key.size : Int) - (shB p x.key : Int)), gB (x.text.size : Int), gB (x.val.size : Int)] ++ ((x.key.data.toList.drop (shB p x.key)) ++ (x.text.data.toList ++ (x.val.data.toList ++ rs.map gB))) := by
  rw [byT_list, List.map_append]
  unfold rowI
  rw [List.map_append, List.map_append, List.map_append, bI_gB, bI_gB, bI_gB, ext_list]
  have h : (x.key.data.toList.drop (shB p x.key)).take (x.key.size - shB p x.key) = x.key.data.toList.drop (shB p x.key) := by
    apply List.take_of_length_le
    have h1 : x.key.data.toList.length = x.key.size := Array.length_toList
    rw [List.length_drop, h1]
    exact Nat.le_refl _
  rw [h]
  simp

theorem hd_of {t : ByteArray} {a c : List UInt8} {i n : Nat} (h : t.data.toList = a ++ c) (hi : i < a.length) (hn : (a.getD i 0).toNat = n) : hd t i = n := by
  unfold hd bAt
  rw [h, getD_app hi]
  exact hn

theorem row_back {p : ByteArray} {x : Rw} {rs : List Int} (hp : p.size ≤ 255) (h0 : x.key.size ≤ 255) (h1 : x.text.size ≤ 255) (h2 : x.val.size ≤ 255) :
    okRow p (byT (rowI p x ++ rs)) = true ∧ rowOf p (byT (rowI p x ++ rs)) = x ∧ restOf (byT (rowI p x ++ rs)) = byT rs := by
  have hL := row_list p x rs
  have s1 := shB_le1 p x.key
  have s2 := shB_le2 p x.key
  have lk : x.key.data.toList.length = x.key.size := Array.length_toList
  have lt : x.text.data.toList.length = x.text.size := Array.length_toList
  have lv : x.val.data.toList.length = x.val.size := Array.length_toList
  have hsz : (byT (rowI p x ++ rs)).size = (rowI p x).length + rs.length := by rw [byT_size, List.length_append]
  have hrl := rowI_len p x
  generalize byT (rowI p x ++ rs) = t at *
  have d0 : hd t 0 = shB p x.key := hd_of hL (by simp) (gB_nat (n := shB p x.key) (by omega))
  have d1 : hd t 1 = x.key.size - shB p x.key := hd_of hL (by simp) (by
    have e : ((x.key.size : Int) - (shB p x.key : Int)) = ((x.key.size - shB p x.key : Nat) : Int) := by omega
    show (gB ((x.key.size : Int) - (shB p x.key : Int))).toNat = _
    rw [e]
    exact gB_nat (by omega))
  have d2 : hd t 2 = x.text.size := hd_of hL (by simp) (gB_nat h1)
  have d3 : hd t 3 = x.val.size := hd_of hL (by simp) (gB_nat h2)
  generalize hA : [gB (shB p x.key : Int), gB ((x.key.size : Int) - (shB p x.key : Int)), gB (x.text.size : Int), gB (x.val.size : Int)] = A at hL
  have lA : A.length = 4 := by rw [← hA]; rfl
  have lK : (x.key.data.toList.drop (shB p x.key)).length = x.key.size - shB p x.key := by rw [List.length_drop, lk]
  have e1 : (t.extract 4 (4 + hd t 1)).data.toList = x.key.data.toList.drop (shB p x.key) := by rw [d1]; exact seg hL lA lK
  have hL2 : t.data.toList = (A ++ x.key.data.toList.drop (shB p x.key)) ++ (x.text.data.toList ++ (x.val.data.toList ++ rs.map gB)) := by rw [hL]; simp
  have e2 : (t.extract (4 + hd t 1) (4 + hd t 1 + hd t 2)).data.toList = x.text.data.toList := by
    rw [d2]
    exact seg hL2 (by rw [List.length_append, lA, lK, d1]) lt
  have hL3 : t.data.toList = (A ++ x.key.data.toList.drop (shB p x.key) ++ x.text.data.toList) ++ (x.val.data.toList ++ rs.map gB) := by rw [hL]; simp
  have e3 : (t.extract (4 + hd t 1 + hd t 2) (4 + hd t 1 + hd t 2 + hd t 3)).data.toList = x.val.data.toList := by
    rw [d3]
    exact seg hL3 (by rw [List.length_append, List.length_append, lA, lK, lt, d1, d2]) lv
  have hL4 : t.data.toList = (A ++ x.key.data.toList.drop (shB p x.key) ++ x.text.data.toList ++ x.val.data.toList) ++ rs.map gB := by rw [hL]; simp
  have e4 : (t.extract (4 + hd t 1 + hd t 2 + hd t 3) t.size).data.toList = rs.map gB := seg_end hL4 (by rw [List.length_append, List.length_append, List.length_append, lA, lK, lt, lv, d1, d2, d3])
  have e5 : (p.extract 0 (hd t 0)).data.toList = x.key.data.toList.take (shB p x.key) := by
    rw [d0, ext_list]
    have := shL_take p.data.toList x.key.data.toList
    simp
    exact this
  refine ⟨?_, ?_, ?_⟩
  · unfold okRow
    rw [d0, d1, d2, d3]
    simp
    omega
  · unfold rowOf
    obtain ⟨k, tx, vl⟩ := x
    congr 1
    · apply ba_eq
      have : (p.extract 0 (hd t 0) ++ t.extract 4 (4 + hd t 1)).data.toList = (p.extract 0 (hd t 0)).data.toList ++ (t.extract 4 (4 + hd t 1)).data.toList := by simp
      rw [this, e5, e1]
      simp
    · exact ba_eq e2
    · exact ba_eq e3
  · unfold restOf
    apply ba_eq
    rw [e4, byT_list]

theorem rows_back : ∀ (l : List Rw) (p : ByteArray), p.size ≤ 255 → (∀ x ∈ l, x.key.size ≤ 255 ∧ x.text.size ≤ 255 ∧ x.val.size ≤ 255) → rdF l.length p (byT (rowsI p l)) = some l
  | [], p, _, _ => rfl
  | x :: l, p, hp, h => by
    obtain ⟨h0, h1, h2⟩ := h x (by simp)
    obtain ⟨a1, a2, a3⟩ := row_back (rs := rowsI x.key l) hp h0 h1 h2
    show rdF (l.length + 1) p (byT (rowI p x ++ rowsI x.key l)) = _
    unfold rdF
    rw [a1, a2, a3, if_pos rfl, rows_back l x.key h0 (fun y hy => h y (by simp [hy]))]
    rfl

/-- The bytes of a page. -/
def pgB (g : List Rw) : ByteArray := byT (pageI g)

theorem pgB_size (g : List Rw) : (pgB g).size = lnP g := byT_size _

theorem pgB_list (g : List Rw) : (pgB g).data.toList = [gB 80, gB 71, gB (g.length : Int)] ++ (rowsI ⟨#[]⟩ g).map gB := by
  unfold pgB pageI
  rw [byT_list, List.map_append]
  rfl

theorem page_back {g : List Rw} (h0 : 0 < g.length) (hg : goodR g = true) (hl : lnP g ≤ 300) : codeP (pgB g) = 0 ∧ readP (pgB g) = g := by
  have hB := goodR_RwB hg
  have hL := pgB_list g
  have hs := pgB_size g
  have h3 : 3 ≤ lnP g := by rw [lnP_is]; omega
  have hlo : lenOk (pgB g) = true := by unfold lenOk; rw [hs, decide_eq_true h3, decide_eq_true hl]; rfl
  have d0 : hd (pgB g) 0 = 80 := hd_of hL (by simp) rfl
  have d1 : hd (pgB g) 1 = 71 := hd_of hL (by simp) rfl
  have d2 : hd (pgB g) 2 = g.length := hd_of hL (by simp) (gB_nat hB.1)
  have hm : markOk (pgB g) = true := by unfold markOk; rw [d0, d1]; rfl
  have he : (pgB g).extract 3 (pgB g).size = byT (rowsI ⟨#[]⟩ g) := by
    apply ba_eq
    rw [byT_list]
    exact seg_end hL rfl
  have hr : readL (pgB g) = some g := by
    unfold readL
    rw [d2, he, rows_back g ⟨#[]⟩ (Nat.zero_le _) hB.2]
    have hp : isPage (pgB g) g = true := by
      unfold isPage
      rw [hg, decide_eq_true (show byT (pageI g) = pgB g from rfl)]
      have : (g.length == 0) = false := by rw [beq_eq_false_iff_ne]; omega
      rw [this]
      rfl
    simp [hp]
  constructor
  · unfold codeP; rw [hlo, hm, hr]; rfl
  · unfold readP; rw [hlo, hm, hr]; rfl

theorem page_long {g : List Rw} (hl : ¬ lnP g ≤ 300) : codeP (pgB g) = 1 := by
  unfold codeP lenOk
  rw [pgB_size, decide_eq_false hl]
  simp
end Go.Proofs.YtbgomhgohphglaaDoor
