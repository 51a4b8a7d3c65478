/-
  Parse of Text, in plain words.
-/
import Derived.Test.YtbemnolgolecaaaDoorT1
import Derived.Test.YtbemnolgolecaaaDoorB5
namespace Go.Proofs.YtbemnolgolecaaaDoor

theorem dig_hx (n : Nat) (hn : n < 16) : dig (hx n) = (n : Int) := by
  unfold dig hx
  split <;> split <;> first | omega | (split <;> omega)
theorem hx_range (n : Nat) (hn : n < 16) : 0 ≤ hx n ∧ hx n ≤ 255 := by
  unfold hx
  split <;> omega
theorem txtL_at (a : List Int) : ∀ k i, i < k → (txtL a k).getD (2 * i) 0 = hx ((a.getD i 0).toNat / 16) ∧ (txtL a k).getD (2 * i + 1) 0 = hx ((a.getD i 0).toNat % 16)
  | 0, i, hi => absurd hi (by omega)
  | k + 1, i, hi => by
    have l := txtL_len a k
    rw [txtL]
    by_cases hik : i < k
    · have h := txtL_at a k i hik
      simp only [List.getD_eq_getElem?_getD] at h ⊢
      rw [List.getElem?_append_left (by omega), List.getElem?_append_left (by omega)]
      exact h
    · obtain rfl : i = k := by omega
      simp only [List.getD_eq_getElem?_getD]
      rw [List.getElem?_append_right (by omega), List.getElem?_append_right (by omega), show 2 * i - (txtL a i).length = 0 by omega, show 2 * i + 1 - (txtL a i).length = 1 by omega]
      exact ⟨rfl, rfl⟩
theorem dg_str (xs : List Int) (k : Nat) (hk : k < xs.length) (h0 : 0 ≤ xs.getD k 0) (h1 : xs.getD k 0 ≤ 255) : dg (strOfNums xs) k = dig (xs.getD k 0) := by
  unfold dg
  rw [strOfNums_data]
  congr 1
  simp only [List.getD, List.getElem?_eq_getElem hk, Option.getD_some] at h0 h1 ⊢
  simp [hk]
  omega
theorem dg_text (a : List Int) (bs : Bs a) (i : Nat) (hi : i < 32) : dg (strOfNums (textF a)) (2 * i) = a.getD i 0 / 16 ∧ dg (strOfNums (textF a)) (2 * i + 1) = a.getD i 0 % 16 := by
  have hb := bs i
  obtain ⟨h0, h1⟩ := txtL_at a 32 i hi
  have r0 := hx_range ((a.getD i 0).toNat / 16) (by omega)
  have r1 := hx_range ((a.getD i 0).toNat % 16) (by omega)
  have l := txtL_len a 32
  unfold textF
  rw [dg_str _ _ (by omega) (by rw [h0]; exact r0.1) (by rw [h0]; exact r0.2), dg_str _ _ (by omega) (by rw [h1]; exact r1.1) (by rw [h1]; exact r1.2), h0, h1, dig_hx _ (by omega), dig_hx _ (by omega)]
  omega
theorem text_size (a : List Int) : (strOfNums (textF a)).size = 64 := by rw [strOfNums_size]; exact txtL_len a 32
/-- Parse of Text. -/
theorem parse_text (a : List Int) (ha : a.length = 32) (bs : Bs a) : pId (strOfNums (textF a)) = a ∧ pEr (strOfNums (textF a)) = 0 := by
  have ok : okd (strOfNums (textF a)) 32 := fun i hi => by
    have := dg_text a bs i hi
    have := bs i
    omega
  refine ⟨(if_pos ok).trans ?_, if_pos ok⟩
  apply List.ext_getElem
  · rw [ofd_len, ha]
  · intro i h1 h2
    have h := dg_text a bs i (by omega)
    have hb := bs i
    simp only [ofd, List.getElem_map, List.getElem_range]
    rw [h.1, h.2]
    have e : a.getD i 0 = a[i] := by simp [List.getD, h2]
    rw [← e]
    omega

end Go.Proofs.YtbemnolgolecaaaDoor
