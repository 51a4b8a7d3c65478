/-
  The bytes of a text, read: plain words, and the reader's single bytes.
-/
import Derived.Test.YtndkoefchlclkaaW1
import Derived.Test.YtndkoefchlclkaaGoesLaw
import Derived.Laws.BytesArg
namespace Go.Proofs.Ytndkoefchlclkaa
open Go.RowKit

/-- A text's bytes, read behind acc, at place p: the text, the place, the error. -/
def dtx (acc : List Int) (p : Nat) : List Int → List Int × Nat × Int
  | [] => ([], 0, 7)
  | [z] => if z = 0 then ([], 0, 7) else if acc.length = 64 then ([], 0, 150) else ([], 0, 7)
  | z :: b :: r =>
    if z = 0 then (if b = 0 then (acc, p + 2, 0) else if b ≠ 255 then ([], 0, 150) else if acc.length = 64 then ([], 0, 150) else dtx (acc ++ [0]) (p + 2) r)
    else if acc.length = 64 then ([], 0, 150) else dtx (acc ++ [z]) (p + 1) (b :: r)

theorem dtx_full (acc : List Int) (p : Nat) (z : Int) (r : List Int) (hz : z ≠ 0) (h : acc.length = 64) : dtx acc p (z :: r) = ([], 0, 150) := by
  cases r with
  | nil => unfold dtx; rw [if_neg hz, if_pos h]
  | cons b r => unfold dtx; rw [if_neg hz, if_pos h]
theorem dtx_next (acc : List Int) (p : Nat) (z : Int) (r : List Int) (hz : z ≠ 0) (h : acc.length ≠ 64) : dtx acc p (z :: r) = dtx (acc ++ [z]) (p + 1) r := by
  cases r with
  | nil => rw [show dtx (acc ++ [z]) (p + 1) [] = ([], 0, 7) by rw [dtx]]; unfold dtx; rw [if_neg hz, if_neg h]
  | cons b r => rw [dtx, if_neg hz, if_neg h]
theorem dtx_end (acc : List Int) (p : Nat) (r : List Int) : dtx acc p (0 :: 0 :: r) = (acc, p + 2, 0) := by rw [dtx, if_pos rfl, if_pos rfl]
theorem dtx_bad (acc : List Int) (p : Nat) (b : Int) (r : List Int) (h : b ≠ 0) (h' : b ≠ 255) : dtx acc p (0 :: b :: r) = ([], 0, 150) := by rw [dtx, if_pos rfl, if_neg h, if_pos h']
theorem dtx_full0 (acc : List Int) (p : Nat) (r : List Int) (h : acc.length = 64) : dtx acc p (0 :: 255 :: r) = ([], 0, 150) := by rw [dtx, if_pos rfl, if_neg (by decide), if_neg (by decide), if_pos h]
theorem dtx_next0 (acc : List Int) (p : Nat) (r : List Int) (h : acc.length ≠ 64) : dtx acc p (0 :: 255 :: r) = dtx (acc ++ [0]) (p + 2) r := by rw [dtx, if_pos rfl, if_neg (by decide), if_neg (by decide), if_neg h]
theorem dtx_short (acc : List Int) (p : Nat) : dtx acc p [0] = ([], 0, 7) := by rw [dtx, if_pos rfl]
theorem dtx_nil (acc : List Int) (p : Nat) : dtx acc p [] = ([], 0, 7) := by rw [dtx]
theorem drop_at (zs : List Int) (k : Nat) (h : k < zs.length) : zs.drop k = zs.getD k 0 :: zs.drop (k + 1) := by
  rw [List.drop_eq_getElem_cons h]
  congr 1
  simp [List.getD, h]

section
variable (p k : Nat) (er : Int) (A : Option Addr) (n c : Nat) (zs : List Int) (w : World) (h : Rd w p k er A n c) (hb : By w p A n zs) (hk : k ≤ n) (hnc : n ≤ c) (hn : n ≤ 140737488355328)
include h hb hk hnc hn
theorem u8_in (he : er = 0) (hlt : k < n) : Calls Try.prog 78 #[.pointer (some ⟨p, 0, none⟩)] w fun e w' => e = .returned (.int .u8 (zs.getD k 0)) ∧ Moved w p ((k + 1 : Nat) : Int) 0 A n c w' := by
  subst he
  have hl := hb.1
  have hok : okN n k 0 1 = true := by unfold okN; simp; omega
  have hok' : okN zs.length k 0 1 = true := by rw [hl]; exact hok
  have h1 : nAt n k 0 1 = k + 1 := by unfold nAt; rw [if_pos hok]; rfl
  have h2 : nErr n k 0 1 = 0 := by unfold nErr; rw [if_pos (by decide), if_neg (by omega), if_neg (by omega)]
  have h3 : nBytes zs k 0 1 = [zs.getD k 0] := by
    unfold nBytes
    rw [if_pos hok', drop_at zs k (by omega)]
    rfl
  have hz := hb.2.1 k
  have h4 : num [zs.getD k 0] = zs.getD k 0 := by
    show (0 * 256 + zs.getD k 0) % 18446744073709551616 = _
    omega
  have hc := u8_any p k 0 A n c zs w h hb hk hnc hn
  rw [h1, h2, h3, h4] at hc
  exact hc
theorem u8_end (he : er = 0) (hlt : k = n) : Calls Try.prog 78 #[.pointer (some ⟨p, 0, none⟩)] w fun e w' => e = .returned (.int .u8 0) ∧ Moved w p k 7 A n c w' := by
  subst he
  have hl := hb.1
  have hok : ¬ okN n k 0 1 = true := by unfold okN; simp; omega
  have hok' : ¬ okN zs.length k 0 1 = true := by rw [hl]; exact hok
  have h1 : nAt n k 0 1 = k := by unfold nAt; rw [if_neg hok]
  have h2 : nErr n k 0 1 = 7 := by unfold nErr; rw [if_pos (by decide), if_neg (by omega), if_pos (by omega)]
  have h3 : nBytes zs k 0 1 = [] := by unfold nBytes; rw [if_neg hok']
  have hc := u8_any p k 0 A n c zs w h hb hk hnc hn
  rw [h1, h2, h3] at hc
  exact hc
theorem u8_err (he : er ≠ 0) : Calls Try.prog 78 #[.pointer (some ⟨p, 0, none⟩)] w fun e w' => e = .returned (.int .u8 0) ∧ Moved w p k er A n c w' := by
  have he' : (er == 0) = false := by simp [he]
  have hok : ¬ okN n k er 1 = true := by unfold okN; rw [he']; simp
  have hok' : ¬ okN zs.length k er 1 = true := by unfold okN; rw [he']; simp
  have h1 : nAt n k er 1 = k := by unfold nAt; rw [if_neg hok]
  have h2 : nErr n k er 1 = er := by unfold nErr; rw [if_neg (by rw [he']; decide)]
  have h3 : nBytes zs k er 1 = [] := by unfold nBytes; rw [if_neg hok']
  have hc := u8_any p k er A n c zs w h hb hk hnc hn
  rw [h1, h2, h3] at hc
  exact hc
end

end Go.Proofs.Ytndkoefchlclkaa
