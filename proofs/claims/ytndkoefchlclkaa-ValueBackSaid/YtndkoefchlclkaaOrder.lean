/-
  What bytes.Compare and cmp.Compare answer, and that the bytes of numbers stand in the numbers' order.
-/
import Derived.Test.YtndkoefchlclkaaWakes
import Derived.Lib.BytesEntry
import Derived.Laws.Externs
namespace Go.Proofs.Ytndkoefchlclkaa
open Go.RowKit

def cmp3 (x y : Int) : Int := if x < y then -1 else if y < x then 1 else 0

theorem be_succ (s x : Nat) : be (s + 1) (x : Int) = ((x / 256 ^ s % 256 : Nat) : Int) :: be s (x : Int) := by
  unfold be
  rw [List.range_succ_eq_map, List.map_cons, List.map_map]
  congr 1
  apply List.map_congr_left
  intro i _
  simp only [Function.comp]
  rw [show s + 1 - 1 - (i + 1) = s - 1 - i by omega]

theorem cmp_be : ∀ (s x y : Nat), Lib.compareBytes (Lib.bytesOf (be s (x : Int))) (Lib.bytesOf (be s (y : Int))) = cmp3 ((x % 256 ^ s : Nat) : Int) ((y % 256 ^ s : Nat) : Int)
  | 0, x, y => by simp [be, Lib.bytesOf, Lib.compareBytes, cmp3]
  | s + 1, x, y => by
    have ih := cmp_be s x y
    rw [be_succ, be_succ]
    simp only [Lib.bytesOf, List.map_cons, Int.toNat_natCast] at ih ⊢
    unfold Lib.compareBytes
    rw [ih]
    have hM : 0 < 256 ^ s := Nat.pow_pos (by omega)
    rw [Nat.pow_succ, Nat.mod_mul, Nat.mod_mul (x := y)]
    have rx := Nat.mod_lt x hM
    have ry := Nat.mod_lt y hM
    have qx := Nat.mod_lt (x / 256 ^ s) (show 0 < 256 by omega)
    have qy := Nat.mod_lt (y / 256 ^ s) (show 0 < 256 by omega)
    generalize x / 256 ^ s % 256 = a at *
    generalize y / 256 ^ s % 256 = b at *
    generalize x % 256 ^ s = r at *
    generalize y % 256 ^ s = t at *
    generalize 256 ^ s = M at *
    have hl : ∀ u v : Nat, u < 256 → v < 256 → (UInt8.ofNat u < UInt8.ofNat v ↔ u < v) := fun u v hu hv => by
      rw [UInt8.lt_iff_toNat_lt, UInt8.toNat_ofNat', UInt8.toNat_ofNat']
      omega
    simp only [hl a b qx qy, hl b a qy qx]
    unfold cmp3
    rcases Nat.lt_trichotomy a b with h | h | h
    · have := Nat.mul_le_mul_left M (show a + 1 ≤ b from h)
      rw [Nat.mul_add, Nat.mul_one] at this
      rw [if_pos h, if_pos (by omega)]
    · subst h
      rw [if_neg (by omega), if_neg (by omega)]
      congr 1
      · simp
      · congr 1
        simp
    · have := Nat.mul_le_mul_left M (show b + 1 ≤ a from h)
      rw [Nat.mul_add, Nat.mul_one] at this
      rw [if_neg (by omega), if_pos h, if_neg (by omega), if_pos (by omega)]

theorem cmp_be_int (s : Nat) (x y : Int) (hx : 0 ≤ x ∧ x < ((256 ^ s : Nat) : Int)) (hy : 0 ≤ y ∧ y < ((256 ^ s : Nat) : Int)) : Lib.compareBytes (Lib.bytesOf (be s x)) (Lib.bytesOf (be s y)) = cmp3 x y := by
  obtain ⟨x, rfl⟩ := Int.eq_ofNat_of_zero_le hx.1
  obtain ⟨y, rfl⟩ := Int.eq_ofNat_of_zero_le hy.1
  rw [cmp_be, Nat.mod_eq_of_lt (by omega), Nat.mod_eq_of_lt (by omega)]

theorem run_compareSlice (w : World) (g g' n c m d : Nat) (xs ys : List Int) (hx : xs.length = n) (hy : ys.length = m)
    (h : ∀ j, j < n → w.cell? ⟨g, j, none⟩ = some (.int .u8 (xs.getD j 0))) (h' : ∀ j, j < m → w.cell? ⟨g', j, none⟩ = some (.int .u8 (ys.getD j 0))) :
    (Extern.BytealgCompare.compare #[.slice (some ⟨g, 0, none⟩) n c, .slice (some ⟨g', 0, none⟩) m d]).run Try.prog w = .ok (.int .i64 (Lib.compareBytes (Lib.bytesOf xs) (Lib.bytesOf ys))) w := by
  have at_ : ∀ (b j : Nat), (⟨b, 0, none⟩ : Addr).add j = ⟨b, j, none⟩ := fun b j => by by_cases h0 : j = 0 <;> simp [Addr.add, h0]
  have l1 := Lib.run_loadBytesX (P := Try.prog) w xs ⟨g, 0, none⟩ .empty (fun j x hj => by
    have hjl : j < xs.length := (List.getElem?_eq_some_iff.1 hj).1
    rw [at_, h j (by omega), List.getD_eq_getElem?_getD, hj]
    rfl)
  have l2 := Lib.run_loadBytesX (P := Try.prog) w ys ⟨g', 0, none⟩ .empty (fun j x hj => by
    have hjl : j < ys.length := (List.getElem?_eq_some_iff.1 hj).1
    rw [at_, h' j (by omega), List.getD_eq_getElem?_getD, hj]
    rfl)
  have he : ∀ l : List UInt8, (⟨ByteArray.empty.data ++ l.toArray⟩ : ByteArray) = ⟨l.toArray⟩ := fun l => by
    apply ByteArray.ext
    show (#[] : Array UInt8) ++ l.toArray = l.toArray
    simp
  rw [hx, he] at l1
  rw [hy, he] at l2
  change Sem.run Try.prog (do pure (goInt (Extern.BytealgCompare.cmp (← Extern.Bytes.bytesOf (.slice (some ⟨g, 0, none⟩) n c)) (← Extern.Bytes.bytesOf (.slice (some ⟨g', 0, none⟩) m d))))) w = _
  simp only [Extern.Bytes.bytesOf, Sem.run_bind, Sem.run_pure, l1, l2, Result.andThen]
  rw [Lib.cmp_eq]
  rfl

set_option maxHeartbeats 400000 in
theorem bcompare_any (w : World) (g g' n c m d : Nat) (xs ys : List Int) (hx : xs.length = n) (hy : ys.length = m)
    (h : ∀ j, j < n → w.cell? ⟨g, j, none⟩ = some (.int .u8 (xs.getD j 0))) (h' : ∀ j, j < m → w.cell? ⟨g', j, none⟩ = some (.int .u8 (ys.getD j 0))) :
    Calls Try.prog 37 #[.slice (some ⟨g, 0, none⟩) n c, .slice (some ⟨g', 0, none⟩) m d] w fun e w' => e = .returned (.int .i64 (Lib.compareBytes (Lib.bytesOf xs) (Lib.bytesOf ys))) ∧ w = w' := by
  have hr := Lib.hid (run_compareSlice w g g' n c m d xs ys hx hy h h')
  clear h h' hx hy
  go_enter Try.func37, Try.ntmps37
  go_wp2
  rw [run_callFunc_extern Try.func64 (by kernel_rfl) (by kernel_rfl) (by kernel_rfl) (e := Extern.BytealgCompare.compare) (by kernel_rfl), hr.out]
  simp only [Result.andThen]
  rw [Oper.upon_value]
  go_wp2
  go_ret
  exact ⟨rfl, rfl⟩


end Go.Proofs.Ytndkoefchlclkaa
