/-
  What the document's Next, Number, Go and 'says' answer.
-/
import Derived.Test.YtbjillkdhjndpaaSteps
namespace Go.Proofs.Ytbjillkdhjndpaa
open Go.RowKit

theorem mul_byte (X z : Int) : IntKind.u64.wrap (IntKind.u64.wrap (256 * X) + z) = (X * 256 + z) % 18446744073709551616 := by
  rw [IntKind.wrap_u64, IntKind.wrap_u64]; omega

set_option maxHeartbeats 400000 in
theorem refnum_any (A : Option Addr) (n c : Nat) (zs : List Int) (w : World) (B : Nat) (h : By w B A n zs) (hn : n ≤ 140737488355328) :
    Calls Try.prog 44 #[.slice A n c] w fun e w' => e = .returned (.int .u64 (num zs)) ∧ w = w' := by
  have hl := Lib.hid h.1
  go_enter Try.func44, Try.ntmps44
  go_wp2
  go_loop [3, 8] (fun t i => ∃ j : Nat, j ≤ n ∧ i = .int .i64 j ∧ t = .int .u64 (num (zs.take j))) (fun _ i => n - (intOf i).toNat)
  case atStart => exact ⟨0, Nat.zero_le _, rfl, rfl⟩
  case round =>
    obtain ⟨j, hj, rfl, rfl⟩ := hrel
    by_cases hlt : j < n
    · obtain ⟨b, o, rfl, hb, hc⟩ := h.2.2 (by omega)
      have hcell := hc j hlt
      have hz := h.2.1 j
      have hs := Lib.hid (num_snoc zs j (by rw [hl.out]; exact hlt))
      clear hc h
      generalize zs.getD j 0 = z at *
      have hr := num_range (zs.take j)
      generalize hX : num (zs.take j) = X at hs hr
      clear hX
      go_wp2
      go_round
      case rel => exact ⟨j + 1, by omega, by go_num, by rw [hs.out, ← mul_byte]⟩
      case measure => simp [intOf]; omega
    · go_wp2
      go_ret
      exact ⟨ret_int (by rw [List.take_of_length_le (by rw [hl.out]; omega)]), rfl⟩

/-- What the document's Next leaves. -/
def Nexted (w : World) (B : Nat) (A : Option Addr) (n c : Nat) (zs : List Int) (k : Nat) (er m : Int) (e : Ending) (w' : World) : Prop :=
  ∃ A' c', e = .returned (.tuple #[.agg #[.slice A n c, .int .i64 (nAt n k er m), .int .i64 (nErr n k er m)], .slice A' (nBytes zs k er m).length c']) ∧ By w' B A' (nBytes zs k er m).length (nBytes zs k er m) ∧ Below w.heap.size w w'

theorem Nexted.mk {w w' : World} {B : Nat} {A : Option Addr} {n c : Nat} {zs : List Int} {k : Nat} {er m : Int} {a b : Int} {X : List Int} {l : Nat} {A' : Option Addr} {c' : Nat} (h2 : (nAt n k er m : Int) = a) (h3 : nErr n k er m = b) (h4 : nBytes zs k er m = X) (h5 : X.length = l)
    (hy : By w' B A' l X) (hb : Below w.heap.size w w') : Nexted w B A n c zs k er m (.returned (.tuple #[.agg #[.slice A n c, .int .i64 a, .int .i64 b], .slice A' l c'])) w' := by
  subst h2 h3 h4 h5
  exact ⟨A', c', rfl, hy, hb⟩

set_option maxHeartbeats 4000000 in
theorem refnext_any (A : Option Addr) (n c : Nat) (zs : List Int) (k : Nat) (er m : Int) (w : World) (B : Nat) (hb : By w B A n zs) (hB : B ≤ w.heap.size) (hk : k ≤ n) (hnc : n ≤ c) (hn : n ≤ 140737488355328) :
    Calls Try.prog 43 #[.agg #[.slice A n c, .int .i64 k, .int .i64 er], .int .i64 m] w (Nexted w B A n c zs k er m) := by
  have F5 := Lib.hid (show ([] : List Int).length = 0 from rfl)
  by_cases he : (er == 0) = true
  · obtain rfl : er = 0 := by simpa using he
    by_cases hneg : m < 0
    · have h1 : okN n k 0 m = false := by simp [okN]; omega
      have h2 : (nAt n k 0 m : Int) = k := by simp [nAt, h1]
      have h3 : nErr n k 0 m = 2 := by simp only [nErr]; rw [if_pos (by decide), if_pos hneg]
      have h4 : nBytes zs k 0 m = [] := by simp [nBytes, hb.1, h1]
      have F2 := Lib.hid h2
      have F3 := Lib.hid h3
      have F4 := Lib.hid h4
      clear h1 h2 h3 h4 hb he
      go_enter Try.func43, Try.ntmps43
      go_wp2
      exact bodyPost_ret (v := .tuple #[.agg #[.slice A n c, .int .i64 k, .int .i64 2], .slice none 0 0]) (by simp [results, Try.results43, go_sem]) rfl (Nexted.mk F2.out F3.out F4.out F5.out (By.none_) (((Below.refl _ _).alloc (Nat.le_refl _) _).alloc (by simp) _))
    · by_cases hm : m ≤ n - k
      · obtain ⟨m, rfl⟩ := Int.eq_ofNat_of_zero_le (show 0 ≤ m by omega)
        have h1 : okN n k 0 m = true := by simp [okN]; omega
        have h2 : (nAt n k 0 m : Int) = (k : Int) + m := by simp [nAt, h1]
        have h3 : nErr n k 0 m = 0 := by simp only [nErr]; rw [if_pos (by decide), if_neg (by omega), if_neg (by omega)]
        have h4 : nBytes zs k 0 m = (zs.drop k).take m := by simp [nBytes, hb.1, h1]
        have hby : By w B (if c = k then A else A.map (·.add k)) m ((zs.drop k).take m) := hb.cut (by omega) hk hnc
        clear F5
        have F5 := Lib.hid (show ((zs.drop k).take m).length = m by rw [List.length_take, List.length_drop, hb.1]; omega)
        have F2 := Lib.hid h2
        have F3 := Lib.hid h3
        have F4 := Lib.hid h4
        have hgt : ¬ ((n : Int) - k < m) := by omega
        by_cases hck : c = k
        · rw [if_pos hck] at hby
          subst hck
          have HY := Lib.hid hby
          clear h1 h2 h3 h4 hb he hby
          go_enter Try.func43, Try.ntmps43
          go_wp2
          exact bodyPost_ret (v := .tuple #[.agg #[.slice A n c, .int .i64 ((c : Int) + m), .int .i64 0], .slice A m 0]) (by simp [results, Try.results43, go_sem]) rfl (Nexted.mk F2.out F3.out F4.out F5.out (HY.out.below (((Below.refl _ _).alloc hB _).alloc (by simp; omega) _)) (((Below.refl _ _).alloc (Nat.le_refl _) _).alloc (by simp) _))
        · rw [if_neg hck] at hby
          have HY := Lib.hid hby
          clear h1 h2 h3 h4 hb he hby
          go_enter Try.func43, Try.ntmps43
          go_wp2
          exact bodyPost_ret (v := .tuple #[.agg #[.slice A n c, .int .i64 ((k : Int) + m), .int .i64 0], .slice (A.map (·.add k)) m (c - k)]) (by simp [results, Try.results43, go_sem]) rfl (Nexted.mk F2.out F3.out F4.out F5.out (HY.out.below (((Below.refl _ _).alloc hB _).alloc (by simp; omega) _)) (((Below.refl _ _).alloc (Nat.le_refl _) _).alloc (by simp) _))
      · have h1 : okN n k 0 m = false := by simp [okN]; omega
        have h2 : (nAt n k 0 m : Int) = k := by simp [nAt, h1]
        have h3 : nErr n k 0 m = 7 := by simp only [nErr]; rw [if_pos (by decide), if_neg hneg, if_pos (by omega)]
        have h4 : nBytes zs k 0 m = [] := by simp [nBytes, hb.1, h1]
        have F2 := Lib.hid h2
        have F3 := Lib.hid h3
        have F4 := Lib.hid h4
        have hgt : (n : Int) - k < m := by omega
        clear h1 h2 h3 h4 hb he
        go_enter Try.func43, Try.ntmps43
        go_wp2
        exact bodyPost_ret (v := .tuple #[.agg #[.slice A n c, .int .i64 k, .int .i64 7], .slice none 0 0]) (by simp [results, Try.results43, go_sem]) rfl (Nexted.mk F2.out F3.out F4.out F5.out (By.none_) (((Below.refl _ _).alloc (Nat.le_refl _) _).alloc (by simp) _))
  · have he' : (er == 0) = false := by simpa using he
    have he2 : (er != 0) = true := by simpa using he
    have h1 : okN n k er m = false := by simp [okN, he']
    have h2 : (nAt n k er m : Int) = k := by simp [nAt, h1]
    have h3 : nErr n k er m = er := by simp only [nErr]; rw [if_neg (by simp [he'])]
    have h4 : nBytes zs k er m = [] := by simp [nBytes, hb.1, h1]
    have F2 := Lib.hid h2
    have F3 := Lib.hid h3
    have F4 := Lib.hid h4
    clear h1 h2 h3 h4 hb he
    go_enter Try.func43, Try.ntmps43
    go_wp2
    exact bodyPost_ret (v := .tuple #[.agg #[.slice A n c, .int .i64 k, .int .i64 er], .slice none 0 0]) (by simp [results, Try.results43, go_sem]) rfl (Nexted.mk F2.out F3.out F4.out F5.out (By.none_) (((Below.refl _ _).alloc (Nat.le_refl _) _).alloc (by simp) _))

end Go.Proofs.Ytbjillkdhjndpaa
