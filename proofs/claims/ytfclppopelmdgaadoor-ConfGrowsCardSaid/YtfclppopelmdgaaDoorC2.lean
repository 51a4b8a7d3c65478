/-
  The program's among, slices.Equal of ints.
-/
import Derived.Test.YtfclppopelmdgaaDoorC1
namespace Go.Proofs.YtfclppopelmdgaaDoor
open Go.RowKit

theorem or_amg : ∀ a b c d e : Bool, bits .or .u8 (bts a b c d e : Nat) ((1 : Nat) : Int) = (bts true b c d e : Nat) ∧ bits .or .u8 (bts a b c d e : Nat) ((2 : Nat) : Int) = (bts a true c d e : Nat) ∧ bits .or .u8 (bts a b c d e : Nat) ((4 : Nat) : Int) = (bts a b true d e : Nat) ∧
    bits .or .u8 (bts a b c d e : Nat) ((8 : Nat) : Int) = (bts a b c true e : Nat) ∧ bits .or .u8 (bts a b c d e : Nat) ((16 : Nat) : Int) = (bts a b c d true : Nat) ∧ bits .or .u8 (bts a b c d e : Nat) ((0 : Nat) : Int) = (bts a b c d e : Nat) := by decide +kernel
theorem or_step (a b c d e : Bool) (n : Int) : bits .or .u8 (bts a b c d e : Nat) (alo n : Nat) = (bts (a || n == 1) (b || n == 2) (c || n == 3) (d || n == 4) (e || n == 5) : Nat) := by
  have h := or_amg a b c d e
  rcases alo_cases n with ⟨rfl, h1⟩ | ⟨rfl, h1⟩ | ⟨rfl, h1⟩ | ⟨rfl, h1⟩ | ⟨rfl, h1⟩ | ⟨hr, h1⟩
  · rw [h1, h.1]; simp
  · rw [h1, h.2.1]; simp
  · rw [h1, h.2.2.1]; simp
  · rw [h1, h.2.2.2.1]; simp
  · rw [h1, h.2.2.2.2.1]; simp
  · rw [h1, h.2.2.2.2.2]
    have e : ∀ k : Int, 1 ≤ k → k ≤ 5 → (n == k) = false := fun k h1 h5 => by
      rw [beq_eq_false_iff_ne]
      omega
    rw [e 1 (by omega) (by omega), e 2 (by omega) (by omega), e 3 (by omega) (by omega), e 4 (by omega) (by omega), e 5 (by omega) (by omega)]
    simp
theorem amg_more {xs : List Int} {k : Nat} (h : k < xs.length) : bits .or .u8 (amg (xs.take k) : Nat) (alo (xs.getD k 0) : Nat) = (amg (xs.take (k + 1)) : Nat) := by
  rw [amg_take h]
  unfold amg
  exact or_step _ _ _ _ _ _

set_option maxHeartbeats 1000000 in
theorem among_any (A : Option Addr) (n c B : Nat) (xs : List Int) (w : World) (h : Is w B A n xs) (hn : n ≤ 1000000) :
    Calls Tryd.prog 43 #[.slice A n c] w fun e w' => e = .returned (.int .u8 (amg xs : Nat)) ∧ w = w' := by
  have HL := Lib.hid h.1
  have H := Lib.hid h.2
  have OA := Lib.hid alone_any
  have M := Lib.hid (fun k (hk : k < xs.length) => amg_more hk)
  have Z := Lib.hid (show amg (xs.take 0) = 0 by rw [List.take_zero]; exact amg_nil)
  have E := Lib.hid (show amg (xs.take n) = amg xs by rw [List.take_of_length_le (by rw [h.1]; omega)])
  clear h
  go_enter Tryd.func43, Tryd.ntmps43
  go_wp2
  go_loopw [3, 8] (fun g i wr => ∃ k : Nat, k ≤ n ∧ i = .int .i64 k ∧ g = .int .u8 (amg (xs.take k) : Nat) ∧ wr = w) (fun _ i _ => n - (intOf i).toNat)
  case atStart => exact ⟨0, Nat.zero_le _, rfl, by rw [Z.out]; rfl, rfl⟩
  case round =>
    obtain ⟨k, hk, rfl, rfl, rfl⟩ := hrel
    by_cases hlt : k < n
    · obtain ⟨b, o, rfl, hb, hc⟩ := H.out (by omega)
      have c1 := hc k hlt
      have k0 : (0 : Int) ≤ (k : Int) := by omega
      have HM := Lib.hid (M.out k (by rw [HL.out]; exact hlt))
      clear hc
      generalize xs.getD k 0 = z at c1 HM
      go_wp2_with (go_at_call 49; refine (OA.out _ _).mono ?_; rintro e w1 ⟨rfl, rfl⟩)
      go_roundw
      case rel => exact ⟨k + 1, by omega, by go_num, by rw [← HM.out], by first | rfl | trivial⟩
      case measure => simp [intOf]; omega
    · obtain rfl : k = n := by omega
      go_wp2
      go_ret
      exact ⟨ret_int (congrArg (fun x : Nat => (x : Int)) E.out), rfl⟩

theorem below_drewN (B : Nat) (w : World) (q : Nat) : Below B w (w.drewN q) := ⟨rfl, rfl, rfl, Nat.le_refl _, fun _ _ => rfl⟩
theorem take_more {xs ys : List Int} {k : Nat} (h1 : k < xs.length) (h2 : k < ys.length) (h : xs.take k = ys.take k) (e : xs.getD k 0 = ys.getD k 0) : xs.take (k + 1) = ys.take (k + 1) := by
  rw [List.take_succ_eq_append_getElem h1, List.take_succ_eq_append_getElem h2, h]
  have e1 : xs.getD k 0 = xs[k] := by simp [List.getD, h1]
  have e2 : ys.getD k 0 = ys[k] := by simp [List.getD, h2]
  rw [← e1, ← e2, e]

set_option maxHeartbeats 1000000 in
theorem equal_ints (A A2 : Option Addr) (n c n2 c2 B B2 : Nat) (xs ys : List Int) (w : World) (h : Is w B A n xs) (h2 : Is w B2 A2 n2 ys) (hn : n ≤ 1000000) (hn2 : n2 ≤ 1000000) :
    Calls Tryd.prog 21 #[.slice A n c, .slice A2 n2 c2] w fun e w' => e = .returned (.bool (xs == ys)) ∧ Below w.heap.size w w' := by
  by_cases hl : n = n2
  · subst hl
    have HL := Lib.hid h.1
    have HL2 := Lib.hid h2.1
    have H := Lib.hid h.2
    have H2 := Lib.hid h2.2
    clear h h2
    have hne : ((n : Int) != (n : Int)) = false := by simp
    go_enter Tryd.func21, Tryd.ntmps21
    go_wp2
    go_loopw [13] (fun i wr => ∃ k : Nat, k ≤ n ∧ i = .int .i64 k ∧ Hid (xs.take k = ys.take k) ∧ ∃ q, wr = w.drewN q) (fun i _ => n - (intOf i).toNat)
    case atStart => exact ⟨0, Nat.zero_le _, rfl, rfl, 0, rfl⟩
    case round =>
      obtain ⟨k, hk, rfl, hs, q, rfl⟩ := hrel
      by_cases hlt : k < n
      · obtain ⟨b, o, rfl, hb, hc⟩ := H.out (by omega)
        obtain ⟨b', o', rfl, hb', hc'⟩ := H2.out (by omega)
        have c1 := hc k hlt
        have c2 := hc' k hlt
        have k0 : (0 : Int) ≤ k := by omega
        clear hc hc'
        by_cases he : xs.getD k 0 = ys.getD k 0
        · have hst := Lib.hid (take_more (by rw [HL.out]; exact hlt) (by rw [HL2.out]; exact hlt) hs.out he)
          rw [he] at c1
          generalize ys.getD k 0 = z at c1 c2
          clear he
          have hz : (z != z) = false := by simp
          go_wp2
          go_quiet (fail)
          go_wp2
          go_roundw
          case rel => exact ⟨k + 1, by omega, by go_num, hst.out, _, rfl⟩
          case measure => simp [intOf]; omega
        · have hf : (xs == ys) = false := by
            rw [beq_eq_false_iff_ne]
            rintro rfl
            exact he rfl
          have hz : (xs.getD k 0 != ys.getD k 0) = true := by simpa using he
          generalize xs.getD k 0 = z at c1 hz
          generalize ys.getD k 0 = y at c2 hz
          clear he
          go_wp2
          go_quiet (fail)
          go_wp2
          go_ret
          exact ⟨ret_bool hf.symm, by rw [World.drewN_drewN]; exact below_drewN _ _ _⟩
      · have ht : Hid ((xs == ys) = true) := by
          have := hs.out
          rw [List.take_of_length_le (by rw [HL.out]; omega), List.take_of_length_le (by rw [HL2.out]; omega)] at this
          exact beq_iff_eq.2 this
        go_wp2
        go_ret
        exact ⟨ret_bool ht.out.symm, below_drewN _ _ _⟩
  · have h1 := h.1
    have h3 := h2.1
    have hf : (xs == ys) = false := by
      rw [beq_eq_false_iff_ne]
      rintro rfl
      exact hl (h1.symm.trans h3)
    have hne : ((n : Int) != (n2 : Int)) = true := by simp; omega
    clear h h2 h1 h3
    go_enter Tryd.func21, Tryd.ntmps21
    go_wp2
    go_ret
    exact ⟨ret_bool hf.symm, Below.refl _ _⟩
end Go.Proofs.YtfclppopelmdgaaDoor
