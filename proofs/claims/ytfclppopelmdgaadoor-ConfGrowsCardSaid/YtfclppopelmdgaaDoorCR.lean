/-
  Plain: there and back, of members and bytes, of who comes and goes. And: boxes of members.
-/
import Derived.Test.YtfclppopelmdgaaDoorCD
import Derived.Test.YtfclppopelmdgaaDoorCSh
namespace Go.Proofs.YtfclppopelmdgaaDoor
open Go.RowKit
attribute [local go_sem ↓] field27

theorem enc_row : ∀ g : Fin 32, g.val ≠ 0 → decE (encL (row g.val)) = 0 ∧ decL (encL (row g.val)) = row g.val ∧ chkE (row g.val) = 0 := by decide +kernel
theorem enc_dec {X : List Int} (h : grp X ≠ 0) : decE (encL X) = 0 ∧ decL (encL X) = X ∧ chkE X = 0 := by
  have hx := of_grp h
  have := enc_row ⟨grp X, grp_lt X⟩ h
  rw [← hx] at this
  exact this
theorem enc_len {X : List Int} (h : grp X ≠ 0) : (encL X).length ≤ 6 := by
  unfold encL
  rw [if_neg h, List.length_cons]
  have := pop_le (grp X)
  unfold pop at this
  omega
theorem dec_enc {r : List Int} (h : decE (r.take 300) = 0) : r.length ≤ 6 ∧ chkE (decL (r.take 300)) = 0 ∧ encL (decL (r.take 300)) = r := by
  obtain ⟨h5, hg⟩ := decL_len h
  have hd : decL (r.take 300) = (r.take 300).drop 1 := by unfold decL; rw [if_pos h]
  rw [hd] at h5 ⊢
  have hl : (r.take 300).length ≠ 0 ∧ ((r.take 300).length : Int) = 1 + (r.take 300).getD 0 0 := by
    unfold decE at h
    split at h
    · cases h
    · next h1 =>
      split at h
      · cases h
      · omega
  rw [List.length_drop] at h5
  have h6 : (r.take 300).length ≤ 6 := by omega
  have hr : r.take 300 = r := by
    rw [List.length_take] at h6
    exact List.take_of_length_le (by omega)
  rw [hr] at hg hl h6 ⊢
  refine ⟨h6, by unfold chkE; rw [if_neg hg], ?_⟩
  unfold encL
  rw [if_neg hg]
  have hx := of_grp hg
  have hp : pop (grp (r.drop 1)) = r.length - 1 := by
    unfold pop
    rw [← hx, List.length_drop]
  rw [hp, ← hx]
  cases r with
  | nil => exact absurd rfl hl.1
  | cons x t =>
    simp only [List.length_cons, List.getD_cons_zero, List.drop_succ_cons, List.drop_zero] at hl ⊢
    congr 1
    omega
theorem go_back : ∀ g : Fin 32, ∀ k : Fin 5, g.val ≠ 0 → inG g.val ((k.val : Int) + 1) = true →
    (dropE (row g.val) ((k.val : Int) + 1) ≠ 0 ∧ (row g.val).length = 1) ∨
    (dropE (row g.val) ((k.val : Int) + 1) = 0 ∧ addE (dropL (row g.val) ((k.val : Int) + 1)) ((k.val : Int) + 1) = 0 ∧ addL (dropL (row g.val) ((k.val : Int) + 1)) ((k.val : Int) + 1) = row g.val ∧
      inG (grp (dropL (row g.val) ((k.val : Int) + 1))) ((k.val : Int) + 1) = false ∧ stepE (row g.val) (dropL (row g.val) ((k.val : Int) + 1)) = 0 ∧ stepE (dropL (row g.val) ((k.val : Int) + 1)) (row g.val) = 0) := by decide +kernel
theorem come_back : ∀ g : Fin 32, ∀ k : Fin 5, g.val ≠ 0 → inG g.val ((k.val : Int) + 1) = false →
    addE (row g.val) ((k.val : Int) + 1) = 0 ∧ dropE (addL (row g.val) ((k.val : Int) + 1)) ((k.val : Int) + 1) = 0 ∧ dropL (addL (row g.val) ((k.val : Int) + 1)) ((k.val : Int) + 1) = row g.val ∧
      inG (grp (addL (row g.val) ((k.val : Int) + 1))) ((k.val : Int) + 1) = true ∧ stepE (row g.val) (addL (row g.val) ((k.val : Int) + 1)) = 0 ∧ stepE (addL (row g.val) ((k.val : Int) + 1)) (row g.val) = 0 := by decide +kernel
theorem gone {X : List Int} {m : Int} (h : grp X ≠ 0) (hi : inG (grp X) m = true) : (dropE X m ≠ 0 ∧ X.length = 1) ∨
    (dropE X m = 0 ∧ addE (dropL X m) m = 0 ∧ addL (dropL X m) m = X ∧ inG (grp (dropL X m)) m = false ∧ stepE X (dropL X m) = 0 ∧ stepE (dropL X m) X = 0) := by
  have hx := of_grp h
  obtain ⟨k, rfl, _⟩ := alo_pow (in_alo hi)
  have := go_back ⟨grp X, grp_lt X⟩ k h hi
  rw [← hx] at this
  exact this
theorem came {X : List Int} {m : Int} (h : grp X ≠ 0) (hi : inG (grp X) m = false) (ha : alo m ≠ 0) :
    addE X m = 0 ∧ dropE (addL X m) m = 0 ∧ dropL (addL X m) m = X ∧ inG (grp (addL X m)) m = true ∧ stepE X (addL X m) = 0 ∧ stepE (addL X m) X = 0 := by
  have hx := of_grp h
  obtain ⟨k, rfl, _⟩ := alo_pow ha
  have := come_back ⟨grp X, grp_lt X⟩ k h hi
  rw [← hx] at this
  exact this
theorem came_no {X : List Int} {m : Int} (h : grp X ≠ 0) (ha : alo m = 0) : addE X m ≠ 0 ∧ (m < 1 ∨ 5 < m) := by
  refine ⟨?_, ?_⟩
  · unfold addE
    rw [if_neg h, if_pos ha]
    decide
  · rcases alo_cases m with ⟨_, e⟩ | ⟨_, e⟩ | ⟨_, e⟩ | ⟨_, e⟩ | ⟨_, e⟩ | ⟨hr, _⟩
    all_goals first | exact hr | (rw [ha] at e; cases e)

/-- Box q holds members. -/
structure Bc (w : World) (q : Nat) (A : Option Addr) (n c : Nat) (xs : List Int) : Prop where
  blk : Blk w q 27 #[.slice A n c]
  is_ : Is w w.heap.size A n xs
  le : n ≤ 1000000
section
variable {w w' : World} {q q2 : Nat} {A A2 : Option Addr} {n c n2 c2 : Nat} {xs ys : List Int}
theorem Bc.on (h : Bc w q A n c xs) (hb : Below w.heap.size w w') : Bc w' q A n c xs := ⟨h.blk.below hb h.blk.lt, (h.is_.below hb).more hb.size, h.le⟩
theorem Bc.cell (h : Bc w q A n c xs) : w.cell? ⟨q, 0, none⟩ = some (.slice A n c) := h.blk.cell 0
theorem Bc.new_ (h : Is w w.heap.size A n xs) (hn : n ≤ 1000000) : Bc (w.alloc (.cells #[.slice A n c] 27)) w.heap.size A n c xs :=
  ⟨Blk.new _ _ _, (h.below ((Below.refl _ _).alloc (Nat.le_refl _) _)).more (by simp), hn⟩
theorem Bc.check (h : Bc w q A n c xs) (hG : Gl w) : Calls Tryd.prog 14 #[.agg #[.slice A n c]] w fun e w' => e = .returned (.int .i64 (chkE xs)) ∧ Below w.heap.size w w' := check_any A n c _ xs w h.is_ h.le (Nat.le_refl _) hG
theorem Bc.hasc (h : Bc w q A n c xs) (hG : Gl w) (m : Int) : Calls Tryd.prog 15 #[.agg #[.slice A n c], .int .i64 m] w fun e w' => e = .returned (.bool (inG (grp xs) m)) ∧ Below w.heap.size w w' := hasc_any m A n c _ xs w h.is_ h.le (Nat.le_refl _) hG
theorem Bc.same (h : Bc w q A n c xs) (h2 : Bc w q2 A2 n2 c2 ys) : Calls Tryd.prog 17 #[.agg #[.slice A n c], .agg #[.slice A2 n2 c2]] w fun e w' => e = .returned (.bool (xs == ys)) ∧ Below w.heap.size w w' := same_any A A2 n c n2 c2 _ _ xs ys w h.is_ h2.is_ h.le h2.le (Nat.le_refl _) (Nat.le_refl _)
theorem Bc.step (h : Bc w q A n c xs) (h2 : Bc w q2 A2 n2 c2 ys) (hG : Gl w) : Calls Tryd.prog 25 #[.agg #[.slice A n c], .agg #[.slice A2 n2 c2]] w fun e w' => e = .returned (.int .i64 (stepE xs ys)) ∧ Below w.heap.size w w' := step_any A2 n2 c2 _ ys A n c _ xs w h.is_ h.le (Nat.le_refl _) hG h2.is_ h2.le (Nat.le_refl _)
theorem Bc.add (h : Bc w q A n c xs) (hG : Gl w) (m : Int) : Calls Tryd.prog 26 #[.agg #[.slice A n c], .int .i64 m] w (Cfx w (addL xs m) (addE xs m)) := add_any m A n c _ xs w h.is_ h.le (Nat.le_refl _) hG
theorem Bc.drop (h : Bc w q A n c xs) (hG : Gl w) (m : Int) : Calls Tryd.prog 27 #[.agg #[.slice A n c], .int .i64 m] w (Cfx w (dropL xs m) (dropE xs m)) := drop_any m A n c _ xs w h.is_ h.le (Nat.le_refl _) hG
theorem Bc.encode (h : Bc w q A n c xs) (hG : Gl w) : Calls Tryd.prog 30 #[.agg #[.slice A n c]] w (Enc w (encL xs) (chkE xs)) := encode_any A n c _ xs w h.is_ h.le (Nat.le_refl _) hG
end

set_option maxHeartbeats 1000000 in
theorem equal_bytes (A A2 : Option Addr) (n c n2 c2 B B2 : Nat) (xs ys : List Int) (w : World) (h : By w B A n xs) (h2 : By w B2 A2 n2 ys) (hn : n ≤ 1000000) (hn2 : n2 ≤ 1000000) :
    Calls Tryd.prog 31 #[.slice A n c, .slice A2 n2 c2] w fun e w' => e = .returned (.bool (xs == ys)) ∧ Below w.heap.size w w' := by
  by_cases hl : n = n2
  · subst hl
    have HL := Lib.hid h.1
    have HL2 := Lib.hid h2.1
    have H := Lib.hid h.2.2
    have H2 := Lib.hid h2.2.2
    clear h h2
    have hne : ((n : Int) != (n : Int)) = false := by simp
    go_enter Tryd.func31, Tryd.ntmps31
    go_wp2
    go_loopw [13] (fun i wr => ∃ k : Nat, k ≤ n ∧ i = .int .i64 k ∧ Hid (xs.take k = ys.take k) ∧ ∃ q, wr = w.drewN q) (fun i _ => n - (intOf i).toNat)
    case atStart => exact ⟨0, Nat.zero_le _, rfl, rfl, 0, rfl⟩
    case round =>
      obtain ⟨k, hk, rfl, hs, q, rfl⟩ := hrel
      by_cases hlt : k < n
      · obtain ⟨b, o, rfl, hb, hc⟩ := H.out (by omega)
        obtain ⟨b', o', rfl, hb', hc'⟩ := H2.out (by omega)
        have c1 := hc k hlt
        have c2 := hc' k hlt
        have k0 : (0 : Int) ≤ k := by omega
        clear hc hc'
        by_cases he : xs.getD k 0 = ys.getD k 0
        · have hst := Lib.hid (take_more (by rw [HL.out]; exact hlt) (by rw [HL2.out]; exact hlt) hs.out he)
          rw [he] at c1
          generalize ys.getD k 0 = z at c1 c2
          clear he
          have hz : (z != z) = false := by simp
          go_wp2
          go_quiet (fail)
          go_wp2
          go_roundw
          case rel => exact ⟨k + 1, by omega, by go_num, hst.out, _, rfl⟩
          case measure => simp [intOf]; omega
        · have hf : (xs == ys) = false := by
            rw [beq_eq_false_iff_ne]
            rintro rfl
            exact he rfl
          have hz : (xs.getD k 0 != ys.getD k 0) = true := by simpa using he
          generalize xs.getD k 0 = z at c1 hz
          generalize ys.getD k 0 = y at c2 hz
          clear he
          go_wp2
          go_quiet (fail)
          go_wp2
          go_ret
          exact ⟨ret_bool hf.symm, by rw [World.drewN_drewN]; exact below_drewN _ _ _⟩
      · have ht : Hid ((xs == ys) = true) := by
          have := hs.out
          rw [List.take_of_length_le (by rw [HL.out]; omega), List.take_of_length_le (by rw [HL2.out]; omega)] at this
          exact beq_iff_eq.2 this
        go_wp2
        go_ret
        exact ⟨ret_bool ht.out.symm, below_drewN _ _ _⟩
  · have h1 := h.1
    have h3 := h2.1
    have hf : (xs == ys) = false := by
      rw [beq_eq_false_iff_ne]
      rintro rfl
      exact hl (h1.symm.trans h3)
    have hne : ((n : Int) != (n2 : Int)) = true := by simp; omega
    clear h h2 h1 h3
    go_enter Tryd.func31, Tryd.ntmps31
    go_wp2
    go_ret
    exact ⟨ret_bool hf.symm, Below.refl _ _⟩
end Go.Proofs.YtfclppopelmdgaaDoor
