/-
  What a Reader answers, whatever its state: U8, U16, U32, U64, Raw, Go.
-/
import Derived.Test.YtbjillkdhjndpaaRead4
namespace Go.Proofs.Ytbjillkdhjndpaa
open Go.RowKit

theorem Bs.take {zs : List Int} (h : Bs zs) (k : Nat) : Bs (zs.take k) := fun j => by
  have := h j
  simp only [List.getD, List.getElem?_take] at this ⊢
  split
  · exact this
  · simp
theorem Bs.drop {zs : List Int} (h : Bs zs) (k : Nat) : Bs (zs.drop k) := fun j => by
  have := h (k + j)
  simpa only [List.getD, List.getElem?_drop] using this

theorem num_lt : ∀ (k : Nat) (zs : List Int), zs.length = k → k ≤ 8 → Bs zs → num zs < ((256 ^ k : Nat) : Int)
  | 0, zs, h, _, _ => by
    obtain rfl : zs = [] := List.eq_nil_of_length_eq_zero h
    simp [num]
  | k + 1, zs, h, h8, hb => by
    have e := num_snoc zs k (by omega)
    rw [List.take_of_length_le (by omega)] at e
    have hz := hb k
    have ih := num_lt k (zs.take k) (by rw [List.length_take]; omega) (by omega) (hb.take k)
    have h0 := (num_range (zs.take k)).1
    have h7 : (256 : Nat) ^ k ≤ 256 ^ 7 := Nat.pow_le_pow_right (by omega) (by omega)
    rw [show (256 : Nat) ^ 7 = 72057594037927936 from rfl] at h7
    rw [e, Nat.pow_succ]
    generalize (256 : Nat) ^ k = X at *
    omega

theorem nBytes_len (zs : List Int) (k : Nat) (er m : Int) : (nBytes zs k er m).length ≤ m.toNat := by
  unfold nBytes
  split
  · rw [List.length_take]; omega
  · simp
theorem nBytes_bs {zs : List Int} (h : Bs zs) (k : Nat) (er m : Int) : Bs (nBytes zs k er m) := by
  unfold nBytes
  split
  · exact (h.drop k).take _
  · intro j; simp
theorem num_nBytes {zs : List Int} (h : Bs zs) (k : Nat) (er : Int) (m : Nat) (hm : m ≤ 8) : 0 ≤ num (nBytes zs k er m) ∧ num (nBytes zs k er m) < ((256 ^ m : Nat) : Int) := by
  refine ⟨(num_range _).1, ?_⟩
  have h1 := nBytes_len zs k er m
  have h2 := num_lt _ _ rfl (by omega) (nBytes_bs h k er m)
  have h3 : (256 : Nat) ^ (nBytes zs k er m).length ≤ 256 ^ m := Nat.pow_le_pow_right (by omega) (by omega)
  generalize (256 : Nat) ^ (nBytes zs k er m).length = X at *
  generalize (256 : Nat) ^ m = Y at *
  omega

section
variable (p k : Nat) (er : Int) (A : Option Addr) (n c : Nat) (zs : List Int) (w : World) (h : Rd w p k er A n c) (hb : By w p A n zs) (hk : k ≤ n) (hnc : n ≤ c) (hn : n ≤ 140737488355328)
include h hb hk hnc hn
theorem u8_any : Calls Try.prog 28 #[.pointer (some ⟨p, 0, none⟩)] w fun e w' => e = .returned (.int .u8 (num (nBytes zs k er 1))) ∧ Moved w p (nAt n k er 1) (nErr n k er 1) A n c w' := by
  have hr := num_nBytes hb.bs k er 1 (by omega)
  go_enter Try.func28, Try.ntmps28
  go_wp2_with (go_at_call 46; refine (number_any p k 1 er A n c zs w h hb hk hnc hn).mono ?_; rintro e w' ⟨rfl, hm⟩)
  go_ret
  exact ⟨ret_int (Int.emod_eq_of_lt hr.1 (by simpa using hr.2)), hm⟩
theorem u16_any : Calls Try.prog 29 #[.pointer (some ⟨p, 0, none⟩)] w fun e w' => e = .returned (.int .u16 (num (nBytes zs k er 2))) ∧ Moved w p (nAt n k er 2) (nErr n k er 2) A n c w' := by
  have hr := num_nBytes hb.bs k er 2 (by omega)
  go_enter Try.func29, Try.ntmps29
  go_wp2_with (go_at_call 46; refine (number_any p k 2 er A n c zs w h hb hk hnc hn).mono ?_; rintro e w' ⟨rfl, hm⟩)
  go_ret
  exact ⟨ret_int (by first | rfl | (simp only [IntKind.wrap_u16]; exact Int.emod_eq_of_lt hr.1 (by simpa using hr.2))), hm⟩
theorem u32_any : Calls Try.prog 30 #[.pointer (some ⟨p, 0, none⟩)] w fun e w' => e = .returned (.int .u32 (num (nBytes zs k er 4))) ∧ Moved w p (nAt n k er 4) (nErr n k er 4) A n c w' := by
  have hr := num_nBytes hb.bs k er 4 (by omega)
  go_enter Try.func30, Try.ntmps30
  go_wp2_with (go_at_call 46; refine (number_any p k 4 er A n c zs w h hb hk hnc hn).mono ?_; rintro e w' ⟨rfl, hm⟩)
  go_ret
  exact ⟨ret_int (Int.emod_eq_of_lt hr.1 (by simpa using hr.2)), hm⟩
theorem u64_any : Calls Try.prog 31 #[.pointer (some ⟨p, 0, none⟩)] w fun e w' => e = .returned (.int .u64 (num (nBytes zs k er 8))) ∧ Moved w p (nAt n k er 8) (nErr n k er 8) A n c w' := by
  go_enter Try.func31, Try.ntmps31
  go_wp2_with (go_at_call 46; refine (number_any p k 8 er A n c zs w h hb hk hnc hn).mono ?_; rintro e w' ⟨rfl, hm⟩)
  go_ret
  exact ⟨rfl, hm⟩
end

theorem u8_nil (w : World) : Calls Try.prog 28 #[.pointer none] w fun e w' => e = .returned (.int .u8 0) ∧ w = w' := by
  go_enter Try.func28, Try.ntmps28
  go_wp2_with (go_at_call 46; refine (number_nil _ _).mono ?_; rintro e w' ⟨rfl, rfl⟩)
  go_ret
  exact ⟨rfl, rfl⟩
theorem u16_nil (w : World) : Calls Try.prog 29 #[.pointer none] w fun e w' => e = .returned (.int .u16 0) ∧ w = w' := by
  go_enter Try.func29, Try.ntmps29
  go_wp2_with (go_at_call 46; refine (number_nil _ _).mono ?_; rintro e w' ⟨rfl, rfl⟩)
  go_ret
  exact ⟨rfl, rfl⟩
theorem u32_nil (w : World) : Calls Try.prog 30 #[.pointer none] w fun e w' => e = .returned (.int .u32 0) ∧ w = w' := by
  go_enter Try.func30, Try.ntmps30
  go_wp2_with (go_at_call 46; refine (number_nil _ _).mono ?_; rintro e w' ⟨rfl, rfl⟩)
  go_ret
  exact ⟨rfl, rfl⟩
theorem u64_nil (w : World) : Calls Try.prog 31 #[.pointer none] w fun e w' => e = .returned (.int .u64 0) ∧ w = w' := by
  go_enter Try.func31, Try.ntmps31
  go_wp2_with (go_at_call 46; refine (number_nil _ _).mono ?_; rintro e w' ⟨rfl, rfl⟩)
  go_ret
  exact ⟨rfl, rfl⟩

theorem raw_nil (m : Int) (w : World) : Calls Try.prog 32 #[.pointer none, .int .i64 m] w fun e w' => e = .returned (.slice none 0 0) ∧ w = w' := by
  go_enter Try.func32, Try.ntmps32
  go_wp2_with (first | (go_at_call 48; refine (next_nil _ _).mono ?_; rintro e w' ⟨rfl, rfl⟩) | (go_at_call 47; refine (bclone_nil _ _ _).mono ?_; rintro e w' ⟨rfl, rfl⟩))
  go_ret
  exact ⟨rfl, rfl⟩

theorem go_nil (m : Int) (w : World) : Calls Try.prog 34 #[.pointer none, .int .i64 m] w fun e w' => e = .returned (.tuple #[]) ∧ w = w' := by
  go_enter Try.func34, Try.ntmps34
  go_wp2_with (go_at_call 49; refine (sound_nil _).mono ?_; rintro e w' ⟨rfl, rfl⟩)
  refine bodyPost_ret (results_none rfl _ _ _) rfl ?_
  exact ⟨rfl, rfl⟩

/-- What Raw leaves: the bytes in memory of their own. -/
def Rawed (w : World) (p k : Nat) (er m : Int) (A : Option Addr) (n c : Nat) (zs : List Int) (e : Ending) (w' : World) : Prop :=
  ∃ A' c', e = .returned (.slice A' (nBytes zs k er m).length c') ∧ Own w' w.heap.size A' (nBytes zs k er m).length c' (nBytes zs k er m) ∧ Moved w p (nAt n k er m) (nErr n k er m) A n c w'

theorem nothing (w : World) (b : Nat) : Own w b none 0 0 [] := ⟨World.ownsRow_nil _ _ _ _, fun j => by simp⟩

theorem Moved.below {w w1 w' : World} {p n c : Nat} {k er : Int} {A : Option Addr} (h : Moved w p k er A n c w1) (hb : Below w1.heap.size w1 w') : Moved w p k er A n c w' :=
  ⟨Blk.below h.1 hb (Blk.lt h.1), ⟨hb.os.trans h.2.os, hb.tape.trans h.2.tape, hb.output.trans h.2.output, Nat.le_trans h.2.size hb.size, fun i hi hne => (hb.block i (Nat.lt_of_lt_of_le hi h.2.size)).trans (h.2.block i hi hne)⟩⟩

theorem raw_any (p k : Nat) (er m : Int) (A : Option Addr) (n c : Nat) (zs : List Int) (w : World) (h : Rd w p k er A n c) (hb : By w p A n zs) (hk : k ≤ n) (hnc : n ≤ c) (hn : n ≤ 140737488355328) :
    Calls Try.prog 32 #[.pointer (some ⟨p, 0, none⟩), .int .i64 m] w (Rawed w p k er m A n c zs) := by
  have hp := Blk.lt h
  by_cases he : (er == 0) = true
  · obtain rfl : er = 0 := by simpa using he
    by_cases hneg : m < 0
    · have h1 : okN n k 0 m = false := by simp [okN]; omega
      have h2 : nAt n k 0 m = k := by simp [nAt, h1]
      have h3 : nErr n k 0 m = 2 := by simp only [nErr]; rw [if_pos (by decide), if_pos hneg]
      have h4 : nBytes zs k 0 m = [] := by simp [nBytes, hb.1, h1]
      have fin : Moved w p (nAt n k 0 m) (nErr n k 0 m) A n c (w.setCell ⟨p, 1, none⟩ (.int .i64 2)) := by rw [h2, h3]; exact Moved.set1 h 2 0
      have H4 := Lib.hid h4
      clear h1 h2 h3 h4
      go_enter Try.func32, Try.ntmps32
      go_wp2_with (first | (go_at_call 48; refine (next_neg _ _ _ _ _ _ _ h hneg).mono ?_; rintro e w' ⟨rfl, rfl⟩) | (go_at_call 47; refine (bclone_nil _ _ _).mono ?_; rintro e w' ⟨rfl, rfl⟩))
      go_ret
      unfold Rawed
      rw [H4.out]
      exact ⟨none, 0, rfl, nothing _ _, fin⟩
    · by_cases hm : m ≤ n - k
      · obtain ⟨m, rfl⟩ := Int.eq_ofNat_of_zero_le (show 0 ≤ m by omega)
        have h1 : okN n k 0 m = true := by simp [okN]; omega
        have h2 : nAt n k 0 m = k + m := by simp [nAt, h1]
        have h3 : nErr n k 0 m = 0 := by simp only [nErr]; rw [if_pos (by decide), if_neg (by omega), if_neg (by omega)]
        have h4 : nBytes zs k 0 m = (zs.drop k).take m := by simp [nBytes, hb.1, h1]
        have h5 : (nBytes zs k 0 m).length = m := by rw [h4, List.length_take, List.length_drop, hb.1]; omega
        have fin : ∀ q, Moved w p (nAt n k 0 m) (nErr n k 0 m) A n c ((w.setCell ⟨p, 0, none⟩ (.int .i64 (k + m))).drewN q) := fun q => by rw [h2, h3]; exact Moved.set0 h _ q
        have hby : ∀ q, By ((w.setCell ⟨p, 0, none⟩ (.int .i64 (k + m))).drewN q) p (if c = k then A else A.map (·.add k)) m (nBytes zs k 0 m) := fun q => by
          rw [h4]
          exact (hb.moved hp (fin q)).cut (by omega) hk hnc
        have H5 := Lib.hid h5
        clear h1 h2 h3 h4 h5
        generalize hA' : (if c = k then A else A.map (·.add k)) = A' at hby
        go_enter Try.func32, Try.ntmps32
        go_wp2_with fail
        refine (next_ok _ _ _ _ _ _ _ h hk hnc hn (by omega)).mono ?_
        unfold NextOk
        rw [hA']
        rintro e w' ⟨rfl, q, rfl⟩
        clear hA'
        have FB := Lib.hid (hby q)
        have FM := Lib.hid (fin q)
        clear hby fin
        go_wp2_with (go_at_call 47; refine (bclone_any _ _ _ _ _ _ FB.out (by omega)).mono ?_; rintro e w' ⟨A2, c2, rfl, ho, hbel⟩)
        go_ret
        unfold Rawed
        rw [H5.out]
        exact ⟨A2, c2, rfl, by have := ho.down (base' := w.heap.size) FM.out.2.size; exact this, FM.out.below hbel⟩
      · have h1 : okN n k 0 m = false := by simp [okN]; omega
        have h2 : nAt n k 0 m = k := by simp [nAt, h1]
        have h3 : nErr n k 0 m = 7 := by simp only [nErr]; rw [if_pos (by decide), if_neg hneg, if_pos (by omega)]
        have h4 : nBytes zs k 0 m = [] := by simp [nBytes, hb.1, h1]
        have fin : ∀ q, Moved w p (nAt n k 0 m) (nErr n k 0 m) A n c ((w.setCell ⟨p, 1, none⟩ (.int .i64 7)).drewN q) := fun q => by rw [h2, h3]; exact Moved.set1 h 7 q
        have H4 := Lib.hid h4
        clear h1 h2 h3 h4
        go_enter Try.func32, Try.ntmps32
        go_wp2_with (first | (go_at_call 48; refine (next_short _ _ _ _ _ _ _ h hk hn (by omega)).mono ?_; rintro e w' ⟨rfl, q, rfl⟩) | (go_at_call 47; refine (bclone_nil _ _ _).mono ?_; rintro e w' ⟨rfl, rfl⟩))
        go_ret
        unfold Rawed
        rw [H4.out]
        exact ⟨none, 0, rfl, nothing _ _, fin _⟩
  · have he' : (er == 0) = false := by simpa using he
    have h1 : okN n k er m = false := by simp [okN, he']
    have h2 : nAt n k er m = k := by simp [nAt, h1]
    have h3 : nErr n k er m = er := by simp only [nErr]; rw [if_neg (by simp [he'])]
    have h4 : nBytes zs k er m = [] := by simp [nBytes, hb.1, h1]
    have fin : Moved w p (nAt n k er m) (nErr n k er m) A n c w := by rw [h2, h3]; exact Moved.same h
    have H4 := Lib.hid h4
    clear h1 h2 h3 h4
    go_enter Try.func32, Try.ntmps32
    go_wp2_with (first | (go_at_call 48; refine (next_bad _ _ _ _ _ _ _ _ h he').mono ?_; rintro e w' ⟨rfl, rfl⟩) | (go_at_call 47; refine (bclone_nil _ _ _).mono ?_; rintro e w' ⟨rfl, rfl⟩))
    go_ret
    unfold Rawed
    rw [H4.out]
    exact ⟨none, 0, rfl, nothing _ _, fin⟩

theorem go_any (p k : Nat) (er m : Int) (A : Option Addr) (n c : Nat) (w : World) (h : Rd w p k er A n c) (hk : k ≤ n) (hn : n ≤ 140737488355328) :
    Calls Try.prog 34 #[.pointer (some ⟨p, 0, none⟩), .int .i64 m] w fun e w' => e = .returned (.tuple #[]) ∧ Moved w p (gAt n k er m) (gErr n k er m) A n c w' := by
  have c0 := h.c0
  have c1 := h.c1
  have f0 : w.frozen? ⟨p, 0, none⟩ = false := Blk.frozen h 0
  have f1 : w.frozen? ⟨p, 1, none⟩ = false := Blk.frozen h 1
  by_cases he : (er == 0) = true
  · obtain rfl : er = 0 := by simpa using he
    by_cases hlo : m < -(k : Int)
    · have h1 : okG n k 0 m = false := by simp [okG]; omega
      have fin : Moved w p (gAt n k 0 m) (gErr n k 0 m) A n c (w.setCell ⟨p, 1, none⟩ (.int .i64 2)) := by
        have h2 : gAt n k 0 m = k := by simp [gAt, h1]
        have h3 : gErr n k 0 m = 2 := by simp [gErr, h1]
        rw [h2, h3]; exact Moved.set1 h 2 0
      clear h1
      go_enter Try.func34, Try.ntmps34
      go_wp2_with (first | (go_at_call 49; refine (sound_any _ _ _ _ _ _ _ h).mono ?_; rintro e w' ⟨rfl, rfl⟩) | (go_at_call 26; refine (left_any _ _ _ _ _ _ _ h hk hn).mono ?_; rintro e w' ⟨rfl, q, rfl⟩))
      refine bodyPost_ret (results_none rfl _ _ _) rfl ?_
      exact ⟨rfl, fin⟩
    · by_cases hhi : (n : Int) - k < m
      · have h1 : okG n k 0 m = false := by simp [okG]; omega
        have fin : ∀ q, Moved w p (gAt n k 0 m) (gErr n k 0 m) A n c ((w.setCell ⟨p, 1, none⟩ (.int .i64 2)).drewN q) := fun q => by
          have h2 : gAt n k 0 m = k := by simp [gAt, h1]
          have h3 : gErr n k 0 m = 2 := by simp [gErr, h1]
          rw [h2, h3]; exact Moved.set1 h 2 q
        clear h1
        go_enter Try.func34, Try.ntmps34
        go_wp2_with (first | (go_at_call 49; refine (sound_any _ _ _ _ _ _ _ h).mono ?_; rintro e w' ⟨rfl, rfl⟩) | (go_at_call 26; refine (left_any _ _ _ _ _ _ _ h hk hn).mono ?_; rintro e w' ⟨rfl, q, rfl⟩))
        refine bodyPost_ret (results_none rfl _ _ _) rfl ?_
        exact ⟨rfl, fin _⟩
      · have h1 : okG n k 0 m = true := by simp [okG]; omega
        have fin : ∀ q, Moved w p (gAt n k 0 m) (gErr n k 0 m) A n c ((w.setCell ⟨p, 0, none⟩ (.int .i64 (k + m))).drewN q) := fun q => by
          have h2 : (gAt n k 0 m : Int) = k + m := by simp [gAt, h1]; omega
          have h3 : gErr n k 0 m = 0 := by simp [gErr, h1]
          rw [h2, h3]; exact Moved.set0 h _ q
        clear h1
        go_enter Try.func34, Try.ntmps34
        go_wp2_with (first | (go_at_call 49; refine (sound_any _ _ _ _ _ _ _ h).mono ?_; rintro e w' ⟨rfl, rfl⟩) | (go_at_call 26; refine (left_any _ _ _ _ _ _ _ h hk hn).mono ?_; rintro e w' ⟨rfl, q, rfl⟩))
        go_end0
        exact ⟨rfl, fin _⟩
  · have he' : (er == 0) = false := by simpa using he
    have fin : Moved w p (gAt n k er m) (gErr n k er m) A n c w := by
      have h1 : okG n k er m = false := by simp [okG, he']
      have h2 : gAt n k er m = k := by simp [gAt, h1]
      have h3 : gErr n k er m = er := by simp [gErr, he']
      rw [h2, h3]; exact Moved.same h
    go_enter Try.func34, Try.ntmps34
    go_wp2_with (go_at_call 49; refine (sound_any _ _ _ _ _ _ _ h).mono ?_; rintro e w' ⟨rfl, rfl⟩)
    refine bodyPost_ret (results_none rfl _ _ _) rfl ?_
    exact ⟨rfl, fin⟩

end Go.Proofs.Ytbjillkdhjndpaa
