/-
  A token is what it is by its own bytes; blanks and remarks by themselves.
-/
import Derived.Test.YtblcfjliabeaiaaDoorL40
namespace Go.Proofs.YtblcfjliabeaiaaDoor
open Go.RowKit Go.Shelf

/-- What stands behind a token: nothing, or a blank first. -/
def Sep (r : List UInt8) : Prop := r = [] ∨ ∃ x, r = 32 :: x
theorem Sep.hd {r : List UInt8} (h : Sep r) : hdB r = 0 ∨ hdB r = 32 := by
  rcases h with rfl | ⟨x, rfl⟩
  · exact .inl rfl
  · exact .inr rfl
theorem Sep.letH {r : List UInt8} (h : Sep r) : letH r = false := by
  rcases h with rfl | ⟨x, rfl⟩ <;> rfl
theorem runN_sep (q : Int → Bool) (hq : q 32 = false) : ∀ (w r : List UInt8), Sep r → (∀ x ∈ w, q (x.toNat : Int) = true) → runN q (w ++ r) = w.length
  | [], r, h, _ => by
    rcases h with rfl | ⟨x, rfl⟩
    · rfl
    · show (if q (((32 : UInt8).toNat : Nat) : Int) = true then _ else 0) = 0
      rw [show (((32 : UInt8).toNat : Nat) : Int) = 32 from rfl, hq]
      rfl
  | b :: w, r, h, hw => by
    show (if q (b.toNat : Int) = true then runN q (w ++ r) + 1 else 0) = _
    rw [if_pos (hw b (List.mem_cons_self ..)), runN_sep q hq w r h (fun x hx => hw x (List.mem_cons_of_mem _ hx))]
    rfl
theorem runN_pos {q : Int → Bool} {m : List UInt8} (hm : m ≠ []) (h : q (hdB m) = true) : 0 < runN q m := by
  cases m with
  | nil => exact absurd rfl hm
  | cons b r =>
    show 0 < (if q (b.toNat : Int) = true then runN q r + 1 else 0)
    rw [if_pos (show q (b.toNat : Int) = true from h)]
    omega
theorem hdB_take {m r : List UInt8} {k : Nat} (hk : 0 < k) (hm : m ≠ []) : hdB (m.take k ++ r) = hdB m := by
  cases m with
  | nil => exact absurd rfl hm
  | cons b m =>
    cases k with
    | zero => omega
    | succ k => rfl
theorem take_len {m : List UInt8} {k : Nat} (h : k ≤ m.length) : (m.take k).length = k := by rw [List.length_take]; omega
theorem run_loc {q : Int → Bool} (hq : q 32 = false) {m r : List UInt8} (hr : Sep r) : runN q (m.take (runN q m) ++ r) = runN q m := by
  rw [runN_sep q hq _ r hr (runN_all q m), take_len (runN_le q m)]
theorem run_take {q : Int → Bool} (hq : q 32 = false) {m r : List UInt8} (hr : Sep r) : (m.take (runN q m) ++ r).take (runN q (m.take (runN q m) ++ r)) = m.take (runN q m) ∧ (m.take (runN q m) ++ r).drop (runN q (m.take (runN q m) ++ r)) = r := by
  rw [run_loc hq hr]
  have := take_len (runN_le q m)
  refine ⟨?_, ?_⟩
  · rw [List.take_append_of_le_length (by omega), List.take_of_length_le (by omega)]
  · rw [List.drop_append_of_le_length (by omega), List.drop_eq_nil_of_le (by omega), List.nil_append]
/-- A quoted text is what it is by its own bytes. -/
theorem quoN_loc (rest : List UInt8) (hr : Sep rest) : ∀ (r : List UInt8) (al : Bool) (sd : List UInt8) (i t : Nat) (sd' : List UInt8) (t' : Nat), (al = true → t = i) → quoN al sd i t r = some (sd', t') → i ≤ t' ∧ t' ≤ i + r.length ∧ quoN al sd i t (r.take (t' - i) ++ rest) = some (sd', t')
  | [], al, sd, i, t, sd', t', ha, h => by
    unfold quoN at h
    by_cases c : al = true
    · rw [if_pos c] at h
      injection h with h
      injection h with h1 h2
      subst h1
      subst h2
      refine ⟨by rw [ha c]; exact Nat.le_refl _, by rw [ha c]; simp, ?_⟩
      rw [List.take_nil, List.nil_append]
      rcases hr with rfl | ⟨x, rfl⟩
      · unfold quoN; rw [if_pos c]
      · unfold quoN; rw [if_neg (by decide), if_pos c]
    · rw [if_neg c] at h; cases h
  | b :: r, al, sd, i, t, sd', t', ha, h => by
    unfold quoN at h
    by_cases c1 : ((b.toNat : Int) == 39) = true
    · rw [if_pos c1] at h
      by_cases c : al = true
      · rw [if_pos c] at h
        obtain ⟨h1, h2, h3⟩ := quoN_loc rest hr r _ _ _ _ _ _ (fun x => by cases x) h
        refine ⟨by omega, by simp only [List.length_cons]; omega, ?_⟩
        rw [show t' - i = (t' - (i + 1)) + 1 by omega, List.take_succ_cons, List.cons_append]
        unfold quoN
        rw [if_pos c1, if_pos c]
        exact h3
      · rw [if_neg c] at h
        obtain ⟨h1, h2, h3⟩ := quoN_loc rest hr r _ _ _ _ _ _ (fun _ => rfl) h
        refine ⟨by omega, by simp only [List.length_cons]; omega, ?_⟩
        rw [show t' - i = (t' - (i + 1)) + 1 by omega, List.take_succ_cons, List.cons_append]
        unfold quoN
        rw [if_pos c1, if_neg c]
        exact h3
    · rw [if_neg c1] at h
      by_cases c : al = true
      · rw [if_pos c] at h
        injection h with h
        injection h with h1 h2
        subst h1
        subst h2
        refine ⟨by rw [ha c]; exact Nat.le_refl _, by rw [ha c]; simp, ?_⟩
        rw [ha c, Nat.sub_self, List.take_zero, List.nil_append]
        rcases hr with rfl | ⟨x, rfl⟩
        · unfold quoN; rw [if_pos c]
        · unfold quoN; rw [if_neg (by decide), if_pos c]
      · rw [if_neg c] at h
        by_cases c2 : plnB (b.toNat : Int) = true
        · rw [if_pos c2] at h
          obtain ⟨h1, h2, h3⟩ := quoN_loc rest hr r _ _ _ _ _ _ (fun x => by cases x) h
          refine ⟨by omega, by simp only [List.length_cons]; omega, ?_⟩
          rw [show t' - i = (t' - (i + 1)) + 1 by omega, List.take_succ_cons, List.cons_append]
          unfold quoN
          rw [if_neg c1, if_neg c, if_pos c2]
          exact h3
        · rw [if_neg c2] at h; cases h
theorem hp2 (a b c d : UInt8) (r : List UInt8) : Lib.hasPrefix (a :: b :: r) [c, d] = (c == a && d == b) := by
  unfold Lib.hasPrefix
  simp [List.isPrefixOf]
theorem hp1 (a c d : UInt8) : Lib.hasPrefix [a] [c, d] = false := by
  unfold Lib.hasPrefix
  simp [List.isPrefixOf]
theorem sgn_two (a b : UInt8) (r : List UInt8) : sgnN (a :: b :: r) = if ((60 == a && 61 == b) || (62 == a && 61 == b) || (60 == a && 62 == b)) = true then 2 else if 0 ≤ Lib.indexByte sgnL a then 1 else 0 := by
  show (if (Lib.hasPrefix (a :: b :: r) [60, 61] || Lib.hasPrefix (a :: b :: r) [62, 61] || Lib.hasPrefix (a :: b :: r) [60, 62]) = true then 2 else if 0 ≤ Lib.indexByte sgnL a then 1 else 0) = _
  rw [hp2, hp2, hp2]
theorem sgn_one (a : UInt8) : sgnN [a] = if 0 ≤ Lib.indexByte sgnL a then 1 else 0 := by
  show (if (Lib.hasPrefix [a] [60, 61] || Lib.hasPrefix [a] [62, 61] || Lib.hasPrefix [a] [60, 62]) = true then 2 else if 0 ≤ Lib.indexByte sgnL a then 1 else 0) = _
  rw [hp1, hp1, hp1]
  rfl
theorem sgn_loc {m r : List UInt8} (hr : Sep r) (h : sgnN m ≠ 0) : sgnN (m.take (sgnN m) ++ r) = sgnN m := by
  cases m with
  | nil => exact absurd rfl h
  | cons a m =>
    cases m with
    | nil =>
      have e : sgnN [a] = 1 := by
        rw [sgn_one] at h ⊢
        by_cases c : 0 ≤ Lib.indexByte sgnL a
        · rw [if_pos c]
        · rw [if_neg c] at h; exact absurd rfl h
      rw [e]
      rcases hr with rfl | ⟨x, rfl⟩
      · exact e
      · show sgnN (a :: 32 :: x) = 1
        rw [sgn_one] at e
        rw [sgn_two, if_neg (by rw [show ((61 : UInt8) == 32) = false from rfl, show ((62 : UInt8) == 32) = false from rfl]; simp)]
        exact e
    | cons b m =>
      rw [sgn_two] at h ⊢
      by_cases c : ((60 == a && 61 == b) || (62 == a && 61 == b) || (60 == a && 62 == b)) = true
      · rw [if_pos c]
        show sgnN (a :: b :: r) = 2
        rw [sgn_two, if_pos c]
      · rw [if_neg c] at h ⊢
        by_cases c2 : 0 ≤ Lib.indexByte sgnL a
        · rw [if_pos c2]
          rcases hr with rfl | ⟨x, rfl⟩
          · show sgnN [a] = 1
            rw [sgn_one, if_pos c2]
          · show sgnN (a :: 32 :: x) = 1
            rw [sgn_two, if_neg (by rw [show ((61 : UInt8) == 32) = false from rfl, show ((62 : UInt8) == 32) = false from rfl]; simp), if_pos c2]
        · rw [if_neg c2] at h; exact absurd rfl h
theorem sgn_le (m : List UInt8) : sgnN m ≤ m.length := sgnN_le m
/-- A token is what it is by its own bytes: what stands behind it does nothing, if a blank is first. -/
theorem beg_loc {m r : List UInt8} (hr : Sep r) (hm : m ≠ []) (h : (begS m).2.2 = 0) : begS (m.take (begS m).2.1 ++ r) = begS m := by
  have hs := begS_size hm h
  have hd : hdB (m.take (begS m).2.1 ++ r) = hdB m := hdB_take hs.1 hm
  have e0 : begS (m.take (begS m).2.1 ++ r) = if letB (hdB m) = true then wordS (m.take (begS m).2.1 ++ r) else if digB (hdB m) = true then numS (m.take (begS m).2.1 ++ r) else if (hdB m == 39) = true then quotedS (m.take (begS m).2.1 ++ r) else if sgnN (m.take (begS m).2.1 ++ r) = 0 then bad 200 else ((5, (m.take (begS m).2.1 ++ r).take (sgnN (m.take (begS m).2.1 ++ r)), 0), sgnN (m.take (begS m).2.1 ++ r), 0) := by
    rw [← hd]
    rfl
  rw [e0]
  clear e0 hd
  have hi : innB 32 = false := rfl
  have hg : digB 32 = false := rfl
  obtain ⟨R, hR⟩ : ∃ R, R = begS m := ⟨_, rfl⟩
  rw [← hR] at h hs ⊢
  unfold begS at hR
  by_cases c1 : letB (hdB m) = true
  · rw [if_pos c1] at hR ⊢
    unfold wordS at hR ⊢
    cases hk : keyF (m.take (runN innB m)) with
    | some k =>
      rw [hk] at hR
      simp only at hR
      subst hR
      rw [(run_take hi hr).1, hk, run_loc hi hr]
    | none =>
      rw [hk] at hR
      simp only at hR
      by_cases c24 : 24 < (m.take (runN innB m)).length
      · rw [if_pos c24] at hR
        subst hR
        cases h
      · rw [if_neg c24] at hR
        subst hR
        simp only
        rw [(run_take hi hr).1, hk, run_loc hi hr]
        simp only
        rw [if_neg c24]
  · rw [if_neg c1] at hR ⊢
    by_cases c2 : digB (hdB m) = true
    · rw [if_pos c2] at hR ⊢
      unfold numS at hR ⊢
      by_cases cc : dgA 0 (m.take (runN digB m)) < 9223372036854775808 ∧ ¬ letH (m.drop (runN digB m)) = true
      · rw [if_pos cc] at hR
        subst hR
        simp only
        rw [(run_take hg hr).1, (run_take hg hr).2, run_loc hg hr, if_pos ⟨cc.1, by rw [hr.letH]; simp⟩]
      · rw [if_neg cc] at hR
        subst hR
        cases h
    · rw [if_neg c2] at hR ⊢
      by_cases c3 : (hdB m == 39) = true
      · rw [if_pos c3] at hR ⊢
        unfold quotedS at hR ⊢
        cases hq : quoN false [] 1 0 (m.drop 1) with
        | none =>
          rw [hq] at hR
          subst hR
          cases h
        | some x =>
          obtain ⟨sd, t⟩ := x
          rw [hq] at hR
          simp only at hR
          by_cases c64 : 64 < sd.length
          · rw [if_pos c64] at hR
            subst hR
            cases h
          · rw [if_neg c64] at hR
            subst hR
            simp only at hs ⊢
            obtain ⟨h1, h2, h3⟩ := quoN_loc r hr _ _ _ _ _ _ _ (fun x => by cases x) hq
            have e : (m.take t ++ r).drop 1 = (m.drop 1).take (t - 1) ++ r := by
              cases m with
              | nil => exact absurd rfl hm
              | cons b m =>
                obtain ⟨k, rfl⟩ : ∃ k, t = k + 1 := ⟨t - 1, by omega⟩
                rfl
            rw [e, h3]
            simp only
            rw [if_neg c64]
      · rw [if_neg c3] at hR ⊢
        by_cases c4 : sgnN m = 0
        · rw [if_pos c4] at hR
          subst hR
          cases h
        · rw [if_neg c4] at hR
          subst hR
          simp only
          rw [sgn_loc hr c4, if_neg c4]
          have := take_len (sgnN_le m)
          rw [List.take_append_of_le_length (by omega), List.take_of_length_le (by omega)]
/-- Nothing blank stands ahead of what begins a token. -/
theorem blk_loc {m r : List UInt8} {k : Nat} (hr : Sep r) (hm : m ≠ []) (hk : 0 < k) (h : blkN false m = 0) : blkN false (m.take k ++ r) = 0 := by
  obtain ⟨k, rfl⟩ : ∃ j, k = j + 1 := ⟨k - 1, by omega⟩
  cases m with
  | nil => exact absurd rfl hm
  | cons b m =>
    have h' : (if Lib.hasPrefix (b :: m) [45, 45] = true then blkN true m + 1 else if blkB (b.toNat : Int) = true then blkN false m + 1 else 0) = 0 := h
    have n1 : ¬ Lib.hasPrefix (b :: m) [45, 45] = true := fun x => by rw [if_pos x] at h'; omega
    have n2 : ¬ blkB (b.toNat : Int) = true := fun x => by rw [if_neg n1, if_pos x] at h'; omega
    show (if Lib.hasPrefix (b :: (m.take k ++ r)) [45, 45] = true then blkN true (m.take k ++ r) + 1 else if blkB (b.toNat : Int) = true then blkN false (m.take k ++ r) + 1 else 0) = 0
    have n3 : ¬ Lib.hasPrefix (b :: (m.take k ++ r)) [45, 45] = true := by
      intro x
      cases k with
      | zero =>
        rcases hr with rfl | ⟨y, rfl⟩
        · rw [List.take_zero, List.nil_append, hp1] at x; cases x
        · rw [List.take_zero, List.nil_append, hp2] at x; simp at x
      | succ k =>
        cases m with
        | nil =>
          rcases hr with rfl | ⟨y, rfl⟩
          · rw [List.take_nil, List.nil_append, hp1] at x; cases x
          · rw [List.take_nil, List.nil_append, hp2] at x; simp at x
        | cons c m =>
          apply n1
          rw [List.take_succ_cons, List.cons_append, hp2] at x
          rw [hp2]
          exact x
    rw [if_neg n3, if_neg n2]
/-- Behind blanks and remarks there are no more. -/
theorem blk_done : ∀ (rm : Bool) (m : List UInt8), blkN false (m.drop (blkN rm m)) = 0
  | _, [] => by simp [blkN]
  | true, b :: r => by
    show blkN false ((b :: r).drop (blkN ((b.toNat : Int) != 10) r + 1)) = 0
    rw [List.drop_succ_cons]
    exact blk_done _ r
  | false, b :: r => by
    have e : blkN false (b :: r) = if Lib.hasPrefix (b :: r) [45, 45] = true then blkN true r + 1 else if blkB (b.toNat : Int) = true then blkN false r + 1 else 0 := rfl
    by_cases c1 : Lib.hasPrefix (b :: r) [45, 45] = true
    · rw [e, if_pos c1, List.drop_succ_cons]
      exact blk_done true r
    · by_cases c2 : blkB (b.toNat : Int) = true
      · rw [e, if_neg c1, if_pos c2, List.drop_succ_cons]
        exact blk_done false r
      · rw [e, if_neg c1, if_neg c2, List.drop_zero, e, if_neg c1, if_neg c2]
/-- Blanks and remarks by themselves are blanks and remarks. -/
theorem blk_self : ∀ (rm : Bool) (m : List UInt8), blkN rm (m.take (blkN rm m)) = blkN rm m
  | rm, [] => by simp [blkN]
  | true, b :: r => by
    show blkN true ((b :: r).take (blkN ((b.toNat : Int) != 10) r + 1)) = blkN ((b.toNat : Int) != 10) r + 1
    rw [List.take_succ_cons]
    show blkN ((b.toNat : Int) != 10) _ + 1 = _
    rw [blk_self]
  | false, b :: r => by
    have e : ∀ r : List UInt8, blkN false (b :: r) = if Lib.hasPrefix (b :: r) [45, 45] = true then blkN true r + 1 else if blkB (b.toNat : Int) = true then blkN false r + 1 else 0 := fun _ => rfl
    by_cases c1 : Lib.hasPrefix (b :: r) [45, 45] = true
    · rw [e r, if_pos c1, List.take_succ_cons, e]
      have : Lib.hasPrefix (b :: r.take (blkN true r)) [45, 45] = true := by
        cases r with
        | nil => rw [hp1] at c1; cases c1
        | cons c r =>
          show Lib.hasPrefix (b :: (c :: r).take (blkN ((c.toNat : Int) != 10) r + 1)) [45, 45] = true
          rw [List.take_succ_cons, hp2]
          rw [hp2] at c1
          exact c1
      rw [if_pos this, blk_self]
    · by_cases c2 : blkB (b.toNat : Int) = true
      · rw [e r, if_neg c1, if_pos c2, List.take_succ_cons, e, if_pos c2, blk_self]
        have : ¬ Lib.hasPrefix (b :: r.take (blkN false r)) [45, 45] = true := by
          intro x
          have hb : b = 45 := by
            cases hr : r.take (blkN false r) with
            | nil => rw [hr, hp1] at x; cases x
            | cons c r' =>
              rw [hr, hp2] at x
              simp only [Bool.and_eq_true, beq_iff_eq] at x
              exact x.1.symm
          subst hb
          cases c2
        rw [if_neg this]
      · rw [e r, if_neg c1, if_neg c2, List.take_zero]
        rfl
end Go.Proofs.YtblcfjliabeaiaaDoor
