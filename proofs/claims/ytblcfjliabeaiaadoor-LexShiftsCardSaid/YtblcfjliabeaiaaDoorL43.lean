/-
  The tokens of a text may be; what a token's text is.
-/
import Derived.Test.YtblcfjliabeaiaaDoorL42
namespace Go.Proofs.YtblcfjliabeaiaaDoor
open Go.RowKit Go.Shelf

theorem kept_key : ∀ k ∈ keptL, keyF k = some k := by decide +kernel
theorem keyF_mem {w k : List UInt8} (h : keyF w = some k) : k ∈ keptL := List.mem_of_find?_eq_some h
theorem runN_full {q : Int → Bool} : ∀ {w : List UInt8}, (∀ x ∈ w, q (x.toNat : Int) = true) → runN q w = w.length
  | [], _ => rfl
  | b :: w, h => by
    show (if q (b.toNat : Int) = true then runN q w + 1 else 0) = _
    rw [if_pos (h b (List.mem_cons_self ..)), runN_full (fun x hx => h x (List.mem_cons_of_mem _ hx))]
    rfl
theorem runE_zero (q : Int → Bool) (w : List UInt8) : runE q w 0 = runN q w := by unfold runE; rw [List.drop_zero, Nat.zero_add]
theorem quoN_plain : ∀ (r : List UInt8) (al : Bool) (sd : List UInt8) (i t : Nat) (sd' : List UInt8) (t' : Nat), (∀ x ∈ sd, plnB (x.toNat : Int) = true) → quoN al sd i t r = some (sd', t') → ∀ x ∈ sd', plnB (x.toNat : Int) = true
  | [], al, sd, i, t, sd', t', hs, h => by
    unfold quoN at h
    split at h
    · injection h with h
      injection h with h1 h2
      rw [← h1]
      exact hs
    · cases h
  | b :: r, al, sd, i, t, sd', t', hs, h => by
    have ap : plnB (b.toNat : Int) = true → ∀ x ∈ sd ++ [b], plnB (x.toNat : Int) = true := fun hb x hx => by
      rcases List.mem_append.1 hx with hx | hx
      · exact hs x hx
      · rw [List.mem_singleton.1 hx]; exact hb
    unfold quoN at h
    by_cases c1 : ((b.toNat : Int) == 39) = true
    · have hb : plnB (b.toNat : Int) = true := by rw [beq_iff_eq.1 c1]; rfl
      rw [if_pos c1] at h
      split at h
      · exact quoN_plain r _ _ _ _ _ _ (ap hb) h
      · exact quoN_plain r _ _ _ _ _ _ hs h
    · rw [if_neg c1] at h
      split at h
      · injection h with h
        injection h with h1 h2
        rw [← h1]
        exact hs
      · split at h
        · rename_i hb
          exact quoN_plain r _ _ _ _ _ _ (ap hb) h
        · cases h
/-- A token that a text has may be. -/
theorem beg_tok {m : List UInt8} (hm : m ≠ []) {kind : Int} {text : List UInt8} {num : Int} {k : Nat} (h : begS m = ((kind, text, num), k, 0)) (a b : Int) : tokB ⟨kind, text, num, a, b⟩ = true := by
  unfold begS at h
  by_cases c1 : letB (hdB m) = true
  · rw [if_pos c1] at h
    unfold wordS at h
    cases hk : keyF (m.take (runN innB m)) with
    | some k =>
      rw [hk] at h
      simp only [Prod.mk.injEq] at h
      obtain ⟨⟨rfl, rfl, rfl⟩, -, -⟩ := h
      unfold tokB
      simp [kept_key _ (keyF_mem hk)]
    | none =>
      rw [hk] at h
      simp only at h
      by_cases c24 : 24 < (m.take (runN innB m)).length
      · rw [if_pos c24] at h
        have := congrArg (fun x => x.2.2) h
        cases this
      · rw [if_neg c24] at h
        simp only [Prod.mk.injEq] at h
        obtain ⟨⟨rfl, rfl, rfl⟩, -, -⟩ := h
        have hi := runN_all innB m
        have hp := runN_pos (q := innB) hm (by unfold innB; rw [c1]; rfl)
        obtain ⟨w, hw⟩ : ∃ w, m.take (runN innB m) = w := ⟨_, rfl⟩
        rw [hw] at hi hk c24 ⊢
        have hw0 : wordB w = true := by
          cases m with
          | nil => exact absurd rfl hm
          | cons b m =>
            obtain ⟨j, hj⟩ : ∃ j, runN innB (b :: m) = j + 1 := ⟨runN innB (b :: m) - 1, by omega⟩
            rw [hj, List.take_succ_cons] at hw
            rw [← hw] at hi ⊢
            show (letB (b.toNat : Int) && (((runE innB (b :: m.take j) 0 : Nat) : Int) == (((b :: m.take j).length : Nat) : Int))) = true
            rw [runE_zero, runN_full hi]
            have : letB (b.toNat : Int) = true := c1
            simp [this]
        have : nameB w = true := by
          unfold nameB
          rw [hw0, hk]
          simp
          omega
        unfold tokB
        simp [this]
  · rw [if_neg c1] at h
    by_cases c2 : digB (hdB m) = true
    · rw [if_pos c2] at h
      unfold numS at h
      split at h
      · simp only [Prod.mk.injEq] at h
        obtain ⟨⟨rfl, rfl, rfl⟩, -, -⟩ := h
        unfold tokB
        simp
      · have := congrArg (fun x => x.2.2) h
        cases this
    · rw [if_neg c2] at h
      by_cases c3 : (hdB m == 39) = true
      · rw [if_pos c3] at h
        unfold quotedS at h
        cases hq : quoN false [] 1 0 (m.drop 1) with
        | none =>
          rw [hq] at h
          have := congrArg (fun x => x.2.2) h
          cases this
        | some x =>
          obtain ⟨sd, t⟩ := x
          rw [hq] at h
          simp only at h
          by_cases c64 : 64 < sd.length
          · rw [if_pos c64] at h
            have := congrArg (fun x => x.2.2) h
            cases this
          · rw [if_neg c64] at h
            simp only [Prod.mk.injEq] at h
            obtain ⟨⟨rfl, rfl, rfl⟩, -, -⟩ := h
            have hp := quoN_plain _ _ _ _ _ _ _ (fun x hx => by cases hx) hq
            unfold tokB
            simp [runE_zero, runN_full hp]
            omega
      · rw [if_neg c3] at h
        by_cases c4 : sgnN m = 0
        · rw [if_pos c4] at h
          have := congrArg (fun x => x.2.2) h
          cases this
        · rw [if_neg c4] at h
          simp only [Prod.mk.injEq] at h
          obtain ⟨⟨rfl, rfl, rfl⟩, -, -⟩ := h
          have e := sgn_loc (r := []) (.inl rfl) c4
          rw [List.append_nil] at e
          unfold tokB
          rw [e]
          have ln := take_len (sgnN_le m)
          simp [ln]
          omega
/-- The tokens of a text may be. -/
theorem plc_chk {l : List UInt8} : ∀ (ts : List Tk) (e : Nat), Plc l e ts → (ts.map Tk.q).all tokB = true
  | [], _, _ => rfl
  | t :: r, e, h => by
    obtain ⟨-, -, -, h4, h5, h6⟩ := h
    rw [List.map_cons, List.all_cons, plc_chk r _ h6, Bool.and_true]
    exact beg_tok h4 h5 _ _
theorem lexF_chk {l : List UInt8} {ts : List Tk} {a : Nat} (h : lexF l = (ts, 0, a)) : chkF (ts.map Tk.q) = 0 := by
  obtain ⟨h1, h2, -, -⟩ := lexF_plc h
  unfold chkF
  rw [if_neg (by rw [List.length_map]; omega), if_pos (plc_chk ts 0 h1)]
/-! ### A token's text -/
theorem dec_all : ∀ (n : Nat), ∀ x ∈ Lib.decDigits n, digB (x.toNat : Int) = true := by
  intro n
  induction n using Nat.strongRecOn with
  | ind n ih =>
    intro x hx
    have hd : ∀ d, d < 10 → digB (((UInt8.ofNat (48 + d)).toNat : Nat) : Int) = true := by decide
    rw [Lib.decDigits] at hx
    split at hx
    · rename_i h
      rw [List.mem_singleton.1 hx]
      exact hd n h
    · rename_i h
      rcases List.mem_append.1 hx with hx | hx
      · exact ih (n / 10) (by omega) x hx
      · rw [List.mem_singleton.1 hx]
        exact hd (n % 10) (by omega)
theorem dgA_app : ∀ (a b : List UInt8) (acc : Nat), dgA acc (a ++ b) = dgA (dgA acc a) b
  | [], _, _ => rfl
  | c :: a, b, acc => by
    show dgA (acc * 10 + (c.toNat - 48)) (a ++ b) = dgA (dgA (acc * 10 + (c.toNat - 48)) a) b
    exact dgA_app a b _
theorem dgA_dec : ∀ (n : Nat), dgA 0 (Lib.decDigits n) = n := by
  intro n
  induction n using Nat.strongRecOn with
  | ind n ih =>
    have hd : ∀ d, d < 10 → (UInt8.ofNat (48 + d)).toNat - 48 = d := by decide
    rw [Lib.decDigits]
    split
    · rename_i h
      show dgA (0 * 10 + ((UInt8.ofNat (48 + n)).toNat - 48)) [] = n
      rw [hd n h]
      show 0 * 10 + n = n
      omega
    · rename_i h
      rw [dgA_app, ih (n / 10) (by omega)]
      show n / 10 * 10 + ((UInt8.ofNat (48 + n % 10)).toNat - 48) = n
      rw [hd (n % 10) (by omega)]
      omega
theorem dec_ne (n : Nat) : Lib.decDigits n ≠ [] := by
  rw [Lib.decDigits]
  split
  · simp
  · simp
/-- A text with its signs doubled is read as itself. -/
theorem quoN_dbl (rest : List UInt8) (hr : Sep rest) : ∀ (t sd : List UInt8) (i to_ : Nat), (∀ x ∈ t, plnB (x.toNat : Int) = true) → quoN false sd i to_ (dbl t ++ [39] ++ rest) = some (sd ++ t, i + (dbl t).length + 1)
  | [], sd, i, to_, _ => by
    show (if ((((39 : UInt8).toNat : Nat) : Int) == 39) = true then (if false = true then quoN false (sd ++ [39]) (i + 1) to_ rest else quoN true sd (i + 1) (i + 1) rest) else _) = _
    rw [if_pos (show ((((39 : UInt8).toNat : Nat) : Int) == 39) = true from rfl), if_neg (by decide), List.append_nil]
    rcases hr with rfl | ⟨x, rfl⟩
    · rfl
    · rfl
  | b :: t, sd, i, to_, h => by
    have hb := h b (List.mem_cons_self ..)
    have ih := fun sd' i' to' => quoN_dbl rest hr t sd' i' to' (fun x hx => h x (List.mem_cons_of_mem _ hx))
    by_cases c : ((b.toNat : Int) == 39) = true
    · have hd : dbl (b :: t) = b :: b :: dbl t := by show (if ((b.toNat : Int) == 39) = true then b :: b :: dbl t else b :: dbl t) = _; rw [if_pos c]
      rw [hd]
      show quoN false sd i to_ (b :: b :: (dbl t ++ [39] ++ rest)) = _
      unfold quoN
      rw [if_pos c, if_neg (by decide)]
      unfold quoN
      rw [if_pos c, if_pos rfl, ih]
      simp only [List.append_assoc, List.cons_append, List.nil_append, List.length_cons, Option.some.injEq, Prod.mk.injEq, true_and]
      omega
    · have hd : dbl (b :: t) = b :: dbl t := by show (if ((b.toNat : Int) == 39) = true then b :: b :: dbl t else b :: dbl t) = _; rw [if_neg c]
      rw [hd]
      show quoN false sd i to_ (b :: (dbl t ++ [39] ++ rest)) = _
      unfold quoN
      rw [if_neg c, if_neg (by decide), if_pos hb, ih]
      simp only [List.append_assoc, List.cons_append, List.nil_append, List.length_cons, Option.some.injEq, Prod.mk.injEq, true_and]
      omega
theorem hdB_app {w r : List UInt8} (h : w ≠ []) : hdB (w ++ r) = hdB w := by
  cases w with
  | nil => exact absurd rfl h
  | cons b w => rfl
theorem let_dig (b : Int) (h : digB b = true) : letB b = false := by
  unfold digB at h
  simp only [Bool.and_eq_true, decide_eq_true_eq] at h
  unfold letB capB
  rw [if_neg (by omega)]
  have h1 : decide (65 ≤ b) = false := decide_eq_false (by omega)
  have h2 : (b == 95) = false := beq_eq_false_iff_ne.2 (by omega)
  rw [h1, h2]
  rfl
theorem run_app {q : Int → Bool} (hq : q 32 = false) {w r : List UInt8} (hr : Sep r) (hw : ∀ x ∈ w, q (x.toNat : Int) = true) : runN q (w ++ r) = w.length ∧ (w ++ r).take (runN q (w ++ r)) = w ∧ (w ++ r).drop (runN q (w ++ r)) = r := by
  have e := runN_sep q hq w r hr hw
  rw [e]
  exact ⟨rfl, List.take_left .., List.drop_left ..⟩
theorem blk_let {m : List UInt8} (h : ¬ blkB (hdB m) = true) (h2 : hdB m ≠ 45) : blkN false m = 0 := by
  cases m with
  | nil => rfl
  | cons b r =>
    have h' : ¬ blkB (b.toNat : Int) = true := h
    have h3 : ¬ Lib.hasPrefix (b :: r) [45, 45] = true := by
      intro x
      unfold Lib.hasPrefix at x
      simp only [List.isPrefixOf, Bool.and_eq_true, beq_iff_eq] at x
      apply h2
      show (b.toNat : Int) = 45
      rw [← x.1]
      rfl
    show (if Lib.hasPrefix (b :: r) [45, 45] = true then blkN true r + 1 else if blkB (b.toNat : Int) = true then blkN false r + 1 else 0) = 0
    rw [if_neg h3, if_neg h']
theorem inn_kept : ∀ k ∈ keptL, k ≠ [] ∧ letB (hdB k) = true ∧ k.all (fun x => innB (x.toNat : Int)) = true := by decide +kernel
theorem let_facts {b : Int} (h : letB b = true) : blkB b = false ∧ b ≠ 45 := by
  have hb : 65 ≤ b := by
    unfold letB capB at h
    simp only [Bool.or_eq_true, Bool.and_eq_true, decide_eq_true_eq, beq_iff_eq] at h
    split at h <;> omega
  refine ⟨?_, by omega⟩
  unfold blkB
  simp only [Bool.or_eq_false_iff, beq_eq_false_iff_ne]
  omega
theorem dig_facts {b : Int} (h : digB b = true) : blkB b = false ∧ b ≠ 45 := by
  unfold digB at h
  simp only [Bool.and_eq_true, decide_eq_true_eq] at h
  refine ⟨?_, by omega⟩
  unfold blkB
  simp only [Bool.or_eq_false_iff, beq_eq_false_iff_ne]
  omega
/-- What a sign is: one byte, or two. -/
theorem sgn_cases : ∀ {t : List UInt8}, 0 < sgnN t → sgnN t = t.length → (∃ a, t = [a] ∧ 0 ≤ Lib.indexByte sgnL a) ∨ t = [60, 61] ∨ t = [62, 61] ∨ t = [60, 62]
  | [], h, _ => absurd h (by decide)
  | [a], h, _ => by
    rw [sgn_one] at h
    by_cases c : 0 ≤ Lib.indexByte sgnL a
    · exact .inl ⟨a, rfl, c⟩
    · rw [if_neg c] at h; omega
  | a :: b :: r, h, e => by
    rw [sgn_two] at e
    by_cases c : ((60 == a && 61 == b) || (62 == a && 61 == b) || (60 == a && 62 == b)) = true
    · rw [if_pos c] at e
      simp only [List.length_cons] at e
      have hr : r = [] := List.length_eq_zero_iff.1 (by omega)
      subst hr
      simp only [Bool.or_eq_true, Bool.and_eq_true, beq_iff_eq] at c
      rcases c with (c | c) | c
      · exact .inr (.inl (by rw [← c.1, ← c.2]))
      · exact .inr (.inr (.inl (by rw [← c.1, ← c.2])))
      · exact .inr (.inr (.inr (by rw [← c.1, ← c.2])))
    · rw [if_neg c] at e
      simp only [List.length_cons] at e
      split at e <;> omega
theorem sgn_byte : ∀ a : UInt8, 0 ≤ Lib.indexByte sgnL a → letB (a.toNat : Int) = false ∧ digB (a.toNat : Int) = false ∧ ((a.toNat : Int) == 39) = false ∧ blkB (a.toNat : Int) = false := by
  intro a h
  have e : ∀ n : Fin 256, 0 ≤ Lib.indexByte sgnL (UInt8.ofNat n.val) → letB (n.val : Int) = false ∧ digB (n.val : Int) = false ∧ ((n.val : Int) == 39) = false ∧ blkB (n.val : Int) = false := by decide +kernel
  have := e ⟨a.toNat, a.toNat_lt⟩
  simp only [UInt8.ofNat_toNat] at this
  exact this h
end Go.Proofs.YtblcfjliabeaiaaDoor
