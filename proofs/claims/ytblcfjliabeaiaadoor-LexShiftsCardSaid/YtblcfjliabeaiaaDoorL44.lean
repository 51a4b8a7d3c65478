/-
  The text of tokens that may be has these tokens.
-/
import Derived.Test.YtblcfjliabeaiaaDoorL43
namespace Go.Proofs.YtblcfjliabeaiaaDoor
open Go.RowKit Go.Shelf

/-- A token's text begins a text as the token, and nothing blank is ahead. -/
theorem beg_txt {t : Tq} (h : tokB t = true) (hN : t.num ≤ 9223372036854775807) {r : List UInt8} (hr : Sep r) :
    txtF t ≠ [] ∧ begS (txtF t ++ r) = (coreT t, (txtF t).length, 0) ∧ blkN false (txtF t ++ r) = 0 := by
  obtain ⟨kind, text, num, aa, to_⟩ := t
  have hi : innB 32 = false := rfl
  have hg : digB 32 = false := rfl
  have hn : ¬ ((num != 0) = true ∧ (kind != 3) = true) := fun x => by
    unfold tokB at h
    rw [if_pos x] at h
    cases h
  have hnum : kind ≠ 3 → num = 0 := fun k => by
    apply Classical.byContradiction
    intro c
    exact hn ⟨bne_iff_ne.2 c, bne_iff_ne.2 k⟩
  unfold tokB at h
  rw [if_neg hn] at h
  simp only at h
  -- a word
  have word : ∀ w : List UInt8, w ≠ [] → letB (hdB w) = true → (∀ x ∈ w, innB (x.toNat : Int) = true) → begS (w ++ r) = wordS (w ++ r) ∧ runN innB (w ++ r) = w.length ∧ (w ++ r).take (runN innB (w ++ r)) = w ∧ blkN false (w ++ r) = 0 := fun w hw hl ha => by
    have e := hdB_app (r := r) hw
    obtain ⟨r1, r2, -⟩ := run_app hi hr ha
    refine ⟨?_, r1, r2, blk_let (by rw [e, (let_facts hl).1]; simp) (by rw [e]; exact (let_facts hl).2)⟩
    unfold begS
    rw [e, if_pos hl]
  by_cases k1 : (kind == 1) = true
  · rw [if_pos k1] at h
    obtain rfl : kind = 1 := beq_iff_eq.1 k1
    obtain rfl : num = 0 := hnum (by decide)
    cases hk : keyF text with
    | none => rw [hk] at h; cases h
    | some k =>
      rw [hk] at h
      obtain rfl : text = k := beq_iff_eq.1 h
      obtain ⟨m1, m2, m3⟩ := inn_kept _ (keyF_mem hk)
      rw [List.all_eq_true] at m3
      obtain ⟨b1, b2, b3, b4⟩ := word text m1 m2 m3
      show text ≠ [] ∧ begS (text ++ r) = ((1, text, 0), text.length, 0) ∧ blkN false (text ++ r) = 0
      refine ⟨m1, ?_, b4⟩
      rw [b1]
      unfold wordS
      rw [b3, hk, b2]
  · rw [if_neg k1] at h
    by_cases k2 : (kind == 2) = true
    · rw [if_pos k2] at h
      obtain rfl : kind = 2 := beq_iff_eq.1 k2
      obtain rfl : num = 0 := hnum (by decide)
      unfold nameB at h
      simp only [Bool.and_eq_true, decide_eq_true_eq, Option.isNone_iff_eq_none] at h
      obtain ⟨w1, w2, w3⟩ := h
      cases text with
      | nil => cases w1
      | cons b t =>
        have w1' : (letB (b.toNat : Int) && (((runE innB (b :: t) 0 : Nat) : Int) == (((b :: t).length : Nat) : Int))) = true := w1
        rw [Bool.and_eq_true, beq_iff_eq, runE_zero] at w1'
        have ha : ∀ x ∈ b :: t, innB (x.toNat : Int) = true := by
          have := runN_all innB (b :: t)
          rw [List.take_of_length_le (by omega)] at this
          exact this
        obtain ⟨b1, b2, b3, b4⟩ := word (b :: t) (by simp) w1'.1 ha
        show b :: t ≠ [] ∧ begS (b :: t ++ r) = ((2, b :: t, 0), (b :: t).length, 0) ∧ blkN false (b :: t ++ r) = 0
        refine ⟨by simp, ?_, b4⟩
        rw [b1]
        unfold wordS
        rw [b3, w2, b2]
        simp only
        rw [if_neg (by omega)]
    · rw [if_neg k2] at h
      by_cases k3 : (kind == 3) = true
      · rw [if_pos k3] at h
        obtain rfl : kind = 3 := beq_iff_eq.1 k3
        rw [Bool.and_eq_true, beq_iff_eq, decide_eq_true_eq] at h
        obtain ⟨h1, h2⟩ := h
        subst h1
        obtain ⟨n, rfl⟩ : ∃ n : Nat, num = (n : Int) := ⟨num.toNat, by omega⟩
        have et : txtF ⟨3, [], (n : Int), aa, to_⟩ = Lib.decDigits n := by
          show (if ((3 : Int) == 3) = true then Lib.itoa (n : Int) else _) = _
          rw [if_pos (by rfl)]
          unfold Lib.itoa
          rw [if_neg (by omega), Int.toNat_natCast]
        have ha := dec_all n
        have hd := dgA_dec n
        have hne := dec_ne n
        rw [et]
        show _ ∧ begS _ = ((3, [], (n : Int)), _, 0) ∧ _
        simp only at hN
        generalize Lib.decDigits n = w at ha hd hne
        have hh := hdB_app (r := r) hne
        have hg1 : digB (hdB w) = true := by
          cases w with
          | nil => exact absurd rfl hne
          | cons b w => exact ha b (List.mem_cons_self ..)
        obtain ⟨r1, r2, r3⟩ := run_app hg hr ha
        refine ⟨hne, ?_, blk_let (by rw [hh, (dig_facts hg1).1]; simp) (by rw [hh]; exact (dig_facts hg1).2)⟩
        unfold begS
        rw [hh, let_dig _ hg1, if_neg (by decide), if_pos hg1]
        unfold numS
        rw [r2, r3, r1, hd, if_pos ⟨by omega, by rw [hr.letH]; simp⟩]
      · rw [if_neg k3] at h
        by_cases k4 : (kind == 4) = true
        · rw [if_pos k4] at h
          obtain rfl : kind = 4 := beq_iff_eq.1 k4
          obtain rfl : num = 0 := hnum (by decide)
          rw [Bool.and_eq_true, beq_iff_eq, decide_eq_true_eq, runE_zero] at h
          have ha : ∀ x ∈ text, plnB (x.toNat : Int) = true := by
            have := runN_all plnB text
            rw [List.take_of_length_le (by omega)] at this
            exact this
          have et : txtF ⟨4, text, 0, aa, to_⟩ = quoteF text := rfl
          have q := quoN_dbl r hr text [] 1 0 ha
          rw [List.nil_append] at q
          rw [et]
          unfold quoteF
          have e1 : (39 :: dbl text ++ [39] ++ r) = 39 :: (dbl text ++ [39] ++ r) := rfl
          rw [e1]
          refine ⟨by simp, ?_, blk_let (m := 39 :: (dbl text ++ [39] ++ r)) (show ¬ blkB 39 = true by decide) (show (39 : Int) ≠ 45 by decide)⟩
          have e2 : begS (39 :: (dbl text ++ [39] ++ r)) = quotedS (39 :: (dbl text ++ [39] ++ r)) := by
            unfold begS
            have : hdB (39 :: (dbl text ++ [39] ++ r)) = 39 := rfl
            rw [this, if_neg (by decide), if_neg (by decide), if_pos (by decide)]
          rw [e2]
          unfold quotedS
          rw [List.drop_succ_cons, List.drop_zero, q]
          simp only
          rw [if_neg (by omega)]
          simp only [coreT, List.length_append, List.length_cons, List.length_nil]
          congr 2
          omega
        · rw [if_neg k4] at h
          by_cases k5 : (kind == 5) = true
          · rw [if_pos k5] at h
            obtain rfl : kind = 5 := beq_iff_eq.1 k5
            obtain rfl : num = 0 := hnum (by decide)
            rw [Bool.and_eq_true, beq_iff_eq, decide_eq_true_eq] at h
            show text ≠ [] ∧ begS (text ++ r) = ((5, text, 0), text.length, 0) ∧ blkN false (text ++ r) = 0
            have h2 : sgnN text = text.length := by omega
            have two : ∀ a b : UInt8, text = [a, b] → ((60 == a && 61 == b) || (62 == a && 61 == b) || (60 == a && 62 == b)) = true → letB (a.toNat : Int) = false → digB (a.toNat : Int) = false → ((a.toNat : Int) == 39) = false → blkB (a.toNat : Int) = false → (a.toNat : Int) ≠ 45 →
                text ≠ [] ∧ begS (text ++ r) = ((5, text, 0), text.length, 0) ∧ blkN false (text ++ r) = 0 := by
              intro a b ht hc x1 x2 x3 x4 x5
              subst ht
              have hs : sgnN ([a, b] ++ r) = 2 := by
                show sgnN (a :: b :: r) = 2
                rw [sgn_two, if_pos hc]
              have hh : hdB ([a, b] ++ r) = (a.toNat : Int) := rfl
              refine ⟨by simp, ?_, blk_let (by rw [hh, x4]; simp) (by rw [hh]; exact x5)⟩
              unfold begS
              rw [hh, x1, if_neg (by decide), x2, if_neg (by decide), x3, if_neg (by decide), hs, if_neg (by decide)]
              rfl
            rcases sgn_cases (by omega) h2 with ⟨a, rfl, ha⟩ | rfl | rfl | rfl
            · obtain ⟨x1, x2, x3, x4⟩ := sgn_byte a ha
              have hs : sgnN ([a] ++ r) = 1 := by
                rcases hr with rfl | ⟨x, rfl⟩
                · show sgnN [a] = 1
                  rw [sgn_one, if_pos ha]
                · show sgnN (a :: 32 :: x) = 1
                  rw [sgn_two, if_neg (by rw [show ((61 : UInt8) == 32) = false from rfl, show ((62 : UInt8) == 32) = false from rfl]; simp), if_pos ha]
              have hh : hdB ([a] ++ r) = (a.toNat : Int) := rfl
              refine ⟨by simp, ?_, ?_⟩
              · unfold begS
                rw [hh, x1, if_neg (by decide), x2, if_neg (by decide), x3, if_neg (by decide), hs, if_neg (by decide)]
                rfl
              · have hx : ¬ Lib.hasPrefix ([a] ++ r) [45, 45] = true := by
                  rcases hr with rfl | ⟨x, rfl⟩
                  · show ¬ Lib.hasPrefix [a] [45, 45] = true
                    rw [hp1]; simp
                  · show ¬ Lib.hasPrefix (a :: 32 :: x) [45, 45] = true
                    rw [hp2]; simp
                show (if Lib.hasPrefix ([a] ++ r) [45, 45] = true then blkN true r + 1 else if blkB (a.toNat : Int) = true then blkN false r + 1 else 0) = 0
                rw [if_neg hx, x4]
                rfl
            · exact two 60 61 rfl rfl rfl rfl rfl rfl (by decide)
            · exact two 62 61 rfl rfl rfl rfl rfl rfl (by decide)
            · exact two 60 62 rfl rfl rfl rfl rfl rfl (by decide)
          · rw [if_neg k5] at h; cases h
theorem jn_sep (i : Nat) : ∀ ts : List Tq, Sep (jnR (i + 1) ts)
  | [] => .inl rfl
  | t :: r => .inr ⟨txtF t ++ jnR (i + 1 + 1) r, by
    show (if 0 < i + 1 then [32] else []) ++ txtF t ++ jnR (i + 1 + 1) r = _
    rw [if_pos (by omega)]
    simp⟩
theorem jn_any (i j : Nat) : ∀ ts : List Tq, jnR (i + 1) ts = jnR (j + 1) ts
  | [] => rfl
  | t :: r => by
    show (if 0 < i + 1 then [32] else []) ++ txtF t ++ jnR (i + 1 + 1) r = (if 0 < j + 1 then [32] else []) ++ txtF t ++ jnR (j + 1 + 1) r
    rw [if_pos (by omega), if_pos (by omega), jn_any (i + 1) (j + 1) r]
/-- Behind the first token a blank, and the others. -/
theorem jn_next (t : Tq) (r : List Tq) : jnR 1 (t :: r) = 32 :: jnR 0 (t :: r) := by
  show (if 0 < 1 then [32] else []) ++ txtF t ++ jnR 2 r = 32 :: ((if 0 < 0 then [32] else []) ++ txtF t ++ jnR 1 r)
  rw [if_pos (by omega), if_neg (by omega), jn_any 1 0 r]
  simp
def coreK (x : Tk × Int) : (Int × List UInt8 × Int) × Int := ((x.1.kind, x.1.text, x.1.num), x.2)
theorem jn_toks : ∀ (ts : List Tq) (n p : Nat), (∀ t ∈ ts, tokB t = true ∧ t.num ≤ 9223372036854775807) → (jnR 0 ts).length < n →
    blkN false (jnR 0 ts) = 0 ∧ (toksS n p (jnR 0 ts)).map coreK = ts.map fun t => (coreT t, 0)
  | [], n, p, _, h => ⟨rfl, by cases n <;> simp [toksS, jnR]⟩
  | t :: r, 0, p, _, h => by omega
  | t :: r, n + 1, p, ha, h => by
    obtain ⟨h1, h2⟩ := ha t (List.mem_cons_self ..)
    obtain ⟨e1, e2, e3⟩ := beg_txt h1 h2 (jn_sep 0 r)
    have ej : jnR 0 (t :: r) = txtF t ++ jnR 1 r := by
      show (if 0 < 0 then [32] else []) ++ txtF t ++ jnR 1 r = _
      rw [if_neg (by omega), List.nil_append]
    rw [ej] at h ⊢
    refine ⟨e3, ?_⟩
    unfold toksS
    have hp := List.length_pos_iff.2 e1
    rw [List.length_append] at h
    have hne : txtF t ++ jnR 1 r ≠ [] := fun e => e1 (List.append_eq_nil_iff.1 e).1
    rw [if_neg hne, e2, if_pos rfl, List.drop_left, ← List.drop_drop, List.drop_left, List.map_cons, List.map_cons]
    congr 1
    cases r with
    | nil => cases n <;> simp [toksS, jnR]
    | cons t2 r2 =>
      rw [jn_next] at h ⊢
      have ih := fun q => jn_toks (t2 :: r2) n q (fun x hx => ha x (List.mem_cons_of_mem _ hx)) (by simp only [List.length_cons] at h; omega)
      have b1 : blkN false (32 :: jnR 0 (t2 :: r2)) = 1 := by rw [blk_one 32 _ rfl (by decide), (ih 0).1]
      rw [b1]
      exact (ih _).2
/-- The text of tokens that may be has these tokens. -/
theorem lex_back {ts : List Tq} (hc : chkF ts = 0) (hN : ∀ t ∈ ts, t.num ≤ 9223372036854775807) (hl : (jnR 0 ts).length ≤ 1024) :
    ∃ us, lexF (jnR 0 ts) = (us, 0, 0) ∧ samR ts (us.map Tk.q) = true := by
  have h300 : ts.length ≤ 300 := by
    unfold chkF at hc
    split at hc
    · cases hc
    · omega
  have hall : ∀ t ∈ ts, tokB t = true := by
    unfold chkF at hc
    split at hc
    · cases hc
    · split at hc
      · rename_i h
        rw [List.all_eq_true] at h
        exact h
      · cases hc
  obtain ⟨b0, hm⟩ := jn_toks ts ((jnR 0 ts).length + 1) 0 (fun t ht => ⟨hall t ht, hN t ht⟩) (by omega)
  have et : tkS (jnR 0 ts) = toksS ((jnR 0 ts).length + 1) 0 (jnR 0 ts) := by
    unfold tkS
    rw [b0, List.drop_zero]
  rw [← et] at hm
  have hz : ∀ x ∈ tkS (jnR 0 ts), x.2 = 0 := fun x hx => by
    have := List.mem_map_of_mem (f := coreK) hx
    rw [hm] at this
    obtain ⟨t, -, ht⟩ := List.mem_map.1 this
    exact (congrArg Prod.snd ht).symm
  have hlen : (tkS (jnR 0 ts)).length = ts.length := by
    have := congrArg List.length hm
    simpa using this
  refine ⟨(tkS (jnR 0 ts)).map (·.1), ?_, ?_⟩
  · unfold lexF
    rw [if_neg (by omega), tokL_S, lexG_back _ 0 hz (by omega)]
  · unfold samR
    refine decide_eq_true ?_
    have := congrArg (fun l => l.map (·.1)) hm
    simp only [List.map_map] at this ⊢
    rw [show (Prod.fst ∘ fun t => (coreT t, (0 : Int))) = coreT from rfl] at this
    rw [← this]
    rfl
end Go.Proofs.YtblcfjliabeaiaaDoor
