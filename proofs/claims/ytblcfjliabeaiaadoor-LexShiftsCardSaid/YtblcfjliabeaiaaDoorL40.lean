/-
  What begins a text as a token, by its own bytes; blanks and remarks ahead shift all tokens.
-/
import Derived.Test.YtblcfjliabeaiaaDoorL26
namespace Go.Proofs.YtblcfjliabeaiaaDoor
open Go.RowKit Go.Shelf

/-- What begins a text as a token: what it is, how many bytes it has, what is wrong. -/
abbrev Bg := (Int × List UInt8 × Int) × Nat × Int
def bad (e : Int) : Bg := ((0, [], 0), 0, e)
def hdB (m : List UInt8) : Int := (((m.getD 0 0).toNat : Nat) : Int)
def letH : List UInt8 → Bool
  | [] => false
  | b :: _ => letB (b.toNat : Int)
def wordS (m : List UInt8) : Bg :=
  match keyF (m.take (runN innB m)) with
  | some k => ((1, k, 0), runN innB m, 0)
  | none => if 24 < (m.take (runN innB m)).length then bad 200 else ((2, m.take (runN innB m), 0), runN innB m, 0)
def numS (m : List UInt8) : Bg :=
  if dgA 0 (m.take (runN digB m)) < 9223372036854775808 ∧ ¬ letH (m.drop (runN digB m)) = true then ((3, [], (dgA 0 (m.take (runN digB m)) : Nat)), runN digB m, 0) else bad 201
def quotedS (m : List UInt8) : Bg :=
  match quoN false [] 1 0 (m.drop 1) with
  | none => bad 200
  | some (sd, t) => if 64 < sd.length then bad 200 else ((4, sd, 0), t, 0)
/-- The token with which a text begins. -/
def begS (m : List UInt8) : Bg :=
  if letB (hdB m) = true then wordS m else if digB (hdB m) = true then numS m else if (hdB m == 39) = true then quotedS m
  else if sgnN m = 0 then bad 200 else ((5, m.take (sgnN m), 0), sgnN m, 0)
/-- It stands at a place. -/
def mkT (p : Nat) (r : Bg) : Tk × Int := if r.2.2 = 0 then (⟨r.1.1, r.1.2.1, r.1.2.2, p, p + r.2.1⟩, 0) else (errT p, r.2.2)

theorem quoN_shift : ∀ (r : List UInt8) (al : Bool) (sd : List UInt8) (i t d : Nat), quoN al sd (i + d) (t + d) r = (quoN al sd i t r).map fun x => (x.1, x.2 + d)
  | [], al, sd, i, t, d => by unfold quoN; split <;> rfl
  | b :: r, al, sd, i, t, d => by
    unfold quoN
    have e : i + d + 1 = i + 1 + d := by omega
    rw [e, quoN_shift r false (sd ++ [b]) (i + 1) t d]
    have h2 := quoN_shift r true sd (i + 1) (i + 1) d
    rw [h2]
    split
    · split <;> rfl
    · split
      · rfl
      · split <;> rfl
theorem bt_hd (l : List UInt8) (p : Nat) : bt l p = hdB (l.drop p) := by
  unfold bt hdB
  simp [List.getD]
theorem let_H (l : List UInt8) (p : Nat) : (p < l.length ∧ letB (bt l p) = true) ↔ letH (l.drop p) = true := by
  by_cases h : p < l.length
  · obtain ⟨b, r, hd, _, hb⟩ := drop_at h
    rw [hd, ← hb]
    exact ⟨fun x => x.2, fun x => ⟨h, x⟩⟩
  · rw [List.drop_eq_nil_of_le (by omega)]
    exact ⟨fun x => absurd x.1 h, fun x => by cases x⟩
theorem cut_run (q : Int → Bool) (l : List UInt8) (p : Nat) : cutF l p (runE q l p) = (l.drop p).take (runN q (l.drop p)) := by
  unfold cutF runE
  rw [List.drop_take]
  congr 1
  omega
/-- The token at a place is the one with which what stands from there on begins. -/
theorem beg_S (l : List UInt8) (p : Nat) : begF l p = mkT p (begS (l.drop p)) := by
  unfold begF begS
  rw [bt_hd l p]
  by_cases c1 : letB (hdB (l.drop p)) = true
  · rw [if_pos c1, if_pos c1]
    unfold wordF wordS
    rw [cut_run]
    unfold runE
    cases keyF ((l.drop p).take (runN innB (l.drop p))) with
    | some k => rfl
    | none =>
      simp only
      split <;> rfl
  · rw [if_neg c1, if_neg c1]
    by_cases c2 : digB (hdB (l.drop p)) = true
    · rw [if_pos c2, if_pos c2]
      unfold numF numS
      rw [cut_run]
      simp only [let_H]
      unfold runE
      rw [← List.drop_drop]
      split <;> rfl
    · rw [if_neg c2, if_neg c2]
      by_cases c3 : (hdB (l.drop p) == 39) = true
      · rw [if_pos c3, if_pos c3]
        unfold quotedF quotedS
        have e := quoN_shift (l.drop (p + 1)) false [] 1 0 p
        rw [show p + 1 = 1 + p by omega]
        rw [show p + 1 = 1 + p by omega, Nat.zero_add] at e
        rw [e, List.drop_drop, show p + 1 = 1 + p by omega]
        cases quoN false [] 1 0 (l.drop (1 + p)) with
        | none => rfl
        | some x =>
          obtain ⟨sd, t⟩ := x
          simp only [Option.map]
          by_cases h64 : 64 < sd.length
          · rw [if_pos h64, if_pos h64]; rfl
          · rw [if_neg h64, if_neg h64]; unfold mkT; rw [if_pos rfl, Nat.add_comm]
      · rw [if_neg c3, if_neg c3]
        by_cases c4 : sgnN (l.drop p) = 0
        · rw [if_pos c4, if_pos c4]; rfl
        · rw [if_neg c4, if_neg c4]
          have e : cutF l p (p + sgnN (l.drop p)) = (l.drop p).take (sgnN (l.drop p)) := by
            unfold cutF
            rw [List.drop_take]
            congr 1
            omega
          rw [e]
          rfl
/-- The tokens of what stands from a place on. -/
def toksS : Nat → Nat → List UInt8 → List (Tk × Int)
  | 0, _, _ => []
  | n + 1, p, m => if m = [] then [] else if (begS m).2.2 = 0 then mkT p (begS m) :: toksS n (p + (begS m).2.1 + blkN false (m.drop (begS m).2.1)) (m.drop ((begS m).2.1 + blkN false (m.drop (begS m).2.1))) else [mkT p (begS m)]
theorem toks_S : ∀ (n : Nat) (l : List UInt8) (p : Nat), toksF n l p = toksS n p (l.drop p)
  | 0, _, _ => rfl
  | n + 1, l, p => by
    unfold toksF toksS
    by_cases h : p < l.length
    · have hn : l.drop p ≠ [] := fun e => by have := congrArg List.length e; rw [List.length_drop] at this; simp at this; omega
      rw [if_pos h, if_neg hn, beg_S l p]
      by_cases he : (begS (l.drop p)).2.2 = 0
      · have e1 : mkT p (begS (l.drop p)) = (⟨(begS (l.drop p)).1.1, (begS (l.drop p)).1.2.1, (begS (l.drop p)).1.2.2, p, p + (begS (l.drop p)).2.1⟩, 0) := by unfold mkT; rw [if_pos he]
        have e2 : (mkT p (begS (l.drop p))).2 = 0 := by rw [e1]
        have e3 : (mkT p (begS (l.drop p))).1.to_ = p + (begS (l.drop p)).2.1 := by rw [e1]
        rw [if_pos he, if_pos e2, e3, toks_S n]
        unfold blkE
        rw [List.drop_drop, List.drop_drop, Nat.add_assoc]
      · have e2 : (mkT p (begS (l.drop p))).2 = (begS (l.drop p)).2.2 := by unfold mkT; rw [if_neg he]
        rw [if_neg he, if_neg (by rw [e2]; exact he)]
    · have hn : l.drop p = [] := List.drop_eq_nil_of_le (by omega)
      rw [if_neg h, if_pos hn]
/-- A token, further on. -/
def Tk.sh (d : Nat) (t : Tk) : Tk := ⟨t.kind, t.text, t.num, t.at_ + d, t.to_ + d⟩

def shp (d : Nat) (x : Tk × Int) : Tk × Int := if x.2 = 0 then (x.1.sh d, 0) else (errT (x.1.at_ + d), x.2)
theorem mkT_sh (p d : Nat) (r : Bg) : mkT (p + d) r = shp d (mkT p r) := by
  unfold shp mkT
  by_cases h : r.2.2 = 0
  · rw [if_pos h, if_pos h, if_pos rfl]
    unfold Tk.sh
    simp only [Prod.mk.injEq, Tk.mk.injEq, true_and, and_true]
    omega
  · rw [if_neg h, if_neg h, if_neg h]
    rfl
theorem toksS_sh : ∀ (n p d : Nat) (m : List UInt8), toksS n (p + d) m = (toksS n p m).map (shp d)
  | 0, _, _, _ => rfl
  | n + 1, p, d, m => by
    unfold toksS
    by_cases h : m = []
    · rw [if_pos h, if_pos h]; rfl
    · rw [if_neg h, if_neg h]
      by_cases he : (begS m).2.2 = 0
      · rw [if_pos he, if_pos he, List.map_cons, ← mkT_sh, ← toksS_sh n]
        congr 2
        omega
      · rw [if_neg he, if_neg he, List.map_cons, ← mkT_sh]
        rfl
theorem lexG_sh (d : Nat) : ∀ (S : List (Tk × Int)) (k : Nat), lexG k (S.map (shp d)) = (lexG k S).map fun x => (x.1, x.2 + d)
  | [], _ => rfl
  | (t, e) :: r, k => by
    have e1 : shp d (t, e) = if e = 0 then (t.sh d, 0) else (errT (t.at_ + d), e) := rfl
    rw [List.map_cons, e1]
    by_cases h : e = 0
    · rw [if_pos h]
      unfold lexG
      rw [if_neg (show ¬ ((0 : Int) ≠ 0) from fun h => h rfl), if_neg (show ¬ (e ≠ 0) from fun x => x h), lexG_sh d r]
      split <;> rfl
    · rw [if_neg h]
      unfold lexG
      rw [if_pos h, if_pos h]
      rfl
/-- A token has bytes, and no more than there are. -/
theorem begS_size {m : List UInt8} (hm : m ≠ []) (h : (begS m).2.2 = 0) : 0 < (begS m).2.1 ∧ (begS m).2.1 ≤ m.length := by
  have h0 : 0 < m.length := List.length_pos_iff.2 hm
  have e := beg_S m 0
  rw [List.drop_zero] at e
  have e1 : mkT 0 (begS m) = (⟨(begS m).1.1, (begS m).1.2.1, (begS m).1.2.2, 0, 0 + (begS m).2.1⟩, 0) := by unfold mkT; rw [if_pos h]
  have := begF_to (l := m) (p := 0) h0 (by rw [e, e1])
  rw [e, e1] at this
  simp only at this
  omega
/-- So many rounds are enough. -/
theorem toksS_fuel : ∀ (n n' p : Nat) (m : List UInt8), m.length < n → m.length < n' → toksS n p m = toksS n' p m
  | 0, _, _, _, h, _ => absurd h (Nat.not_lt_zero _)
  | _ + 1, 0, _, _, _, h => absurd h (Nat.not_lt_zero _)
  | n + 1, n' + 1, p, m, h, h' => by
    unfold toksS
    by_cases hm : m = []
    · rw [if_pos hm, if_pos hm]
    · rw [if_neg hm, if_neg hm]
      by_cases he : (begS m).2.2 = 0
      · have hs := begS_size hm he
        have hl : 0 < m.length := List.length_pos_iff.2 hm
        rw [if_pos he, if_pos he, toksS_fuel n n' _ _ (by rw [List.length_drop]; omega) (by rw [List.length_drop]; omega)]
      · rw [if_neg he, if_neg he]
/-- The tokens of a text, each with its place. -/
def tkS (m : List UInt8) : List (Tk × Int) := toksS (m.length + 1) (blkN false m) (m.drop (blkN false m))
theorem tokL_S (l : List UInt8) : toksL l = tkS l := by
  unfold toksL tkS blkE
  rw [toks_S, List.drop_zero, Nat.zero_add]
/-- Blanks and remarks ahead shift all tokens. -/
theorem tkS_ahead {a s : List UInt8} (h : blkN false (a ++ s) = a.length + blkN false s) : tkS (a ++ s) = (tkS s).map (shp a.length) := by
  unfold tkS
  have e1 : (a ++ s).drop (blkN false (a ++ s)) = s.drop (blkN false s) := by
    rw [h, ← List.drop_drop, List.drop_left]
  rw [e1, h, Nat.add_comm a.length, toksS_sh, toksS_fuel _ (s.length + 1) _ _ (by rw [List.length_append, List.length_drop]; omega) (by rw [List.length_drop]; omega)]
/-- What of a text further on is told. -/
def lexSh (d : Nat) (r : List Tk × Int × Nat) : List Tk × Int × Nat := (r.1.map (Tk.sh d), r.2.1, if r.2.1 = 0 then 0 else r.2.2 + d)
theorem lexG_ne : ∀ (S : List (Tk × Int)) (k : Nat) (e : Int) (a : Nat), lexG k S = some (e, a) → e ≠ 0
  | [], _, _, _, h => by cases h
  | (t, e') :: r, k, e, a, h => by
    unfold lexG at h
    by_cases c : e' ≠ 0
    · rw [if_pos c] at h
      injection h with h
      injection h with h1 h2
      rw [← h1]
      exact c
    · rw [if_neg c] at h
      by_cases c2 : k = 300
      · rw [if_pos c2] at h
        injection h with h
        injection h with h1 h2
        rw [← h1]
        decide
      · rw [if_neg c2] at h
        exact lexG_ne r _ _ _ h
theorem lexG_none : ∀ (S : List (Tk × Int)) (k : Nat), k ≤ 300 → lexG k S = none → (∀ x ∈ S, x.2 = 0) ∧ k + S.length ≤ 300
  | [], k, hk, _ => ⟨(fun x hx => by cases hx), (by simpa using hk)⟩
  | (t, e') :: r, k, hk, h => by
    unfold lexG at h
    by_cases c : e' ≠ 0
    · rw [if_pos c] at h; cases h
    · rw [if_neg c] at h
      by_cases c2 : k = 300
      · rw [if_pos c2] at h; cases h
      · rw [if_neg c2] at h
        obtain ⟨h1, h2⟩ := lexG_none r _ (by omega) h
        refine ⟨fun x hx => ?_, ?_⟩
        · rcases List.mem_cons.1 hx with rfl | hx
          · exact Classical.not_not.1 c
          · exact h1 x hx
        · simp only [List.length_cons]
          omega
theorem lexG_back : ∀ (S : List (Tk × Int)) (k : Nat), (∀ x ∈ S, x.2 = 0) → k + S.length ≤ 300 → lexG k S = none
  | [], _, _, _ => rfl
  | (t, e') :: r, k, h, hk => by
    have h0 : e' = 0 := h _ (List.mem_cons_self ..)
    simp only [List.length_cons] at hk
    unfold lexG
    rw [if_neg (fun x => x h0), if_neg (by omega)]
    exact lexG_back r (k + 1) (fun x hx => h x (List.mem_cons_of_mem _ hx)) (by omega)
/-- Tokens of a text with blanks and remarks ahead: the same, further on. -/
theorem lexF_ahead {a s : List UInt8} (h : blkN false (a ++ s) = a.length + blkN false s) (hl : a.length + s.length ≤ 1024) : lexF (a ++ s) = lexSh a.length (lexF s) := by
  unfold lexF
  rw [if_neg (by rw [List.length_append]; omega), if_neg (by omega), tokL_S, tokL_S, tkS_ahead h, lexG_sh]
  cases hg : lexG 0 (tkS s) with
  | some x =>
    obtain ⟨e, p⟩ := x
    have := lexG_ne _ _ _ _ hg
    simp only [Option.map]
    unfold lexSh
    simp only [List.map_nil, if_neg this]
  | none =>
    have h0 := (lexG_none _ _ (by omega) hg).1
    simp only [Option.map]
    unfold lexSh
    simp only [List.map_map, if_pos]
    congr 1
    refine List.map_congr_left fun x hx => ?_
    show (shp a.length x).1 = x.1.sh a.length
    unfold shp
    rw [if_pos (h0 x hx)]
theorem blk_one (b : UInt8) (m : List UInt8) (hb : blkB (b.toNat : Int) = true) (hm : b ≠ 45) : blkN false (b :: m) = blkN false m + 1 := by
  have hp : ¬ Lib.hasPrefix (b :: m) [45, 45] = true := by
    intro h
    unfold Lib.hasPrefix at h
    simp only [List.isPrefixOf, Bool.and_eq_true, beq_iff_eq] at h
    exact hm h.1.symm
  show (if Lib.hasPrefix (b :: m) [45, 45] = true then blkN true m + 1 else if blkB (b.toNat : Int) = true then blkN false m + 1 else 0) = _
  rw [if_neg hp, if_pos hb]
theorem blk_rep (n : Nat) (m : List UInt8) : blkN false (List.replicate n 32 ++ m) = n + blkN false m := by
  induction n with
  | zero => simp
  | succ n ih =>
    rw [List.replicate_succ, List.cons_append, blk_one 32 _ rfl (by decide), ih]
    omega
theorem blk_remark : ∀ (r m : List UInt8), (10 : UInt8) ∉ r → blkN true (r ++ 10 :: m) = r.length + 1 + blkN false m
  | [], m, _ => by
    show blkN ((((10 : UInt8).toNat : Nat) : Int) != 10) m + 1 = 0 + 1 + blkN false m
    rw [show ((((10 : UInt8).toNat : Nat) : Int) != 10) = false from rfl]
    omega
  | b :: r, m, h => by
    have hb : b ≠ 10 := fun e => h (by rw [e]; exact List.mem_cons_self ..)
    have hb2 : (((b.toNat : Nat) : Int) != 10) = true := by
      rw [bne_iff_ne]
      intro e
      apply hb
      have : b.toNat = 10 := by omega
      exact UInt8.toNat_inj.1 this
    show blkN (((b.toNat : Nat) : Int) != 10) (r ++ 10 :: m) + 1 = _
    rw [hb2, blk_remark r m (fun x => h (List.mem_cons_of_mem _ x))]
    simp only [List.length_cons]
    omega
/-- Blanks, and then a remark that ends, or none. -/
theorem blk_ahead (n : Nat) (m : List UInt8) : blkN false (List.replicate n 32 ++ [9] ++ m) = (List.replicate n (32 : UInt8) ++ [9]).length + blkN false m := by
  rw [List.append_assoc, blk_rep]
  show n + blkN false (9 :: m) = _
  rw [blk_one 9 _ rfl (by decide)]
  simp
  omega
theorem blk_ahead2 (n : Nat) (r m : List UInt8) (h : (10 : UInt8) ∉ r) : blkN false (List.replicate n 32 ++ [9] ++ ([45, 45] ++ r ++ [10]) ++ m) = (List.replicate n (32 : UInt8) ++ [9] ++ ([45, 45] ++ r ++ [10])).length + blkN false m := by
  rw [List.append_assoc, blk_ahead]
  have e : [45, 45] ++ r ++ [10] ++ m = 45 :: 45 :: (r ++ 10 :: m) := by simp
  rw [e]
  have e1 : blkN false (45 :: 45 :: (r ++ 10 :: m)) = blkN true (45 :: (r ++ 10 :: m)) + 1 := by
    show (if Lib.hasPrefix (45 :: 45 :: (r ++ 10 :: m)) [45, 45] = true then blkN true (45 :: (r ++ 10 :: m)) + 1 else if blkB (((45 : UInt8).toNat : Nat) : Int) = true then blkN false (45 :: (r ++ 10 :: m)) + 1 else 0) = _
    rw [if_pos (by unfold Lib.hasPrefix; rfl)]
  have e2 : blkN true (45 :: (r ++ 10 :: m)) = blkN true (r ++ 10 :: m) + 1 := rfl
  rw [e1, e2, blk_remark r m h]
  simp only [List.length_append, List.length_cons, List.length_nil]
  omega
end Go.Proofs.YtblcfjliabeaiaaDoor
