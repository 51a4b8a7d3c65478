/-
  Several texts in one: L40, L41, L42.
-/
import Derived.Test.YtiipglmbfgmbbaaGreatDoorPkP
namespace Go.Proofs.YtiipglmbfgmbbaaGreatDoor
open Go.RowKit Go.Shelf

/-- What begins a text as a token: what it is, how many bytes it has, what is wrong. -/
abbrev Bg := (Int × List UInt8 × Int) × Nat × Int
def bad (e : Int) : Bg := ((0, [], 0), 0, e)
def hdB (m : List UInt8) : Int := (((m.getD 0 0).toNat : Nat) : Int)
def letH : List UInt8 → Bool
  | [] => false
  | b :: _ => letB (b.toNat : Int)
def wordS (m : List UInt8) : Bg :=
  match keyF (m.take (runN innB m)) with
  | some k => ((1, k, 0), runN innB m, 0)
  | none => if 24 < (m.take (runN innB m)).length then bad 200 else ((2, m.take (runN innB m), 0), runN innB m, 0)
def numS (m : List UInt8) : Bg :=
  if dgA 0 (m.take (runN digB m)) < 9223372036854775808 ∧ ¬ letH (m.drop (runN digB m)) = true then ((3, [], (dgA 0 (m.take (runN digB m)) : Nat)), runN digB m, 0) else bad 201
def quotedS (m : List UInt8) : Bg :=
  match quoN false [] 1 0 (m.drop 1) with
  | none => bad 200
  | some (sd, t) => if 64 < sd.length then bad 200 else ((4, sd, 0), t, 0)
/-- The token with which a text begins. -/
def begS (m : List UInt8) : Bg :=
  if letB (hdB m) = true then wordS m else if digB (hdB m) = true then numS m else if (hdB m == 39) = true then quotedS m
  else if sgnN m = 0 then bad 200 else ((5, m.take (sgnN m), 0), sgnN m, 0)
/-- It stands at a place. -/
def mkT (p : Nat) (r : Bg) : Tk × Int := if r.2.2 = 0 then (⟨r.1.1, r.1.2.1, r.1.2.2, p, p + r.2.1⟩, 0) else (errT p, r.2.2)

theorem quoN_shift : ∀ (r : List UInt8) (al : Bool) (sd : List UInt8) (i t d : Nat), quoN al sd (i + d) (t + d) r = (quoN al sd i t r).map fun x => (x.1, x.2 + d)
  | [], al, sd, i, t, d => by unfold quoN; split <;> rfl
  | b :: r, al, sd, i, t, d => by
    unfold quoN
    have e : i + d + 1 = i + 1 + d := by omega
    rw [e, quoN_shift r false (sd ++ [b]) (i + 1) t d]
    have h2 := quoN_shift r true sd (i + 1) (i + 1) d
    rw [h2]
    split
    · split <;> rfl
    · split
      · rfl
      · split <;> rfl
theorem bt_hd (l : List UInt8) (p : Nat) : bt l p = hdB (l.drop p) := by
  unfold bt hdB
  simp [List.getD]
theorem let_H (l : List UInt8) (p : Nat) : (p < l.length ∧ letB (bt l p) = true) ↔ letH (l.drop p) = true := by
  by_cases h : p < l.length
  · obtain ⟨b, r, hd, _, hb⟩ := drop_at h
    rw [hd, ← hb]
    exact ⟨fun x => x.2, fun x => ⟨h, x⟩⟩
  · rw [List.drop_eq_nil_of_le (by omega)]
    exact ⟨fun x => absurd x.1 h, fun x => by cases x⟩
theorem cut_run (q : Int → Bool) (l : List UInt8) (p : Nat) : cutF l p (runE q l p) = (l.drop p).take (runN q (l.drop p)) := by
  unfold cutF runE
  rw [List.drop_take]
  congr 1
  omega
/-- The token at a place is the one with which what stands from there on begins. -/
theorem beg_S (l : List UInt8) (p : Nat) : begF l p = mkT p (begS (l.drop p)) := by
  unfold begF begS
  rw [bt_hd l p]
  by_cases c1 : letB (hdB (l.drop p)) = true
  · rw [if_pos c1, if_pos c1]
    unfold wordF wordS
    rw [cut_run]
    unfold runE
    cases keyF ((l.drop p).take (runN innB (l.drop p))) with
    | some k => rfl
    | none =>
      simp only
      split <;> rfl
  · rw [if_neg c1, if_neg c1]
    by_cases c2 : digB (hdB (l.drop p)) = true
    · rw [if_pos c2, if_pos c2]
      unfold numF numS
      rw [cut_run]
      simp only [let_H]
      unfold runE
      rw [← List.drop_drop]
      split <;> rfl
    · rw [if_neg c2, if_neg c2]
      by_cases c3 : (hdB (l.drop p) == 39) = true
      · rw [if_pos c3, if_pos c3]
        unfold quotedF quotedS
        have e := quoN_shift (l.drop (p + 1)) false [] 1 0 p
        rw [show p + 1 = 1 + p by omega]
        rw [show p + 1 = 1 + p by omega, Nat.zero_add] at e
        rw [e, List.drop_drop, show p + 1 = 1 + p by omega]
        cases quoN false [] 1 0 (l.drop (1 + p)) with
        | none => rfl
        | some x =>
          obtain ⟨sd, t⟩ := x
          simp only [Option.map]
          by_cases h64 : 64 < sd.length
          · rw [if_pos h64, if_pos h64]; rfl
          · rw [if_neg h64, if_neg h64]; unfold mkT; rw [if_pos rfl, Nat.add_comm]
      · rw [if_neg c3, if_neg c3]
        by_cases c4 : sgnN (l.drop p) = 0
        · rw [if_pos c4, if_pos c4]; rfl
        · rw [if_neg c4, if_neg c4]
          have e : cutF l p (p + sgnN (l.drop p)) = (l.drop p).take (sgnN (l.drop p)) := by
            unfold cutF
            rw [List.drop_take]
            congr 1
            omega
          rw [e]
          rfl
/-- The tokens of what stands from a place on. -/
def toksS : Nat → Nat → List UInt8 → List (Tk × Int)
  | 0, _, _ => []
  | n + 1, p, m => if m = [] then [] else if (begS m).2.2 = 0 then mkT p (begS m) :: toksS n (p + (begS m).2.1 + blkN false (m.drop (begS m).2.1)) (m.drop ((begS m).2.1 + blkN false (m.drop (begS m).2.1))) else [mkT p (begS m)]
theorem toks_S : ∀ (n : Nat) (l : List UInt8) (p : Nat), toksF n l p = toksS n p (l.drop p)
  | 0, _, _ => rfl
  | n + 1, l, p => by
    unfold toksF toksS
    by_cases h : p < l.length
    · have hn : l.drop p ≠ [] := fun e => by have := congrArg List.length e; rw [List.length_drop] at this; simp at this; omega
      rw [if_pos h, if_neg hn, beg_S l p]
      by_cases he : (begS (l.drop p)).2.2 = 0
      · have e1 : mkT p (begS (l.drop p)) = (⟨(begS (l.drop p)).1.1, (begS (l.drop p)).1.2.1, (begS (l.drop p)).1.2.2, p, p + (begS (l.drop p)).2.1⟩, 0) := by unfold mkT; rw [if_pos he]
        have e2 : (mkT p (begS (l.drop p))).2 = 0 := by rw [e1]
        have e3 : (mkT p (begS (l.drop p))).1.to_ = p + (begS (l.drop p)).2.1 := by rw [e1]
        rw [if_pos he, if_pos e2, e3, toks_S n]
        unfold blkE
        rw [List.drop_drop, List.drop_drop, Nat.add_assoc]
      · have e2 : (mkT p (begS (l.drop p))).2 = (begS (l.drop p)).2.2 := by unfold mkT; rw [if_neg he]
        rw [if_neg he, if_neg (by rw [e2]; exact he)]
    · have hn : l.drop p = [] := List.drop_eq_nil_of_le (by omega)
      rw [if_neg h, if_pos hn]
/-- A token, further on. -/
def Tk.sh (d : Nat) (t : Tk) : Tk := ⟨t.kind, t.text, t.num, t.at_ + d, t.to_ + d⟩

def shp (d : Nat) (x : Tk × Int) : Tk × Int := if x.2 = 0 then (x.1.sh d, 0) else (errT (x.1.at_ + d), x.2)
theorem mkT_sh (p d : Nat) (r : Bg) : mkT (p + d) r = shp d (mkT p r) := by
  unfold shp mkT
  by_cases h : r.2.2 = 0
  · rw [if_pos h, if_pos h, if_pos rfl]
    unfold Tk.sh
    simp only [Prod.mk.injEq, Tk.mk.injEq, true_and, and_true]
    omega
  · rw [if_neg h, if_neg h, if_neg h]
    rfl
theorem toksS_sh : ∀ (n p d : Nat) (m : List UInt8), toksS n (p + d) m = (toksS n p m).map (shp d)
  | 0, _, _, _ => rfl
  | n + 1, p, d, m => by
    unfold toksS
    by_cases h : m = []
    · rw [if_pos h, if_pos h]; rfl
    · rw [if_neg h, if_neg h]
      by_cases he : (begS m).2.2 = 0
      · rw [if_pos he, if_pos he, List.map_cons, ← mkT_sh, ← toksS_sh n]
        congr 2
        omega
      · rw [if_neg he, if_neg he, List.map_cons, ← mkT_sh]
        rfl
theorem lexG_sh (d : Nat) : ∀ (S : List (Tk × Int)) (k : Nat), lexG k (S.map (shp d)) = (lexG k S).map fun x => (x.1, x.2 + d)
  | [], _ => rfl
  | (t, e) :: r, k => by
    have e1 : shp d (t, e) = if e = 0 then (t.sh d, 0) else (errT (t.at_ + d), e) := rfl
    rw [List.map_cons, e1]
    by_cases h : e = 0
    · rw [if_pos h]
      unfold lexG
      rw [if_neg (show ¬ ((0 : Int) ≠ 0) from fun h => h rfl), if_neg (show ¬ (e ≠ 0) from fun x => x h), lexG_sh d r]
      split <;> rfl
    · rw [if_neg h]
      unfold lexG
      rw [if_pos h, if_pos h]
      rfl
/-- A token has bytes, and no more than there are. -/
theorem begS_size {m : List UInt8} (hm : m ≠ []) (h : (begS m).2.2 = 0) : 0 < (begS m).2.1 ∧ (begS m).2.1 ≤ m.length := by
  have h0 : 0 < m.length := List.length_pos_iff.2 hm
  have e := beg_S m 0
  rw [List.drop_zero] at e
  have e1 : mkT 0 (begS m) = (⟨(begS m).1.1, (begS m).1.2.1, (begS m).1.2.2, 0, 0 + (begS m).2.1⟩, 0) := by unfold mkT; rw [if_pos h]
  have := begF_to (l := m) (p := 0) h0 (by rw [e, e1])
  rw [e, e1] at this
  simp only at this
  omega
/-- So many rounds are enough. -/
theorem toksS_fuel : ∀ (n n' p : Nat) (m : List UInt8), m.length < n → m.length < n' → toksS n p m = toksS n' p m
  | 0, _, _, _, h, _ => absurd h (Nat.not_lt_zero _)
  | _ + 1, 0, _, _, _, h => absurd h (Nat.not_lt_zero _)
  | n + 1, n' + 1, p, m, h, h' => by
    unfold toksS
    by_cases hm : m = []
    · rw [if_pos hm, if_pos hm]
    · rw [if_neg hm, if_neg hm]
      by_cases he : (begS m).2.2 = 0
      · have hs := begS_size hm he
        have hl : 0 < m.length := List.length_pos_iff.2 hm
        rw [if_pos he, if_pos he, toksS_fuel n n' _ _ (by rw [List.length_drop]; omega) (by rw [List.length_drop]; omega)]
      · rw [if_neg he, if_neg he]
/-- The tokens of a text, each with its place. -/
def tkS (m : List UInt8) : List (Tk × Int) := toksS (m.length + 1) (blkN false m) (m.drop (blkN false m))
theorem tokL_S (l : List UInt8) : toksL l = tkS l := by
  unfold toksL tkS blkE
  rw [toks_S, List.drop_zero, Nat.zero_add]
/-- Blanks and remarks ahead shift all tokens. -/
theorem tkS_ahead {a s : List UInt8} (h : blkN false (a ++ s) = a.length + blkN false s) : tkS (a ++ s) = (tkS s).map (shp a.length) := by
  unfold tkS
  have e1 : (a ++ s).drop (blkN false (a ++ s)) = s.drop (blkN false s) := by
    rw [h, ← List.drop_drop, List.drop_left]
  rw [e1, h, Nat.add_comm a.length, toksS_sh, toksS_fuel _ (s.length + 1) _ _ (by rw [List.length_append, List.length_drop]; omega) (by rw [List.length_drop]; omega)]
/-- What of a text further on is told. -/
def lexSh (d : Nat) (r : List Tk × Int × Nat) : List Tk × Int × Nat := (r.1.map (Tk.sh d), r.2.1, if r.2.1 = 0 then 0 else r.2.2 + d)
theorem lexG_ne : ∀ (S : List (Tk × Int)) (k : Nat) (e : Int) (a : Nat), lexG k S = some (e, a) → e ≠ 0
  | [], _, _, _, h => by cases h
  | (t, e') :: r, k, e, a, h => by
    unfold lexG at h
    by_cases c : e' ≠ 0
    · rw [if_pos c] at h
      injection h with h
      injection h with h1 h2
      rw [← h1]
      exact c
    · rw [if_neg c] at h
      by_cases c2 : k = 300
      · rw [if_pos c2] at h
        injection h with h
        injection h with h1 h2
        rw [← h1]
        decide
      · rw [if_neg c2] at h
        exact lexG_ne r _ _ _ h
theorem lexG_none : ∀ (S : List (Tk × Int)) (k : Nat), k ≤ 300 → lexG k S = none → (∀ x ∈ S, x.2 = 0) ∧ k + S.length ≤ 300
  | [], k, hk, _ => ⟨(fun x hx => by cases hx), (by simpa using hk)⟩
  | (t, e') :: r, k, hk, h => by
    unfold lexG at h
    by_cases c : e' ≠ 0
    · rw [if_pos c] at h; cases h
    · rw [if_neg c] at h
      by_cases c2 : k = 300
      · rw [if_pos c2] at h; cases h
      · rw [if_neg c2] at h
        obtain ⟨h1, h2⟩ := lexG_none r _ (by omega) h
        refine ⟨fun x hx => ?_, ?_⟩
        · rcases List.mem_cons.1 hx with rfl | hx
          · exact Classical.not_not.1 c
          · exact h1 x hx
        · simp only [List.length_cons]
          omega
theorem lexG_back : ∀ (S : List (Tk × Int)) (k : Nat), (∀ x ∈ S, x.2 = 0) → k + S.length ≤ 300 → lexG k S = none
  | [], _, _, _ => rfl
  | (t, e') :: r, k, h, hk => by
    have h0 : e' = 0 := h _ (List.mem_cons_self ..)
    simp only [List.length_cons] at hk
    unfold lexG
    rw [if_neg (fun x => x h0), if_neg (by omega)]
    exact lexG_back r (k + 1) (fun x hx => h x (List.mem_cons_of_mem _ hx)) (by omega)
/-- Tokens of a text with blanks and remarks ahead: the same, further on. -/
theorem lexF_ahead {a s : List UInt8} (h : blkN false (a ++ s) = a.length + blkN false s) (hl : a.length + s.length ≤ 1024) : lexF (a ++ s) = lexSh a.length (lexF s) := by
  unfold lexF
  rw [if_neg (by rw [List.length_append]; omega), if_neg (by omega), tokL_S, tokL_S, tkS_ahead h, lexG_sh]
  cases hg : lexG 0 (tkS s) with
  | some x =>
    obtain ⟨e, p⟩ := x
    have := lexG_ne _ _ _ _ hg
    simp only [Option.map]
    unfold lexSh
    simp only [List.map_nil, if_neg this]
  | none =>
    have h0 := (lexG_none _ _ (by omega) hg).1
    simp only [Option.map]
    unfold lexSh
    simp only [List.map_map, if_pos]
    congr 1
    refine List.map_congr_left fun x hx => ?_
    show (shp a.length x).1 = x.1.sh a.length
    unfold shp
    rw [if_pos (h0 x hx)]
theorem blk_one (b : UInt8) (m : List UInt8) (hb : blkB (b.toNat : Int) = true) (hm : b ≠ 45) : blkN false (b :: m) = blkN false m + 1 := by
  have hp : ¬ Lib.hasPrefix (b :: m) [45, 45] = true := by
    intro h
    unfold Lib.hasPrefix at h
    simp only [List.isPrefixOf, Bool.and_eq_true, beq_iff_eq] at h
    exact hm h.1.symm
  show (if Lib.hasPrefix (b :: m) [45, 45] = true then blkN true m + 1 else if blkB (b.toNat : Int) = true then blkN false m + 1 else 0) = _
  rw [if_neg hp, if_pos hb]
theorem blk_rep (n : Nat) (m : List UInt8) : blkN false (List.replicate n 32 ++ m) = n + blkN false m := by
  induction n with
  | zero => simp
  | succ n ih =>
    rw [List.replicate_succ, List.cons_append, blk_one 32 _ rfl (by decide), ih]
    omega
theorem blk_remark : ∀ (r m : List UInt8), (10 : UInt8) ∉ r → blkN true (r ++ 10 :: m) = r.length + 1 + blkN false m
  | [], m, _ => by
    show blkN ((((10 : UInt8).toNat : Nat) : Int) != 10) m + 1 = 0 + 1 + blkN false m
    rw [show ((((10 : UInt8).toNat : Nat) : Int) != 10) = false from rfl]
    omega
  | b :: r, m, h => by
    have hb : b ≠ 10 := fun e => h (by rw [e]; exact List.mem_cons_self ..)
    have hb2 : (((b.toNat : Nat) : Int) != 10) = true := by
      rw [bne_iff_ne]
      intro e
      apply hb
      have : b.toNat = 10 := by omega
      exact UInt8.toNat_inj.1 this
    show blkN (((b.toNat : Nat) : Int) != 10) (r ++ 10 :: m) + 1 = _
    rw [hb2, blk_remark r m (fun x => h (List.mem_cons_of_mem _ x))]
    simp only [List.length_cons]
    omega
/-- Blanks, and then a remark that ends, or none. -/
theorem blk_ahead (n : Nat) (m : List UInt8) : blkN false (List.replicate n 32 ++ [9] ++ m) = (List.replicate n (32 : UInt8) ++ [9]).length + blkN false m := by
  rw [List.append_assoc, blk_rep]
  show n + blkN false (9 :: m) = _
  rw [blk_one 9 _ rfl (by decide)]
  simp
  omega
theorem blk_ahead2 (n : Nat) (r m : List UInt8) (h : (10 : UInt8) ∉ r) : blkN false (List.replicate n 32 ++ [9] ++ ([45, 45] ++ r ++ [10]) ++ m) = (List.replicate n (32 : UInt8) ++ [9] ++ ([45, 45] ++ r ++ [10])).length + blkN false m := by
  rw [List.append_assoc, blk_ahead]
  have e : [45, 45] ++ r ++ [10] ++ m = 45 :: 45 :: (r ++ 10 :: m) := by simp
  rw [e]
  have e1 : blkN false (45 :: 45 :: (r ++ 10 :: m)) = blkN true (45 :: (r ++ 10 :: m)) + 1 := by
    show (if Lib.hasPrefix (45 :: 45 :: (r ++ 10 :: m)) [45, 45] = true then blkN true (45 :: (r ++ 10 :: m)) + 1 else if blkB (((45 : UInt8).toNat : Nat) : Int) = true then blkN false (45 :: (r ++ 10 :: m)) + 1 else 0) = _
    rw [if_pos (by unfold Lib.hasPrefix; rfl)]
  have e2 : blkN true (45 :: (r ++ 10 :: m)) = blkN true (r ++ 10 :: m) + 1 := rfl
  rw [e1, e2, blk_remark r m h]
  simp only [List.length_append, List.length_cons, List.length_nil]
  omega
end Go.Proofs.YtiipglmbfgmbbaaGreatDoor

namespace Go.Proofs.YtiipglmbfgmbbaaGreatDoor
open Go.RowKit Go.Shelf

/-- What stands behind a token: nothing, or a blank first. -/
def Sep (r : List UInt8) : Prop := r = [] ∨ ∃ x, r = 32 :: x
theorem Sep.hd {r : List UInt8} (h : Sep r) : hdB r = 0 ∨ hdB r = 32 := by
  rcases h with rfl | ⟨x, rfl⟩
  · exact .inl rfl
  · exact .inr rfl
theorem Sep.letH {r : List UInt8} (h : Sep r) : letH r = false := by
  rcases h with rfl | ⟨x, rfl⟩ <;> rfl
theorem runN_sep (q : Int → Bool) (hq : q 32 = false) : ∀ (w r : List UInt8), Sep r → (∀ x ∈ w, q (x.toNat : Int) = true) → runN q (w ++ r) = w.length
  | [], r, h, _ => by
    rcases h with rfl | ⟨x, rfl⟩
    · rfl
    · show (if q (((32 : UInt8).toNat : Nat) : Int) = true then _ else 0) = 0
      rw [show (((32 : UInt8).toNat : Nat) : Int) = 32 from rfl, hq]
      rfl
  | b :: w, r, h, hw => by
    show (if q (b.toNat : Int) = true then runN q (w ++ r) + 1 else 0) = _
    rw [if_pos (hw b (List.mem_cons_self ..)), runN_sep q hq w r h (fun x hx => hw x (List.mem_cons_of_mem _ hx))]
    rfl
theorem runN_pos {q : Int → Bool} {m : List UInt8} (hm : m ≠ []) (h : q (hdB m) = true) : 0 < runN q m := by
  cases m with
  | nil => exact absurd rfl hm
  | cons b r =>
    show 0 < (if q (b.toNat : Int) = true then runN q r + 1 else 0)
    rw [if_pos (show q (b.toNat : Int) = true from h)]
    omega
theorem hdB_take {m r : List UInt8} {k : Nat} (hk : 0 < k) (hm : m ≠ []) : hdB (m.take k ++ r) = hdB m := by
  cases m with
  | nil => exact absurd rfl hm
  | cons b m =>
    cases k with
    | zero => omega
    | succ k => rfl
theorem take_len {m : List UInt8} {k : Nat} (h : k ≤ m.length) : (m.take k).length = k := by rw [List.length_take]; omega
theorem run_loc {q : Int → Bool} (hq : q 32 = false) {m r : List UInt8} (hr : Sep r) : runN q (m.take (runN q m) ++ r) = runN q m := by
  rw [runN_sep q hq _ r hr (runN_all q m), take_len (runN_le q m)]
theorem run_take {q : Int → Bool} (hq : q 32 = false) {m r : List UInt8} (hr : Sep r) : (m.take (runN q m) ++ r).take (runN q (m.take (runN q m) ++ r)) = m.take (runN q m) ∧ (m.take (runN q m) ++ r).drop (runN q (m.take (runN q m) ++ r)) = r := by
  rw [run_loc hq hr]
  have := take_len (runN_le q m)
  refine ⟨?_, ?_⟩
  · rw [List.take_append_of_le_length (by omega), List.take_of_length_le (by omega)]
  · rw [List.drop_append_of_le_length (by omega), List.drop_eq_nil_of_le (by omega), List.nil_append]
/-- A quoted text is what it is by its own bytes. -/
theorem quoN_loc (rest : List UInt8) (hr : Sep rest) : ∀ (r : List UInt8) (al : Bool) (sd : List UInt8) (i t : Nat) (sd' : List UInt8) (t' : Nat), (al = true → t = i) → quoN al sd i t r = some (sd', t') → i ≤ t' ∧ t' ≤ i + r.length ∧ quoN al sd i t (r.take (t' - i) ++ rest) = some (sd', t')
  | [], al, sd, i, t, sd', t', ha, h => by
    unfold quoN at h
    by_cases c : al = true
    · rw [if_pos c] at h
      injection h with h
      injection h with h1 h2
      subst h1
      subst h2
      refine ⟨by rw [ha c]; exact Nat.le_refl _, by rw [ha c]; simp, ?_⟩
      rw [List.take_nil, List.nil_append]
      rcases hr with rfl | ⟨x, rfl⟩
      · unfold quoN; rw [if_pos c]
      · unfold quoN; rw [if_neg (by decide), if_pos c]
    · rw [if_neg c] at h; cases h
  | b :: r, al, sd, i, t, sd', t', ha, h => by
    unfold quoN at h
    by_cases c1 : ((b.toNat : Int) == 39) = true
    · rw [if_pos c1] at h
      by_cases c : al = true
      · rw [if_pos c] at h
        obtain ⟨h1, h2, h3⟩ := quoN_loc rest hr r _ _ _ _ _ _ (fun x => by cases x) h
        refine ⟨by omega, by simp only [List.length_cons]; omega, ?_⟩
        rw [show t' - i = (t' - (i + 1)) + 1 by omega, List.take_succ_cons, List.cons_append]
        unfold quoN
        rw [if_pos c1, if_pos c]
        exact h3
      · rw [if_neg c] at h
        obtain ⟨h1, h2, h3⟩ := quoN_loc rest hr r _ _ _ _ _ _ (fun _ => rfl) h
        refine ⟨by omega, by simp only [List.length_cons]; omega, ?_⟩
        rw [show t' - i = (t' - (i + 1)) + 1 by omega, List.take_succ_cons, List.cons_append]
        unfold quoN
        rw [if_pos c1, if_neg c]
        exact h3
    · rw [if_neg c1] at h
      by_cases c : al = true
      · rw [if_pos c] at h
        injection h with h
        injection h with h1 h2
        subst h1
        subst h2
        refine ⟨by rw [ha c]; exact Nat.le_refl _, by rw [ha c]; simp, ?_⟩
        rw [ha c, Nat.sub_self, List.take_zero, List.nil_append]
        rcases hr with rfl | ⟨x, rfl⟩
        · unfold quoN; rw [if_pos c]
        · unfold quoN; rw [if_neg (by decide), if_pos c]
      · rw [if_neg c] at h
        by_cases c2 : plnB (b.toNat : Int) = true
        · rw [if_pos c2] at h
          obtain ⟨h1, h2, h3⟩ := quoN_loc rest hr r _ _ _ _ _ _ (fun x => by cases x) h
          refine ⟨by omega, by simp only [List.length_cons]; omega, ?_⟩
          rw [show t' - i = (t' - (i + 1)) + 1 by omega, List.take_succ_cons, List.cons_append]
          unfold quoN
          rw [if_neg c1, if_neg c, if_pos c2]
          exact h3
        · rw [if_neg c2] at h; cases h
theorem hp2 (a b c d : UInt8) (r : List UInt8) : Lib.hasPrefix (a :: b :: r) [c, d] = (c == a && d == b) := by
  unfold Lib.hasPrefix
  simp [List.isPrefixOf]
theorem hp1 (a c d : UInt8) : Lib.hasPrefix [a] [c, d] = false := by
  unfold Lib.hasPrefix
  simp [List.isPrefixOf]
theorem sgn_two (a b : UInt8) (r : List UInt8) : sgnN (a :: b :: r) = if ((60 == a && 61 == b) || (62 == a && 61 == b) || (60 == a && 62 == b)) = true then 2 else if 0 ≤ Lib.indexByte sgnL a then 1 else 0 := by
  show (if (Lib.hasPrefix (a :: b :: r) [60, 61] || Lib.hasPrefix (a :: b :: r) [62, 61] || Lib.hasPrefix (a :: b :: r) [60, 62]) = true then 2 else if 0 ≤ Lib.indexByte sgnL a then 1 else 0) = _
  rw [hp2, hp2, hp2]
theorem sgn_one (a : UInt8) : sgnN [a] = if 0 ≤ Lib.indexByte sgnL a then 1 else 0 := by
  show (if (Lib.hasPrefix [a] [60, 61] || Lib.hasPrefix [a] [62, 61] || Lib.hasPrefix [a] [60, 62]) = true then 2 else if 0 ≤ Lib.indexByte sgnL a then 1 else 0) = _
  rw [hp1, hp1, hp1]
  rfl
theorem sgn_loc {m r : List UInt8} (hr : Sep r) (h : sgnN m ≠ 0) : sgnN (m.take (sgnN m) ++ r) = sgnN m := by
  cases m with
  | nil => exact absurd rfl h
  | cons a m =>
    cases m with
    | nil =>
      have e : sgnN [a] = 1 := by
        rw [sgn_one] at h ⊢
        by_cases c : 0 ≤ Lib.indexByte sgnL a
        · rw [if_pos c]
        · rw [if_neg c] at h; exact absurd rfl h
      rw [e]
      rcases hr with rfl | ⟨x, rfl⟩
      · exact e
      · show sgnN (a :: 32 :: x) = 1
        rw [sgn_one] at e
        rw [sgn_two, if_neg (by rw [show ((61 : UInt8) == 32) = false from rfl, show ((62 : UInt8) == 32) = false from rfl]; simp)]
        exact e
    | cons b m =>
      rw [sgn_two] at h ⊢
      by_cases c : ((60 == a && 61 == b) || (62 == a && 61 == b) || (60 == a && 62 == b)) = true
      · rw [if_pos c]
        show sgnN (a :: b :: r) = 2
        rw [sgn_two, if_pos c]
      · rw [if_neg c] at h ⊢
        by_cases c2 : 0 ≤ Lib.indexByte sgnL a
        · rw [if_pos c2]
          rcases hr with rfl | ⟨x, rfl⟩
          · show sgnN [a] = 1
            rw [sgn_one, if_pos c2]
          · show sgnN (a :: 32 :: x) = 1
            rw [sgn_two, if_neg (by rw [show ((61 : UInt8) == 32) = false from rfl, show ((62 : UInt8) == 32) = false from rfl]; simp), if_pos c2]
        · rw [if_neg c2] at h; exact absurd rfl h
theorem sgn_le (m : List UInt8) : sgnN m ≤ m.length := sgnN_le m
/-- A token is what it is by its own bytes: what stands behind it does nothing, if a blank is first. -/
theorem beg_loc {m r : List UInt8} (hr : Sep r) (hm : m ≠ []) (h : (begS m).2.2 = 0) : begS (m.take (begS m).2.1 ++ r) = begS m := by
  have hs := begS_size hm h
  have hd : hdB (m.take (begS m).2.1 ++ r) = hdB m := hdB_take hs.1 hm
  have e0 : begS (m.take (begS m).2.1 ++ r) = if letB (hdB m) = true then wordS (m.take (begS m).2.1 ++ r) else if digB (hdB m) = true then numS (m.take (begS m).2.1 ++ r) else if (hdB m == 39) = true then quotedS (m.take (begS m).2.1 ++ r) else if sgnN (m.take (begS m).2.1 ++ r) = 0 then bad 200 else ((5, (m.take (begS m).2.1 ++ r).take (sgnN (m.take (begS m).2.1 ++ r)), 0), sgnN (m.take (begS m).2.1 ++ r), 0) := by
    rw [← hd]
    rfl
  rw [e0]
  clear e0 hd
  have hi : innB 32 = false := rfl
  have hg : digB 32 = false := rfl
  obtain ⟨R, hR⟩ : ∃ R, R = begS m := ⟨_, rfl⟩
  rw [← hR] at h hs ⊢
  unfold begS at hR
  by_cases c1 : letB (hdB m) = true
  · rw [if_pos c1] at hR ⊢
    unfold wordS at hR ⊢
    cases hk : keyF (m.take (runN innB m)) with
    | some k =>
      rw [hk] at hR
      simp only at hR
      subst hR
      rw [(run_take hi hr).1, hk, run_loc hi hr]
    | none =>
      rw [hk] at hR
      simp only at hR
      by_cases c24 : 24 < (m.take (runN innB m)).length
      · rw [if_pos c24] at hR
        subst hR
        cases h
      · rw [if_neg c24] at hR
        subst hR
        simp only
        rw [(run_take hi hr).1, hk, run_loc hi hr]
        simp only
        rw [if_neg c24]
  · rw [if_neg c1] at hR ⊢
    by_cases c2 : digB (hdB m) = true
    · rw [if_pos c2] at hR ⊢
      unfold numS at hR ⊢
      by_cases cc : dgA 0 (m.take (runN digB m)) < 9223372036854775808 ∧ ¬ letH (m.drop (runN digB m)) = true
      · rw [if_pos cc] at hR
        subst hR
        simp only
        rw [(run_take hg hr).1, (run_take hg hr).2, run_loc hg hr, if_pos ⟨cc.1, by rw [hr.letH]; simp⟩]
      · rw [if_neg cc] at hR
        subst hR
        cases h
    · rw [if_neg c2] at hR ⊢
      by_cases c3 : (hdB m == 39) = true
      · rw [if_pos c3] at hR ⊢
        unfold quotedS at hR ⊢
        cases hq : quoN false [] 1 0 (m.drop 1) with
        | none =>
          rw [hq] at hR
          subst hR
          cases h
        | some x =>
          obtain ⟨sd, t⟩ := x
          rw [hq] at hR
          simp only at hR
          by_cases c64 : 64 < sd.length
          · rw [if_pos c64] at hR
            subst hR
            cases h
          · rw [if_neg c64] at hR
            subst hR
            simp only at hs ⊢
            obtain ⟨h1, h2, h3⟩ := quoN_loc r hr _ _ _ _ _ _ _ (fun x => by cases x) hq
            have e : (m.take t ++ r).drop 1 = (m.drop 1).take (t - 1) ++ r := by
              cases m with
              | nil => exact absurd rfl hm
              | cons b m =>
                obtain ⟨k, rfl⟩ : ∃ k, t = k + 1 := ⟨t - 1, by omega⟩
                rfl
            rw [e, h3]
            simp only
            rw [if_neg c64]
      · rw [if_neg c3] at hR ⊢
        by_cases c4 : sgnN m = 0
        · rw [if_pos c4] at hR
          subst hR
          cases h
        · rw [if_neg c4] at hR
          subst hR
          simp only
          rw [sgn_loc hr c4, if_neg c4]
          have := take_len (sgnN_le m)
          rw [List.take_append_of_le_length (by omega), List.take_of_length_le (by omega)]
/-- Nothing blank stands ahead of what begins a token. -/
theorem blk_loc {m r : List UInt8} {k : Nat} (hr : Sep r) (hm : m ≠ []) (hk : 0 < k) (h : blkN false m = 0) : blkN false (m.take k ++ r) = 0 := by
  obtain ⟨k, rfl⟩ : ∃ j, k = j + 1 := ⟨k - 1, by omega⟩
  cases m with
  | nil => exact absurd rfl hm
  | cons b m =>
    have h' : (if Lib.hasPrefix (b :: m) [45, 45] = true then blkN true m + 1 else if blkB (b.toNat : Int) = true then blkN false m + 1 else 0) = 0 := h
    have n1 : ¬ Lib.hasPrefix (b :: m) [45, 45] = true := fun x => by rw [if_pos x] at h'; omega
    have n2 : ¬ blkB (b.toNat : Int) = true := fun x => by rw [if_neg n1, if_pos x] at h'; omega
    show (if Lib.hasPrefix (b :: (m.take k ++ r)) [45, 45] = true then blkN true (m.take k ++ r) + 1 else if blkB (b.toNat : Int) = true then blkN false (m.take k ++ r) + 1 else 0) = 0
    have n3 : ¬ Lib.hasPrefix (b :: (m.take k ++ r)) [45, 45] = true := by
      intro x
      cases k with
      | zero =>
        rcases hr with rfl | ⟨y, rfl⟩
        · rw [List.take_zero, List.nil_append, hp1] at x; cases x
        · rw [List.take_zero, List.nil_append, hp2] at x; simp at x
      | succ k =>
        cases m with
        | nil =>
          rcases hr with rfl | ⟨y, rfl⟩
          · rw [List.take_nil, List.nil_append, hp1] at x; cases x
          · rw [List.take_nil, List.nil_append, hp2] at x; simp at x
        | cons c m =>
          apply n1
          rw [List.take_succ_cons, List.cons_append, hp2] at x
          rw [hp2]
          exact x
    rw [if_neg n3, if_neg n2]
/-- Behind blanks and remarks there are no more. -/
theorem blk_done : ∀ (rm : Bool) (m : List UInt8), blkN false (m.drop (blkN rm m)) = 0
  | _, [] => by simp [blkN]
  | true, b :: r => by
    show blkN false ((b :: r).drop (blkN ((b.toNat : Int) != 10) r + 1)) = 0
    rw [List.drop_succ_cons]
    exact blk_done _ r
  | false, b :: r => by
    have e : blkN false (b :: r) = if Lib.hasPrefix (b :: r) [45, 45] = true then blkN true r + 1 else if blkB (b.toNat : Int) = true then blkN false r + 1 else 0 := rfl
    by_cases c1 : Lib.hasPrefix (b :: r) [45, 45] = true
    · rw [e, if_pos c1, List.drop_succ_cons]
      exact blk_done true r
    · by_cases c2 : blkB (b.toNat : Int) = true
      · rw [e, if_neg c1, if_pos c2, List.drop_succ_cons]
        exact blk_done false r
      · rw [e, if_neg c1, if_neg c2, List.drop_zero, e, if_neg c1, if_neg c2]
/-- Blanks and remarks by themselves are blanks and remarks. -/
theorem blk_self : ∀ (rm : Bool) (m : List UInt8), blkN rm (m.take (blkN rm m)) = blkN rm m
  | rm, [] => by simp [blkN]
  | true, b :: r => by
    show blkN true ((b :: r).take (blkN ((b.toNat : Int) != 10) r + 1)) = blkN ((b.toNat : Int) != 10) r + 1
    rw [List.take_succ_cons]
    show blkN ((b.toNat : Int) != 10) _ + 1 = _
    rw [blk_self]
  | false, b :: r => by
    have e : ∀ r : List UInt8, blkN false (b :: r) = if Lib.hasPrefix (b :: r) [45, 45] = true then blkN true r + 1 else if blkB (b.toNat : Int) = true then blkN false r + 1 else 0 := fun _ => rfl
    by_cases c1 : Lib.hasPrefix (b :: r) [45, 45] = true
    · rw [e r, if_pos c1, List.take_succ_cons, e]
      have : Lib.hasPrefix (b :: r.take (blkN true r)) [45, 45] = true := by
        cases r with
        | nil => rw [hp1] at c1; cases c1
        | cons c r =>
          show Lib.hasPrefix (b :: (c :: r).take (blkN ((c.toNat : Int) != 10) r + 1)) [45, 45] = true
          rw [List.take_succ_cons, hp2]
          rw [hp2] at c1
          exact c1
      rw [if_pos this, blk_self]
    · by_cases c2 : blkB (b.toNat : Int) = true
      · rw [e r, if_neg c1, if_pos c2, List.take_succ_cons, e, if_pos c2, blk_self]
        have : ¬ Lib.hasPrefix (b :: r.take (blkN false r)) [45, 45] = true := by
          intro x
          have hb : b = 45 := by
            cases hr : r.take (blkN false r) with
            | nil => rw [hr, hp1] at x; cases x
            | cons c r' =>
              rw [hr, hp2] at x
              simp only [Bool.and_eq_true, beq_iff_eq] at x
              exact x.1.symm
          subst hb
          cases c2
        rw [if_neg this]
      · rw [e r, if_neg c1, if_neg c2, List.take_zero]
        rfl
end Go.Proofs.YtiipglmbfgmbbaaGreatDoor

namespace Go.Proofs.YtiipglmbfgmbbaaGreatDoor
open Go.RowKit Go.Shelf

theorem lex_blank {m : List UInt8} (h : blkN false m = m.length) (hl : m.length ≤ 1024) : lexF m = ([], 0, 0) := by
  unfold lexF
  rw [if_neg (by omega), tokL_S]
  have e : tkS m = [] := by
    unfold tkS
    rw [h, List.drop_length]
    unfold toksS
    rw [if_pos rfl]
  rw [e]
  rfl
/-- The token with which a text begins, by itself. -/
theorem lex_alone {m : List UInt8} (hm : m ≠ []) (hb : blkN false m = 0) (h : (begS m).2.2 = 0) (hl : (begS m).2.1 ≤ 1024) :
    lexF (m.take (begS m).2.1) = ([⟨(begS m).1.1, (begS m).1.2.1, (begS m).1.2.2, 0, (begS m).2.1⟩], 0, 0) := by
  have hs := begS_size hm h
  have L := beg_loc (r := []) (.inl rfl) hm h
  have B := blk_loc (r := []) (.inl rfl) hm hs.1 hb
  rw [List.append_nil] at L B
  have ln := take_len hs.2
  obtain ⟨k, hk⟩ : ∃ k, (begS m).2.1 = k := ⟨_, rfl⟩
  rw [hk] at hs L B ln hl ⊢
  have hp : m.take k ≠ [] := fun e => by rw [e] at ln; simp at ln; omega
  unfold lexF
  rw [if_neg (by omega), tokL_S]
  have e : tkS (m.take k) = [(⟨(begS m).1.1, (begS m).1.2.1, (begS m).1.2.2, 0, k⟩, 0)] := by
    unfold tkS
    rw [B, List.drop_zero, ln]
    unfold toksS
    rw [if_neg hp, L, if_pos h, hk, show (m.take k).drop k = [] from List.drop_eq_nil_of_le (by omega)]
    have e2 : blkN false [] = 0 := rfl
    rw [e2, Nat.add_zero, Nat.add_zero, show (m.take k).drop k = [] from List.drop_eq_nil_of_le (by omega)]
    have e3 : ∀ n p, toksS n p [] = [] := fun n p => by cases n <;> simp [toksS]
    rw [e3]
    unfold mkT
    rw [if_pos h, hk, Nat.zero_add]
  rw [e]
  rfl
/-- Tokens stand one behind the other, and blanks and remarks between them. -/
def Plc (l : List UInt8) : Nat → List Tk → Prop
  | e, [] => e ≤ l.length ∧ blkN false (l.drop e) = (l.drop e).length
  | e, t :: r => t.at_ = e + blkN false (l.drop e) ∧ t.at_ < t.to_ ∧ t.to_ ≤ l.length ∧ l.drop t.at_ ≠ [] ∧ begS (l.drop t.at_) = ((t.kind, t.text, t.num), t.to_ - t.at_, 0) ∧ Plc l t.to_ r
theorem plc_toks (l : List UInt8) : ∀ (n e : Nat), e ≤ l.length → l.length < e + n → (∀ x ∈ toksS n (e + blkN false (l.drop e)) (l.drop (e + blkN false (l.drop e))), x.2 = 0) → Plc l e ((toksS n (e + blkN false (l.drop e)) (l.drop (e + blkN false (l.drop e)))).map (·.1))
  | 0, e, h1, h2, _ => by omega
  | n + 1, e, h1, h2, h => by
    have hle := blkN_le false (l.drop e)
    rw [List.length_drop] at hle
    obtain ⟨p, hp⟩ : ∃ p, e + blkN false (l.drop e) = p := ⟨_, rfl⟩
    rw [hp] at h ⊢
    unfold toksS at h ⊢
    by_cases c : l.drop p = []
    · rw [if_pos c]
      have := congrArg List.length c
      rw [List.length_drop] at this
      simp only [List.length_nil] at this
      refine ⟨h1, ?_⟩
      rw [List.length_drop]
      omega
    · rw [if_neg c] at h ⊢
      by_cases he : (begS (l.drop p)).2.2 = 0
      · rw [if_pos he] at h ⊢
        have hs := begS_size c he
        rw [List.length_drop] at hs
        have e1 : mkT p (begS (l.drop p)) = (⟨(begS (l.drop p)).1.1, (begS (l.drop p)).1.2.1, (begS (l.drop p)).1.2.2, p, p + (begS (l.drop p)).2.1⟩, 0) := by unfold mkT; rw [if_pos he]
        rw [e1, List.drop_drop, List.drop_drop] at h ⊢
        obtain ⟨k, hk⟩ : ∃ k, (begS (l.drop p)).2.1 = k := ⟨_, rfl⟩
        rw [hk] at h hs ⊢
        rw [List.map_cons]
        refine ⟨hp.symm, by show p < p + k; omega, by show p + k ≤ l.length; omega, c, ?_, ?_⟩
        · show begS (l.drop p) = (((begS (l.drop p)).1.1, (begS (l.drop p)).1.2.1, (begS (l.drop p)).1.2.2), p + k - p, 0)
          rw [show p + k - p = k by omega]
          rw [← hk, ← he]
        · show Plc l (p + k) _
          have := plc_toks l n (p + k) (by omega) (by omega)
          rw [Nat.add_assoc p k] at this ⊢
          rw [Nat.add_assoc p k] at h
          exact this fun x hx => h x (List.mem_cons_of_mem _ hx)
      · rw [if_neg he] at h
        have := h _ (List.mem_cons_self ..)
        unfold mkT at this
        rw [if_neg he] at this
        exact absurd this he
theorem lexF_plc {l : List UInt8} {ts : List Tk} {a : Nat} (h : lexF l = (ts, 0, a)) : Plc l 0 ts ∧ ts.length ≤ 300 ∧ a = 0 ∧ l.length ≤ 1024 := by
  unfold lexF at h
  by_cases c : 1024 < l.length
  · rw [if_pos c] at h; cases h
  · rw [if_neg c, tokL_S] at h
    cases hg : lexG 0 (tkS l) with
    | some x =>
      obtain ⟨e, p⟩ := x
      rw [hg] at h
      simp only [Prod.mk.injEq] at h
      exact absurd h.2.1 (lexG_ne _ _ _ _ hg)
    | none =>
      rw [hg] at h
      simp only [Prod.mk.injEq] at h
      obtain ⟨h1, h2⟩ := lexG_none _ _ (by omega) hg
      have P := plc_toks l (l.length + 1) 0 (by omega) (by omega)
      rw [List.drop_zero, Nat.zero_add] at P
      refine ⟨by rw [← h.1]; exact P h1, by rw [← h.1, List.length_map]; omega, h.2.2.symm, by omega⟩
/-- Where the token ahead of number i ends. -/
def endF (ts : List Tk) : Nat → Nat
  | 0 => 0
  | i + 1 => (ts.getD i (errT 0)).to_
theorem plc_at {l : List UInt8} {ts : List Tk} (h : Plc l 0 ts) : ∀ i, i ≤ ts.length → Plc l (endF ts i) (ts.drop i)
  | 0, _ => h
  | i + 1, hi => by
    have hi' : i < ts.length := by omega
    have := plc_at h i (by omega)
    rw [List.drop_eq_getElem_cons hi'] at this
    have e : endF ts (i + 1) = ts[i].to_ := by simp [endF, List.getD, hi']
    rw [e]
    exact this.2.2.2.2.2
/-- What LexPlaces asks of one token. -/
structure Pl1 (l : List UInt8) (e : Nat) (t : Tk) : Prop where
  a : e ≤ t.at_
  b : t.at_ < t.to_
  c : t.to_ ≤ l.length
  gap : lexF (cutF l e t.at_) = ([], 0, 0)
  own : lexF (cutF l t.at_ t.to_) = ([⟨t.kind, t.text, t.num, 0, t.to_ - t.at_⟩], 0, 0)
  core : begS (l.drop t.at_) = ((t.kind, t.text, t.num), t.to_ - t.at_, 0)
theorem cut_take (l : List UInt8) (p k : Nat) : cutF l p (p + k) = (l.drop p).take k := by
  unfold cutF
  rw [List.drop_take]
  congr 1
  omega
theorem plc_one {l : List UInt8} {ts : List Tk} (hl : l.length ≤ 1024) (h : Plc l 0 ts) {i : Nat} (hi : i < ts.length) : Pl1 l (endF ts i) (ts.getD i (errT 0)) := by
  have := plc_at h i (by omega)
  rw [List.drop_eq_getElem_cons hi] at this
  have e : ts.getD i (errT 0) = ts[i] := by simp [List.getD, hi]
  rw [e]
  obtain ⟨t, ht⟩ : ∃ t, ts[i] = t := ⟨_, rfl⟩
  rw [ht] at this ⊢
  obtain ⟨h1, h2, h3, h4, h5, -⟩ := this
  have hb : blkN false (l.drop t.at_) = 0 := by
    rw [h1, ← List.drop_drop]
    exact blk_done false _
  refine ⟨by omega, h2, h3, ?_, ?_, h5⟩
  · rw [h1, cut_take]
    have s := blk_self false (l.drop (endF ts i))
    have ln := take_len (blkN_le false (l.drop (endF ts i)))
    exact lex_blank (by rw [s, ln]) (by rw [ln]; have := blkN_le false (l.drop (endF ts i)); rw [List.length_drop] at this; omega)
  · have e2 : cutF l t.at_ t.to_ = (l.drop t.at_).take (t.to_ - t.at_) := by
      rw [← cut_take]
      congr 1
      omega
    have := lex_alone h4 hb (by rw [h5]) (by rw [h5]; show t.to_ - t.at_ ≤ 1024; omega)
    rw [h5] at this
    rw [e2]
    exact this
theorem plc_end {l : List UInt8} {ts : List Tk} (hl : l.length ≤ 1024) (h : Plc l 0 ts) : endF ts ts.length ≤ l.length ∧ lexF (l.drop (endF ts ts.length)) = ([], 0, 0) := by
  have := plc_at h ts.length (Nat.le_refl _)
  rw [List.drop_length] at this
  exact ⟨this.1, lex_blank this.2 (by rw [List.length_drop]; omega)⟩
/-- Where a text has no tokens, it is told within it. -/
theorem toksS_at : ∀ (n p : Nat) (m : List UInt8), ∀ x ∈ toksS n p m, x.1.at_ < p + m.length
  | 0, _, _, x, hx => by cases hx
  | n + 1, p, m, x, hx => by
    unfold toksS at hx
    by_cases c : m = []
    · rw [if_pos c] at hx; cases hx
    · have hl : 0 < m.length := List.length_pos_iff.2 c
      have ea : (mkT p (begS m)).1.at_ = p := by unfold mkT; split <;> rfl
      rw [if_neg c] at hx
      by_cases he : (begS m).2.2 = 0
      · have hs := begS_size c he
        rw [if_pos he] at hx
        rcases List.mem_cons.1 hx with rfl | hx
        · omega
        · have h1 := toksS_at n _ _ x hx
          have h2 := blkN_le false (m.drop (begS m).2.1)
          rw [List.length_drop] at h1 h2
          omega
      · rw [if_neg he] at hx
        rcases List.mem_cons.1 hx with rfl | hx
        · omega
        · cases hx
theorem lexG_at (N : Nat) : ∀ (S : List (Tk × Int)) (k : Nat) (e : Int) (a : Nat), (∀ x ∈ S, x.1.at_ < N) → lexG k S = some (e, a) → a < N
  | [], _, _, _, _, h => by cases h
  | (t, e') :: r, k, e, a, hN, h => by
    have h0 := hN _ (List.mem_cons_self ..)
    unfold lexG at h
    by_cases c : e' ≠ 0
    · rw [if_pos c] at h
      injection h with h
      injection h with h1 h2
      rw [← h2]
      exact h0
    · rw [if_neg c] at h
      by_cases c2 : k = 300
      · rw [if_pos c2] at h
        injection h with h
        injection h with h1 h2
        rw [← h2]
        exact h0
      · rw [if_neg c2] at h
        exact lexG_at N r _ _ _ (fun x hx => hN x (List.mem_cons_of_mem _ hx)) h
/-- What Lex answers: tokens, or nothing and why. -/
theorem lexF_cases (l : List UInt8) : (∃ ts, lexF l = (ts, 0, 0)) ∨ ∃ e a, lexF l = ([], e, a) ∧ e ≠ 0 ∧ a ≤ l.length := by
  unfold lexF
  by_cases c : 1024 < l.length
  · rw [if_pos c]
    exact .inr ⟨3, 0, rfl, by decide, Nat.zero_le _⟩
  · rw [if_neg c, tokL_S]
    cases hg : lexG 0 (tkS l) with
    | some x =>
      obtain ⟨e, p⟩ := x
      refine .inr ⟨e, p, rfl, lexG_ne _ _ _ _ hg, Nat.le_of_lt (lexG_at l.length _ _ _ _ (fun x hx => ?_) hg)⟩
      unfold tkS at hx
      have h1 := toksS_at _ _ _ x hx
      have h2 := blkN_le false l
      rw [List.length_drop] at h1
      omega
    | none => exact .inl ⟨_, rfl⟩
end Go.Proofs.YtiipglmbfgmbbaaGreatDoor
