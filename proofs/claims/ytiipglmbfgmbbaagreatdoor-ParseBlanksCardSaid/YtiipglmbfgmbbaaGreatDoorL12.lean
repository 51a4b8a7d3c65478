/-
  The tokens of a text: the program's Lex.
-/
import Derived.Test.YtiipglmbfgmbbaaGreatDoorL11
namespace Go.Proofs.YtiipglmbfgmbbaaGreatDoor
open Go.RowKit Go.Shelf
attribute [local go_sem] Oper.semAt_some

/-- What is wrong first: a token, or one too many. -/
def lexG : Nat → List (Tk × Int) → Option (Int × Nat)
  | _, [] => none
  | k, (t, e) :: r => if e ≠ 0 then some (e, t.at_) else if k = 300 then some (3, t.at_) else lexG (k + 1) r
/-- The tokens of a text; or why it has none, and where. -/
def lexF (l : List UInt8) : List Tk × Int × Nat :=
  if 1024 < l.length then ([], 3, 0) else match lexG 0 (toksL l) with
  | some (e, a) => ([], e, a)
  | none => ((toksL l).map (·.1), 0, 0)

theorem World.ownsRow.below {w w' : World} {base e size n : Nat} {v : Value} {xs : List Value} (h : w.ownsRow base e size v n xs) (hb : Below w.heap.size w w') : w'.ownsRow base e size v n xs := by
  refine ⟨h.1, ?_⟩
  rcases h.2 with hv | ⟨g, cap, cur, hv, hbs, hh, r⟩
  · exact .inl hv
  · exact .inr ⟨g, cap, cur, hv, hbs, (hb.block g (Blk.lt (t := e) hh)).trans hh, r⟩
/-- Tokens as they lie. -/
def tkRow : List Tk → List Value
  | [] => []
  | t :: r => t.cells ++ tkRow r
theorem tkRow_append : ∀ a b : List Tk, tkRow (a ++ b) = tkRow a ++ tkRow b
  | [], _ => rfl
  | t :: a, b => by rw [List.cons_append, tkRow, tkRow_append a b, tkRow, List.append_assoc]
theorem tkRow_len : ∀ a : List Tk, (tkRow a).length = a.length * 5
  | [] => rfl
  | t :: a => by rw [tkRow, List.length_append, tkRow_len a, List.length_cons]; simp [Tk.cells]; omega
/-- Tokens owned, in a row from base on. -/
def Tks (w : World) (base : Nat) (A : Option Addr) (n c : Nat) (ts : List Tk) : Prop := w.ownsRow base 50 5 (.slice A n c) n (tkRow ts)
section
variable {w w' : World} {base n c d : Nat} {A : Option Addr} {ts : List Tk}
theorem Tks.len (h : Tks w base A n c ts) : ts.length = n := by
  have := h.1
  rw [tkRow_len] at this
  omega
theorem Tks.below (h : Tks w base A n c ts) (hb : Below w.heap.size w w') : Tks w' base A n c ts := World.ownsRow.below h hb
theorem Tks.off (h : Tks w base A n c ts) (hA : NoC d w) (ho : Off d w w') : Tks w' base A n c ts := by
  refine ⟨h.1, ?_⟩
  rcases h.2 with hv | ⟨g, cap, cur, hv, hbs, hh, r⟩
  · exact .inl hv
  · exact .inr ⟨g, cap, cur, hv, hbs, ho.blk hA (t := 50) hh, r⟩
theorem Tks.ne (h : Tks w base A n c ts) (hA : Shut d w) : ∀ k, (Value.slice A n c).ownBlock = some k → k ≠ d ∧ k ≠ d + 1 := fun k hk => by
  rcases h.2 with ⟨hv, _⟩ | ⟨g, cap, cur, hv, hbs, hh, r⟩
  · rw [hv] at hk; cases hk
  · rw [hv] at hk
    injection hk with hk
    subst hk
    exact hA.ne hh
theorem Tks.apart {g : Nat} {t : TypeId} {cs : Array Value} (h : Tks w base A n c ts) (hb : Blk w g t cs) (ht : t ≠ 50) : ∀ k, (Value.slice A n c).ownBlock = some k → k ≠ g := fun k hk e => by
  rcases h.2 with ⟨hv, _⟩ | ⟨g', cap, cur, hv, hbs, hh, r⟩
  · rw [hv] at hk; cases hk
  · rw [hv] at hk
    injection hk with hk
    subst hk
    subst e
    unfold Blk at hb
    rw [hb] at hh
    injection hh with hh
    injection hh with _ h2 _
    exact ht h2
theorem Tks.lt (h : Tks w base A n c ts) : ∀ k, (Value.slice A n c).ownBlock = some k → base ≤ k ∧ k < w.heap.size := fun k hk => by
  rcases h.2 with ⟨hv, _⟩ | ⟨g', cap, cur, hv, hbs, hh, r⟩
  · rw [hv] at hk; cases hk
  · rw [hv] at hk
    injection hk with hk
    subst hk
    exact ⟨hbs, (Array.getElem?_eq_some_iff.1 hh).1⟩
theorem Tks.putD {D : Nat} {o : Obj} (h : Tks w base A n c ts) (hD : w.heap[D]? = some o) (ho : o.isCells = false) (o' : Obj) : Tks (w.putObj D o') base A n c ts := by
  refine ⟨h.1, ?_⟩
  rcases h.2 with hv | ⟨g, cap, cur, hv, hbs, hh, r⟩
  · exact .inl hv
  · refine .inr ⟨g, cap, cur, hv, hbs, (World.putObj_heap_other (fun e => ?_)).trans hh, r⟩
    subst e
    rw [hD] at hh
    injection hh with hh
    subst hh
    cases ho
theorem Tks.set (h : Tks w base A n c ts) {p : Addr} {t : TypeId} {cs : Array Value} (hp : Blk w p.block t cs) (ht : t ≠ 50) (u : Value) : Tks (w.setCell p u) base A n c ts := by
  refine ⟨h.1, ?_⟩
  rcases h.2 with hv | ⟨g, cap, cur, hv, hbs, hh, r⟩
  · exact .inl hv
  · refine .inr ⟨g, cap, cur, hv, hbs, Blk.far (t := 50) (cs := cur) hh (fun e => ?_) u, r⟩
    subst e
    unfold Blk at hp
    rw [hh] at hp
    injection hp with hp
    injection hp with _ h2 _
    exact ht h2.symm
theorem Tks.form (h : Tks w base A n c ts) : (A = none ∧ n = 0 ∧ c = 0) ∨ ∃ g, A = some ⟨g, 0, none⟩ ∧ base ≤ g ∧ g < w.heap.size ∧ n ≤ c := by
  rcases h.2 with ⟨hv, h0⟩ | ⟨g, cap, cur, hv, hbs, hh, h1, _⟩
  · injection hv with a b c'
    exact .inl ⟨a, b, c'⟩
  · injection hv with a b c'
    exact .inr ⟨g, a, hbs, (Array.getElem?_eq_some_iff.1 hh).1, by omega⟩
end
theorem tok_info : (Tryz.prog.info? 50).map (fun i => (i.zero, i.size, i.bytes)) = some (some (.agg #[.int .i64 0, .string ⟨#[]⟩, .int .i64 0, .int .i64 0, .int .i64 0]), 5, 48) := by kernel_rfl
theorem tok_parts : ∃ i : TypeInfo, Tryz.prog.info? 50 = some i ∧ i.zero = some (.agg #[.int .i64 0, .string ⟨#[]⟩, .int .i64 0, .int .i64 0, .int .i64 0]) ∧ i.size = 5 ∧ i.bytes = 48 := by
  obtain ⟨i, hi, h⟩ := Option.map_eq_some_iff.1 tok_info
  simp only [Prod.mk.injEq] at h
  exact ⟨i, hi, h.1, h.2.1, h.2.2⟩
/-- One more token, inside a round. -/
theorem append_tokIn {F : Fence} {n : Nat} {w : World} {ops : Array Oper} {rest : List Oper} {o : Oper} {a : Act} {Q : Exit → Act → World → Prop} (hgd : o.guard = none) (s x : Operand)
    (ho : o.op = .call { callee := .builtin .append, args := #[s, x], argTypes := #[42, 42] }) (base : Nat) (A : Option Addr) (k c : Nat) (ts : List Tk) (hs : a.eval s = .slice A k c) (hown : Tks w base A k c ts)
    (t : Tk) (hx : a.eval x = .slice (some ⟨w.heap.size, 0, none⟩) 1 1) (hsum : k + 1 ≤ 1000000) (hbase : base ≤ w.heap.size)
    (h : ∀ A2 c2 w', Tks w' base A2 (k + 1) c2 (ts ++ [t]) → (w.alloc (.cells t.cells.toArray 50)).grownBy w' (Value.slice A k c).ownBlock → wpListIn F n Tryz.prog ops Q rest (a.put o.dst (.slice A2 (k + 1) c2)) w') :
    wpListIn F n Tryz.prog ops Q (o :: rest) a (w.alloc (.cells t.cells.toArray 50)) := by
  obtain ⟨i0, hi, hz0, hz1, hz2⟩ := tok_parts
  have ho' : Tks (w.alloc (.cells t.cells.toArray 50)) base A k c ts := hown.below ((Below.refl _ _).alloc (Nat.le_refl _) _)
  refine wpListIn_append_own _ hgd s x 42 ho base 50 i0 _ 5 48 Tryz.underlying42 hi hz0 hz1 hz2 rfl (by decide) _ k _ hs ho' ⟨w.heap.size, 0, none⟩ 1 1 t.cells hx rfl ?_ (by simp [Value.oneCell', Tk.cells]) (by unfold maxLen; omega) (by omega) (by simp; omega) ?_
  · intro j u hj
    rw [Addr.add_lit, Nat.zero_add, ← hj]
    rw [(Blk.new w 50 t.cells.toArray).cell j]
    simp
  · intro v' w' hown' hg _
    have e : tkRow ts ++ t.cells = tkRow (ts ++ [t]) := by rw [tkRow_append]; simp [tkRow]
    rw [e] at hown'
    obtain ⟨A2, c2, rfl⟩ : ∃ A2 c2, v' = .slice A2 (k + 1) c2 := by
      rcases hown'.2 with ⟨_, h0⟩ | ⟨g, cap, cur, hv, _⟩
      · omega
      · exact ⟨_, _, hv⟩
    exact h A2 c2 w' hown' hg

theorem resLx {fn : Func} (h : fn.results = #[.cell 2 42, .cell 3 26]) (tmps : Array Value) (w : World) (g g2 : Nat) (v : Value) (i j : Int)
    (hp : tmps.getD 2 undef = .pointer (some ⟨g, 0, none⟩)) (hg : Blk w g 42 #[v]) (hp2 : tmps.getD 3 undef = .pointer (some ⟨g2, 0, none⟩)) (hg2 : Blk w g2 26 #[.int .i64 i, .int .i64 j]) :
    (results fn tmps).run Tryz.prog w = .ok (.tuple #[v, .agg #[.int .i64 i, .int .i64 j]]) w := by
  have hp' : tmps[2]?.getD undef = .pointer (some ⟨g, 0, none⟩) := by simpa using hp
  have hp2' : tmps[3]?.getD undef = .pointer (some ⟨g2, 0, none⟩) := by simpa using hp2
  have d0 : w.cell? ⟨g2, 0, none⟩ = some (.int .i64 i) := hg2.cell 0
  have d1 : w.cell? ⟨g2, 1, none⟩ = some (.int .i64 j) := hg2.cell 1
  have e0 : w.cell? ⟨g, 0, none⟩ = some v := hg.cell 0
  simp [results, h, hp', hp2', go_sem, e0, d0, d1]
/-- What Lex answers. -/
def Lexd (w : World) (r : List Tk × Int × Nat) (e : Ending) (w' : World) : Prop :=
  ∃ A n c, e = .returned (.tuple #[.slice A n c, .agg #[.int .i64 r.2.1, .int .i64 (r.2.2 : Int)]]) ∧ Tks w' w.heap.size A n c r.1 ∧ Below w.heap.size w w'
theorem toksF_len : ∀ (n : Nat) (l : List UInt8) (p : Nat), (toksF n l p).length ≤ n
  | 0, _, _ => Nat.le_refl _
  | n + 1, l, p => by
    unfold toksF
    split
    · split
      · have := toksF_len n l (blkE l (begF l p).1.to_)
        simpa using this
      · simp
    · simp

set_option maxRecDepth 100000 in
set_option maxHeartbeats 8000000 in
theorem lex_any (l : List UInt8) (hl : l.length ≤ 1000000) (w : World) (hG : Gl w) : Calls Tryz.prog 13 #[tx l] w (Lexd w (lexF l)) := by
  obtain ⟨g, hg⟩ : ∃ g, w.heap.size = g := ⟨_, rfl⟩
  by_cases hlong : 1024 < l.length
  · have hF : lexF l = ([], 3, 0) := by unfold lexF; rw [if_pos hlong]
    rw [hF]
    have d1 : (1024 : Int) < (l.length : Int) := by omega
    clear hF hG
    go_enter Tryz.func13, Tryz.ntmps13
    go_wp2
    have r1 : Blk ((w.alloc (.cells #[.slice none 0 0] 42)).alloc (.cells #[.int .i64 3, .int .i64 0] 26)) g 42 #[.slice none 0 0] := (Blk.fresh hg.symm).alloc _
    have r2 : Blk ((w.alloc (.cells #[.slice none 0 0] 42)).alloc (.cells #[.int .i64 3, .int .i64 0] 26)) (g + 1) 26 #[.int .i64 3, .int .i64 0] := Blk.fresh (by simp [hg])
    have r3 : Below w.heap.size w ((w.alloc (.cells #[.slice none 0 0] 42)).alloc (.cells #[.int .i64 3, .int .i64 0] 26)) := ((Below.refl _ _).alloc (Nat.le_refl _) _).alloc (by simp) _
    exact bodyPost_ret (resLx rfl _ _ g (g + 1) _ _ _ rfl r1 rfl r2) rfl ⟨none, 0, 0, rfl, World.ownsRow_nil _ _ _ _, r3⟩
  · have LF : Hid (∀ e a, lexG 0 (toksL l) = some (e, a) → lexF l = ([], e, a)) := Lib.hid (fun e a h => by unfold lexF; rw [if_neg hlong, h])
    have LN : Hid (lexG 0 (toksL l) = none → lexF l = ((toksL l).map (·.1), 0, 0)) := Lib.hid (fun h => by unfold lexF; rw [if_neg hlong, h])
    have d1 : decide ((1024 : Int) < (l.length : Int)) = false := decide_eq_false (by omega)
    have TK := tokens1_keep 8 (by omega) l hl
    have SL : Hid ((toksL l).length ≤ 1025) := Lib.hid (by have := toksF_len (l.length + 1) l (blkE l 0); unfold toksL; omega)
    generalize toksL l = S at *
    generalize lexF l = RF at *
    refine (callsIn_wide (n := 9)).1 ?_
    refine callsIn_of_wp_marks Tryz.func13 rfl trivial ?_ rfl
    simp only [Tryz.ntmps13, List.size_toArray, List.length_cons, List.length_nil, Nat.reduceAdd, Nat.reduceSub, Array.replicate_succ, Array.replicate_zero, List.push_toArray, List.append_toArray, List.nil_append, List.cons_append]
    gi_wp2_with (refine ⟨trivial, ?_⟩; gi_at_call 31; refine (callsIn_wide.2 (tokens_any _ _)).mono ?_; rintro e w' ⟨rfl, rfl⟩)
    obtain ⟨W0, hW0⟩ : ∃ W0, ((((w.alloc (.cells #[.slice none 0 0] 42)).alloc (.cells #[.int .i64 0, .int .i64 0] 26)).alloc (.cells #[.slice none 0 0] 42)).alloc (.cells #[tx l] 9)) = W0 := ⟨_, rfl⟩
    have b0 : Blk W0 g 42 #[.slice none 0 0] := by rw [← hW0]; exact (((Blk.fresh hg.symm).alloc _).alloc _).alloc _
    have b1 : Blk W0 (g + 1) 26 #[.int .i64 0, .int .i64 0] := by rw [← hW0]; exact ((Blk.fresh (by simp [hg])).alloc _).alloc _
    have b2 : Blk W0 (g + 2) 42 #[.slice none 0 0] := by rw [← hW0]; exact (Blk.fresh (by simp [hg])).alloc _
    have b3 : Blk W0 (g + 3) 9 #[tx l] := by rw [← hW0]; exact Blk.fresh (by simp [hg])
    have hb0 : Below g w W0 := by rw [← hW0, ← hg]; exact ((((Below.refl _ _).alloc (Nat.le_refl _) _).alloc (by simp) _).alloc (by simp; omega) _).alloc (by simp; omega) _
    have hs0 : W0.heap.size = g + 4 := by rw [← hW0, ← hg]; simp
    have G7 : 9 ≤ g := by rw [← hg]; exact hG.lt
    have GH := Lib.hid hG
    rw [hW0]
    clear hW0 hG
    refine wpIn_rangeFunc_keep rfl (by omega) (gf := 59) (lb := #[.pointer (some ⟨g + 3, 0, none⟩)]) rfl trivial (enters_of Tryz.func59 (by kernel_rfl) rfl)
      (TK (g + 3) W0) (fun _ => rfl)
      (fun k W => Hid (lexG 0 S = lexG k (S.drop k)) ∧ Hid (k ≤ 300) ∧ Blk W g 42 #[.slice none 0 0] ∧ Blk W (g + 1) 26 #[.int .i64 0, .int .i64 0] ∧ (∃ A n c, Blk W (g + 2) 42 #[.slice A n c] ∧ Tks W g A n c ((S.take k).map (·.1))) ∧ Blk W (g + 3) 9 #[tx l] ∧ Below g w W)
      (fun c k W => c = .ret ∧ ∃ (e : Int) (a : Nat), Hid (lexG 0 S = some (e, a)) ∧ Blk W g 42 #[.slice none 0 0] ∧ Blk W (g + 1) 26 #[.int .i64 e, .int .i64 (a : Int)] ∧ Below g w W)
      (fun k A B hs hN ho => by
        obtain ⟨h0, h1, h2, h3, ⟨A', n, c, h4, h5⟩, h6, h7⟩ := hs
        exact ⟨h0, h1, ho.blk hN h2, ho.blk hN h3, ⟨A', n, c, ho.blk hN h4, h5.off hN ho⟩, ho.blk hN h6, h7.trans (ho.below (by omega) (by have := h2.lt; omega))⟩)
      (fun c k A B hs hN ho => by
        obtain ⟨h0, e, a, h1, h2, h3, h4⟩ := hs
        exact ⟨h0, e, a, h1, ho.blk hN h2, ho.blk hN h3, h4.trans (ho.below (by omega) (by have := h2.lt; omega))⟩)
      ⟨Lib.hid rfl, Lib.hid (by omega), b0, b1, ⟨none, 0, 0, b2, World.ownsRow_nil _ _ _ _⟩, b3, hb0⟩ (fun k A hs => ⟨hs.2.2.2.2.2.1, GH.out.below hs.2.2.2.2.2.2 G7⟩)
      (fun k a W => ∃ q A n c, Blk W (g + 2) 42 #[.slice A n c] ∧ (Value.slice A n c).ownBlock ≠ some q ∧ Blk W q 50 (S.getD k (errT 0, 0)).1.cells.toArray ∧ a = { tmps := #[tx l, undef, .pointer (some ⟨g, 0, none⟩), .pointer (some ⟨g + 1, 0, none⟩), .pointer (some ⟨g + 1 + 1, 0, none⟩), .pointer (some ⟨q, 0, none⟩), .int .i64 (S.getD k (errT 0, 0)).2, tx l, .int .i64 (l.length : Int), .bool false, undef, tx l, .func (.func 59) #[] #[.pointer (some ⟨g + 1 + 1 + 1, 0, none⟩)], tkV (S.getD k (errT 0, 0)).1, .int .i64 (S.getD k (errT 0, 0)).2, undef, undef, undef, undef, undef, undef, undef, undef, undef, undef, undef, undef, undef, undef, undef, undef, undef, undef, undef], defers := [] })
      (fun k a X r o o' hs hr ho => by
        obtain ⟨q, A, n, c, h1, h2, h3, h4⟩ := hs
        exact ⟨q, A, n, c, h1.putR hr ho o', h2, h3.putR hr ho o', h4⟩) ?assign ?body ?done ?stop
    case assign =>
      intro lb k W hI hsz hsh hk
      obtain ⟨i0, i1, i2, i3, ⟨A, n, c, i4, i5⟩, i6, i7⟩ := hI
      obtain ⟨⟨⟨k0, tt, nn, aa, to_⟩, er⟩, hr⟩ : ∃ r, S.getD k (errT 0, 0) = r := ⟨_, rfl⟩
      simp only [tkE, hr, tkV, Tk.cells]
      gi_wp2
      exact ⟨(Below.refl _ _).alloc (Nat.le_refl _) _, W.heap.size, A, n, c, i4.alloc _, fun e => by have := (i5.lt _ e).2; omega, Blk.new _ _ _, rfl⟩
    case body =>
      rintro lb k a1 V0 W ⟨i0, i1, i2, i3, ⟨A, n, c, i4, i5⟩, i6, i7⟩ hbV ⟨q, A', n', c', j4, jq, jb, rfl⟩ hsz hsh hk
      rw [hs0] at hsz hsh ⊢
      obtain ⟨rfl, rfl, rfl⟩ : A' = A ∧ n' = n ∧ c' = c := by
        have h := (show W.heap[g + 2]? = _ from j4).symm.trans (i4.below hbV i4.lt)
        simpa using h
      have nk : n' = k := by have := i5.len; rw [List.length_map, List.length_take] at this; omega
      have e : S.drop k = S[k] :: S.drop (k + 1) := List.drop_eq_getElem_cons hk
      have eg : S.getD k (errT 0, 0) = S[k] := by simp [List.getD, hk]
      have et : (S.take (k + 1)).map (·.1) = (S.take k).map (·.1) ++ [S[k].1] := by rw [List.take_succ_eq_append_getElem hk, List.map_append]; rfl
      rw [eg] at jb ⊢
      have ST : Hid (lexG k (S.drop k) = lexG k (S[k] :: S.drop (k + 1))) := Lib.hid (by rw [← e])
      have I5 := Lib.hid (i5.below hbV)
      have NE := Lib.hid (i5.ne hsh)
      have LT5 := Lib.hid i5.lt
      have I2 := Lib.hid (i2.below hbV i2.lt)
      have I3 := Lib.hid (i3.below hbV i3.lt)
      have I6 := Lib.hid (i6.below hbV i6.lt)
      have I7 := Lib.hid (i7.trans (hbV.mono (by have := i2.lt; omega)))
      have V4 : g + 6 ≤ V0.heap.size := by omega
      have VW := hbV.size
      have SH : Shut (g + 4) W := by
        obtain ⟨⟨o, h1, h2⟩, o', h3, h4⟩ := hsh
        exact ⟨⟨o, (hbV.block _ (by omega)).trans h1, h2⟩, o', (hbV.block _ (by omega)).trans h3, h4⟩
      have K1 := i1.out
      clear i5 i2 i3 i6 i7 e eg hbV i4 hsh
      obtain ⟨⟨⟨k0, tt, nn, aa, to_⟩, er⟩, hr⟩ : ∃ r, S[k] = r := ⟨_, rfl⟩
      rw [hr] at jb ST et ⊢
      have z0 : W.cell? ⟨q, 0, none⟩ = some (.int .i64 k0) := jb.cell 0
      have z1 : W.cell? ⟨q, 1, none⟩ = some (tx tt) := jb.cell 1
      have z2 : W.cell? ⟨q, 2, none⟩ = some (.int .i64 nn) := jb.cell 2
      have z3 : W.cell? ⟨q, 3, none⟩ = some (.int .i64 (aa : Int)) := jb.cell 3
      have z4 : W.cell? ⟨q, 4, none⟩ = some (.int .i64 (to_ : Int)) := jb.cell 4
      have x0 : W.cell? ⟨g, 0, none⟩ = some (.slice none 0 0) := I2.out.cell 0
      have y0 : W.frozen? ⟨g, 0, none⟩ = false := I2.out.frozen 0
      have x1 : W.cell? ⟨g + 1, 0, none⟩ = some (.int .i64 0) := I3.out.cell 0
      have y1 : W.frozen? ⟨g + 1, 0, none⟩ = false := I3.out.frozen 0
      have x2 : W.cell? ⟨g + 1, 1, none⟩ = some (.int .i64 0) := I3.out.cell 1
      have y2 : W.frozen? ⟨g + 1, 1, none⟩ = false := I3.out.frozen 1
      have x3 : W.cell? ⟨g + 1 + 1, 0, none⟩ = some (.slice A' n' c') := j4.cell 0
      have y3 : W.frozen? ⟨g + 1 + 1, 0, none⟩ = false := j4.frozen 0
      clear hr
      by_cases he : er = 0
      · subst he
        by_cases hk3 : k = 300
        · subst hk3
          subst nk
          have st : Hid (lexG 0 S = some (3, aa)) := Lib.hid (by rw [i0.out, ST.out]; simp [lexG])
          clear i0 ST et
          gi_wp2_with fail
          have hmx : Tryz.prog.follows .mixedOrders = true := by kernel_rfl
          gi_region_with_o (fail)
          all_goals gi_wp2
          all_goals exact ⟨⟨(Below.heap_setCell _ _ _ _ (by simp <;> omega)).trans ((Below.heap_setCell _ _ _ _ (by simp <;> omega)).trans (Below.heap_setCell _ _ _ _ (by simp <;> omega))), (Below.heap_setCell _ _ _ _ (by simp <;> omega)).trans ((Below.heap_setCell _ _ _ _ (by simp <;> omega)).trans (Below.heap_setCell _ _ _ _ (by simp <;> omega)))⟩, rfl, _, _, st, ((I2.out.set_ 0 _).far (by simp) _).far (by simp) _, ((I3.out.far (by simp) _).set_ 0 _).set_ 1 _, (((I7.out.setCell (p := ⟨g, 0, none⟩) (by simp) _).setCell (p := ⟨g + 1, 0, none⟩) (by simp) _).setCell (p := ⟨g + 1, 1, none⟩) (by simp) _).drew⟩
        · subst nk
          have k3 : n' < 300 := by omega
          have st : Hid (lexG 0 S = lexG (n' + 1) (S.drop (n' + 1))) := Lib.hid (by rw [i0.out, ST.out]; simp [lexG, hk3])
          have nk3 : ((n' : Int) == 300) = false := by simp; omega
          have SLK := SL.out
          clear i0 ST
          gi_wp2_with (gi_at_builtin; refine append_tokIn rfl (.tmp 28) (.tmp 30) rfl g A' n' c' ((S.take n').map (·.1)) rfl I5.out ⟨k0, tt, nn, aa, to_⟩ rfl (by omega) (by omega) ?_; intro A2 c2 w5 ho5 hg5; have B5 := Lib.hid ((hg5.block (g + 2) (by simp; omega) (fun e => (I5.out.apart j4 (by decide)) (g + 2) e.symm rfl)).trans (j4.alloc _)); have d1 : w5.cell? ⟨g + 1 + 1, 0, none⟩ = some (.slice A' n' c') := Blk.cell (t := 42) B5.out 0; have f1 : w5.frozen? ⟨g + 1 + 1, 0, none⟩ = false := Blk.frozen (t := 42) B5.out 0; have O5 := Lib.hid ho5; have G5 := Lib.hid hg5; clear ho5 hg5)
          have hd : ∀ j, j < W.heap.size → j ≠ g + 2 → (Value.slice A' n' c').ownBlock ≠ some j → (w5.setCell ⟨g + 1 + 1, 0, none⟩ (.slice A2 (n' + 1) c2)).heap[j]? = W.heap[j]? := fun j hj h1 h2 =>
            (Below.heap_setCell _ _ _ _ (by show _ ≠ g + 2; omega)).trans ((G5.out.block j (by simp; omega) (fun e => h2 e.symm)).trans (Below.heap_alloc _ _ _ (by omega)))
          have h5 : ∀ j t cs, Blk W j t cs → t ≠ 50 → j ≠ g + 2 → Blk (w5.setCell ⟨g + 1 + 1, 0, none⟩ (.slice A2 (n' + 1) c2)) j t cs := fun j t cs hb ht hj => (hd j hb.lt hj (fun e => I5.out.apart hb ht _ e rfl)).trans hb
          refine ⟨⟨?_, ?_⟩, fun j h1 h2 => hd j h2 (by omega) (fun e => by have := (LT5.out _ e).2; omega), st, Lib.hid (by omega), h5 _ _ _ I2.out (by decide) (by omega), h5 _ _ _ I3.out (by decide) (by omega), ⟨A2, n' + 1, c2, Blk.set_ (t := 42) B5.out 0 _, ?_⟩, h5 _ _ _ I6.out (by decide) (by omega), ?_⟩
          · exact hd _ (by omega) (by omega) (fun e => (NE.out _ e).1 rfl)
          · exact hd _ (by omega) (by omega) (fun e => (NE.out _ e).2 rfl)
          · rw [← List.map_take, et]
            exact O5.out.set (p := ⟨g + 2, 0, none⟩) B5.out (by decide) _
          · exact ((I7.out.alloc (by omega) _).grown G5.out (by simp; omega) (fun j hj => (LT5.out j hj).1)).setCell (p := ⟨g + 2, 0, none⟩) (by show g ≤ g + 2; omega) _
      · have hne : (er != 0) = true := by simpa using he
        have heq : (er == 0) = false := by simpa using he
        have st : Hid (lexG 0 S = some (er, aa)) := Lib.hid (by rw [i0.out, ST.out]; simp [lexG, he])
        clear i0 ST et
        gi_wp2_with fail
        have hmx : Tryz.prog.follows .mixedOrders = true := by kernel_rfl
        gi_region_with_o (fail)
        all_goals gi_wp2
        all_goals exact ⟨⟨(Below.heap_setCell _ _ _ _ (by simp <;> omega)).trans ((Below.heap_setCell _ _ _ _ (by simp <;> omega)).trans (Below.heap_setCell _ _ _ _ (by simp <;> omega))), (Below.heap_setCell _ _ _ _ (by simp <;> omega)).trans ((Below.heap_setCell _ _ _ _ (by simp <;> omega)).trans (Below.heap_setCell _ _ _ _ (by simp <;> omega)))⟩, rfl, _, _, st, ((I2.out.set_ 0 _).far (by simp) _).far (by simp) _, ((I3.out.far (by simp) _).set_ 0 _).set_ 1 _, (((I7.out.setCell (p := ⟨g, 0, none⟩) (by simp) _).setCell (p := ⟨g + 1, 0, none⟩) (by simp) _).setCell (p := ⟨g + 1, 1, none⟩) (by simp) _).drew⟩
    case done =>
      rintro D W hD ⟨i0, i1, i2, i3, ⟨A, n, c, i4, i5⟩, i6, i7⟩ hK
      rw [hs0] at hD
      rw [List.drop_length] at i0
      rw [List.take_length] at i5
      have hRF := Lib.hid (LN.out (by rw [i0.out]; rfl))
      have x0 : W.cell? ⟨g, 0, none⟩ = some (.slice none 0 0) := i2.cell 0
      have y0 : W.frozen? ⟨g, 0, none⟩ = false := i2.frozen 0
      have x1 : W.cell? ⟨g + 1, 0, none⟩ = some (.int .i64 0) := i3.cell 0
      have y1 : W.frozen? ⟨g + 1, 0, none⟩ = false := i3.frozen 0
      have x2 : W.cell? ⟨g + 1, 1, none⟩ = some (.int .i64 0) := i3.cell 1
      have y2 : W.frozen? ⟨g + 1, 1, none⟩ = false := i3.frozen 1
      have x3 : W.cell? ⟨g + 1 + 1, 0, none⟩ = some (.slice A n c) := i4.cell 0
      have b4 := i2.lt
      clear i0
      gi_wp2
      have r1 : Blk (((W.setCell ⟨g, 0, none⟩ (.slice A n c)).setCell ⟨g + 1, 0, none⟩ (.int .i64 0)).setCell ⟨g + 1, 1, none⟩ (.int .i64 0)) g 42 #[.slice A n c] := ((i2.set_ 0 _).far (by simp) _).far (by simp) _
      have r2 : Blk (((W.setCell ⟨g, 0, none⟩ (.slice A n c)).setCell ⟨g + 1, 0, none⟩ (.int .i64 0)).setCell ⟨g + 1, 1, none⟩ (.int .i64 0)) (g + 1) 26 #[.int .i64 0, .int .i64 0] := ((i3.far (by simp) _).set_ 0 _).set_ 1 _
      have r3 : Below g w (((W.setCell ⟨g, 0, none⟩ (.slice A n c)).setCell ⟨g + 1, 0, none⟩ (.int .i64 0)).setCell ⟨g + 1, 1, none⟩ (.int .i64 0)) := ((i7.setCell (p := ⟨g, 0, none⟩) (by simp) _).setCell (p := ⟨g + 1, 0, none⟩) (by simp) _).setCell (p := ⟨g + 1, 1, none⟩) (by simp) _
      have r4 : (((W.setCell ⟨g, 0, none⟩ (.slice A n c)).setCell ⟨g + 1, 0, none⟩ (.int .i64 0)).setCell ⟨g + 1, 1, none⟩ (.int .i64 0)).heap[D]? = some (.deferred (some [])) := (Below.heap_setCell _ _ _ _ (by simp; omega)).trans ((Below.heap_setCell _ _ _ _ (by simp; omega)).trans ((Below.heap_setCell _ _ _ _ (by simp; omega)).trans hK))
      have r5 : Tks (((W.setCell ⟨g, 0, none⟩ (.slice A n c)).setCell ⟨g + 1, 0, none⟩ (.int .i64 0)).setCell ⟨g + 1, 1, none⟩ (.int .i64 0)) g A n c (S.map (·.1)) :=
        ((i5.set (p := ⟨g, 0, none⟩) i2 (by decide) _).set (p := ⟨g + 1, 0, none⟩) (i3.far (by simp) _) (by decide) _).set (p := ⟨g + 1, 1, none⟩) ((i3.far (by simp) _).set_ 0 _) (by decide) _
      generalize ((W.setCell ⟨g, 0, none⟩ (.slice A n c)).setCell ⟨g + 1, 0, none⟩ (.int .i64 0)).setCell ⟨g + 1, 1, none⟩ (.int .i64 0) = W5 at *
      refine ⟨by simp, .inl ⟨_, _, rfl, run_takeDeferred r4, ?_⟩⟩
      exact ⟨_, resLx rfl _ _ g (g + 1) _ _ _ rfl (r1.putR r4 rfl _) rfl (r2.putR r4 rfl _), A, n, c, by rw [hRF.out]; rfl, by rw [hRF.out, hg]; exact r5.putD r4 rfl _, by rw [hg]; exact r3.trans (below_shut _ (.deferred none) (by omega))⟩
    case stop =>
      rintro D c k W hD hk ⟨rfl, e, a, h1, h2, h3, h4⟩ hK
      rw [hs0] at hD
      have hRF := Lib.hid (LF.out _ _ h1.out)
      gi_wp2
      refine ⟨by simp, .inl ⟨_, _, rfl, run_takeDeferred hK, ?_⟩⟩
      exact ⟨_, resLx rfl _ _ g (g + 1) _ _ _ rfl (h2.putR hK rfl _) rfl (h3.putR hK rfl _), none, 0, 0, by rw [hRF.out], by rw [hRF.out]; exact World.ownsRow_nil _ _ _ _, by rw [hg]; exact h4.trans (below_shut _ (.deferred none) (by omega))⟩
end Go.Proofs.YtiipglmbfgmbbaaGreatDoor
