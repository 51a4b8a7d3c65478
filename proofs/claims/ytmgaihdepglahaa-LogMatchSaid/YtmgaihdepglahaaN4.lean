/-
  The log with entries behind all: the program's extended.
-/
import Derived.Test.YtmgaihdepglahaaN3
namespace Go.Proofs.Ytmgaihdepglahaa
open Go.RowKit

theorem setCell_only (w : World) (g o : Nat) (v : Value) : Only g w (w.setCell ⟨g, o, none⟩ v) := ⟨rfl, rfl, rfl, by simp [World.setCell], fun k hk => Below.heap_setCell w ⟨g, o, none⟩ v k hk⟩
theorem set3_only (w : World) (g : Nat) (a b c : Value) : Only g w (((w.setCell ⟨g, 0, none⟩ a).setCell ⟨g, 1, none⟩ b).setCell ⟨g, 2, none⟩ c) :=
  ⟨rfl, rfl, rfl, by simp [World.setCell], fun k hk => (Below.heap_setCell _ ⟨g, 2, none⟩ c k hk).trans ((Below.heap_setCell _ ⟨g, 1, none⟩ b k hk).trans (Below.heap_setCell _ ⟨g, 0, none⟩ a k hk))⟩
/-- A goal at which the walk stands. -/
def Held (p : Prop) : Prop := p
theorem unheld {p : Prop} (h : Held p) : p := h

/-- append of nothing. -/
theorem wpList_append_empty {P : Program} {w : World} {ops : Array Oper} {rest : List Oper} {o : Oper} {a : Act} {Q : Exit → Act → World → Prop} (hgd : o.guard = none) (s x : Operand) (t : TypeId)
    (ho : o.op = .call { callee := .builtin .append, args := #[s, x], argTypes := #[t, t] })
    (e : TypeId) (i : TypeInfo) (ht : P.underlying t = some (.slice e)) (hi : P.info? e = some i)
    (ao : Option Addr) (n cap : Nat) (hs : a.eval s = .slice ao n cap) (hn : n ≤ cap) (bo : Option Addr) (c : Nat) (hx : a.eval x = .slice bo 0 c)
    (h : wpList P ops Q rest (a.put o.dst (.slice ao n cap)) w) : wpList P ops Q (o :: rest) a w := by
  refine wpList_plain hgd fun K hK => ?_
  have hf : (Builtin.firstCells i.size 0 (.slice bo 0 c)).run P w = .ok #[] w := by
    cases bo with
    | none => exact run_firstCells_none _ _ _ _ _
    | some b => simpa using run_firstCells_some (P := P) w i.size 0 b 0 c [] (by simp) (fun j v hj => by simp at hj)
  have hrun : (Builtin.append_ #[t, t] o.type #[.slice ao n cap, .slice bo 0 c]).run P w = .ok (.slice ao n cap) w := by
    cases ao <;> simp [Builtin.append_, run_underlying ht, sizeOf, typeInfo, hi, Builtin.lenOf, hn, hf, storeCells]
  unfold Oper.wp
  simp [execOp, ho, resolve, invoke, builtin, hs, hx, hrun, Result.andThen]
  exact hK _ _ h

theorem ret81t {fn : Func} {p u : Tmp} (h : fn.results = #[.cell p 81, .tmp u]) (tmps : Array Value) (w : World) (g : Nat) (a b c x : Value)
    (hp : tmps.getD p undef = .pointer (some ⟨g, 0, none⟩)) (hx : tmps.getD u undef = x) (hg : Blk w g 81 #[a, b, c]) : (results fn tmps).run Try.prog w = .ok (.tuple #[.agg #[a, b, c], x]) w := by
  subst hx
  exact ret_cell_tmp h tmps w g 81 #[a, b, c] _ hp hg Try.underlying81 rfl Try.i81
theorem Lr.none_ (w : World) (B : Nat) : Lr w B none 0 0 lg0 := ⟨Es.none_, Nat.le_refl _, fun _ => rfl, by omega, by decide, by decide, by decide, by decide⟩
theorem room_right {l : Lg} (hr : right l = true) (h0 : 0 ≤ l.bi) (m : Nat) : room l.lastI m = room l.bi (l.es.length + m) := by
  have := (right_parts hr).2.2.2
  have e : l.lastI = l.bi + l.es.length := spI_right hr h0 (Nat.le_refl _)
  unfold room
  rw [e]
  exact decide_eq_decide.2 (by omega)

theorem field1 (w : World) (a b : Int) : (Instr.field 24 (.agg #[.int .u64 a, .int .u64 b]) 1).run Try.prog w = .ok (.int .u64 b) w := by
  have e : (Try.prog.fieldsOf 24)[1]? = some ⟨"Term", 22, 1, false, "", "", 8⟩ := by rw [← Array.getElem?_toList, f24]; rfl
  unfold Instr.field
  simp only [Sem.run_bind, run_underlying u24, Result.andThen_ok, e]
  simp [asAgg, part_int w 22 .u64 Try.underlying22 #[.int .u64 a, .int .u64 b] 1 (.int .u64 b) rfl]
attribute [local go_sem ↓] field1


/-- Entries whose Data lie below B, and whose row lies there or from s on. -/
def Ez (W : World) (B s : Nat) (A : Option Addr) (n : Nat) (es : List En) : Prop :=
  ∃ xs : List Ec, xs.map Ec.en = es ∧ xs.length = n ∧ (∀ x ∈ xs, x.ok W B) ∧ (0 < n → ∃ b o, A = some ⟨b, o, none⟩ ∧ (b < B ∨ s ≤ b ∧ b < W.heap.size) ∧ W.rangeAt b o (rowE xs))
theorem Ez.es {W : World} {B s n : Nat} {A : Option Addr} {es : List En} (h : Ez W B s A n es) (hB : B ≤ W.heap.size) : Es W W.heap.size A n es := by
  obtain ⟨xs, h1, h2, h3, h4⟩ := h
  refine ⟨xs, h1, h2, fun x hx => (h3 x hx).more hB, fun hn => ?_⟩
  obtain ⟨b, o, e, hb, hc⟩ := h4 hn
  exact ⟨b, o, e, by omega, hc⟩
theorem Ez.keep {W W' : World} {B s n : Nat} {A : Option Addr} {es : List En} (h : Ez W B s A n es) (hl : Below B W W') (hh : ∀ b, s ≤ b → b < W.heap.size → W'.heap[b]? = W.heap[b]?) : Ez W' B s A n es := by
  obtain ⟨xs, h1, h2, h3, h4⟩ := h
  refine ⟨xs, h1, h2, fun x hx => (h3 x hx).below hl, fun hn => ?_⟩
  obtain ⟨b, o, e, hb, hc⟩ := h4 hn
  have hs := hl.size
  rcases hb with hb | ⟨hb1, hb2⟩
  · exact ⟨b, o, e, .inl hb, fun j v hj => (hl.cell (p := ⟨b, o + j, none⟩) hb).trans (hc j v hj)⟩
  · exact ⟨b, o, e, .inr ⟨hb1, by omega⟩, fun j v hj => (World.cell?_of_block (a := ⟨b, o + j, none⟩) (hh b hb1 hb2)).trans (hc j v hj)⟩

/-- Entries that lay below B in w, or a row of them that is one's own in W. -/
def Xt (B s : Nat) (w W : World) (A : Option Addr) (n c : Nat) (es : List En) : Prop :=
  n ≤ c ∧ (A = none → c = 0) ∧ (Es w B A n es ∨ ∃ xs base, xs.map Ec.en = es ∧ (∀ x ∈ xs, x.ok w B) ∧ s ≤ base ∧ W.ownsRow base 54 3 (.slice A n c) n (rowE xs))
theorem Xt.below {B s n c : Nat} {w W W' : World} {A : Option Addr} {es : List En} (h : Xt B s w W A n c es) (hb : Below W.heap.size W W') : Xt B s w W' A n c es := by
  obtain ⟨h1, h2, h3 | ⟨xs, base, h4, h5, h6, h7⟩⟩ := h
  · exact ⟨h1, h2, .inl h3⟩
  · exact ⟨h1, h2, .inr ⟨xs, base, h4, h5, h6, World.ownsRow.below h7 hb⟩⟩
theorem Xt.only {B s n c p : Nat} {w W W' : World} {A : Option Addr} {es : List En} {t : TypeId} {cs : Array Value} (h : Xt B s w W A n c es) (hp : Blk W p t cs) (ht : 54 ≠ t) (ho : Only p W W') : Xt B s w W' A n c es := by
  obtain ⟨h1, h2, h3 | ⟨xs, base, h4, h5, h6, h7⟩⟩ := h
  · exact ⟨h1, h2, .inl h3⟩
  · exact ⟨h1, h2, .inr ⟨xs, base, h4, h5, h6, World.ownsRow.only h7 hp ht ho⟩⟩
theorem Xt.done {B s n c : Nat} {w W : World} {A : Option Addr} {es : List En} (h : Xt B s w W A n c es) (hb : Below B w W) : Ez W B s A n es := by
  obtain ⟨h1, h2, h3 | ⟨xs, base, h4, h5, h6, h7⟩⟩ := h
  · obtain ⟨xs, e1, e2, e3, e4⟩ := h3.below hb
    refine ⟨xs, e1, e2, e3, fun hn => ?_⟩
    obtain ⟨b, o, e, hbl, hc⟩ := e4 hn
    exact ⟨b, o, e, .inl hbl, hc⟩
  · have hxl : xs.length = n := by have := h7.1; rw [rowE_len] at this; omega
    refine ⟨xs, h4, hxl, fun x hx => (h5 x hx).below hb, fun hn => ?_⟩
    obtain ⟨g, cap, e, hgb, hgl⟩ := h7.form hn
    injection e with e1 _ e3
    subst e1 e3
    refine ⟨g, 0, rfl, .inr ⟨Nat.le_trans h6 hgb, hgl⟩, fun j u hj => ?_⟩
    rw [Nat.zero_add, h7.cellAt j (by rw [← h7.1]; exact (List.getElem?_eq_some_iff.1 hj).1)]
    exact hj
set_option maxRecDepth 100000 in
/-- append of entries to entries that have no room behind them. -/
theorem wpList_append_more {w : World} {ops : Array Oper} {rest : List Oper} {o : Oper} {a : Act} {Q : Exit → Act → World → Prop} (hgd : o.guard = none) (s x : Operand)
    (ho : o.op = .call { callee := .builtin .append, args := #[s, x], argTypes := #[25, 25] })
    (A A' : Option Addr) (n m c' B s0 : Nat) (es more : List En) (hs : a.eval s = .slice A n n) (hx : a.eval x = .slice A' m c') (he : Es w B A n es) (he' : Es w B A' m more) (hnil : A = none → n = 0) (hB : s0 ≤ w.heap.size) (hn : n ≤ 1000000) (hm : m ≤ 1000000)
    (h : ∀ A3 c3 w', w.grownBy w' none → Xt B s0 w w' A3 (n + m) c3 (es ++ more) → wpList Try.prog ops Q rest (a.put o.dst (.slice A3 (n + m) c3)) w') : wpList Try.prog ops Q (o :: rest) a w := by
  obtain ⟨i0, hi, hz0, hz1, hz2⟩ := info_parts Try.info54
  by_cases h0 : m = 0
  · subst h0
    refine wpList_append_empty hgd s x 25 ho 54 i0 Try.underlying25 hi A n n hs (Nat.le_refl _) A' c' hx ?_
    have hm0 : more = [] := List.eq_nil_of_length_eq_zero he'.len
    have := h A n w (World.grownBy.refl _ _) ⟨Nat.le_refl _, hnil, .inl (by rw [hm0, List.append_nil]; exact he)⟩
    exact this
  · have hmp : 0 < m := Nat.pos_of_ne_zero h0
    have hnm : 0 < n + m := by omega
    have hfull : n < n + m := by omega
    have hml : n + m ≤ maxLen := by unfold maxLen; omega
    have hby : (n + m) * 40 ≤ 140737488355328 := by omega
    clear h0 hn hm
    obtain ⟨xs, hx1, hx2, hx3, hx4⟩ := he
    obtain ⟨ys, hy1, hy2, hy3, hy4⟩ := he'
    obtain ⟨b', o', rfl, hb', hc'⟩ := hy4 hmp
    refine wpList_append_grows w hgd s x 25 ho 54 i0 _ 3 40 Try.underlying25 hi hz0 hz1 hz2 rfl (by decide) A n n (rowE xs) hs (fun e => ⟨hnil e, hnil e⟩) (by rw [rowE_len, hx2]) ?_ ⟨b', o', none⟩ m c' (rowE ys) hx (by rw [rowE_len, hy2]) (fun j u hj => by rw [add_at]; exact hc' j u hj) (rowE_one ys) hfull hml hby ?_
    · intro b e j u hj
      by_cases hn0 : n = 0
      · have : xs = [] := List.eq_nil_of_length_eq_zero (hx2.trans hn0)
        subst this
        simp [rowE] at hj
      · obtain ⟨b2, o2, e2, _, hc2⟩ := hx4 (Nat.pos_of_ne_zero hn0)
        rw [e2] at e
        injection e with e
        subst e
        rw [add_at]
        exact hc2 j u hj
    · intro v' w' hown hg
      obtain ⟨g, cap, rfl, hgb, hgl⟩ := hown.form hnm
      rw [← rowE_append] at hown
      refine h (some ⟨g, 0, none⟩) cap w' hg ⟨?_, (fun e => by cases e), .inr ⟨xs ++ ys, w.heap.size, by rw [List.map_append, hx1, hy1], fun x hx => ?_, hB, hown⟩⟩
      · rcases hown.2 with ⟨h, _⟩ | ⟨g2, cap2, cur, h, _, _, h2, _⟩
        · cases h
        · injection h with _ _ h3
          rw [h3]
          exact h2
      · rcases List.mem_append.1 hx with h | h
        · exact hx3 x h
        · exact hy3 x h

/-- What extended leaves. -/
structure Lz (w : World) (B s : Nat) (A : Option Addr) (n c : Nat) (l : Lg) : Prop where
  es : Ez w B s A n l.es
  nc : n ≤ c
  nil : A = none → c = 0
  n : n ≤ 1000
  bi0 : 0 ≤ l.bi
  bi1 : l.bi < 18446744073709551616
  bt0 : 0 ≤ l.bt
  bt1 : l.bt < 18446744073709551616
theorem Lz.lr {W : World} {B s n c : Nat} {A : Option Addr} {l : Lg} (h : Lz W B s A n c l) (hB : B ≤ W.heap.size) : Lr W W.heap.size A n c l := ⟨h.es.es hB, h.nc, h.nil, h.n, h.bi0, h.bi1, h.bt0, h.bt1⟩
theorem Lz.keep {W W' : World} {B s n c : Nat} {A : Option Addr} {l : Lg} (h : Lz W B s A n c l) (hl : Below B W W') (hh : ∀ b, s ≤ b → b < W.heap.size → W'.heap[b]? = W.heap[b]?) : Lz W' B s A n c l := ⟨h.es.keep hl hh, h.nc, h.nil, h.n, h.bi0, h.bi1, h.bt0, h.bt1⟩
theorem Lz.none_ (w : World) (B s : Nat) : Lz w B s none 0 0 lg0 := ⟨⟨[], rfl, rfl, fun x hx => (by cases hx), fun h => absurd h (by omega)⟩, Nat.le_refl _, fun _ => rfl, by omega, by decide, by decide, by decide, by decide⟩
def Lxt (w : World) (B : Nat) (l : Lg) (er : Int) (e : Ending) (w' : World) : Prop := ∃ A n c, e = .returned (.tuple #[.agg #[.int .u64 l.bi, .int .u64 l.bt, .slice A n c], .int .i64 er]) ∧ Lz w' B w.heap.size A n c l ∧ Below w.heap.size w w'

set_option linter.unusedSimpArgs false in
set_option maxRecDepth 100000 in
set_option maxHeartbeats 4000000 in
theorem extended_any (l : Lg) (A : Option Addr) (n c B : Nat) (w : World) (h : Lr w B A n c l) (hB : B ≤ w.heap.size) (hr : right l = true) (A' : Option Addr) (m c' : Nat) (more : List En) (h' : Es w B A' m more) (hm : m ≤ 900) :
    Calls Try.prog 52 #[.agg #[.int .u64 l.bi, .int .u64 l.bt, .slice A n c], .slice A' m c'] w (Lxt w B (rExtL l more) (rExtE l more)) := by
  obtain ⟨g, hg⟩ : ∃ g, w.heap.size = g := ⟨_, rfl⟩
  have LA := Lib.hid (fun W (hW : Below g w W) => last_any l A n c B W (h.below (hW.mono (by omega))) (by have := hW.size; omega))
  have hT := h.T01 (k := n) (Nat.le_refl _)
  have hTT : l.lastT = l.T n := by unfold Lg.lastT; rw [h.len]
  have MS := Lib.hid (fun W (hW : Below g w W) => maystand_any l.lastT A' m c' more B W (by rw [hTT]; exact hT.1) (by omega) (h'.below (hW.mono (by omega))) (by have := hW.size; omega))
  have FI := Lib.hid (fun A3 c3 W => fits_any l.bi l.bt A3 (n + m) c3 h.bi0 h.bi1 (by have := h.n; omega) W)
  have CU := Lib.hid (fun W => cut_any l.bi l.bt A n c n W (Nat.le_refl _) h.nc)
  have hlen := h.len
  have hmore := h'.len
  have H := Lib.hid h
  have H' := Lib.hid h'
  have hp := right_parts hr
  have hE : rExtE l more = if behind l.lastT more = false then 2 else if 16 < n + m ∨ room l.bi (n + m) = false then 6 else 0 := by unfold rExtE; rw [room_right hr h.bi0, h.len, h'.len]
  have hL : rExtE l more = 0 → rExtL l more = ⟨l.bi, l.bt, l.es ++ more⟩ := fun e => by unfold rExtL; rw [if_pos e]
  have hL0 : rExtE l more ≠ 0 → rExtL l more = lg0 := fun e => by unfold rExtL; rw [if_neg e]
  obtain ⟨bi, bt, es⟩ := l
  simp only at *
  have hn16 : n ≤ 16 := by omega
  generalize hlt : (⟨bi, bt, es⟩ : Lg).lastT = LT at *
  generalize hli : (⟨bi, bt, es⟩ : Lg).lastI = LI at *
  generalize rExtE ⟨bi, bt, es⟩ more = E at *
  generalize rExtL ⟨bi, bt, es⟩ more = L at *
  obtain ⟨W0, hW0⟩ : ∃ W0, ((w.alloc (.cells #[.int .u64 bi, .int .u64 bt, .slice A n c] 81)).alloc (.cells #[.int .u64 0, .int .u64 0, .slice none 0 0] 81)) = W0 := ⟨_, rfl⟩
  have b0 : Hid (Blk W0 g 81 #[.int .u64 bi, .int .u64 bt, .slice A n c]) := by rw [← hW0, ← hg]; exact Lib.hid ((Blk.new _ _ _).alloc _)
  have b1 : Hid (Blk W0 (g + 1) 81 #[.int .u64 0, .int .u64 0, .slice none 0 0]) := by rw [← hW0, ← hg]; exact Lib.hid (Blk.fresh (by simp))
  have hb0 : Hid (Below g w W0) := by rw [← hW0, ← hg]; exact Lib.hid (((Below.refl _ _).alloc (Nat.le_refl _) _).alloc (by simp) _)
  have hs0 : W0.heap.size = g + 2 := by rw [← hW0, ← hg]; simp
  have C3 : Hid (∀ W, Blk W g 81 #[.int .u64 bi, .int .u64 bt, .slice A n c] → W.cell? ⟨g, 0, none⟩ = some (.int .u64 bi) ∧ W.cell? ⟨g, 1, none⟩ = some (.int .u64 bt) ∧ W.cell? ⟨g, 2, none⟩ = some (.slice A n c)) := fun W hb => ⟨hb.cell 0, hb.cell 1, hb.cell 2⟩
  clear h h' hT hTT hr hp hlt hli
  cases hbe : behind LT more with
  | false =>
    rw [hbe] at MS
    have e2 : E = 2 := by rw [hE, hbe]; rfl
    have eL : L = lg0 := hL0 (by omega)
    clear hE hL hL0 hbe
    rw [e2, eL]
    clear e2 eL
    go_enter Try.func52, Try.ntmps52
    go_wp2
    refine wp_scope_jumps 0 (fun a W => (Blk W (g + 1) 81 #[.int .u64 0, .int .u64 0, .slice none 0 0] ∧ Below g w W) ∧ ∃ v0 v1 v2 v3 v5 v6 v8 v9 v10 v11 v12 v13 v14 v15 v16 v17 v18 v19 v20 v21 v22 v23 v24 v25 v26 v27 v28 v29 v30 v31 v32 : Value, a = { tmps := #[v0, v1, v2, v3, .pointer (some ⟨g + 1, 0, none⟩), v5, v6, .int .i64 2, v8, v9, v10, v11, v12, v13, v14, v15, v16, v17, v18, v19, v20, v21, v22, v23, v24, v25, v26, v27, v28, v29, v30, v31, v32], defers := [] }) (fun _ _ => 0) rfl ?first ?pass
    case pass =>
      rintro a W ⟨⟨hb4, hbW⟩, v0, v1, v2, v3, v5, v6, v8, v9, v10, v11, v12, v13, v14, v15, v16, v17, v18, v19, v20, v21, v22, v23, v24, v25, v26, v27, v28, v29, v30, v31, v32, rfl⟩
      have d0 : W.cell? ⟨g + 1, 0, none⟩ = some (.int .u64 0) := hb4.cell 0
      have d1 : W.cell? ⟨g + 1, 1, none⟩ = some (.int .u64 0) := hb4.cell 1
      have d2 : W.cell? ⟨g + 1, 2, none⟩ = some (.slice none 0 0) := hb4.cell 2
      have f0 : W.frozen? ⟨g + 1, 0, none⟩ = false := hb4.frozen 0
      have f1 : W.frozen? ⟨g + 1, 1, none⟩ = false := hb4.frozen 1
      have f2 : W.frozen? ⟨g + 1, 2, none⟩ = false := hb4.frozen 2
      go_wp2
      exact bodyPost_ret (ret81t rfl _ _ (g + 1) _ _ _ _ rfl rfl (((hb4.set_ 0 _).set_ 1 _).set_ 2 _)) rfl ⟨none, 0, 0, rfl, Lz.none_ _ _ _, by rw [hg]; exact ((hbW.setCell (p := ⟨g + 1, 0, none⟩) (by simp) _).setCell (p := ⟨g + 1, 1, none⟩) (by simp) _).setCell (p := ⟨g + 1, 2, none⟩) (by simp) _⟩
    case first =>
      obtain ⟨x0, x1, x2⟩ := C3.out _ b0.out
      go_wp2_with (clear x0 x1 x2; go_at_call 51; refine (CU.out W0).mono ?_; rintro e w1 ⟨rfl, hb1⟩; have B0 := Lib.hid (b0.out.below hb1 b0.out.lt); have B1 := Lib.hid (b1.out.below hb1 b1.out.lt); have HB1 := Lib.hid (hb0.out.trans (hb1.mono (by omega))); have hl1 := Lib.hid hb1.size; obtain ⟨x0, x1, x2⟩ := C3.out _ B0.out; have hgl : g < w1.heap.size := B0.out.lt; clear hb1)
      have B6 : Hid (Blk (w1.alloc (.cells #[.int .u64 bi, .int .u64 bt, .slice A n n] 81)) w1.heap.size 81 #[.int .u64 bi, .int .u64 bt, .slice A n n]) := Lib.hid (Blk.new _ _ _)
      have hb2 : Below w1.heap.size w1 (w1.alloc (.cells #[.int .u64 bi, .int .u64 bt, .slice A n n] 81)) := (Below.refl _ _).alloc (Nat.le_refl _) _
      have B02 := Lib.hid (B0.out.below hb2 B0.out.lt)
      have B12 := Lib.hid (B1.out.below hb2 B1.out.lt)
      have HB2 := Lib.hid (HB1.out.trans (hb2.mono (by have := hl1.out; omega)))
      have P6 : Hid (g + 2 ≤ w1.heap.size) := Lib.hid (by have := B1.out.lt; omega)
      clear hb2 B0 B1 HB1 hl1 x0 x1 x2 hgl
      generalize w1.alloc (.cells #[.int .u64 bi, .int .u64 bt, .slice A n n] 81) = w2 at *
      generalize w1.heap.size = p6 at *
      obtain ⟨y0, y1, y2⟩ := C3.out _ B02.out
      go_wp2_with (first | (go_at_call 57; go_loud (refine (LA.out w2 HB2.out).mono ?_; rintro e w3 ⟨rfl, hb3⟩; have B03 := Lib.hid (B02.out.below hb3 B02.out.lt); have B13 := Lib.hid (B12.out.below hb3 B12.out.lt); have B63 := Lib.hid (B6.out.below hb3 B6.out.lt); have HB3 := Lib.hid (HB2.out.trans (hb3.mono (by have := B12.out.lt; omega))); clear hb3 y0 y1 y2)) | (go_at_call 71; go_loud (refine (MS.out w3 HB3.out).mono ?_; rintro e w4 ⟨rfl, hb4⟩; have B04 := Lib.hid (B03.out.below hb4 B03.out.lt); have B14 := Lib.hid (B13.out.below hb4 B13.out.lt); have B64 := Lib.hid (B63.out.below hb4 B63.out.lt); have HB4 := Lib.hid (HB3.out.trans (hb4.mono (by have := B13.out.lt; omega))); clear hb4)))
      go_step3
      exact ⟨rfl, ⟨B14.out, HB4.out⟩, _, _, _, _, _, _, _, _, _, _, _, _, _, _, _, _, _, _, _, _, _, _, _, _, _, _, _, _, _, _, _, rfl⟩
  | true =>
    rw [hbe] at MS
    have HNIL : Hid (A = none → n = 0) := Lib.hid (fun e => by have := H.out.nil e; have := H.out.nc; omega)
    have C6 : Hid (∀ W p A3 n3 c3, Blk W p 81 #[.int .u64 bi, .int .u64 bt, .slice A3 n3 c3] → W.cell? ⟨p, 0, none⟩ = some (.int .u64 bi) ∧ W.cell? ⟨p, 1, none⟩ = some (.int .u64 bt) ∧ W.cell? ⟨p, 2, none⟩ = some (.slice A3 n3 c3)) := fun W p A3 n3 c3 hb => ⟨hb.cell 0, hb.cell 1, hb.cell 2⟩
    cases hF : (decide (n + m ≤ 16) && room bi (n + m)) with
    | false =>
      have e2 : E = 6 := by
        rw [hE, hbe, if_neg (by simp), if_pos ?_]
        rcases Bool.and_eq_false_iff.1 hF with h | h
        · exact .inl (by have := of_decide_eq_false h; omega)
        · exact .inr h
      rw [hF] at FI
      have eL : L = lg0 := hL0 (by omega)
      clear hE hL hL0 hbe hF
      rw [e2, eL]
      clear e2 eL
      go_enter Try.func52, Try.ntmps52
      go_wp2
      refine wp_scope_jumps 0 (fun a W => (Blk W (g + 1) 81 #[.int .u64 0, .int .u64 0, .slice none 0 0] ∧ Below g w W) ∧ ∃ v0 v1 v2 v3 v5 v6 v8 v9 v10 v11 v12 v13 v14 v15 v16 v17 v18 v19 v20 v21 v22 v23 v24 v25 v26 v27 v28 v29 v30 v31 v32 : Value, a = { tmps := #[v0, v1, v2, v3, .pointer (some ⟨g + 1, 0, none⟩), v5, v6, .int .i64 6, v8, v9, v10, v11, v12, v13, v14, v15, v16, v17, v18, v19, v20, v21, v22, v23, v24, v25, v26, v27, v28, v29, v30, v31, v32], defers := [] }) (fun _ _ => 0) rfl ?first ?pass
      case pass =>
        rintro a W ⟨⟨hb4, hbW⟩, v0, v1, v2, v3, v5, v6, v8, v9, v10, v11, v12, v13, v14, v15, v16, v17, v18, v19, v20, v21, v22, v23, v24, v25, v26, v27, v28, v29, v30, v31, v32, rfl⟩
        have d0 : W.cell? ⟨g + 1, 0, none⟩ = some (.int .u64 0) := hb4.cell 0
        have d1 : W.cell? ⟨g + 1, 1, none⟩ = some (.int .u64 0) := hb4.cell 1
        have d2 : W.cell? ⟨g + 1, 2, none⟩ = some (.slice none 0 0) := hb4.cell 2
        have f0 : W.frozen? ⟨g + 1, 0, none⟩ = false := hb4.frozen 0
        have f1 : W.frozen? ⟨g + 1, 1, none⟩ = false := hb4.frozen 1
        have f2 : W.frozen? ⟨g + 1, 2, none⟩ = false := hb4.frozen 2
        go_wp2
        exact bodyPost_ret (ret81t rfl _ _ (g + 1) _ _ _ _ rfl rfl (((hb4.set_ 0 _).set_ 1 _).set_ 2 _)) rfl ⟨none, 0, 0, rfl, Lz.none_ _ _ _, by rw [hg]; exact ((hbW.setCell (p := ⟨g + 1, 0, none⟩) (by simp) _).setCell (p := ⟨g + 1, 1, none⟩) (by simp) _).setCell (p := ⟨g + 1, 2, none⟩) (by simp) _⟩
      case first =>
        obtain ⟨x0, x1, x2⟩ := C3.out _ b0.out
        go_wp2_with (clear x0 x1 x2; go_at_call 51; refine (CU.out W0).mono ?_; rintro e w1 ⟨rfl, hb1⟩; have B0 := Lib.hid (b0.out.below hb1 b0.out.lt); have B1 := Lib.hid (b1.out.below hb1 b1.out.lt); have HB1 := Lib.hid (hb0.out.trans (hb1.mono (by omega))); have hl1 := Lib.hid hb1.size; obtain ⟨x0, x1, x2⟩ := C3.out _ B0.out; have hgl : g < w1.heap.size := B0.out.lt; clear hb1)
        have B6 : Hid (Blk (w1.alloc (.cells #[.int .u64 bi, .int .u64 bt, .slice A n n] 81)) w1.heap.size 81 #[.int .u64 bi, .int .u64 bt, .slice A n n]) := Lib.hid (Blk.new _ _ _)
        have hb2 : Below w1.heap.size w1 (w1.alloc (.cells #[.int .u64 bi, .int .u64 bt, .slice A n n] 81)) := (Below.refl _ _).alloc (Nat.le_refl _) _
        have B02 := Lib.hid (B0.out.below hb2 B0.out.lt)
        have B12 := Lib.hid (B1.out.below hb2 B1.out.lt)
        have HB2 := Lib.hid (HB1.out.trans (hb2.mono (by have := hl1.out; omega)))
        have P6 : Hid (g + 2 ≤ w1.heap.size) := Lib.hid (by have := B1.out.lt; omega)
        clear hb2 B0 B1 HB1 hl1 x0 x1 x2 hgl
        generalize w1.alloc (.cells #[.int .u64 bi, .int .u64 bt, .slice A n n] 81) = w2 at *
        generalize w1.heap.size = p6 at *
        obtain ⟨y0, y1, y2⟩ := C3.out _ B02.out
        go_wp2_with (first | (go_at_call 57; go_loud (refine (LA.out w2 HB2.out).mono ?_; rintro e w3 ⟨rfl, hb3⟩; have B03 := Lib.hid (B02.out.below hb3 B02.out.lt); have B13 := Lib.hid (B12.out.below hb3 B12.out.lt); have B63 := Lib.hid (B6.out.below hb3 B6.out.lt); have HB3 := Lib.hid (HB2.out.trans (hb3.mono (by have := B12.out.lt; omega))); clear hb3 y0 y1 y2)) | (go_at_call 71; go_loud (refine (MS.out w3 HB3.out).mono ?_; rintro e w4 ⟨rfl, hb4⟩; have B04 := Lib.hid (B03.out.below hb4 B03.out.lt); have B14 := Lib.hid (B13.out.below hb4 B13.out.lt); have B64 := Lib.hid (B63.out.below hb4 B63.out.lt); have HB4 := Lib.hid (HB3.out.trans (hb4.mono (by have := B13.out.lt; omega))); obtain ⟨u0, u1, u2⟩ := C6.out _ p6 A n n B64.out; clear hb4)) | (at_builtin; refine unheld ?_))
        unfold Held
        have hBg : B ≤ g := by omega
        refine wpList_append_more rfl (.tmp 22) (.tmp 23) rfl A A' n m c' B g es more rfl rfl (H.out.es.below (HB4.out.mono hBg)) (H'.out.below (HB4.out.mono hBg)) HNIL.out (by have := HB4.out.size; omega) (by omega) (by omega) ?_
        intro A3 c3 w5 hg5 xt5
        have hb5 : Below w4.heap.size w4 w5 := (Below.refl _ _).grown hg5 (Nat.le_refl _) (fun k e => by cases e)
        have B15 := Lib.hid (B14.out.below hb5 B14.out.lt)
        have B65 := Lib.hid (B64.out.below hb5 B64.out.lt)
        have HB5 := Lib.hid (HB4.out.trans (hb5.mono (by have := B14.out.lt; omega)))
        have XT5 := Lib.hid xt5
        have HB45 := Lib.hid hb5
        clear u0 u1 u2
        obtain ⟨u0, u1, u2⟩ := C6.out _ p6 A n n B65.out
        have u3 : w5.frozen? ⟨p6, 2, none⟩ = false := B65.out.frozen 2
        clear hg5 hb5 xt5
        go_wp2_with (clear u0 u1 u2 u3; go_at_call 72; go_loud (refine (FI.out A3 c3 _).mono ?_; rintro e w7 ⟨rfl, hb7⟩; have ho6 := setCell_only w5 p6 2 (.slice A3 (n + m) c3); have B66 := B65.out.set_ 2 (.slice A3 (n + m) c3); have XT7 := Lib.hid ((XT5.out.only B65.out (by decide) ho6).below hb7); have B67 := Lib.hid (B66.below hb7 B66.lt); have B16 := ho6.keep B15.out (by have := P6.out; omega); have B17 := Lib.hid (B16.below hb7 B16.lt); have HB57 := Lib.hid ((HB45.out.mono (show g ≤ w4.heap.size from by have := B14.out.lt; omega)).trans ((ho6.below (by have := P6.out; omega)).trans (hb7.mono (by have := B16.lt; omega)))); have HB7 := Lib.hid (HB4.out.trans HB57.out); obtain ⟨t0, t1, t2⟩ := C6.out _ p6 A3 (n + m) c3 B67.out; clear hb7 ho6 B66 B16))
        go_step3
        exact ⟨rfl, ⟨B17.out, HB7.out⟩, _, _, _, _, _, _, _, _, _, _, _, _, _, _, _, _, _, _, _, _, _, _, _, _, _, _, _, _, _, _, _, rfl⟩
    | true =>
      have e2 : E = 0 := by
        have h1 := Bool.and_eq_true_iff.1 hF
        rw [hE, hbe, if_neg (by simp), if_neg ?_]
        rintro (h | h)
        · have := of_decide_eq_true h1.1; omega
        · rw [h] at h1; simp at h1
      rw [hF] at FI
      have eL : L = ⟨bi, bt, es ++ more⟩ := hL (by omega)
      clear hE hL hL0 hbe hF
      rw [e2, eL]
      clear e2 eL
      go_enter Try.func52, Try.ntmps52
      go_wp2
      go_step3
      obtain ⟨x0, x1, x2⟩ := C3.out _ b0.out
      go_wp2_with (clear x0 x1 x2; go_at_call 51; refine (CU.out W0).mono ?_; rintro e w1 ⟨rfl, hb1⟩; have B0 := Lib.hid (b0.out.below hb1 b0.out.lt); have B1 := Lib.hid (b1.out.below hb1 b1.out.lt); have HB1 := Lib.hid (hb0.out.trans (hb1.mono (by omega))); have hl1 := Lib.hid hb1.size; obtain ⟨x0, x1, x2⟩ := C3.out _ B0.out; have hgl : g < w1.heap.size := B0.out.lt; clear hb1)
      have B6 : Hid (Blk (w1.alloc (.cells #[.int .u64 bi, .int .u64 bt, .slice A n n] 81)) w1.heap.size 81 #[.int .u64 bi, .int .u64 bt, .slice A n n]) := Lib.hid (Blk.new _ _ _)
      have hb2 : Below w1.heap.size w1 (w1.alloc (.cells #[.int .u64 bi, .int .u64 bt, .slice A n n] 81)) := (Below.refl _ _).alloc (Nat.le_refl _) _
      have B02 := Lib.hid (B0.out.below hb2 B0.out.lt)
      have B12 := Lib.hid (B1.out.below hb2 B1.out.lt)
      have HB2 := Lib.hid (HB1.out.trans (hb2.mono (by have := hl1.out; omega)))
      have P6 : Hid (g + 2 ≤ w1.heap.size) := Lib.hid (by have := B1.out.lt; omega)
      clear hb2 B0 B1 HB1 hl1 x0 x1 x2 hgl
      generalize w1.alloc (.cells #[.int .u64 bi, .int .u64 bt, .slice A n n] 81) = w2 at *
      generalize w1.heap.size = p6 at *
      obtain ⟨y0, y1, y2⟩ := C3.out _ B02.out
      go_wp2_with (first | (go_at_call 57; go_loud (refine (LA.out w2 HB2.out).mono ?_; rintro e w3 ⟨rfl, hb3⟩; have B03 := Lib.hid (B02.out.below hb3 B02.out.lt); have B13 := Lib.hid (B12.out.below hb3 B12.out.lt); have B63 := Lib.hid (B6.out.below hb3 B6.out.lt); have HB3 := Lib.hid (HB2.out.trans (hb3.mono (by have := B12.out.lt; omega))); clear hb3 y0 y1 y2)) | (go_at_call 71; go_loud (refine (MS.out w3 HB3.out).mono ?_; rintro e w4 ⟨rfl, hb4⟩; have B04 := Lib.hid (B03.out.below hb4 B03.out.lt); have B14 := Lib.hid (B13.out.below hb4 B13.out.lt); have B64 := Lib.hid (B63.out.below hb4 B63.out.lt); have HB4 := Lib.hid (HB3.out.trans (hb4.mono (by have := B13.out.lt; omega))); obtain ⟨u0, u1, u2⟩ := C6.out _ p6 A n n B64.out; clear hb4)) | (at_builtin; refine unheld ?_))
      unfold Held
      have hBg : B ≤ g := by omega
      refine wpList_append_more rfl (.tmp 22) (.tmp 23) rfl A A' n m c' B g es more rfl rfl (H.out.es.below (HB4.out.mono hBg)) (H'.out.below (HB4.out.mono hBg)) HNIL.out (by have := HB4.out.size; omega) (by omega) (by omega) ?_
      intro A3 c3 w5 hg5 xt5
      have hb5 : Below w4.heap.size w4 w5 := (Below.refl _ _).grown hg5 (Nat.le_refl _) (fun k e => by cases e)
      have B15 := Lib.hid (B14.out.below hb5 B14.out.lt)
      have B65 := Lib.hid (B64.out.below hb5 B64.out.lt)
      have HB5 := Lib.hid (HB4.out.trans (hb5.mono (by have := B14.out.lt; omega)))
      have XT5 := Lib.hid xt5
      have HB45 := Lib.hid hb5
      clear u0 u1 u2
      obtain ⟨u0, u1, u2⟩ := C6.out _ p6 A n n B65.out
      have u3 : w5.frozen? ⟨p6, 2, none⟩ = false := B65.out.frozen 2
      clear hg5 hb5 xt5
      go_wp2_with (clear u0 u1 u2 u3; go_at_call 72; go_loud (refine (FI.out A3 c3 _).mono ?_; rintro e w7 ⟨rfl, hb7⟩; have ho6 := setCell_only w5 p6 2 (.slice A3 (n + m) c3); have B66 := B65.out.set_ 2 (.slice A3 (n + m) c3); have XT7 := Lib.hid ((XT5.out.only B65.out (by decide) ho6).below hb7); have B67 := Lib.hid (B66.below hb7 B66.lt); have B16 := ho6.keep B15.out (by have := P6.out; omega); have B17 := Lib.hid (B16.below hb7 B16.lt); have HB57 := Lib.hid ((HB45.out.mono (show g ≤ w4.heap.size from by have := B14.out.lt; omega)).trans ((ho6.below (by have := P6.out; omega)).trans (hb7.mono (by have := B16.lt; omega)))); have HB7 := Lib.hid (HB4.out.trans HB57.out); obtain ⟨t0, t1, t2⟩ := C6.out _ p6 A3 (n + m) c3 B67.out; have q0 : w7.cell? ⟨g + 1, 0, none⟩ = some (.int .u64 0) := B17.out.cell 0; have q1 : w7.cell? ⟨g + 1, 1, none⟩ = some (.int .u64 0) := B17.out.cell 1; have q2 : w7.cell? ⟨g + 1, 2, none⟩ = some (.slice none 0 0) := B17.out.cell 2; have e0 : w7.frozen? ⟨g + 1, 0, none⟩ = false := B17.out.frozen 0; have e1 : w7.frozen? ⟨g + 1, 1, none⟩ = false := B17.out.frozen 1; have e2 : w7.frozen? ⟨g + 1, 2, none⟩ = false := B17.out.frozen 2; clear hb7 ho6 B66 B16))
      rw [Exit.noGoto_ret]
      have ho := set3_only w7 (g + 1) (.int .u64 bi) (.int .u64 bt) (.slice A3 (n + m) c3)
      have xt := XT7.out.only B17.out (by decide) ho
      have hb8 : Below g w4 _ := HB57.out.trans (ho.below (by omega))
      have hs8 := hb8.size
      have hs4 := B14.out.lt
      exact bodyPost_ret (ret81t rfl _ _ (g + 1) _ _ _ _ rfl rfl (((B17.out.set_ 0 _).set_ 1 _).set_ 2 _)) rfl ⟨A3, n + m, c3, rfl, ⟨by rw [hg]; exact xt.done (hb8.mono hBg), xt.1, xt.2.1, by omega, H.out.bi0, H.out.bi1, H.out.bt0, H.out.bt1⟩, by rw [hg]; exact HB4.out.trans hb8⟩

end Go.Proofs.Ytmgaihdepglahaa
