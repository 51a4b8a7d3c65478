/-
  Several texts in one: P6, P7, P8.
-/
import Derived.Test.YtiipglmbfgmbbaaGreatDoorPkF
namespace Go.Proofs.YtiipglmbfgmbbaaGreatDoor
open Go.RowKit Go.Shelf
attribute [local go_sem] Oper.semAt_some

/-- A row of an expression. -/
structure Nd where
  kind : Int
  op : Int
  a : Int
  b : Int
  table : List UInt8
  name : List UInt8
  vk : Int
  vn : Int
  vt : List UInt8
def Nd.cells (x : Nd) : List Value := [.int .i64 x.kind, .int .i64 x.op, .int .i64 x.a, .int .i64 x.b, tx x.table, tx x.name, .int .i64 x.vk, .int .i64 x.vn, tx x.vt]
def ndV (x : Nd) : Value := .agg x.cells.toArray
def ndRow : List Nd → List Value
  | [] => []
  | t :: r => t.cells ++ ndRow r
theorem ndRow_append : ∀ a b : List Nd, ndRow (a ++ b) = ndRow a ++ ndRow b
  | [], _ => rfl
  | t :: a, b => by rw [List.cons_append, ndRow, ndRow_append a b, ndRow, List.append_assoc]
theorem ndRow_len : ∀ a : List Nd, (ndRow a).length = a.length * 9
  | [] => rfl
  | t :: a => by rw [ndRow, List.length_append, ndRow_len a, List.length_cons]; simp [Nd.cells]; omega
/-- Rows owned, from base on. -/
def Nds (w : World) (base : Nat) (A : Option Addr) (n c : Nat) (ns : List Nd) : Prop := w.ownsRow base 109 9 (.slice A n c) n (ndRow ns)
section
variable {w w' : World} {base n c : Nat} {A : Option Addr} {ns : List Nd}
theorem Nds.len (h : Nds w base A n c ns) : ns.length = n := by
  have := h.1
  rw [ndRow_len] at this
  omega
theorem Nds.below (h : Nds w base A n c ns) (hb : Below w.heap.size w w') : Nds w' base A n c ns := World.ownsRow.below h hb
theorem Nds.lt (h : Nds w base A n c ns) : ∀ k, (Value.slice A n c).ownBlock = some k → base ≤ k ∧ k < w.heap.size := fun k hk => by
  rcases h.2 with ⟨hv, _⟩ | ⟨g', cap, cur, hv, hbs, hh, r⟩
  · rw [hv] at hk; cases hk
  · rw [hv] at hk
    injection hk with hk
    subst hk
    exact ⟨hbs, (Array.getElem?_eq_some_iff.1 hh).1⟩
theorem Nds.ne {g : Nat} {t : TypeId} {cs : Array Value} (h : Nds w base A n c ns) (hb : Blk w g t cs) (ht : t ≠ 109) : (Value.slice A n c).ownBlock ≠ some g := fun hk => by
  rcases h.2 with ⟨hv, _⟩ | ⟨g', cap, cur, hv, hbs, hh, r⟩
  · rw [hv] at hk; cases hk
  · rw [hv] at hk
    injection hk with hk
    subst hk
    unfold Blk at hb
    rw [hb] at hh
    injection hh with hh
    injection hh with _ h2 _
    exact ht h2
theorem Nds.set {q i : Nat} {t : TypeId} {cs : Array Value} (h : Nds w base A n c ns) (hp : Blk w q t cs) (ht : t ≠ 109) (u : Value) : Nds (w.setCell ⟨q, i, none⟩ u) base A n c ns := by
  refine ⟨h.1, ?_⟩
  rcases h.2 with hv | ⟨g, cap, cur, hv, hbs, hh, r⟩
  · exact .inl hv
  · refine .inr ⟨g, cap, cur, hv, hbs, Blk.far (t := 109) (cs := cur) hh (fun e => ?_) u, r⟩
    subst e
    unfold Blk at hp
    rw [hh] at hp
    injection hp with hp
    injection hp with _ h2 _
    exact ht h2.symm
end
/-- All that lies is as it was, but for the block q and rows of expressions. -/
structure Fy (q : Nat) (w w' : World) : Prop where
  size : w.heap.size ≤ w'.heap.size
  keep : ∀ j t cs, Blk w j t cs → j ≠ q → t ≠ 109 → Blk w' j t cs
theorem Fy.refl (q : Nat) (w : World) : Fy q w w := ⟨Nat.le_refl _, fun _ _ _ h _ _ => h⟩
theorem Fy.trans {q : Nat} {a b c : World} (h : Fy q a b) (k : Fy q b c) : Fy q a c := ⟨Nat.le_trans h.size k.size, fun j t cs hb hj ht => k.keep j t cs (h.keep j t cs hb hj ht) hj ht⟩
theorem Fy.of {q : Nat} {a b : World} (h : Below a.heap.size a b) : Fy q a b := ⟨h.size, fun j t cs hb _ _ => hb.below h hb.lt⟩
theorem Fy.ofq {q : Nat} {a b : World} (h : Fq a.heap.size q a b) : Fy q a b := ⟨h.size, fun j t cs hb hj _ => (h.block j hb.lt hj).trans hb⟩
theorem Fy.set (q k : Nat) (w : World) (v : Value) : Fy q w (w.setCell ⟨q, k, none⟩ v) := ⟨by simp, fun j t cs hb hj _ => hb.far (by simpa using hj) _⟩
theorem Fy.only {q g : Nat} {a b c : World} (h : Fy q a b) (ho : Only g b c) (hg : a.heap.size ≤ g) : Fy q a c := ⟨by rw [ho.size]; exact h.size, fun j t cs hb hj ht => ho.keep (h.keep j t cs hb hj ht) (by have := hb.lt; omega)⟩
theorem Fy.row {w w' : World} {base q n c : Nat} {A : Option Addr} {ns : List Nd} (hr : Nds w base A n c ns) (hg : w.grownBy w' (Value.slice A n c).ownBlock) : Fy q w w' :=
  ⟨hg.size, fun j t cs hb _ ht => (hg.block j hb.lt (fun e => hr.ne hb ht e.symm)).trans hb⟩
theorem Fq.row {w w' : World} {base q n c : Nat} {A : Option Addr} {ns : List Nd} (hr : Nds w base A n c ns) (hb : base ≤ w.heap.size) (hg : w.grownBy w' (Value.slice A n c).ownBlock) : Fq base q w w' :=
  ⟨hg.os, hg.tape, hg.output, hg.size, fun i hi _ => hg.block i (by omega) (fun e => by have := hr.lt i e.symm; omega)⟩
section
variable {w w' : World} {base q c E r o n nc : Nat} {A B : Option Addr} {L : List Tk} {M V : Value} {ns : List Nd}
theorem Pt.grown (h : Pt w base q A c L E M V r o) (hr : Nds w base B n nc ns) (hg : w.grownBy w' (Value.slice B n nc).ownBlock) : Pt w' base q A c L E M V r o :=
  ⟨(hg.block q h.blk.lt (fun e => hr.ne h.blk (by decide) e.symm)).trans h.blk, ⟨h.own.1, by
    rcases h.own.2 with hv | ⟨g, cap, cur, hv, hbs, hh, r⟩
    · exact .inl hv
    · exact .inr ⟨g, cap, cur, hv, hbs, (hg.block g (Blk.lt (t := 50) (cs := cur) hh) (fun e => hr.ne (g := g) (t := 50) (cs := cur) hh (by decide) e.symm)).trans hh, r⟩⟩, h.low, h.lt, Nat.le_trans h.le hg.size, h.rd, h.many⟩
theorem Pt.nodes (h : Pt w base q A c L E M V r o) (V' : Value) : Pt (w.setCell ⟨q, 4, none⟩ V') base q A c L E M V' r o :=
  ⟨by have := h.blk.set_ 4 V'; simpa using this, h.own.set h.blk (by decide) _, h.low, h.lt, by simpa using h.le, h.rd, h.many⟩
theorem Pt.open_ (h : Pt w base q A c L E M V r o) (o' : Nat) : Pt (w.setCell ⟨q, 5, none⟩ (.int .i64 (o' : Int))) base q A c L E M V r o' :=
  ⟨by have := h.blk.set_ 5 (.int .i64 (o' : Int)); simpa using this, h.own.set h.blk (by decide) _, h.low, h.lt, by simpa using h.le, h.rd, h.many⟩
end
theorem nd_info : (Tryz.prog.info? 109).map (fun i => (i.zero, i.size, i.bytes)) = some (some (.agg #[.int .i64 0, .int .i64 0, .int .i64 0, .int .i64 0, .string ⟨#[]⟩, .string ⟨#[]⟩, .int .i64 0, .int .i64 0, .string ⟨#[]⟩]), 9, 96) := by kernel_rfl
theorem nd_parts : ∃ i : TypeInfo, Tryz.prog.info? 109 = some i ∧ i.zero = some (.agg #[.int .i64 0, .int .i64 0, .int .i64 0, .int .i64 0, .string ⟨#[]⟩, .string ⟨#[]⟩, .int .i64 0, .int .i64 0, .string ⟨#[]⟩]) ∧ i.size = 9 ∧ i.bytes = 96 := by
  obtain ⟨i, hi, h⟩ := Option.map_eq_some_iff.1 nd_info
  simp only [Prod.mk.injEq] at h
  exact ⟨i, hi, h.1, h.2.1, h.2.2⟩
/-- One more row, at a step of a region that draws. -/
theorem step_append_nd {w : World} {ops : Array Oper} {E : Prop} {o : Oper} {a : Act} {K : Act → World → Prop} {Q : Exit → Act → World → Prop} (hgd : o.guard = none) (s x : Operand)
    (ho : o.op = .call { callee := .builtin .append, args := #[s, x], argTypes := #[32, 32] }) (base : Nat) (A : Option Addr) (n c : Nat) (ns : List Nd) (hs : a.eval s = .slice A n c) (hown : Nds w base A n c ns)
    (p : Nat) (nd : Nd) (T1 T2 T3 : ByteArray) (hT : (⟨nd.table.toArray⟩ : ByteArray) = T1 ∧ (⟨nd.name.toArray⟩ : ByteArray) = T2 ∧ (⟨nd.vt.toArray⟩ : ByteArray) = T3) (hx : a.eval x = .slice (some ⟨p, 0, none⟩) 1 1)
    (hp : Blk w p 109 #[.int .i64 nd.kind, .int .i64 nd.op, .int .i64 nd.a, .int .i64 nd.b, .string T1, .string T2, .int .i64 nd.vk, .int .i64 nd.vn, .string T3]) (hsum : n + 1 ≤ 1000000) (hbase : base ≤ w.heap.size)
    (h : ∀ A2 c2 w', Nds w' base A2 (n + 1) c2 (ns ++ [nd]) → w.grownBy w' (Value.slice A n c).ownBlock → K (a.put o.dst (.slice A2 (n + 1) c2)) w') : if Region.wanted o (yielded ops a.tmps) = true then Oper.wp Tryz.prog o a w K Q else E := by
  obtain ⟨i0, hi, hz0, hz1, hz2⟩ := nd_parts
  obtain ⟨rfl, rfl, rfl⟩ := hT
  have hw : Region.wanted o (yielded ops a.tmps) = true := by simp [Region.wanted, hgd]
  rw [if_pos hw]
  refine wp_append_own w s x 32 ho base 109 i0 _ 9 96 Tryz.underlying32 hi hz0 hz1 hz2 rfl (by decide) _ n _ hs hown ⟨p, 0, none⟩ 1 1 nd.cells hx rfl ?_ (by simp [Value.oneCell', Nd.cells]) (by unfold maxLen; omega) (by omega) hbase ?_
  · intro j u hj
    have e : (⟨p, 0, none⟩ : Addr).add j = ⟨p, 0 + j, none⟩ := by by_cases h0 : j = 0 <;> simp [Addr.add, h0]
    rw [e, Nat.zero_add, hp.cell, ← hj]
    simp [Nd.cells]
  · intro v' w' hown' hg _
    have e : ndRow ns ++ nd.cells = ndRow (ns ++ [nd]) := by rw [ndRow_append]; simp [ndRow]
    rw [e] at hown'
    obtain ⟨A2, c2, rfl⟩ : ∃ A2 c2, v' = .slice A2 (n + 1) c2 := by
      rcases hown'.2 with ⟨_, h0⟩ | ⟨g, cap, cur, hv, _⟩
      · omega
      · exact ⟨_, _, hv⟩
    exact h A2 c2 w' hown' hg
set_option maxRecDepth 100000 in
set_option maxHeartbeats 8000000 in
theorem row_any (nd : Nd) (w : World) (base q c E r o n nc : Nat) (A B : Option Addr) (L : List Tk) (M : Value) (ns : List Nd) (h : Pt w base q A c L E M (.slice B n nc) r o) (hN : Nds w base B n nc ns) (hn : n ≤ 1000) :
    Calls Tryz.prog 163 #[.pointer (some ⟨q, 0, none⟩), ndV nd] w fun e w' => e = .returned (.int .i64 (n : Int)) ∧ ∃ A2 c2, Pt w' base q A c L E M (.slice A2 (n + 1) c2) r o ∧ Nds w' base A2 (n + 1) c2 (ns ++ [nd]) ∧ Fq base q w w' ∧ Fy q w w' := by
  obtain ⟨k, hk⟩ : ∃ k, w.heap.size = k := ⟨_, rfl⟩
  obtain ⟨T1, h1⟩ : ∃ T : ByteArray, (⟨nd.table.toArray⟩ : ByteArray) = T := ⟨_, rfl⟩
  obtain ⟨T2, h2⟩ : ∃ T : ByteArray, (⟨nd.name.toArray⟩ : ByteArray) = T := ⟨_, rfl⟩
  obtain ⟨T3, h3⟩ : ∃ T : ByteArray, (⟨nd.vt.toArray⟩ : ByteArray) = T := ⟨_, rfl⟩
  have HT := Lib.hid (And.intro h1 (And.intro h2 h3))
  have eV : ndV nd = .agg #[.int .i64 nd.kind, .int .i64 nd.op, .int .i64 nd.a, .int .i64 nd.b, .string T1, .string T2, .int .i64 nd.vk, .int .i64 nd.vn, .string T3] := by unfold ndV Nd.cells; rw [← h1, ← h2, ← h3]
  rw [eV]
  have NL : Hid (∀ j, (Value.slice B n nc).ownBlock = some j → base ≤ j ∧ j < k) := Lib.hid (fun j hj => by rw [← hk]; exact hN.lt j hj)
  have hqk : q < k := by have := h.lt; have := h.le; omega
  have AL : Below w.heap.size w (w.alloc (.cells #[.int .i64 nd.kind, .int .i64 nd.op, .int .i64 nd.a, .int .i64 nd.b, .string T1, .string T2, .int .i64 nd.vk, .int .i64 nd.vn, .string T3] 109)).drew := ((Below.refl _ _).alloc (Nat.le_refl _) _).trans (below_drewN' _ _ 1)
  have P0 := Lib.hid (h.on AL)
  have N0 := Lib.hid (hN.below AL)
  have F0 := Lib.hid (Fq.of (q := q) AL h.le)
  have Y0 := Lib.hid (Fy.of (q := q) AL)
  have K0 : Hid (Blk (w.alloc (.cells #[.int .i64 nd.kind, .int .i64 nd.op, .int .i64 nd.a, .int .i64 nd.b, .string T1, .string T2, .int .i64 nd.vk, .int .i64 nd.vn, .string T3] 109)).drew k 109 #[.int .i64 nd.kind, .int .i64 nd.op, .int .i64 nd.a, .int .i64 nd.b, .string T1, .string T2, .int .i64 nd.vk, .int .i64 nd.vn, .string T3]) := Lib.hid (by rw [← hk]; exact Blk.new _ _ _)
  clear h hN h1 h2 h3 eV AL
  go_enter Tryz.func163, Tryz.ntmps163
  go_upto_region 1 with fail
  refine wp_region_noPanic ?_
  refine wp_region_held_drew (S := fun w' => w'.cell? ⟨k, 0, none⟩ = some (.int .i64 nd.kind) ∧ w'.cell? ⟨k, 1, none⟩ = some (.int .i64 nd.op) ∧ w'.cell? ⟨k, 2, none⟩ = some (.int .i64 nd.a) ∧ w'.cell? ⟨k, 3, none⟩ = some (.int .i64 nd.b) ∧ w'.cell? ⟨k, 4, none⟩ = some (.string T1) ∧ w'.cell? ⟨k, 5, none⟩ = some (.string T2) ∧ w'.cell? ⟨k, 6, none⟩ = some (.int .i64 nd.vk) ∧ w'.cell? ⟨k, 7, none⟩ = some (.int .i64 nd.vn) ∧ w'.cell? ⟨k, 8, none⟩ = some (.string T3)) (by kernel_rfl) ⟨K0.out.cell 0, K0.out.cell 1, K0.out.cell 2, K0.out.cell 3, K0.out.cell 4, K0.out.cell 5, K0.out.cell 6, K0.out.cell 7, K0.out.cell 8⟩ (fun hHeld => ?_)
  generalize (w.alloc (.cells #[.int .i64 nd.kind, .int .i64 nd.op, .int .i64 nd.a, .int .i64 nd.b, .string T1, .string T2, .int .i64 nd.vk, .int .i64 nd.vn, .string T3] 109)).drew = v0 at *
  refine take_d (i := 0) (d := 5) (v := ?z1) rfl rfl (by kernel_rfl) (by kernel_rfl) (by kernel_rfl) (fun _ _ _ h => h) (Or.inl ⟨by kernel_rfl, ?z1h⟩) hHeld ?z1n
  case z1h => (intro w hSw; (try dsimp only at hSw); go_split_ands; go_simp; (try exact rfl))
  try simp only [Act.put, List.setIfInBounds_toArray, List.set_cons_zero, List.set_cons_succ]
  refine take_d (i := 1) (d := 6) (v := ?z2) rfl rfl (by kernel_rfl) (by kernel_rfl) (by kernel_rfl) (fun _ _ _ h => h) (Or.inl ⟨by kernel_rfl, ?z2h⟩) hHeld ?z2n
  case z2h => (intro w hSw; (try dsimp only at hSw); go_split_ands; go_simp; (try exact rfl))
  try simp only [Act.put, List.setIfInBounds_toArray, List.set_cons_zero, List.set_cons_succ]
  refine take_d (i := 2) (d := 7) (v := ?z3) rfl rfl (by kernel_rfl) (by kernel_rfl) (by kernel_rfl) (fun _ _ _ h => h) (Or.inl ⟨by kernel_rfl, ?z3h⟩) hHeld ?z3n
  case z3h => (intro w hSw; (try dsimp only at hSw); go_split_ands; go_simp; (try exact rfl))
  try simp only [Act.put, List.setIfInBounds_toArray, List.set_cons_zero, List.set_cons_succ]
  refine take_d (i := 3) (d := 8) (v := ?z4) rfl rfl (by kernel_rfl) (by kernel_rfl) (by kernel_rfl) (fun _ _ _ h => h) (Or.inl ⟨by kernel_rfl, ?z4h⟩) hHeld ?z4n
  case z4h => (intro w hSw; (try dsimp only at hSw); go_split_ands; go_simp; (try exact rfl))
  try simp only [Act.put, List.setIfInBounds_toArray, List.set_cons_zero, List.set_cons_succ]
  refine take_d (i := 5) (d := 10) (v := ?z5) rfl rfl (by kernel_rfl) (by kernel_rfl) (by kernel_rfl) (fun _ _ _ h => h) (Or.inl ⟨by kernel_rfl, ?z5h⟩) hHeld ?z5n
  case z5h => (intro w hSw; (try dsimp only at hSw); go_split_ands; go_simp; (try exact rfl))
  try simp only [Act.put, List.setIfInBounds_toArray, List.set_cons_zero, List.set_cons_succ]
  refine wpAnyH_ready (rs := [4, 6]) (by kernel_rfl) (by simp) ?_
  refine AllReadyH.cons rfl (fun K hK => ?_) (AllReadyH.cons rfl (fun K hK => ?_) AllReadyH.nil)
  · skip
    have x4 : v0.cell? ⟨q, 4, none⟩ = some (.slice B n nc) := P0.out.blk.cell 4
    go_simp
    refine hK.out _ _ ⟨K0.out.cell 0, K0.out.cell 1, K0.out.cell 2, K0.out.cell 3, K0.out.cell 4, K0.out.cell 5, K0.out.cell 6, K0.out.cell 7, K0.out.cell 8⟩ (fun hHeld => ?_)
    clear hK K x4
    try simp only [Act.put, List.setIfInBounds_toArray, List.set_cons_zero, List.set_cons_succ]
    refine wpAnyH_ready (rs := [6]) (by kernel_rfl) (by simp) ?_
    refine AllReadyH.cons rfl (fun K hK => ?_) AllReadyH.nil
    go_simp
    have AL : Below v0.heap.size v0 (v0.alloc (.cells #[.int .i64 nd.kind, .int .i64 nd.op, .int .i64 nd.a, .int .i64 nd.b, .string T1, .string T2, .int .i64 nd.vk, .int .i64 nd.vn, .string T3] 109)) := (Below.refl _ _).alloc (Nat.le_refl _) _
    have P1 := Lib.hid (P0.out.on AL)
    have N1 := Lib.hid (N0.out.below AL)
    have K1 : Hid (Blk (v0.alloc (.cells #[.int .i64 nd.kind, .int .i64 nd.op, .int .i64 nd.a, .int .i64 nd.b, .string T1, .string T2, .int .i64 nd.vk, .int .i64 nd.vn, .string T3] 109)) k 109 #[.int .i64 nd.kind, .int .i64 nd.op, .int .i64 nd.a, .int .i64 nd.b, .string T1, .string T2, .int .i64 nd.vk, .int .i64 nd.vn, .string T3]) := Lib.hid (K0.out.below AL K0.out.lt)
    have F1 := Lib.hid (F0.out.trans (Fq.of (q := q) AL (by have := P0.out.le; omega)))
    have Y1 := Lib.hid (Y0.out.trans (Fy.of (q := q) AL))
    have R1 : Hid (Blk (v0.alloc (.cells #[.int .i64 nd.kind, .int .i64 nd.op, .int .i64 nd.a, .int .i64 nd.b, .string T1, .string T2, .int .i64 nd.vk, .int .i64 nd.vn, .string T3] 109)) v0.heap.size 109 #[.int .i64 nd.kind, .int .i64 nd.op, .int .i64 nd.a, .int .i64 nd.b, .string T1, .string T2, .int .i64 nd.vk, .int .i64 nd.vn, .string T3]) := Lib.hid (Blk.new _ _ _)
    clear AL
    generalize v0.heap.size = p5 at *
    generalize (v0.alloc (.cells #[.int .i64 nd.kind, .int .i64 nd.op, .int .i64 nd.a, .int .i64 nd.b, .string T1, .string T2, .int .i64 nd.vk, .int .i64 nd.vn, .string T3] 109)) = v1 at *
    refine hK.out _ _ ⟨K1.out.cell 0, K1.out.cell 1, K1.out.cell 2, K1.out.cell 3, K1.out.cell 4, K1.out.cell 5, K1.out.cell 6, K1.out.cell 7, K1.out.cell 8⟩ (fun hHeld => ?_)
    clear hK K
    try simp only [Act.put, List.setIfInBounds_toArray, List.set_cons_zero, List.set_cons_succ]
    refine wpAnyH_ready (rs := [7]) (by kernel_rfl) (by simp) ?_
    refine AllReadyH.cons rfl (fun K hK => ?_) AllReadyH.nil
    refine step_append_nd rfl (.tmp 9) (.tmp 11) rfl base B n nc ns rfl N1.out p5 nd T1 T2 T3 HT.out rfl R1.out (by omega) P1.out.le ?_
    intro A2 c2 v2 o2 g2
    have P2 := Lib.hid (P1.out.grown N1.out g2)
    have N2 := Lib.hid o2
    have K2 : Hid (Blk v2 k 109 #[.int .i64 nd.kind, .int .i64 nd.op, .int .i64 nd.a, .int .i64 nd.b, .string T1, .string T2, .int .i64 nd.vk, .int .i64 nd.vn, .string T3]) := Lib.hid ((g2.block k K1.out.lt (fun h => by have := (NL.out k h.symm).2; omega)).trans K1.out)
    have F2 := Lib.hid (F1.out.trans (Fq.row N1.out P1.out.le g2))
    have Y2 := Lib.hid (Y1.out.trans (Fy.row (q := q) N1.out g2))
    clear o2 g2
    refine hK.out _ _ ⟨K2.out.cell 0, K2.out.cell 1, K2.out.cell 2, K2.out.cell 3, K2.out.cell 4, K2.out.cell 5, K2.out.cell 6, K2.out.cell 7, K2.out.cell 8⟩ (fun hHeld => ?_)
    clear hK K
    try simp only [Act.put, List.setIfInBounds_toArray, List.set_cons_zero, List.set_cons_succ]
    refine take_d (i := 8) (d := 13) (v := ?z6) rfl rfl (by kernel_rfl) (by kernel_rfl) (by kernel_rfl) (fun _ _ _ h => h) (Or.inl ⟨by kernel_rfl, ?z6h⟩) hHeld ?z6n
    case z6h => (intro w hSw; (try dsimp only at hSw); go_split_ands; go_simp; (try exact rfl))
    try simp only [Act.put, List.setIfInBounds_toArray, List.set_cons_zero, List.set_cons_succ]
    refine take_d (i := 9) (d := 14) (v := ?z7) rfl rfl (by kernel_rfl) (by kernel_rfl) (by kernel_rfl) (fun _ _ _ h => h) (Or.inl ⟨by kernel_rfl, ?z7h⟩) hHeld ?z7n
    case z7h => (intro w hSw; (try dsimp only at hSw); go_split_ands; go_simp; (try exact rfl))
    try simp only [Act.put, List.setIfInBounds_toArray, List.set_cons_zero, List.set_cons_succ]
    refine wpAnyH_ready (rs := [10]) (by kernel_rfl) (by simp) ?_
    refine AllReadyH.cons rfl (fun K hK => ?_) AllReadyH.nil
    have x4 : v2.cell? ⟨q, 4, none⟩ = some (.slice B n nc) := P2.out.blk.cell 4
    have y4 : v2.frozen? ⟨q, 4, none⟩ = false := P2.out.blk.frozen 4
    go_simp
    clear x4 y4
    have P3 := Lib.hid (P2.out.nodes (.slice A2 (n + 1) c2))
    have N3 := Lib.hid (N2.out.set P2.out.blk (by decide) (q := q) (i := 4) (.slice A2 (n + 1) c2))
    have K3 : Hid (Blk (v2.setCell ⟨q, 4, none⟩ (.slice A2 (n + 1) c2)) k 109 #[.int .i64 nd.kind, .int .i64 nd.op, .int .i64 nd.a, .int .i64 nd.b, .string T1, .string T2, .int .i64 nd.vk, .int .i64 nd.vn, .string T3]) := Lib.hid (K2.out.far (by simp; omega) _)
    have F3 := Lib.hid (F2.out.trans (Fq.set base q 4 v2 (.slice A2 (n + 1) c2)))
    have Y3 := Lib.hid (Y2.out.trans (Fy.set q 4 v2 (.slice A2 (n + 1) c2)))
    generalize (v2.setCell ⟨q, 4, none⟩ (.slice A2 (n + 1) c2)) = v3 at *
    refine hK.out _ _ ⟨K3.out.cell 0, K3.out.cell 1, K3.out.cell 2, K3.out.cell 3, K3.out.cell 4, K3.out.cell 5, K3.out.cell 6, K3.out.cell 7, K3.out.cell 8⟩ (fun hHeld => ?_)
    clear hK K
    try simp only [Act.put, List.setIfInBounds_toArray, List.set_cons_zero, List.set_cons_succ]
    refine wpAnyH_done (by kernel_rfl) ?_ _
    refine NoPanic.normal ?_
    have x4 : v3.cell? ⟨q, 4, none⟩ = some (.slice A2 (n + 1) c2) := P3.out.blk.cell 4
    go_wp2_with fail
    go_ret
    exact ⟨rfl, A2, c2, P3.out, N3.out, F3.out, Y3.out⟩
  · skip
    go_simp
    have AL : Below v0.heap.size v0 (v0.alloc (.cells #[.int .i64 nd.kind, .int .i64 nd.op, .int .i64 nd.a, .int .i64 nd.b, .string T1, .string T2, .int .i64 nd.vk, .int .i64 nd.vn, .string T3] 109)) := (Below.refl _ _).alloc (Nat.le_refl _) _
    have P1 := Lib.hid (P0.out.on AL)
    have N1 := Lib.hid (N0.out.below AL)
    have K1 : Hid (Blk (v0.alloc (.cells #[.int .i64 nd.kind, .int .i64 nd.op, .int .i64 nd.a, .int .i64 nd.b, .string T1, .string T2, .int .i64 nd.vk, .int .i64 nd.vn, .string T3] 109)) k 109 #[.int .i64 nd.kind, .int .i64 nd.op, .int .i64 nd.a, .int .i64 nd.b, .string T1, .string T2, .int .i64 nd.vk, .int .i64 nd.vn, .string T3]) := Lib.hid (K0.out.below AL K0.out.lt)
    have F1 := Lib.hid (F0.out.trans (Fq.of (q := q) AL (by have := P0.out.le; omega)))
    have Y1 := Lib.hid (Y0.out.trans (Fy.of (q := q) AL))
    have R1 : Hid (Blk (v0.alloc (.cells #[.int .i64 nd.kind, .int .i64 nd.op, .int .i64 nd.a, .int .i64 nd.b, .string T1, .string T2, .int .i64 nd.vk, .int .i64 nd.vn, .string T3] 109)) v0.heap.size 109 #[.int .i64 nd.kind, .int .i64 nd.op, .int .i64 nd.a, .int .i64 nd.b, .string T1, .string T2, .int .i64 nd.vk, .int .i64 nd.vn, .string T3]) := Lib.hid (Blk.new _ _ _)
    clear AL
    generalize v0.heap.size = p5 at *
    generalize (v0.alloc (.cells #[.int .i64 nd.kind, .int .i64 nd.op, .int .i64 nd.a, .int .i64 nd.b, .string T1, .string T2, .int .i64 nd.vk, .int .i64 nd.vn, .string T3] 109)) = v1 at *
    refine hK.out _ _ ⟨K1.out.cell 0, K1.out.cell 1, K1.out.cell 2, K1.out.cell 3, K1.out.cell 4, K1.out.cell 5, K1.out.cell 6, K1.out.cell 7, K1.out.cell 8⟩ (fun hHeld => ?_)
    clear hK K
    try simp only [Act.put, List.setIfInBounds_toArray, List.set_cons_zero, List.set_cons_succ]
    refine wpAnyH_ready (rs := [4]) (by kernel_rfl) (by simp) ?_
    refine AllReadyH.cons rfl (fun K hK => ?_) AllReadyH.nil
    have x4 : v1.cell? ⟨q, 4, none⟩ = some (.slice B n nc) := P1.out.blk.cell 4
    go_simp
    refine hK.out _ _ ⟨K1.out.cell 0, K1.out.cell 1, K1.out.cell 2, K1.out.cell 3, K1.out.cell 4, K1.out.cell 5, K1.out.cell 6, K1.out.cell 7, K1.out.cell 8⟩ (fun hHeld => ?_)
    clear hK K x4
    try simp only [Act.put, List.setIfInBounds_toArray, List.set_cons_zero, List.set_cons_succ]
    refine wpAnyH_ready (rs := [7]) (by kernel_rfl) (by simp) ?_
    refine AllReadyH.cons rfl (fun K hK => ?_) AllReadyH.nil
    refine step_append_nd rfl (.tmp 9) (.tmp 11) rfl base B n nc ns rfl N1.out p5 nd T1 T2 T3 HT.out rfl R1.out (by omega) P1.out.le ?_
    intro A2 c2 v2 o2 g2
    have P2 := Lib.hid (P1.out.grown N1.out g2)
    have N2 := Lib.hid o2
    have K2 : Hid (Blk v2 k 109 #[.int .i64 nd.kind, .int .i64 nd.op, .int .i64 nd.a, .int .i64 nd.b, .string T1, .string T2, .int .i64 nd.vk, .int .i64 nd.vn, .string T3]) := Lib.hid ((g2.block k K1.out.lt (fun h => by have := (NL.out k h.symm).2; omega)).trans K1.out)
    have F2 := Lib.hid (F1.out.trans (Fq.row N1.out P1.out.le g2))
    have Y2 := Lib.hid (Y1.out.trans (Fy.row (q := q) N1.out g2))
    clear o2 g2
    refine hK.out _ _ ⟨K2.out.cell 0, K2.out.cell 1, K2.out.cell 2, K2.out.cell 3, K2.out.cell 4, K2.out.cell 5, K2.out.cell 6, K2.out.cell 7, K2.out.cell 8⟩ (fun hHeld => ?_)
    clear hK K
    try simp only [Act.put, List.setIfInBounds_toArray, List.set_cons_zero, List.set_cons_succ]
    refine take_d (i := 8) (d := 13) (v := ?z8) rfl rfl (by kernel_rfl) (by kernel_rfl) (by kernel_rfl) (fun _ _ _ h => h) (Or.inl ⟨by kernel_rfl, ?z8h⟩) hHeld ?z8n
    case z8h => (intro w hSw; (try dsimp only at hSw); go_split_ands; go_simp; (try exact rfl))
    try simp only [Act.put, List.setIfInBounds_toArray, List.set_cons_zero, List.set_cons_succ]
    refine take_d (i := 9) (d := 14) (v := ?z9) rfl rfl (by kernel_rfl) (by kernel_rfl) (by kernel_rfl) (fun _ _ _ h => h) (Or.inl ⟨by kernel_rfl, ?z9h⟩) hHeld ?z9n
    case z9h => (intro w hSw; (try dsimp only at hSw); go_split_ands; go_simp; (try exact rfl))
    try simp only [Act.put, List.setIfInBounds_toArray, List.set_cons_zero, List.set_cons_succ]
    refine wpAnyH_ready (rs := [10]) (by kernel_rfl) (by simp) ?_
    refine AllReadyH.cons rfl (fun K hK => ?_) AllReadyH.nil
    have x4 : v2.cell? ⟨q, 4, none⟩ = some (.slice B n nc) := P2.out.blk.cell 4
    have y4 : v2.frozen? ⟨q, 4, none⟩ = false := P2.out.blk.frozen 4
    go_simp
    clear x4 y4
    have P3 := Lib.hid (P2.out.nodes (.slice A2 (n + 1) c2))
    have N3 := Lib.hid (N2.out.set P2.out.blk (by decide) (q := q) (i := 4) (.slice A2 (n + 1) c2))
    have K3 : Hid (Blk (v2.setCell ⟨q, 4, none⟩ (.slice A2 (n + 1) c2)) k 109 #[.int .i64 nd.kind, .int .i64 nd.op, .int .i64 nd.a, .int .i64 nd.b, .string T1, .string T2, .int .i64 nd.vk, .int .i64 nd.vn, .string T3]) := Lib.hid (K2.out.far (by simp; omega) _)
    have F3 := Lib.hid (F2.out.trans (Fq.set base q 4 v2 (.slice A2 (n + 1) c2)))
    have Y3 := Lib.hid (Y2.out.trans (Fy.set q 4 v2 (.slice A2 (n + 1) c2)))
    generalize (v2.setCell ⟨q, 4, none⟩ (.slice A2 (n + 1) c2)) = v3 at *
    refine hK.out _ _ ⟨K3.out.cell 0, K3.out.cell 1, K3.out.cell 2, K3.out.cell 3, K3.out.cell 4, K3.out.cell 5, K3.out.cell 6, K3.out.cell 7, K3.out.cell 8⟩ (fun hHeld => ?_)
    clear hK K
    try simp only [Act.put, List.setIfInBounds_toArray, List.set_cons_zero, List.set_cons_succ]
    refine wpAnyH_done (by kernel_rfl) ?_ _
    refine NoPanic.normal ?_
    have x4 : v3.cell? ⟨q, 4, none⟩ = some (.slice A2 (n + 1) c2) := P3.out.blk.cell 4
    go_wp2_with fail
    go_ret
    exact ⟨rfl, A2, c2, P3.out, N3.out, F3.out, Y3.out⟩
end Go.Proofs.YtiipglmbfgmbbaaGreatDoor

namespace Go.Proofs.YtiipglmbfgmbbaaGreatDoor
open Go.RowKit Go.Shelf

/-- The levels of an expression. -/
inductive Lv
  | or | and | not | test | sum | prod | minus | single
/-- What is read: a level; or what stands behind a row, at a rank. -/
inductive Gx
  | lv (l : Lv)
  | lp (rank : Nat) (part : Lv) (row : Nat)
abbrev Rs := Option (Except (Int × Nat) (Nat × Nat × List Nd))
def bnd (a : Rs) (f : Nat → Nat → List Nd → Rs) : Rs :=
  match a with
  | none => none
  | some (.error x) => some (.error x)
  | some (.ok (row, r, ns)) => f row r ns
def one_ (nd : Nd) (r : Nat) (ns : List Nd) : Rs := some (.ok (ns.length, r, ns ++ [nd]))
def nd1 (kind a : Nat) : Nd := ⟨kind, 0, a, 0, [], [], 0, 0, []⟩
def nd2 (x : Nat × Nat × Nat) (a b : Nat) : Nd := ⟨x.2.1, x.2.2, a, b, [], [], 0, 0, []⟩
def ndC (table name : List UInt8) : Nd := ⟨2, 0, 0, 0, table, name, 0, 0, []⟩
def ndV1 (vk vn : Int) (vt : List UInt8) : Nd := ⟨1, 0, 0, 0, [], [], vk, vn, vt⟩
def refF (L : List Tk) (E r : Nat) : Except (Int × Nat) ((List UInt8 × List UInt8) × Nat) :=
  match nameF L E r with
  | .error x => .error x
  | .ok (u, r1) => if isB (tokAt L E r1) [46] = true then (match nameF L E (r1 + 1) with | .error x => .error x | .ok (v, r2) => .ok ((u, v), r2)) else .ok (([], u), r1)
/-- A value: its kind, number and text. -/
def valF (L : List Tk) (E r : Nat) : Except (Int × Nat) ((Int × Int × List UInt8) × Nat) :=
  if ((tokAt L E r).kind == 4) = true then .ok ((4, 0, (tokAt L E r).text), r + 1)
  else if isB (tokAt L E r) [84, 82, 85, 69] = true then .ok ((2, 1, []), r + 1)
  else if isB (tokAt L E r) [70, 65, 76, 83, 69] = true then .ok ((2, 0, []), r + 1)
  else if isB (tokAt L E r) [78, 85, 76, 76] = true then .ok ((1, 0, []), r + 1)
  else if ((tokAt L E r).kind == 3) = true then .ok ((3, (tokAt L E r).num, []), r + 1) else .error (210, r)
def NOTs : List UInt8 := [78, 79, 84]
def NULLs : List UInt8 := [78, 85, 76, 76]
/-- An expression, read from a place on, so many being open; in so many steps. -/
def ex (L : List Tk) (E : Nat) : Nat → Gx → Nat → Nat → List Nd → Rs
  | 0, _, _, _, _ => none
  | n + 1, .lv .or, r, o, ns => bnd (ex L E n (.lv .and) r o ns) fun row r ns => ex L E n (.lp 1 .and row) r o ns
  | n + 1, .lv .and, r, o, ns => bnd (ex L E n (.lv .not) r o ns) fun row r ns => ex L E n (.lp 2 .not row) r o ns
  | n + 1, .lv .not, r, o, ns => if isB (tokAt L E r) NOTs = true then (if o = 16 then some (.error (211, r)) else bnd (ex L E n (.lv .not) (r + 1) (o + 1) ns) fun row r ns => one_ (nd1 3 row) r ns) else ex L E n (.lv .test) r o ns
  | n + 1, .lv .test, r, o, ns => bnd (ex L E n (.lv .sum) r o ns) fun row r ns =>
      if (opX L E r 3).2 = true then bnd (ex L E n (.lv .sum) (r + 1) o ns) fun row2 r2 ns => one_ (nd2 (opX L E r 3).1 row row2) r2 ns
      else if isB (tokAt L E r) [73, 83] = true then (match wordsF L E (if isB (tokAt L E (r + 1)) NOTs = true then r + 2 else r + 1) [NULLs] with
        | .error x => some (.error x)
        | .ok r3 => one_ (nd1 (if isB (tokAt L E (r + 1)) NOTs = true then 10 else 9) row) r3 ns)
      else some (.ok (row, r, ns))
  | n + 1, .lv .sum, r, o, ns => bnd (ex L E n (.lv .prod) r o ns) fun row r ns => ex L E n (.lp 4 .prod row) r o ns
  | n + 1, .lv .prod, r, o, ns => bnd (ex L E n (.lv .minus) r o ns) fun row r ns => ex L E n (.lp 5 .minus row) r o ns
  | n + 1, .lv .minus, r, o, ns => if isB (tokAt L E r) [45] = true then (if o = 16 then some (.error (211, r)) else bnd (ex L E n (.lv .minus) (r + 1) (o + 1) ns) fun row r ns => one_ (nd1 4 row) r ns) else ex L E n (.lv .single) r o ns
  | n + 1, .lv .single, r, o, ns => if isB (tokAt L E r) [40] = true then (if o = 16 then some (.error (211, r)) else bnd (ex L E n (.lv .or) (r + 1) (o + 1) ns) fun row r ns =>
        if isB (tokAt L E r) [41] = true then some (.ok (row, r + 1, ns)) else some (.error (210, r)))
      else if ((tokAt L E r).kind == 2) = true then (match refF L E r with | .error x => some (.error x) | .ok ((u, v), r2) => one_ (ndC u v) r2 ns)
      else (match valF L E r with | .error x => some (.error x) | .ok ((k, v, t), r2) => one_ (ndV1 k v t) r2 ns)
  | n + 1, .lp rank part row, r, o, ns => if (opX L E r rank).2 = true then bnd (ex L E n (.lv part) (r + 1) o ns) fun row2 r2 ns => ex L E n (.lp rank part ns.length) r2 o (ns ++ [nd2 (opX L E r rank).1 row row2]) else some (.ok (row, r, ns))
theorem bnd_mono {a a' : Rs} {f f' : Nat → Nat → List Nd → Rs} {x : Except (Int × Nat) (Nat × Nat × List Nd)} (h : bnd a f = some x) (ha : ∀ y, a = some y → a' = some y) (hf : ∀ row r ns y, f row r ns = some y → f' row r ns = some y) : bnd a' f' = some x := by
  unfold bnd at h
  cases a with
  | none => cases h
  | some y =>
    rw [ha y rfl]
    cases y with
    | error e => exact h
    | ok p =>
      obtain ⟨row, r, ns⟩ := p
      exact hf _ _ _ _ h
/-- More steps give the same. -/
theorem ex_mono (L : List Tk) (E : Nat) : ∀ (n m : Nat) (g : Gx) (r o : Nat) (ns : List Nd) (x : Except (Int × Nat) (Nat × Nat × List Nd)), n ≤ m → ex L E n g r o ns = some x → ex L E m g r o ns = some x
  | 0, _, _, _, _, _, _, _, h => by cases h
  | n + 1, 0, _, _, _, _, _, hm, _ => by omega
  | n + 1, m + 1, g, r, o, ns, x, hm, h => by
    have ih := fun g r o ns y => ex_mono L E n m g r o ns y (by omega)
    cases g with
    | lp rank part row =>
      unfold ex at h ⊢
      split
      · rename_i hc
        rw [if_pos hc] at h
        exact bnd_mono h (fun y => ih _ _ _ _ y) (fun _ _ _ y => ih _ _ _ _ y)
      · rename_i hc
        rw [if_neg hc] at h
        exact h
    | lv l =>
      cases l with
      | or => unfold ex at h ⊢; exact bnd_mono h (fun y => ih _ _ _ _ y) (fun _ _ _ y => ih _ _ _ _ y)
      | and => unfold ex at h ⊢; exact bnd_mono h (fun y => ih _ _ _ _ y) (fun _ _ _ y => ih _ _ _ _ y)
      | sum => unfold ex at h ⊢; exact bnd_mono h (fun y => ih _ _ _ _ y) (fun _ _ _ y => ih _ _ _ _ y)
      | prod => unfold ex at h ⊢; exact bnd_mono h (fun y => ih _ _ _ _ y) (fun _ _ _ y => ih _ _ _ _ y)
      | not =>
        unfold ex at h ⊢
        by_cases c : isB (tokAt L E r) NOTs = true
        · rw [if_pos c] at h ⊢
          by_cases c2 : o = 16
          · rw [if_pos c2] at h ⊢; exact h
          · rw [if_neg c2] at h ⊢
            exact bnd_mono h (fun y => ih _ _ _ _ y) (fun _ _ _ y hy => hy)
        · rw [if_neg c] at h ⊢
          exact ih _ _ _ _ _ h
      | minus =>
        unfold ex at h ⊢
        by_cases c : isB (tokAt L E r) [45] = true
        · rw [if_pos c] at h ⊢
          by_cases c2 : o = 16
          · rw [if_pos c2] at h ⊢; exact h
          · rw [if_neg c2] at h ⊢
            exact bnd_mono h (fun y => ih _ _ _ _ y) (fun _ _ _ y hy => hy)
        · rw [if_neg c] at h ⊢
          exact ih _ _ _ _ _ h
      | single =>
        unfold ex at h ⊢
        by_cases c : isB (tokAt L E r) [40] = true
        · rw [if_pos c] at h ⊢
          by_cases c2 : o = 16
          · rw [if_pos c2] at h ⊢; exact h
          · rw [if_neg c2] at h ⊢
            exact bnd_mono h (fun y => ih _ _ _ _ y) (fun _ _ _ y hy => hy)
        · rw [if_neg c] at h ⊢
          exact h
      | test =>
        unfold ex at h ⊢
        refine bnd_mono h (fun y => ih _ _ _ _ y) (fun row r ns y hy => ?_)
        by_cases c : (opX L E r 3).2 = true
        · rw [if_pos c] at hy ⊢
          exact bnd_mono hy (fun y => ih _ _ _ _ y) (fun _ _ _ y hy => hy)
        · rw [if_neg c] at hy ⊢
          exact hy
end Go.Proofs.YtiipglmbfgmbbaaGreatDoor

namespace Go.Proofs.YtiipglmbfgmbbaaGreatDoor
open Go.RowKit Go.Shelf
attribute [local go_sem] Oper.semAt_some

/-- The parser in memory. -/
structure St (w : World) (base q : Nat) (A : Option Addr) (c : Nat) (L : List Tk) (E m r o : Nat) (B : Option Addr) (nc : Nat) (ns : List Nd) : Prop where
  pt : Pt w base q A c L E (.map (some m)) (.slice B ns.length nc) r o
  nds : Nds w base B ns.length nc ns
  mo : Mo w m
  hm : m < base
  hq : m ≠ q
  few : ns.length ≤ r
theorem Nds.fq {w w' : World} {base q n c : Nat} {A : Option Addr} {ns : List Nd} {t : TypeId} {cs : Array Value} (h : Nds w base A n c ns) (hq : Blk w q t cs) (ht : t ≠ 109) (hF : Fq w.heap.size q w w') : Nds w' base A n c ns := by
  refine ⟨h.1, ?_⟩
  rcases h.2 with hv | ⟨g, cap, cur, hv, hbs, hh, r⟩
  · exact .inl hv
  · refine .inr ⟨g, cap, cur, hv, hbs, (hF.block g (Blk.lt (t := 109) (cs := cur) hh) (fun e => ?_)).trans hh, r⟩
    subst e
    unfold Blk at hq
    rw [hh] at hq
    injection hq with hq
    injection hq with _ h2 _
    exact ht h2.symm
section
variable {w w' : World} {base q c E m r o nc : Nat} {A B : Option Addr} {L : List Tk} {ns : List Nd}
/-- Tokens were read. -/
theorem St.read {r' : Nat} (h : St w base q A c L E m r o B nc ns) (hP : Pt w' base q A c L E (.map (some m)) (.slice B ns.length nc) r' o) (hF : Fq w.heap.size q w w') (hr : r ≤ r') : St w' base q A c L E m r' o B nc ns :=
  ⟨hP, h.nds.fq h.pt.blk (by decide) hF, (hF.block m (by have := h.hm; have := h.pt.le; omega) h.hq).trans h.mo, h.hm, h.hq, Nat.le_trans h.few hr⟩
theorem St.on (h : St w base q A c L E m r o B nc ns) (hb : Below w.heap.size w w') : St w' base q A c L E m r o B nc ns :=
  h.read (h.pt.on hb) (Fq.of hb (Nat.le_refl _)) (Nat.le_refl _)
theorem St.only {g : Nat} {t : TypeId} {cs : Array Value} (h : St w base q A c L E m r o B nc ns) (ho : Only g w w') (hb : Blk w g t cs) (ht : t ≠ 109) (hg : base ≤ g) : St w' base q A c L E m r o B nc ns :=
  ⟨h.pt.keep (ho.below hg), ⟨h.nds.1, by
    rcases h.nds.2 with hv | ⟨k, cap, cur, hv, hbs, hh, r⟩
    · exact .inl hv
    · exact .inr ⟨k, cap, cur, hv, hbs, (ho.block k (fun e => by
        subst e
        unfold Blk at hb
        rw [hh] at hb
        injection hb with hb
        injection hb with _ h2 _
        exact ht h2.symm)).trans hh, r⟩⟩, (ho.block m (by have := h.hm; omega)).trans h.mo, h.hm, h.hq, h.few⟩
/-- What a call that reads a level answers. -/
def Out (w : World) (base q : Nat) (A : Option Addr) (c : Nat) (L : List Tk) (E m r o : Nat) (ns : List Nd) (g : Gx) (e : Ending) (w' : World) : Prop :=
  ∃ n x, ex L E n g r o ns = some x ∧ Fq base q w w' ∧ match x with
    | .ok (row, r', ns') => e = .returned (.int .i64 (row : Int)) ∧ r ≤ r' ∧ ns'.length + r ≤ ns.length + r' ∧ Fy q w w' ∧ ∃ B' nc', St w' base q A c L E m r' o B' nc' ns'
    | .error (er, i) => e = pnc er (tokAt L E i).at_
/-- A function reads a level, where fewer than so many tokens are left. -/
def LvOk (N : Nat) (lv : Lv) (f : Nat) : Prop :=
  ∀ (w : World) (base q : Nat) (A : Option Addr) (c : Nat) (L : List Tk) (E m r o : Nat) (B : Option Addr) (nc : Nat) (ns : List Nd), St w base q A c L E m r o B nc ns → L.length < r + N → o ≤ 16 → Calls Tryz.prog f #[.pointer (some ⟨q, 0, none⟩)] w (Out w base q A c L E m r o ns (.lv lv))
end
end Go.Proofs.YtiipglmbfgmbbaaGreatDoor
