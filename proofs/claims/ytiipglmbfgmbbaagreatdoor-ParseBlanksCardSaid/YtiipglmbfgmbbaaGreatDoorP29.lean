/-
  What the closures of a list stand on: two boxes, the parser and the statement; one more column, set, item.
-/
import Derived.Test.YtiipglmbfgmbbaaGreatDoorP28
namespace Go.Proofs.YtiipglmbfgmbbaaGreatDoor
open Go.RowKit Go.Shelf
attribute [local go_sem] Oper.semAt_some

/-- One more row, at a step of a region that draws. -/
theorem step_append_any {w : World} {ops : Array Oper} {E : Prop} {o : Oper} {a : Act} {K : Act → World → Prop} {Q : Exit → Act → World → Prop} (hgd : o.guard = none) (s x : Operand) (t e : TypeId)
    (ho : o.op = .call { callee := .builtin .append, args := #[s, x], argTypes := #[t, t] }) (ht : Tryz.prog.underlying t = some (.slice e)) (z : Value) (size bytes : Nat)
    (hinf : (Tryz.prog.info? e).map (fun i => (i.zero, i.size, i.bytes)) = some (some z, size, bytes)) (hzs : z.cells.size = size) (hsz : 0 < size) (hby : bytes ≤ 1000)
    (base : Nat) (A : Option Addr) (n c : Nat) (xs : List Value) (hs : a.eval s = .slice A n c) (hown : w.ownsRow base e size (.slice A n c) n xs)
    (p : Nat) (cs : List Value) (hcl : cs.length = size) (hx : a.eval x = .slice (some ⟨p, 0, none⟩) 1 1) (hp : Blk w p e cs.toArray) (h1 : ∀ v ∈ cs, v.oneCell' = true) (hsum : n + 1 ≤ 1000000) (hbase : base ≤ w.heap.size)
    (h : ∀ A2 c2 w', w'.ownsRow base e size (.slice A2 (n + 1) c2) (n + 1) (xs ++ cs) → w.grownBy w' (Value.slice A n c).ownBlock → K (a.put o.dst (.slice A2 (n + 1) c2)) w') : if Region.wanted o (yielded ops a.tmps) = true then Oper.wp Tryz.prog o a w K Q else E := by
  obtain ⟨i0, hi, hq⟩ := Option.map_eq_some_iff.1 hinf
  simp only [Prod.mk.injEq] at hq
  obtain ⟨hz0, hz1, hz2⟩ := hq
  have hw : Region.wanted o (yielded ops a.tmps) = true := by simp [Region.wanted, hgd]
  rw [if_pos hw]
  refine wp_append_own w s x t ho base e i0 z size bytes ht hi hz0 hz1 hz2 hzs hsz _ n _ hs hown ⟨p, 0, none⟩ 1 1 cs hx (by rw [hcl, Nat.one_mul]) ?_ h1 (by unfold maxLen; omega) ?_ hbase ?_
  · intro j u hj
    have e : (⟨p, 0, none⟩ : Addr).add j = ⟨p, 0 + j, none⟩ := by by_cases h0 : j = 0 <;> simp [Addr.add, h0]
    rw [e, Nat.zero_add, hp.cell, ← hj]
    simp
  · calc (n + 1) * bytes ≤ 1000000 * 1000 := Nat.mul_le_mul hsum hby
      _ ≤ 140737488355328 := by decide
  · intro v' w' hown' hg _
    obtain ⟨A2, c2, rfl⟩ : ∃ A2 c2, v' = .slice A2 (n + 1) c2 := by
      rcases hown'.2 with ⟨_, h0⟩ | ⟨g, cap, cur, hv, _⟩
      · omega
      · exact ⟨_, _, hv⟩
    exact h A2 c2 w' hown' hg
/-- The parser, the statement, and the boxes in which both stand. -/
structure Jx (w0 : World) (K : Nat) (w : World) (base q : Nat) (A : Option Addr) (c : Nat) (L : List Tk) (E m r o g D b2 b3 : Nat) (s : Sm) (x : Cx) : Prop where
  bx : Bx w base q A c L E m r o g D s x
  p : Blk w b2 112 #[.pointer (some ⟨q, 0, none⟩)]
  s : Blk w b3 137 #[.pointer (some ⟨g, 0, none⟩)]
  fr : Fg K q g w0 w
  hK : K ≤ D
section
variable {w0 w w' : World} {K base q c E m r o g D b2 b3 : Nat} {A : Option Addr} {L : List Tk} {s : Sm} {x : Cx}
theorem Jx.bq (h : Jx w0 K w base q A c L E m r o g D b2 b3 s x) : b2 ≠ q ∧ b3 ≠ q ∧ b2 ≠ g ∧ b3 ≠ g := by
  obtain ⟨cq, hq⟩ := h.bx.par
  refine ⟨?_, ?_, ?_, ?_⟩ <;> intro e <;> subst e
  · exact absurd (h.p.same hq) (by decide)
  · exact absurd (h.s.same hq) (by decide)
  · exact absurd (h.p.same h.bx.blk) (by decide)
  · exact absurd (h.s.same h.bx.blk) (by decide)
theorem Jx.below (h : Jx w0 K w base q A c L E m r o g D b2 b3 s x) (hb : Below w.heap.size w w') : Jx w0 K w' base q A c L E m r o g D b2 b3 s x :=
  ⟨h.bx.below hb, h.p.below hb h.p.lt, h.s.below hb h.s.lt, h.fr.trans (Fg.of (Fq.of (q := q) hb (Nat.le_refl _)) (Nat.le_trans h.hK h.bx.hDs)), h.hK⟩
theorem Jx.read {r' : Nat} (h : Jx w0 K w base q A c L E m r o g D b2 b3 s x) (hS : ∃ B n nc, Sx w' base q A c L E m r' o B n nc) (hF : Fq w.heap.size q w w') : Jx w0 K w' base q A c L E m r' o g D b2 b3 s x :=
  ⟨h.bx.read hS hF, (hF.block b2 h.p.lt h.bq.1).trans h.p, (hF.block b3 h.s.lt h.bq.2.1).trans h.s, h.fr.trans (Fg.of hF (Nat.le_trans h.hK h.bx.hDs)), h.hK⟩
/-- Tokens were read, by a call that leaves the rows of an expression. -/
theorem Jx.readP {r' : Nat} {B : Option Addr} {n nc : Nat} (h : Jx w0 K w base q A c L E m r o g D b2 b3 s x) (hP : Pt w' base q A c L E (.map (some m)) (.slice B n nc) r' o) (hF : Fq w.heap.size q w w') : Jx w0 K w' base q A c L E m r' o g D b2 b3 s x := by
  obtain ⟨B', n', nc', hs⟩ := h.bx.sx
  have h1 := hs.hm
  have h2 := hs.pt.le
  exact h.read ⟨B, n, nc, hP, (hF.block m (by omega) hs.hq).trans hs.mo, hs.hm, hs.hq⟩ hF
theorem Jx.w2 (h : Jx w0 K w base q A c L E m r o g D b2 b3 s x) : w.cell? ⟨b3, 0, none⟩ = some (.pointer (some ⟨g, 0, none⟩)) ∧ w.cell? ⟨b2, 0, none⟩ = some (.pointer (some ⟨q, 0, none⟩)) := ⟨h.s.cell 0, h.p.cell 0⟩
theorem Jx.put {k : Nat} {v : Value} {s' : Sm} {x' : Cx} (h : Jx w0 K w base q A c L E m r o g D b2 b3 s x) (hc : (smC s x).toArray.setIfInBounds k v = (smC s' x').toArray) (hO : Ox w D s' x') : Jx w0 K (w.setCell ⟨g, k, none⟩ v) base q A c L E m r o g D b2 b3 s' x' :=
  ⟨h.bx.put hc hO, Blk.far h.p (p := ⟨g, k, none⟩) h.bq.2.2.1 v, Blk.far h.s (p := ⟨g, k, none⟩) h.bq.2.2.2 v, h.fr.trans (Fg.set K q g k w v), h.hK⟩
/-- A row of the statement's has grown. -/
theorem Jx.grow {e size n : Nat} {v : Value} {xs : List Value} {s' : Sm} {x' : Cx} (h : Jx w0 K w base q A c L E m r o g D b2 b3 s x) (hr : w.ownsRow D e size v n xs) (hg : w.grownBy w' v.ownBlock) (ht : e = 62 ∨ e = 65 ∨ e = 53) :
    (∀ k v' s' x', (smC s x).toArray.setIfInBounds k v' = (smC s' x').toArray → Ox w' D s' x' → Jx w0 K (w'.setCell ⟨g, k, none⟩ v') base q A c L E m r o g D b2 b3 s' x') ∧ (w'.cell? ⟨b3, 0, none⟩ = some (.pointer (some ⟨g, 0, none⟩)) ∧ w'.cell? ⟨b2, 0, none⟩ = some (.pointer (some ⟨q, 0, none⟩))) ∧ Blk w' g 38 (smC s x).toArray := by
  obtain ⟨B, n', nc, hs⟩ := h.bx.sx
  have hle := hs.pt.le
  have ht2 : ∀ t : TypeId, t ≠ 62 → t ≠ 65 → t ≠ 53 → Kt t w w' := fun t h1 h2 h3 => Kt.grown hr hg (fun e' => by subst e'; exact ht.elim (fun h => h1 h) (fun h => h.elim (fun h => h2 h) (fun h => h3 h)))
  have hbD : base ≤ D := Nat.le_trans h.bx.hg (Nat.le_of_lt h.bx.hD)
  have hb : Below base w w' := ⟨hg.os, hg.tape, hg.output, hg.size, fun i hi => hg.block i (by omega) (fun e => by
    rcases hr.2 with ⟨hv, _⟩ | ⟨g', cap, cur, hv, hbs, hh, r⟩
    · rw [hv] at e; cases e
    · have e2 : some i = some g' := by rw [hv] at e; exact e
      injection e2 with e2
      omega)⟩
  have hp := ht2 112 (by decide) (by decide) (by decide) b2 _ h.p
  have hsb := ht2 137 (by decide) (by decide) (by decide) b3 _ h.s
  have hgb := ht2 38 (by decide) (by decide) (by decide) g _ h.bx.blk
  have hgp : Gp w' := h.bx.gp.fq (Fq.of (q := q) hb (Nat.le_refl _)) h.bx.two h.bx.tq
  refine ⟨fun k v' s' x' hc hO => ?_, ⟨hsb.cell 0, hp.cell 0⟩, hgb⟩
  have hb2 : Below base w' (w'.setCell ⟨g, k, none⟩ v') := (Below.refl base w').setCell (p := ⟨g, k, none⟩) h.bx.hg v'
  refine ⟨⟨⟨B, n', nc, (hs.pt.keep hb).keep hb2, (hb2.block m hs.hm).trans ((hb.block m hs.hm).trans hs.mo), hs.hm, hs.hq⟩, ?_, hO.k4 (K4.set hgb v'), h.bx.hg, h.bx.hD, ?_, hgp.fq (Fq.of (q := q) hb2 (Nat.le_refl _)) h.bx.two h.bx.tq, h.bx.two, h.bx.tq⟩, Blk.far hp (p := ⟨g, k, none⟩) h.bq.2.2.1 v', Blk.far hsb (p := ⟨g, k, none⟩) h.bq.2.2.2 v', ?_, h.hK⟩
  · rw [← hc]
    exact hgb.set_ k v'
  · have := h.bx.hDs
    have := hb.size
    simp
    omega
  · exact (h.fr.trans (Fg.grown (owns_low hr h.hK) hg (Nat.le_trans h.hK h.bx.hDs))).trans (Fg.set K q g k w' v')
theorem Jx.cput {A2 : Option Addr} {c2 : Nat} {y : Cl} (h : Jx w0 K w base q A c L E m r o g D b2 b3 s x) (hg : w.grownBy w' (Value.slice x.a1 s.cols.length x.c1).ownBlock) (ho : w'.ownsRow D 62 4 (.slice A2 (s.cols.length + 1) c2) (s.cols.length + 1) (clRow s.cols ++ clC y)) :
    Jx w0 K (w'.setCell ⟨g, 3, none⟩ (.slice A2 (s.cols.length + 1) c2)) base q A c L E m r o g D b2 b3 { s with cols := s.cols ++ [y] } { x with a1 := A2, c1 := c2 } ∧ (w'.cell? ⟨b3, 0, none⟩ = some (.pointer (some ⟨g, 0, none⟩)) ∧ w'.cell? ⟨b2, 0, none⟩ = some (.pointer (some ⟨q, 0, none⟩))) ∧ w'.cell? ⟨g, 3, none⟩ = some (.slice x.a1 s.cols.length x.c1) ∧ w'.frozen? ⟨g, 3, none⟩ = false := by
  obtain ⟨h1, h2, h3⟩ := h.grow (s' := s) (x' := x) h.bx.own.cols hg (.inl rfl)
  have kt : ∀ t : TypeId, t ≠ 62 → Kt t w w' := fun t ht => Kt.grown h.bx.own.cols hg ht
  refine ⟨h1 3 _ _ _ ?_ ⟨?_, h.bx.own.sets.kt (kt 65 (by decide)) (kt 109 (by decide)), h.bx.own.items.kt (kt 53 (by decide)) (kt 109 (by decide)), h.bx.own.on.kt (kt 109 (by decide)), h.bx.own.wh.kt (kt 109 (by decide))⟩, h2, h3.cell 3, h3.frozen 3⟩
  · simp [smC]
  · show w'.ownsRow D 62 4 (.slice A2 (s.cols ++ [y]).length c2) (s.cols ++ [y]).length (clRow (s.cols ++ [y]))
    rw [clRow_append, List.length_append]
    simpa [clRow] using ho
theorem Jx.sput {A2 : Option Addr} {c2 : Nat} {y : List UInt8} {ns : List Nd} {vs : List Value} {B : Option Addr} {nc : Nat} (h : Jx w0 K w base q A c L E m r o g D b2 b3 s x) (hv : w.ownsRow D 65 2 (.slice x.a2 s.sets.length x.c2) s.sets.length vs) (hR : RwC tx w D vs s.sets) (hN : Nds w D B ns.length nc ns) (hg : w.grownBy w' (Value.slice x.a2 s.sets.length x.c2).ownBlock) (ho : w'.ownsRow D 65 2 (.slice A2 (s.sets.length + 1) c2) (s.sets.length + 1) (vs ++ [tx y, .slice B ns.length nc])) :
    Jx w0 K (w'.setCell ⟨g, 4, none⟩ (.slice A2 (s.sets.length + 1) c2)) base q A c L E m r o g D b2 b3 { s with sets := s.sets ++ [(y, ns)] } { x with a2 := A2, c2 := c2 } ∧ (w'.cell? ⟨b3, 0, none⟩ = some (.pointer (some ⟨g, 0, none⟩)) ∧ w'.cell? ⟨b2, 0, none⟩ = some (.pointer (some ⟨q, 0, none⟩))) ∧ w'.cell? ⟨g, 4, none⟩ = some (.slice x.a2 s.sets.length x.c2) ∧ w'.frozen? ⟨g, 4, none⟩ = false := by
  obtain ⟨h1, h2, h3⟩ := h.grow (s' := s) (x' := x) hv hg (.inr (.inl rfl))
  have kt : ∀ t : TypeId, t ≠ 65 → Kt t w w' := fun t ht => Kt.grown hv hg ht
  refine ⟨h1 4 _ _ _ ?_ ⟨owns_kt h.bx.own.cols (kt 62 (by decide)), ⟨_, ?_, (hR.kt (kt 109 (by decide))).snoc (hN.kt (kt 109 (by decide)))⟩, h.bx.own.items.kt (kt 53 (by decide)) (kt 109 (by decide)), h.bx.own.on.kt (kt 109 (by decide)), h.bx.own.wh.kt (kt 109 (by decide))⟩, h2, h3.cell 4, h3.frozen 4⟩
  · simp [smC]
  · show w'.ownsRow D 65 2 (.slice A2 (s.sets ++ [(y, ns)]).length c2) (s.sets ++ [(y, ns)]).length _
    rw [List.length_append]
    exact ho
theorem Jx.iput {A2 : Option Addr} {c2 : Nat} {y : Int} {ns : List Nd} {vs : List Value} {B : Option Addr} {nc : Nat} (h : Jx w0 K w base q A c L E m r o g D b2 b3 s x) (hv : w.ownsRow D 53 2 (.slice x.a3 s.items.length x.c3) s.items.length vs) (hR : RwC intV w D vs s.items) (hN : Nds w D B ns.length nc ns) (hg : w.grownBy w' (Value.slice x.a3 s.items.length x.c3).ownBlock) (ho : w'.ownsRow D 53 2 (.slice A2 (s.items.length + 1) c2) (s.items.length + 1) (vs ++ [intV y, .slice B ns.length nc])) :
    Jx w0 K (w'.setCell ⟨g, 6, none⟩ (.slice A2 (s.items.length + 1) c2)) base q A c L E m r o g D b2 b3 { s with items := s.items ++ [(y, ns)] } { x with a3 := A2, c3 := c2 } ∧ (w'.cell? ⟨b3, 0, none⟩ = some (.pointer (some ⟨g, 0, none⟩)) ∧ w'.cell? ⟨b2, 0, none⟩ = some (.pointer (some ⟨q, 0, none⟩))) ∧ w'.cell? ⟨g, 6, none⟩ = some (.slice x.a3 s.items.length x.c3) ∧ w'.frozen? ⟨g, 6, none⟩ = false := by
  obtain ⟨h1, h2, h3⟩ := h.grow (s' := s) (x' := x) hv hg (.inr (.inr rfl))
  have kt : ∀ t : TypeId, t ≠ 53 → Kt t w w' := fun t ht => Kt.grown hv hg ht
  refine ⟨h1 6 _ _ _ ?_ ⟨owns_kt h.bx.own.cols (kt 62 (by decide)), h.bx.own.sets.kt (kt 65 (by decide)) (kt 109 (by decide)), ⟨_, ?_, (hR.kt (kt 109 (by decide))).snoc (hN.kt (kt 109 (by decide)))⟩, h.bx.own.on.kt (kt 109 (by decide)), h.bx.own.wh.kt (kt 109 (by decide))⟩, h2, h3.cell 6, h3.frozen 6⟩
  · simp [smC]
  · show w'.ownsRow D 53 2 (.slice A2 (s.items ++ [(y, ns)]).length c2) (s.items ++ [(y, ns)]).length _
    rw [List.length_append]
    exact ho
end
def lens (s : Sm) : Nat := s.cols.length + s.sets.length + s.items.length
/-- Where a list stands: k = 1 behind one more thing. -/
def Jn (k : Nat) (w0 : World) (K base q : Nat) (A : Option Addr) (c : Nat) (L : List Tk) (E m o g D b2 b3 : Nat) (w : World) (r : Nat) (s : Sm) : Prop := (∃ x, Jx w0 K w base q A c L E m r o g D b2 b3 s x) ∧ lens s ≤ r + k
/-- What a call answers that turns the statement. -/
def Lr (X : Nat → Rx Sm) (J : World → Nat → Sm → Prop) (F : World → Prop) (L : List Tk) (E r : Nat) (e : Ending) (w' : World) : Prop :=
  ∃ n x, X n = some x ∧ match x with
    | .ok (s, r') => e = .returned (.tuple #[]) ∧ r ≤ r' ∧ J w' r' s
    | .error (er, i) => e = pnc er (tokAt L E i).at_ ∧ F w'
end Go.Proofs.YtiipglmbfgmbbaaGreatDoor
