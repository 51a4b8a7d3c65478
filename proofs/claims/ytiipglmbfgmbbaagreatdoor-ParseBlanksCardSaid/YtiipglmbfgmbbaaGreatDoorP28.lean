/-
  A statement in memory.
-/
import Derived.Test.YtiipglmbfgmbbaaGreatDoorP27
namespace Go.Proofs.YtiipglmbfgmbbaaGreatDoor
open Go.RowKit Go.Shelf
attribute [local go_sem] Oper.semAt_some

theorem Tryz.i38 : (Tryz.prog.info? 38).map (·.size) = some 15 := by kernel_rfl
theorem Tryz.i65 : (Tryz.prog.info? 65).map (·.size) = some 2 := by kernel_rfl
theorem Blk.same {w : World} {g : Nat} {t t' : TypeId} {cs cs' : Array Value} (h : Blk w g t cs) (k : Blk w g t' cs') : t = t' := by
  unfold Blk at h k
  rw [h] at k
  injection k with k
  injection k with _ k _
/-- All that lies below K lies as it lay, but for the blocks q and g. -/
structure Fg (K q g : Nat) (w w' : World) : Prop where
  os : w'.os = w.os
  tape : w'.tape = w.tape
  output : w'.output = w.output
  size : w.heap.size ≤ w'.heap.size
  block : ∀ j, j < K → j ≠ q → j ≠ g → w'.heap[j]? = w.heap[j]?
theorem Fg.refl (K q g : Nat) (w : World) : Fg K q g w w := ⟨rfl, rfl, rfl, Nat.le_refl _, fun _ _ _ _ => rfl⟩
theorem Fg.trans {K q g : Nat} {a b c : World} (h : Fg K q g a b) (k : Fg K q g b c) : Fg K q g a c :=
  ⟨k.os.trans h.os, k.tape.trans h.tape, k.output.trans h.output, Nat.le_trans h.size k.size, fun i hi hq hg => (k.block i hi hq hg).trans (h.block i hi hq hg)⟩
theorem Fg.mono {K K' q g : Nat} {a b : World} (h : Fg K q g a b) (hb : K' ≤ K) : Fg K' q g a b :=
  ⟨h.os, h.tape, h.output, h.size, fun i hi hq hg => h.block i (by omega) hq hg⟩
theorem Fg.of {K K' q g : Nat} {a b : World} (h : Fq K' q a b) (hb : K ≤ K') : Fg K q g a b :=
  ⟨h.os, h.tape, h.output, h.size, fun i hi hq _ => h.block i (by omega) hq⟩
theorem Fg.set (K q g k : Nat) (w : World) (v : Value) : Fg K q g w (w.setCell ⟨g, k, none⟩ v) :=
  ⟨rfl, rfl, rfl, by simp, fun j _ _ hj => Below.heap_setCell _ _ _ _ hj⟩
theorem Fg.only {K q g : Nat} {a b : World} (h : Only g a b) : Fg K q g a b := by
  have := h.below (Nat.le_refl g)
  exact ⟨this.os, this.tape, this.output, this.size, fun j _ _ hj => h.block j hj⟩
theorem Fg.grown {K q g : Nat} {w w' : World} {e size n : Nat} {v : Value} {xs : List Value} (hr : w.ownsRow K e size v n xs) (hg : w.grownBy w' v.ownBlock) (hK : K ≤ w.heap.size) : Fg K q g w w' :=
  ⟨hg.os, hg.tape, hg.output, hg.size, fun i hi _ _ => hg.block i (by omega) (fun e => by
    rcases hr.2 with ⟨hv, _⟩ | ⟨g', cap, cur, hv, hbs, hh, r⟩
    · rw [hv] at e; cases e
    · have e2 : some i = some g' := by rw [hv] at e; exact e
      injection e2 with e2
      omega)⟩
/-- Blocks of a type stay. -/
def Kt (t : TypeId) (w w' : World) : Prop := ∀ j cs, Blk w j t cs → Blk w' j t cs
theorem Kt.refl (t : TypeId) (w : World) : Kt t w w := fun _ _ h => h
theorem Kt.trans {t : TypeId} {a b c : World} (h : Kt t a b) (k : Kt t b c) : Kt t a c := fun j cs hb => k j cs (h j cs hb)
theorem Kt.fq {t tq : TypeId} {q : Nat} {w w' : World} {cq : Array Value} (h : Fq w.heap.size q w w') (hq : Blk w q tq cq) (ht : t ≠ tq) : Kt t w w' :=
  fun j cs hb => (h.block j hb.lt (fun e => by subst e; exact ht (hb.same hq))).trans hb
theorem Kt.below {t : TypeId} {w w' : World} (h : Below w.heap.size w w') : Kt t w w' := fun _ _ hb => hb.below h hb.lt
theorem Kt.only {t tg : TypeId} {g : Nat} {w w' : World} {cg : Array Value} (h : Only g w w') (hg : Blk w g tg cg) (ht : t ≠ tg) : Kt t w w' :=
  fun j cs hb => (h.block j (fun e => by subst e; exact ht (hb.same hg))).trans hb
theorem Kt.set {t tg : TypeId} {g k : Nat} {w : World} {cg : Array Value} (hg : Blk w g tg cg) (ht : t ≠ tg) (v : Value) : Kt t w (w.setCell ⟨g, k, none⟩ v) :=
  fun j cs hb => Blk.far hb (p := ⟨g, k, none⟩) (fun e => by subst e; exact ht (hb.same hg)) v
theorem Kt.grown {t e : TypeId} {K size n : Nat} {w w' : World} {v : Value} {xs : List Value} (hr : w.ownsRow K e size v n xs) (hg : w.grownBy w' v.ownBlock) (ht : t ≠ e) : Kt t w w' :=
  fun j cs hb => (hg.block j hb.lt (fun h => by
    rcases hr.2 with ⟨hv, _⟩ | ⟨g', cap, cur, hv, hbs, hh, r⟩
    · rw [hv] at h; cases h
    · rw [hv] at h
      injection h with h
      subst h
      exact ht (hb.same (t' := e) (cs' := cur) hh))).trans hb
theorem owns_kt {w w' : World} {K e size n : Nat} {v : Value} {xs : List Value} (h : w.ownsRow K e size v n xs) (hk : Kt e w w') : w'.ownsRow K e size v n xs := by
  refine ⟨h.1, ?_⟩
  rcases h.2 with hv | ⟨g, cap, cur, hv, hbs, hh, r⟩
  · exact .inl hv
  · exact .inr ⟨g, cap, cur, hv, hbs, hk g cur hh, r⟩
theorem owns_low {w : World} {K K' e size n : Nat} {v : Value} {xs : List Value} (h : w.ownsRow K e size v n xs) (hk : K' ≤ K) : w.ownsRow K' e size v n xs := by
  refine ⟨h.1, ?_⟩
  rcases h.2 with hv | ⟨g, cap, cur, hv, hbs, hh, r⟩
  · exact .inl hv
  · exact .inr ⟨g, cap, cur, hv, Nat.le_trans hk hbs, hh, r⟩
theorem Nds.kt {w w' : World} {D n nc : Nat} {B : Option Addr} {ns : List Nd} (h : Nds w D B n nc ns) (hk : Kt 109 w w') : Nds w' D B n nc ns := owns_kt h hk
abbrev Cl := List UInt8 × Nat × Bool × Bool
def clC (x : Cl) : List Value := [tx x.1, .int .i64 (x.2.1 : Int), .bool x.2.2.1, .bool x.2.2.2]
def clRow : List Cl → List Value
  | [] => []
  | x :: r => clC x ++ clRow r
theorem clRow_append : ∀ a b : List Cl, clRow (a ++ b) = clRow a ++ clRow b
  | [], _ => rfl
  | t :: a, b => by rw [List.cons_append, clRow, clRow_append a b, clRow, List.append_assoc]
/-- Columns owned. -/
def Cs (w : World) (D : Nat) (A : Option Addr) (n c : Nat) (l : List Cl) : Prop := w.ownsRow D 62 4 (.slice A n c) n (clRow l)
/-- The cells of what has rows of an expression of its own. -/
def RwC {α : Type} (hd : α → Value) (w : World) (D : Nat) : List Value → List (α × List Nd) → Prop
  | vs, [] => vs = []
  | vs, x :: l => ∃ B c rest, vs = hd x.1 :: .slice B x.2.length c :: rest ∧ Nds w D B x.2.length c x.2 ∧ RwC hd w D rest l
section
variable {α : Type} {hd : α → Value} {w w' : World} {D D' : Nat}
theorem RwC.kt : ∀ {vs : List Value} {l : List (α × List Nd)}, RwC hd w D vs l → Kt 109 w w' → RwC hd w' D vs l
  | _, [], h, _ => h
  | _, x :: l, ⟨B, c, rest, e, hN, h⟩, hk => ⟨B, c, rest, e, hN.kt hk, RwC.kt h hk⟩
theorem RwC.low (hD : D' ≤ D) : ∀ {vs : List Value} {l : List (α × List Nd)}, RwC hd w D vs l → RwC hd w D' vs l
  | _, [], h => h
  | _, x :: l, ⟨B, c, rest, e, hN, h⟩ => ⟨B, c, rest, e, owns_low hN hD, RwC.low hD h⟩
theorem RwC.snoc {x : α} {ns : List Nd} {B : Option Addr} {c : Nat} (hN : Nds w D B ns.length c ns) : ∀ {vs : List Value} {l : List (α × List Nd)}, RwC hd w D vs l → RwC hd w D (vs ++ [hd x, .slice B ns.length c]) (l ++ [(x, ns)])
  | vs, [], h => by
    have : vs = [] := h
    subst this
    exact ⟨B, c, [], rfl, hN, rfl⟩
  | _, y :: l, ⟨B', c', rest, e, hN', h⟩ => by
    subst e
    exact ⟨B', c', rest ++ [hd x, .slice B ns.length c], rfl, hN', RwC.snoc hN h⟩
theorem RwC.len : ∀ {vs : List Value} {l : List (α × List Nd)}, RwC hd w D vs l → vs.length = l.length * 2
  | _, [], h => by have h : _ = [] := h; subst h; rfl
  | _, x :: l, ⟨B, c, rest, e, hN, h⟩ => by
    subst e
    have := RwC.len h
    simp [this]
    omega
end
def Rws {α : Type} (t : TypeId) (hd : α → Value) (w : World) (D : Nat) (A : Option Addr) (n c : Nat) (l : List (α × List Nd)) : Prop := ∃ vs, w.ownsRow D t 2 (.slice A n c) n vs ∧ RwC hd w D vs l
theorem Rws.kt {α : Type} {t : TypeId} {hd : α → Value} {w w' : World} {D n c : Nat} {A : Option Addr} {l : List (α × List Nd)} (h : Rws t hd w D A n c l) (h1 : Kt t w w') (h2 : Kt 109 w w') : Rws t hd w' D A n c l := by
  obtain ⟨vs, ho, hr⟩ := h
  exact ⟨vs, owns_kt ho h1, hr.kt h2⟩
theorem Rws.low {α : Type} {t : TypeId} {hd : α → Value} {w : World} {D D' n c : Nat} {A : Option Addr} {l : List (α × List Nd)} (h : Rws t hd w D A n c l) (hD : D' ≤ D) : Rws t hd w D' A n c l := by
  obtain ⟨vs, ho, hr⟩ := h
  exact ⟨vs, owns_low ho hD, hr.low hD⟩
def intV (k : Int) : Value := .int .i64 k
/-- A statement's cells. -/
structure Cx where
  a1 : Option Addr
  c1 : Nat
  a2 : Option Addr
  c2 : Nat
  a3 : Option Addr
  c3 : Nat
  a4 : Option Addr
  c4 : Nat
  a5 : Option Addr
  c5 : Nat
def cx0 : Cx := ⟨none, 0, none, 0, none, 0, none, 0, none, 0⟩
def smC (s : Sm) (x : Cx) : List Value := [.int .i64 (s.kind : Int), tx s.table, tx s.join, .slice x.a1 s.cols.length x.c1, .slice x.a2 s.sets.length x.c2, .bool s.star, .slice x.a3 s.items.length x.c3, .slice x.a4 s.on.length x.c4, .slice x.a5 s.wh.length x.c5, tx s.gt, tx s.gn, tx s.ot, tx s.on_, .bool s.desc, .int .i64 s.limit]
/-- What a statement's cells own. -/
structure Ox (w : World) (D : Nat) (s : Sm) (x : Cx) : Prop where
  cols : Cs w D x.a1 s.cols.length x.c1 s.cols
  sets : Rws 65 tx w D x.a2 s.sets.length x.c2 s.sets
  items : Rws 53 intV w D x.a3 s.items.length x.c3 s.items
  on : Nds w D x.a4 s.on.length x.c4 s.on
  wh : Nds w D x.a5 s.wh.length x.c5 s.wh
theorem Ox.zero (w : World) (D k : Nat) : Ox w D (sm0 k) cx0 :=
  ⟨⟨rfl, .inl ⟨rfl, rfl⟩⟩, ⟨[], ⟨rfl, .inl ⟨rfl, rfl⟩⟩, rfl⟩, ⟨[], ⟨rfl, .inl ⟨rfl, rfl⟩⟩, rfl⟩, ⟨rfl, .inl ⟨rfl, rfl⟩⟩, ⟨rfl, .inl ⟨rfl, rfl⟩⟩⟩
/-- What owns keeps, where blocks of these types stay. -/
structure K4 (w w' : World) : Prop where
  k62 : Kt 62 w w'
  k65 : Kt 65 w w'
  k53 : Kt 53 w w'
  k109 : Kt 109 w w'
theorem K4.refl (w : World) : K4 w w := ⟨Kt.refl _ _, Kt.refl _ _, Kt.refl _ _, Kt.refl _ _⟩
theorem K4.trans {a b c : World} (h : K4 a b) (k : K4 b c) : K4 a c := ⟨h.k62.trans k.k62, h.k65.trans k.k65, h.k53.trans k.k53, h.k109.trans k.k109⟩
theorem K4.below {w w' : World} (h : Below w.heap.size w w') : K4 w w' := ⟨Kt.below h, Kt.below h, Kt.below h, Kt.below h⟩
theorem K4.fq {q : Nat} {w w' : World} {cq : Array Value} (h : Fq w.heap.size q w w') (hq : Blk w q 75 cq) : K4 w w' := ⟨Kt.fq h hq (by decide), Kt.fq h hq (by decide), Kt.fq h hq (by decide), Kt.fq h hq (by decide)⟩
theorem K4.only {g : Nat} {w w' : World} {cg : Array Value} (h : Only g w w') (hg : Blk w g 38 cg) : K4 w w' := ⟨Kt.only h hg (by decide), Kt.only h hg (by decide), Kt.only h hg (by decide), Kt.only h hg (by decide)⟩
theorem K4.set {g k : Nat} {w : World} {cg : Array Value} (hg : Blk w g 38 cg) (v : Value) : K4 w (w.setCell ⟨g, k, none⟩ v) := ⟨Kt.set hg (by decide) v, Kt.set hg (by decide) v, Kt.set hg (by decide) v, Kt.set hg (by decide) v⟩
theorem Ox.k4 {w w' : World} {D : Nat} {s : Sm} {x : Cx} (h : Ox w D s x) (k : K4 w w') : Ox w' D s x :=
  ⟨owns_kt h.cols k.k62, h.sets.kt k.k65 k.k109, h.items.kt k.k53 k.k109, h.on.kt k.k109, h.wh.kt k.k109⟩
theorem Ox.low {w : World} {D D' : Nat} {s : Sm} {x : Cx} (h : Ox w D s x) (hD : D' ≤ D) : Ox w D' s x :=
  ⟨owns_low h.cols hD, h.sets.low hD, h.items.low hD, owns_low h.on hD, owns_low h.wh hD⟩
/-- The parser, the statement that is read, and where both stand in two boxes. -/
structure Bx (w : World) (base q : Nat) (A : Option Addr) (c : Nat) (L : List Tk) (E m r o : Nat) (g D : Nat) (s : Sm) (x : Cx) : Prop where
  sx : ∃ B n nc, Sx w base q A c L E m r o B n nc
  blk : Blk w g 38 (smC s x).toArray
  own : Ox w D s x
  hg : base ≤ g
  hD : g < D
  hDs : D ≤ w.heap.size
  gp : Gp w
  two : 2 ≤ base
  tq : 2 ≤ q
section
variable {w w' : World} {base q c E m r o g D : Nat} {A : Option Addr} {L : List Tk} {s : Sm} {x : Cx}
theorem Bx.gq (h : Bx w base q A c L E m r o g D s x) : g ≠ q := by
  obtain ⟨B, n, nc, hs⟩ := h.sx
  have := hs.pt.lt
  have := h.hg
  omega
theorem Bx.par (h : Bx w base q A c L E m r o g D s x) : ∃ cq, Blk w q 75 cq := by
  obtain ⟨B, n, nc, hs⟩ := h.sx
  exact ⟨_, hs.pt.blk⟩
/-- Tokens were read. -/
theorem Bx.read {r' : Nat} (h : Bx w base q A c L E m r o g D s x) (hS : ∃ B n nc, Sx w' base q A c L E m r' o B n nc) (hF : Fq w.heap.size q w w') : Bx w' base q A c L E m r' o g D s x := by
  obtain ⟨cq, hq⟩ := h.par
  exact ⟨hS, (hF.block g h.blk.lt h.gq).trans h.blk, h.own.k4 (K4.fq hF hq), h.hg, h.hD, Nat.le_trans h.hDs hF.size, h.gp.fq hF (Nat.le_trans h.two (Nat.le_trans h.hg (Nat.le_of_lt h.blk.lt))) h.tq, h.two, h.tq⟩
theorem Bx.below (h : Bx w base q A c L E m r o g D s x) (hb : Below w.heap.size w w') : Bx w' base q A c L E m r o g D s x := by
  obtain ⟨B, n, nc, hs⟩ := h.sx
  have hq : q < w.heap.size := hs.pt.blk.lt
  have hm := hs.hm
  have hle := hs.pt.le
  exact ⟨⟨B, n, nc, hs.pt.on hb, (hb.block m (by omega)).trans hs.mo, hs.hm, hs.hq⟩, h.blk.below hb h.blk.lt, h.own.k4 (K4.below hb), h.hg, h.hD, Nat.le_trans h.hDs hb.size, h.gp.fq (Fq.of (q := q) hb (Nat.le_refl _)) (Nat.le_trans h.two hle) h.tq, h.two, h.tq⟩
/-- A cell of the statement is set. -/
theorem Bx.put {k : Nat} {v : Value} {s' : Sm} {x' : Cx} (h : Bx w base q A c L E m r o g D s x) (hc : (smC s x).toArray.setIfInBounds k v = (smC s' x').toArray) (hO : Ox w D s' x') : Bx (w.setCell ⟨g, k, none⟩ v) base q A c L E m r o g D s' x' := by
  obtain ⟨B, n, nc, hs⟩ := h.sx
  have hm := hs.hm
  have hgb := h.hg
  have hb : Below base w (w.setCell ⟨g, k, none⟩ v) := (Below.refl base w).setCell (p := ⟨g, k, none⟩) hgb v
  refine ⟨⟨B, n, nc, hs.pt.keep hb, (hb.block m hm).trans hs.mo, hs.hm, hs.hq⟩, ?_, hO.k4 (K4.set h.blk v), h.hg, h.hD, by simpa using h.hDs, h.gp.fq (Fq.of (q := q) hb (Nat.le_refl _)) h.two h.tq, h.two, h.tq⟩
  rw [← hc]
  exact h.blk.set_ k v
end
end Go.Proofs.YtiipglmbfgmbbaaGreatDoor
