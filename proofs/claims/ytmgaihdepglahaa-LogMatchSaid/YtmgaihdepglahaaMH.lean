/-
  Words for what a call leaves that answers a log, its end and an error.
-/
import Derived.Test.YtmgaihdepglahaaN4
namespace Go.Proofs.Ytmgaihdepglahaa
open Go.RowKit

/-- What Extend leaves: a log of its own, its end, an error. -/
def Lgx (w : World) (l : Lg) (I T : Int) (er : Int) (e : Ending) (w' : World) : Prop := ∃ A n c, e = .returned (.tuple #[.agg #[.int .u64 l.bi, .int .u64 l.bt, .slice A n c], .agg #[.int .u64 I, .int .u64 T], .int .i64 er]) ∧ Eo w' w.heap.size A n c l.es ∧ Below w.heap.size w w'
theorem ret27x {fn : Func} {p q u : Tmp} (h : fn.results = #[.cell p 27, .cell q 24, .tmp u]) (tmps : Array Value) (w : World) (g g2 : Nat) (a b c d e x : Value)
    (hp : tmps.getD p undef = .pointer (some ⟨g, 0, none⟩)) (hq : tmps.getD q undef = .pointer (some ⟨g2, 0, none⟩)) (hx : tmps.getD u undef = x) (hg : Blk w g 27 #[a, b, c]) (hg2 : Blk w g2 24 #[d, e]) : (results fn tmps).run Try.prog w = .ok (.tuple #[.agg #[a, b, c], .agg #[d, e], x]) w := by
  subst hx
  exact ret_cell2_tmp h tmps w g g2 27 24 #[a, b, c] #[d, e] _ _ hp hg Try.underlying27 rfl Try.i27 hq hg2 Try.underlying24 rfl Try.i24
/-- Five cells stored into two blocks. -/
theorem set5 {w W : World} {base p q : Nat} {x y z u v a b c d e : Value} (h4 : Blk W p 27 #[x, y, z]) (h5 : Blk W q 24 #[u, v]) (hb : Below base w W) (hp : base ≤ p) (hq : base ≤ q) (hne : p ≠ q) :
    Blk (((((W.setCell ⟨p, 0, none⟩ a).setCell ⟨p, 1, none⟩ b).setCell ⟨p, 2, none⟩ c).setCell ⟨q, 0, none⟩ d).setCell ⟨q, 1, none⟩ e) p 27 #[a, b, c] ∧
    Blk (((((W.setCell ⟨p, 0, none⟩ a).setCell ⟨p, 1, none⟩ b).setCell ⟨p, 2, none⟩ c).setCell ⟨q, 0, none⟩ d).setCell ⟨q, 1, none⟩ e) q 24 #[d, e] ∧
    Below base w (((((W.setCell ⟨p, 0, none⟩ a).setCell ⟨p, 1, none⟩ b).setCell ⟨p, 2, none⟩ c).setCell ⟨q, 0, none⟩ d).setCell ⟨q, 1, none⟩ e) :=
  ⟨((((h4.set_ 0 a).set_ 1 b).set_ 2 c).far hne _).far hne _, ((((h5.far (p := ⟨p, 0, none⟩) (fun e => hne e.symm) _).far (p := ⟨p, 1, none⟩) (fun e => hne e.symm) _).far (p := ⟨p, 2, none⟩) (fun e => hne e.symm) _).set_ 0 d).set_ 1 e,
    ((((hb.setCell (p := ⟨p, 0, none⟩) hp _).setCell (p := ⟨p, 1, none⟩) hp _).setCell (p := ⟨p, 2, none⟩) hp _).setCell (p := ⟨q, 0, none⟩) hq _).setCell (p := ⟨q, 1, none⟩) hq _⟩
/-- A block kept over a growth of a row of another type. -/
theorem Blk.row {w w' : World} {g b2 n2 : Nat} {t : TypeId} {cs : Array Value} {v : Value} {xs : List Value} (h : Blk w g t cs) (hr : w.ownsRow b2 54 3 v n2 xs) (ht : 54 ≠ t) (hg : w.grownBy w' v.ownBlock) : Blk w' g t cs := by
  refine (hg.block g h.lt fun e => ?_).trans h
  rcases hr.2 with ⟨rfl, _⟩ | ⟨g2, cap, cur, rfl, _, hh, _⟩
  · simp [Value.ownBlock] at e
  · simp only [Value.ownBlock, Option.some.injEq] at e
    subst e
    unfold Blk at h
    rw [h] at hh
    injection hh with hh
    injection hh with _ h2 _
    exact ht h2.symm
theorem Ec.own.row {w w' : World} {base b2 n2 : Nat} {x : Ec} {v : Value} {xs : List Value} (h : x.own w base) (hr : w.ownsRow b2 54 3 v n2 xs) (hg : w.grownBy w' v.ownBlock) : x.own w' base := ⟨h.d.row hr hg, h.n, h.t0, h.t1⟩
theorem Ec.own.only {w w' : World} {base g : Nat} {x : Ec} {t : TypeId} {cs : Array Value} (h : x.own w base) (hg : Blk w g t cs) (ht : 5 ≠ t) (ho : Only g w w') : x.own w' base := ⟨⟨World.ownsRow.only h.d.1 hg ht ho, h.d.2⟩, h.n, h.t0, h.t1⟩

end Go.Proofs.Ytmgaihdepglahaa
