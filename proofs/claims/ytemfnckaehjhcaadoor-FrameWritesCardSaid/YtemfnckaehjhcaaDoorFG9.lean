/-
  For the law FrameWrites' walk: a message's rows, two boxes of it, the two messages of an array.
-/
import Derived.Test.YtemfnckaehjhcaaDoorFG8
import Derived.Test.YtemfnckaehjhcaaDoorFP
namespace Go.Proofs.YtemfnckaehjhcaaDoor
open Go.RowKit
attribute [local go_sem ↓] eqA neA eqGA field1

theorem wp_store_nine {P : Program} {o : Oper} {a : Act} {K : Act → World → Prop} {Q : Exit → Act → World → Prop} {w : World} (hd : o.dst = none) (ty : TypeId) (x y : Operand) (ho : o.op = .store ty x y)
    (g : Nat) (c : Array Value) (t : TypeId) (cells : List Value) (hx : a.eval x = .pointer (some ⟨g, 0, none⟩)) (hy : a.eval y = .agg cells.toArray) (hb : Blk w g t c)
    (hc : c.size = cells.length) (hi : (P.info? ty).map (·.size) = some cells.length) (h1 : ∀ v ∈ cells, v.oneCell' = true)
    (h : ∀ w', Blk w' g t cells.toArray → Only g w w' → K a w') : Oper.wp P o a w K Q :=
  wp_store_blk ty x y ho g c t cells hx hy hb hc hi h1 (fun w' hb ho => by rw [hd]; exact h w' hb ho)
/-- A message's rows, owned. -/
structure Rw (w : World) (m : Ms) (A : Option Addr) (n c : Nat) (A1 : Option Addr) (n1 c1 : Nat) (A2 : Option Addr) (n2 c2 : Nat) : Prop where
  es : Eo w 0 A n c m.es
  me : Ios w 0 A1 n1 c1 m.mem
  da : Own w 0 A2 n2 c2 m.da
section
variable {w w' : World} {m : Ms} {A : Option Addr} {n c : Nat} {A1 : Option Addr} {n1 c1 : Nat} {A2 : Option Addr} {n2 c2 : Nat}
theorem Rw.below (h : Rw w m A n c A1 n1 c1 A2 n2 c2) (hb : Below w.heap.size w w') : Rw w' m A n c A1 n1 c1 A2 n2 c2 := ⟨h.es.below hb, World.ownsRow.below h.me hb, h.da.below hb⟩
theorem Rw.only {g : Nat} {cs : Array Value} (h : Rw w m A n c A1 n1 c1 A2 n2 c2) (hg : Blk w g 31 cs) (ho : Only g w w') : Rw w' m A n c A1 n1 c1 A2 n2 c2 :=
  ⟨h.es.only hg (by decide) (by decide) ho, World.ownsRow.only h.me hg (by decide) ho, ⟨World.ownsRow.only h.da.1 hg (by decide) ho, h.da.2⟩⟩
theorem Rw.mr (h : Rw w m A n c A1 n1 c1 A2 n2 c2) (hb : Mb m) : Mr w w.heap.size m A n c A1 n1 c1 A2 n2 c2 := mr_of h.es h.me h.da hb
end
/-- Two boxes of a message, apart. -/
def Two (W0 : World) (m : Ms) (v7 v8 : Value) (w : World) : Prop :=
  ∃ p7 p8 A n c A1 n1 c1 A2 n2 c2 B k d B1 k1 d1 B2 k2 d2, v7 = .pointer (some ⟨p7, 0, none⟩) ∧ v8 = .pointer (some ⟨p8, 0, none⟩) ∧ p7 ≠ p8 ∧ W0.heap.size ≤ p7 ∧ W0.heap.size ≤ p8 ∧
    Blk w p7 31 #[.int .i64 m.kind, .int .i64 m.fr, .int .i64 m.to, .int .u64 m.t, .int .u64 m.pi, .int .u64 m.pt, .slice A n c, .int .u64 m.co, .bool m.ok, .slice A1 n1 c1, .slice A2 n2 c2] ∧
    Blk w p8 31 #[.int .i64 m.kind, .int .i64 m.fr, .int .i64 m.to, .int .u64 m.t, .int .u64 m.pi, .int .u64 m.pt, .slice B k d, .int .u64 m.co, .bool m.ok, .slice B1 k1 d1, .slice B2 k2 d2] ∧
    Rw w m A n c A1 n1 c1 A2 n2 c2 ∧ Rw w m B k d B1 k1 d1 B2 k2 d2 ∧ Below W0.heap.size W0 w

theorem ix33_0 (xkind xfr xto xt xpi xpt xco ykind yfr yto yt ypi ypt yco : Int) (xok yok : Bool) (xA xA1 xA2 yA yA1 yA2 : Option Addr) (xn xc xn1 xc1 xn2 xc2 yn yc yn1 yc1 yn2 yc2 : Nat) (w : World) : (Instr.index 33 (.agg #[.int .i64 xkind, .int .i64 xfr, .int .i64 xto, .int .u64 xt, .int .u64 xpi, .int .u64 xpt, .slice xA xn xc, .int .u64 xco, .bool xok, .slice xA1 xn1 xc1, .slice xA2 xn2 xc2, .int .i64 ykind, .int .i64 yfr, .int .i64 yto, .int .u64 yt, .int .u64 ypi, .int .u64 ypt, .slice yA yn yc, .int .u64 yco, .bool yok, .slice yA1 yn1 yc1, .slice yA2 yn2 yc2]) (.int .i64 0)).run Tryd.prog w = .ok (.agg #[.int .i64 xkind, .int .i64 xfr, .int .i64 xto, .int .u64 xt, .int .u64 xpi, .int .u64 xpt, .slice xA xn xc, .int .u64 xco, .bool xok, .slice xA1 xn1 xc1, .slice xA2 xn2 xc2]) w := by kernel_rfl
theorem ix33_1 (xkind xfr xto xt xpi xpt xco ykind yfr yto yt ypi ypt yco : Int) (xok yok : Bool) (xA xA1 xA2 yA yA1 yA2 : Option Addr) (xn xc xn1 xc1 xn2 xc2 yn yc yn1 yc1 yn2 yc2 : Nat) (w : World) : (Instr.index 33 (.agg #[.int .i64 xkind, .int .i64 xfr, .int .i64 xto, .int .u64 xt, .int .u64 xpi, .int .u64 xpt, .slice xA xn xc, .int .u64 xco, .bool xok, .slice xA1 xn1 xc1, .slice xA2 xn2 xc2, .int .i64 ykind, .int .i64 yfr, .int .i64 yto, .int .u64 yt, .int .u64 ypi, .int .u64 ypt, .slice yA yn yc, .int .u64 yco, .bool yok, .slice yA1 yn1 yc1, .slice yA2 yn2 yc2]) (.int .i64 1)).run Tryd.prog w = .ok (.agg #[.int .i64 ykind, .int .i64 yfr, .int .i64 yto, .int .u64 yt, .int .u64 ypi, .int .u64 ypt, .slice yA yn yc, .int .u64 yco, .bool yok, .slice yA1 yn1 yc1, .slice yA2 yn2 yc2]) w := by kernel_rfl

end Go.Proofs.YtemfnckaehjhcaaDoor
