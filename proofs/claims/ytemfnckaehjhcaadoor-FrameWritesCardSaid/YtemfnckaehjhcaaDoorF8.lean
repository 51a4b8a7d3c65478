/-
  Which messages may be: the program's Check.
-/
import Derived.Test.YtemfnckaehjhcaaDoorF6h
import Derived.Test.YtemfnckaehjhcaaDoorFrB
namespace Go.Proofs.YtemfnckaehjhcaaDoor
open Go.RowKit
attribute [local go_sem ↓] eqA neA eqGA field1


theorem headR_eq (m : Ms) : (decide (cntg m.kind ≠ 0) && ((decide (1 ≤ m.fr) && decide (m.fr ≤ 5)) && ((decide (1 ≤ m.to) && decide (m.to ≤ 5)) && (decide (m.fr ≠ m.to) && (decide (1 ≤ m.t) && decide (m.t ≤ 4611686018427387904)))))) = headR m := by
  unfold headR
  simp only [Bool.and_assoc]
theorem zeroF_eq (m : Ms) {n n1 n2 : Nat} (h : m.es.length = n) (h1 : m.mem.length = n1) (h2 : m.da.length = n2) : zero6 m.ok (!(Eqa m.pi m.pt 0 0)) (decide (0 < m.co)) (decide (0 < n)) (decide (0 < n1)) (decide (0 < n2)) (cntg m.kind) = zeroF m := by
  subst h h1 h2
  unfold zero6 zeroF Eqa
  simp only [Bool.not_not, Bool.decide_and]
theorem snapR_eq (m : Ms) {n2 : Nat} (h2 : m.da.length = n2) : (((m.kind != 5) || !(Eqa m.pi m.pt 0 0)) && (memR m.mem && decide (n2 ≤ 65536))) = snapR m := by
  subst h2
  unfold snapR Eqa
  simp only [Bool.and_assoc, Bool.decide_and]
  congr 2
  by_cases h : m.kind = 5 <;> simp [h]
/-- What Check answers. -/
def chkM (m : Ms) : Int := if rightM m = true then 0 else 170

set_option maxRecDepth 100000 in
set_option maxHeartbeats 8000000 in
theorem check_any (m : Ms) (A : Option Addr) (n c : Nat) (A1 : Option Addr) (n1 c1 : Nat) (A2 : Option Addr) (n2 c2 B : Nat) (w : World) (h : Mr w B m A n c A1 n1 c1 A2 n2 c2) (hB : B ≤ w.heap.size) :
    Calls Tryd.prog 11 #[.agg #[.int .i64 m.kind, .int .i64 m.fr, .int .i64 m.to, .int .u64 m.t, .int .u64 m.pi, .int .u64 m.pt, .slice A n c, .int .u64 m.co, .bool m.ok, .slice A1 n1 c1, .slice A2 n2 c2]] w fun e w' => e = .returned (.int .i64 (chkM m)) ∧ Below w.heap.size w w' := by
  have HD := Lib.hid (fun W => headmaybe_any m.kind m.fr m.to m.t m.pi m.pt m.co m.ok A n c A1 n1 c1 A2 n2 c2 W)
  have JU := Lib.hid (fun W => just_any m.kind m.fr m.to m.t m.pi m.pt m.co m.ok A n c A1 n1 c1 A2 n2 c2 W)
  have OF := Lib.hid (fun W (hW : Below B w W) => offermaybe_any m A n c A1 n1 c1 A2 n2 c2 B W (h.below hW) (Nat.le_trans hB hW.size))
  have SN := Lib.hid (fun W (hW : Below B w W) => snapmaybe_any m.kind m.fr m.to m.t m.pi m.pt m.co m.ok A n c A1 n1 c1 A2 n2 c2 B m.mem W (h.mem.below hW) (by have := h.n1; omega) (Nat.le_trans hB hW.size))
  have e1 := headR_eq m
  have e2 := zeroF_eq m h.es.len h.mem.1 h.da.1
  have e3 := snapR_eq m h.da.1
  simp only [e1] at HD
  simp only [e2] at JU
  simp only [e3] at SN
  clear e1 e2 e3 h
  have hR : chkM m = (if (headR m && (zeroF m && (offerR m && snapR m))) = true then 0 else 170) := by
    unfold chkM rightM
    simp only [Bool.and_assoc]
  rw [hR]
  clear hR
  generalize headR m = b0 at *
  generalize zeroF m = b1 at *
  generalize offerR m = b2 at *
  generalize snapR m = b3 at *
  obtain ⟨kind, fr, to, t, pi, pt, es, co, ok, mem, da⟩ := m
  simp only at HD JU OF SN ⊢
  have X := Lib.hid (Bx.new_ kind fr to t pi pt co ok A n c A1 n1 c1 A2 n2 c2 w)
  have hcs : (b0 = false) ∨ (b0 = true ∧ b1 = false) ∨ (b0 = true ∧ b1 = true ∧ b2 = false) ∨ (b0 = true ∧ b1 = true ∧ b2 = true ∧ b3 = false) ∨ (b0 = true ∧ b1 = true ∧ b2 = true ∧ b3 = true) := by
    clear HD JU OF SN X
    cases b0 <;> cases b1 <;> cases b2 <;> cases b3 <;> simp
  rcases hcs with rfl | ⟨rfl, rfl⟩ | ⟨rfl, rfl, rfl⟩ | ⟨rfl, rfl, rfl, rfl⟩ | ⟨rfl, rfl, rfl, rfl⟩
  all_goals
    go_enter Tryd.func11, Tryd.ntmps11
    go_upto_region 1 with (fail)
    generalize w.alloc (.cells #[.int .i64 kind, .int .i64 fr, .int .i64 to, .int .u64 t, .int .u64 pi, .int .u64 pt, .slice A n c, .int .u64 co, .bool ok, .slice A1 n1 c1, .slice A2 n2 c2] 31) = W at *
    obtain ⟨d0, d1, d2, d3, d4, d5, d6, d7, d8, d9, d10⟩ := X.out.cells
    go_wp2_with (first
      | (go_at_call 29; refine (HD.out _).mono ?_; rintro e w1 ⟨rfl, hb⟩; have X1 := Lib.hid (X.out.on hb); clear hb d0 d1 d2 d3 d4 d5 d6 d7 d8 d9 d10; obtain ⟨d0, d1, d2, d3, d4, d5, d6, d7, d8, d9, d10⟩ := X1.out.cells)
      | (go_at_call 30; refine (JU.out _).mono ?_; rintro e w2 ⟨rfl, hb⟩; have X2 := Lib.hid (X1.out.on hb); clear hb d0 d1 d2 d3 d4 d5 d6 d7 d8 d9 d10; obtain ⟨d0, d1, d2, d3, d4, d5, d6, d7, d8, d9, d10⟩ := X2.out.cells)
      | (go_at_call 31; refine (OF.out _ (X2.out.bel.mono hB)).mono ?_; rintro e w3 ⟨rfl, hb⟩; have X3 := Lib.hid (X2.out.on hb); clear hb d0 d1 d2 d3 d4 d5 d6 d7 d8 d9 d10; obtain ⟨d0, d1, d2, d3, d4, d5, d6, d7, d8, d9, d10⟩ := X3.out.cells)
      | (go_at_call 32; refine (SN.out _ (X3.out.bel.mono hB)).mono ?_; rintro e w4 ⟨rfl, hb⟩; have X4 := Lib.hid (X3.out.on hb); clear hb d0 d1 d2 d3 d4 d5 d6 d7 d8 d9 d10; obtain ⟨d0, d1, d2, d3, d4, d5, d6, d7, d8, d9, d10⟩ := X4.out.cells))
    go_ret
    first | exact ⟨rfl, X4.out.bel⟩ | exact ⟨rfl, X3.out.bel⟩ | exact ⟨rfl, X2.out.bel⟩ | exact ⟨rfl, X1.out.bel⟩

end Go.Proofs.YtemfnckaehjhcaaDoor
