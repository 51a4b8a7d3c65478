/-
  What each Kind has: the program's headMayBe.
-/
import Derived.Test.YtemfnckaehjhcaaDoorFrB
namespace Go.Proofs.YtemfnckaehjhcaaDoor
open Go.RowKit
attribute [local go_sem ↓] eqA neA eqGA field1

set_option maxRecDepth 100000 in
set_option maxHeartbeats 20000000 in
theorem headmaybe_any (kind fr to t pi pt co : Int) (ok : Bool) (A : Option Addr) (n c : Nat) (A1 : Option Addr) (n1 c1 : Nat) (A2 : Option Addr) (n2 c2 : Nat) (w : World) :
    Calls Tryd.prog 29 #[.agg #[.int .i64 kind, .int .i64 fr, .int .i64 to, .int .u64 t, .int .u64 pi, .int .u64 pt, .slice A n c, .int .u64 co, .bool ok, .slice A1 n1 c1, .slice A2 n2 c2]] w fun e w' => e = .returned (.bool (decide (cntg kind ≠ 0) && ((decide (1 ≤ fr) && decide (fr ≤ 5)) && ((decide (1 ≤ to) && decide (to ≤ 5)) && (decide (fr ≠ to) && (decide (1 ≤ t) && decide (t ≤ 4611686018427387904))))))) ∧ Below w.heap.size w w' := by
  have CT := Lib.hid (fun W => counting_any kind W)
  have SF := Lib.hid (fun W => server_any fr W)
  have ST := Lib.hid (fun W => server_any to W)
  have c0 : ((cntg kind : Int) != 0) = decide (cntg kind ≠ 0) := by
    by_cases h : cntg kind = 0
    · simp [h]
    · simp [h]
  have n0 : (fr != to) = decide (fr ≠ to) := by
    by_cases h : fr = to <;> simp [h]
  generalize cntg kind = C at *
  generalize decide (C ≠ 0) = b0 at *
  generalize (decide (1 ≤ fr) && decide (fr ≤ 5)) = b1 at *
  generalize (decide (1 ≤ to) && decide (to ≤ 5)) = b2 at *
  generalize decide (fr ≠ to) = b3 at *
  generalize h4 : decide (1 ≤ t) = b4 at *
  generalize h5 : decide (t ≤ 4611686018427387904) = b5 at *
  have HB := Lib.hid (show Below w.heap.size w (w.alloc (.cells #[.int .i64 kind, .int .i64 fr, .int .i64 to, .int .u64 t, .int .u64 pi, .int .u64 pt, .slice A n c, .int .u64 co, .bool ok, .slice A1 n1 c1, .slice A2 n2 c2] 31)) from (Below.refl _ _).alloc (Nat.le_refl _) _)
  have HK := Blk.new w 31 #[.int .i64 kind, .int .i64 fr, .int .i64 to, .int .u64 t, .int .u64 pi, .int .u64 pt, .slice A n c, .int .u64 co, .bool ok, .slice A1 n1 c1, .slice A2 n2 c2]
  have d0 : (w.alloc (.cells #[.int .i64 kind, .int .i64 fr, .int .i64 to, .int .u64 t, .int .u64 pi, .int .u64 pt, .slice A n c, .int .u64 co, .bool ok, .slice A1 n1 c1, .slice A2 n2 c2] 31)).cell? ⟨w.heap.size, 0, none⟩ = some (.int .i64 kind) := HK.cell 0
  have d1 : (w.alloc (.cells #[.int .i64 kind, .int .i64 fr, .int .i64 to, .int .u64 t, .int .u64 pi, .int .u64 pt, .slice A n c, .int .u64 co, .bool ok, .slice A1 n1 c1, .slice A2 n2 c2] 31)).cell? ⟨w.heap.size, 1, none⟩ = some (.int .i64 fr) := HK.cell 1
  have d2 : (w.alloc (.cells #[.int .i64 kind, .int .i64 fr, .int .i64 to, .int .u64 t, .int .u64 pi, .int .u64 pt, .slice A n c, .int .u64 co, .bool ok, .slice A1 n1 c1, .slice A2 n2 c2] 31)).cell? ⟨w.heap.size, 2, none⟩ = some (.int .i64 to) := HK.cell 2
  have d3 : (w.alloc (.cells #[.int .i64 kind, .int .i64 fr, .int .i64 to, .int .u64 t, .int .u64 pi, .int .u64 pt, .slice A n c, .int .u64 co, .bool ok, .slice A1 n1 c1, .slice A2 n2 c2] 31)).cell? ⟨w.heap.size, 3, none⟩ = some (.int .u64 t) := HK.cell 3
  have d4 : (w.alloc (.cells #[.int .i64 kind, .int .i64 fr, .int .i64 to, .int .u64 t, .int .u64 pi, .int .u64 pt, .slice A n c, .int .u64 co, .bool ok, .slice A1 n1 c1, .slice A2 n2 c2] 31)).cell? ⟨w.heap.size, 4, none⟩ = some (.int .u64 pi) := HK.cell 4
  have d5 : (w.alloc (.cells #[.int .i64 kind, .int .i64 fr, .int .i64 to, .int .u64 t, .int .u64 pi, .int .u64 pt, .slice A n c, .int .u64 co, .bool ok, .slice A1 n1 c1, .slice A2 n2 c2] 31)).cell? ⟨w.heap.size, 5, none⟩ = some (.int .u64 pt) := HK.cell 5
  have d6 : (w.alloc (.cells #[.int .i64 kind, .int .i64 fr, .int .i64 to, .int .u64 t, .int .u64 pi, .int .u64 pt, .slice A n c, .int .u64 co, .bool ok, .slice A1 n1 c1, .slice A2 n2 c2] 31)).cell? ⟨w.heap.size, 6, none⟩ = some (.slice A n c) := HK.cell 6
  have d7 : (w.alloc (.cells #[.int .i64 kind, .int .i64 fr, .int .i64 to, .int .u64 t, .int .u64 pi, .int .u64 pt, .slice A n c, .int .u64 co, .bool ok, .slice A1 n1 c1, .slice A2 n2 c2] 31)).cell? ⟨w.heap.size, 7, none⟩ = some (.int .u64 co) := HK.cell 7
  have d8 : (w.alloc (.cells #[.int .i64 kind, .int .i64 fr, .int .i64 to, .int .u64 t, .int .u64 pi, .int .u64 pt, .slice A n c, .int .u64 co, .bool ok, .slice A1 n1 c1, .slice A2 n2 c2] 31)).cell? ⟨w.heap.size, 8, none⟩ = some (.bool ok) := HK.cell 8
  have d9 : (w.alloc (.cells #[.int .i64 kind, .int .i64 fr, .int .i64 to, .int .u64 t, .int .u64 pi, .int .u64 pt, .slice A n c, .int .u64 co, .bool ok, .slice A1 n1 c1, .slice A2 n2 c2] 31)).cell? ⟨w.heap.size, 9, none⟩ = some (.slice A1 n1 c1) := HK.cell 9
  have d10 : (w.alloc (.cells #[.int .i64 kind, .int .i64 fr, .int .i64 to, .int .u64 t, .int .u64 pi, .int .u64 pt, .slice A n c, .int .u64 co, .bool ok, .slice A1 n1 c1, .slice A2 n2 c2] 31)).cell? ⟨w.heap.size, 10, none⟩ = some (.slice A2 n2 c2) := HK.cell 10
  clear HK
  have hcs : (b0 = false) ∨ (b0 = true ∧ b1 = false) ∨ (b0 = true ∧ b1 = true ∧ b2 = false) ∨ (b0 = true ∧ b1 = true ∧ b2 = true ∧ b3 = false) ∨ (b0 = true ∧ b1 = true ∧ b2 = true ∧ b3 = true ∧ b4 = false) ∨ (b0 = true ∧ b1 = true ∧ b2 = true ∧ b3 = true ∧ b4 = true ∧ b5 = false) ∨ (b0 = true ∧ b1 = true ∧ b2 = true ∧ b3 = true ∧ b4 = true ∧ b5 = true) := by
    clear CT SF ST c0 n0 h4 h5 HB d0 d1 d2 d3 d4 d5 d6 d7 d8 d9 d10
    cases b0 <;> cases b1 <;> cases b2 <;> cases b3 <;> cases b4 <;> cases b5 <;> simp
  rcases hcs with rfl | ⟨rfl, rfl⟩ | ⟨rfl, rfl, rfl⟩ | ⟨rfl, rfl, rfl, rfl⟩ | ⟨rfl, rfl, rfl, rfl, rfl⟩ | ⟨rfl, rfl, rfl, rfl, rfl, rfl⟩ | ⟨rfl, rfl, rfl, rfl, rfl, rfl⟩
  all_goals
    go_enter Tryd.func29, Tryd.ntmps29
    go_upto_region 1 with (fail)
    generalize w.alloc (.cells #[.int .i64 kind, .int .i64 fr, .int .i64 to, .int .u64 t, .int .u64 pi, .int .u64 pt, .slice A n c, .int .u64 co, .bool ok, .slice A1 n1 c1, .slice A2 n2 c2] 31) = W at *

    go_wp2_with (first
      | (go_at_call 45; refine (CT.out _).mono ?_; rintro e w1 ⟨rfl, rfl⟩)
      | (go_at_call 50; first | (refine (SF.out _).mono ?_; rintro e w1 ⟨rfl, rfl⟩) | (refine (ST.out _).mono ?_; rintro e w1 ⟨rfl, rfl⟩)))
    go_ret
    exact ⟨rfl, HB.out⟩

end Go.Proofs.YtemfnckaehjhcaaDoor
