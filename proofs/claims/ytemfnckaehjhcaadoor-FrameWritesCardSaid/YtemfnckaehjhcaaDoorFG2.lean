/-
  The document's field, by its letters.
-/
import Derived.Test.YtemfnckaehjhcaaDoorFG1
import Derived.Test.YtemfnckaehjhcaaDoorFS
import Derived.Test.YtemfnckaehjhcaaDoorFC
namespace Go.Proofs.YtemfnckaehjhcaaDoor
open Go.RowKit
attribute [local go_sem ↓] eqA neA eqGA field1

theorem sh_any (x : Int) (h0 : 0 ≤ x) (h1 : x < 18446744073709551616) (w : World) : Calls Tryd.prog 18 #[.int .u64 x] w (Cloned w (shI x).length (shI x)) := by
  have := refshort_any x.toNat (by omega) w
  rwa [show ((x.toNat : Nat) : Int) = x by omega] at this
theorem own_one (w : World) (b : Int) (h0 : 0 ≤ b) (h1 : b ≤ 255) : Own (w.alloc (.cells #[.int .u8 b] 5)) w.heap.size (some ⟨w.heap.size, 0, none⟩) 1 1 [b] := by
  refine ⟨?_, bs1 h0 h1⟩
  have := World.ownsRow_lit (base := w.heap.size) (size := 1) (e := 5) w #[.int .u8 b] 1 (by omega) (by decide) (by simp)
  simpa using this
theorem shI_nat (n : Nat) : shI (n : Int) = shB n := by unfold shI; rw [Int.toNat_natCast]
set_option maxRecDepth 100000 in
set_option maxHeartbeats 8000000 in
theorem field_c (kind fr to t pi pt co : Int) (ok : Bool) (A : Option Addr) (n c : Nat) (A1 : Option Addr) (n1 c1 : Nat) (A2 : Option Addr) (n2 c2 : Nat) (w : World) (h0 : 0 ≤ co) (h1 : co < 18446744073709551616) :
    Calls Tryd.prog 57 #[.agg #[.int .i64 kind, .int .i64 fr, .int .i64 to, .int .u64 t, .int .u64 pi, .int .u64 pt, .slice A n c, .int .u64 co, .bool ok, .slice A1 n1 c1, .slice A2 n2 c2], .int .u8 99] w (Cloned w (shI co).length (shI co)) := by
  have SH := Lib.hid (fun W => sh_any co h0 h1 W)
  have X := Lib.hid (Bx.new_ kind fr to t pi pt co ok A n c A1 n1 c1 A2 n2 c2 w)
  go_enter Tryd.func57, Tryd.ntmps57
  go_upto_region 1 with (fail)
  generalize w.alloc (.cells #[.int .i64 kind, .int .i64 fr, .int .i64 to, .int .u64 t, .int .u64 pi, .int .u64 pt, .slice A n c, .int .u64 co, .bool ok, .slice A1 n1 c1, .slice A2 n2 c2] 31) = W at *
  have LO : Hid (w.heap.size < W.heap.size) := Lib.hid X.out.blk.lt
  obtain ⟨d0, d1, d2, d3, d4, d5, d6, d7, d8, d9, d10⟩ := X.out.cells
  go_wp2_with (go_at_call 18; (with_reducible refine (SH.out _).mono ?_); rintro e w2 ⟨A5, c5, rfl, ho, hb⟩; have O2 := Lib.hid ho; have B2 := Lib.hid (X.out.bel.trans (hb.mono X.out.bel.size)); clear ho hb)
  go_ret
  exact ⟨A5, c5, rfl, O2.out.down (by have := LO.out; omega), B2.out⟩
set_option maxRecDepth 100000 in
set_option maxHeartbeats 8000000 in
theorem field_p (kind fr to t pi pt co : Int) (ok : Bool) (A : Option Addr) (n c : Nat) (A1 : Option Addr) (n1 c1 : Nat) (A2 : Option Addr) (n2 c2 : Nat) (w : World) (h0 : 0 ≤ pi) (h1 : pi < 18446744073709551616) (h2 : 0 ≤ pt) (h3 : pt < 18446744073709551616) :
    Calls Tryd.prog 57 #[.agg #[.int .i64 kind, .int .i64 fr, .int .i64 to, .int .u64 t, .int .u64 pi, .int .u64 pt, .slice A n c, .int .u64 co, .bool ok, .slice A1 n1 c1, .slice A2 n2 c2], .int .u8 112] w (Cloned w (shI pi ++ shI pt).length (shI pi ++ shI pt)) := by
  have S1 := Lib.hid (fun W => sh_any pi h0 h1 W)
  have S2 := Lib.hid (fun W => sh_any pt h2 h3 W)
  have L1 := Lib.hid (shI_len h0 h1)
  have L2 := Lib.hid (shI_len h2 h3)
  clear h0 h1 h2 h3
  have X := Lib.hid (Bx.new_ kind fr to t pi pt co ok A n c A1 n1 c1 A2 n2 c2 w)
  go_enter Tryd.func57, Tryd.ntmps57
  go_upto_region 1 with (fail)
  generalize w.alloc (.cells #[.int .i64 kind, .int .i64 fr, .int .i64 to, .int .u64 t, .int .u64 pi, .int .u64 pt, .slice A n c, .int .u64 co, .bool ok, .slice A1 n1 c1, .slice A2 n2 c2] 31) = W at *
  have LO : Hid (w.heap.size < W.heap.size) := Lib.hid X.out.blk.lt
  obtain ⟨d0, d1, d2, d3, d4, d5, d6, d7, d8, d9, d10⟩ := X.out.cells
  go_upto_region 9 with (fail)
  have X0 := Lib.hid X.out.drew
  have xS := And.intro (X0.out.blk.cell 4) (X0.out.blk.cell 5)
  refine wp_region_noPanic ?_
  refine wp_region_held_drew (S := fun w' => w'.cell? ⟨w.heap.size, 4, none⟩ = some (.int .u64 pi) ∧ w'.cell? ⟨w.heap.size, 5, none⟩ = some (.int .u64 pt)) (by kernel_rfl) xS (fun hHeld => ?_)
  generalize W.drew = w0 at *
  refine take_d (i := 0) (d := 29) (v := ?fp29) rfl rfl (by kernel_rfl) (by kernel_rfl) (by kernel_rfl) (fun _ _ _ h => h) (Or.inl ⟨by kernel_rfl, ?fp29h⟩) hHeld ?fp29n
  case fp29h => (intro w hSw; (try dsimp only at hSw); go_split_ands; go_simp; (try exact rfl))
  try simp only [Act.put, List.setIfInBounds_toArray, List.set_cons_zero, List.set_cons_succ]
  refine take_d (i := 1) (d := 30) (v := ?fp30) rfl rfl (by kernel_rfl) (by kernel_rfl) (by kernel_rfl) (fun _ _ _ h => h) (Or.inl ⟨by kernel_rfl, ?fp30h⟩) hHeld ?fp30n
  case fp30h => (intro w hSw; (try dsimp only at hSw); go_split_ands; go_simp; (try exact rfl))
  try simp only [Act.put, List.setIfInBounds_toArray, List.set_cons_zero, List.set_cons_succ]
  refine take_d (i := 2) (d := 31) (v := ?fp31) rfl rfl (by kernel_rfl) (by kernel_rfl) (by kernel_rfl) (fun _ _ _ h => h) (Or.inl ⟨by kernel_rfl, ?fp31h⟩) hHeld ?fp31n
  case fp31h => (intro w hSw; (try dsimp only at hSw); go_split_ands; go_simp; (try exact rfl))
  try simp only [Act.put, List.setIfInBounds_toArray, List.set_cons_zero, List.set_cons_succ]
  refine take_d (i := 4) (d := 33) (v := ?fp33) rfl rfl (by kernel_rfl) (by kernel_rfl) (by kernel_rfl) (fun _ _ _ h => h) (Or.inl ⟨by kernel_rfl, ?fp33h⟩) hHeld ?fp33n
  case fp33h => (intro w hSw; (try dsimp only at hSw); go_split_ands; go_simp; (try exact rfl))
  try simp only [Act.put, List.setIfInBounds_toArray, List.set_cons_zero, List.set_cons_succ]
  refine take_d (i := 5) (d := 34) (v := ?fp34) rfl rfl (by kernel_rfl) (by kernel_rfl) (by kernel_rfl) (fun _ _ _ h => h) (Or.inl ⟨by kernel_rfl, ?fp34h⟩) hHeld ?fp34n
  case fp34h => (intro w hSw; (try dsimp only at hSw); go_split_ands; go_simp; (try exact rfl))
  try simp only [Act.put, List.setIfInBounds_toArray, List.set_cons_zero, List.set_cons_succ]
  refine take_d (i := 6) (d := 35) (v := ?fp35) rfl rfl (by kernel_rfl) (by kernel_rfl) (by kernel_rfl) (fun _ _ _ h => h) (Or.inl ⟨by kernel_rfl, ?fp35h⟩) hHeld ?fp35n
  case fp35h => (intro w hSw; (try dsimp only at hSw); go_split_ands; go_simp; (try exact rfl))
  try simp only [Act.put, List.setIfInBounds_toArray, List.set_cons_zero, List.set_cons_succ]
  refine wpAnyH_ready (rs := [3]) (by kernel_rfl) (by simp) ?_
  refine AllReadyH.cons rfl (fun K hK => ?_) AllReadyH.nil
  go_simp
  with_reducible refine (S1.out _).mono ?_
  rintro e w1 ⟨Aa, ca, rfl, ho, hb⟩
  have X1 := Lib.hid (X0.out.on hb)
  have Oa1 := Lib.hid ho
  have z1 := Lib.hid (Nat.le_of_lt X0.out.blk.lt)
  clear ho hb
  refine hK.out _ _ (⟨X1.out.blk.cell 4, X1.out.blk.cell 5⟩) (fun hHeld => ?_)
  clear hK K
  try simp only [Act.put, List.setIfInBounds_toArray, List.set_cons_zero, List.set_cons_succ]
  refine wpAnyH_ready (rs := [7]) (by kernel_rfl) (by simp) ?_
  refine AllReadyH.cons rfl (fun K hK => ?_) AllReadyH.nil
  go_simp
  with_reducible refine (S2.out _).mono ?_
  rintro e w2 ⟨Ab, cb, rfl, ho, hb⟩
  have X2 := Lib.hid (X1.out.on hb)
  have Oa2 := Lib.hid (Oa1.out.below hb)
  have Ob2 := Lib.hid ho
  clear ho hb
  refine hK.out _ _ (⟨X2.out.blk.cell 4, X2.out.blk.cell 5⟩) (fun hHeld => ?_)
  clear hK K
  try simp only [Act.put, List.setIfInBounds_toArray, List.set_cons_zero, List.set_cons_succ]
  refine wpAnyH_ready (rs := [8]) (by kernel_rfl) (by simp) ?_
  refine AllReadyH.cons rfl (fun K hK => ?_) AllReadyH.nil
  go_simp
  refine (both_any Aa _ ca (shI pi) Ab _ cb (shI pt) w2 w2.heap.size Oa2.out.by Oa2.out.nil Ob2.out.by Ob2.out.nil (Nat.le_refl _) (by have := L1.out; omega) (by have := L2.out; omega)).mono ?_
  rintro e w3 ⟨Ar, cr, rfl, ho, hb⟩
  have X3 := Lib.hid (X2.out.on hb)
  have O3 := Lib.hid (ho.down (Nat.le_of_lt (Nat.lt_of_le_of_lt X2.out.low X2.out.blk.lt)))
  clear ho hb
  refine hK.out _ _ (⟨X3.out.blk.cell 4, X3.out.blk.cell 5⟩) (fun hHeld => ?_)
  clear hK K
  try simp only [Act.put, List.setIfInBounds_toArray, List.set_cons_zero, List.set_cons_succ]
  refine take_d (i := 9) (d := 5) (v := ?fp5) rfl rfl (by kernel_rfl) (by kernel_rfl) (by kernel_rfl) (fun _ _ _ h => h) (Or.inl ⟨by kernel_rfl, ?fp5h⟩) hHeld ?fp5n
  case fp5h => (intro w hSw; (try dsimp only at hSw); go_split_ands; go_simp; (try exact rfl))
  try simp only [Act.put, List.setIfInBounds_toArray, List.set_cons_zero, List.set_cons_succ]
  refine wpAnyH_done (by kernel_rfl) ?_ _
  refine NoPanic.normal ?_
  go_wp2
  go_ret
  exact ⟨Ar, cr, by rw [List.length_append]; rfl, by rw [List.length_append]; exact O3.out, X3.out.bel⟩
set_option maxRecDepth 100000 in
set_option maxHeartbeats 8000000 in
theorem field_d (kind fr to t pi pt co : Int) (ok : Bool) (A : Option Addr) (n c : Nat) (A1 : Option Addr) (n1 c1 : Nat) (A2 : Option Addr) (n2 c2 : Nat) (w : World) (da : List Int) (B : Nat) (h : By w B A2 n2 da) (hB : B ≤ w.heap.size) (HN : A2 = none → c2 = 0) (hn : n2 ≤ 100000) :
    Calls Tryd.prog 57 #[.agg #[.int .i64 kind, .int .i64 fr, .int .i64 to, .int .u64 t, .int .u64 pi, .int .u64 pt, .slice A n c, .int .u64 co, .bool ok, .slice A1 n1 c1, .slice A2 n2 c2], .int .u8 100] w (Cloned w (shI (n2 : Int) ++ da).length (shI (n2 : Int) ++ da)) := by
  have S1 := Lib.hid (fun W => sh_any (n2 : Int) (by omega) (by omega) W)
  have L1 := Lib.hid (shI_len (x := (n2 : Int)) (by omega) (by omega))
  have HD := Lib.hid (fun W (hW : Below w.heap.size w W) => (h.below (hW.mono hB)).more (Nat.le_trans hB hW.size))
  have LD := Lib.hid h.1
  have n0 : (0 : Int) ≤ (n2 : Int) := by omega
  have n5 : (n2 : Int) ≤ 100000 := by omega
  have HNL := Lib.hid HN
  have hwu : IntKind.u64.wrap (n2 : Int) = (n2 : Int) := by rw [IntKind.wrap_u64]; omega
  clear h HN hn hB
  have X := Lib.hid (Bx.new_ kind fr to t pi pt co ok A n c A1 n1 c1 A2 n2 c2 w)
  go_enter Tryd.func57, Tryd.ntmps57
  go_upto_region 1 with (fail)
  generalize w.alloc (.cells #[.int .i64 kind, .int .i64 fr, .int .i64 to, .int .u64 t, .int .u64 pi, .int .u64 pt, .slice A n c, .int .u64 co, .bool ok, .slice A1 n1 c1, .slice A2 n2 c2] 31) = W at *
  have LO : Hid (w.heap.size < W.heap.size) := Lib.hid X.out.blk.lt
  obtain ⟨d0, d1, d2, d3, d4, d5, d6, d7, d8, d9, d10⟩ := X.out.cells
  go_upto_region 3 with (fail)
  have X0 := Lib.hid X.out.drew
  have xS := X0.out.blk.cell 10
  refine wp_region_noPanic ?_
  refine wp_region_held_drew (S := fun w' => w'.cell? ⟨w.heap.size, 10, none⟩ = some (.slice A2 n2 c2)) (by kernel_rfl) xS (fun hHeld => ?_)
  generalize W.drew = w0 at *
  refine take_d (i := 0) (d := 12) (v := ?fd12) rfl rfl (by kernel_rfl) (by kernel_rfl) (by kernel_rfl) (fun _ _ _ h => h) (Or.inl ⟨by kernel_rfl, ?fd12h⟩) hHeld ?fd12n
  case fd12h => (intro w hSw; (try dsimp only at hSw); go_split_ands; go_simp; (try exact rfl))
  try simp only [Act.put, List.setIfInBounds_toArray, List.set_cons_zero, List.set_cons_succ]
  refine take_d (i := 1) (d := 13) (v := ?fd13) rfl rfl (by kernel_rfl) (by kernel_rfl) (by kernel_rfl) (fun _ _ _ h => h) (Or.inl ⟨by kernel_rfl, ?fd13h⟩) hHeld ?fd13n
  case fd13h => (intro w hSw; (try dsimp only at hSw); go_split_ands; go_simp; (try exact rfl))
  try simp only [Act.put, List.setIfInBounds_toArray, List.set_cons_zero, List.set_cons_succ]
  refine take_d (i := 2) (d := 14) (v := ?fd14) rfl rfl (by kernel_rfl) (by kernel_rfl) (by kernel_rfl) (fun _ _ _ h => h) (Or.inl ⟨by kernel_rfl, ?fd14h⟩) hHeld ?fd14n
  case fd14h => (intro w hSw; (try dsimp only at hSw); go_split_ands; go_simp; (try exact rfl))
  try simp only [Act.put, List.setIfInBounds_toArray, List.set_cons_zero, List.set_cons_succ]
  refine take_d (i := 3) (d := 15) (v := .int .u64 (n2 : Int)) rfl rfl (by kernel_rfl) (by kernel_rfl) (by kernel_rfl) (fun _ _ _ h => h) (Or.inl ⟨by kernel_rfl, ?fd15h⟩) hHeld ?_
  case fd15h => (intro w hSw; (try dsimp only at hSw); go_split_ands; go_simp)
  try simp only [Act.put, List.setIfInBounds_toArray, List.set_cons_zero, List.set_cons_succ]
  refine take_d (i := 5) (d := 17) (v := ?fd17) rfl rfl (by kernel_rfl) (by kernel_rfl) (by kernel_rfl) (fun _ _ _ h => h) (Or.inl ⟨by kernel_rfl, ?fd17h⟩) hHeld ?fd17n
  case fd17h => (intro w hSw; (try dsimp only at hSw); go_split_ands; go_simp; (try exact rfl))
  try simp only [Act.put, List.setIfInBounds_toArray, List.set_cons_zero, List.set_cons_succ]
  refine take_d (i := 6) (d := 18) (v := ?fd18) rfl rfl (by kernel_rfl) (by kernel_rfl) (by kernel_rfl) (fun _ _ _ h => h) (Or.inl ⟨by kernel_rfl, ?fd18h⟩) hHeld ?fd18n
  case fd18h => (intro w hSw; (try dsimp only at hSw); go_split_ands; go_simp; (try exact rfl))
  try simp only [Act.put, List.setIfInBounds_toArray, List.set_cons_zero, List.set_cons_succ]
  refine wpAnyH_ready (rs := [4]) (by kernel_rfl) (by simp) ?_
  refine AllReadyH.cons rfl (fun K hK => ?_) AllReadyH.nil
  go_simp
  with_reducible refine (S1.out _).mono ?_
  rintro e w1 ⟨Aa, ca, rfl, ho, hb⟩
  have X1 := Lib.hid (X0.out.on hb)
  have Oa1 := Lib.hid ho
  have D1 := Lib.hid (HD.out _ X1.out.bel)
  clear ho hb
  refine hK.out _ _ (X1.out.blk.cell 10) (fun hHeld => ?_)
  clear hK K
  try simp only [Act.put, List.setIfInBounds_toArray, List.set_cons_zero, List.set_cons_succ]
  refine wpAnyH_ready (rs := [7]) (by kernel_rfl) (by simp) ?_
  refine AllReadyH.cons rfl (fun K hK => ?_) AllReadyH.nil
  go_simp
  refine (both_any Aa _ ca (shI (n2 : Int)) A2 n2 c2 da w1 w1.heap.size Oa1.out.by Oa1.out.nil D1.out HNL.out (Nat.le_refl _) (by have := L1.out; omega) (by omega)).mono ?_
  rintro e w2 ⟨Ar, cr, rfl, ho, hb⟩
  have X2 := Lib.hid (X1.out.on hb)
  have O2 := Lib.hid (ho.down (Nat.le_of_lt (Nat.lt_of_le_of_lt X1.out.low X1.out.blk.lt)))
  clear ho hb
  refine hK.out _ _ (X2.out.blk.cell 10) (fun hHeld => ?_)
  clear hK K
  try simp only [Act.put, List.setIfInBounds_toArray, List.set_cons_zero, List.set_cons_succ]
  refine take_d (i := 8) (d := 5) (v := ?fd5) rfl rfl (by kernel_rfl) (by kernel_rfl) (by kernel_rfl) (fun _ _ _ h => h) (Or.inl ⟨by kernel_rfl, ?fd5h⟩) hHeld ?fd5n
  case fd5h => (intro w hSw; (try dsimp only at hSw); go_split_ands; go_simp; (try exact rfl))
  try simp only [Act.put, List.setIfInBounds_toArray, List.set_cons_zero, List.set_cons_succ]
  refine wpAnyH_done (by kernel_rfl) ?_ _
  refine NoPanic.normal ?_
  go_wp2
  go_ret
  exact ⟨Ar, cr, by rw [List.length_append, LD.out]; rfl, by rw [List.length_append, LD.out]; exact O2.out, X2.out.bel⟩
set_option maxRecDepth 100000 in
set_option maxHeartbeats 8000000 in
theorem field_o (kind fr to t pi pt co : Int) (ok : Bool) (A : Option Addr) (n c : Nat) (A1 : Option Addr) (n1 c1 : Nat) (A2 : Option Addr) (n2 c2 : Nat) (w : World)  :
    Calls Tryd.prog 57 #[.agg #[.int .i64 kind, .int .i64 fr, .int .i64 to, .int .u64 t, .int .u64 pi, .int .u64 pt, .slice A n c, .int .u64 co, .bool ok, .slice A1 n1 c1, .slice A2 n2 c2], .int .u8 111] w (Cloned w ([if ok = true then (1 : Int) else 0]).length ([if ok = true then (1 : Int) else 0])) := by
  have X := Lib.hid (Bx.new_ kind fr to t pi pt co ok A n c A1 n1 c1 A2 n2 c2 w)
  go_enter Tryd.func57, Tryd.ntmps57
  go_upto_region 1 with (fail)
  generalize w.alloc (.cells #[.int .i64 kind, .int .i64 fr, .int .i64 to, .int .u64 t, .int .u64 pi, .int .u64 pt, .slice A n c, .int .u64 co, .bool ok, .slice A1 n1 c1, .slice A2 n2 c2] 31) = W at *
  have LO : Hid (w.heap.size < W.heap.size) := Lib.hid X.out.blk.lt
  obtain ⟨d0, d1, d2, d3, d4, d5, d6, d7, d8, d9, d10⟩ := X.out.cells
  have X1 := Lib.hid (X.out.alloc (.cells #[.int .u8 0] 5))
  have e8 := X1.out.blk.cell 8
  have NB : Hid (Blk (W.alloc (.cells #[.int .u8 0] 5)) W.heap.size 5 #[.int .u8 0]) := Lib.hid (Blk.new _ _ _)
  have nb0 := NB.out.cell 0
  have nb1 := NB.out.frozen 0
  cases ok with
  | true =>
    go_wp2
    go_ret
    exact ⟨_, 1, rfl, (own_one W 1 (by decide) (by decide)).down (by have := LO.out; omega), (X.out.alloc _).bel⟩
  | false =>
    go_wp2
    go_ret
    exact ⟨_, 1, rfl, (own_one W 0 (by decide) (by decide)).down (by have := LO.out; omega), (X.out.alloc _).bel⟩
set_option maxRecDepth 100000 in
set_option maxHeartbeats 8000000 in
theorem field_m (kind fr to t pi pt co : Int) (ok : Bool) (A : Option Addr) (n c : Nat) (A1 : Option Addr) (n1 c1 : Nat) (A2 : Option Addr) (n2 c2 : Nat) (w : World) (mem : List Int) (B : Nat) (h : Is w B A1 n1 mem) (hB : B ≤ w.heap.size) (hn : n1 ≤ 1000) :
    Calls Tryd.prog 57 #[.agg #[.int .i64 kind, .int .i64 fr, .int .i64 to, .int .u64 t, .int .u64 pi, .int .u64 pt, .slice A n c, .int .u64 co, .bool ok, .slice A1 n1 c1, .slice A2 n2 c2], .int .u8 109] w (Cloned w (shI (n1 : Int) ++ mem.map (· % 256)).length (shI (n1 : Int) ++ mem.map (· % 256))) := by
  have S1 := Lib.hid (fun W => sh_any (n1 : Int) (by omega) (by omega) W)
  have L1 := Lib.hid (shI_len (x := (n1 : Int)) (by omega) (by omega))
  have HM := Lib.hid (fun W (hW : Below w.heap.size w W) => (h.below (hW.mono hB)).2)
  have LM := Lib.hid h.1
  have n0 : (0 : Int) ≤ (n1 : Int) := by omega
  have n5 : (n1 : Int) ≤ 1000 := by omega
  obtain ⟨S, hS⟩ : ∃ S, shI (n1 : Int) = S := ⟨_, rfl⟩
  rw [hS] at S1 L1 ⊢
  have E0 : Hid ((mem.take 0).map (· % 256) = []) := Lib.hid rfl
  have E1 : Hid ((mem.take n1).map (· % 256) = mem.map (· % 256)) := Lib.hid (by rw [List.take_of_length_le (by rw [h.1]; omega)])
  have E2 : Hid (∀ k, k < n1 → (mem.take (k + 1)).map (· % 256) = (mem.take k).map (· % 256) ++ [mem.getD k 0 % 256]) := Lib.hid (fun k hk => by
    rw [List.take_succ_eq_append_getElem (by rw [h.1]; exact hk), List.map_append]
    have e : mem.getD k 0 = mem[k]'(by rw [h.1]; exact hk) := by simp [List.getD, h.1, hk]
    rw [e]; rfl)
  obtain ⟨FS, hFS⟩ : ∃ FS : Nat → List Int, FS = fun k => (mem.take k).map (· % 256) := ⟨_, rfl⟩
  have F0 : Hid (FS 0 = []) := Lib.hid (by rw [hFS]; rfl)
  have F1 : Hid (FS n1 = mem.map (· % 256)) := Lib.hid (by rw [hFS]; exact E1.out)
  have F2 : Hid (∀ k, k < n1 → FS (k + 1) = FS k ++ [mem.getD k 0 % 256]) := Lib.hid (fun k hk => by rw [hFS]; exact E2.out k hk)
  have FL : Hid ((S ++ mem.map (· % 256)).length = S.length + n1) := Lib.hid (by rw [List.length_append, List.length_map, h.1])
  clear hS h E0 E1 E2 hFS
  rw [FL.out]
  generalize mem.map (· % 256) = MM at *
  generalize S.length = sl at *
  have X := Lib.hid (Bx.new_ kind fr to t pi pt co ok A n c A1 n1 c1 A2 n2 c2 w)
  go_enter Tryd.func57, Tryd.ntmps57
  go_upto_region 1 with (fail)
  generalize w.alloc (.cells #[.int .i64 kind, .int .i64 fr, .int .i64 to, .int .u64 t, .int .u64 pi, .int .u64 pt, .slice A n c, .int .u64 co, .bool ok, .slice A1 n1 c1, .slice A2 n2 c2] 31) = W at *
  have LO : Hid (w.heap.size < W.heap.size) := Lib.hid X.out.blk.lt
  obtain ⟨d0, d1, d2, d3, d4, d5, d6, d7, d8, d9, d10⟩ := X.out.cells
  go_wp2_with (go_at_call 18; (with_reducible refine (S1.out _).mono ?_); rintro e w2 ⟨A5, c5, rfl, ho, hb⟩; have O2 := Lib.hid ho; have X2 := Lib.hid (X.out.on hb); have e9 := X2.out.blk.cell 9; have Z2 := Lib.hid hb.size; clear ho hb)
  go_loopw [5, 97] (fun s i wr => ∃ (k : Nat) (A3 : Option Addr) (c3 : Nat), k ≤ n1 ∧ i = .int .i64 (k : Int) ∧ s = .slice A3 (sl + k) c3 ∧ Hid (Own wr W.heap.size A3 (sl + k) c3 (S ++ FS k)) ∧ Hid (Below w.heap.size w wr) ∧ Hid (W.heap.size ≤ wr.heap.size)) (fun _ i _ => n1 - (intOf i).toNat)
  case atStart => exact ⟨0, A5, c5, Nat.zero_le _, rfl, rfl, Lib.hid (by rw [F0.out, List.append_nil]; exact O2.out), Lib.hid X2.out.bel, Z2⟩
  case round =>
    obtain ⟨k, A3, c3, hk, rfl, rfl, IO, IB, IZ⟩ := hrel
    by_cases hlt : k < n1
    · obtain ⟨b, o, rfl, hb, hc⟩ := HM.out _ IB.out (by omega)
      have c1 := hc k hlt
      have k0 : (0 : Int) ≤ (k : Int) := by omega
      have FU := Lib.hid (F2.out k hlt)
      have LL := L1.out
      clear hc
      generalize mem.getD k 0 = x at *
      have x0 : 0 ≤ x % 256 := by omega
      have x1 : x % 256 ≤ 255 := by omega
      go_wp2_with (at_builtin; refine append_one rfl (.tmp 101) (.tmp 104) rfl W.heap.size A3 (sl + k) c3 (S ++ FS k) rfl IO.out (x % 256) x0 x1 rfl (by omega) IZ.out ?_; intro A7 c7 w7 ho7 hb7; have O7 := Lib.hid ho7; have B7 := Lib.hid (IB.out.trans (hb7.below.mono (by have := LO.out; omega))); have Z7 := Lib.hid (Nat.le_trans IZ.out hb7.below.size); clear ho7 hb7)
      go_roundw
      case rel => exact ⟨k + 1, A7, c7, by omega, by go_num, rfl, Lib.hid (by rw [FU.out, ← List.append_assoc]; exact O7.out), B7, Z7⟩
      case measure => simp [intOf]; omega
    · obtain rfl : k = n1 := by omega
      go_wp2
      go_ret
      exact ⟨A3, c3, rfl, by rw [← F1.out]; exact IO.out.down (by have := LO.out; omega), IB.out⟩
end Go.Proofs.YtemfnckaehjhcaaDoor
