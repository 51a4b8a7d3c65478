/-
  Several texts in one: P46, P47.
-/
import Derived.Test.YtiipglmbfgmbbaaGreatDoorP45
import Derived.Test.YtiipglmbfgmbbaaGreatDoorPkQ
namespace Go.Proofs.YtiipglmbfgmbbaaGreatDoor
open Go.RowKit Go.Shelf
attribute [local go_sem] Oper.semAt_some

/-- A text's statements; or why it has none, and where. -/
def psF (n : Nat) (l : List UInt8) : Option (List Sm × Int × Nat) :=
  if (lexF l).2.1 ≠ 0 then some ([], (lexF l).2.1, (lexF l).2.2)
  else match stsF (lexF l).1 l.length 0 n 0 [] with
    | none => none
    | some (.ok ss) => some (ss, 0, 0)
    | some (.error (er, i)) => some ([], er, (tokAt (lexF l).1 l.length i).at_)
/-- What Parse answers. -/
def Prd (w : World) (l : List UInt8) (e : Ending) (w' : World) : Prop :=
  ∃ n ss er a A9 c9, psF n l = some (ss, er, a) ∧ e = .returned (.tuple #[.slice A9 ss.length c9, .agg #[.int .i64 er, .int .i64 (a : Int)]]) ∧ Sls w' w.heap.size A9 ss.length c9 ss ∧ Below w.heap.size w w'
theorem ret11 {tmps : Array Value} {w : World} {g : Nat} {v : Value} {e a : Int} (h2 : tmps.getD 2 undef = v) (h3 : tmps.getD 3 undef = .pointer (some ⟨g, 0, none⟩)) (hs : Blk w g 26 #[.int .i64 e, .int .i64 a]) :
    (results Tryz.f11 tmps).run Tryz.prog w = .ok (.tuple #[v, .agg #[.int .i64 e, .int .i64 a]]) w := by
  have hp' : tmps[2]?.getD undef = v := by simpa using h2
  have hp2' : tmps[3]?.getD undef = .pointer (some ⟨g, 0, none⟩) := by simpa using h3
  have c2 : w.cell? ⟨g, 0, none⟩ = some (.int .i64 e) := hs.cell 0
  have c3 : w.cell? ⟨g, 1, none⟩ = some (.int .i64 a) := hs.cell 1
  simp [results, Tryz.results11, hp', hp2', asAddr, go_sem, c2, c3]
theorem Sls.low {w : World} {D D' n c : Nat} {A : Option Addr} {l : List Sm} (h : Sls w D A n c l) (hD : D' ≤ D) : Sls w D' A n c l := by
  obtain ⟨vs, h1, h2⟩ := h
  exact ⟨vs, owns_low h1 hD, h2.low hD⟩
theorem Tryz.i75 : (Tryz.prog.info? 75).map (·.size) = some 6 := by kernel_rfl
theorem Tks.zero {w : World} {base n c : Nat} {A : Option Addr} {ts : List Tk} (h : Tks w base A n c ts) : Tks w 0 A n c ts := owns_low h (Nat.zero_le _)
set_option maxRecDepth 100000 in
set_option maxHeartbeats 4000000 in
theorem parse_any (l : List UInt8) (hl : l.length ≤ 1000000) (w : World) (hG : Gl w) (hP : Gp w) : Calls Tryz.prog 11 #[tx l] w (Prd w l) := by
  obtain ⟨g0, hg0⟩ : ∃ g, w.heap.size = g := ⟨_, rfl⟩
  have h0 : Below g0 w (w.alloc (.cells #[.int .i64 0, .int .i64 0] 26)) := by rw [← hg0]; exact (Below.refl _ _).alloc (Nat.le_refl _) _
  have H0 := Lib.hid h0
  have b0 : Hid (Blk (w.alloc (.cells #[.int .i64 0, .int .i64 0] 26)) g0 26 #[.int .i64 0, .int .i64 0]) := Lib.hid (by rw [← hg0]; exact Blk.new _ _ _)
  have h9 : 9 ≤ g0 := by rw [← hg0]; exact hG.lt
  have G1 := hG.below h0 h9
  have P1 := Lib.hid (hP.fq (Fq.of (q := 2) h0 (Nat.le_refl _)) (by omega) (Nat.le_refl _))
  have LX := lex_any l hl _ G1
  have LP : ∀ ts a, lexF l = (ts, 0, a) → ts.length ≤ 300 := fun ts a h => (lexF_plc h).2.1
  have hz1 : (w.alloc (.cells #[.int .i64 0, .int .i64 0] 26)).heap.size = g0 + 1 := by simp [hg0]
  obtain ⟨X, hX⟩ : ∃ X, lexF l = X := ⟨_, rfl⟩
  obtain ⟨ts, er, a⟩ := X
  rw [hX] at LX
  have HX := Lib.hid hX
  have LH := Lib.hid LX
  clear LX hG hP G1 h0
  unfold Prd
  rw [hg0]
  go_enter Tryz.func11, Tryz.ntmps11
  go_upto_region 1 with fail
  generalize w.alloc (.cells #[.int .i64 0, .int .i64 0] 26) = w1 at *
  go_upto_region 2 with (first
    | (go_at_call 13; refine LH.out.mono ?_; rintro e w2 ⟨A, n, c, rfl, hT, hb⟩; have T2 := Lib.hid hT; have B2 : Hid (Blk w2 g0 26 #[.int .i64 0, .int .i64 0]) := Lib.hid (b0.out.below hb b0.out.lt); have H2 := Lib.hid (H0.out.trans (hb.mono (by omega))); have P2 := Lib.hid (P1.out.fq (Fq.of (q := 2) hb (Nat.le_refl _)) (by omega) (Nat.le_refl _)); have hz2 := hb.size; clear hT hb)
    | ((with_reducible refine at_store (t := 26) ?_); have AL3 : Below w2.heap.size w2 (w2.alloc (.cells #[.int .i64 0, .int .i64 0] 26)) := (Below.refl _ _).alloc (Nat.le_refl _) _; have K3 : Blk (w2.alloc (.cells #[.int .i64 0, .int .i64 0] 26)) w2.heap.size 26 #[.int .i64 0, .int .i64 0] := Blk.new _ _ _; refine wpList_store_blk _ rfl 26 _ _ rfl w2.heap.size _ 26 [.int .i64 er, .int .i64 (a : Int)] rfl rfl K3 rfl Tryz.i26' (by simp [Value.oneCell']) ?_; intro w3 hb3 ho3; have K3' : Hid (Blk w3 w2.heap.size 26 #[.int .i64 er, .int .i64 (a : Int)]) := Lib.hid hb3; have Q3 := Lib.hid (AL3.trans (ho3.below (Nat.le_refl _))); clear hb3 ho3 AL3 K3))
  have T3 := Lib.hid (T2.out.below Q3.out)
  have B3 : Hid (Blk w3 g0 26 #[.int .i64 0, .int .i64 0]) := Lib.hid (B2.out.below Q3.out B2.out.lt)
  have H3 := Lib.hid (H2.out.trans (Q3.out.mono (by have := H2.out.size; omega)))
  have P3 := Lib.hid (P2.out.fq (Fq.of (q := 2) Q3.out (Nat.le_refl _)) (by omega) (Nat.le_refl _))
  have hz3 := K3'.out.lt
  have hg5 : g0 < w2.heap.size := B2.out.lt
  clear T2 B2 H2 P2 Q3 LH b0 H0 P1
  generalize w2.heap.size = g5 at *
  have x0 : w3.cell? ⟨g5, 0, none⟩ = some (.int .i64 er) := K3'.out.cell 0
  by_cases he : er = 0
  · subst he
    have hmany := LP _ _ HX.out
    have he0 : ((0 : Int) == 0) = true := rfl
    have hn : ts.length = n := T3.out.len
    subst hn
    have OP := Lib.hid (ops_any w3)
    go_upto_region 5 with (first
      | (go_at_call 27; refine OP.out.mono ?_; rintro e w4 ⟨rfl, hM, hb⟩; have M4 := Lib.hid hM; have Q4 := Lib.hid hb; clear hM hb)
      | ((with_reducible refine at_store (t := 75) ?_); have AL5 : Below w4.heap.size w4 (w4.alloc (.cells #[.slice none 0 0, .int .i64 0, .int .i64 0, .map none, .slice none 0 0, .int .i64 0] 75)) := (Below.refl _ _).alloc (Nat.le_refl _) _; have K5 : Blk (w4.alloc (.cells #[.slice none 0 0, .int .i64 0, .int .i64 0, .map none, .slice none 0 0, .int .i64 0] 75)) w4.heap.size 75 #[.slice none 0 0, .int .i64 0, .int .i64 0, .map none, .slice none 0 0, .int .i64 0] := Blk.new _ _ _; refine wpList_store_blk _ rfl 75 _ _ rfl w4.heap.size _ 75 [.slice A ts.length c, .int .i64 0, .int .i64 (l.length : Int), .map (some w3.heap.size), .slice none 0 0, .int .i64 0] rfl rfl K5 rfl Tryz.i75 (by simp [Value.oneCell']) ?_; intro w5 hb5 ho5; have K5' : Hid (Blk w5 w4.heap.size 75 #[.slice A ts.length c, .int .i64 0, .int .i64 (l.length : Int), .map (some w3.heap.size), .slice none 0 0, .int .i64 0]) := Lib.hid hb5; have Q5 := Lib.hid (AL5.trans (ho5.below (Nat.le_refl _))); clear hb5 ho5 AL5 K5))
    have Q35 := Lib.hid (Q4.out.trans (Q5.out.mono Q4.out.size))
    have hs34 : w3.heap.size < w4.heap.size := (Array.getElem?_eq_some_iff.1 M4.out).1
    have hs45 := K5'.out.lt
    have T5 := T3.out.below Q35.out
    have S5 : Hid (Sx w5 w5.heap.size w4.heap.size A c ts l.length w3.heap.size 0 0 none 0 0) := Lib.hid ⟨⟨K5'.out, T5.zero, fun k hk => (World.ownsRow.lt T5 k hk).2, hs45, Nat.le_refl _, Nat.zero_le _, hmany⟩, (Q5.out.block _ (by omega)).trans M4.out, by omega, by omega⟩
    have P5 := Lib.hid (P3.out.fq (Fq.of (q := 2) Q35.out (Nat.le_refl _)) (by omega) (Nat.le_refl _))
    have B5 : Hid (Blk w5 g0 26 #[.int .i64 0, .int .i64 0]) := Lib.hid (B3.out.below Q35.out B3.out.lt)
    have H5 := Lib.hid (H3.out.trans (Q35.out.mono (by have := H3.out.size; omega)))
    have SH := Lib.hid (stmts_any w5 w5.heap.size w4.heap.size A c ts l.length w3.heap.size 0 0 none 0 0 S5.out P5.out (by omega) (by omega) (by omega))
    clear T5
    go_wp2_with (first
      | (go_at_call 28; refine SH.out.mono ?_; rintro e w6 ⟨n6, y6, hy, hF, hm⟩; have XY := Lib.hid hy; have B6 : Hid (Blk w6 g0 26 #[.int .i64 0, .int .i64 0]) := Lib.hid ((hF.block g0 (by omega) (by omega)).trans B5.out); have H6 : Hid (Below g0 w w6) := Lib.hid (H5.out.trans ⟨hF.os, hF.tape, hF.output, hF.size, fun i hi => hF.block i (by omega) (by omega)⟩); have hs56 := hF.size; clear hy hF; rcases y6 with ⟨er6, i6⟩ | ss6 <;> first | (obtain ⟨A9, c9, rfl, hS⟩ := hm; have SS := Lib.hid hS; clear hS) | (obtain rfl := hm))
      | ((with_reducible refine at_store (t := 26) ?_); refine wpList_store_blk _ rfl 26 _ _ rfl g0 _ 26 [.int .i64 0, .int .i64 0] rfl rfl B6.out rfl Tryz.i26' (by simp [Value.oneCell']) ?_; intro w8 hb8 ho8; have HS := SS.out; have X8 := Lib.hid hb8; have H8 := Lib.hid (H6.out.trans (ho8.below (Nat.le_refl _))); have O8 := Lib.hid ho8; clear hb8 ho8)
      | ((with_reducible refine at_store (t := 26) ?_); refine wpList_store_blk _ rfl 26 _ _ rfl g0 _ 26 [.int .i64 er6, .int .i64 ((tokAt ts l.length i6).at_ : Int)] rfl rfl B6.out rfl Tryz.i26' (by simp [Value.oneCell']) ?_; intro w8 hb8 ho8; have X8 := Lib.hid hb8; have H8 := Lib.hid (H6.out.trans (ho8.below (Nat.le_refl _))); clear hb8 ho8))
    · exact bodyPost_ret (ret11 rfl rfl X8.out) rfl ⟨n6, [], er6, (tokAt ts l.length i6).at_, none, 0, by unfold psF; rw [HX.out, if_neg (by simp)]; simp only [XY.out], rfl, ⟨[], ⟨rfl, .inl ⟨rfl, rfl⟩⟩, rfl⟩, H8.out⟩
    · have ks : ∀ t : TypeId, t ≠ 26 → Kt t w6 w8 := fun t ht => Kt.only O8.out B6.out ht
      exact bodyPost_ret (ret11 rfl rfl X8.out) rfl ⟨n6, ss6, 0, 0, A9, c9, by unfold psF; rw [HX.out, if_neg (by simp)]; simp only [XY.out], rfl, (HS.kt (ks 38 (by decide)) ⟨ks 62 (by decide), ks 65 (by decide), ks 53 (by decide), ks 109 (by decide)⟩).low (by omega), H8.out⟩
  · have he0 : (er == 0) = false := by simp [he]
    have he1 : (er != 0) = true := by simp [he]
    go_upto_region 3 with fail
    have K3d : Hid (Blk w3.drew g5 26 #[.int .i64 er, .int .i64 (a : Int)]) := Lib.hid K3'.out
    have B3d : Hid (Blk w3.drew g0 26 #[.int .i64 0, .int .i64 0]) := Lib.hid B3.out
    have H3d : Hid (Below g0 w w3.drew) := Lib.hid (H3.out.trans (below_drewN' g0 w3 1))
    refine wp_region_noPanic ?_
    refine wp_region_held_drew (S := fun w' => w'.cell? ⟨g5, 0, none⟩ = some (.int .i64 er) ∧ w'.cell? ⟨g5, 1, none⟩ = some (.int .i64 (a : Int))) (by kernel_rfl) ⟨K3d.out.cell 0, K3d.out.cell 1⟩ (fun hHeld => ?_)
    generalize w3.drew = w4 at *
    refine take_d (i := 0) (d := 15) (v := ?pa15) rfl rfl (by kernel_rfl) (by kernel_rfl) (by kernel_rfl) (fun _ _ _ h => h) (Or.inl ⟨by kernel_rfl, ?pa15h⟩) hHeld ?pa15n
    case pa15h => (intro w hSw; (try dsimp only at hSw); go_split_ands; go_simp; (try exact rfl))
    try simp only [Act.put, List.setIfInBounds_toArray, List.set_cons_zero, List.set_cons_succ]
    refine take_d (i := 1) (d := 2) (v := ?pa2) rfl rfl (by kernel_rfl) (by kernel_rfl) (by kernel_rfl) (fun _ _ _ h => h) (Or.inl ⟨by kernel_rfl, ?pa2h⟩) hHeld ?pa2n
    case pa2h => (intro w hSw; (try dsimp only at hSw); go_split_ands; go_simp; (try exact rfl))
    try simp only [Act.put, List.setIfInBounds_toArray, List.set_cons_zero, List.set_cons_succ]
    refine wpAnyH_ready (rs := [2]) (by kernel_rfl) (by simp) ?_
    refine AllReadyH.cons rfl (fun K hK => ?_) AllReadyH.nil
    refine wp_store_none rfl 26 _ _ rfl g0 #[.int .i64 0, .int .i64 0] 26 [.int .i64 er, .int .i64 (a : Int)] rfl rfl B3d.out rfl Tryz.i26' (by simp [Value.oneCell']) ?_
    intro w8 hb8 ho8
    have X8 := Lib.hid hb8
    have K8 : Hid (Blk w8 g5 26 #[.int .i64 er, .int .i64 (a : Int)]) := Lib.hid (ho8.keep K3d.out (by omega))
    have H8 := Lib.hid (H3d.out.trans (ho8.below (by omega)))
    refine hK.out _ _ ⟨K8.out.cell 0, K8.out.cell 1⟩ (fun hHeld => ?_)
    clear hK K hb8 ho8
    try simp only [Act.put, List.setIfInBounds_toArray, List.set_cons_zero, List.set_cons_succ]
    refine wpAnyH_done (by kernel_rfl) ?_ _
    refine NoPanic.normal ?_
    go_wp2_with fail
    exact bodyPost_ret (ret11 rfl rfl X8.out) rfl ⟨0, [], er, a, none, 0, by unfold psF; rw [HX.out, if_pos he], rfl, ⟨[], ⟨rfl, .inl ⟨rfl, rfl⟩⟩, rfl⟩, H8.out⟩
end Go.Proofs.YtiipglmbfgmbbaaGreatDoor

namespace Go.Proofs.YtiipglmbfgmbbaaGreatDoor
open Go.RowKit Go.Shelf
attribute [local go_sem] Oper.semAt_some

theorem psF_mono {n m : Nat} (h : n ≤ m) {l : List UInt8} {y : List Sm × Int × Nat} (hy : psF n l = some y) : psF m l = some y := by
  unfold psF at hy ⊢
  by_cases hc : (lexF l).2.1 ≠ 0
  · rw [if_pos hc] at hy ⊢
    exact hy
  · rw [if_neg hc] at hy ⊢
    cases hs : stsF (lexF l).1 l.length 0 n 0 [] with
    | none => rw [hs] at hy; cases hy
    | some z =>
      rw [hs] at hy
      rw [stsF_mono _ _ _ n m _ _ _ h hs]
      exact hy
theorem psF_one {n m : Nat} {l : List UInt8} {y z : List Sm × Int × Nat} (hy : psF n l = some y) (hz : psF m l = some z) : y = z := by
  have h1 := psF_mono (Nat.le_max_left n m) hy
  have h2 := psF_mono (Nat.le_max_right n m) hz
  rw [h1] at h2
  injection h2
theorem u26 : Tryz.prog.underlying 26 = some (.struct (Tryz.prog.fieldsOf 26)) := by kernel_rfl
theorem st26 : Tryz.prog.stoodInHeld 26 = false := by kernel_rfl
theorem g26 : Tryz.prog.eqGuardType Tryz.prog.depth 26 = false := by kernel_rfl
theorem f26 : (Tryz.prog.fieldsOf 26).toList = [⟨"Err", 24, 0, false, "", "", 0⟩, ⟨"At", 3, 1, false, "", "", 8⟩] := by kernel_rfl
theorem un24 : Tryz.prog.underlying 24 = some (.int .i64) := by kernel_rfl
theorem un3 : Tryz.prog.underlying 3 = some (.int .i64) := by kernel_rfl
theorem part_i (w : World) (t : TypeId) (k : IntKind) (h : Tryz.prog.underlying t = some (.int k)) (xs : Array Value) (i : Nat) (v : Value) (hv : xs[i]? = some v) : (part t xs i).run Tryz.prog w = .ok v w := by
  simp [part, isAgg, run_underlying h, hv]
theorem eq26in (w : World) (a b a' b' : Int) : (Op.equalIn 10000 26 (.agg #[.int .i64 a, .int .i64 b]) (.agg #[.int .i64 a', .int .i64 b'])).run Tryz.prog w = .ok (decide (a = a' ∧ b = b')) w := by
  have p1 := fun xs i v hv => part_i w 24 .i64 un24 xs i v hv
  have p2 := fun xs i v hv => part_i w 3 .i64 un3 xs i v hv
  have q1 : (Op.equalIn 9999 24 (.int .i64 a) (.int .i64 a')).run Tryz.prog w = .ok (a == a') w := run_equalIn_int w 9998 24 .i64 .i64 a a' un24
  have q2 : (Op.equalIn 9999 3 (.int .i64 b) (.int .i64 b')).run Tryz.prog w = .ok (b == b') w := run_equalIn_int w 9998 3 .i64 .i64 b b' un3
  rw [run_equalIn_struct w 9999 26 _ _ u26 st26, f26]
  unfold Op.eqFields
  rw [if_pos (by decide), Sem.run_bind, p1 _ 0 (.int .i64 a) rfl, Result.andThen_ok, Sem.run_bind, p1 _ 0 (.int .i64 a') rfl, Result.andThen_ok, Sem.run_bind, q1, Result.andThen_ok]
  by_cases h1 : a = a'
  · subst h1
    rw [if_neg (by simp)]
    unfold Op.eqFields
    rw [if_pos (by decide), Sem.run_bind, p2 _ 1 (.int .i64 b) rfl, Result.andThen_ok, Sem.run_bind, p2 _ 1 (.int .i64 b') rfl, Result.andThen_ok, Sem.run_bind, q2, Result.andThen_ok]
    by_cases h2 : b = b'
    · subst h2
      rw [if_neg (by simp)]
      simp [Op.eqFields]
    · rw [if_pos (by simp [h2])]
      simp [h2]
  · rw [if_pos (by simp [h1])]
    simp [h1]
/-- Are two spots the same? -/
def Eqp (a b a' b' : Int) : Bool := decide (a = a' ∧ b = b')
theorem eq26 (w : World) (a b a' b' : Int) : (binOp .eql 26 (.agg #[.int .i64 a, .int .i64 b]) (.agg #[.int .i64 a', .int .i64 b'])).run Tryz.prog w = .ok (.bool (Eqp a b a' b')) w := by
  rw [run_eql_struct, eq26in]
  rfl
theorem eqG26 (op : BinOp) (x y : Operand) (xs ys : Array Value) (w : World) : (eqGuard op 26 x y (.agg xs) (.agg ys)).run Tryz.prog w = .ok () w := run_eqGuard_agg w op 26 x y xs ys g26
attribute [local go_sem ↓] eq26 eqG26
/-- The two texts by which the layer shows that it wakes. -/
def wk1 : List UInt8 := [83, 69, 76, 69, 67, 84, 32, 97, 32, 43, 32, 50, 32, 42, 32, 98, 32, 70, 82, 79, 77, 32, 116, 59, 32, 68, 82, 79, 80, 32, 84, 65, 66, 76, 69, 32, 116]
def wk2 : List UInt8 := [83, 69, 76, 69, 67, 84, 32, 97, 32, 70, 82, 79, 77]
def wkC (y : Option (List Sm × Int × Nat)) : Bool := match y with
  | some ([s0, s1], 0, 0) => decide (s0.kind = 6) && decide (s1.table = [116]) && (match s0.items with | [(_, ns)] => decide (ns.length = 5) | _ => false)
  | _ => false
theorem wk1_ok : wkC (psF 60 wk1) = true := by kernel_rfl
theorem wk2_ok : psF 60 wk2 = some ([], 210, 13) := by kernel_rfl
theorem wk1_form : ∃ s0 s1 k ns, psF 60 wk1 = some ([s0, s1], 0, 0) ∧ s0.kind = 6 ∧ s1.table = [116] ∧ s0.items = [(k, ns)] ∧ ns.length = 5 := by
  have h := wk1_ok
  generalize psF 60 wk1 = y at *
  unfold wkC at h
  split at h
  · rename_i s0 s1
    simp only [Bool.and_eq_true, decide_eq_true_eq] at h
    obtain ⟨⟨h1, h2⟩, h3⟩ := h
    split at h3
    · rename_i k ns hi
      exact ⟨s0, s1, k, ns, rfl, h1, h2, hi, of_decide_eq_true h3⟩
    · cases h3
  · cases h
theorem row_at {w : World} {D e size n c j : Nat} {A : Option Addr} {xs : List Value} {v : Value} (h : w.ownsRow D e size (.slice A n c) n xs) (hj : xs[j]? = some v) (hn : 0 < n) : ∃ g, A = some ⟨g, 0, none⟩ ∧ w.cell? ⟨g, j, none⟩ = some v := by
  rcases h.2 with ⟨hv, h0⟩ | ⟨g, cap, cur, hv, hbs, hh, h1, _⟩
  · omega
  · injection hv with a b c'
    subst a
    refine ⟨g, rfl, ?_⟩
    have hl : j < n * size := by
      have := (List.getElem?_eq_some_iff.1 hj).1
      rw [h.1] at this
      exact this
    rw [World.ownsRow.cellAt (w := w) (g := g) h j (by omega)]
    exact hj
theorem wk_cells {w : World} {D c9 : Nat} {A9 : Option Addr} {s0 s1 : Sm} {k : Int} {ns : List Nd} (h : Sls w D A9 2 c9 [s0, s1]) (hk : s0.kind = 6) (ht : s1.table = [116]) (hi : s0.items = [(k, ns)]) (hn : ns.length = 5) :
    ∃ g g3 c3 B c, A9 = some ⟨g, 0, none⟩ ∧ w.cell? ⟨g, 0, none⟩ = some (.int .i64 6) ∧ w.cell? ⟨g, 6, none⟩ = some (.slice (some ⟨g3, 0, none⟩) 1 c3) ∧ w.cell? ⟨g3, 1, none⟩ = some (.slice B 5 c) ∧ w.cell? ⟨g, 16, none⟩ = some (.string ⟨#[116]⟩) := by
  obtain ⟨vs, ho, x0, rest, e, hO, x1, rest1, e1, hO1, hr⟩ := h
  have hr : rest1 = [] := hr
  subst hr
  subst e1
  subst e
  obtain ⟨g, rfl, k0⟩ := row_at (j := 0) ho rfl (by omega)
  obtain ⟨g', e6, k6⟩ := row_at (j := 6) ho rfl (by omega)
  obtain ⟨g'', e16, k16⟩ := row_at (j := 16) ho rfl (by omega)
  injection e6 with e6
  injection e6 with e6 _ _
  subst e6
  injection e16 with e16
  injection e16 with e16 _ _
  subst e16
  obtain ⟨vs3, ho3, hr3⟩ := hO.items
  rw [hi] at ho3 hr3 k6
  obtain ⟨B, c, rest3, e3, hN, hr4⟩ := hr3
  subst e3
  obtain ⟨g3, e3, k3⟩ := row_at (j := 1) ho3 rfl (by simp)
  rw [e3] at k6
  rw [hk] at k0
  rw [ht] at k16
  refine ⟨g, g3, x0.c3, B, c, rfl, k0, k6, ?_, k16⟩
  rw [k3]
  show some (Value.slice B ns.length c) = _
  rw [hn]
set_option maxRecDepth 100000 in
set_option maxHeartbeats 4000000 in
theorem wakes_any (w : World) (hG : Gl w) (hP : Gp w) : Calls Tryz.prog 7 #[] w fun e w' => e = .returned (.bool true) ∧ Below w.heap.size w w' := by
  obtain ⟨s0, s1, k, ns, hw1, hk, ht, hi, hn⟩ := wk1_form
  have P1 : Hid (∀ W, Gl W → Gp W → Calls Tryz.prog 11 #[.string ⟨#[83, 69, 76, 69, 67, 84, 32, 97, 32, 43, 32, 50, 32, 42, 32, 98, 32, 70, 82, 79, 77, 32, 116, 59, 32, 68, 82, 79, 80, 32, 84, 65, 66, 76, 69, 32, 116]⟩] W fun e w' => ∃ A9 c9, e = .returned (.tuple #[.slice A9 2 c9, .agg #[.int .i64 0, .int .i64 0]]) ∧ Sls w' W.heap.size A9 2 c9 [s0, s1] ∧ Below W.heap.size W w') := Lib.hid (fun W h1 h2 => by
    refine (parse_any wk1 (by decide) W h1 h2).mono ?_
    rintro e w' ⟨n, ss, er, a, A9, c9, hx, he, hS, hb⟩
    have := psF_one hx hw1
    simp only [Prod.mk.injEq] at this
    obtain ⟨rfl, rfl, rfl⟩ := this
    exact ⟨A9, c9, he, hS, hb⟩)
  have P2 : Hid (∀ W, Gl W → Gp W → Calls Tryz.prog 11 #[.string ⟨#[83, 69, 76, 69, 67, 84, 32, 97, 32, 70, 82, 79, 77]⟩] W fun e w' => ∃ A9 c9, e = .returned (.tuple #[.slice A9 0 c9, .agg #[.int .i64 210, .int .i64 13]]) ∧ Below W.heap.size W w') := Lib.hid (fun W h1 h2 => by
    refine (parse_any wk2 (by decide) W h1 h2).mono ?_
    rintro e w' ⟨n, ss, er, a, A9, c9, hx, he, hS, hb⟩
    have := psF_one hx wk2_ok
    simp only [Prod.mk.injEq] at this
    obtain ⟨rfl, rfl, rfl⟩ := this
    exact ⟨A9, c9, he, hb⟩)
  have HC := Lib.hid (fun W D A9 c9 (h : Sls W D A9 2 c9 [s0, s1]) => wk_cells h hk ht hi hn)
  have H0 := Lib.hid (Below.refl w.heap.size w)
  have G0 := Lib.hid hG
  have Q0 := Lib.hid hP
  have E0 : Eqp 0 0 0 0 = true := rfl
  have E1 : Eqp 210 13 210 13 = true := rfl
  clear hw1 hk ht hi hn hG hP
  go_enter Tryz.func7, Tryz.ntmps7
  go_upto_region 2 with (first
    | (go_at_call 11; refine (P1.out _ G0.out Q0.out).mono ?_; rintro e w1 ⟨A9, c9, rfl, hS, hb⟩; obtain ⟨g, g3, c3, B, c, rfl, k0, k6, k3, k16⟩ := HC.out _ _ _ _ hS; have H1 := Lib.hid hb; have G1 := Lib.hid (G0.out.on hb); have Q1 := Lib.hid (Q0.out.fq (Fq.of (q := 2) hb (Nat.le_refl _)) (by have := G0.out.lt; omega) (Nat.le_refl _)); have KK := Lib.hid (And.intro k0 (And.intro k6 (And.intro k3 k16))); clear hb hS k0 k6 k3 k16 P1 HC)
    | ((with_reducible refine at_store (t := 26) ?_); have AL3 : Below w1.heap.size w1 (w1.alloc (.cells #[.int .i64 0, .int .i64 0] 26)) := (Below.refl _ _).alloc (Nat.le_refl _) _; have K3 : Blk (w1.alloc (.cells #[.int .i64 0, .int .i64 0] 26)) w1.heap.size 26 #[.int .i64 0, .int .i64 0] := Blk.new _ _ _; refine wpList_store_blk _ rfl 26 _ _ rfl w1.heap.size _ 26 [.int .i64 0, .int .i64 0] rfl rfl K3 rfl Tryz.i26' (by simp [Value.oneCell']) ?_; intro w2 hb2 ho2; have B2 : Hid (Blk w2 w1.heap.size 26 #[.int .i64 0, .int .i64 0]) := Lib.hid hb2; have L2 := Lib.hid (AL3.trans (ho2.below (Nat.le_refl _))); clear hb2 ho2 AL3 K3))
  have G2 := Lib.hid (G1.out.on L2.out)
  have Q2 := Lib.hid (Q1.out.fq (Fq.of (q := 2) L2.out (Nat.le_refl _)) (by have := G1.out.lt; omega) (Nat.le_refl _))
  have H2 := Lib.hid (H1.out.trans (L2.out.mono H1.out.size))
  have KB : ∀ (a : World) (b : World) (x : Addr) (v : Value), Below a.heap.size a b → a.cell? x = some v → b.cell? x = some v := fun a b x v hb h => by
    have hl : x.block < a.heap.size := World.block_lt_of_cell? a x h
    rw [← h]
    simp only [World.cell?, hb.block _ hl]
  have K2 : Hid (w2.cell? ⟨g, 0, none⟩ = some (.int .i64 6) ∧ w2.cell? ⟨g, 6, none⟩ = some (.slice (some ⟨g3, 0, none⟩) 1 c3) ∧ w2.cell? ⟨g3, 1, none⟩ = some (.slice B 5 c) ∧ w2.cell? ⟨g, 16, none⟩ = some (.string ⟨#[116]⟩)) := Lib.hid ⟨KB _ _ _ _ L2.out KK.out.1, KB _ _ _ _ L2.out KK.out.2.1, KB _ _ _ _ L2.out KK.out.2.2.1, KB _ _ _ _ L2.out KK.out.2.2.2⟩
  have KBH := Lib.hid KB
  clear KB KK L2 G1 Q1 H1 G0 Q0 H0
  generalize w1.heap.size = g2 at *
  go_upto_region 3 with (first
    | (go_at_call 11; refine (P2.out _ G2.out Q2.out).mono ?_; rintro e w3 ⟨A8, c8, rfl, hb⟩; have B3 : Hid (Blk w3 g2 26 #[.int .i64 0, .int .i64 0]) := Lib.hid (B2.out.below hb B2.out.lt); have H3 := Lib.hid (H2.out.trans (hb.mono H2.out.size)); have L3 := Lib.hid hb; clear hb)
    | ((with_reducible refine at_store (t := 26) ?_); have AL3 : Below w3.heap.size w3 (w3.alloc (.cells #[.int .i64 0, .int .i64 0] 26)) := (Below.refl _ _).alloc (Nat.le_refl _) _; have K3 : Blk (w3.alloc (.cells #[.int .i64 0, .int .i64 0] 26)) w3.heap.size 26 #[.int .i64 0, .int .i64 0] := Blk.new _ _ _; refine wpList_store_blk _ rfl 26 _ _ rfl w3.heap.size _ 26 [.int .i64 210, .int .i64 13] rfl rfl K3 rfl Tryz.i26' (by simp [Value.oneCell']) ?_; intro w4 hb4 ho4; have B4 : Hid (Blk w4 w3.heap.size 26 #[.int .i64 210, .int .i64 13]) := Lib.hid hb4; have L4 := Lib.hid (AL3.trans (ho4.below (Nat.le_refl _))); clear hb4 ho4 AL3 K3))
  have H4 := Lib.hid (H3.out.trans (L4.out.mono H3.out.size))
  have C4 : Hid (Blk w4 g2 26 #[.int .i64 0, .int .i64 0]) := Lib.hid (B3.out.below L4.out B3.out.lt)
  have k0 := KBH.out _ _ _ _ L4.out (KBH.out _ _ _ _ L3.out K2.out.1)
  have k6 := KBH.out _ _ _ _ L4.out (KBH.out _ _ _ _ L3.out K2.out.2.1)
  have k3 := KBH.out _ _ _ _ L4.out (KBH.out _ _ _ _ L3.out K2.out.2.2.1)
  have k16 := KBH.out _ _ _ _ L4.out (KBH.out _ _ _ _ L3.out K2.out.2.2.2)
  clear KBH L3 L4 K2 B3 G2 Q2 H2 H3 P2
  generalize w3.heap.size = g4 at *
  go_wp2_with (first
    | ((with_reducible refine at_load (t := 26) ?_); refine wpList_load_mid rfl 26 _ rfl g2 0 rfl [.int .i64 0, .int .i64 0] _ (Blk.rng (cs := [.int .i64 0, .int .i64 0]) C4.out) Tryz.underlying26 rfl Tryz.i26' ?_)
    | ((with_reducible refine at_load (t := 26) ?_); refine wpList_load_if rfl 26 _ rfl g4 0 rfl [.int .i64 210, .int .i64 13] _ (Blk.rng (cs := [.int .i64 210, .int .i64 13]) B4.out) Tryz.underlying26 rfl Tryz.i26' ?_))
  go_ret
  exact ⟨rfl, H4.out⟩
end Go.Proofs.YtiipglmbfgmbbaaGreatDoor
