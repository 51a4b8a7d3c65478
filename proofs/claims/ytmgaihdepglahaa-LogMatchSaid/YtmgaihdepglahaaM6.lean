/-
  The document's Has and Newer.
-/
import Derived.Test.YtmgaihdepglahaaM5
import Derived.ChangeKeysEq
import Derived.Laws.StructEq
namespace Go.Proofs.Ytmgaihdepglahaa
open Go.RowKit

theorem u24 : Try.prog.underlying 24 = some (.struct (Try.prog.fieldsOf 24)) := by kernel_rfl
theorem st24 : Try.prog.stoodInHeld 24 = false := by kernel_rfl
theorem g24 : Try.prog.eqGuardType Try.prog.depth 24 = false := by kernel_rfl
theorem f24 : (Try.prog.fieldsOf 24).toList = [⟨"Index", 22, 0, false, "", "", 0⟩, ⟨"Term", 22, 1, false, "", "", 8⟩] := by kernel_rfl
theorem part_int (w : World) (t : TypeId) (k : IntKind) (h : Try.prog.underlying t = some (.int k)) (xs : Array Value) (i : Nat) (v : Value) (hv : xs[i]? = some v) : (part t xs i).run Try.prog w = .ok v w := by
  simp [part, isAgg, run_underlying h, hv]
theorem eqAin (w : World) (a b a' b' : Int) : (Op.equalIn 10000 24 (.agg #[.int .u64 a, .int .u64 b]) (.agg #[.int .u64 a', .int .u64 b'])).run Try.prog w = .ok (decide (a = a' ∧ b = b')) w := by
  have p1 := fun xs i v hv => part_int w 22 .u64 Try.underlying22 xs i v hv
  have q1 : (Op.equalIn 9999 22 (.int .u64 a) (.int .u64 a')).run Try.prog w = .ok (a == a') w := run_equalIn_int w 9998 22 .u64 .u64 a a' Try.underlying22
  have q2 : (Op.equalIn 9999 22 (.int .u64 b) (.int .u64 b')).run Try.prog w = .ok (b == b') w := run_equalIn_int w 9998 22 .u64 .u64 b b' Try.underlying22
  rw [run_equalIn_struct w 9999 24 _ _ u24 st24, f24]
  unfold Op.eqFields
  rw [if_pos (by decide), Sem.run_bind, p1 _ 0 (.int .u64 a) rfl, Result.andThen_ok, Sem.run_bind, p1 _ 0 (.int .u64 a') rfl, Result.andThen_ok, Sem.run_bind, q1, Result.andThen_ok]
  by_cases h1 : a = a'
  · subst h1
    rw [if_neg (by simp)]
    unfold Op.eqFields
    rw [if_pos (by decide), Sem.run_bind, p1 _ 1 (.int .u64 b) rfl, Result.andThen_ok, Sem.run_bind, p1 _ 1 (.int .u64 b') rfl, Result.andThen_ok, Sem.run_bind, q2, Result.andThen_ok]
    by_cases h2 : b = b'
    · subst h2
      rw [if_neg (by simp)]
      simp [Op.eqFields]
    · rw [if_pos (by simp [h2])]
      simp [h2]
  · rw [if_pos (by simp [h1])]
    simp [h1]
/-- Are two spots the same? -/
def Eqa (a b a' b' : Int) : Bool := decide (a = a' ∧ b = b')
theorem eqA (w : World) (a b a' b' : Int) : (binOp .eql 24 (.agg #[.int .u64 a, .int .u64 b]) (.agg #[.int .u64 a', .int .u64 b'])).run Try.prog w = .ok (.bool (Eqa a b a' b')) w := by
  rw [run_eql_struct, eqAin]
  rfl
theorem neA (w : World) (a b a' b' : Int) : (binOp .neq 24 (.agg #[.int .u64 a, .int .u64 b]) (.agg #[.int .u64 a', .int .u64 b'])).run Try.prog w = .ok (.bool (!Eqa a b a' b')) w := by
  rw [run_neq_struct, eqAin]
  rfl
theorem eqGA (op : BinOp) (x y : Operand) (xs ys : Array Value) (w : World) : (eqGuard op 24 x y (.agg xs) (.agg ys)).run Try.prog w = .ok () w := run_eqGuard_agg w op 24 x y xs ys g24
attribute [local go_sem ↓] eqA neA eqGA

theorem refnewer_any (ai at_ bi bt : Int) (w : World) : Calls Try.prog 39 #[.agg #[.int .u64 ai, .int .u64 at_], .agg #[.int .u64 bi, .int .u64 bt]] w fun e w' => e = .returned (.bool (rNewer ai at_ bi bt)) ∧ Below w.heap.size w w' := by
  have HB := Lib.hid (show Below w.heap.size w ((w.alloc (.cells #[.int .u64 ai, .int .u64 at_] 24)).alloc (.cells #[.int .u64 bi, .int .u64 bt] 24)) from ((Below.refl _ _).alloc (Nat.le_refl _) _).alloc (by simp) _)
  unfold rNewer
  by_cases he : at_ = bt
  · subst he
    rw [if_neg (by simp)]
    have h1 : (at_ != at_) = false := by simp
    go_enter Try.func39, Try.ntmps39
    go_wp2
    go_ret
    exact ⟨rfl, HB.out⟩
  · rw [if_pos he]
    have h1 : (at_ != bt) = true := by simp [he]
    clear he
    go_enter Try.func39, Try.ntmps39
    go_wp2
    go_ret
    exact ⟨rfl, HB.out⟩

set_option linter.unusedSimpArgs false in
set_option maxRecDepth 100000 in
set_option maxHeartbeats 1000000 in
theorem refhas_any (l : Lg) (A : Option Addr) (n c B : Nat) (w : World) (h : Lr w B A n c l) (hB : B ≤ w.heap.size) (i u : Int) (hi0 : 0 ≤ i) (hi1 : i < 18446744073709551616) :
    Calls Try.prog 36 #[.agg #[.int .u64 l.bi, .int .u64 l.bt, .slice A n c], .agg #[.int .u64 i, .int .u64 u]] w fun e w' => e = .returned (.bool (rHas l i u)) ∧ Below w.heap.size w w' := by
  have NU := Lib.hid (fun W (hW : Below B w W) => refnumber_any l A n c B W (h.below hW) (Nat.le_trans hB hW.size) i hi0 hi1)
  have HNB : Hid (∀ k, l.num i = some k → k ≤ n ∧ spI l.bi k = i) := fun k hk => by rw [← h.len]; exact numB_some hi0 hi1 hk
  obtain ⟨bi, bt, es⟩ := l
  obtain ⟨hes, hnc, hnil, hn, hbi0, hbi1, hbt0, hbt1⟩ := h
  simp only at hes hbi0 hbi1 hbt0 hbt1 HNB
  have SP := Lib.hid (fun W (hW : Below B w W) => refspots_any bi bt A n c B es W (hes.below hW) (by omega) (Nat.le_trans hB hW.size) hbi0 hbi1)
  have HB := Lib.hid (show Below w.heap.size w ((w.alloc (.cells #[.int .u64 bi, .int .u64 bt, .slice A n c] 27)).alloc (.cells #[.int .u64 i, .int .u64 u] 24)) from ((Below.refl _ _).alloc (Nat.le_refl _) _).alloc (by simp) _)
  have b0 := Lib.hid (show Blk ((w.alloc (.cells #[.int .u64 bi, .int .u64 bt, .slice A n c] 27)).alloc (.cells #[.int .u64 i, .int .u64 u] 24)) w.heap.size 27 #[.int .u64 bi, .int .u64 bt, .slice A n c] from (Blk.new w 27 _).alloc _)
  have b1 := Lib.hid (show Blk ((w.alloc (.cells #[.int .u64 bi, .int .u64 bt, .slice A n c] 27)).alloc (.cells #[.int .u64 i, .int .u64 u] 24)) (w.heap.size + 1) 24 #[.int .u64 i, .int .u64 u] from Blk.fresh (by simp))
  have C5 : Hid (∀ W, Blk W w.heap.size 27 #[.int .u64 bi, .int .u64 bt, .slice A n c] → Blk W (w.heap.size + 1) 24 #[.int .u64 i, .int .u64 u] → W.cell? ⟨w.heap.size, 0, none⟩ = some (.int .u64 bi) ∧ W.cell? ⟨w.heap.size, 1, none⟩ = some (.int .u64 bt) ∧ W.cell? ⟨w.heap.size, 2, none⟩ = some (.slice A n c) ∧ W.cell? ⟨w.heap.size + 1, 0, none⟩ = some (.int .u64 i) ∧ W.cell? ⟨w.heap.size + 1, 1, none⟩ = some (.int .u64 u)) := fun W h0 h1 => ⟨h0.cell 0, h0.cell 1, h0.cell 2, h1.cell 0, h1.cell 1⟩
  clear hes
  unfold rHas
  unfold numZ at NU
  cases hq : (⟨bi, bt, es⟩ : Lg).num i with
  | none =>
    rw [hq] at NU
    clear hq HNB
    go_enter Try.func36, Try.ntmps36
    go_wp2_with (go_at_call 61; refine (NU.out _ (HB.out.mono hB)).mono ?_; rintro e w1 ⟨rfl, hb⟩)
    have B0 : Hid (Blk w1.drew w.heap.size 27 #[.int .u64 bi, .int .u64 bt, .slice A n c]) := Lib.hid (b0.out.below hb.drew b0.out.lt)
    have B1 : Hid (Blk w1.drew (w.heap.size + 1) 24 #[.int .u64 i, .int .u64 u]) := Lib.hid (b1.out.below hb.drew b1.out.lt)
    have HB1 := Lib.hid ((HB.out.trans (hb.mono HB.out.size)).drew)
    clear hb
    have hS0 := C5.out _ B0.out B1.out
    refine wp_region_noPanic ?_
    refine wp_region_held_drew (S := fun w' => w'.cell? ⟨w.heap.size, 0, none⟩ = some (.int .u64 bi) ∧ w'.cell? ⟨w.heap.size, 1, none⟩ = some (.int .u64 bt) ∧ w'.cell? ⟨w.heap.size, 2, none⟩ = some (.slice A n c) ∧ w'.cell? ⟨w.heap.size + 1, 0, none⟩ = some (.int .u64 i) ∧ w'.cell? ⟨w.heap.size + 1, 1, none⟩ = some (.int .u64 u)) (by kernel_rfl) hS0 (fun hHeld => ?_)
    refine take_d (i := 0) (d := 10) (v := ?n10) rfl rfl (by kernel_rfl) (by kernel_rfl) (by kernel_rfl) (fun _ _ _ h => h) (Or.inl ⟨by kernel_rfl, ?n10h⟩) hHeld ?n10n
    case n10h => (intro w hSw; (try dsimp only at hSw); go_split_ands; go_simp; (try exact rfl))
    try simp only [Act.put, List.setIfInBounds_toArray, List.set_cons_zero, List.set_cons_succ]
    refine take_d (i := 1) (d := 11) (v := ?n11) rfl rfl (by kernel_rfl) (by kernel_rfl) (by kernel_rfl) (fun _ _ _ h => h) (Or.inl ⟨by kernel_rfl, ?n11h⟩) hHeld ?n11n
    case n11h => (intro w hSw; (try dsimp only at hSw); go_split_ands; go_simp; (try exact rfl))
    try simp only [Act.put, List.setIfInBounds_toArray, List.set_cons_zero, List.set_cons_succ]
    refine take_d (i := 2) (d := 12) (v := ?n12) rfl rfl (by kernel_rfl) (by kernel_rfl) (by kernel_rfl) (fun _ _ _ h => h) (Or.inl ⟨by kernel_rfl, ?n12h⟩) hHeld ?n12n
    case n12h => (intro w hSw; (try dsimp only at hSw); go_split_ands; go_simp; (try exact rfl))
    try simp only [Act.put, List.setIfInBounds_toArray, List.set_cons_zero, List.set_cons_succ]
    refine take_d (i := 3) (d := 13) (v := undef) rfl rfl (by kernel_rfl) (by kernel_rfl) (by kernel_rfl) (fun _ _ _ h => h) (Or.inr ⟨by kernel_rfl, rfl⟩) hHeld ?_
    try simp only [Act.put, List.setIfInBounds_toArray, List.set_cons_zero, List.set_cons_succ]
    refine take_d (i := 4) (d := 14) (v := undef) rfl rfl (by kernel_rfl) (by kernel_rfl) (by kernel_rfl) (fun _ _ _ h => h) (Or.inr ⟨by kernel_rfl, rfl⟩) hHeld ?_
    try simp only [Act.put, List.setIfInBounds_toArray, List.set_cons_zero, List.set_cons_succ]
    refine take_d (i := 5) (d := 15) (v := undef) rfl rfl (by kernel_rfl) (by kernel_rfl) (by kernel_rfl) (fun _ _ _ h => h) (Or.inr ⟨by kernel_rfl, rfl⟩) hHeld ?_
    try simp only [Act.put, List.setIfInBounds_toArray, List.set_cons_zero, List.set_cons_succ]
    refine take_d (i := 6) (d := 16) (v := undef) rfl rfl (by kernel_rfl) (by kernel_rfl) (by kernel_rfl) (fun _ _ _ h => h) (Or.inr ⟨by kernel_rfl, rfl⟩) hHeld ?_
    try simp only [Act.put, List.setIfInBounds_toArray, List.set_cons_zero, List.set_cons_succ]
    refine take_d (i := 7) (d := 17) (v := undef) rfl rfl (by kernel_rfl) (by kernel_rfl) (by kernel_rfl) (fun _ _ _ h => h) (Or.inr ⟨by kernel_rfl, rfl⟩) hHeld ?_
    try simp only [Act.put, List.setIfInBounds_toArray, List.set_cons_zero, List.set_cons_succ]
    refine take_d (i := 8) (d := 18) (v := undef) rfl rfl (by kernel_rfl) (by kernel_rfl) (by kernel_rfl) (fun _ _ _ h => h) (Or.inr ⟨by kernel_rfl, rfl⟩) hHeld ?_
    try simp only [Act.put, List.setIfInBounds_toArray, List.set_cons_zero, List.set_cons_succ]
    refine take_d (i := 9) (d := 19) (v := undef) rfl rfl (by kernel_rfl) (by kernel_rfl) (by kernel_rfl) (fun _ _ _ h => h) (Or.inr ⟨by kernel_rfl, rfl⟩) hHeld ?_
    try simp only [Act.put, List.setIfInBounds_toArray, List.set_cons_zero, List.set_cons_succ]
    refine take_d (i := 10) (d := 20) (v := undef) rfl rfl (by kernel_rfl) (by kernel_rfl) (by kernel_rfl) (fun _ _ _ h => h) (Or.inr ⟨by kernel_rfl, rfl⟩) hHeld ?_
    try simp only [Act.put, List.setIfInBounds_toArray, List.set_cons_zero, List.set_cons_succ]
    refine take_d (i := 11) (d := 21) (v := undef) rfl rfl (by kernel_rfl) (by kernel_rfl) (by kernel_rfl) (fun _ _ _ h => h) (Or.inr ⟨by kernel_rfl, rfl⟩) hHeld ?_
    try simp only [Act.put, List.setIfInBounds_toArray, List.set_cons_zero, List.set_cons_succ]
    refine take_d (i := 12) (d := 22) (v := undef) rfl rfl (by kernel_rfl) (by kernel_rfl) (by kernel_rfl) (fun _ _ _ h => h) (Or.inr ⟨by kernel_rfl, rfl⟩) hHeld ?_
    try simp only [Act.put, List.setIfInBounds_toArray, List.set_cons_zero, List.set_cons_succ]
    refine take_d (i := 13) (d := 23) (v := ?n23) rfl rfl (by kernel_rfl) (by kernel_rfl) (by kernel_rfl) (fun _ _ _ h => h) (Or.inl ⟨by kernel_rfl, ?n23h⟩) hHeld ?n23n
    case n23h => (intro w hSw; (try dsimp only at hSw); go_split_ands; go_simp; (try exact rfl))
    try simp only [Act.put, List.setIfInBounds_toArray, List.set_cons_zero, List.set_cons_succ]
    refine take_d (i := 14) (d := 4) (v := ?n4) rfl rfl (by kernel_rfl) (by kernel_rfl) (by kernel_rfl) (fun _ _ _ h => h) (Or.inl ⟨by kernel_rfl, ?n4h⟩) hHeld ?n4n
    case n4h => (intro w hSw; (try dsimp only at hSw); go_split_ands; go_simp; (try exact rfl))
    try simp only [Act.put, List.setIfInBounds_toArray, List.set_cons_zero, List.set_cons_succ]
    refine wpAnyH_done (by kernel_rfl) ?_ _
    refine NoPanic.normal ?_
    go_wp2
    go_ret
    exact ⟨rfl, HB1.out⟩
  | some k =>
    have hkn := (HNB.out k hq).1
    have hki := (HNB.out k hq).2
    rw [hq] at NU
    clear hq HNB
    have k0 : (0 : Int) ≤ (k : Int) := by omega
    have k1 : (k : Int) < (n : Int) + 1 := by omega
    have HR : Hid (Eqa (spI bi k) (spT bt es k) i u = decide ((⟨bi, bt, es⟩ : Lg).T k = u)) := by unfold Eqa Lg.T; rw [hki]; exact Lib.hid (by simp)
    clear hki
    go_enter Try.func36, Try.ntmps36
    go_wp2_with (go_at_call 61; refine (NU.out _ (HB.out.mono hB)).mono ?_; rintro e w1 ⟨rfl, hb⟩)
    have B0 : Hid (Blk w1.drew w.heap.size 27 #[.int .u64 bi, .int .u64 bt, .slice A n c]) := Lib.hid (b0.out.below hb.drew b0.out.lt)
    have B1 : Hid (Blk w1.drew (w.heap.size + 1) 24 #[.int .u64 i, .int .u64 u]) := Lib.hid (b1.out.below hb.drew b1.out.lt)
    have HB1 := Lib.hid ((HB.out.trans (hb.mono HB.out.size)).drew)
    clear hb
    have hS0 := C5.out _ B0.out B1.out
    refine wp_region_noPanic ?_
    refine wp_region_held_drew (S := fun w' => w'.cell? ⟨w.heap.size, 0, none⟩ = some (.int .u64 bi) ∧ w'.cell? ⟨w.heap.size, 1, none⟩ = some (.int .u64 bt) ∧ w'.cell? ⟨w.heap.size, 2, none⟩ = some (.slice A n c) ∧ w'.cell? ⟨w.heap.size + 1, 0, none⟩ = some (.int .u64 i) ∧ w'.cell? ⟨w.heap.size + 1, 1, none⟩ = some (.int .u64 u)) (by kernel_rfl) hS0 (fun hHeld => ?_)
    refine take_d (i := 0) (d := 10) (v := ?s10) rfl rfl (by kernel_rfl) (by kernel_rfl) (by kernel_rfl) (fun _ _ _ h => h) (Or.inl ⟨by kernel_rfl, ?s10h⟩) hHeld ?s10n
    case s10h => (intro w hSw; (try dsimp only at hSw); go_split_ands; go_simp; (try exact rfl))
    try simp only [Act.put, List.setIfInBounds_toArray, List.set_cons_zero, List.set_cons_succ]
    refine take_d (i := 1) (d := 11) (v := ?s11) rfl rfl (by kernel_rfl) (by kernel_rfl) (by kernel_rfl) (fun _ _ _ h => h) (Or.inl ⟨by kernel_rfl, ?s11h⟩) hHeld ?s11n
    case s11h => (intro w hSw; (try dsimp only at hSw); go_split_ands; go_simp; (try exact rfl))
    try simp only [Act.put, List.setIfInBounds_toArray, List.set_cons_zero, List.set_cons_succ]
    refine take_d (i := 2) (d := 12) (v := ?s12) rfl rfl (by kernel_rfl) (by kernel_rfl) (by kernel_rfl) (fun _ _ _ h => h) (Or.inl ⟨by kernel_rfl, ?s12h⟩) hHeld ?s12n
    case s12h => (intro w hSw; (try dsimp only at hSw); go_split_ands; go_simp; (try exact rfl))
    try simp only [Act.put, List.setIfInBounds_toArray, List.set_cons_zero, List.set_cons_succ]
    refine take_d (i := 3) (d := 13) (v := ?s13) rfl rfl (by kernel_rfl) (by kernel_rfl) (by kernel_rfl) (fun _ _ _ h => h) (Or.inl ⟨by kernel_rfl, ?s13h⟩) hHeld ?s13n
    case s13h => (intro w hSw; (try dsimp only at hSw); go_split_ands; go_simp; (try exact rfl))
    try simp only [Act.put, List.setIfInBounds_toArray, List.set_cons_zero, List.set_cons_succ]
    refine take_d (i := 4) (d := 14) (v := ?s14) rfl rfl (by kernel_rfl) (by kernel_rfl) (by kernel_rfl) (fun _ _ _ h => h) (Or.inl ⟨by kernel_rfl, ?s14h⟩) hHeld ?s14n
    case s14h => (intro w hSw; (try dsimp only at hSw); go_split_ands; go_simp; (try exact rfl))
    try simp only [Act.put, List.setIfInBounds_toArray, List.set_cons_zero, List.set_cons_succ]
    refine take_d (i := 5) (d := 15) (v := ?s15) rfl rfl (by kernel_rfl) (by kernel_rfl) (by kernel_rfl) (fun _ _ _ h => h) (Or.inl ⟨by kernel_rfl, ?s15h⟩) hHeld ?s15n
    case s15h => (intro w hSw; (try dsimp only at hSw); go_split_ands; go_simp; (try exact rfl))
    try simp only [Act.put, List.setIfInBounds_toArray, List.set_cons_zero, List.set_cons_succ]
    refine take_d (i := 6) (d := 16) (v := ?s16) rfl rfl (by kernel_rfl) (by kernel_rfl) (by kernel_rfl) (fun _ _ _ h => h) (Or.inl ⟨by kernel_rfl, ?s16h⟩) hHeld ?s16n
    case s16h => (intro w hSw; (try dsimp only at hSw); go_split_ands; go_simp; (try exact rfl))
    try simp only [Act.put, List.setIfInBounds_toArray, List.set_cons_zero, List.set_cons_succ]
    refine take_d (i := 8) (d := 18) (v := ?s18) rfl rfl (by kernel_rfl) (by kernel_rfl) (by kernel_rfl) (fun _ _ _ h => h) (Or.inl ⟨by kernel_rfl, ?s18h⟩) hHeld ?s18n
    case s18h => (intro w hSw; (try dsimp only at hSw); go_split_ands; go_simp; (try exact rfl))
    try simp only [Act.put, List.setIfInBounds_toArray, List.set_cons_zero, List.set_cons_succ]
    refine take_d (i := 11) (d := 21) (v := ?s21) rfl rfl (by kernel_rfl) (by kernel_rfl) (by kernel_rfl) (fun _ _ _ h => h) (Or.inl ⟨by kernel_rfl, ?s21h⟩) hHeld ?s21n
    case s21h => (intro w hSw; (try dsimp only at hSw); go_split_ands; go_simp; (try exact rfl))
    try simp only [Act.put, List.setIfInBounds_toArray, List.set_cons_zero, List.set_cons_succ]
    refine wpAnyH_ready (rs := [7]) (by kernel_rfl) (by simp) ?_
    refine AllReadyH.cons rfl (fun K hK => ?_) AllReadyH.nil
    go_simp
    refine (SP.out _ (HB1.out.mono hB)).mono ?_
    rintro e w2 ⟨A2, c2, rfl, ho2, hb2⟩
    have B02 := Lib.hid (B0.out.below hb2 B0.out.lt)
    have B12 := Lib.hid (B1.out.below hb2 B1.out.lt)
    have HB2 := Lib.hid (HB1.out.trans (hb2.mono HB1.out.size))
    obtain ⟨g, rfl, hgb, hgl, e0, e1⟩ := ho2.at_ (show k < n + 1 by omega)
    clear hb2 ho2 hgb hgl
    generalize spI bi k = I at *
    generalize spT bt es k = U at *
    refine hK.out _ _ (C5.out _ B02.out B12.out) (fun hHeld => ?_)
    clear hK K
    try simp only [Act.put, List.setIfInBounds_toArray, List.set_cons_zero, List.set_cons_succ]
    refine wpAnyH_weaken (S' := fun w' => (w'.cell? ⟨w.heap.size, 0, none⟩ = some (.int .u64 bi) ∧ w'.cell? ⟨w.heap.size, 1, none⟩ = some (.int .u64 bt) ∧ w'.cell? ⟨w.heap.size, 2, none⟩ = some (.slice A n c) ∧ w'.cell? ⟨w.heap.size + 1, 0, none⟩ = some (.int .u64 i) ∧ w'.cell? ⟨w.heap.size + 1, 1, none⟩ = some (.int .u64 u)) ∧ (w'.cell? ⟨g, k * 2, none⟩ = some (.int .u64 I) ∧ w'.cell? ⟨g, k * 2 + 1, none⟩ = some (.int .u64 U))) (fun _ h => h.1) _ _ _ _ ?_
    have hHeld := And.intro hHeld (And.intro e0 e1)
    refine take_d (i := 9) (d := 19) (v := ?s19) rfl rfl (by kernel_rfl) (by kernel_rfl) (by kernel_rfl) (fun _ _ _ h => h) (Or.inl ⟨by kernel_rfl, ?s19h⟩) hHeld ?s19n
    case s19h => (intro w hSw; (try dsimp only at hSw); go_split_ands; go_simp; (try exact rfl))
    try simp only [Act.put, List.setIfInBounds_toArray, List.set_cons_zero, List.set_cons_succ]
    refine take_d (i := 10) (d := 20) (v := ?s20) rfl rfl (by kernel_rfl) (by kernel_rfl) (by kernel_rfl) (fun _ _ _ h => h) (Or.inl ⟨by kernel_rfl, ?s20h⟩) hHeld ?s20n
    case s20h => (intro w hSw; (try dsimp only at hSw); go_split_ands; go_simp; (try exact rfl))
    try simp only [Act.put, List.setIfInBounds_toArray, List.set_cons_zero, List.set_cons_succ]
    refine take_d (i := 12) (d := 22) (v := ?s22) rfl rfl (by kernel_rfl) (by kernel_rfl) (by kernel_rfl) (fun _ _ _ h => h) (Or.inl ⟨by kernel_rfl, ?s22h⟩) hHeld ?s22n
    case s22h => (intro w hSw; (try dsimp only at hSw); go_split_ands; go_simp; (try exact rfl))
    try simp only [Act.put, List.setIfInBounds_toArray, List.set_cons_zero, List.set_cons_succ]
    refine take_d (i := 13) (d := 23) (v := ?s23) rfl rfl (by kernel_rfl) (by kernel_rfl) (by kernel_rfl) (fun _ _ _ h => h) (Or.inl ⟨by kernel_rfl, ?s23h⟩) hHeld ?s23n
    case s23h => (intro w hSw; (try dsimp only at hSw); go_split_ands; go_simp; (try exact rfl))
    try simp only [Act.put, List.setIfInBounds_toArray, List.set_cons_zero, List.set_cons_succ]
    refine take_d (i := 14) (d := 4) (v := ?s4) rfl rfl (by kernel_rfl) (by kernel_rfl) (by kernel_rfl) (fun _ _ _ h => h) (Or.inl ⟨by kernel_rfl, ?s4h⟩) hHeld ?s4n
    case s4h => (intro w hSw; (try dsimp only at hSw); go_split_ands; go_simp; (try exact rfl))
    try simp only [Act.put, List.setIfInBounds_toArray, List.set_cons_zero, List.set_cons_succ]
    refine wpAnyH_done (by kernel_rfl) ?_ _
    refine NoPanic.normal ?_
    go_wp2
    go_ret
    exact ⟨ret_bool HR.out, HB2.out⟩

end Go.Proofs.Ytmgaihdepglahaa
