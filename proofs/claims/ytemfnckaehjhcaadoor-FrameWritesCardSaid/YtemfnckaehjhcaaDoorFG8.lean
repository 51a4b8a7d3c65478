/-
  Which messages may be: the document's Right.
-/
import Derived.Test.YtemfnckaehjhcaaDoorFG7
namespace Go.Proofs.YtemfnckaehjhcaaDoor
open Go.RowKit
attribute [local go_sem ↓] eqA neA eqGA field1

theorem ix60_0 (a b : Int) (w : World) : (Instr.index 60 (.agg #[.int .i64 a, .int .i64 b]) (.int .i64 0)).run Tryd.prog w = .ok (.int .i64 a) w := by kernel_rfl
theorem ix60_1 (a b : Int) (w : World) : (Instr.index 60 (.agg #[.int .i64 a, .int .i64 b]) (.int .i64 1)).run Tryd.prog w = .ok (.int .i64 b) w := by kernel_rfl
set_option maxRecDepth 100000 in
set_option maxHeartbeats 40000000 in
theorem refright_any (m : Ms) (A : Option Addr) (n c : Nat) (A1 : Option Addr) (n1 c1 : Nat) (A2 : Option Addr) (n2 c2 B : Nat) (w : World) (h : Mr w B m A n c A1 n1 c1 A2 n2 c2) (hB : B ≤ w.heap.size) :
    Calls Tryd.prog 12 #[.agg #[.int .i64 m.kind, .int .i64 m.fr, .int .i64 m.to, .int .u64 m.t, .int .u64 m.pi, .int .u64 m.pt, .slice A n c, .int .u64 m.co, .bool m.ok, .slice A1 n1 c1, .slice A2 n2 c2]] w fun e w' => e = .returned (.bool (rightM m)) ∧ Below w.heap.size w w' := by
  have NO : Hid (¬ Rt m → rightM m = false) := Lib.hid (fun hn => Bool.eq_false_iff.2 (fun e => hn ((right_iff m).1 e)))
  have YES : Hid (Rt m → rightM m = true) := Lib.hid (right_iff m).2
  generalize rightM m = R at *
  have ZZ : Hid (∀ W, Calls Tryd.prog 34 #[.agg #[.int .i64 m.kind, .int .i64 m.fr, .int .i64 m.to, .int .u64 m.t, .int .u64 m.pi, .int .u64 m.pt, .slice A n c, .int .u64 m.co, .bool m.ok, .slice A1 n1 c1, .slice A2 n2 c2]] W fun e w' => e = .returned (.bool (zeroF m)) ∧ Below W.heap.size W w') := Lib.hid (fun W => by
    have z := zero7_any m.kind m.fr m.to m.t m.pi m.pt m.co m.ok A n c A1 n1 c1 A2 n2 c2 W (by have := h.n; omega) (by have := h.n1; omega) h.n2
    rw [← zeroG_zeroF m h.pi0 h.pt0, h.es.len, h.mem.1, h.da.1]
    exact z)
  have F7 := Lib.hid (fun W => fields7_any m.kind W)
  have FS : Hid ((fstB m.kind).toList.isEmpty = decide (cntg m.kind = 0)) := Lib.hid (by
    unfold cntg fstB
    repeat' split
    all_goals first | decide | decide +kernel)
  have HES := Lib.hid (h.es.more hB)
  have HME := Lib.hid (h.mem.more hB)
  have LE := Lib.hid h.es.len
  have LM := Lib.hid h.mem.1
  have LD := Lib.hid h.da.1
  have bn := h.n
  have bn1 := h.n1
  have bn2 := h.n2
  have bt0 := h.t0
  have bt1 := h.t1
  have bp0 := h.pi0
  have bp1 := h.pi1
  have bq0 := h.pt0
  have bq1 := h.pt1
  clear h
  obtain ⟨ZF, hZF⟩ : ∃ Z, zeroF m = Z := ⟨_, rfl⟩
  have HZF := Lib.hid hZF
  rw [hZF] at ZZ
  clear hZF
  obtain ⟨kind, fr, tu, t, pi, pt, es, co, ok, mem, da⟩ := m
  simp only at ZZ F7 FS HES HME LE LM LD bt0 bt1 bp0 bp1 bq0 bq1 ⊢
  generalize fstB kind = s at *
  have X := Lib.hid (Bx.new_ kind fr tu t pi pt co ok A n c A1 n1 c1 A2 n2 c2 w)
  by_cases h0 : cntg kind = 0
  · have hR := Lib.hid (NO.out (fun r => r.k h0))
    have hs : s.toList.isEmpty = true := FS.out.trans (decide_eq_true h0)
    clear h0
    clear NO YES
    go_enter Tryd.func12, Tryd.ntmps12
    go_upto_region 1 with (fail)
    generalize w.alloc (.cells #[.int .i64 kind, .int .i64 fr, .int .i64 tu, .int .u64 t, .int .u64 pi, .int .u64 pt, .slice A n c, .int .u64 co, .bool ok, .slice A1 n1 c1, .slice A2 n2 c2] 31) = W at *
    obtain ⟨d0, d1, d2, d3, d4, d5, d6, d7, d8, d9, d10⟩ := X.out.cells
    go_wp2_with (first
      | (go_at_call 33; (with_reducible refine (F7.out _).mono ?_); rintro e w9 ⟨rfl, rfl⟩)
      | (go_at_call 34; (with_reducible refine (ZZ.out _).mono ?_); rintro e w1 ⟨rfl, hb⟩; have X1 := Lib.hid (X.out.on hb); clear hb d0 d1 d2 d3 d4 d5 d6 d7 d8 d9 d10; obtain ⟨d0, d1, d2, d3, d4, d5, d6, d7, d8, d9, d10⟩ := X1.out.cells))
    go_ret
    exact ⟨by rw [hR.out]; rfl, X.out.bel⟩
  have hs : s.toList.isEmpty = false := FS.out.trans (decide_eq_false h0)
  have H0 := Lib.hid h0
  clear h0
  cases ZF with
  | false =>
    have hR := Lib.hid (NO.out (fun r => by have := r.z; rw [HZF.out] at this; cases this))
    clear NO YES
    go_enter Tryd.func12, Tryd.ntmps12
    go_upto_region 1 with (fail)
    generalize w.alloc (.cells #[.int .i64 kind, .int .i64 fr, .int .i64 tu, .int .u64 t, .int .u64 pi, .int .u64 pt, .slice A n c, .int .u64 co, .bool ok, .slice A1 n1 c1, .slice A2 n2 c2] 31) = W at *
    obtain ⟨d0, d1, d2, d3, d4, d5, d6, d7, d8, d9, d10⟩ := X.out.cells
    go_wp2_with (first
    | (go_at_call 33; (with_reducible refine (F7.out _).mono ?_); rintro e w9 ⟨rfl, rfl⟩)
    | (go_at_call 34; (with_reducible refine (ZZ.out _).mono ?_); rintro e w1 ⟨rfl, hb⟩; have X1 := Lib.hid (X.out.on hb); clear hb d0 d1 d2 d3 d4 d5 d6 d7 d8 d9 d10; obtain ⟨d0, d1, d2, d3, d4, d5, d6, d7, d8, d9, d10⟩ := X1.out.cells))
    go_ret
    exact ⟨by rw [hR.out]; rfl, X1.out.bel⟩
  | true =>
  by_cases g0 : t < 1
  · have hR := Lib.hid (NO.out (fun r => by have := r.t1; simp only at this; omega))
    clear NO YES
    go_enter Tryd.func12, Tryd.ntmps12
    go_upto_region 1 with (fail)
    generalize w.alloc (.cells #[.int .i64 kind, .int .i64 fr, .int .i64 tu, .int .u64 t, .int .u64 pi, .int .u64 pt, .slice A n c, .int .u64 co, .bool ok, .slice A1 n1 c1, .slice A2 n2 c2] 31) = W at *
    obtain ⟨d0, d1, d2, d3, d4, d5, d6, d7, d8, d9, d10⟩ := X.out.cells
    go_wp2_with (first
      | (go_at_call 33; (with_reducible refine (F7.out _).mono ?_); rintro e w9 ⟨rfl, rfl⟩)
      | (go_at_call 34; (with_reducible refine (ZZ.out _).mono ?_); rintro e w1 ⟨rfl, hb⟩; have X1 := Lib.hid (X.out.on hb); clear hb d0 d1 d2 d3 d4 d5 d6 d7 d8 d9 d10; obtain ⟨d0, d1, d2, d3, d4, d5, d6, d7, d8, d9, d10⟩ := X1.out.cells))
    go_ret
    exact ⟨by rw [hR.out]; rfl, X1.out.bel⟩
  by_cases g1 : 4611686018427387904 < t
  · have hR := Lib.hid (NO.out (fun r => by have := r.tm; simp only at this; omega))
    clear NO YES
    go_enter Tryd.func12, Tryd.ntmps12
    go_upto_region 1 with (fail)
    generalize w.alloc (.cells #[.int .i64 kind, .int .i64 fr, .int .i64 tu, .int .u64 t, .int .u64 pi, .int .u64 pt, .slice A n c, .int .u64 co, .bool ok, .slice A1 n1 c1, .slice A2 n2 c2] 31) = W at *
    obtain ⟨d0, d1, d2, d3, d4, d5, d6, d7, d8, d9, d10⟩ := X.out.cells
    go_wp2_with (first
      | (go_at_call 33; (with_reducible refine (F7.out _).mono ?_); rintro e w9 ⟨rfl, rfl⟩)
      | (go_at_call 34; (with_reducible refine (ZZ.out _).mono ?_); rintro e w1 ⟨rfl, hb⟩; have X1 := Lib.hid (X.out.on hb); clear hb d0 d1 d2 d3 d4 d5 d6 d7 d8 d9 d10; obtain ⟨d0, d1, d2, d3, d4, d5, d6, d7, d8, d9, d10⟩ := X1.out.cells))
    go_ret
    exact ⟨by rw [hR.out]; rfl, X1.out.bel⟩
  by_cases g2 : fr = tu
  · have hR := Lib.hid (NO.out (fun r => r.ne g2))
    have hft : (fr == tu) = true := by simpa using g2
    clear g2
    clear NO YES
    go_enter Tryd.func12, Tryd.ntmps12
    go_upto_region 1 with (fail)
    generalize w.alloc (.cells #[.int .i64 kind, .int .i64 fr, .int .i64 tu, .int .u64 t, .int .u64 pi, .int .u64 pt, .slice A n c, .int .u64 co, .bool ok, .slice A1 n1 c1, .slice A2 n2 c2] 31) = W at *
    obtain ⟨d0, d1, d2, d3, d4, d5, d6, d7, d8, d9, d10⟩ := X.out.cells
    go_wp2_with (first
      | (go_at_call 33; (with_reducible refine (F7.out _).mono ?_); rintro e w9 ⟨rfl, rfl⟩)
      | (go_at_call 34; (with_reducible refine (ZZ.out _).mono ?_); rintro e w1 ⟨rfl, hb⟩; have X1 := Lib.hid (X.out.on hb); clear hb d0 d1 d2 d3 d4 d5 d6 d7 d8 d9 d10; obtain ⟨d0, d1, d2, d3, d4, d5, d6, d7, d8, d9, d10⟩ := X1.out.cells))
    go_ret
    exact ⟨by rw [hR.out]; rfl, X1.out.bel⟩
  have hft : (fr == tu) = false := by simpa using g2
  have G2 := Lib.hid g2
  clear g2
  go_enter Tryd.func12, Tryd.ntmps12
  go_upto_region 1 with (fail)
  generalize w.alloc (.cells #[.int .i64 kind, .int .i64 fr, .int .i64 tu, .int .u64 t, .int .u64 pi, .int .u64 pt, .slice A n c, .int .u64 co, .bool ok, .slice A1 n1 c1, .slice A2 n2 c2] 31) = W at *
  obtain ⟨d0, d1, d2, d3, d4, d5, d6, d7, d8, d9, d10⟩ := X.out.cells
  go_upto_region 4 with (first
    | (go_at_call 33; (with_reducible refine (F7.out _).mono ?_); rintro e w9 ⟨rfl, rfl⟩)
    | (go_at_call 34; (with_reducible refine (ZZ.out _).mono ?_); rintro e w1 ⟨rfl, hb⟩; have X1 := Lib.hid (X.out.on hb); clear hb d0 d1 d2 d3 d4 d5 d6 d7 d8 d9 d10; obtain ⟨d0, d1, d2, d3, d4, d5, d6, d7, d8, d9, d10⟩ := X1.out.cells))
  go_loopw [42] (fun i wr => ((i = .int .i64 0) ∨ (i = .int .i64 1 ∧ 1 ≤ fr ∧ fr ≤ 5) ∨ (i = .int .i64 2 ∧ 1 ≤ fr ∧ fr ≤ 5 ∧ 1 ≤ tu ∧ tu ≤ 5)) ∧ wr = w1) (fun i _ => 2 - (intOf i).toNat)
  case atStart => exact ⟨.inl rfl, rfl⟩
  case round =>
    obtain ⟨hi, rfl⟩ := hrel
    rcases hi with rfl | ⟨rfl, a1, a2⟩ | ⟨rfl, a1, a2, a3, a4⟩
    · have ix := ix60_0 fr tu
      by_cases q1 : fr < 1
      · have hR := Lib.hid (NO.out (fun r => by have := r.f1; simp only at this; omega))
        go_wp2
        go_ret
        exact ⟨by rw [hR.out]; rfl, X1.out.bel⟩
      by_cases q2 : 5 < fr
      · have hR := Lib.hid (NO.out (fun r => by have := r.f5; simp only at this; omega))
        go_wp2
        go_ret
        exact ⟨by rw [hR.out]; rfl, X1.out.bel⟩
      go_wp2
      go_roundw
      case rel => exact ⟨.inr (.inl ⟨by first | rfl | trivial, by omega, by omega⟩), by first | rfl | trivial⟩
      case measure => simp [intOf]
    · have ix := ix60_1 fr tu
      by_cases q1 : tu < 1
      · have hR := Lib.hid (NO.out (fun r => by have := r.o1; simp only at this; omega))
        go_wp2
        go_ret
        exact ⟨by rw [hR.out]; rfl, X1.out.bel⟩
      by_cases q2 : 5 < tu
      · have hR := Lib.hid (NO.out (fun r => by have := r.o5; simp only at this; omega))
        go_wp2
        go_ret
        exact ⟨by rw [hR.out]; rfl, X1.out.bel⟩
      go_wp2
      go_roundw
      case rel => exact ⟨.inr (.inr ⟨by first | rfl | trivial, a1, a2, by omega, by omega⟩), by first | rfl | trivial⟩
      case measure => simp [intOf]
    · clear d0 d1 d2 d3 d4 d5 d6 d7 d8 d9 d10
      obtain ⟨d0, d1, d2, d3, d4, d5, d6, d7, d8, d9, d10⟩ := X1.out.cells
      have gp : (IntKind.u64.wrap (n : Int)) = (n : Int) := by rw [IntKind.wrap_u64]; omega
      have gr : (IntKind.u64.wrap (18446744073709551614 - (n : Int))) = 18446744073709551614 - (n : Int) := by rw [IntKind.wrap_u64]; omega
      have X2 := Lib.hid (X1.out.on ((Below.refl _ wr).alloc (Nat.le_refl _) (.cells #[.int .u64 pi, .int .u64 pt] 24)))
      have V2 : Hid (Blk (wr.alloc (.cells #[.int .u64 pi, .int .u64 pt] 24)) wr.heap.size 24 #[.int .u64 pi, .int .u64 pt]) := Lib.hid (Blk.new _ _ _)
      go_upto_region 10 with (fail)
      generalize wr.alloc (.cells #[.int .u64 pi, .int .u64 pt] 24) = W5 at *
      generalize wr.heap.size = g5 at *
      clear d0 d1 d2 d3 d4 d5 d6 d7 d8 d9 d10
      obtain ⟨d0, d1, d2, d3, d4, d5, d6, d7, d8, d9, d10⟩ := X2.out.cells
      have v0 := V2.out.cell 0
      have v1 := V2.out.cell 1
      have hp01 : Hid ((pi = 0) = ((pi == 0) = true)) := Lib.hid (by simp)
      have hq01 : Hid ((pt = 0) = ((pt == 0) = true)) := Lib.hid (by simp)
      obtain ⟨b, hb⟩ : ∃ b, (pi == 0) = b := ⟨_, rfl⟩
      obtain ⟨b', hb'⟩ : ∃ b, (pt == 0) = b := ⟨_, rfl⟩
      rw [hb] at hp01
      rw [hb'] at hq01
      by_cases hbb : b = b'
      rotate_left
      · have hR := Lib.hid (NO.out (fun r => hbb (by have := r.p; simp only [hp01.out, hq01.out] at this; revert this; cases b <;> cases b' <;> simp)))
        have hbn : (b != b') = true := by simpa using hbb
        go_wp2
        go_ret
        exact ⟨by rw [hR.out]; rfl, X2.out.bel⟩
      subst hbb
      have hbn : (b != b) = false := by simp
      by_cases g0 : t < pt
      · have hR := Lib.hid (NO.out (fun r => by have := r.pt; simp only at this; omega))
        go_wp2
        go_ret
        exact ⟨by rw [hR.out]; rfl, X2.out.bel⟩
      by_cases k5 : kind = 5
      rotate_left
      · have k5b : (kind == 5) = false := by simpa using k5
        have K5 : Hid (kind = 5 → pi ≠ 0) := Lib.hid (fun e => absurd e k5)
        by_cases g1 : 18446744073709551614 - (n : Int) < pi
        · have hR := Lib.hid (NO.out (fun r => by have := r.rm; simp only [LE.out] at this; omega))
          go_wp2
          go_ret
          exact ⟨by rw [hR.out]; rfl, X2.out.bel⟩
        by_cases g2 : (8 : Int) < (n : Int)
        · have hR := Lib.hid (NO.out (fun r => by have := r.n; simp only [LE.out] at this; omega))
          go_wp2
          go_ret
          exact ⟨by rw [hR.out]; rfl, X2.out.bel⟩
        by_cases g3 : (5 : Int) < (n1 : Int)
        · have hR := Lib.hid (NO.out (fun r => by have := r.n1; simp only [LM.out] at this; omega))
          go_wp2
          go_ret
          exact ⟨by rw [hR.out]; rfl, X2.out.bel⟩
        by_cases g4 : (65536 : Int) < (n2 : Int)
        · have hR := Lib.hid (NO.out (fun r => by have := r.n2; simp only [LD.out] at this; omega))
          go_wp2
          go_ret
          exact ⟨by rw [hR.out]; rfl, X2.out.bel⟩
        go_upto_region 15 with (fail)
        go_loopw [109] (fun i wr => ∃ k : Nat, k ≤ n1 ∧ i = .int .i64 (k : Int) ∧ Hid (∀ x ∈ mem.take k, 1 ≤ x ∧ x ≤ 255) ∧ wr = W5) (fun i _ => n1 - (intOf i).toNat)
        case atStart => exact ⟨0, Nat.zero_le _, rfl, Lib.hid (fun x hx => by rw [List.take_zero] at hx; cases hx), rfl⟩
        case round =>
          obtain ⟨k, hk, rfl, hme, hw5⟩ := hrel
          obtain rfl : W5 = wr := hw5.symm
          have k0 : (0 : Int) ≤ (k : Int) := by omega
          by_cases hlt : k < n1
          · obtain ⟨b5, o5, rfl, hb5, hc5⟩ := (HME.out.below X2.out.bel).2 (by omega)
            have c5 := hc5 k hlt
            clear hc5
            have hkm : k < mem.length := by rw [LM.out]; exact hlt
            have hmm : Hid (mem.getD k 0 ∈ mem) := Lib.hid (by rw [show mem.getD k 0 = mem[k] by simp [List.getD, hkm]]; exact List.getElem_mem hkm)
            have htk : Hid (∀ z, z = mem.getD k 0 → 1 ≤ z ∧ z ≤ 255 → ∀ x ∈ mem.take (k + 1), 1 ≤ x ∧ x ≤ 255) := Lib.hid (by
              intro z hz hz2 x hx
              rw [List.take_succ_eq_append_getElem hkm] at hx
              rcases List.mem_append.1 hx with hx | hx
              · exact hme.out x hx
              · rw [List.mem_singleton] at hx
                rw [show mem.getD k 0 = mem[k] by simp [List.getD, hkm]] at hz
                rw [hx, ← hz]
                exact hz2)
            generalize mem.getD k 0 = z at *
            by_cases q1 : z < 1
            · have hR := Lib.hid (NO.out (fun r => by have := r.me _ hmm.out; omega))
              go_wp2
              go_ret
              exact ⟨by rw [hR.out]; rfl, X2.out.bel⟩
            by_cases q2 : 255 < z
            · have hR := Lib.hid (NO.out (fun r => by have := r.me _ hmm.out; omega))
              go_wp2
              go_ret
              exact ⟨by rw [hR.out]; rfl, X2.out.bel⟩
            go_wp2
            go_roundw
            case rel => exact ⟨k + 1, by omega, by go_num, Lib.hid (htk.out z rfl (by omega)), by first | rfl | trivial⟩
            case measure => simp [intOf]; omega
          · have HMA : Hid (∀ x ∈ mem, 1 ≤ x ∧ x ≤ 255) := Lib.hid (fun x hx => hme.out x (by rw [List.take_of_length_le (by rw [LM.out]; omega)]; exact hx))
            go_upto_region 22 with (fail)
            go_loopw [8, 125] (fun tv i wr => ∃ (k : Nat) (u : Int), k ≤ n ∧ i = .int .i64 (k : Int) ∧ tv = .int .u64 u ∧ Hid (okE t pt es ↔ okE t u (es.drop k)) ∧ Hid (Below W5.heap.size W5 wr)) (fun _ i _ => n - (intOf i).toNat)
            case atStart => exact ⟨0, pt, Nat.zero_le _, rfl, rfl, Lib.hid (by rw [List.drop_zero]), Lib.hid (Below.refl _ _)⟩
            case round =>
              obtain ⟨j, u, hj, rfl, rfl, hok, IB⟩ := hrel
              have j0 : (0 : Int) ≤ (j : Int) := by omega
              have X3 := Lib.hid (X2.out.on IB.out)
              clear d0 d1 d2 d3 d4 d5 d6 d7 d8 d9 d10 v0 v1
              obtain ⟨d0, d1, d2, d3, d4, d5, d6, d7, d8, d9, d10⟩ := X3.out.cells
              by_cases hlj : j < n
              · obtain ⟨be, oe, x, rfl, hbe, hx, hxo, hr⟩ := (HES.out.below X3.out.bel).at_ hlj
                have hje : j < es.length := by rw [LE.out]; exact hlj
                obtain ⟨r0, r1, r2⟩ := rng3 hr
                have hdrop : Hid (okE t u (es.drop j) ↔ (rightE x.en = true ∧ u ≤ x.t ∧ x.t ≤ t ∧ okE t x.t (es.drop (j + 1)))) := Lib.hid (by
                  rw [List.drop_eq_getElem_cons hje]
                  have e : es[j] = x.en := by rw [hx]; simp [List.getD, hje]
                  rw [e]
                  exact Iff.rfl)
                have XO := Lib.hid hxo
                clear hr hx hxo
                obtain ⟨xt, xk, xA, xn, xc, xd⟩ := x
                simp only [Ec.en] at hdrop r0 r1 r2
                have RE := Lib.hid (fun W => rightentry_any xt xk xA xn xc xd XO.out.by_.1 XO.out.t0 W)
                obtain ⟨ZR, hZR⟩ : ∃ Z, rightE ⟨xt, xk, xd⟩ = Z := ⟨_, rfl⟩
                rw [hZR] at RE hdrop
                clear hZR
                have AL : Below wr.heap.size wr (wr.alloc (.cells #[.int .u64 xt, .int .i64 xk, .slice xA xn xc] 56)) := (Below.refl _ _).alloc (Nat.le_refl _) _
                have X4 := Lib.hid (X3.out.on AL)
                have Q4 : Hid (Blk (wr.alloc (.cells #[.int .u64 xt, .int .i64 xk, .slice xA xn xc] 56)) wr.heap.size 56 #[.int .u64 xt, .int .i64 xk, .slice xA xn xc]) := Lib.hid (Blk.new _ _ _)
                have I4 : Hid (Below W5.heap.size W5 (wr.alloc (.cells #[.int .u64 xt, .int .i64 xk, .slice xA xn xc] 56))) := Lib.hid (IB.out.trans (AL.mono IB.out.size))
                clear AL
                go_upto_region 24 with (fail)
                generalize wr.alloc (.cells #[.int .u64 xt, .int .i64 xk, .slice xA xn xc] 56) = W6 at *
                generalize wr.heap.size = g6 at *
                clear r0 r1 r2 d0 d1 d2 d3 d4 d5 d6 d7 d8 d9 d10
                obtain ⟨d0, d1, d2, d3, d4, d5, d6, d7, d8, d9, d10⟩ := X4.out.cells
                have s0 := Q4.out.cell 0
                have s1 := Q4.out.cell 1
                have s2 := Q4.out.cell 2
                cases ZR with
                | false =>
                  have hR := Lib.hid (NO.out (fun r => by have := (hdrop.out.1 (hok.out.1 r.es)).1; cases this))
                  go_wp2_with (go_at_call 35; (with_reducible refine (RE.out _).mono ?_); rintro e w7 ⟨rfl, hb7⟩; have X5 := Lib.hid (X4.out.on hb7); have I5 : Hid (Below W5.heap.size W5 w7) := Lib.hid (I4.out.trans (hb7.mono I4.out.size)); have Q5 := Lib.hid (Q4.out.below hb7 Q4.out.lt); clear hb7 d0 d1 d2 d3 d4 d5 d6 d7 d8 d9 d10 s0 s1 s2; obtain ⟨d0, d1, d2, d3, d4, d5, d6, d7, d8, d9, d10⟩ := X5.out.cells; have s0 := Q5.out.cell 0; have s1 := Q5.out.cell 1; have s2 := Q5.out.cell 2)
                  go_ret
                  exact ⟨by rw [hR.out]; rfl, X5.out.bel⟩
                | true =>
                  by_cases q1 : xt < u
                  · have hR := Lib.hid (NO.out (fun r => by have := (hdrop.out.1 (hok.out.1 r.es)).2.1; omega))
                    go_wp2_with (go_at_call 35; (with_reducible refine (RE.out _).mono ?_); rintro e w7 ⟨rfl, hb7⟩; have X5 := Lib.hid (X4.out.on hb7); have I5 : Hid (Below W5.heap.size W5 w7) := Lib.hid (I4.out.trans (hb7.mono I4.out.size)); have Q5 := Lib.hid (Q4.out.below hb7 Q4.out.lt); clear hb7 d0 d1 d2 d3 d4 d5 d6 d7 d8 d9 d10 s0 s1 s2; obtain ⟨d0, d1, d2, d3, d4, d5, d6, d7, d8, d9, d10⟩ := X5.out.cells; have s0 := Q5.out.cell 0; have s1 := Q5.out.cell 1; have s2 := Q5.out.cell 2)
                    go_ret
                    exact ⟨by rw [hR.out]; rfl, X5.out.bel⟩
                  by_cases q2 : t < xt
                  · have hR := Lib.hid (NO.out (fun r => by have := (hdrop.out.1 (hok.out.1 r.es)).2.2.1; omega))
                    go_wp2_with (go_at_call 35; (with_reducible refine (RE.out _).mono ?_); rintro e w7 ⟨rfl, hb7⟩; have X5 := Lib.hid (X4.out.on hb7); have I5 : Hid (Below W5.heap.size W5 w7) := Lib.hid (I4.out.trans (hb7.mono I4.out.size)); have Q5 := Lib.hid (Q4.out.below hb7 Q4.out.lt); clear hb7 d0 d1 d2 d3 d4 d5 d6 d7 d8 d9 d10 s0 s1 s2; obtain ⟨d0, d1, d2, d3, d4, d5, d6, d7, d8, d9, d10⟩ := X5.out.cells; have s0 := Q5.out.cell 0; have s1 := Q5.out.cell 1; have s2 := Q5.out.cell 2)
                    go_ret
                    exact ⟨by rw [hR.out]; rfl, X5.out.bel⟩
                  go_wp2_with (go_at_call 35; (with_reducible refine (RE.out _).mono ?_); rintro e w7 ⟨rfl, hb7⟩; have X5 := Lib.hid (X4.out.on hb7); have I5 : Hid (Below W5.heap.size W5 w7) := Lib.hid (I4.out.trans (hb7.mono I4.out.size)); have Q5 := Lib.hid (Q4.out.below hb7 Q4.out.lt); clear hb7 d0 d1 d2 d3 d4 d5 d6 d7 d8 d9 d10 s0 s1 s2; obtain ⟨d0, d1, d2, d3, d4, d5, d6, d7, d8, d9, d10⟩ := X5.out.cells; have s0 := Q5.out.cell 0; have s1 := Q5.out.cell 1; have s2 := Q5.out.cell 2)
                  go_roundw
                  case rel => exact ⟨j + 1, xt, by omega, by go_num, by first | rfl | trivial, Lib.hid (hok.out.trans (hdrop.out.trans ⟨fun e => e.2.2.2, fun e => ⟨by first | rfl | trivial, by omega, by omega, e⟩⟩)), I5⟩
                  case measure => simp [intOf]; omega
              · have hR := Lib.hid (YES.out ⟨H0.out, HZF.out, by show 1 ≤ t; omega, by show t ≤ _; omega, G2.out, a1, a2, a3, a4, by show pi = 0 ↔ pt = 0; rw [hp01.out, hq01.out], by show pt ≤ t; omega, K5.out, by show pi + es.length ≤ _; rw [LE.out]; omega, by show es.length ≤ 8; rw [LE.out]; omega, by show mem.length ≤ 5; rw [LM.out]; omega, by show da.length ≤ 65536; rw [LD.out]; omega, HMA.out, hok.out.2 (by rw [List.drop_of_length_le (by rw [LE.out]; omega)]; exact True.intro)⟩)
                go_wp2
                go_ret
                exact ⟨by rw [hR.out]; rfl, X3.out.bel⟩
      have K5E := Lib.hid k5
      have k5b : (kind == 5) = true := by simpa using k5
      clear k5
      cases b with
      | true =>
        have hR := Lib.hid (NO.out (fun r => r.s K5E.out (hp01.out.mpr (by first | rfl | trivial))))
        go_wp2
        go_ret
        exact ⟨by rw [hR.out]; rfl, X2.out.bel⟩
      | false =>
        have K5 : Hid (kind = 5 → pi ≠ 0) := Lib.hid (fun _ e => by have := hp01.out.mp e; cases this)
        by_cases g1 : 18446744073709551614 - (n : Int) < pi
        · have hR := Lib.hid (NO.out (fun r => by have := r.rm; simp only [LE.out] at this; omega))
          go_wp2
          go_ret
          exact ⟨by rw [hR.out]; rfl, X2.out.bel⟩
        by_cases g2 : (8 : Int) < (n : Int)
        · have hR := Lib.hid (NO.out (fun r => by have := r.n; simp only [LE.out] at this; omega))
          go_wp2
          go_ret
          exact ⟨by rw [hR.out]; rfl, X2.out.bel⟩
        by_cases g3 : (5 : Int) < (n1 : Int)
        · have hR := Lib.hid (NO.out (fun r => by have := r.n1; simp only [LM.out] at this; omega))
          go_wp2
          go_ret
          exact ⟨by rw [hR.out]; rfl, X2.out.bel⟩
        by_cases g4 : (65536 : Int) < (n2 : Int)
        · have hR := Lib.hid (NO.out (fun r => by have := r.n2; simp only [LD.out] at this; omega))
          go_wp2
          go_ret
          exact ⟨by rw [hR.out]; rfl, X2.out.bel⟩
        go_upto_region 15 with (fail)
        go_loopw [109] (fun i wr => ∃ k : Nat, k ≤ n1 ∧ i = .int .i64 (k : Int) ∧ Hid (∀ x ∈ mem.take k, 1 ≤ x ∧ x ≤ 255) ∧ wr = W5) (fun i _ => n1 - (intOf i).toNat)
        case atStart => exact ⟨0, Nat.zero_le _, rfl, Lib.hid (fun x hx => by rw [List.take_zero] at hx; cases hx), rfl⟩
        case round =>
          obtain ⟨k, hk, rfl, hme, hw5⟩ := hrel
          obtain rfl : W5 = wr := hw5.symm
          have k0 : (0 : Int) ≤ (k : Int) := by omega
          by_cases hlt : k < n1
          · obtain ⟨b5, o5, rfl, hb5, hc5⟩ := (HME.out.below X2.out.bel).2 (by omega)
            have c5 := hc5 k hlt
            clear hc5
            have hkm : k < mem.length := by rw [LM.out]; exact hlt
            have hmm : Hid (mem.getD k 0 ∈ mem) := Lib.hid (by rw [show mem.getD k 0 = mem[k] by simp [List.getD, hkm]]; exact List.getElem_mem hkm)
            have htk : Hid (∀ z, z = mem.getD k 0 → 1 ≤ z ∧ z ≤ 255 → ∀ x ∈ mem.take (k + 1), 1 ≤ x ∧ x ≤ 255) := Lib.hid (by
              intro z hz hz2 x hx
              rw [List.take_succ_eq_append_getElem hkm] at hx
              rcases List.mem_append.1 hx with hx | hx
              · exact hme.out x hx
              · rw [List.mem_singleton] at hx
                rw [show mem.getD k 0 = mem[k] by simp [List.getD, hkm]] at hz
                rw [hx, ← hz]
                exact hz2)
            generalize mem.getD k 0 = z at *
            by_cases q1 : z < 1
            · have hR := Lib.hid (NO.out (fun r => by have := r.me _ hmm.out; omega))
              go_wp2
              go_ret
              exact ⟨by rw [hR.out]; rfl, X2.out.bel⟩
            by_cases q2 : 255 < z
            · have hR := Lib.hid (NO.out (fun r => by have := r.me _ hmm.out; omega))
              go_wp2
              go_ret
              exact ⟨by rw [hR.out]; rfl, X2.out.bel⟩
            go_wp2
            go_roundw
            case rel => exact ⟨k + 1, by omega, by go_num, Lib.hid (htk.out z rfl (by omega)), by first | rfl | trivial⟩
            case measure => simp [intOf]; omega
          · have HMA : Hid (∀ x ∈ mem, 1 ≤ x ∧ x ≤ 255) := Lib.hid (fun x hx => hme.out x (by rw [List.take_of_length_le (by rw [LM.out]; omega)]; exact hx))
            go_upto_region 22 with (fail)
            go_loopw [8, 125] (fun tv i wr => ∃ (k : Nat) (u : Int), k ≤ n ∧ i = .int .i64 (k : Int) ∧ tv = .int .u64 u ∧ Hid (okE t pt es ↔ okE t u (es.drop k)) ∧ Hid (Below W5.heap.size W5 wr)) (fun _ i _ => n - (intOf i).toNat)
            case atStart => exact ⟨0, pt, Nat.zero_le _, rfl, rfl, Lib.hid (by rw [List.drop_zero]), Lib.hid (Below.refl _ _)⟩
            case round =>
              obtain ⟨j, u, hj, rfl, rfl, hok, IB⟩ := hrel
              have j0 : (0 : Int) ≤ (j : Int) := by omega
              have X3 := Lib.hid (X2.out.on IB.out)
              clear d0 d1 d2 d3 d4 d5 d6 d7 d8 d9 d10 v0 v1
              obtain ⟨d0, d1, d2, d3, d4, d5, d6, d7, d8, d9, d10⟩ := X3.out.cells
              by_cases hlj : j < n
              · obtain ⟨be, oe, x, rfl, hbe, hx, hxo, hr⟩ := (HES.out.below X3.out.bel).at_ hlj
                have hje : j < es.length := by rw [LE.out]; exact hlj
                obtain ⟨r0, r1, r2⟩ := rng3 hr
                have hdrop : Hid (okE t u (es.drop j) ↔ (rightE x.en = true ∧ u ≤ x.t ∧ x.t ≤ t ∧ okE t x.t (es.drop (j + 1)))) := Lib.hid (by
                  rw [List.drop_eq_getElem_cons hje]
                  have e : es[j] = x.en := by rw [hx]; simp [List.getD, hje]
                  rw [e]
                  exact Iff.rfl)
                have XO := Lib.hid hxo
                clear hr hx hxo
                obtain ⟨xt, xk, xA, xn, xc, xd⟩ := x
                simp only [Ec.en] at hdrop r0 r1 r2
                have RE := Lib.hid (fun W => rightentry_any xt xk xA xn xc xd XO.out.by_.1 XO.out.t0 W)
                obtain ⟨ZR, hZR⟩ : ∃ Z, rightE ⟨xt, xk, xd⟩ = Z := ⟨_, rfl⟩
                rw [hZR] at RE hdrop
                clear hZR
                have AL : Below wr.heap.size wr (wr.alloc (.cells #[.int .u64 xt, .int .i64 xk, .slice xA xn xc] 56)) := (Below.refl _ _).alloc (Nat.le_refl _) _
                have X4 := Lib.hid (X3.out.on AL)
                have Q4 : Hid (Blk (wr.alloc (.cells #[.int .u64 xt, .int .i64 xk, .slice xA xn xc] 56)) wr.heap.size 56 #[.int .u64 xt, .int .i64 xk, .slice xA xn xc]) := Lib.hid (Blk.new _ _ _)
                have I4 : Hid (Below W5.heap.size W5 (wr.alloc (.cells #[.int .u64 xt, .int .i64 xk, .slice xA xn xc] 56))) := Lib.hid (IB.out.trans (AL.mono IB.out.size))
                clear AL
                go_upto_region 24 with (fail)
                generalize wr.alloc (.cells #[.int .u64 xt, .int .i64 xk, .slice xA xn xc] 56) = W6 at *
                generalize wr.heap.size = g6 at *
                clear r0 r1 r2 d0 d1 d2 d3 d4 d5 d6 d7 d8 d9 d10
                obtain ⟨d0, d1, d2, d3, d4, d5, d6, d7, d8, d9, d10⟩ := X4.out.cells
                have s0 := Q4.out.cell 0
                have s1 := Q4.out.cell 1
                have s2 := Q4.out.cell 2
                cases ZR with
                | false =>
                  have hR := Lib.hid (NO.out (fun r => by have := (hdrop.out.1 (hok.out.1 r.es)).1; cases this))
                  go_wp2_with (go_at_call 35; (with_reducible refine (RE.out _).mono ?_); rintro e w7 ⟨rfl, hb7⟩; have X5 := Lib.hid (X4.out.on hb7); have I5 : Hid (Below W5.heap.size W5 w7) := Lib.hid (I4.out.trans (hb7.mono I4.out.size)); have Q5 := Lib.hid (Q4.out.below hb7 Q4.out.lt); clear hb7 d0 d1 d2 d3 d4 d5 d6 d7 d8 d9 d10 s0 s1 s2; obtain ⟨d0, d1, d2, d3, d4, d5, d6, d7, d8, d9, d10⟩ := X5.out.cells; have s0 := Q5.out.cell 0; have s1 := Q5.out.cell 1; have s2 := Q5.out.cell 2)
                  go_ret
                  exact ⟨by rw [hR.out]; rfl, X5.out.bel⟩
                | true =>
                  by_cases q1 : xt < u
                  · have hR := Lib.hid (NO.out (fun r => by have := (hdrop.out.1 (hok.out.1 r.es)).2.1; omega))
                    go_wp2_with (go_at_call 35; (with_reducible refine (RE.out _).mono ?_); rintro e w7 ⟨rfl, hb7⟩; have X5 := Lib.hid (X4.out.on hb7); have I5 : Hid (Below W5.heap.size W5 w7) := Lib.hid (I4.out.trans (hb7.mono I4.out.size)); have Q5 := Lib.hid (Q4.out.below hb7 Q4.out.lt); clear hb7 d0 d1 d2 d3 d4 d5 d6 d7 d8 d9 d10 s0 s1 s2; obtain ⟨d0, d1, d2, d3, d4, d5, d6, d7, d8, d9, d10⟩ := X5.out.cells; have s0 := Q5.out.cell 0; have s1 := Q5.out.cell 1; have s2 := Q5.out.cell 2)
                    go_ret
                    exact ⟨by rw [hR.out]; rfl, X5.out.bel⟩
                  by_cases q2 : t < xt
                  · have hR := Lib.hid (NO.out (fun r => by have := (hdrop.out.1 (hok.out.1 r.es)).2.2.1; omega))
                    go_wp2_with (go_at_call 35; (with_reducible refine (RE.out _).mono ?_); rintro e w7 ⟨rfl, hb7⟩; have X5 := Lib.hid (X4.out.on hb7); have I5 : Hid (Below W5.heap.size W5 w7) := Lib.hid (I4.out.trans (hb7.mono I4.out.size)); have Q5 := Lib.hid (Q4.out.below hb7 Q4.out.lt); clear hb7 d0 d1 d2 d3 d4 d5 d6 d7 d8 d9 d10 s0 s1 s2; obtain ⟨d0, d1, d2, d3, d4, d5, d6, d7, d8, d9, d10⟩ := X5.out.cells; have s0 := Q5.out.cell 0; have s1 := Q5.out.cell 1; have s2 := Q5.out.cell 2)
                    go_ret
                    exact ⟨by rw [hR.out]; rfl, X5.out.bel⟩
                  go_wp2_with (go_at_call 35; (with_reducible refine (RE.out _).mono ?_); rintro e w7 ⟨rfl, hb7⟩; have X5 := Lib.hid (X4.out.on hb7); have I5 : Hid (Below W5.heap.size W5 w7) := Lib.hid (I4.out.trans (hb7.mono I4.out.size)); have Q5 := Lib.hid (Q4.out.below hb7 Q4.out.lt); clear hb7 d0 d1 d2 d3 d4 d5 d6 d7 d8 d9 d10 s0 s1 s2; obtain ⟨d0, d1, d2, d3, d4, d5, d6, d7, d8, d9, d10⟩ := X5.out.cells; have s0 := Q5.out.cell 0; have s1 := Q5.out.cell 1; have s2 := Q5.out.cell 2)
                  go_roundw
                  case rel => exact ⟨j + 1, xt, by omega, by go_num, by first | rfl | trivial, Lib.hid (hok.out.trans (hdrop.out.trans ⟨fun e => e.2.2.2, fun e => ⟨by first | rfl | trivial, by omega, by omega, e⟩⟩)), I5⟩
                  case measure => simp [intOf]; omega
              · have hR := Lib.hid (YES.out ⟨H0.out, HZF.out, by show 1 ≤ t; omega, by show t ≤ _; omega, G2.out, a1, a2, a3, a4, by show pi = 0 ↔ pt = 0; rw [hp01.out, hq01.out], by show pt ≤ t; omega, K5.out, by show pi + es.length ≤ _; rw [LE.out]; omega, by show es.length ≤ 8; rw [LE.out]; omega, by show mem.length ≤ 5; rw [LM.out]; omega, by show da.length ≤ 65536; rw [LD.out]; omega, HMA.out, hok.out.2 (by rw [List.drop_of_length_le (by rw [LE.out]; omega)]; exact True.intro)⟩)
                go_wp2
                go_ret
                exact ⟨by rw [hR.out]; rfl, X3.out.bel⟩

end Go.Proofs.YtemfnckaehjhcaaDoor
