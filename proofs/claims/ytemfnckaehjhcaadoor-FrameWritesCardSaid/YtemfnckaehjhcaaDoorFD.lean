/-
  A message's plain bytes: the program's plainBytes.
-/
import Derived.Test.YtemfnckaehjhcaaDoorFrC
import Derived.Test.YtemfnckaehjhcaaDoorFrA
namespace Go.Proofs.YtemfnckaehjhcaaDoor
open Go.RowKit
attribute [local go_sem ↓] eqA neA eqGA field1

theorem Tryd.i75 : (Tryd.prog.info? 75).map (·.size) = some 6 := by kernel_rfl
theorem putters_any (w : World) : Calls Tryd.prog 46 #[] w fun e w' => e = .returned (.agg #[.func (.func 66) #[] #[], .func (.func 67) #[] #[], .func (.func 68) #[] #[], .func (.func 69) #[] #[], .func (.func 70) #[] #[], .func (.func 73) #[] #[]]) ∧ Below w.heap.size w w' := by
  go_enter Tryd.func46, Tryd.ntmps46
  go_wp2_with ((with_reducible refine at_store (t := 75) ?_); refine wpList_store_blk _ rfl 75 _ _ rfl w.heap.size #[.nilFunc, .nilFunc, .nilFunc, .nilFunc, .nilFunc, .nilFunc] 75 [.func (.func 66) #[] #[], .func (.func 67) #[] #[], .func (.func 68) #[] #[], .func (.func 69) #[] #[], .func (.func 70) #[] #[], .func (.func 73) #[] #[]] rfl rfl (Blk.new w 75 _) rfl Tryd.i75 (by simp [Value.oneCell']) ?_; intro w2 hb2 ho2; have X2 := Lib.hid hb2; have B2 : Hid (Below w.heap.size w w2) := Lib.hid (((Below.refl _ w).alloc (Nat.le_refl _) _).trans (ho2.below (Nat.le_refl _))); clear hb2 ho2)
  exact bodyPost_ret (results_cell_row rfl _ _ w.heap.size 75 #[.func (.func 66) #[] #[], .func (.func 67) #[] #[], .func (.func 68) #[] #[], .func (.func 69) #[] #[], .func (.func 70) #[] #[], .func (.func 73) #[] #[]] (0, 0) _ rfl X2.out Tryd.underlying75 rfl Tryd.i75) rfl ⟨rfl, B2.out⟩
theorem ix75_0 (w : World) : (Instr.index 75 (.agg #[.func (.func 66) #[] #[], .func (.func 67) #[] #[], .func (.func 68) #[] #[], .func (.func 69) #[] #[], .func (.func 70) #[] #[], .func (.func 73) #[] #[]]) (.int .i64 0)).run Tryd.prog w = .ok (.func (.func 66) #[] #[]) w := by kernel_rfl
theorem ix75_1 (w : World) : (Instr.index 75 (.agg #[.func (.func 66) #[] #[], .func (.func 67) #[] #[], .func (.func 68) #[] #[], .func (.func 69) #[] #[], .func (.func 70) #[] #[], .func (.func 73) #[] #[]]) (.int .i64 1)).run Tryd.prog w = .ok (.func (.func 67) #[] #[]) w := by kernel_rfl
theorem ix75_2 (w : World) : (Instr.index 75 (.agg #[.func (.func 66) #[] #[], .func (.func 67) #[] #[], .func (.func 68) #[] #[], .func (.func 69) #[] #[], .func (.func 70) #[] #[], .func (.func 73) #[] #[]]) (.int .i64 2)).run Tryd.prog w = .ok (.func (.func 68) #[] #[]) w := by kernel_rfl
theorem ix75_3 (w : World) : (Instr.index 75 (.agg #[.func (.func 66) #[] #[], .func (.func 67) #[] #[], .func (.func 68) #[] #[], .func (.func 69) #[] #[], .func (.func 70) #[] #[], .func (.func 73) #[] #[]]) (.int .i64 3)).run Tryd.prog w = .ok (.func (.func 69) #[] #[]) w := by kernel_rfl
theorem ix75_4 (w : World) : (Instr.index 75 (.agg #[.func (.func 66) #[] #[], .func (.func 67) #[] #[], .func (.func 68) #[] #[], .func (.func 69) #[] #[], .func (.func 70) #[] #[], .func (.func 73) #[] #[]]) (.int .i64 4)).run Tryd.prog w = .ok (.func (.func 70) #[] #[]) w := by kernel_rfl
theorem ix75_5 (w : World) : (Instr.index 75 (.agg #[.func (.func 66) #[] #[], .func (.func 67) #[] #[], .func (.func 68) #[] #[], .func (.func 69) #[] #[], .func (.func 70) #[] #[], .func (.func 73) #[] #[]]) (.int .i64 5)).run Tryd.prog w = .ok (.func (.func 73) #[] #[]) w := by kernel_rfl

theorem entsB_len : ∀ (es : List En) (t : Int), (∀ e ∈ es, e.d.length ≤ 2000) → (entsB t es).length ≤ es.length * 2021
  | [], _, _ => by simp [entsB]
  | e :: r, t, h => by
    have h1 := entB_len (t := t) (h e (List.mem_cons_self ..))
    have h2 := entsB_len r e.t (fun x hx => h x (List.mem_cons_of_mem _ hx))
    have e1 : entsB t (e :: r) = entB t e ++ entsB e.t r := rfl
    rw [e1, List.length_append, List.length_cons]
    omega
theorem behind_d : ∀ (es : List En) (t : Int), behind t es = true → ∀ e ∈ es, e.d.length ≤ 2000
  | [], _, _, e, he => by cases he
  | x :: r, t, hb, e, he => by
    unfold behind at hb
    simp only [Bool.and_eq_true, decide_eq_true_eq] at hb
    rcases List.mem_cons.1 he with rfl | he
    · have h1 := hb.1
      unfold rightE at h1
      simp only [Bool.and_eq_true, decide_eq_true_eq] at h1
      omega
    · exact behind_d r x.t hb.2.2 e he
/-- How long the bytes are, field by field. -/
def bnd : Nat → Nat
  | 0 => 12
  | 1 => 13
  | 2 => 33
  | 3 => 43
  | 4 => 18000
  | 5 => 18020
  | _ => 90000
theorem fld_len {m : Ms} (hr : m.R) (hi : m.In) : ∀ k, k < 6 → (fldB m k).length + bnd k ≤ bnd (k + 1) := by
  have a1 := shI_len hi.pi0 hi.pi1
  have a2 := shI_len hi.pt0 hi.pt1
  have a3 := shI_len hi.co0 hi.co1
  have a4 := shB_len10 (x := m.es.length) (by have := hr.es; omega)
  have a5 := shB_len10 (x := m.mem.length) (by have := hr.mem; omega)
  have a6 := shB_len10 (x := m.da.length) (by have := hr.da; omega)
  have a7 := entsB_len m.es m.pt (behind_d m.es m.pt hr.b)
  have h1 := hr.es; have h2 := hr.mem; have h3 := hr.da
  intro k hk
  rcases (show k = 0 ∨ k = 1 ∨ k = 2 ∨ k = 3 ∨ k = 4 ∨ k = 5 by omega) with rfl | rfl | rfl | rfl | rfl | rfl
  · simp [fldB, fOk, bnd]
  · simp only [fldB, fPl, bnd, List.length_append]; omega
  · simp only [fldB, fCo, bnd]; omega
  · simp only [fldB, fEn, bnd, List.length_append]; omega
  · simp only [fldB, fMe, bnd, List.length_append, List.length_map]; omega
  · simp only [fldB, fDa, bnd, List.length_append]; omega
theorem flds_len {m : Ms} (hr : m.R) (hi : m.In) : ∀ k, k ≤ 6 → (headB m ++ fldsB m k).length ≤ bnd k
  | 0, _ => by
    have a1 := shI_len hi.t0 hi.t1
    simp only [fldsB, List.append_nil, headB, List.length_append, List.length_cons, List.length_nil, bnd]
    omega
  | k + 1, hk => by
    have h1 := flds_len hr hi k (by omega)
    have h2 := fld_len hr hi k (by omega)
    rw [fldsB, ← List.append_assoc, List.length_append]
    split
    · omega
    · simp only [List.length_nil]
      have : bnd k ≤ bnd (k + 1) := by omega
      omega
theorem plain_len {m : Ms} (h : rightM m = true) (hi : m.In) : (plainB m).length ≤ 90000 := flds_len (rightM_R h) hi 6 (Nat.le_refl _)
theorem bound_0 {x : Nat} (h : x ≤ bnd 0) : x ≤ 12 := h
theorem bound_1 {x : Nat} (h : x ≤ bnd 1) : x ≤ 13 := h
theorem bound_2 {x : Nat} (h : x ≤ bnd 2) : x ≤ 33 := h
theorem bound_3 {x : Nat} (h : x ≤ bnd 3) : x ≤ 43 := h
theorem bound_4 {x : Nat} (h : x ≤ bnd 4) : x ≤ 18000 := h
theorem bound_5 {x : Nat} (h : x ≤ bnd 5) : x ≤ 18020 := h

theorem ends16 : ∀ a b : Fin 6, bits .or .i64 ((a.val : Int) * 16) (b.val : Int) = ((a.val * 16 + b.val : Nat) : Int) := by decide +kernel
theorem ends_or {fr to : Int} (h0 : 1 ≤ fr) (h1 : fr ≤ 5) (h2 : 1 ≤ to) (h3 : to ≤ 5) : bits .or .i64 (fr * 16) to = fr * 16 + to := by
  obtain ⟨a, rfl⟩ := Int.eq_ofNat_of_zero_le (show 0 ≤ fr by omega)
  obtain ⟨b, rfl⟩ := Int.eq_ofNat_of_zero_le (show 0 ≤ to by omega)
  have := ends16 ⟨a, by omega⟩ ⟨b, by omega⟩
  simp only at this
  rw [this]
  omega

set_option maxRecDepth 100000 in
set_option maxHeartbeats 20000000 in
theorem plainbytes_any (m : Ms) (A : Option Addr) (n c : Nat) (A1 : Option Addr) (n1 c1 : Nat) (A2 : Option Addr) (n2 c2 B : Nat) (w : World) (h : Mr w B m A n c A1 n1 c1 A2 n2 c2) (hB : B ≤ w.heap.size) (hR : rightM m = true) :
    Calls Tryd.prog 26 #[.agg #[.int .i64 m.kind, .int .i64 m.fr, .int .i64 m.to, .int .u64 m.t, .int .u64 m.pi, .int .u64 m.pt, .slice A n c, .int .u64 m.co, .bool m.ok, .slice A1 n1 c1, .slice A2 n2 c2]] w fun e w' => ∃ A' c', e = .returned (.slice A' (plainB m).length c') ∧ Own w' w.heap.size A' (plainB m).length c' (plainB m) ∧ Below w.heap.size w w' := by
  have RR := rightM_R hR
  have hd := behind_d m.es m.pt RR.b
  have IN := Lib.hid h.in_
  have FL := Lib.hid (fun k hk => flds_len RR h.in_ k hk)
  have hC6 := cntg_lt m.kind
  have ME := Lib.hid h.es.len
  have MM := Lib.hid h.mem.1
  have MD := Lib.hid h.da.1
  have hn20 : n ≤ 20 := by have := RR.es; rw [h.es.len] at this; omega
  have hn1k : n1 ≤ 100000 := by have := h.n1; omega
  have MR := Lib.hid h
  have hfr := RR.fr
  have hto := RR.to
  have hkd := RR.k
  have tl := shI_len h.t0 h.t1
  clear RR h hR
  obtain ⟨kind, fr, to, t, pi, pt, es, co, ok, mem, da⟩ := m
  simp only at hd hC6 ME MM MD hfr hto hkd tl ⊢
  obtain ⟨C, hC⟩ : ∃ C, cntg kind = C := ⟨_, rfl⟩
  have CT := Lib.hid (fun W => counting_any kind W)
  rw [hC] at CT hC6
  have HC := Lib.hid hC
  clear hC
  have X := Lib.hid (Bq.new_ (base := w.heap.size) (w := w) (kind := kind) (fr := fr) (to := to) (t := t) (pi := pi) (pt := pt) (co := co) (ok := ok) (A := A) (n := n) (c := c) (A1 := A1) (n1 := n1) (c1 := c1) (A2 := A2) (n2 := n2) (c2 := c2) (Nat.le_refl _))
  have eor := ends_or hfr.1 hfr.2 hto.1 hto.2
  have k256 : kind % 256 = kind := by omega
  obtain ⟨hf0, hf1⟩ := hfr
  obtain ⟨ht0, ht1⟩ := hto
  go_enter Tryd.func26, Tryd.ntmps26
  go_upto_region 1 with (fail)
  generalize w.alloc (.cells #[.int .i64 kind, .int .i64 fr, .int .i64 to, .int .u64 t, .int .u64 pi, .int .u64 pt, .slice A n c, .int .u64 co, .bool ok, .slice A1 n1 c1, .slice A2 n2 c2] 31) = W at *
  obtain ⟨d0, d1, d2, d3, d4, d5, d6, d7, d8, d9, d10⟩ := X.out.cells
  have d3' : (W.alloc (.cells #[.int .u8 kind, .int .u8 (fr * 16 + to)] 5)).cell? ⟨w.heap.size, 3, none⟩ = some (.int .u64 t) := (World.cell?_alloc_lt _ _ _ X.out.blk.lt).trans d3
  have ob : Own (W.alloc (.cells #[.int .u8 kind, .int .u8 (fr * 16 + to)] 5)) w.heap.size (some ⟨W.heap.size, 0, none⟩) 2 2 [kind, fr * 16 + to] := by
    refine ⟨⟨rfl, .inr ⟨W.heap.size, 2, _, rfl, X.out.bw.below.size, heap_alloc_new W _, Nat.le_refl _, by unfold maxLen; omega, rfl, ?_⟩⟩, bs_of_mem ?_⟩
    · rw [Nat.mul_one]; rfl
    · intro c hc
      simp only [List.mem_cons, List.not_mem_nil, or_false] at hc
      rcases hc with rfl | rfl <;> omega
  have OB := Lib.hid ob
  have X2 := Lib.hid (X.out.put ((Bw.refl w.heap.size W).alloc X.out.bw.below.size (.cells #[.int .u8 kind, .int .u8 (fr * 16 + to)] 5)))
  have PS := Lib.hid (putshortI_any w.heap.size (some ⟨W.heap.size, 0, none⟩) 2 2 [kind, fr * 16 + to] t _ OB.out X2.out.bw.below.size (by omega) MR.out.t0 MR.out.t1)
  clear ob
  go_upto_region 2 with (go_at_call 42; refine PS.out.mono ?_; rintro e w1 ⟨A3, c3, rfl, o3, f3⟩; have O3 := Lib.hid o3; have X3 := Lib.hid (X2.out.put f3); clear PS o3 f3 d3' d0 d1 d2 d3 d4 d5 d6 d7 d8 d9 d10 OB X2)
  have HH : Hid ([kind, fr * 16 + to] ++ shI t = headB ⟨kind, fr, to, t, pi, pt, es, co, ok, mem, da⟩) := Lib.hid (by
    unfold headB
    simp only
    rw [k256, show (fr * 16 % 256 + to) % 256 = fr * 16 + to by omega])
  rw [HH.out] at O3
  have hhl : 2 + (shI t).length = (headB ⟨kind, fr, to, t, pi, pt, es, co, ok, mem, da⟩).length := by rw [← HH.out, List.length_append]; rfl
  obtain ⟨d0, d1, d2, d3, d4, d5, d6, d7, d8, d9, d10⟩ := X3.out.cells
  have HPL : Hid (plainB ⟨kind, fr, to, t, pi, pt, es, co, ok, mem, da⟩ = headB ⟨kind, fr, to, t, pi, pt, es, co, ok, mem, da⟩ ++ fldsB ⟨kind, fr, to, t, pi, pt, es, co, ok, mem, da⟩ 6) := Lib.hid rfl
  generalize headB ⟨kind, fr, to, t, pi, pt, es, co, ok, mem, da⟩ = HD at *
  go_wp2_with (first | (go_at_call 45; refine (CT.out _).mono ?_; rintro e w2 ⟨rfl, rfl⟩) | (go_at_call 46; refine (putters_any _).mono ?_; rintro e w2 ⟨rfl, hb⟩; have X4 := Lib.hid (X3.out.put (Bw.of_below hb X3.out.bw.below.size)); have O4 := Lib.hid (O3.out.below hb); clear hb O3 X3 d0 d1 d2 d3 d4 d5 d6 d7 d8 d9 d10))
  go_loopw [3, 25] (fun bv i wr => ∃ (k : Nat) (A3 : Option Addr) (n3 c3 : Nat) (zs3 : List Int), k ≤ 6 ∧ i = .int .i64 k ∧ bv = .slice A3 n3 c3 ∧ zs3 = HD ++ fldsB ⟨kind, fr, to, t, pi, pt, es, co, ok, mem, da⟩ k ∧ Own wr w.heap.size A3 n3 c3 zs3 ∧ Bq w.heap.size w w.heap.size kind fr to t pi pt co ok A n c A1 n1 c1 A2 n2 c2 wr) (fun _ i _ => 6 - (intOf i).toNat)
  case atStart => exact ⟨0, A3, _, c3, _, by omega, rfl, rfl, by rw [fldsB, List.append_nil], by rw [← hhl]; exact O4.out, X4.out⟩
  case round =>
    obtain ⟨k, A3, n3, c3, zs3, hk, rfl, rfl, hz, ho, hx⟩ := hrel
    have O3 := Lib.hid ho
    have X3 := Lib.hid hx
    have HZ := Lib.hid hz
    have hl : n3 ≤ bnd k := by rw [← ho.len, hz]; exact FL.out k hk
    have hw3 := hx.bw.below.size
    clear ho hx hz O4 X4
    obtain ⟨d0, d1, d2, d3, d4, d5, d6, d7, d8, d9, d10⟩ := X3.out.cells
    rcases (show k = 0 ∨ k = 1 ∨ k = 2 ∨ k = 3 ∨ k = 4 ∨ k = 5 ∨ k = 6 by omega) with rfl | rfl | rfl | rfl | rfl | rfl | rfl
    · have ix := ix75_0
      have HS := Lib.hid (fun W => has_any C 0 hC6 (by decide) W)
      have FK : Hid (fldsB ⟨kind, fr, to, t, pi, pt, es, co, ok, mem, da⟩ 1 = fldsB ⟨kind, fr, to, t, pi, pt, es, co, ok, mem, da⟩ 0 ++ if decide (C / 2 ^ 0 % 2 = 1) = true then [if ok = true then 1 else 0] else []) := Lib.hid (by
        show fldsB ⟨kind, fr, to, t, pi, pt, es, co, ok, mem, da⟩ 0 ++ (if cntg kind / 2 ^ 0 % 2 = 1 then fldB ⟨kind, fr, to, t, pi, pt, es, co, ok, mem, da⟩ 0 else []) = _
        rw [HC.out]
        congr 1
        by_cases hq : C / 2 ^ 0 % 2 = 1
        · rw [if_pos hq, if_pos (decide_eq_true hq)]
          try rw [← ME.out]
          try rw [← MM.out]
          try rw [← MD.out]
          rfl
        · rw [if_neg hq, if_neg (by simpa using hq)])
      have LB := bound_0 hl
      cases hd2 : decide (C / 2 ^ 0 % 2 = 1) with
      | true =>
        rw [hd2] at HS FK
        rw [if_pos rfl] at FK
        clear hd2
        have hn3 : n3 ≤ 200000 := by omega
        skip
        have PF := Lib.hid (putok_any w.heap.size A3 n3 c3 zs3 kind fr to t pi pt co ok A n c A1 n1 c1 A2 n2 c2 wr O3.out hw3 hn3)
        generalize [if ok = true then 1 else 0] = FB at PF FK
        clear O3
        go_wp2_with (first
          | (go_at_call 47; refine (HS.out _).mono ?_; rintro e w4 ⟨rfl, rfl⟩)
          | (go_at_call 66; refine PF.out.mono ?_; rintro e w5 ⟨A4, c4, rfl, o4, f4⟩; have O4 := Lib.hid o4; have X4 := Lib.hid (X3.out.put f4); clear PF o4 f4))
        go_roundw
        case rel => exact ⟨1, A4, _, c4, _, by omega, rfl, rfl, by rw [FK.out, HZ.out, List.append_assoc], O4.out, X4.out⟩
        case measure => simp [intOf]
      | false =>
        rw [hd2] at HS FK
        rw [if_neg Bool.false_ne_true, List.append_nil] at FK
        clear hd2
        go_wp2_with (go_at_call 47; refine (HS.out _).mono ?_; rintro e w4 ⟨rfl, rfl⟩)
        go_roundw
        case rel => exact ⟨1, A3, n3, c3, zs3, by omega, rfl, rfl, by rw [FK.out]; exact HZ.out, O3.out, X3.out⟩
        case measure => simp [intOf]
    · have ix := ix75_1
      have HS := Lib.hid (fun W => has_any C 1 hC6 (by decide) W)
      have FK : Hid (fldsB ⟨kind, fr, to, t, pi, pt, es, co, ok, mem, da⟩ 2 = fldsB ⟨kind, fr, to, t, pi, pt, es, co, ok, mem, da⟩ 1 ++ if decide (C / 2 ^ 1 % 2 = 1) = true then (shI pi ++ shI pt) else []) := Lib.hid (by
        show fldsB ⟨kind, fr, to, t, pi, pt, es, co, ok, mem, da⟩ 1 ++ (if cntg kind / 2 ^ 1 % 2 = 1 then fldB ⟨kind, fr, to, t, pi, pt, es, co, ok, mem, da⟩ 1 else []) = _
        rw [HC.out]
        congr 1
        by_cases hq : C / 2 ^ 1 % 2 = 1
        · rw [if_pos hq, if_pos (decide_eq_true hq)]
          try rw [← ME.out]
          try rw [← MM.out]
          try rw [← MD.out]
          rfl
        · rw [if_neg hq, if_neg (by simpa using hq)])
      have LB := bound_1 hl
      cases hd2 : decide (C / 2 ^ 1 % 2 = 1) with
      | true =>
        rw [hd2] at HS FK
        rw [if_pos rfl] at FK
        clear hd2
        have hn3 : n3 ≤ 200000 := by omega
        skip
        have PF := Lib.hid (putplace_any w.heap.size A3 n3 c3 zs3 kind fr to t pi pt co ok A n c A1 n1 c1 A2 n2 c2 wr O3.out hw3 hn3 IN.out.pi0 IN.out.pi1 IN.out.pt0 IN.out.pt1)
        generalize (shI pi ++ shI pt) = FB at PF FK
        clear O3
        go_wp2_with (first
          | (go_at_call 47; refine (HS.out _).mono ?_; rintro e w4 ⟨rfl, rfl⟩)
          | (go_at_call 67; refine PF.out.mono ?_; rintro e w5 ⟨A4, c4, rfl, o4, f4⟩; have O4 := Lib.hid o4; have X4 := Lib.hid (X3.out.put f4); clear PF o4 f4))
        go_roundw
        case rel => exact ⟨2, A4, _, c4, _, by omega, rfl, rfl, by rw [FK.out, HZ.out, List.append_assoc], O4.out, X4.out⟩
        case measure => simp [intOf]
      | false =>
        rw [hd2] at HS FK
        rw [if_neg Bool.false_ne_true, List.append_nil] at FK
        clear hd2
        go_wp2_with (go_at_call 47; refine (HS.out _).mono ?_; rintro e w4 ⟨rfl, rfl⟩)
        go_roundw
        case rel => exact ⟨2, A3, n3, c3, zs3, by omega, rfl, rfl, by rw [FK.out]; exact HZ.out, O3.out, X3.out⟩
        case measure => simp [intOf]
    · have ix := ix75_2
      have HS := Lib.hid (fun W => has_any C 2 hC6 (by decide) W)
      have FK : Hid (fldsB ⟨kind, fr, to, t, pi, pt, es, co, ok, mem, da⟩ 3 = fldsB ⟨kind, fr, to, t, pi, pt, es, co, ok, mem, da⟩ 2 ++ if decide (C / 2 ^ 2 % 2 = 1) = true then (shI co) else []) := Lib.hid (by
        show fldsB ⟨kind, fr, to, t, pi, pt, es, co, ok, mem, da⟩ 2 ++ (if cntg kind / 2 ^ 2 % 2 = 1 then fldB ⟨kind, fr, to, t, pi, pt, es, co, ok, mem, da⟩ 2 else []) = _
        rw [HC.out]
        congr 1
        by_cases hq : C / 2 ^ 2 % 2 = 1
        · rw [if_pos hq, if_pos (decide_eq_true hq)]
          try rw [← ME.out]
          try rw [← MM.out]
          try rw [← MD.out]
          rfl
        · rw [if_neg hq, if_neg (by simpa using hq)])
      have LB := bound_2 hl
      cases hd2 : decide (C / 2 ^ 2 % 2 = 1) with
      | true =>
        rw [hd2] at HS FK
        rw [if_pos rfl] at FK
        clear hd2
        have hn3 : n3 ≤ 200000 := by omega
        skip
        have PF := Lib.hid (putcommit_any w.heap.size A3 n3 c3 zs3 kind fr to t pi pt co ok A n c A1 n1 c1 A2 n2 c2 wr O3.out hw3 hn3 IN.out.co0 IN.out.co1)
        generalize (shI co) = FB at PF FK
        clear O3
        go_wp2_with (first
          | (go_at_call 47; refine (HS.out _).mono ?_; rintro e w4 ⟨rfl, rfl⟩)
          | (go_at_call 68; refine PF.out.mono ?_; rintro e w5 ⟨A4, c4, rfl, o4, f4⟩; have O4 := Lib.hid o4; have X4 := Lib.hid (X3.out.put f4); clear PF o4 f4))
        go_roundw
        case rel => exact ⟨3, A4, _, c4, _, by omega, rfl, rfl, by rw [FK.out, HZ.out, List.append_assoc], O4.out, X4.out⟩
        case measure => simp [intOf]
      | false =>
        rw [hd2] at HS FK
        rw [if_neg Bool.false_ne_true, List.append_nil] at FK
        clear hd2
        go_wp2_with (go_at_call 47; refine (HS.out _).mono ?_; rintro e w4 ⟨rfl, rfl⟩)
        go_roundw
        case rel => exact ⟨3, A3, n3, c3, zs3, by omega, rfl, rfl, by rw [FK.out]; exact HZ.out, O3.out, X3.out⟩
        case measure => simp [intOf]
    · have ix := ix75_3
      have HS := Lib.hid (fun W => has_any C 3 hC6 (by decide) W)
      have FK : Hid (fldsB ⟨kind, fr, to, t, pi, pt, es, co, ok, mem, da⟩ 4 = fldsB ⟨kind, fr, to, t, pi, pt, es, co, ok, mem, da⟩ 3 ++ if decide (C / 2 ^ 3 % 2 = 1) = true then (shB n ++ entsB pt es) else []) := Lib.hid (by
        show fldsB ⟨kind, fr, to, t, pi, pt, es, co, ok, mem, da⟩ 3 ++ (if cntg kind / 2 ^ 3 % 2 = 1 then fldB ⟨kind, fr, to, t, pi, pt, es, co, ok, mem, da⟩ 3 else []) = _
        rw [HC.out]
        congr 1
        by_cases hq : C / 2 ^ 3 % 2 = 1
        · rw [if_pos hq, if_pos (decide_eq_true hq)]
          try rw [← ME.out]
          try rw [← MM.out]
          try rw [← MD.out]
          rfl
        · rw [if_neg hq, if_neg (by simpa using hq)])
      have LB := bound_3 hl
      cases hd2 : decide (C / 2 ^ 3 % 2 = 1) with
      | true =>
        rw [hd2] at HS FK
        rw [if_pos rfl] at FK
        clear hd2
        have hn3 : n3 ≤ 200000 := by omega
        have hn4 : n3 ≤ 100000 := by omega
        have PF := Lib.hid (putentries_any w.heap.size A3 n3 c3 zs3 kind fr to t pi pt co ok A n c A1 n1 c1 A2 n2 c2 B es wr O3.out hw3 hn4 hB (MR.out.es.below (X3.out.bw.below.mono hB)) hn20 hd)
        generalize (shB n ++ entsB pt es) = FB at PF FK
        clear O3
        go_wp2_with (first
          | (go_at_call 47; refine (HS.out _).mono ?_; rintro e w4 ⟨rfl, rfl⟩)
          | (go_at_call 69; refine PF.out.mono ?_; rintro e w5 ⟨A4, c4, rfl, o4, f4⟩; have O4 := Lib.hid o4; have X4 := Lib.hid (X3.out.put f4); clear PF o4 f4))
        go_roundw
        case rel => exact ⟨4, A4, _, c4, _, by omega, rfl, rfl, by rw [FK.out, HZ.out, List.append_assoc], O4.out, X4.out⟩
        case measure => simp [intOf]
      | false =>
        rw [hd2] at HS FK
        rw [if_neg Bool.false_ne_true, List.append_nil] at FK
        clear hd2
        go_wp2_with (go_at_call 47; refine (HS.out _).mono ?_; rintro e w4 ⟨rfl, rfl⟩)
        go_roundw
        case rel => exact ⟨4, A3, n3, c3, zs3, by omega, rfl, rfl, by rw [FK.out]; exact HZ.out, O3.out, X3.out⟩
        case measure => simp [intOf]
    · have ix := ix75_4
      have HS := Lib.hid (fun W => has_any C 4 hC6 (by decide) W)
      have FK : Hid (fldsB ⟨kind, fr, to, t, pi, pt, es, co, ok, mem, da⟩ 5 = fldsB ⟨kind, fr, to, t, pi, pt, es, co, ok, mem, da⟩ 4 ++ if decide (C / 2 ^ 4 % 2 = 1) = true then (shB n1 ++ mem.map (· % 256)) else []) := Lib.hid (by
        show fldsB ⟨kind, fr, to, t, pi, pt, es, co, ok, mem, da⟩ 4 ++ (if cntg kind / 2 ^ 4 % 2 = 1 then fldB ⟨kind, fr, to, t, pi, pt, es, co, ok, mem, da⟩ 4 else []) = _
        rw [HC.out]
        congr 1
        by_cases hq : C / 2 ^ 4 % 2 = 1
        · rw [if_pos hq, if_pos (decide_eq_true hq)]
          try rw [← ME.out]
          try rw [← MM.out]
          try rw [← MD.out]
          rfl
        · rw [if_neg hq, if_neg (by simpa using hq)])
      have LB := bound_4 hl
      cases hd2 : decide (C / 2 ^ 4 % 2 = 1) with
      | true =>
        rw [hd2] at HS FK
        rw [if_pos rfl] at FK
        clear hd2
        have hn3 : n3 ≤ 200000 := by omega
        skip
        have PF := Lib.hid (putconf_any w.heap.size A3 n3 c3 zs3 kind fr to t pi pt co ok A n c A1 n1 c1 A2 n2 c2 B mem wr O3.out hw3 hn3 hB (MR.out.mem.below (X3.out.bw.below.mono hB)) hn1k)
        generalize (shB n1 ++ mem.map (· % 256)) = FB at PF FK
        clear O3
        go_wp2_with (first
          | (go_at_call 47; refine (HS.out _).mono ?_; rintro e w4 ⟨rfl, rfl⟩)
          | (go_at_call 70; refine PF.out.mono ?_; rintro e w5 ⟨A4, c4, rfl, o4, f4⟩; have O4 := Lib.hid o4; have X4 := Lib.hid (X3.out.put f4); clear PF o4 f4))
        go_roundw
        case rel => exact ⟨5, A4, _, c4, _, by omega, rfl, rfl, by rw [FK.out, HZ.out, List.append_assoc], O4.out, X4.out⟩
        case measure => simp [intOf]
      | false =>
        rw [hd2] at HS FK
        rw [if_neg Bool.false_ne_true, List.append_nil] at FK
        clear hd2
        go_wp2_with (go_at_call 47; refine (HS.out _).mono ?_; rintro e w4 ⟨rfl, rfl⟩)
        go_roundw
        case rel => exact ⟨5, A3, n3, c3, zs3, by omega, rfl, rfl, by rw [FK.out]; exact HZ.out, O3.out, X3.out⟩
        case measure => simp [intOf]
    · have ix := ix75_5
      have HS := Lib.hid (fun W => has_any C 5 hC6 (by decide) W)
      have FK : Hid (fldsB ⟨kind, fr, to, t, pi, pt, es, co, ok, mem, da⟩ 6 = fldsB ⟨kind, fr, to, t, pi, pt, es, co, ok, mem, da⟩ 5 ++ if decide (C / 2 ^ 5 % 2 = 1) = true then (shB n2 ++ da) else []) := Lib.hid (by
        show fldsB ⟨kind, fr, to, t, pi, pt, es, co, ok, mem, da⟩ 5 ++ (if cntg kind / 2 ^ 5 % 2 = 1 then fldB ⟨kind, fr, to, t, pi, pt, es, co, ok, mem, da⟩ 5 else []) = _
        rw [HC.out]
        congr 1
        by_cases hq : C / 2 ^ 5 % 2 = 1
        · rw [if_pos hq, if_pos (decide_eq_true hq)]
          try rw [← ME.out]
          try rw [← MM.out]
          try rw [← MD.out]
          rfl
        · rw [if_neg hq, if_neg (by simpa using hq)])
      have LB := bound_5 hl
      cases hd2 : decide (C / 2 ^ 5 % 2 = 1) with
      | true =>
        rw [hd2] at HS FK
        rw [if_pos rfl] at FK
        clear hd2
        have hn3 : n3 ≤ 200000 := by omega
        skip
        have PF := Lib.hid (putdata_any w.heap.size A3 n3 c3 zs3 kind fr to t pi pt co ok A n c A1 n1 c1 A2 n2 c2 B da wr O3.out hw3 hn3 hB (MR.out.da.below (X3.out.bw.below.mono hB)) MR.out.n2)
        generalize (shB n2 ++ da) = FB at PF FK
        clear O3
        go_wp2_with (first
          | (go_at_call 47; refine (HS.out _).mono ?_; rintro e w4 ⟨rfl, rfl⟩)
          | (go_at_call 73; refine PF.out.mono ?_; rintro e w5 ⟨A4, c4, rfl, o4, f4⟩; have O4 := Lib.hid o4; have X4 := Lib.hid (X3.out.put f4); clear PF o4 f4))
        go_roundw
        case rel => exact ⟨6, A4, _, c4, _, by omega, rfl, rfl, by rw [FK.out, HZ.out, List.append_assoc], O4.out, X4.out⟩
        case measure => simp [intOf]
      | false =>
        rw [hd2] at HS FK
        rw [if_neg Bool.false_ne_true, List.append_nil] at FK
        clear hd2
        go_wp2_with (go_at_call 47; refine (HS.out _).mono ?_; rintro e w4 ⟨rfl, rfl⟩)
        go_roundw
        case rel => exact ⟨6, A3, n3, c3, zs3, by omega, rfl, rfl, by rw [FK.out]; exact HZ.out, O3.out, X3.out⟩
        case measure => simp [intOf]
    · go_wp2
      go_ret
      have hl6 : (plainB ⟨kind, fr, to, t, pi, pt, es, co, ok, mem, da⟩).length = n3 := by rw [HPL.out, ← HZ.out, O3.out.len]
      exact ⟨A3, c3, by rw [hl6]; rfl, by rw [hl6, HPL.out, ← HZ.out]; exact O3.out, X3.out.bw.below⟩

end Go.Proofs.YtemfnckaehjhcaaDoor
