/-
  A reader of messages in memory: read.
-/
import Derived.Test.YtemfnckaehjhcaaDoorFR6
namespace Go.Proofs.YtemfnckaehjhcaaDoor
open Go.RowKit
attribute [local go_sem ↓] eqA neA eqGA field1

set_option maxRecDepth 100000 in
theorem fx_start (A : Option Addr) (n c : Nat) (zs : List Int) (w : World) (h : By w w.heap.size A n zs) (hc : n ≤ c) (hn : n ≤ 140737488355328) (hcm : c ≤ 9223372036854775807) (hnl : A = none → c = 0) :
    Fq (w.heap.size + 1) (w.heap.size + 1) (w.heap.size + 1 + 1) A n c zs ⟨ms0, ⟨zs, 0, false⟩⟩ (((w.alloc (.cells #[.int .i64 0, .int .i64 0, .int .i64 0, .int .u64 0, .int .u64 0, .int .u64 0, .slice none 0 0, .int .u64 0, .bool false, .slice none 0 0, .slice none 0 0] 31)).alloc (.cells #[.int .i64 0, .int .i64 0, .slice A n c] 120)).alloc (.cells #[.pointer (some ⟨w.heap.size + 1, 0, none⟩), .bool false, .slice A n c, .int .i64 0, .int .i64 0, .int .i64 0, .int .u64 0, .int .u64 0, .int .u64 0, .slice none 0 0, .int .u64 0, .bool false, .slice none 0 0, .slice none 0 0] 98)) ∧ Blk (((w.alloc (.cells #[.int .i64 0, .int .i64 0, .int .i64 0, .int .u64 0, .int .u64 0, .int .u64 0, .slice none 0 0, .int .u64 0, .bool false, .slice none 0 0, .slice none 0 0] 31)).alloc (.cells #[.int .i64 0, .int .i64 0, .slice A n c] 120)).alloc (.cells #[.pointer (some ⟨w.heap.size + 1, 0, none⟩), .bool false, .slice A n c, .int .i64 0, .int .i64 0, .int .i64 0, .int .u64 0, .int .u64 0, .int .u64 0, .slice none 0 0, .int .u64 0, .bool false, .slice none 0 0, .slice none 0 0] 98)) w.heap.size 31 #[.int .i64 0, .int .i64 0, .int .i64 0, .int .u64 0, .int .u64 0, .int .u64 0, .slice none 0 0, .int .u64 0, .bool false, .slice none 0 0, .slice none 0 0] ∧ Below w.heap.size w (((w.alloc (.cells #[.int .i64 0, .int .i64 0, .int .i64 0, .int .u64 0, .int .u64 0, .int .u64 0, .slice none 0 0, .int .u64 0, .bool false, .slice none 0 0, .slice none 0 0] 31)).alloc (.cells #[.int .i64 0, .int .i64 0, .slice A n c] 120)).alloc (.cells #[.pointer (some ⟨w.heap.size + 1, 0, none⟩), .bool false, .slice A n c, .int .i64 0, .int .i64 0, .int .i64 0, .int .u64 0, .int .u64 0, .int .u64 0, .slice none 0 0, .int .u64 0, .bool false, .slice none 0 0, .slice none 0 0] 98)) := by
  have hb : Below w.heap.size w (((w.alloc (.cells #[.int .i64 0, .int .i64 0, .int .i64 0, .int .u64 0, .int .u64 0, .int .u64 0, .slice none 0 0, .int .u64 0, .bool false, .slice none 0 0, .slice none 0 0] 31)).alloc (.cells #[.int .i64 0, .int .i64 0, .slice A n c] 120)).alloc (.cells #[.pointer (some ⟨w.heap.size + 1, 0, none⟩), .bool false, .slice A n c, .int .i64 0, .int .i64 0, .int .i64 0, .int .u64 0, .int .u64 0, .int .u64 0, .slice none 0 0, .int .u64 0, .bool false, .slice none 0 0, .slice none 0 0] 98)) := (((Below.refl _ _).alloc (Nat.le_refl _) _).alloc (by simp) _).alloc (by simp; omega) _
  have e1 : (w.alloc (.cells #[.int .i64 0, .int .i64 0, .int .i64 0, .int .u64 0, .int .u64 0, .int .u64 0, .slice none 0 0, .int .u64 0, .bool false, .slice none 0 0, .slice none 0 0] 31)).heap.size = w.heap.size + 1 := by simp
  have b1 : Blk (((w.alloc (.cells #[.int .i64 0, .int .i64 0, .int .i64 0, .int .u64 0, .int .u64 0, .int .u64 0, .slice none 0 0, .int .u64 0, .bool false, .slice none 0 0, .slice none 0 0] 31)).alloc (.cells #[.int .i64 0, .int .i64 0, .slice A n c] 120)).alloc (.cells #[.pointer (some ⟨w.heap.size + 1, 0, none⟩), .bool false, .slice A n c, .int .i64 0, .int .i64 0, .int .i64 0, .int .u64 0, .int .u64 0, .int .u64 0, .slice none 0 0, .int .u64 0, .bool false, .slice none 0 0, .slice none 0 0] 98)) (w.heap.size + 1) 120 #[.int .i64 0, .int .i64 0, .slice A n c] := by
    have := Blk.new (w.alloc (.cells #[.int .i64 0, .int .i64 0, .int .i64 0, .int .u64 0, .int .u64 0, .int .u64 0, .slice none 0 0, .int .u64 0, .bool false, .slice none 0 0, .slice none 0 0] 31)) 120 #[.int .i64 0, .int .i64 0, .slice A n c]
    rw [e1] at this
    exact this.alloc _
  have e2 : ((w.alloc (.cells #[.int .i64 0, .int .i64 0, .int .i64 0, .int .u64 0, .int .u64 0, .int .u64 0, .slice none 0 0, .int .u64 0, .bool false, .slice none 0 0, .slice none 0 0] 31)).alloc (.cells #[.int .i64 0, .int .i64 0, .slice A n c] 120)).heap.size = w.heap.size + 1 + 1 := by simp
  have b2 := Blk.new ((w.alloc (.cells #[.int .i64 0, .int .i64 0, .int .i64 0, .int .u64 0, .int .u64 0, .int .u64 0, .slice none 0 0, .int .u64 0, .bool false, .slice none 0 0, .slice none 0 0] 31)).alloc (.cells #[.int .i64 0, .int .i64 0, .slice A n c] 120)) 98 #[.pointer (some ⟨w.heap.size + 1, 0, none⟩), .bool false, .slice A n c, .int .i64 0, .int .i64 0, .int .i64 0, .int .u64 0, .int .u64 0, .int .u64 0, .slice none 0 0, .int .u64 0, .bool false, .slice none 0 0, .slice none 0 0]
  rw [e2] at b2
  refine ⟨⟨0, none, 0, 0, none, 0, 0, none, 0, 0, ⟨b1, b2, Nat.le_refl _, by omega, (h.below hb).more (by omega), Nat.zero_le _, hc, hn, hcm, hnl, by simp, Eo.nothing _ _, World.ownsRow_nil _ _ _ _, ⟨World.ownsRow_nil _ _ _ _, fun j => by simp [ms0]⟩⟩⟩, ?_, hb⟩
  exact ((Blk.new w 31 _).alloc _).alloc _
theorem rdFs_mem (kd : Int) (r : Rq) : (rdFs kd 4 r).m.mem = r.m.mem := by
  unfold rdFs rdFs rdFs rdFs rdFs
  split <;> split <;> split <;> split <;> rfl
theorem rdFs_es (kd : Int) (r : Rq) : (rdFs kd 3 r).m.es = r.m.es := by
  unfold rdFs rdFs rdFs rdFs
  split <;> split <;> split <;> rfl
theorem rdFs_pt (kd : Int) (r : Rq) (hb : BsL r.s.l) (h0 : 0 ≤ r.m.pt ∧ r.m.pt < 18446744073709551616) : 0 ≤ (rdFs kd 3 r).m.pt ∧ (rdFs kd 3 r).m.pt < 18446744073709551616 := by
  have h1 : ∀ s : Rs, BsL s.l → 0 ≤ ((rdSh (rdSh s).2).1 : Int) ∧ ((rdSh (rdSh s).2).1 : Int) < 18446744073709551616 := fun s hs => by
    have := rdSh_lt (rdSh_bs hs)
    omega
  have h2 : BsL (rdOk r).s.l := rdU8_bs hb
  unfold rdFs rdFs rdFs rdFs
  split <;> split <;> split <;> first | exact h0 | exact h1 _ hb | exact h1 _ h2
theorem Fx.bsl {w : World} {base p q : Nat} {A : Option Addr} {n c : Nat} {zs : List Int} {r : Rq} (h : Fq base p q A n c zs r w) : BsL r.s.l := by
  obtain ⟨_, _, _, _, _, _, _, _, _, _, h⟩ := h
  have h1 := h.cut.bs
  intro x hx
  obtain ⟨j, hj, rfl⟩ := List.getElem_of_mem hx
  have := h1 j
  simpa [List.getD, hj] using this
theorem Fx.rng3 {w : World} {base p q : Nat} {A : Option Addr} {n c : Nat} {zs : List Int} {k : Nat} {r : Rq} {eA : Option Addr} {en ec : Nat} {iA : Option Addr} {im ic : Nat} {dA : Option Addr} {dm dc : Nat} (h : Fx w base p q A n c zs k r eA en ec iA im ic dA dm dc) :
    w.rangeAt q 3 [.int .i64 r.m.kind, .int .i64 r.m.fr, .int .i64 r.m.to, .int .u64 r.m.t, .int .u64 r.m.pi, .int .u64 r.m.pt, .slice eA en ec, .int .u64 r.m.co, .bool r.m.ok, .slice iA im ic, .slice dA dm dc] := by
  intro j v hj
  rw [h.bx.cell, Nat.add_comm 3 j]
  simpa using hj
theorem wp_store_none {P : Program} {o : Oper} {a : Act} {K : Act → World → Prop} {Q : Exit → Act → World → Prop} {w : World} (hd : o.dst = none) (ty : TypeId) (x y : Operand) (ho : o.op = .store ty x y)
    (g : Nat) (c : Array Value) (t : TypeId) (cells : List Value) (hx : a.eval x = .pointer (some ⟨g, 0, none⟩)) (hy : a.eval y = .agg cells.toArray) (hb : Blk w g t c)
    (hc : c.size = cells.length) (hi : (P.info? ty).map (·.size) = some cells.length) (h1 : ∀ v ∈ cells, v.oneCell' = true)
    (h : ∀ w', Blk w' g t cells.toArray → Only g w w' → K a w') : Oper.wp P o a w K Q :=
  wp_store_blk ty x y ho g c t cells hx hy hb hc hi h1 (fun w' hb ho => by rw [hd]; exact h w' hb ho)
theorem Fx.only {w w' : World} {base p q g : Nat} {A : Option Addr} {n c : Nat} {zs : List Int} {k : Nat} {r : Rq} {eA : Option Addr} {en ec : Nat} {iA : Option Addr} {im ic : Nat} {dA : Option Addr} {dm dc : Nat} (h : Fx w base p q A n c zs k r eA en ec iA im ic dA dm dc) (ho : Only g w w') (hg : g < base) :
    Blk w' q 98 #[.pointer (some ⟨p, 0, none⟩), .bool r.s.wr, .slice A n c, .int .i64 r.m.kind, .int .i64 r.m.fr, .int .i64 r.m.to, .int .u64 r.m.t, .int .u64 r.m.pi, .int .u64 r.m.pt, .slice eA en ec, .int .u64 r.m.co, .bool r.m.ok, .slice iA im ic, .slice dA dm dc] :=
  ho.keep h.bx (by have := h.hq; omega)
set_option maxRecDepth 100000 in
set_option maxHeartbeats 8000000 in
theorem read_msg (A : Option Addr) (n c : Nat) (zs : List Int) (w : World) (h : By w w.heap.size A n zs) (hc : n ≤ c) (hn : n ≤ 140737488355328) (hcm : c ≤ 9223372036854775807) (hnl : A = none → c = 0) :
    Calls Tryd.prog 44 #[.slice A n c] w fun e w' => ∃ eA en ec iA im ic dA dm dc, e = .returned (.tuple #[.agg #[.int .i64 (rdAll zs).m.kind, .int .i64 (rdAll zs).m.fr, .int .i64 (rdAll zs).m.to, .int .u64 (rdAll zs).m.t, .int .u64 (rdAll zs).m.pi, .int .u64 (rdAll zs).m.pt, .slice eA en ec, .int .u64 (rdAll zs).m.co, .bool (rdAll zs).m.ok, .slice iA im ic, .slice dA dm dc], .bool (rdOkB zs)]) ∧
      Eo w' w.heap.size eA en ec (rdAll zs).m.es ∧ Ios w' w.heap.size iA im ic (rdAll zs).m.mem ∧ Own w' w.heap.size dA dm dc (rdAll zs).m.da ∧ Below w.heap.size w w' := by
  have HOK : Hid (rdOkB zs = (!(rdAll zs).s.wr && ((rdAll zs).s.e == 0 && (rdAll zs).s.l.length == 0))) := Lib.hid rfl
  obtain ⟨r6, hr6⟩ : ∃ r6, rdAll zs = r6 := ⟨_, rfl⟩
  have RAL := Lib.hid hr6
  rw [hr6] at HOK ⊢
  clear hr6
  generalize rdOkB zs = OZ at *
  have HH := Lib.hid h
  have ST := Lib.hid (fx_start A n c zs w h hc hn hcm hnl)
  clear h
  go_enter Tryd.func44, Tryd.ntmps44
  go_upto_region 2 with (go_at_call 61; refine (read_any A n c _).mono ?_; rintro e w1 ⟨rfl, rfl⟩)
  generalize (((w.alloc (.cells #[.int .i64 0, .int .i64 0, .int .i64 0, .int .u64 0, .int .u64 0, .int .u64 0, .slice none 0 0, .int .u64 0, .bool false, .slice none 0 0, .slice none 0 0] 31)).alloc (.cells #[.int .i64 0, .int .i64 0, .slice A n c] 120)).alloc (.cells #[.pointer (some ⟨w.heap.size + 1, 0, none⟩), .bool false, .slice A n c, .int .i64 0, .int .i64 0, .int .i64 0, .int .u64 0, .int .u64 0, .int .u64 0, .slice none 0 0, .int .u64 0, .bool false, .slice none 0 0, .slice none 0 0] 98)) = w3 at *
  have HB3 := Lib.hid ST.out.2.2
  have HZ3 := Lib.hid ST.out.2.1
  go_upto_region 3 with (go_at_call 62; refine (head_meth _ _ _ _ _ _ _ _ _ ST.out.1).mono ?_; rintro e w4 ⟨rfl, hq4, hb4⟩)
  obtain ⟨k4, eA4, en4, ec4, iA4, im4, ic4, dA4, dm4, dc4, hx4⟩ := hq4
  have HQ4 := Lib.hid (show Fq _ _ _ A n c zs _ w4 from ⟨_, _, _, _, _, _, _, _, _, _, hx4⟩)
  have q3 : w4.cell? ⟨w.heap.size + 1 + 1, 3, none⟩ = some (.int .i64 (rdHead ⟨ms0, ⟨zs, 0, false⟩⟩).m.kind) := hx4.bx.cell 3
  have HE0 : Hid ((rdHead ⟨ms0, ⟨zs, 0, false⟩⟩).m.es.length ≤ 500000) := Lib.hid (Nat.zero_le _)
  have HM0 : Hid ((rdHead ⟨ms0, ⟨zs, 0, false⟩⟩).m.mem.length ≤ 500000) := Lib.hid (Nat.zero_le _)
  have PT := Lib.hid (rdFs_pt (rdHead ⟨ms0, ⟨zs, 0, false⟩⟩).m.kind _ (Fx.bsl HQ4.out) ⟨by show (0 : Int) ≤ 0; omega, by show (0 : Int) < 18446744073709551616; omega⟩)
  have RA : Hid (rdAll zs = rdFs (rdHead ⟨ms0, ⟨zs, 0, false⟩⟩).m.kind 6 (rdHead ⟨ms0, ⟨zs, 0, false⟩⟩)) := Lib.hid rfl
  have HK := Lib.hid hx4.size
  clear hx4
  generalize rdHead ⟨ms0, ⟨zs, 0, false⟩⟩ = r0 at *
  generalize r0.m.kind = kd at *
  obtain ⟨C, hC⟩ : ∃ C, cntg kd = C := ⟨_, rfl⟩
  have CT := Lib.hid (fun W => counting_any kd W)
  rw [hC] at CT
  have hC6 : C < 64 := by rw [← hC]; rcases cntg_cases kd with h | ⟨_, h⟩ | ⟨_, h⟩ | ⟨_, h⟩ | ⟨_, h⟩ | ⟨_, h⟩ <;> omega
  have HC := Lib.hid hC
  clear hC
  go_wp2_with (first | (go_at_call 45; refine (CT.out _).mono ?_; rintro e w5 ⟨rfl, rfl⟩) | (go_at_call 63; refine (fields_any _ _).mono ?_; rintro e w6 ⟨rfl, hb6⟩))
  have HB6 := Lib.hid (hb4.trans (hb6.mono HK.out))
  have HQ6 : Hid (Fq (w.heap.size + 1) (w.heap.size + 1) (w.heap.size + 1 + 1) A n c zs r0 w6) := Lib.hid (by
    obtain ⟨_, _, _, _, _, _, _, _, _, _, hx⟩ := HQ4.out
    exact ⟨_, _, _, _, _, _, _, _, _, _, hx.keep hb6⟩)
  clear hb4 hb6 q3 HK HQ4 CT
  go_loopw [24] (fun iv wr => ∃ i : Nat, i ≤ 6 ∧ iv = .int .i64 i ∧ Fq (w.heap.size + 1) (w.heap.size + 1) (w.heap.size + 1 + 1) A n c zs (rdFs kd i r0) wr ∧ Below (w.heap.size + 1) w3 wr) (fun iv _ => 6 - (intOf iv).toNat)
  case atStart => exact ⟨0, by omega, rfl, HQ6.out, HB6.out⟩
  case round =>
    obtain ⟨i, hi, rfl, hq, hb⟩ := hrel
    clear HQ6 HB6
    rcases (show i = 0 ∨ i = 1 ∨ i = 2 ∨ i = 3 ∨ i = 4 ∨ i = 5 ∨ i = 6 by omega) with rfl | rfl | rfl | rfl | rfl | rfl | rfl
    · have ix := ix99_0 (w.heap.size + 1 + 1)
      have HS := Lib.hid (fun W => has_any C 0 hC6 (by decide) W)
      have PF := Lib.hid (ok_meth _ _ _ _ _ _ _ _ _ hq)
      have RK : Hid (rdFs kd (0 + 1) r0 = if decide (C / 2 ^ 0 % 2 = 1) = true then rdF 0 (rdFs kd 0 r0) else rdFs kd 0 r0) := Lib.hid (by
        rw [← HC.out]
        show (if cntg kd / 2 ^ 0 % 2 = 1 then _ else _) = _
        simp only [decide_eq_true_eq])
      cases hd : decide (C / 2 ^ 0 % 2 = 1) with
      | true =>
        rw [hd] at HS RK
        rw [if_pos rfl] at RK
        clear hd
        go_wp2_with (first
          | (go_at_call 47; refine (HS.out _).mono ?_; rintro e w7 ⟨rfl, rfl⟩)
          | (go_at_call 86; refine PF.out.mono ?_; rintro e w8 ⟨rfl, hq8, hb8⟩))
        go_roundw
        case rel => exact ⟨1, by omega, rfl, by rw [RK.out]; exact hq8, hb.trans hb8⟩
        case measure => simp [intOf]
      | false =>
        rw [hd] at HS RK
        rw [if_neg Bool.false_ne_true] at RK
        clear hd
        go_wp2_with (go_at_call 47; refine (HS.out _).mono ?_; rintro e w7 ⟨rfl, rfl⟩)
        go_roundw
        case rel => exact ⟨1, by omega, rfl, by rw [RK.out]; exact hq, hb⟩
        case measure => simp [intOf]
    · have ix := ix99_1 (w.heap.size + 1 + 1)
      have HS := Lib.hid (fun W => has_any C 1 hC6 (by decide) W)
      have PF := Lib.hid (place_meth _ _ _ _ _ _ _ _ _ hq)
      have RK : Hid (rdFs kd (1 + 1) r0 = if decide (C / 2 ^ 1 % 2 = 1) = true then rdF 1 (rdFs kd 1 r0) else rdFs kd 1 r0) := Lib.hid (by
        rw [← HC.out]
        show (if cntg kd / 2 ^ 1 % 2 = 1 then _ else _) = _
        simp only [decide_eq_true_eq])
      cases hd : decide (C / 2 ^ 1 % 2 = 1) with
      | true =>
        rw [hd] at HS RK
        rw [if_pos rfl] at RK
        clear hd
        go_wp2_with (first
          | (go_at_call 47; refine (HS.out _).mono ?_; rintro e w7 ⟨rfl, rfl⟩)
          | (go_at_call 87; refine PF.out.mono ?_; rintro e w8 ⟨rfl, hq8, hb8⟩))
        go_roundw
        case rel => exact ⟨2, by omega, rfl, by rw [RK.out]; exact hq8, hb.trans hb8⟩
        case measure => simp [intOf]
      | false =>
        rw [hd] at HS RK
        rw [if_neg Bool.false_ne_true] at RK
        clear hd
        go_wp2_with (go_at_call 47; refine (HS.out _).mono ?_; rintro e w7 ⟨rfl, rfl⟩)
        go_roundw
        case rel => exact ⟨2, by omega, rfl, by rw [RK.out]; exact hq, hb⟩
        case measure => simp [intOf]
    · have ix := ix99_2 (w.heap.size + 1 + 1)
      have HS := Lib.hid (fun W => has_any C 2 hC6 (by decide) W)
      have PF := Lib.hid (commit_meth _ _ _ _ _ _ _ _ _ hq)
      have RK : Hid (rdFs kd (2 + 1) r0 = if decide (C / 2 ^ 2 % 2 = 1) = true then rdF 2 (rdFs kd 2 r0) else rdFs kd 2 r0) := Lib.hid (by
        rw [← HC.out]
        show (if cntg kd / 2 ^ 2 % 2 = 1 then _ else _) = _
        simp only [decide_eq_true_eq])
      cases hd : decide (C / 2 ^ 2 % 2 = 1) with
      | true =>
        rw [hd] at HS RK
        rw [if_pos rfl] at RK
        clear hd
        go_wp2_with (first
          | (go_at_call 47; refine (HS.out _).mono ?_; rintro e w7 ⟨rfl, rfl⟩)
          | (go_at_call 88; refine PF.out.mono ?_; rintro e w8 ⟨rfl, hq8, hb8⟩))
        go_roundw
        case rel => exact ⟨3, by omega, rfl, by rw [RK.out]; exact hq8, hb.trans hb8⟩
        case measure => simp [intOf]
      | false =>
        rw [hd] at HS RK
        rw [if_neg Bool.false_ne_true] at RK
        clear hd
        go_wp2_with (go_at_call 47; refine (HS.out _).mono ?_; rintro e w7 ⟨rfl, rfl⟩)
        go_roundw
        case rel => exact ⟨3, by omega, rfl, by rw [RK.out]; exact hq, hb⟩
        case measure => simp [intOf]
    · have ix := ix99_3 (w.heap.size + 1 + 1)
      have HS := Lib.hid (fun W => has_any C 3 hC6 (by decide) W)
      have PF := Lib.hid (entries_meth _ _ _ _ _ _ _ _ _ hq (by rw [rdFs_es]; exact HE0.out) (PT.out).1 (PT.out).2)
      have RK : Hid (rdFs kd (3 + 1) r0 = if decide (C / 2 ^ 3 % 2 = 1) = true then rdF 3 (rdFs kd 3 r0) else rdFs kd 3 r0) := Lib.hid (by
        rw [← HC.out]
        show (if cntg kd / 2 ^ 3 % 2 = 1 then _ else _) = _
        simp only [decide_eq_true_eq])
      cases hd : decide (C / 2 ^ 3 % 2 = 1) with
      | true =>
        rw [hd] at HS RK
        rw [if_pos rfl] at RK
        clear hd
        go_wp2_with (first
          | (go_at_call 47; refine (HS.out _).mono ?_; rintro e w7 ⟨rfl, rfl⟩)
          | (go_at_call 89; refine PF.out.mono ?_; rintro e w8 ⟨rfl, hq8, hb8⟩))
        go_roundw
        case rel => exact ⟨4, by omega, rfl, by rw [RK.out]; exact hq8, hb.trans hb8⟩
        case measure => simp [intOf]
      | false =>
        rw [hd] at HS RK
        rw [if_neg Bool.false_ne_true] at RK
        clear hd
        go_wp2_with (go_at_call 47; refine (HS.out _).mono ?_; rintro e w7 ⟨rfl, rfl⟩)
        go_roundw
        case rel => exact ⟨4, by omega, rfl, by rw [RK.out]; exact hq, hb⟩
        case measure => simp [intOf]
    · have ix := ix99_4 (w.heap.size + 1 + 1)
      have HS := Lib.hid (fun W => has_any C 4 hC6 (by decide) W)
      have PF := Lib.hid (conf_meth _ _ _ _ _ _ _ _ _ hq (by rw [rdFs_mem]; exact HM0.out))
      have RK : Hid (rdFs kd (4 + 1) r0 = if decide (C / 2 ^ 4 % 2 = 1) = true then rdF 4 (rdFs kd 4 r0) else rdFs kd 4 r0) := Lib.hid (by
        rw [← HC.out]
        show (if cntg kd / 2 ^ 4 % 2 = 1 then _ else _) = _
        simp only [decide_eq_true_eq])
      cases hd : decide (C / 2 ^ 4 % 2 = 1) with
      | true =>
        rw [hd] at HS RK
        rw [if_pos rfl] at RK
        clear hd
        go_wp2_with (first
          | (go_at_call 47; refine (HS.out _).mono ?_; rintro e w7 ⟨rfl, rfl⟩)
          | (go_at_call 90; refine PF.out.mono ?_; rintro e w8 ⟨rfl, hq8, hb8⟩))
        go_roundw
        case rel => exact ⟨5, by omega, rfl, by rw [RK.out]; exact hq8, hb.trans hb8⟩
        case measure => simp [intOf]
      | false =>
        rw [hd] at HS RK
        rw [if_neg Bool.false_ne_true] at RK
        clear hd
        go_wp2_with (go_at_call 47; refine (HS.out _).mono ?_; rintro e w7 ⟨rfl, rfl⟩)
        go_roundw
        case rel => exact ⟨5, by omega, rfl, by rw [RK.out]; exact hq, hb⟩
        case measure => simp [intOf]
    · have ix := ix99_5 (w.heap.size + 1 + 1)
      have HS := Lib.hid (fun W => has_any C 5 hC6 (by decide) W)
      have PF := Lib.hid (data_meth _ _ _ _ _ _ _ _ _ hq)
      have RK : Hid (rdFs kd (5 + 1) r0 = if decide (C / 2 ^ 5 % 2 = 1) = true then rdF 5 (rdFs kd 5 r0) else rdFs kd 5 r0) := Lib.hid (by
        rw [← HC.out]
        show (if cntg kd / 2 ^ 5 % 2 = 1 then _ else _) = _
        simp only [decide_eq_true_eq])
      cases hd : decide (C / 2 ^ 5 % 2 = 1) with
      | true =>
        rw [hd] at HS RK
        rw [if_pos rfl] at RK
        clear hd
        go_wp2_with (first
          | (go_at_call 47; refine (HS.out _).mono ?_; rintro e w7 ⟨rfl, rfl⟩)
          | (go_at_call 91; refine PF.out.mono ?_; rintro e w8 ⟨rfl, hq8, hb8⟩))
        go_roundw
        case rel => exact ⟨6, by omega, rfl, by rw [RK.out]; exact hq8, hb.trans hb8⟩
        case measure => simp [intOf]
      | false =>
        rw [hd] at HS RK
        rw [if_neg Bool.false_ne_true] at RK
        clear hd
        go_wp2_with (go_at_call 47; refine (HS.out _).mono ?_; rintro e w7 ⟨rfl, rfl⟩)
        go_roundw
        case rel => exact ⟨6, by omega, rfl, by rw [RK.out]; exact hq, hb⟩
        case measure => simp [intOf]
    · skip
      have e6 : rdFs kd 6 r0 = r6 := RA.out.symm.trans RAL.out
      rw [e6] at hq
      clear e6
      obtain ⟨k, eA, en, ec, iA, im, ic, dA, dm, dc, hx⟩ := hq
      have HX : Hid (Fx wr (w.heap.size + 1) (w.heap.size + 1) (w.heap.size + 1 + 1) A n c zs k r6 eA en ec iA im ic dA dm dc) := Lib.hid hx
      have LL : Hid (r6.s.l.length = n - k) := Lib.hid (by rw [hx.l, List.length_drop, hx.by_.1])
      have KN := Lib.hid hx.kn
      have ZB := Lib.hid (HZ3.out.below hb (by omega))
      have WB : Hid (Below w.heap.size w wr) := Lib.hid (HB3.out.trans (hb.mono (by omega)))
      clear hx hb RA RAL PT HE0 HM0 HC hC6 HB3 HZ3 ST HH hi
      go_upto_region 10 with (fail)
      have HX0 : Hid (Fx wr.drew (w.heap.size + 1) (w.heap.size + 1) (w.heap.size + 1 + 1) A n c zs k r6 eA en ec iA im ic dA dm dc) := Lib.hid (HX.out.keep (Below.refl _ _).drew)
      have HZ0 : Hid (Blk wr.drew w.heap.size 31 #[.int .i64 0, .int .i64 0, .int .i64 0, .int .u64 0, .int .u64 0, .int .u64 0, .slice none 0 0, .int .u64 0, .bool false, .slice none 0 0, .slice none 0 0]) := Lib.hid (ZB.out.below (Below.refl _ _).drew ZB.out.lt)
      have HB0 : Hid (Below w.heap.size w wr.drew) := Lib.hid WB.out.drew
      clear HX ZB WB
      cases hwr : r6.s.wr with
      | true =>
        have HWR := Lib.hid hwr
        rw [hwr] at HOK
        clear hwr
        have xS := And.intro (HX0.out.bx.cell 0) (And.intro ((HX0.out.bx.cell 1).trans (show _ = some (Value.bool true) by rw [HWR.out]; rfl)) HX0.out.rng3)
        refine wp_region_noPanic ?_
        refine wp_region_held_drew (S := fun w' => w'.cell? ⟨w.heap.size + 1 + 1, 0, none⟩ = some (.pointer (some ⟨w.heap.size + 1, 0, none⟩)) ∧ w'.cell? ⟨w.heap.size + 1 + 1, 1, none⟩ = some (.bool true) ∧ w'.rangeAt (w.heap.size + 1 + 1) 3 [.int .i64 r6.m.kind, .int .i64 r6.m.fr, .int .i64 r6.m.to, .int .u64 r6.m.t, .int .u64 r6.m.pi, .int .u64 r6.m.pt, .slice eA en ec, .int .u64 r6.m.co, .bool r6.m.ok, .slice iA im ic, .slice dA dm dc]) (by kernel_rfl) xS (fun hHeld => ?_)
        generalize wr.drew = v0 at *
        refine take_d (i := 0) (d := 34) (v := ?sa34) rfl rfl (by kernel_rfl) (by kernel_rfl) (by kernel_rfl) (fun _ _ _ h => h) (Or.inl ⟨by kernel_rfl, ?sa34h⟩) hHeld ?sa34n
        case sa34h => (intro w hSw; (try dsimp only at hSw); go_split_ands; go_simp; (try exact rfl))
        try simp only [Act.put, List.setIfInBounds_toArray, List.set_cons_zero, List.set_cons_succ]
        refine take_d (i := 1) (d := 35) (v := ?sa35) rfl rfl (by kernel_rfl) (by kernel_rfl) (by kernel_rfl) (fun _ _ _ h => h) (Or.inl ⟨by kernel_rfl, ?sa35h⟩) hHeld ?sa35n
        case sa35h => (intro w hSw; (try dsimp only at hSw); go_split_ands; go_simp; (try exact rfl))
        try simp only [Act.put, List.setIfInBounds_toArray, List.set_cons_zero, List.set_cons_succ]
        refine take_d (i := 2) (d := 36) (v := ?sa36) rfl rfl (by kernel_rfl) (by kernel_rfl) (by kernel_rfl) (fun _ _ _ h => h) (Or.inl ⟨by kernel_rfl, ?sa36h⟩) hHeld ?sa36n
        case sa36h => (intro w hSw; (try dsimp only at hSw); go_split_ands; go_simp; (try exact rfl))
        try simp only [Act.put, List.setIfInBounds_toArray, List.set_cons_zero, List.set_cons_succ]
        refine take_d (i := 3) (d := 37) (v := .agg ([.int .i64 r6.m.kind, .int .i64 r6.m.fr, .int .i64 r6.m.to, .int .u64 r6.m.t, .int .u64 r6.m.pi, .int .u64 r6.m.pt, .slice eA en ec, .int .u64 r6.m.co, .bool r6.m.ok, .slice iA im ic, .slice dA dm dc] : List Value).toArray) rfl rfl (by kernel_rfl) (by kernel_rfl) (by kernel_rfl) (fun _ _ _ h => h) (yieldsIf_load_mid (by rfl) _ _ rfl _ _ rfl [.int .i64 r6.m.kind, .int .i64 r6.m.fr, .int .i64 r6.m.to, .int .u64 r6.m.t, .int .u64 r6.m.pi, .int .u64 r6.m.pt, .slice eA en ec, .int .u64 r6.m.co, .bool r6.m.ok, .slice iA im ic, .slice dA dm dc] _ (fun w h => h.2.2) Tryd.underlying31 rfl Tryd.i31) hHeld ?_
        try simp only [Act.put, List.setIfInBounds_toArray, List.set_cons_zero, List.set_cons_succ]
        refine take_d (i := 4) (d := 38) (v := ?sa38) rfl rfl (by kernel_rfl) (by kernel_rfl) (by kernel_rfl) (fun _ _ _ h => h) (Or.inl ⟨by kernel_rfl, ?sa38h⟩) hHeld ?sa38n
        case sa38h => (intro w hSw; (try dsimp only at hSw); go_split_ands; go_simp; (try exact rfl))
        try simp only [Act.put, List.setIfInBounds_toArray, List.set_cons_zero, List.set_cons_succ]
        refine take_d (i := 5) (d := 39) (v := ?sa39) rfl rfl (by kernel_rfl) (by kernel_rfl) (by kernel_rfl) (fun _ _ _ h => h) (Or.inl ⟨by kernel_rfl, ?sa39h⟩) hHeld ?sa39n
        case sa39h => (intro w hSw; (try dsimp only at hSw); go_split_ands; go_simp; (try exact rfl))
        try simp only [Act.put, List.setIfInBounds_toArray, List.set_cons_zero, List.set_cons_succ]
        refine take_d (i := 6) (d := 40) (v := ?sa40) rfl rfl (by kernel_rfl) (by kernel_rfl) (by kernel_rfl) (fun _ _ _ h => h) (Or.inl ⟨by kernel_rfl, ?sa40h⟩) hHeld ?sa40n
        case sa40h => (intro w hSw; (try dsimp only at hSw); go_split_ands; go_simp; (try exact rfl))
        try simp only [Act.put, List.setIfInBounds_toArray, List.set_cons_zero, List.set_cons_succ]
        refine take_d (i := 7) (d := 41) (v := ?sa41) rfl rfl (by kernel_rfl) (by kernel_rfl) (by kernel_rfl) (fun _ _ _ h => h) (Or.inl ⟨by kernel_rfl, ?sa41h⟩) hHeld ?sa41n
        case sa41h => (intro w hSw; (try dsimp only at hSw); go_split_ands; go_simp; (try exact rfl))
        try simp only [Act.put, List.setIfInBounds_toArray, List.set_cons_zero, List.set_cons_succ]
        refine take_d (i := 8) (d := 42) (v := .bool true) rfl rfl (by kernel_rfl) (by kernel_rfl) (by kernel_rfl) (fun _ _ _ h => h) (Or.inl ⟨by kernel_rfl, ?sa42h⟩) hHeld ?_
        case sa42h => (intro w hSw; (try dsimp only at hSw); go_split_ands; go_simp)
        try simp only [Act.put, List.setIfInBounds_toArray, List.set_cons_zero, List.set_cons_succ]
        refine take_d (i := 9) (d := 43) (v := .bool false) rfl rfl (by kernel_rfl) (by kernel_rfl) (by kernel_rfl) (fun _ _ _ h => h) (Or.inl ⟨by kernel_rfl, ?sa43h⟩) hHeld ?_
        case sa43h => (intro w hSw; (try dsimp only at hSw); go_split_ands; go_simp)
        try simp only [Act.put, List.setIfInBounds_toArray, List.set_cons_zero, List.set_cons_succ]
        refine take_d (i := 10) (d := 44) (v := .bool false) rfl rfl (by kernel_rfl) (by kernel_rfl) (by kernel_rfl) (fun _ _ _ h => h) (Or.inl ⟨by kernel_rfl, ?sa44h⟩) hHeld ?_
        case sa44h => (intro w hSw; (try dsimp only at hSw); go_split_ands; go_simp)
        try simp only [Act.put, List.setIfInBounds_toArray, List.set_cons_zero, List.set_cons_succ]
        refine take_d (i := 11) (d := 45) (v := undef) rfl rfl (by kernel_rfl) (by kernel_rfl) (by kernel_rfl) (fun _ _ _ h => h) (Or.inr ⟨by kernel_rfl, rfl⟩) hHeld ?_
        try simp only [Act.put, List.setIfInBounds_toArray, List.set_cons_zero, List.set_cons_succ]
        refine take_d (i := 12) (d := 46) (v := undef) rfl rfl (by kernel_rfl) (by kernel_rfl) (by kernel_rfl) (fun _ _ _ h => h) (Or.inr ⟨by kernel_rfl, rfl⟩) hHeld ?_
        try simp only [Act.put, List.setIfInBounds_toArray, List.set_cons_zero, List.set_cons_succ]
        refine take_d (i := 13) (d := 47) (v := undef) rfl rfl (by kernel_rfl) (by kernel_rfl) (by kernel_rfl) (fun _ _ _ h => h) (Or.inr ⟨by kernel_rfl, rfl⟩) hHeld ?_
        try simp only [Act.put, List.setIfInBounds_toArray, List.set_cons_zero, List.set_cons_succ]
        refine take_d (i := 14) (d := 48) (v := undef) rfl rfl (by kernel_rfl) (by kernel_rfl) (by kernel_rfl) (fun _ _ _ h => h) (Or.inr ⟨by kernel_rfl, rfl⟩) hHeld ?_
        try simp only [Act.put, List.setIfInBounds_toArray, List.set_cons_zero, List.set_cons_succ]
        refine take_d (i := 15) (d := 49) (v := undef) rfl rfl (by kernel_rfl) (by kernel_rfl) (by kernel_rfl) (fun _ _ _ h => h) (Or.inr ⟨by kernel_rfl, rfl⟩) hHeld ?_
        try simp only [Act.put, List.setIfInBounds_toArray, List.set_cons_zero, List.set_cons_succ]
        refine take_d (i := 16) (d := 50) (v := undef) rfl rfl (by kernel_rfl) (by kernel_rfl) (by kernel_rfl) (fun _ _ _ h => h) (Or.inr ⟨by kernel_rfl, rfl⟩) hHeld ?_
        try simp only [Act.put, List.setIfInBounds_toArray, List.set_cons_zero, List.set_cons_succ]
        refine take_d (i := 17) (d := 51) (v := undef) rfl rfl (by kernel_rfl) (by kernel_rfl) (by kernel_rfl) (fun _ _ _ h => h) (Or.inr ⟨by kernel_rfl, rfl⟩) hHeld ?_
        try simp only [Act.put, List.setIfInBounds_toArray, List.set_cons_zero, List.set_cons_succ]
        refine take_d (i := 18) (d := 52) (v := .bool false) rfl rfl (by kernel_rfl) (by kernel_rfl) (by kernel_rfl) (fun _ _ _ h => h) (Or.inl ⟨by kernel_rfl, ?sa52h⟩) hHeld ?_
        case sa52h => (intro w hSw; (try dsimp only at hSw); go_split_ands; go_simp)
        try simp only [Act.put, List.setIfInBounds_toArray, List.set_cons_zero, List.set_cons_succ]
        refine take_d (i := 19) (d := 53) (v := .bool false) rfl rfl (by kernel_rfl) (by kernel_rfl) (by kernel_rfl) (fun _ _ _ h => h) (Or.inl ⟨by kernel_rfl, ?sa53h⟩) hHeld ?_
        case sa53h => (intro w hSw; (try dsimp only at hSw); go_split_ands; go_simp)
        try simp only [Act.put, List.setIfInBounds_toArray, List.set_cons_zero, List.set_cons_succ]
        refine take_d (i := 20) (d := 54) (v := undef) rfl rfl (by kernel_rfl) (by kernel_rfl) (by kernel_rfl) (fun _ _ _ h => h) (Or.inr ⟨by kernel_rfl, rfl⟩) hHeld ?_
        try simp only [Act.put, List.setIfInBounds_toArray, List.set_cons_zero, List.set_cons_succ]
        refine take_d (i := 21) (d := 55) (v := undef) rfl rfl (by kernel_rfl) (by kernel_rfl) (by kernel_rfl) (fun _ _ _ h => h) (Or.inr ⟨by kernel_rfl, rfl⟩) hHeld ?_
        try simp only [Act.put, List.setIfInBounds_toArray, List.set_cons_zero, List.set_cons_succ]
        refine take_d (i := 22) (d := 56) (v := undef) rfl rfl (by kernel_rfl) (by kernel_rfl) (by kernel_rfl) (fun _ _ _ h => h) (Or.inr ⟨by kernel_rfl, rfl⟩) hHeld ?_
        try simp only [Act.put, List.setIfInBounds_toArray, List.set_cons_zero, List.set_cons_succ]
        refine take_d (i := 23) (d := 57) (v := undef) rfl rfl (by kernel_rfl) (by kernel_rfl) (by kernel_rfl) (fun _ _ _ h => h) (Or.inr ⟨by kernel_rfl, rfl⟩) hHeld ?_
        try simp only [Act.put, List.setIfInBounds_toArray, List.set_cons_zero, List.set_cons_succ]
        refine take_d (i := 24) (d := 58) (v := undef) rfl rfl (by kernel_rfl) (by kernel_rfl) (by kernel_rfl) (fun _ _ _ h => h) (Or.inr ⟨by kernel_rfl, rfl⟩) hHeld ?_
        try simp only [Act.put, List.setIfInBounds_toArray, List.set_cons_zero, List.set_cons_succ]
        refine take_d (i := 25) (d := 59) (v := undef) rfl rfl (by kernel_rfl) (by kernel_rfl) (by kernel_rfl) (fun _ _ _ h => h) (Or.inr ⟨by kernel_rfl, rfl⟩) hHeld ?_
        try simp only [Act.put, List.setIfInBounds_toArray, List.set_cons_zero, List.set_cons_succ]
        refine take_d (i := 26) (d := 60) (v := undef) rfl rfl (by kernel_rfl) (by kernel_rfl) (by kernel_rfl) (fun _ _ _ h => h) (Or.inr ⟨by kernel_rfl, rfl⟩) hHeld ?_
        try simp only [Act.put, List.setIfInBounds_toArray, List.set_cons_zero, List.set_cons_succ]
        refine take_d (i := 27) (d := 61) (v := .bool false) rfl rfl (by kernel_rfl) (by kernel_rfl) (by kernel_rfl) (fun _ _ _ h => h) (Or.inl ⟨by kernel_rfl, ?sa61h⟩) hHeld ?_
        case sa61h => (intro w hSw; (try dsimp only at hSw); go_split_ands; go_simp)
        try simp only [Act.put, List.setIfInBounds_toArray, List.set_cons_zero, List.set_cons_succ]
        refine wpAnyH_ready (rs := [28]) (by kernel_rfl) (by simp) ?_
        refine AllReadyH.cons rfl (fun K hK => ?_) AllReadyH.nil
        refine wp_store_none rfl 31 _ _ rfl w.heap.size #[.int .i64 0, .int .i64 0, .int .i64 0, .int .u64 0, .int .u64 0, .int .u64 0, .slice none 0 0, .int .u64 0, .bool false, .slice none 0 0, .slice none 0 0] 31 [.int .i64 r6.m.kind, .int .i64 r6.m.fr, .int .i64 r6.m.to, .int .u64 r6.m.t, .int .u64 r6.m.pi, .int .u64 r6.m.pt, .slice eA en ec, .int .u64 r6.m.co, .bool r6.m.ok, .slice iA im ic, .slice dA dm dc] rfl rfl HZ0.out rfl Tryd.i31 (by simp [Value.oneCell']) ?_
        intro v9 hb9 ho9
        have QB9 := Lib.hid (HX0.out.only ho9 (by omega))
        have B9 := Lib.hid hb9
        have O9 := Lib.hid ho9
        refine hK.out _ _ ⟨QB9.out.cell 0, (QB9.out.cell 1).trans (by rw [HWR.out]; rfl), (fun j v hj => by rw [QB9.out.cell, Nat.add_comm 3 j]; simpa using hj)⟩ (fun hHeld => ?_)
        clear hK K hb9 ho9
        try simp only [Act.put, List.setIfInBounds_toArray, List.set_cons_zero, List.set_cons_succ]
        refine take_d (i := 29) (d := 3) (v := ?sa3) rfl rfl (by kernel_rfl) (by kernel_rfl) (by kernel_rfl) (fun _ _ _ h => h) (Or.inl ⟨by kernel_rfl, ?sa3h⟩) hHeld ?sa3n
        case sa3h => (intro w hSw; (try dsimp only at hSw); go_split_ands; go_simp; (try exact rfl))
        try simp only [Act.put, List.setIfInBounds_toArray, List.set_cons_zero, List.set_cons_succ]
        refine wpAnyH_done (by kernel_rfl) ?_ _
        refine NoPanic.normal ?_
        go_wp2
        refine bodyPost_ret (ret_cell_tmp rfl _ _ w.heap.size 31 _ _ rfl B9.out Tryd.underlying31 rfl Tryd.i31) rfl ⟨eA, en, ec, iA, im, ic, dA, dm, dc, by rw [HOK.out]; rfl, ?_, ?_, ?_, HB0.out.trans (O9.out.below (Nat.le_refl _))⟩
        · exact (Eo.only HX0.out.es HZ0.out (by decide) (by decide) O9.out).down (by omega)
        · exact World.ownsRow.down (World.ownsRow.only HX0.out.mem HZ0.out (by decide) O9.out) (by omega)
        · exact ⟨World.ownsRow.down (World.ownsRow.only HX0.out.da.1 HZ0.out (by decide) O9.out) (by omega), HX0.out.da.2⟩
      | false =>
        have HWR := Lib.hid hwr
        rw [hwr] at HOK
        clear hwr
        have xS := And.intro (HX0.out.bx.cell 0) (And.intro ((HX0.out.bx.cell 1).trans (show _ = some (Value.bool false) by rw [HWR.out]; rfl)) HX0.out.rng3)
        by_cases he : r6.s.e = 0
        · have he' : (r6.s.e == 0) = true := by simp [he]
          rw [he'] at HOK
          clear he
          by_cases hk : k = n
          · have hk' : (((n : Int) - (k : Int)) == 0) = true := by simp; omega
            have hl : (r6.s.l.length == 0) = true := by rw [LL.out]; simp; omega
            rw [hl] at HOK
            clear hl hk
            refine wp_region_noPanic ?_
            refine wp_region_held_drew (S := fun w' => w'.cell? ⟨w.heap.size + 1 + 1, 0, none⟩ = some (.pointer (some ⟨w.heap.size + 1, 0, none⟩)) ∧ w'.cell? ⟨w.heap.size + 1 + 1, 1, none⟩ = some (.bool false) ∧ w'.rangeAt (w.heap.size + 1 + 1) 3 [.int .i64 r6.m.kind, .int .i64 r6.m.fr, .int .i64 r6.m.to, .int .u64 r6.m.t, .int .u64 r6.m.pi, .int .u64 r6.m.pt, .slice eA en ec, .int .u64 r6.m.co, .bool r6.m.ok, .slice iA im ic, .slice dA dm dc]) (by kernel_rfl) xS (fun hHeld => ?_)
            generalize wr.drew = v0 at *
            refine take_d (i := 0) (d := 34) (v := ?sc34) rfl rfl (by kernel_rfl) (by kernel_rfl) (by kernel_rfl) (fun _ _ _ h => h) (Or.inl ⟨by kernel_rfl, ?sc34h⟩) hHeld ?sc34n
            case sc34h => (intro w hSw; (try dsimp only at hSw); go_split_ands; go_simp; (try exact rfl))
            try simp only [Act.put, List.setIfInBounds_toArray, List.set_cons_zero, List.set_cons_succ]
            refine take_d (i := 1) (d := 35) (v := ?sc35) rfl rfl (by kernel_rfl) (by kernel_rfl) (by kernel_rfl) (fun _ _ _ h => h) (Or.inl ⟨by kernel_rfl, ?sc35h⟩) hHeld ?sc35n
            case sc35h => (intro w hSw; (try dsimp only at hSw); go_split_ands; go_simp; (try exact rfl))
            try simp only [Act.put, List.setIfInBounds_toArray, List.set_cons_zero, List.set_cons_succ]
            refine take_d (i := 2) (d := 36) (v := ?sc36) rfl rfl (by kernel_rfl) (by kernel_rfl) (by kernel_rfl) (fun _ _ _ h => h) (Or.inl ⟨by kernel_rfl, ?sc36h⟩) hHeld ?sc36n
            case sc36h => (intro w hSw; (try dsimp only at hSw); go_split_ands; go_simp; (try exact rfl))
            try simp only [Act.put, List.setIfInBounds_toArray, List.set_cons_zero, List.set_cons_succ]
            refine take_d (i := 3) (d := 37) (v := .agg ([.int .i64 r6.m.kind, .int .i64 r6.m.fr, .int .i64 r6.m.to, .int .u64 r6.m.t, .int .u64 r6.m.pi, .int .u64 r6.m.pt, .slice eA en ec, .int .u64 r6.m.co, .bool r6.m.ok, .slice iA im ic, .slice dA dm dc] : List Value).toArray) rfl rfl (by kernel_rfl) (by kernel_rfl) (by kernel_rfl) (fun _ _ _ h => h) (yieldsIf_load_mid (by rfl) _ _ rfl _ _ rfl [.int .i64 r6.m.kind, .int .i64 r6.m.fr, .int .i64 r6.m.to, .int .u64 r6.m.t, .int .u64 r6.m.pi, .int .u64 r6.m.pt, .slice eA en ec, .int .u64 r6.m.co, .bool r6.m.ok, .slice iA im ic, .slice dA dm dc] _ (fun w h => h.2.2) Tryd.underlying31 rfl Tryd.i31) hHeld ?_
            try simp only [Act.put, List.setIfInBounds_toArray, List.set_cons_zero, List.set_cons_succ]
            refine take_d (i := 4) (d := 38) (v := ?sc38) rfl rfl (by kernel_rfl) (by kernel_rfl) (by kernel_rfl) (fun _ _ _ h => h) (Or.inl ⟨by kernel_rfl, ?sc38h⟩) hHeld ?sc38n
            case sc38h => (intro w hSw; (try dsimp only at hSw); go_split_ands; go_simp; (try exact rfl))
            try simp only [Act.put, List.setIfInBounds_toArray, List.set_cons_zero, List.set_cons_succ]
            refine take_d (i := 5) (d := 39) (v := ?sc39) rfl rfl (by kernel_rfl) (by kernel_rfl) (by kernel_rfl) (fun _ _ _ h => h) (Or.inl ⟨by kernel_rfl, ?sc39h⟩) hHeld ?sc39n
            case sc39h => (intro w hSw; (try dsimp only at hSw); go_split_ands; go_simp; (try exact rfl))
            try simp only [Act.put, List.setIfInBounds_toArray, List.set_cons_zero, List.set_cons_succ]
            refine take_d (i := 6) (d := 40) (v := ?sc40) rfl rfl (by kernel_rfl) (by kernel_rfl) (by kernel_rfl) (fun _ _ _ h => h) (Or.inl ⟨by kernel_rfl, ?sc40h⟩) hHeld ?sc40n
            case sc40h => (intro w hSw; (try dsimp only at hSw); go_split_ands; go_simp; (try exact rfl))
            try simp only [Act.put, List.setIfInBounds_toArray, List.set_cons_zero, List.set_cons_succ]
            refine take_d (i := 7) (d := 41) (v := ?sc41) rfl rfl (by kernel_rfl) (by kernel_rfl) (by kernel_rfl) (fun _ _ _ h => h) (Or.inl ⟨by kernel_rfl, ?sc41h⟩) hHeld ?sc41n
            case sc41h => (intro w hSw; (try dsimp only at hSw); go_split_ands; go_simp; (try exact rfl))
            try simp only [Act.put, List.setIfInBounds_toArray, List.set_cons_zero, List.set_cons_succ]
            refine take_d (i := 8) (d := 42) (v := .bool false) rfl rfl (by kernel_rfl) (by kernel_rfl) (by kernel_rfl) (fun _ _ _ h => h) (Or.inl ⟨by kernel_rfl, ?sc42h⟩) hHeld ?_
            case sc42h => (intro w hSw; (try dsimp only at hSw); go_split_ands; go_simp)
            try simp only [Act.put, List.setIfInBounds_toArray, List.set_cons_zero, List.set_cons_succ]
            refine take_d (i := 9) (d := 43) (v := .bool true) rfl rfl (by kernel_rfl) (by kernel_rfl) (by kernel_rfl) (fun _ _ _ h => h) (Or.inl ⟨by kernel_rfl, ?sc43h⟩) hHeld ?_
            case sc43h => (intro w hSw; (try dsimp only at hSw); go_split_ands; go_simp)
            try simp only [Act.put, List.setIfInBounds_toArray, List.set_cons_zero, List.set_cons_succ]
            refine take_d (i := 10) (d := 44) (v := .bool true) rfl rfl (by kernel_rfl) (by kernel_rfl) (by kernel_rfl) (fun _ _ _ h => h) (Or.inl ⟨by kernel_rfl, ?sc44h⟩) hHeld ?_
            case sc44h => (intro w hSw; (try dsimp only at hSw); go_split_ands; go_simp)
            try simp only [Act.put, List.setIfInBounds_toArray, List.set_cons_zero, List.set_cons_succ]
            refine take_d (i := 11) (d := 45) (v := ?sc45) rfl rfl (by kernel_rfl) (by kernel_rfl) (by kernel_rfl) (fun _ _ _ h => h) (Or.inl ⟨by kernel_rfl, ?sc45h⟩) hHeld ?sc45n
            case sc45h => (intro w hSw; (try dsimp only at hSw); go_split_ands; go_simp; (try exact rfl))
            try simp only [Act.put, List.setIfInBounds_toArray, List.set_cons_zero, List.set_cons_succ]
            refine take_d (i := 12) (d := 46) (v := ?sc46) rfl rfl (by kernel_rfl) (by kernel_rfl) (by kernel_rfl) (fun _ _ _ h => h) (Or.inl ⟨by kernel_rfl, ?sc46h⟩) hHeld ?sc46n
            case sc46h => (intro w hSw; (try dsimp only at hSw); go_split_ands; go_simp; (try exact rfl))
            try simp only [Act.put, List.setIfInBounds_toArray, List.set_cons_zero, List.set_cons_succ]
            refine take_d (i := 13) (d := 47) (v := ?sc47) rfl rfl (by kernel_rfl) (by kernel_rfl) (by kernel_rfl) (fun _ _ _ h => h) (Or.inl ⟨by kernel_rfl, ?sc47h⟩) hHeld ?sc47n
            case sc47h => (intro w hSw; (try dsimp only at hSw); go_split_ands; go_simp; (try exact rfl))
            try simp only [Act.put, List.setIfInBounds_toArray, List.set_cons_zero, List.set_cons_succ]
            refine take_d (i := 14) (d := 48) (v := ?sc48) rfl rfl (by kernel_rfl) (by kernel_rfl) (by kernel_rfl) (fun _ _ _ h => h) (Or.inl ⟨by kernel_rfl, ?sc48h⟩) hHeld ?sc48n
            case sc48h => (intro w hSw; (try dsimp only at hSw); go_split_ands; go_simp; (try exact rfl))
            try simp only [Act.put, List.setIfInBounds_toArray, List.set_cons_zero, List.set_cons_succ]
            refine take_d (i := 15) (d := 49) (v := ?sc49) rfl rfl (by kernel_rfl) (by kernel_rfl) (by kernel_rfl) (fun _ _ _ h => h) (Or.inl ⟨by kernel_rfl, ?sc49h⟩) hHeld ?sc49n
            case sc49h => (intro w hSw; (try dsimp only at hSw); go_split_ands; go_simp; (try exact rfl))
            try simp only [Act.put, List.setIfInBounds_toArray, List.set_cons_zero, List.set_cons_succ]
            refine wpAnyH_ready (rs := [16]) (by kernel_rfl) (by simp) ?_
            refine AllReadyH.cons rfl (fun K hK => ?_) AllReadyH.nil
            go_simp
            refine (err_any _ _ _ _ _ _ _ HX0.out.rd).mono ?_
            rintro e v1 ⟨rfl, rfl⟩
            refine hK.out _ _ (⟨HX0.out.bx.cell 0, (HX0.out.bx.cell 1).trans (by rw [HWR.out]; rfl), HX0.out.rng3⟩) (fun hHeld => ?_)
            clear hK K
            try simp only [Act.put, List.setIfInBounds_toArray, List.set_cons_zero, List.set_cons_succ]
            refine take_d (i := 17) (d := 51) (v := .bool true) rfl rfl (by kernel_rfl) (by kernel_rfl) (by kernel_rfl) (fun _ _ _ h => h) (Or.inl ⟨by kernel_rfl, ?sc51h⟩) hHeld ?_
            case sc51h => (intro w hSw; (try dsimp only at hSw); go_split_ands; go_simp)
            try simp only [Act.put, List.setIfInBounds_toArray, List.set_cons_zero, List.set_cons_succ]
            refine take_d (i := 18) (d := 52) (v := .bool true) rfl rfl (by kernel_rfl) (by kernel_rfl) (by kernel_rfl) (fun _ _ _ h => h) (Or.inl ⟨by kernel_rfl, ?sc52h⟩) hHeld ?_
            case sc52h => (intro w hSw; (try dsimp only at hSw); go_split_ands; go_simp)
            try simp only [Act.put, List.setIfInBounds_toArray, List.set_cons_zero, List.set_cons_succ]
            refine take_d (i := 19) (d := 53) (v := .bool true) rfl rfl (by kernel_rfl) (by kernel_rfl) (by kernel_rfl) (fun _ _ _ h => h) (Or.inl ⟨by kernel_rfl, ?sc53h⟩) hHeld ?_
            case sc53h => (intro w hSw; (try dsimp only at hSw); go_split_ands; go_simp)
            try simp only [Act.put, List.setIfInBounds_toArray, List.set_cons_zero, List.set_cons_succ]
            refine take_d (i := 20) (d := 54) (v := ?sc54) rfl rfl (by kernel_rfl) (by kernel_rfl) (by kernel_rfl) (fun _ _ _ h => h) (Or.inl ⟨by kernel_rfl, ?sc54h⟩) hHeld ?sc54n
            case sc54h => (intro w hSw; (try dsimp only at hSw); go_split_ands; go_simp; (try exact rfl))
            try simp only [Act.put, List.setIfInBounds_toArray, List.set_cons_zero, List.set_cons_succ]
            refine take_d (i := 21) (d := 55) (v := ?sc55) rfl rfl (by kernel_rfl) (by kernel_rfl) (by kernel_rfl) (fun _ _ _ h => h) (Or.inl ⟨by kernel_rfl, ?sc55h⟩) hHeld ?sc55n
            case sc55h => (intro w hSw; (try dsimp only at hSw); go_split_ands; go_simp; (try exact rfl))
            try simp only [Act.put, List.setIfInBounds_toArray, List.set_cons_zero, List.set_cons_succ]
            refine take_d (i := 22) (d := 56) (v := ?sc56) rfl rfl (by kernel_rfl) (by kernel_rfl) (by kernel_rfl) (fun _ _ _ h => h) (Or.inl ⟨by kernel_rfl, ?sc56h⟩) hHeld ?sc56n
            case sc56h => (intro w hSw; (try dsimp only at hSw); go_split_ands; go_simp; (try exact rfl))
            try simp only [Act.put, List.setIfInBounds_toArray, List.set_cons_zero, List.set_cons_succ]
            refine take_d (i := 23) (d := 57) (v := ?sc57) rfl rfl (by kernel_rfl) (by kernel_rfl) (by kernel_rfl) (fun _ _ _ h => h) (Or.inl ⟨by kernel_rfl, ?sc57h⟩) hHeld ?sc57n
            case sc57h => (intro w hSw; (try dsimp only at hSw); go_split_ands; go_simp; (try exact rfl))
            try simp only [Act.put, List.setIfInBounds_toArray, List.set_cons_zero, List.set_cons_succ]
            refine take_d (i := 24) (d := 58) (v := ?sc58) rfl rfl (by kernel_rfl) (by kernel_rfl) (by kernel_rfl) (fun _ _ _ h => h) (Or.inl ⟨by kernel_rfl, ?sc58h⟩) hHeld ?sc58n
            case sc58h => (intro w hSw; (try dsimp only at hSw); go_split_ands; go_simp; (try exact rfl))
            try simp only [Act.put, List.setIfInBounds_toArray, List.set_cons_zero, List.set_cons_succ]
            refine wpAnyH_ready (rs := [25]) (by kernel_rfl) (by simp) ?_
            refine AllReadyH.cons rfl (fun K hK => ?_) AllReadyH.nil
            go_simp
            refine (left_any _ _ _ _ _ _ _ HX0.out.rd HX0.out.kn HX0.out.nm).mono ?_
            rintro e v2 ⟨rfl, mm, rfl⟩
            have hbb : Below v0.heap.size v0 (v0.drewN mm) := below_drewN (Below.refl _ _) mm
            have HX2 := Lib.hid (HX0.out.keep hbb)
            have HZ2 := Lib.hid (HZ0.out.below hbb HZ0.out.lt)
            have HB2 := Lib.hid (HB0.out.trans (hbb.mono HB0.out.size))
            clear hbb
            generalize v0.drewN mm = v2 at *
            refine hK.out _ _ (⟨HX2.out.bx.cell 0, (HX2.out.bx.cell 1).trans (by rw [HWR.out]; rfl), HX2.out.rng3⟩) (fun hHeld => ?_)
            clear hK K
            try simp only [Act.put, List.setIfInBounds_toArray, List.set_cons_zero, List.set_cons_succ]
            refine take_d (i := 26) (d := 60) (v := .bool true) rfl rfl (by kernel_rfl) (by kernel_rfl) (by kernel_rfl) (fun _ _ _ h => h) (Or.inl ⟨by kernel_rfl, ?sc60h⟩) hHeld ?_
            case sc60h => (intro w hSw; (try dsimp only at hSw); go_split_ands; go_simp)
            try simp only [Act.put, List.setIfInBounds_toArray, List.set_cons_zero, List.set_cons_succ]
            refine take_d (i := 27) (d := 61) (v := .bool true) rfl rfl (by kernel_rfl) (by kernel_rfl) (by kernel_rfl) (fun _ _ _ h => h) (Or.inl ⟨by kernel_rfl, ?sc61h⟩) hHeld ?_
            case sc61h => (intro w hSw; (try dsimp only at hSw); go_split_ands; go_simp)
            try simp only [Act.put, List.setIfInBounds_toArray, List.set_cons_zero, List.set_cons_succ]
            refine wpAnyH_ready (rs := [28]) (by kernel_rfl) (by simp) ?_
            refine AllReadyH.cons rfl (fun K hK => ?_) AllReadyH.nil
            refine wp_store_none rfl 31 _ _ rfl w.heap.size #[.int .i64 0, .int .i64 0, .int .i64 0, .int .u64 0, .int .u64 0, .int .u64 0, .slice none 0 0, .int .u64 0, .bool false, .slice none 0 0, .slice none 0 0] 31 [.int .i64 r6.m.kind, .int .i64 r6.m.fr, .int .i64 r6.m.to, .int .u64 r6.m.t, .int .u64 r6.m.pi, .int .u64 r6.m.pt, .slice eA en ec, .int .u64 r6.m.co, .bool r6.m.ok, .slice iA im ic, .slice dA dm dc] rfl rfl HZ2.out rfl Tryd.i31 (by simp [Value.oneCell']) ?_
            intro v9 hb9 ho9
            have QB9 := Lib.hid (HX2.out.only ho9 (by omega))
            have B9 := Lib.hid hb9
            have O9 := Lib.hid ho9
            refine hK.out _ _ ⟨QB9.out.cell 0, (QB9.out.cell 1).trans (by rw [HWR.out]; rfl), (fun j v hj => by rw [QB9.out.cell, Nat.add_comm 3 j]; simpa using hj)⟩ (fun hHeld => ?_)
            clear hK K hb9 ho9
            try simp only [Act.put, List.setIfInBounds_toArray, List.set_cons_zero, List.set_cons_succ]
            refine take_d (i := 29) (d := 3) (v := ?sc3) rfl rfl (by kernel_rfl) (by kernel_rfl) (by kernel_rfl) (fun _ _ _ h => h) (Or.inl ⟨by kernel_rfl, ?sc3h⟩) hHeld ?sc3n
            case sc3h => (intro w hSw; (try dsimp only at hSw); go_split_ands; go_simp; (try exact rfl))
            try simp only [Act.put, List.setIfInBounds_toArray, List.set_cons_zero, List.set_cons_succ]
            refine wpAnyH_done (by kernel_rfl) ?_ _
            refine NoPanic.normal ?_
            go_wp2
            refine bodyPost_ret (ret_cell_tmp rfl _ _ w.heap.size 31 _ _ rfl B9.out Tryd.underlying31 rfl Tryd.i31) rfl ⟨eA, en, ec, iA, im, ic, dA, dm, dc, by rw [HOK.out]; rfl, ?_, ?_, ?_, HB2.out.trans (O9.out.below (Nat.le_refl _))⟩
            · exact (Eo.only HX2.out.es HZ2.out (by decide) (by decide) O9.out).down (by omega)
            · exact World.ownsRow.down (World.ownsRow.only HX2.out.mem HZ2.out (by decide) O9.out) (by omega)
            · exact ⟨World.ownsRow.down (World.ownsRow.only HX2.out.da.1 HZ2.out (by decide) O9.out) (by omega), HX2.out.da.2⟩
          · have hk' : (((n : Int) - (k : Int)) == 0) = false := by have := KN.out; simp; omega
            have hl : (r6.s.l.length == 0) = false := by have := KN.out; rw [LL.out]; simp; omega
            rw [hl] at HOK
            clear hl hk
            refine wp_region_noPanic ?_
            refine wp_region_held_drew (S := fun w' => w'.cell? ⟨w.heap.size + 1 + 1, 0, none⟩ = some (.pointer (some ⟨w.heap.size + 1, 0, none⟩)) ∧ w'.cell? ⟨w.heap.size + 1 + 1, 1, none⟩ = some (.bool false) ∧ w'.rangeAt (w.heap.size + 1 + 1) 3 [.int .i64 r6.m.kind, .int .i64 r6.m.fr, .int .i64 r6.m.to, .int .u64 r6.m.t, .int .u64 r6.m.pi, .int .u64 r6.m.pt, .slice eA en ec, .int .u64 r6.m.co, .bool r6.m.ok, .slice iA im ic, .slice dA dm dc]) (by kernel_rfl) xS (fun hHeld => ?_)
            generalize wr.drew = v0 at *
            refine take_d (i := 0) (d := 34) (v := ?sd34) rfl rfl (by kernel_rfl) (by kernel_rfl) (by kernel_rfl) (fun _ _ _ h => h) (Or.inl ⟨by kernel_rfl, ?sd34h⟩) hHeld ?sd34n
            case sd34h => (intro w hSw; (try dsimp only at hSw); go_split_ands; go_simp; (try exact rfl))
            try simp only [Act.put, List.setIfInBounds_toArray, List.set_cons_zero, List.set_cons_succ]
            refine take_d (i := 1) (d := 35) (v := ?sd35) rfl rfl (by kernel_rfl) (by kernel_rfl) (by kernel_rfl) (fun _ _ _ h => h) (Or.inl ⟨by kernel_rfl, ?sd35h⟩) hHeld ?sd35n
            case sd35h => (intro w hSw; (try dsimp only at hSw); go_split_ands; go_simp; (try exact rfl))
            try simp only [Act.put, List.setIfInBounds_toArray, List.set_cons_zero, List.set_cons_succ]
            refine take_d (i := 2) (d := 36) (v := ?sd36) rfl rfl (by kernel_rfl) (by kernel_rfl) (by kernel_rfl) (fun _ _ _ h => h) (Or.inl ⟨by kernel_rfl, ?sd36h⟩) hHeld ?sd36n
            case sd36h => (intro w hSw; (try dsimp only at hSw); go_split_ands; go_simp; (try exact rfl))
            try simp only [Act.put, List.setIfInBounds_toArray, List.set_cons_zero, List.set_cons_succ]
            refine take_d (i := 3) (d := 37) (v := .agg ([.int .i64 r6.m.kind, .int .i64 r6.m.fr, .int .i64 r6.m.to, .int .u64 r6.m.t, .int .u64 r6.m.pi, .int .u64 r6.m.pt, .slice eA en ec, .int .u64 r6.m.co, .bool r6.m.ok, .slice iA im ic, .slice dA dm dc] : List Value).toArray) rfl rfl (by kernel_rfl) (by kernel_rfl) (by kernel_rfl) (fun _ _ _ h => h) (yieldsIf_load_mid (by rfl) _ _ rfl _ _ rfl [.int .i64 r6.m.kind, .int .i64 r6.m.fr, .int .i64 r6.m.to, .int .u64 r6.m.t, .int .u64 r6.m.pi, .int .u64 r6.m.pt, .slice eA en ec, .int .u64 r6.m.co, .bool r6.m.ok, .slice iA im ic, .slice dA dm dc] _ (fun w h => h.2.2) Tryd.underlying31 rfl Tryd.i31) hHeld ?_
            try simp only [Act.put, List.setIfInBounds_toArray, List.set_cons_zero, List.set_cons_succ]
            refine take_d (i := 4) (d := 38) (v := ?sd38) rfl rfl (by kernel_rfl) (by kernel_rfl) (by kernel_rfl) (fun _ _ _ h => h) (Or.inl ⟨by kernel_rfl, ?sd38h⟩) hHeld ?sd38n
            case sd38h => (intro w hSw; (try dsimp only at hSw); go_split_ands; go_simp; (try exact rfl))
            try simp only [Act.put, List.setIfInBounds_toArray, List.set_cons_zero, List.set_cons_succ]
            refine take_d (i := 5) (d := 39) (v := ?sd39) rfl rfl (by kernel_rfl) (by kernel_rfl) (by kernel_rfl) (fun _ _ _ h => h) (Or.inl ⟨by kernel_rfl, ?sd39h⟩) hHeld ?sd39n
            case sd39h => (intro w hSw; (try dsimp only at hSw); go_split_ands; go_simp; (try exact rfl))
            try simp only [Act.put, List.setIfInBounds_toArray, List.set_cons_zero, List.set_cons_succ]
            refine take_d (i := 6) (d := 40) (v := ?sd40) rfl rfl (by kernel_rfl) (by kernel_rfl) (by kernel_rfl) (fun _ _ _ h => h) (Or.inl ⟨by kernel_rfl, ?sd40h⟩) hHeld ?sd40n
            case sd40h => (intro w hSw; (try dsimp only at hSw); go_split_ands; go_simp; (try exact rfl))
            try simp only [Act.put, List.setIfInBounds_toArray, List.set_cons_zero, List.set_cons_succ]
            refine take_d (i := 7) (d := 41) (v := ?sd41) rfl rfl (by kernel_rfl) (by kernel_rfl) (by kernel_rfl) (fun _ _ _ h => h) (Or.inl ⟨by kernel_rfl, ?sd41h⟩) hHeld ?sd41n
            case sd41h => (intro w hSw; (try dsimp only at hSw); go_split_ands; go_simp; (try exact rfl))
            try simp only [Act.put, List.setIfInBounds_toArray, List.set_cons_zero, List.set_cons_succ]
            refine take_d (i := 8) (d := 42) (v := .bool false) rfl rfl (by kernel_rfl) (by kernel_rfl) (by kernel_rfl) (fun _ _ _ h => h) (Or.inl ⟨by kernel_rfl, ?sd42h⟩) hHeld ?_
            case sd42h => (intro w hSw; (try dsimp only at hSw); go_split_ands; go_simp)
            try simp only [Act.put, List.setIfInBounds_toArray, List.set_cons_zero, List.set_cons_succ]
            refine take_d (i := 9) (d := 43) (v := .bool true) rfl rfl (by kernel_rfl) (by kernel_rfl) (by kernel_rfl) (fun _ _ _ h => h) (Or.inl ⟨by kernel_rfl, ?sd43h⟩) hHeld ?_
            case sd43h => (intro w hSw; (try dsimp only at hSw); go_split_ands; go_simp)
            try simp only [Act.put, List.setIfInBounds_toArray, List.set_cons_zero, List.set_cons_succ]
            refine take_d (i := 10) (d := 44) (v := .bool true) rfl rfl (by kernel_rfl) (by kernel_rfl) (by kernel_rfl) (fun _ _ _ h => h) (Or.inl ⟨by kernel_rfl, ?sd44h⟩) hHeld ?_
            case sd44h => (intro w hSw; (try dsimp only at hSw); go_split_ands; go_simp)
            try simp only [Act.put, List.setIfInBounds_toArray, List.set_cons_zero, List.set_cons_succ]
            refine take_d (i := 11) (d := 45) (v := ?sd45) rfl rfl (by kernel_rfl) (by kernel_rfl) (by kernel_rfl) (fun _ _ _ h => h) (Or.inl ⟨by kernel_rfl, ?sd45h⟩) hHeld ?sd45n
            case sd45h => (intro w hSw; (try dsimp only at hSw); go_split_ands; go_simp; (try exact rfl))
            try simp only [Act.put, List.setIfInBounds_toArray, List.set_cons_zero, List.set_cons_succ]
            refine take_d (i := 12) (d := 46) (v := ?sd46) rfl rfl (by kernel_rfl) (by kernel_rfl) (by kernel_rfl) (fun _ _ _ h => h) (Or.inl ⟨by kernel_rfl, ?sd46h⟩) hHeld ?sd46n
            case sd46h => (intro w hSw; (try dsimp only at hSw); go_split_ands; go_simp; (try exact rfl))
            try simp only [Act.put, List.setIfInBounds_toArray, List.set_cons_zero, List.set_cons_succ]
            refine take_d (i := 13) (d := 47) (v := ?sd47) rfl rfl (by kernel_rfl) (by kernel_rfl) (by kernel_rfl) (fun _ _ _ h => h) (Or.inl ⟨by kernel_rfl, ?sd47h⟩) hHeld ?sd47n
            case sd47h => (intro w hSw; (try dsimp only at hSw); go_split_ands; go_simp; (try exact rfl))
            try simp only [Act.put, List.setIfInBounds_toArray, List.set_cons_zero, List.set_cons_succ]
            refine take_d (i := 14) (d := 48) (v := ?sd48) rfl rfl (by kernel_rfl) (by kernel_rfl) (by kernel_rfl) (fun _ _ _ h => h) (Or.inl ⟨by kernel_rfl, ?sd48h⟩) hHeld ?sd48n
            case sd48h => (intro w hSw; (try dsimp only at hSw); go_split_ands; go_simp; (try exact rfl))
            try simp only [Act.put, List.setIfInBounds_toArray, List.set_cons_zero, List.set_cons_succ]
            refine take_d (i := 15) (d := 49) (v := ?sd49) rfl rfl (by kernel_rfl) (by kernel_rfl) (by kernel_rfl) (fun _ _ _ h => h) (Or.inl ⟨by kernel_rfl, ?sd49h⟩) hHeld ?sd49n
            case sd49h => (intro w hSw; (try dsimp only at hSw); go_split_ands; go_simp; (try exact rfl))
            try simp only [Act.put, List.setIfInBounds_toArray, List.set_cons_zero, List.set_cons_succ]
            refine wpAnyH_ready (rs := [16]) (by kernel_rfl) (by simp) ?_
            refine AllReadyH.cons rfl (fun K hK => ?_) AllReadyH.nil
            go_simp
            refine (err_any _ _ _ _ _ _ _ HX0.out.rd).mono ?_
            rintro e v1 ⟨rfl, rfl⟩
            refine hK.out _ _ (⟨HX0.out.bx.cell 0, (HX0.out.bx.cell 1).trans (by rw [HWR.out]; rfl), HX0.out.rng3⟩) (fun hHeld => ?_)
            clear hK K
            try simp only [Act.put, List.setIfInBounds_toArray, List.set_cons_zero, List.set_cons_succ]
            refine take_d (i := 17) (d := 51) (v := .bool true) rfl rfl (by kernel_rfl) (by kernel_rfl) (by kernel_rfl) (fun _ _ _ h => h) (Or.inl ⟨by kernel_rfl, ?sd51h⟩) hHeld ?_
            case sd51h => (intro w hSw; (try dsimp only at hSw); go_split_ands; go_simp)
            try simp only [Act.put, List.setIfInBounds_toArray, List.set_cons_zero, List.set_cons_succ]
            refine take_d (i := 18) (d := 52) (v := .bool true) rfl rfl (by kernel_rfl) (by kernel_rfl) (by kernel_rfl) (fun _ _ _ h => h) (Or.inl ⟨by kernel_rfl, ?sd52h⟩) hHeld ?_
            case sd52h => (intro w hSw; (try dsimp only at hSw); go_split_ands; go_simp)
            try simp only [Act.put, List.setIfInBounds_toArray, List.set_cons_zero, List.set_cons_succ]
            refine take_d (i := 19) (d := 53) (v := .bool true) rfl rfl (by kernel_rfl) (by kernel_rfl) (by kernel_rfl) (fun _ _ _ h => h) (Or.inl ⟨by kernel_rfl, ?sd53h⟩) hHeld ?_
            case sd53h => (intro w hSw; (try dsimp only at hSw); go_split_ands; go_simp)
            try simp only [Act.put, List.setIfInBounds_toArray, List.set_cons_zero, List.set_cons_succ]
            refine take_d (i := 20) (d := 54) (v := ?sd54) rfl rfl (by kernel_rfl) (by kernel_rfl) (by kernel_rfl) (fun _ _ _ h => h) (Or.inl ⟨by kernel_rfl, ?sd54h⟩) hHeld ?sd54n
            case sd54h => (intro w hSw; (try dsimp only at hSw); go_split_ands; go_simp; (try exact rfl))
            try simp only [Act.put, List.setIfInBounds_toArray, List.set_cons_zero, List.set_cons_succ]
            refine take_d (i := 21) (d := 55) (v := ?sd55) rfl rfl (by kernel_rfl) (by kernel_rfl) (by kernel_rfl) (fun _ _ _ h => h) (Or.inl ⟨by kernel_rfl, ?sd55h⟩) hHeld ?sd55n
            case sd55h => (intro w hSw; (try dsimp only at hSw); go_split_ands; go_simp; (try exact rfl))
            try simp only [Act.put, List.setIfInBounds_toArray, List.set_cons_zero, List.set_cons_succ]
            refine take_d (i := 22) (d := 56) (v := ?sd56) rfl rfl (by kernel_rfl) (by kernel_rfl) (by kernel_rfl) (fun _ _ _ h => h) (Or.inl ⟨by kernel_rfl, ?sd56h⟩) hHeld ?sd56n
            case sd56h => (intro w hSw; (try dsimp only at hSw); go_split_ands; go_simp; (try exact rfl))
            try simp only [Act.put, List.setIfInBounds_toArray, List.set_cons_zero, List.set_cons_succ]
            refine take_d (i := 23) (d := 57) (v := ?sd57) rfl rfl (by kernel_rfl) (by kernel_rfl) (by kernel_rfl) (fun _ _ _ h => h) (Or.inl ⟨by kernel_rfl, ?sd57h⟩) hHeld ?sd57n
            case sd57h => (intro w hSw; (try dsimp only at hSw); go_split_ands; go_simp; (try exact rfl))
            try simp only [Act.put, List.setIfInBounds_toArray, List.set_cons_zero, List.set_cons_succ]
            refine take_d (i := 24) (d := 58) (v := ?sd58) rfl rfl (by kernel_rfl) (by kernel_rfl) (by kernel_rfl) (fun _ _ _ h => h) (Or.inl ⟨by kernel_rfl, ?sd58h⟩) hHeld ?sd58n
            case sd58h => (intro w hSw; (try dsimp only at hSw); go_split_ands; go_simp; (try exact rfl))
            try simp only [Act.put, List.setIfInBounds_toArray, List.set_cons_zero, List.set_cons_succ]
            refine wpAnyH_ready (rs := [25]) (by kernel_rfl) (by simp) ?_
            refine AllReadyH.cons rfl (fun K hK => ?_) AllReadyH.nil
            go_simp
            refine (left_any _ _ _ _ _ _ _ HX0.out.rd HX0.out.kn HX0.out.nm).mono ?_
            rintro e v2 ⟨rfl, mm, rfl⟩
            have hbb : Below v0.heap.size v0 (v0.drewN mm) := below_drewN (Below.refl _ _) mm
            have HX2 := Lib.hid (HX0.out.keep hbb)
            have HZ2 := Lib.hid (HZ0.out.below hbb HZ0.out.lt)
            have HB2 := Lib.hid (HB0.out.trans (hbb.mono HB0.out.size))
            clear hbb
            generalize v0.drewN mm = v2 at *
            refine hK.out _ _ (⟨HX2.out.bx.cell 0, (HX2.out.bx.cell 1).trans (by rw [HWR.out]; rfl), HX2.out.rng3⟩) (fun hHeld => ?_)
            clear hK K
            try simp only [Act.put, List.setIfInBounds_toArray, List.set_cons_zero, List.set_cons_succ]
            refine take_d (i := 26) (d := 60) (v := .bool false) rfl rfl (by kernel_rfl) (by kernel_rfl) (by kernel_rfl) (fun _ _ _ h => h) (Or.inl ⟨by kernel_rfl, ?sd60h⟩) hHeld ?_
            case sd60h => (intro w hSw; (try dsimp only at hSw); go_split_ands; go_simp)
            try simp only [Act.put, List.setIfInBounds_toArray, List.set_cons_zero, List.set_cons_succ]
            refine take_d (i := 27) (d := 61) (v := .bool false) rfl rfl (by kernel_rfl) (by kernel_rfl) (by kernel_rfl) (fun _ _ _ h => h) (Or.inl ⟨by kernel_rfl, ?sd61h⟩) hHeld ?_
            case sd61h => (intro w hSw; (try dsimp only at hSw); go_split_ands; go_simp)
            try simp only [Act.put, List.setIfInBounds_toArray, List.set_cons_zero, List.set_cons_succ]
            refine wpAnyH_ready (rs := [28]) (by kernel_rfl) (by simp) ?_
            refine AllReadyH.cons rfl (fun K hK => ?_) AllReadyH.nil
            refine wp_store_none rfl 31 _ _ rfl w.heap.size #[.int .i64 0, .int .i64 0, .int .i64 0, .int .u64 0, .int .u64 0, .int .u64 0, .slice none 0 0, .int .u64 0, .bool false, .slice none 0 0, .slice none 0 0] 31 [.int .i64 r6.m.kind, .int .i64 r6.m.fr, .int .i64 r6.m.to, .int .u64 r6.m.t, .int .u64 r6.m.pi, .int .u64 r6.m.pt, .slice eA en ec, .int .u64 r6.m.co, .bool r6.m.ok, .slice iA im ic, .slice dA dm dc] rfl rfl HZ2.out rfl Tryd.i31 (by simp [Value.oneCell']) ?_
            intro v9 hb9 ho9
            have QB9 := Lib.hid (HX2.out.only ho9 (by omega))
            have B9 := Lib.hid hb9
            have O9 := Lib.hid ho9
            refine hK.out _ _ ⟨QB9.out.cell 0, (QB9.out.cell 1).trans (by rw [HWR.out]; rfl), (fun j v hj => by rw [QB9.out.cell, Nat.add_comm 3 j]; simpa using hj)⟩ (fun hHeld => ?_)
            clear hK K hb9 ho9
            try simp only [Act.put, List.setIfInBounds_toArray, List.set_cons_zero, List.set_cons_succ]
            refine take_d (i := 29) (d := 3) (v := ?sd3) rfl rfl (by kernel_rfl) (by kernel_rfl) (by kernel_rfl) (fun _ _ _ h => h) (Or.inl ⟨by kernel_rfl, ?sd3h⟩) hHeld ?sd3n
            case sd3h => (intro w hSw; (try dsimp only at hSw); go_split_ands; go_simp; (try exact rfl))
            try simp only [Act.put, List.setIfInBounds_toArray, List.set_cons_zero, List.set_cons_succ]
            refine wpAnyH_done (by kernel_rfl) ?_ _
            refine NoPanic.normal ?_
            go_wp2
            refine bodyPost_ret (ret_cell_tmp rfl _ _ w.heap.size 31 _ _ rfl B9.out Tryd.underlying31 rfl Tryd.i31) rfl ⟨eA, en, ec, iA, im, ic, dA, dm, dc, by rw [HOK.out]; rfl, ?_, ?_, ?_, HB2.out.trans (O9.out.below (Nat.le_refl _))⟩
            · exact (Eo.only HX2.out.es HZ2.out (by decide) (by decide) O9.out).down (by omega)
            · exact World.ownsRow.down (World.ownsRow.only HX2.out.mem HZ2.out (by decide) O9.out) (by omega)
            · exact ⟨World.ownsRow.down (World.ownsRow.only HX2.out.da.1 HZ2.out (by decide) O9.out) (by omega), HX2.out.da.2⟩
        · have he' : (r6.s.e == 0) = false := by simp [he]
          rw [he'] at HOK
          clear he
          refine wp_region_noPanic ?_
          refine wp_region_held_drew (S := fun w' => w'.cell? ⟨w.heap.size + 1 + 1, 0, none⟩ = some (.pointer (some ⟨w.heap.size + 1, 0, none⟩)) ∧ w'.cell? ⟨w.heap.size + 1 + 1, 1, none⟩ = some (.bool false) ∧ w'.rangeAt (w.heap.size + 1 + 1) 3 [.int .i64 r6.m.kind, .int .i64 r6.m.fr, .int .i64 r6.m.to, .int .u64 r6.m.t, .int .u64 r6.m.pi, .int .u64 r6.m.pt, .slice eA en ec, .int .u64 r6.m.co, .bool r6.m.ok, .slice iA im ic, .slice dA dm dc]) (by kernel_rfl) xS (fun hHeld => ?_)
          generalize wr.drew = v0 at *
          refine take_d (i := 0) (d := 34) (v := ?sb34) rfl rfl (by kernel_rfl) (by kernel_rfl) (by kernel_rfl) (fun _ _ _ h => h) (Or.inl ⟨by kernel_rfl, ?sb34h⟩) hHeld ?sb34n
          case sb34h => (intro w hSw; (try dsimp only at hSw); go_split_ands; go_simp; (try exact rfl))
          try simp only [Act.put, List.setIfInBounds_toArray, List.set_cons_zero, List.set_cons_succ]
          refine take_d (i := 1) (d := 35) (v := ?sb35) rfl rfl (by kernel_rfl) (by kernel_rfl) (by kernel_rfl) (fun _ _ _ h => h) (Or.inl ⟨by kernel_rfl, ?sb35h⟩) hHeld ?sb35n
          case sb35h => (intro w hSw; (try dsimp only at hSw); go_split_ands; go_simp; (try exact rfl))
          try simp only [Act.put, List.setIfInBounds_toArray, List.set_cons_zero, List.set_cons_succ]
          refine take_d (i := 2) (d := 36) (v := ?sb36) rfl rfl (by kernel_rfl) (by kernel_rfl) (by kernel_rfl) (fun _ _ _ h => h) (Or.inl ⟨by kernel_rfl, ?sb36h⟩) hHeld ?sb36n
          case sb36h => (intro w hSw; (try dsimp only at hSw); go_split_ands; go_simp; (try exact rfl))
          try simp only [Act.put, List.setIfInBounds_toArray, List.set_cons_zero, List.set_cons_succ]
          refine take_d (i := 3) (d := 37) (v := .agg ([.int .i64 r6.m.kind, .int .i64 r6.m.fr, .int .i64 r6.m.to, .int .u64 r6.m.t, .int .u64 r6.m.pi, .int .u64 r6.m.pt, .slice eA en ec, .int .u64 r6.m.co, .bool r6.m.ok, .slice iA im ic, .slice dA dm dc] : List Value).toArray) rfl rfl (by kernel_rfl) (by kernel_rfl) (by kernel_rfl) (fun _ _ _ h => h) (yieldsIf_load_mid (by rfl) _ _ rfl _ _ rfl [.int .i64 r6.m.kind, .int .i64 r6.m.fr, .int .i64 r6.m.to, .int .u64 r6.m.t, .int .u64 r6.m.pi, .int .u64 r6.m.pt, .slice eA en ec, .int .u64 r6.m.co, .bool r6.m.ok, .slice iA im ic, .slice dA dm dc] _ (fun w h => h.2.2) Tryd.underlying31 rfl Tryd.i31) hHeld ?_
          try simp only [Act.put, List.setIfInBounds_toArray, List.set_cons_zero, List.set_cons_succ]
          refine take_d (i := 4) (d := 38) (v := ?sb38) rfl rfl (by kernel_rfl) (by kernel_rfl) (by kernel_rfl) (fun _ _ _ h => h) (Or.inl ⟨by kernel_rfl, ?sb38h⟩) hHeld ?sb38n
          case sb38h => (intro w hSw; (try dsimp only at hSw); go_split_ands; go_simp; (try exact rfl))
          try simp only [Act.put, List.setIfInBounds_toArray, List.set_cons_zero, List.set_cons_succ]
          refine take_d (i := 5) (d := 39) (v := ?sb39) rfl rfl (by kernel_rfl) (by kernel_rfl) (by kernel_rfl) (fun _ _ _ h => h) (Or.inl ⟨by kernel_rfl, ?sb39h⟩) hHeld ?sb39n
          case sb39h => (intro w hSw; (try dsimp only at hSw); go_split_ands; go_simp; (try exact rfl))
          try simp only [Act.put, List.setIfInBounds_toArray, List.set_cons_zero, List.set_cons_succ]
          refine take_d (i := 6) (d := 40) (v := ?sb40) rfl rfl (by kernel_rfl) (by kernel_rfl) (by kernel_rfl) (fun _ _ _ h => h) (Or.inl ⟨by kernel_rfl, ?sb40h⟩) hHeld ?sb40n
          case sb40h => (intro w hSw; (try dsimp only at hSw); go_split_ands; go_simp; (try exact rfl))
          try simp only [Act.put, List.setIfInBounds_toArray, List.set_cons_zero, List.set_cons_succ]
          refine take_d (i := 7) (d := 41) (v := ?sb41) rfl rfl (by kernel_rfl) (by kernel_rfl) (by kernel_rfl) (fun _ _ _ h => h) (Or.inl ⟨by kernel_rfl, ?sb41h⟩) hHeld ?sb41n
          case sb41h => (intro w hSw; (try dsimp only at hSw); go_split_ands; go_simp; (try exact rfl))
          try simp only [Act.put, List.setIfInBounds_toArray, List.set_cons_zero, List.set_cons_succ]
          refine take_d (i := 8) (d := 42) (v := .bool false) rfl rfl (by kernel_rfl) (by kernel_rfl) (by kernel_rfl) (fun _ _ _ h => h) (Or.inl ⟨by kernel_rfl, ?sb42h⟩) hHeld ?_
          case sb42h => (intro w hSw; (try dsimp only at hSw); go_split_ands; go_simp)
          try simp only [Act.put, List.setIfInBounds_toArray, List.set_cons_zero, List.set_cons_succ]
          refine take_d (i := 9) (d := 43) (v := .bool true) rfl rfl (by kernel_rfl) (by kernel_rfl) (by kernel_rfl) (fun _ _ _ h => h) (Or.inl ⟨by kernel_rfl, ?sb43h⟩) hHeld ?_
          case sb43h => (intro w hSw; (try dsimp only at hSw); go_split_ands; go_simp)
          try simp only [Act.put, List.setIfInBounds_toArray, List.set_cons_zero, List.set_cons_succ]
          refine take_d (i := 10) (d := 44) (v := .bool true) rfl rfl (by kernel_rfl) (by kernel_rfl) (by kernel_rfl) (fun _ _ _ h => h) (Or.inl ⟨by kernel_rfl, ?sb44h⟩) hHeld ?_
          case sb44h => (intro w hSw; (try dsimp only at hSw); go_split_ands; go_simp)
          try simp only [Act.put, List.setIfInBounds_toArray, List.set_cons_zero, List.set_cons_succ]
          refine take_d (i := 11) (d := 45) (v := ?sb45) rfl rfl (by kernel_rfl) (by kernel_rfl) (by kernel_rfl) (fun _ _ _ h => h) (Or.inl ⟨by kernel_rfl, ?sb45h⟩) hHeld ?sb45n
          case sb45h => (intro w hSw; (try dsimp only at hSw); go_split_ands; go_simp; (try exact rfl))
          try simp only [Act.put, List.setIfInBounds_toArray, List.set_cons_zero, List.set_cons_succ]
          refine take_d (i := 12) (d := 46) (v := ?sb46) rfl rfl (by kernel_rfl) (by kernel_rfl) (by kernel_rfl) (fun _ _ _ h => h) (Or.inl ⟨by kernel_rfl, ?sb46h⟩) hHeld ?sb46n
          case sb46h => (intro w hSw; (try dsimp only at hSw); go_split_ands; go_simp; (try exact rfl))
          try simp only [Act.put, List.setIfInBounds_toArray, List.set_cons_zero, List.set_cons_succ]
          refine take_d (i := 13) (d := 47) (v := ?sb47) rfl rfl (by kernel_rfl) (by kernel_rfl) (by kernel_rfl) (fun _ _ _ h => h) (Or.inl ⟨by kernel_rfl, ?sb47h⟩) hHeld ?sb47n
          case sb47h => (intro w hSw; (try dsimp only at hSw); go_split_ands; go_simp; (try exact rfl))
          try simp only [Act.put, List.setIfInBounds_toArray, List.set_cons_zero, List.set_cons_succ]
          refine take_d (i := 14) (d := 48) (v := ?sb48) rfl rfl (by kernel_rfl) (by kernel_rfl) (by kernel_rfl) (fun _ _ _ h => h) (Or.inl ⟨by kernel_rfl, ?sb48h⟩) hHeld ?sb48n
          case sb48h => (intro w hSw; (try dsimp only at hSw); go_split_ands; go_simp; (try exact rfl))
          try simp only [Act.put, List.setIfInBounds_toArray, List.set_cons_zero, List.set_cons_succ]
          refine take_d (i := 15) (d := 49) (v := ?sb49) rfl rfl (by kernel_rfl) (by kernel_rfl) (by kernel_rfl) (fun _ _ _ h => h) (Or.inl ⟨by kernel_rfl, ?sb49h⟩) hHeld ?sb49n
          case sb49h => (intro w hSw; (try dsimp only at hSw); go_split_ands; go_simp; (try exact rfl))
          try simp only [Act.put, List.setIfInBounds_toArray, List.set_cons_zero, List.set_cons_succ]
          refine wpAnyH_ready (rs := [16]) (by kernel_rfl) (by simp) ?_
          refine AllReadyH.cons rfl (fun K hK => ?_) AllReadyH.nil
          go_simp
          refine (err_any _ _ _ _ _ _ _ HX0.out.rd).mono ?_
          rintro e v1 ⟨rfl, rfl⟩
          refine hK.out _ _ (⟨HX0.out.bx.cell 0, (HX0.out.bx.cell 1).trans (by rw [HWR.out]; rfl), HX0.out.rng3⟩) (fun hHeld => ?_)
          clear hK K
          try simp only [Act.put, List.setIfInBounds_toArray, List.set_cons_zero, List.set_cons_succ]
          refine take_d (i := 17) (d := 51) (v := .bool false) rfl rfl (by kernel_rfl) (by kernel_rfl) (by kernel_rfl) (fun _ _ _ h => h) (Or.inl ⟨by kernel_rfl, ?sb51h⟩) hHeld ?_
          case sb51h => (intro w hSw; (try dsimp only at hSw); go_split_ands; go_simp)
          try simp only [Act.put, List.setIfInBounds_toArray, List.set_cons_zero, List.set_cons_succ]
          refine take_d (i := 18) (d := 52) (v := .bool false) rfl rfl (by kernel_rfl) (by kernel_rfl) (by kernel_rfl) (fun _ _ _ h => h) (Or.inl ⟨by kernel_rfl, ?sb52h⟩) hHeld ?_
          case sb52h => (intro w hSw; (try dsimp only at hSw); go_split_ands; go_simp)
          try simp only [Act.put, List.setIfInBounds_toArray, List.set_cons_zero, List.set_cons_succ]
          refine take_d (i := 19) (d := 53) (v := .bool false) rfl rfl (by kernel_rfl) (by kernel_rfl) (by kernel_rfl) (fun _ _ _ h => h) (Or.inl ⟨by kernel_rfl, ?sb53h⟩) hHeld ?_
          case sb53h => (intro w hSw; (try dsimp only at hSw); go_split_ands; go_simp)
          try simp only [Act.put, List.setIfInBounds_toArray, List.set_cons_zero, List.set_cons_succ]
          refine take_d (i := 20) (d := 54) (v := undef) rfl rfl (by kernel_rfl) (by kernel_rfl) (by kernel_rfl) (fun _ _ _ h => h) (Or.inr ⟨by kernel_rfl, rfl⟩) hHeld ?_
          try simp only [Act.put, List.setIfInBounds_toArray, List.set_cons_zero, List.set_cons_succ]
          refine take_d (i := 21) (d := 55) (v := undef) rfl rfl (by kernel_rfl) (by kernel_rfl) (by kernel_rfl) (fun _ _ _ h => h) (Or.inr ⟨by kernel_rfl, rfl⟩) hHeld ?_
          try simp only [Act.put, List.setIfInBounds_toArray, List.set_cons_zero, List.set_cons_succ]
          refine take_d (i := 22) (d := 56) (v := undef) rfl rfl (by kernel_rfl) (by kernel_rfl) (by kernel_rfl) (fun _ _ _ h => h) (Or.inr ⟨by kernel_rfl, rfl⟩) hHeld ?_
          try simp only [Act.put, List.setIfInBounds_toArray, List.set_cons_zero, List.set_cons_succ]
          refine take_d (i := 23) (d := 57) (v := undef) rfl rfl (by kernel_rfl) (by kernel_rfl) (by kernel_rfl) (fun _ _ _ h => h) (Or.inr ⟨by kernel_rfl, rfl⟩) hHeld ?_
          try simp only [Act.put, List.setIfInBounds_toArray, List.set_cons_zero, List.set_cons_succ]
          refine take_d (i := 24) (d := 58) (v := undef) rfl rfl (by kernel_rfl) (by kernel_rfl) (by kernel_rfl) (fun _ _ _ h => h) (Or.inr ⟨by kernel_rfl, rfl⟩) hHeld ?_
          try simp only [Act.put, List.setIfInBounds_toArray, List.set_cons_zero, List.set_cons_succ]
          refine take_d (i := 25) (d := 59) (v := undef) rfl rfl (by kernel_rfl) (by kernel_rfl) (by kernel_rfl) (fun _ _ _ h => h) (Or.inr ⟨by kernel_rfl, rfl⟩) hHeld ?_
          try simp only [Act.put, List.setIfInBounds_toArray, List.set_cons_zero, List.set_cons_succ]
          refine take_d (i := 26) (d := 60) (v := undef) rfl rfl (by kernel_rfl) (by kernel_rfl) (by kernel_rfl) (fun _ _ _ h => h) (Or.inr ⟨by kernel_rfl, rfl⟩) hHeld ?_
          try simp only [Act.put, List.setIfInBounds_toArray, List.set_cons_zero, List.set_cons_succ]
          refine take_d (i := 27) (d := 61) (v := .bool false) rfl rfl (by kernel_rfl) (by kernel_rfl) (by kernel_rfl) (fun _ _ _ h => h) (Or.inl ⟨by kernel_rfl, ?sb61h⟩) hHeld ?_
          case sb61h => (intro w hSw; (try dsimp only at hSw); go_split_ands; go_simp)
          try simp only [Act.put, List.setIfInBounds_toArray, List.set_cons_zero, List.set_cons_succ]
          refine wpAnyH_ready (rs := [28]) (by kernel_rfl) (by simp) ?_
          refine AllReadyH.cons rfl (fun K hK => ?_) AllReadyH.nil
          refine wp_store_none rfl 31 _ _ rfl w.heap.size #[.int .i64 0, .int .i64 0, .int .i64 0, .int .u64 0, .int .u64 0, .int .u64 0, .slice none 0 0, .int .u64 0, .bool false, .slice none 0 0, .slice none 0 0] 31 [.int .i64 r6.m.kind, .int .i64 r6.m.fr, .int .i64 r6.m.to, .int .u64 r6.m.t, .int .u64 r6.m.pi, .int .u64 r6.m.pt, .slice eA en ec, .int .u64 r6.m.co, .bool r6.m.ok, .slice iA im ic, .slice dA dm dc] rfl rfl HZ0.out rfl Tryd.i31 (by simp [Value.oneCell']) ?_
          intro v9 hb9 ho9
          have QB9 := Lib.hid (HX0.out.only ho9 (by omega))
          have B9 := Lib.hid hb9
          have O9 := Lib.hid ho9
          refine hK.out _ _ ⟨QB9.out.cell 0, (QB9.out.cell 1).trans (by rw [HWR.out]; rfl), (fun j v hj => by rw [QB9.out.cell, Nat.add_comm 3 j]; simpa using hj)⟩ (fun hHeld => ?_)
          clear hK K hb9 ho9
          try simp only [Act.put, List.setIfInBounds_toArray, List.set_cons_zero, List.set_cons_succ]
          refine take_d (i := 29) (d := 3) (v := ?sb3) rfl rfl (by kernel_rfl) (by kernel_rfl) (by kernel_rfl) (fun _ _ _ h => h) (Or.inl ⟨by kernel_rfl, ?sb3h⟩) hHeld ?sb3n
          case sb3h => (intro w hSw; (try dsimp only at hSw); go_split_ands; go_simp; (try exact rfl))
          try simp only [Act.put, List.setIfInBounds_toArray, List.set_cons_zero, List.set_cons_succ]
          refine wpAnyH_done (by kernel_rfl) ?_ _
          refine NoPanic.normal ?_
          go_wp2
          refine bodyPost_ret (ret_cell_tmp rfl _ _ w.heap.size 31 _ _ rfl B9.out Tryd.underlying31 rfl Tryd.i31) rfl ⟨eA, en, ec, iA, im, ic, dA, dm, dc, by rw [HOK.out]; rfl, ?_, ?_, ?_, HB0.out.trans (O9.out.below (Nat.le_refl _))⟩
          · exact (Eo.only HX0.out.es HZ0.out (by decide) (by decide) O9.out).down (by omega)
          · exact World.ownsRow.down (World.ownsRow.only HX0.out.mem HZ0.out (by decide) O9.out) (by omega)
          · exact ⟨World.ownsRow.down (World.ownsRow.only HX0.out.da.1 HZ0.out (by decide) O9.out) (by omega), HX0.out.da.2⟩

end Go.Proofs.YtemfnckaehjhcaaDoor
