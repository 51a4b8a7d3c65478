/-
  The document's Plain, Sealed, Bytes.
-/
import Derived.Test.YtemfnckaehjhcaaDoorFG3
import Derived.Test.YtemfnckaehjhcaaDoorBkU1
import Derived.Test.YtemfnckaehjhcaaDoorFE
namespace Go.Proofs.YtemfnckaehjhcaaDoor
open Go.RowKit
attribute [local go_sem ↓] eqA neA eqGA field1

/-- Which fields count of a kind. -/
def bitsK (k : Int) : List Nat := if k = 1 then [1] else if k = 2 then [0] else if k = 3 then [1, 2, 3] else if k = 4 then [0, 1] else if k = 5 then [1, 4, 5] else []
theorem bits_lt (k : Int) : ∀ i ∈ bitsK k, i < 6 := by
  unfold bitsK
  repeat' split
  all_goals decide
theorem bits_str (k : Int) : (fstB k).data.toList.map (fun b => (b.toNat : Int)) = (bitsK k).map ltr := by
  unfold fstB bitsK
  repeat' split
  all_goals decide
theorem bits_plain {m : Ms} (h : rightM m = true) : plainB m = headB m ++ (bitsK m.kind).flatMap (fldB m) := by
  have hr := rightM_R h
  unfold plainB
  congr 1
  unfold fldsB fldsB fldsB fldsB fldsB fldsB fldsB bitsK
  rcases hr.k with e | e | e | e | e <;> rw [e] <;> simp [cntg]
theorem beh_d : ∀ (es : List En) (t : Int), behind t es = true → ∀ e ∈ es, e.d.length ≤ 1024
  | [], _, _, e, he => by cases he
  | x :: r, t, h, e, he => by
    unfold behind at h
    simp only [Bool.and_eq_true, decide_eq_true_eq] at h
    rcases List.mem_cons.1 he with rfl | he
    · have := h.1
      unfold rightE at this
      simp only [Bool.and_eq_true, decide_eq_true_eq] at this
      exact this.2.1
    · exact beh_d r _ h.2.2 e he
section
variable {m : Ms} {A A1 A2 : Option Addr} {n c n1 c1 n2 c2 B : Nat}
theorem field_any (hr : rightM m = true) (w : World) (h : Mr w B m A n c A1 n1 c1 A2 n2 c2) (hB : B ≤ w.heap.size) (i : Nat) (hi : i < 6) :
    Calls Tryd.prog 57 #[.agg #[.int .i64 m.kind, .int .i64 m.fr, .int .i64 m.to, .int .u64 m.t, .int .u64 m.pi, .int .u64 m.pt, .slice A n c, .int .u64 m.co, .bool m.ok, .slice A1 n1 c1, .slice A2 n2 c2], .int .u8 (ltr i)] w (Cloned w (fldB m i).length (fldB m i)) := by
  have R := rightM_R hr
  rcases (show i = 0 ∨ i = 1 ∨ i = 2 ∨ i = 3 ∨ i = 4 ∨ i = 5 by omega) with rfl | rfl | rfl | rfl | rfl | rfl
  · exact field_o _ _ _ _ _ _ _ m.ok A n c A1 n1 c1 A2 n2 c2 w
  · exact field_p _ _ _ _ _ _ _ m.ok A n c A1 n1 c1 A2 n2 c2 w h.pi0 h.pi1 h.pt0 h.pt1
  · exact field_c _ _ _ _ _ _ _ m.ok A n c A1 n1 c1 A2 n2 c2 w h.co0 h.co1
  · have e := h.es.len
    have := field_e m.kind m.fr m.to m.t m.pi m.pt m.co m.ok A n c A1 n1 c1 A2 n2 c2 w m.es B h.es hB (by have := R.es; omega) (fun x hx => by have := beh_d _ _ R.b x hx; omega)
    have ef : fldB m 3 = shI (n : Int) ++ entsB m.pt m.es := by show fEn m = _; unfold fEn; rw [e, shI_nat]
    rw [ef]
    exact this
  · have e := h.mem.1
    have := field_m m.kind m.fr m.to m.t m.pi m.pt m.co m.ok A n c A1 n1 c1 A2 n2 c2 w m.mem B h.mem hB h.n1
    have ef : fldB m 4 = shI (n1 : Int) ++ m.mem.map (· % 256) := by show fMe m = _; unfold fMe; rw [e, shI_nat]
    rw [ef]
    exact this
  · have e := h.da.1
    have := field_d m.kind m.fr m.to m.t m.pi m.pt m.co m.ok A n c A1 n1 c1 A2 n2 c2 w m.da B h.da hB h.nil2 h.n2
    have ef : fldB m 5 = shI (n2 : Int) ++ m.da := by show fDa m = _; unfold fDa; rw [e, shI_nat]
    rw [ef]
    exact this
end
theorem own_two (w : World) (a b : Int) (h0 : 0 ≤ a) (h1 : a ≤ 255) (h2 : 0 ≤ b) (h3 : b ≤ 255) : Own (w.alloc (.cells #[.int .u8 a, .int .u8 b] 5)) w.heap.size (some ⟨w.heap.size, 0, none⟩) 2 2 [a, b] := by
  refine ⟨?_, fun j => ?_⟩
  · have := World.ownsRow_lit (base := w.heap.size) (size := 1) (e := 5) w #[.int .u8 a, .int .u8 b] 2 (by omega) (by decide) (by simp)
    simpa using this
  · match j with
    | 0 => exact ⟨h0, h1⟩
    | 1 => exact ⟨h2, h3⟩
    | j + 2 => simp
theorem flat_drop (l : List Nat) (f : Nat → List Int) (j : Nat) (h : j < l.length) : (l.drop j).flatMap f = f (l.getD j 0) ++ (l.drop (j + 1)).flatMap f := by
  rw [List.drop_eq_getElem_cons h, List.flatMap_cons]
  have e : l.getD j 0 = l[j] := by simp [List.getD, h]
  rw [e]
set_option maxRecDepth 100000 in
set_option maxHeartbeats 8000000 in
theorem plain7_any (m : Ms) (A : Option Addr) (n c : Nat) (A1 : Option Addr) (n1 c1 : Nat) (A2 : Option Addr) (n2 c2 B : Nat) (w : World) (h : Mr w B m A n c A1 n1 c1 A2 n2 c2) (hB : B ≤ w.heap.size) (hr : rightM m = true) :
    Calls Tryd.prog 37 #[.agg #[.int .i64 m.kind, .int .i64 m.fr, .int .i64 m.to, .int .u64 m.t, .int .u64 m.pi, .int .u64 m.pt, .slice A n c, .int .u64 m.co, .bool m.ok, .slice A1 n1 c1, .slice A2 n2 c2]] w (Cloned w (plainB m).length (plainB m)) := by
  have R := rightM_R hr
  have X := Lib.hid (Bx.new_ m.kind m.fr m.to m.t m.pi m.pt m.co m.ok A n c A1 n1 c1 A2 n2 c2 w)
  have SH := Lib.hid (fun W => sh_any m.t h.t0 h.t1 W)
  have LS := Lib.hid (shI_len h.t0 h.t1)
  have PL := plain_len hr h.in_
  have FA := Lib.hid (fun i W (hW : Below w.heap.size w W ∧ i < 6) => field_any hr W (h.below (hW.1.mono hB)) (Nat.le_trans hB hW.1.size) i hW.2)
  have R1 := R.k
  have R2 := R.fr
  have R3 := R.to
  have KB : Hid (0 ≤ m.kind ∧ m.kind ≤ 255 ∧ 0 ≤ 16 * m.fr + m.to ∧ 16 * m.fr + m.to ≤ 255) := Lib.hid (by omega)
  have HH : Hid (headB m = [m.kind, 16 * m.fr + m.to] ++ shI m.t) := Lib.hid (by
    have q1 : m.kind % 256 = m.kind := by omega
    have q2 : (m.fr * 16 % 256 + m.to) % 256 = 16 * m.fr + m.to := by omega
    unfold headB
    rw [q1, q2])
  have hw1 : IntKind.u8.wrap m.kind = m.kind := by rw [IntKind.wrap_u8]; omega
  have hw2 : IntKind.i64.wrap (16 * m.fr) = 16 * m.fr := by rw [IntKind.wrap_i64]; omega
  have hw3 : IntKind.i64.wrap (16 * m.fr + m.to) = 16 * m.fr + m.to := by rw [IntKind.wrap_i64]; omega
  have hw4 : IntKind.u8.wrap (16 * m.fr + m.to) = 16 * m.fr + m.to := by rw [IntKind.wrap_u8]; omega
  have PB := Lib.hid (bits_plain hr)
  have FF := Lib.hid (fun W => fields7_any m.kind W)
  have BS := Lib.hid (bits_str m.kind)
  have BLT := Lib.hid (bits_lt m.kind)
  clear R R1 R2 R3 h hr hB
  go_enter Tryd.func37, Tryd.ntmps37
  go_upto_region 1 with (fail)
  generalize w.alloc (.cells #[.int .i64 m.kind, .int .i64 m.fr, .int .i64 m.to, .int .u64 m.t, .int .u64 m.pi, .int .u64 m.pt, .slice A n c, .int .u64 m.co, .bool m.ok, .slice A1 n1 c1, .slice A2 n2 c2] 31) = W at *
  have LO : Hid (w.heap.size < W.heap.size) := Lib.hid X.out.blk.lt
  have X0 := Lib.hid X.out.drew
  have Z0 : Hid (W.heap.size ≤ W.drew.heap.size) := Lib.hid (Nat.le_refl _)
  have xS := And.intro (X0.out.blk.cell 0) (And.intro (X0.out.blk.cell 1) (And.intro (X0.out.blk.cell 2) (X0.out.blk.cell 3)))
  go_cut [3] from 6 to 20 (fun v3 wx => ∃ At ct, v3 = .slice At (2 + (shI m.t).length) ct ∧ Own wx W.heap.size At (2 + (shI m.t).length) ct ([m.kind, 16 * m.fr + m.to] ++ shI m.t) ∧ Bx w w.heap.size m.kind m.fr m.to m.t m.pi m.pt m.co m.ok A n c A1 n1 c1 A2 n2 c2 wx ∧ W.heap.size ≤ wx.heap.size)
  case first =>
    refine wp_region_noPanic ?_
    refine wp_region_held_drew (S := fun w' => w'.cell? ⟨w.heap.size, 0, none⟩ = some (.int .i64 m.kind) ∧ w'.cell? ⟨w.heap.size, 1, none⟩ = some (.int .i64 m.fr) ∧ w'.cell? ⟨w.heap.size, 2, none⟩ = some (.int .i64 m.to) ∧ w'.cell? ⟨w.heap.size, 3, none⟩ = some (.int .u64 m.t)) (by kernel_rfl) xS (fun hHeld => ?_)
    generalize W.drew = w0 at *
    refine take_d (i := 0) (d := 6) (v := ?z1) rfl rfl (by kernel_rfl) (by kernel_rfl) (by kernel_rfl) (fun _ _ _ h => h) (Or.inl ⟨by kernel_rfl, ?z1h⟩) hHeld ?z1n
    case z1h => (intro w hSw; (try dsimp only at hSw); go_split_ands; go_simp; (try exact rfl))
    try simp only [Act.put, List.setIfInBounds_toArray, List.set_cons_zero, List.set_cons_succ]
    refine take_d (i := 1) (d := 7) (v := ?z2) rfl rfl (by kernel_rfl) (by kernel_rfl) (by kernel_rfl) (fun _ _ _ h => h) (Or.inl ⟨by kernel_rfl, ?z2h⟩) hHeld ?z2n
    case z2h => (intro w hSw; (try dsimp only at hSw); go_split_ands; go_simp; (try exact rfl))
    try simp only [Act.put, List.setIfInBounds_toArray, List.set_cons_zero, List.set_cons_succ]
    refine take_d (i := 2) (d := 8) (v := .int .u8 m.kind) rfl rfl (by kernel_rfl) (by kernel_rfl) (by kernel_rfl) (fun _ _ _ h => h) (Or.inl ⟨by kernel_rfl, ?z3h⟩) hHeld ?_
    case z3h => (intro w hSw; (try dsimp only at hSw); go_split_ands; go_simp)
    try simp only [Act.put, List.setIfInBounds_toArray, List.set_cons_zero, List.set_cons_succ]
    refine take_d (i := 3) (d := 9) (v := ?z4) rfl rfl (by kernel_rfl) (by kernel_rfl) (by kernel_rfl) (fun _ _ _ h => h) (Or.inl ⟨by kernel_rfl, ?z4h⟩) hHeld ?z4n
    case z4h => (intro w hSw; (try dsimp only at hSw); go_split_ands; go_simp; (try exact rfl))
    try simp only [Act.put, List.setIfInBounds_toArray, List.set_cons_zero, List.set_cons_succ]
    refine take_d (i := 4) (d := 10) (v := ?z5) rfl rfl (by kernel_rfl) (by kernel_rfl) (by kernel_rfl) (fun _ _ _ h => h) (Or.inl ⟨by kernel_rfl, ?z5h⟩) hHeld ?z5n
    case z5h => (intro w hSw; (try dsimp only at hSw); go_split_ands; go_simp; (try exact rfl))
    try simp only [Act.put, List.setIfInBounds_toArray, List.set_cons_zero, List.set_cons_succ]
    refine take_d (i := 5) (d := 11) (v := .int .i64 (16 * m.fr)) rfl rfl (by kernel_rfl) (by kernel_rfl) (by kernel_rfl) (fun _ _ _ h => h) (Or.inl ⟨by kernel_rfl, ?z6h⟩) hHeld ?_
    case z6h => (intro w hSw; (try dsimp only at hSw); go_split_ands; go_simp)
    try simp only [Act.put, List.setIfInBounds_toArray, List.set_cons_zero, List.set_cons_succ]
    refine take_d (i := 6) (d := 12) (v := ?z7) rfl rfl (by kernel_rfl) (by kernel_rfl) (by kernel_rfl) (fun _ _ _ h => h) (Or.inl ⟨by kernel_rfl, ?z7h⟩) hHeld ?z7n
    case z7h => (intro w hSw; (try dsimp only at hSw); go_split_ands; go_simp; (try exact rfl))
    try simp only [Act.put, List.setIfInBounds_toArray, List.set_cons_zero, List.set_cons_succ]
    refine take_d (i := 7) (d := 13) (v := ?z8) rfl rfl (by kernel_rfl) (by kernel_rfl) (by kernel_rfl) (fun _ _ _ h => h) (Or.inl ⟨by kernel_rfl, ?z8h⟩) hHeld ?z8n
    case z8h => (intro w hSw; (try dsimp only at hSw); go_split_ands; go_simp; (try exact rfl))
    try simp only [Act.put, List.setIfInBounds_toArray, List.set_cons_zero, List.set_cons_succ]
    refine take_d (i := 8) (d := 14) (v := .int .i64 (16 * m.fr + m.to)) rfl rfl (by kernel_rfl) (by kernel_rfl) (by kernel_rfl) (fun _ _ _ h => h) (Or.inl ⟨by kernel_rfl, ?z9h⟩) hHeld ?_
    case z9h => (intro w hSw; (try dsimp only at hSw); go_split_ands; go_simp)
    try simp only [Act.put, List.setIfInBounds_toArray, List.set_cons_zero, List.set_cons_succ]
    refine take_d (i := 9) (d := 15) (v := .int .u8 (16 * m.fr + m.to)) rfl rfl (by kernel_rfl) (by kernel_rfl) (by kernel_rfl) (fun _ _ _ h => h) (Or.inl ⟨by kernel_rfl, ?z10h⟩) hHeld ?_
    case z10h => (intro w hSw; (try dsimp only at hSw); go_split_ands; go_simp)
    try simp only [Act.put, List.setIfInBounds_toArray, List.set_cons_zero, List.set_cons_succ]
    refine take_d (i := 11) (d := 17) (v := ?z11) rfl rfl (by kernel_rfl) (by kernel_rfl) (by kernel_rfl) (fun _ _ _ h => h) (Or.inl ⟨by kernel_rfl, ?z11h⟩) hHeld ?z11n
    case z11h => (intro w hSw; (try dsimp only at hSw); go_split_ands; go_simp; (try exact rfl))
    try simp only [Act.put, List.setIfInBounds_toArray, List.set_cons_zero, List.set_cons_succ]
    refine take_d (i := 12) (d := 18) (v := ?z12) rfl rfl (by kernel_rfl) (by kernel_rfl) (by kernel_rfl) (fun _ _ _ h => h) (Or.inl ⟨by kernel_rfl, ?z12h⟩) hHeld ?z12n
    case z12h => (intro w hSw; (try dsimp only at hSw); go_split_ands; go_simp; (try exact rfl))
    try simp only [Act.put, List.setIfInBounds_toArray, List.set_cons_zero, List.set_cons_succ]
    refine wpAnyH_ready (rs := [10, 13]) (by kernel_rfl) (by simp) ?_
    refine AllReadyH.cons rfl (fun K hK => ?_) (AllReadyH.cons rfl (fun K hK => ?_) AllReadyH.nil)
    · skip
      go_simp
      have hbb : Below w0.heap.size w0 (w0.alloc (.cells #[.int .u8 m.kind, .int .u8 (16 * m.fr + m.to)] 5)) := (Below.refl _ _).alloc (Nat.le_refl _) _
      obtain ⟨pb, hpb⟩ : ∃ pb, w0.heap.size = pb := ⟨_, rfl⟩
      have X1 := Lib.hid (X0.out.on hbb)
      have Z1 := Lib.hid (Nat.le_trans Z0.out hbb.size)
      have P1 : Hid (Own (w0.alloc (.cells #[.int .u8 m.kind, .int .u8 (16 * m.fr + m.to)] 5)) pb (some ⟨pb, 0, none⟩) 2 2 [m.kind, 16 * m.fr + m.to]) := Lib.hid (by rw [← hpb]; exact own_two w0 _ _ KB.out.1 KB.out.2.1 KB.out.2.2.1 KB.out.2.2.2)
      refine hK.out _ _ ⟨X1.out.blk.cell 0, X1.out.blk.cell 1, X1.out.blk.cell 2, X1.out.blk.cell 3⟩ (fun hHeld => ?_)
      clear hK K hbb
      try rw [hpb]
      clear hpb
      generalize w0.alloc (.cells #[.int .u8 m.kind, .int .u8 (16 * m.fr + m.to)] 5) = w1 at *
      try simp only [Act.put, List.setIfInBounds_toArray, List.set_cons_zero, List.set_cons_succ]
      refine wpAnyH_ready (rs := [13]) (by kernel_rfl) (by simp) ?_
      refine AllReadyH.cons rfl (fun K hK => ?_) AllReadyH.nil
      go_simp
      with_reducible refine (SH.out _).mono ?_
      rintro e w2 ⟨As, cs, rfl, ho, hb⟩
      have X2 := Lib.hid (X1.out.on hb)
      have Z2 := Lib.hid (Nat.le_trans Z1.out hb.size)
      have P2 := Lib.hid (P1.out.below hb)
      have Os2 := Lib.hid ho
      clear ho hb
      refine hK.out _ _ ⟨X2.out.blk.cell 0, X2.out.blk.cell 1, X2.out.blk.cell 2, X2.out.blk.cell 3⟩ (fun hHeld => ?_)
      clear hK K
      try simp only [Act.put, List.setIfInBounds_toArray, List.set_cons_zero, List.set_cons_succ]
      refine wpAnyH_ready (rs := [14]) (by kernel_rfl) (by simp) ?_
      refine AllReadyH.cons rfl (fun K hK => ?_) AllReadyH.nil
      go_simp
      refine (both_any (some ⟨pb, 0, none⟩) 2 2 [m.kind, 16 * m.fr + m.to] As _ cs (shI m.t) w2 w2.heap.size P2.out.by P2.out.nil Os2.out.by Os2.out.nil (Nat.le_refl _) (by omega) (by have := LS.out; omega)).mono ?_
      rintro e w3 ⟨At, ct, rfl, ho, hb⟩
      have X3 := Lib.hid (X2.out.on hb)
      have Z3 := Lib.hid (Nat.le_trans Z2.out hb.size)
      have O3 := Lib.hid (ho.down Z2.out)
      clear ho hb
      refine hK.out _ _ ⟨X3.out.blk.cell 0, X3.out.blk.cell 1, X3.out.blk.cell 2, X3.out.blk.cell 3⟩ (fun hHeld => ?_)
      clear hK K
      try simp only [Act.put, List.setIfInBounds_toArray, List.set_cons_zero, List.set_cons_succ]
      refine take_d (i := 15) (d := 3) (v := ?z13) rfl rfl (by kernel_rfl) (by kernel_rfl) (by kernel_rfl) (fun _ _ _ h => h) (Or.inl ⟨by kernel_rfl, ?z13h⟩) hHeld ?z13n
      case z13h => (intro w hSw; (try dsimp only at hSw); go_split_ands; go_simp; (try exact rfl))
      try simp only [Act.put, List.setIfInBounds_toArray, List.set_cons_zero, List.set_cons_succ]
      refine wpAnyH_done (by kernel_rfl) ?_ _
      refine NoPanic.normal ?_
      go_wp2_with fail
      go_meet
      case rel => exact ⟨At, ct, rfl, O3.out, X3.out, Z3.out⟩
    · skip
      go_simp
      with_reducible refine (SH.out _).mono ?_
      rintro e w1 ⟨As, cs, rfl, ho, hb⟩
      have X1 := Lib.hid (X0.out.on hb)
      have Z1 := Lib.hid (Nat.le_trans Z0.out hb.size)
      have Os1 := Lib.hid ho
      clear ho hb
      refine hK.out _ _ ⟨X1.out.blk.cell 0, X1.out.blk.cell 1, X1.out.blk.cell 2, X1.out.blk.cell 3⟩ (fun hHeld => ?_)
      clear hK K
      try simp only [Act.put, List.setIfInBounds_toArray, List.set_cons_zero, List.set_cons_succ]
      refine wpAnyH_ready (rs := [10]) (by kernel_rfl) (by simp) ?_
      refine AllReadyH.cons rfl (fun K hK => ?_) AllReadyH.nil
      go_simp
      have hbb : Below w1.heap.size w1 (w1.alloc (.cells #[.int .u8 m.kind, .int .u8 (16 * m.fr + m.to)] 5)) := (Below.refl _ _).alloc (Nat.le_refl _) _
      obtain ⟨pb, hpb⟩ : ∃ pb, w1.heap.size = pb := ⟨_, rfl⟩
      have X2 := Lib.hid (X1.out.on hbb)
      have Z2 := Lib.hid (Nat.le_trans Z1.out hbb.size)
      have Os2 := Lib.hid (Os1.out.below hbb)
      have P2 : Hid (Own (w1.alloc (.cells #[.int .u8 m.kind, .int .u8 (16 * m.fr + m.to)] 5)) pb (some ⟨pb, 0, none⟩) 2 2 [m.kind, 16 * m.fr + m.to]) := Lib.hid (by rw [← hpb]; exact own_two w1 _ _ KB.out.1 KB.out.2.1 KB.out.2.2.1 KB.out.2.2.2)
      refine hK.out _ _ ⟨X2.out.blk.cell 0, X2.out.blk.cell 1, X2.out.blk.cell 2, X2.out.blk.cell 3⟩ (fun hHeld => ?_)
      clear hK K hbb
      try rw [hpb]
      clear hpb
      generalize w1.alloc (.cells #[.int .u8 m.kind, .int .u8 (16 * m.fr + m.to)] 5) = w2 at *
      try simp only [Act.put, List.setIfInBounds_toArray, List.set_cons_zero, List.set_cons_succ]
      refine wpAnyH_ready (rs := [14]) (by kernel_rfl) (by simp) ?_
      refine AllReadyH.cons rfl (fun K hK => ?_) AllReadyH.nil
      go_simp
      refine (both_any (some ⟨pb, 0, none⟩) 2 2 [m.kind, 16 * m.fr + m.to] As _ cs (shI m.t) w2 w2.heap.size P2.out.by P2.out.nil Os2.out.by Os2.out.nil (Nat.le_refl _) (by omega) (by have := LS.out; omega)).mono ?_
      rintro e w3 ⟨At, ct, rfl, ho, hb⟩
      have X3 := Lib.hid (X2.out.on hb)
      have Z3 := Lib.hid (Nat.le_trans Z2.out hb.size)
      have O3 := Lib.hid (ho.down Z2.out)
      clear ho hb
      refine hK.out _ _ ⟨X3.out.blk.cell 0, X3.out.blk.cell 1, X3.out.blk.cell 2, X3.out.blk.cell 3⟩ (fun hHeld => ?_)
      clear hK K
      try simp only [Act.put, List.setIfInBounds_toArray, List.set_cons_zero, List.set_cons_succ]
      refine take_d (i := 15) (d := 3) (v := ?z14) rfl rfl (by kernel_rfl) (by kernel_rfl) (by kernel_rfl) (fun _ _ _ h => h) (Or.inl ⟨by kernel_rfl, ?z14h⟩) hHeld ?z14n
      case z14h => (intro w hSw; (try dsimp only at hSw); go_split_ands; go_simp; (try exact rfl))
      try simp only [Act.put, List.setIfInBounds_toArray, List.set_cons_zero, List.set_cons_succ]
      refine wpAnyH_done (by kernel_rfl) ?_ _
      refine NoPanic.normal ?_
      go_wp2_with fail
      go_meet
      case rel => exact ⟨At, ct, rfl, O3.out, X3.out, Z3.out⟩
  case rest =>
    obtain ⟨At, ct, rfl, k1, k2, k3⟩ := hcut
    have O5 := Lib.hid k1
    have X5 := Lib.hid k2
    have Z5 := Lib.hid k3
    have e0 := X5.out.blk.cell 0
    clear k1 k2 k3 X0 Z0 xS SH hw1 hw2 hw3 hw4 KB
    have SZ := fstB_size m.kind
    go_upto_region 3 with (go_at_call 33; (with_reducible refine (FF.out _).mono ?_); rintro e w' ⟨rfl, rfl⟩)
    generalize fstB m.kind = s at *
    generalize bitsK m.kind = bits at *
    have BLN : Hid (s.size = bits.length) := Lib.hid (by have := congrArg List.length BS.out; simpa using this)
    have BG : Hid (∀ j (hj : j < s.size), (s[j].toNat : Int) = ltr (bits.getD j 0)) := Lib.hid (fun j hj => by
      have e := congrArg (fun l : List Int => l[j]?) BS.out
      have hj2 : j < bits.length := by rw [← BLN.out]; exact hj
      simp only [List.getElem?_map] at e
      rw [List.getElem?_eq_getElem hj2, List.getElem?_eq_getElem (by simpa using hj)] at e
      simp only [Option.map_some, Option.some.injEq] at e
      rw [Array.getElem_toList] at e
      have e2 : bits.getD j 0 = bits[j] := by simp [List.getD, hj2]
      rw [e2]
      exact e)
    have BL6 : Hid (∀ j, j < s.size → bits.getD j 0 < 6) := Lib.hid (fun j hj => by
      have hj2 : j < bits.length := by rw [← BLN.out]; exact hj
      have e2 : bits.getD j 0 = bits[j] := by simp [List.getD, hj2]
      rw [e2]
      exact BLT.out _ (List.getElem_mem _))
    have hs : (s.size : Int) ≤ 3 := by omega
    have T0 : Hid ([m.kind, 16 * m.fr + m.to] ++ shI m.t ++ (bits.drop 0).flatMap (fldB m) = plainB m) := Lib.hid (by rw [PB.out, HH.out, List.drop_zero])
    clear BS BLT HH PB FF
    generalize plainB m = PM at *
    go_wp2
    go_loopw [3, 26] (fun bv i wr => ∃ (j n3 : Nat) (A3 : Option Addr) (c3 : Nat) (zs3 : List Int), j ≤ s.size ∧ i = .int .i64 (j : Int) ∧ bv = .slice A3 n3 c3 ∧ Hid (zs3 ++ (bits.drop j).flatMap (fldB m) = PM) ∧ Hid (Own wr W.heap.size A3 n3 c3 zs3) ∧ Hid (Bx w w.heap.size m.kind m.fr m.to m.t m.pi m.pt m.co m.ok A n c A1 n1 c1 A2 n2 c2 wr) ∧ Hid (W.heap.size ≤ wr.heap.size)) (fun _ i _ => s.size - (intOf i).toNat)
    case atStart => exact ⟨0, _, At, ct, _, Nat.zero_le _, rfl, rfl, T0, O5, X5, Z5⟩
    case round =>
      obtain ⟨j, n3, A3, c3, zs3, hj, rfl, rfl, HZ, IO, IX, IZ⟩ := hrel
      clear e0
      by_cases hlt : j < s.size
      · have FU := flat_drop bits (fldB m) j (by rw [← BLN.out]; exact hlt)
        have hz := HZ.out
        rw [FU] at hz
        have hq := BG.out j hlt
        have h6 := Lib.hid (BL6.out j hlt)
        have ln3 := IO.out.len
        clear FU HZ
        generalize bits.getD j 0 = bi at *
        have HZ2 : Hid (zs3 ++ fldB m bi ++ (bits.drop (j + 1)).flatMap (fldB m) = PM) := Lib.hid (by rw [List.append_assoc]; exact hz)
        have hlen := congrArg List.length hz
        simp only [List.length_append] at hlen
        have l1 : n3 ≤ 90000 := by omega
        have l2 : (fldB m bi).length ≤ 90000 := by omega
        have l3 := Lib.hid l2
        clear hz hlen ln3
        go_upto_region 6 with (fail)
        have X0 := Lib.hid IX.out.drew
        have O0 : Hid (Own wr.drew W.heap.size A3 n3 c3 zs3) := Lib.hid (IO.out.below (Below.refl _ _).drew)
        have Z0 : Hid (W.heap.size ≤ wr.drew.heap.size) := IZ
        have HB0 := Lib.hid (And.intro X0.out.bel h6.out)
        have xS := Blk.rng X0.out.blk
        clear IO IX IZ
        refine wp_region_noPanic ?_
        refine wp_region_held_drew (S := fun w' => w'.rangeAt w.heap.size 0 [.int .i64 m.kind, .int .i64 m.fr, .int .i64 m.to, .int .u64 m.t, .int .u64 m.pi, .int .u64 m.pt, .slice A n c, .int .u64 m.co, .bool m.ok, .slice A1 n1 c1, .slice A2 n2 c2]) (by kernel_rfl) xS (fun hHeld => ?_)
        generalize wr.drew = w0 at *
        refine take_d (i := 0) (d := 29) (v := ?rp29) rfl rfl (by kernel_rfl) (by kernel_rfl) (by kernel_rfl) (fun _ _ _ h => h) (Or.inl ⟨by kernel_rfl, ?rp29h⟩) hHeld ?rp29n
        case rp29h => (intro w hSw; (try dsimp only at hSw); go_split_ands; go_simp; (try exact rfl))
        try simp only [Act.put, List.setIfInBounds_toArray, List.set_cons_zero, List.set_cons_succ]
        refine take_d (i := 1) (d := 30) (v := .agg ([.int .i64 m.kind, .int .i64 m.fr, .int .i64 m.to, .int .u64 m.t, .int .u64 m.pi, .int .u64 m.pt, .slice A n c, .int .u64 m.co, .bool m.ok, .slice A1 n1 c1, .slice A2 n2 c2] : List Value).toArray) rfl rfl (by kernel_rfl) (by kernel_rfl) (by kernel_rfl) (fun _ _ _ h => h) (yieldsIf_load_mid (by rfl) _ _ rfl _ _ rfl [.int .i64 m.kind, .int .i64 m.fr, .int .i64 m.to, .int .u64 m.t, .int .u64 m.pi, .int .u64 m.pt, .slice A n c, .int .u64 m.co, .bool m.ok, .slice A1 n1 c1, .slice A2 n2 c2] _ (fun w h => h) Tryd.underlying31 rfl Tryd.i31) hHeld ?_
        try simp only [Act.put, List.setIfInBounds_toArray, List.set_cons_zero, List.set_cons_succ]
        refine take_d (i := 2) (d := 31) (v := ?rp31) rfl rfl (by kernel_rfl) (by kernel_rfl) (by kernel_rfl) (fun _ _ _ h => h) (Or.inl ⟨by kernel_rfl, ?rp31h⟩) hHeld ?rp31n
        case rp31h => (intro w hSw; (try dsimp only at hSw); go_split_ands; go_simp; (try exact rfl))
        try simp only [Act.put, List.setIfInBounds_toArray, List.set_cons_zero, List.set_cons_succ]
        refine take_d (i := 3) (d := 32) (v := ?rp32) rfl rfl (by kernel_rfl) (by kernel_rfl) (by kernel_rfl) (fun _ _ _ h => h) (Or.inl ⟨by kernel_rfl, ?rp32h⟩) hHeld ?rp32n
        case rp32h => (intro w hSw; (try dsimp only at hSw); go_split_ands; go_simp; (try exact rfl))
        try simp only [Act.put, List.setIfInBounds_toArray, List.set_cons_zero, List.set_cons_succ]
        refine take_d (i := 4) (d := 33) (v := .int .u8 (ltr bi)) rfl rfl (by kernel_rfl) (by kernel_rfl) (by kernel_rfl) (fun _ _ _ h => h) (Or.inl ⟨by kernel_rfl, ?rp33h⟩) hHeld ?_
        case rp33h => (intro w hSw; (try dsimp only at hSw); go_split_ands; go_simp)
        try simp only [Act.put, List.setIfInBounds_toArray, List.set_cons_zero, List.set_cons_succ]
        refine wpAnyH_ready (rs := [5]) (by kernel_rfl) (by simp) ?_
        refine AllReadyH.cons rfl (fun K hK => ?_) AllReadyH.nil
        go_simp
        with_reducible refine (FA.out _ _ HB0.out).mono ?_
        rintro e w1 ⟨As, cs, rfl, ho, hb⟩
        have X1 := Lib.hid (X0.out.on hb)
        have Z1 := Lib.hid (Nat.le_trans Z0.out hb.size)
        have O1 := Lib.hid (O0.out.below hb)
        have Os1 := Lib.hid ho
        clear ho hb
        refine hK.out _ _ (Blk.rng X1.out.blk) (fun hHeld => ?_)
        clear hK K
        try simp only [Act.put, List.setIfInBounds_toArray, List.set_cons_zero, List.set_cons_succ]
        refine wpAnyH_ready (rs := [6]) (by kernel_rfl) (by simp) ?_
        refine AllReadyH.cons rfl (fun K hK => ?_) AllReadyH.nil
        go_simp
        refine (both_any A3 n3 c3 zs3 As _ cs (fldB m bi) w1 w1.heap.size O1.out.by O1.out.nil Os1.out.by Os1.out.nil (Nat.le_refl _) (by omega) (by omega)).mono ?_
        rintro e w2 ⟨At, ct, rfl, ho, hb⟩
        have X2 := Lib.hid (X1.out.on hb)
        have Z2 := Lib.hid (Nat.le_trans Z1.out hb.size)
        have O2 := Lib.hid (ho.down Z1.out)
        clear ho hb
        refine hK.out _ _ (Blk.rng X2.out.blk) (fun hHeld => ?_)
        clear hK K
        try simp only [Act.put, List.setIfInBounds_toArray, List.set_cons_zero, List.set_cons_succ]
        refine take_d (i := 7) (d := 3) (v := ?rp3) rfl rfl (by kernel_rfl) (by kernel_rfl) (by kernel_rfl) (fun _ _ _ h => h) (Or.inl ⟨by kernel_rfl, ?rp3h⟩) hHeld ?rp3n
        case rp3h => (intro w hSw; (try dsimp only at hSw); go_split_ands; go_simp; (try exact rfl))
        try simp only [Act.put, List.setIfInBounds_toArray, List.set_cons_zero, List.set_cons_succ]
        refine wpAnyH_done (by kernel_rfl) ?_ _
        refine NoPanic.normal ?_
        go_wp2
        go_roundw
        case rel => exact ⟨j + 1, _, At, ct, _, by omega, by go_num, rfl, HZ2, O2, X2, Z2⟩
        case measure => simp [intOf]; omega
      · obtain rfl : j = s.size := by omega
        have hz := HZ.out
        rw [List.drop_of_length_le (by rw [← BLN.out]; exact Nat.le_refl _), List.flatMap_nil, List.append_nil] at hz
        have HZ2 := Lib.hid hz
        have hl := Lib.hid (IO.out.len_eq hz)
        clear hz HZ
        go_wp2
        go_ret
        exact ⟨A3, c3, by rw [← hl.out]; rfl, by rw [← hl.out, ← HZ2.out]; exact IO.out.down (by have := LO.out; omega), IX.out.bel⟩
end Go.Proofs.YtemfnckaehjhcaaDoor
