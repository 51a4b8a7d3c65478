/-
  Chains of an expression.
-/
import Derived.Test.YtiipglmbfgmbbaaGreatDoorPkG
namespace Go.Proofs.YtiipglmbfgmbbaaGreatDoor
open Go.RowKit Go.Shelf
attribute [local go_sem] Oper.semAt_some

def onB (v : Value) : Nat := match v with
  | .bool true => 1
  | _ => 0
/-- How many tokens are read. -/
def readAt (w : World) (q : Nat) : Nat := match w.cell? ⟨q, 1, none⟩ with
  | some (.int _ x) => x.toNat
  | _ => 0
theorem Pt.readAt {w : World} {base q c E r o : Nat} {A : Option Addr} {L : List Tk} {M V : Value} (h : Pt w base q A c L E M V r o) : readAt w q = r := by
  have : w.cell? ⟨q, 1, none⟩ = some (.int .i64 (r : Int)) := h.blk.cell 1
  unfold Go.Proofs.YtiipglmbfgmbbaaGreatDoor.readAt
  rw [this]
  simp
set_option maxRecDepth 100000 in
set_option maxHeartbeats 8000000 in
theorem chain_152 (N : Nat) (hf : LvOk N .and 152) (w : World) (base q c E m r o nc : Nat) (A B : Option Addr) (L : List Tk) (ns : List Nd) (h : St w base q A c L E m r o B nc ns) (hN : L.length < r + N) (ho : o ≤ 16) (g : Gx)
    (hg : ∀ n x, bnd (ex L E n (.lv .and) r o ns) (fun row r ns => ex L E n (.lp 1 .and row) r o ns) = some x → ∃ n', ex L E n' g r o ns = some x) :
    Calls Tryz.prog 151 #[.pointer (some ⟨q, 0, none⟩), .int .i64 1, .func (.func 152) #[.pointer (some ⟨q, 0, none⟩)] #[]] w (Out w base q A c L E m r o ns g) := by
  have C1 := Lib.hid (hf w base q A c L E m r o B nc ns h hN ho)
  have GH := Lib.hid hg
  have HF := Lib.hid hf
  have hle := h.pt.le
  have hmany := h.pt.many
  have hfew := h.few
  clear hg hf h
  go_enter Tryz.func151, Tryz.ntmps151
  go_upto_region 2 with (go_at_call 152; refine C1.out.mono ?_; rintro e w1 ⟨n1, x1, hx, hF, hy⟩; have X1 := Lib.hid hx; have F1 := Lib.hid (hF); clear hx hF; rcases x1 with ⟨er, i⟩ | ⟨row1, r1, ns1⟩ <;> first | (have hz : e = .panicked [{ v := .iface 26 (.agg #[.int .i64 er, .int .i64 ((tokAt L E i).at_ : Int)]), recovered := false }] := hy; subst hz; clear hy) | (obtain ⟨rfl, hr1, hn1, hY, B1, nc1, hS⟩ := hy; have S1 := Lib.hid hS; have Y1 := Lib.hid hY; clear hS hY))
  · obtain ⟨n', hx⟩ := GH.out n1 _ (by rw [X1.out]; rfl)
    exact ⟨rfl, n', _, hx, F1.out, rfl⟩
  · have OP1 := Lib.hid (op_any 1 m w1 base q c E r1 o A L _ S1.out.pt S1.out.mo S1.out.hm S1.out.hq)
    have CT : Hid (∀ n x, ex L E n (.lp 1 .and row1) r1 o ns1 = some x → ∃ n', ex L E n' g r o ns = some x) := Lib.hid (fun n x hx => GH.out (max n n1) x (by rw [ex_mono L E n1 _ _ _ _ _ _ (Nat.le_max_right _ _) X1.out]; exact ex_mono L E n _ _ _ _ _ _ (Nat.le_max_left _ _) hx))
    obtain ⟨⟨⟨y1, y2, y3⟩, isb⟩, hop⟩ : ∃ x, opX L E r1 1 = x := ⟨_, rfl⟩
    rw [hop] at OP1
    have OH : Hid (Calls Tryz.prog 162 #[.pointer (some ⟨q, 0, none⟩), .int .i64 1] w1 fun e w' => e = .returned (.tuple #[.agg #[.int .i64 (y1 : Int), .int .i64 (y2 : Int), .int .i64 (y3 : Int)], .bool isb]) ∧ Pt w' base q A c L E (.map (some m)) (.slice B1 ns1.length nc1) (if isb = true then r1 + 1 else r1) o ∧ Fq w1.heap.size q w1 w') := OP1
    have HOP := Lib.hid hop
    clear OP1 hop
    go_upto_region 3 with (go_at_call 162; refine OH.out.mono ?_; rintro e w2 ⟨rfl, hP, hF⟩; have S2 := Lib.hid (S1.out.read hP hF (by split <;> omega)); have F2 := Lib.hid (F1.out.trans (hF.mono S1.out.pt.le)); have Y2 := Lib.hid (Y1.out.trans (Fy.ofq hF)); clear hP hF)
    have AL : Below w2.heap.size w2 (w2.alloc (.cells #[.int .i64 (y1 : Int), .int .i64 (y2 : Int), .int .i64 (y3 : Int)] 111)) := (Below.refl _ _).alloc (Nat.le_refl _) _
    have S3 := Lib.hid (S2.out.on AL)
    have F3 := Lib.hid (F2.out.trans (Fq.of (q := q) AL S2.out.pt.le))
    have Y3 := Lib.hid (Y2.out.trans (Fy.of (q := q) AL))
    have K3 : Hid (Blk (w2.alloc (.cells #[.int .i64 (y1 : Int), .int .i64 (y2 : Int), .int .i64 (y3 : Int)] 111)) w2.heap.size 111 #[.int .i64 (y1 : Int), .int .i64 (y2 : Int), .int .i64 (y3 : Int)]) := Lib.hid (Blk.new _ _ _)
    have hk3 : base ≤ w2.heap.size := S2.out.pt.le
    have hkq : w2.heap.size ≠ q := by have := S2.out.pt.lt; omega
    clear AL S2 F2 Y2 S1 OH
    generalize w2.heap.size = k3 at *
    generalize w2.alloc (.cells #[.int .i64 (y1 : Int), .int .i64 (y2 : Int), .int .i64 (y3 : Int)] 111) = w3 at *
    go_wp2_with fail
    go_loopw [7, 8, 9] (fun v7 v8 v9 wr => ∃ (row r2 : Nat) (B2 : Option Addr) (nc2 : Nat) (ns2 : List Nd) (k y1 y2 y3 : Nat) (isb : Bool), v7 = .int .i64 (row : Int) ∧ v8 = .pointer (some ⟨k, 0, none⟩) ∧ v9 = .bool isb ∧ r ≤ r2 ∧ ns2.length + r ≤ ns.length + r2 ∧ base ≤ k ∧
      Hid (opX L E r2 1 = ((y1, y2, y3), isb)) ∧ Hid (∀ n x, ex L E n (.lp 1 .and row) r2 o ns2 = some x → ∃ n', ex L E n' g r o ns = some x) ∧ Hid (St wr base q A c L E m (if isb = true then r2 + 1 else r2) o B2 nc2 ns2) ∧ Hid (Blk wr k 111 #[.int .i64 (y1 : Int), .int .i64 (y2 : Int), .int .i64 (y3 : Int)]) ∧ Hid (Fq base q w wr) ∧ Hid (Fy q w wr) ∧ ns2.length ≤ r2) (fun _ _ v9 wr => 2 * (L.length + 1 - readAt wr q) + onB v9)
    case atStart => exact ⟨row1, r1, B1, nc1, ns1, k3, y1, y2, y3, isb, rfl, rfl, rfl, hr1, hn1, hk3, HOP, CT, S3, K3, F3, Y3, by omega⟩
    case round =>
      clear hk3 hkq S3 K3 F3 Y3 Y1 HOP CT X1 F1 hr1 hn1
      obtain ⟨row, r2, B2, nc2, ns2, k, z1, z2, z3, isc, rfl, rfl, rfl, hr2, hn2, hk, HOP, CT, S2, K2, F2, Y2, hf2⟩ := hrel
      cases isc with
      | false =>
        obtain ⟨n', hx⟩ := CT.out 1 (.ok (row, r2, ns2)) (by unfold ex; rw [HOP.out]; rfl)
        go_wp2_with fail
        go_ret
        exact ⟨n', _, hx, F2.out, rfl, hr2, hn2, Y2.out, B2, nc2, S2.out⟩
      | true =>
        have hrd : r2 + 1 ≤ L.length := S2.out.pt.rd
        have HF2 := Lib.hid F2.out
        have C5 := Lib.hid (HF.out wr base q A c L E m (r2 + 1) o B2 nc2 ns2 S2.out (by omega) ho)
        have RW : readAt wr q = r2 + 1 := S2.out.pt.readAt
        have hfew2 := S2.out.few
        have hkq : k ≠ q := by have := S2.out.pt.lt; omega
        have hbw : base ≤ wr.heap.size := S2.out.pt.le
        clear C1
        go_upto_region 6 with (go_at_call 152; refine C5.out.mono ?_; rintro e w5 ⟨n5, x5, hx, hF, hy⟩; have X5 := Lib.hid hx; have F5 := Lib.hid (HF2.out.trans hF); clear hx hF; rcases x5 with ⟨er, i⟩ | ⟨row5, r5, ns5⟩ <;> first | (have hz : e = .panicked [{ v := .iface 26 (.agg #[.int .i64 er, .int .i64 ((tokAt L E i).at_ : Int)]), recovered := false }] := hy; subst hz; clear hy) | (obtain ⟨rfl, hr5, hn5, hY, B5, nc5, hS⟩ := hy; have S5 := Lib.hid hS; have Y5 := Lib.hid hY; clear hS hY))
        · obtain ⟨n', hx⟩ := CT.out (n5 + 1) (.error (er, i)) (by unfold ex; rw [HOP.out]; show bnd (ex L E n5 (.lv .and) (r2 + 1) o ns2) _ = _; rw [X5.out]; rfl)
          exact ⟨rfl, n', _, hx, F5.out, rfl⟩
        · have K5 : Hid (Blk w5 k 111 #[.int .i64 (z1 : Int), .int .i64 (z2 : Int), .int .i64 (z3 : Int)]) := Lib.hid (Y5.out.keep k 111 _ K2.out hkq (by decide))
          have Y6 := Lib.hid (Y2.out.trans Y5.out)
          have hlen5 : ns5.length ≤ 1000 := by have := S5.out.few; have := S5.out.pt.rd; have := S5.out.pt.many; omega
          have RH : Hid (Calls Tryz.prog 163 #[.pointer (some ⟨q, 0, none⟩), .agg #[.int .i64 (z2 : Int), .int .i64 (z3 : Int), .int .i64 (row : Int), .int .i64 (row5 : Int), .string ⟨#[]⟩, .string ⟨#[]⟩, .int .i64 0, .int .i64 0, .string ⟨#[]⟩]] w5 fun e w' => e = .returned (.int .i64 (ns5.length : Int)) ∧ ∃ A2 c2, Pt w' base q A c L E (.map (some m)) (.slice A2 (ns5.length + 1) c2) r5 o ∧ Nds w' base A2 (ns5.length + 1) c2 (ns5 ++ [nd2 (z1, z2, z3) row row5]) ∧ Fq base q w5 w' ∧ Fy q w5 w') :=
            Lib.hid (row_any (nd2 (z1, z2, z3) row row5) w5 base q c E r5 o ns5.length nc5 A B5 L _ ns5 S5.out.pt S5.out.nds hlen5)
          have u1 : w5.cell? ⟨k, 1, none⟩ = some (.int .i64 (z2 : Int)) := K5.out.cell 1
          have u2 : w5.cell? ⟨k, 2, none⟩ = some (.int .i64 (z3 : Int)) := K5.out.cell 2
          have CT5 : Hid (∀ n x, ex L E n (.lp 1 .and ns5.length) r5 o (ns5 ++ [nd2 (z1, z2, z3) row row5]) = some x → ∃ n', ex L E n' g r o ns = some x) := Lib.hid (fun n x hx => CT.out (max n n5 + 1) x (by
            unfold ex
            rw [HOP.out]
            show bnd (ex L E (max n n5) (.lv .and) (r2 + 1) o ns2) _ = _
            rw [ex_mono L E n5 _ _ _ _ _ _ (Nat.le_max_right _ _) X5.out]
            exact ex_mono L E n _ _ _ _ _ _ (Nat.le_max_left _ _) hx))
          go_upto_region 7 with (go_at_call 163; refine RH.out.mono ?_; rintro e w7 ⟨rfl, A2, c2, hP, hN2, hF, hY⟩; have S7 : Hid (St w7 base q A c L E m r5 o A2 c2 (ns5 ++ [nd2 (z1, z2, z3) row row5])) := Lib.hid ⟨by rw [List.length_append]; exact hP, by rw [List.length_append]; exact hN2, (hF.block m S5.out.hm S5.out.hq).trans S5.out.mo, S5.out.hm, S5.out.hq, by rw [List.length_append]; simp; omega⟩; have K7 : Hid (Blk w7 k 111 #[.int .i64 (z1 : Int), .int .i64 (z2 : Int), .int .i64 (z3 : Int)]) := Lib.hid (hY.keep k 111 _ K5.out hkq (by decide)); have F7 := Lib.hid (F5.out.trans hF); have Y7 := Lib.hid (Y6.out.trans hY); clear hP hN2 hF hY)
          have hk7 : base ≤ w7.heap.size := S7.out.pt.le
          have v0 : w7.cell? ⟨k, 0, none⟩ = some (.int .i64 (z1 : Int)) := K7.out.cell 0
          have v1 : w7.cell? ⟨k, 1, none⟩ = some (.int .i64 (z2 : Int)) := K7.out.cell 1
          have v2 : w7.cell? ⟨k, 2, none⟩ = some (.int .i64 (z3 : Int)) := K7.out.cell 2
          go_upto_region 4 with fail
          have AL : Below w7.heap.size w7 (w7.alloc (.cells #[.int .i64 (z1 : Int), .int .i64 (z2 : Int), .int .i64 (z3 : Int)] 111)) := (Below.refl _ _).alloc (Nat.le_refl _) _
          have S8 := Lib.hid (S7.out.on AL)
          have F8 := Lib.hid (F7.out.trans (Fq.of (q := q) AL S7.out.pt.le))
          have Y8 := Lib.hid (Y7.out.trans (Fy.of (q := q) AL))
          have K8 : Hid (Blk (w7.alloc (.cells #[.int .i64 (z1 : Int), .int .i64 (z2 : Int), .int .i64 (z3 : Int)] 111)) w7.heap.size 111 #[.int .i64 (z1 : Int), .int .i64 (z2 : Int), .int .i64 (z3 : Int)]) := Lib.hid (Blk.new _ _ _)
          have hkq8 : w7.heap.size ≠ q := by have := S7.out.pt.lt; omega
          have hkb8 : base ≤ w7.heap.size := S7.out.pt.le
          have hws : w.heap.size ≤ w7.heap.size := Y7.out.size
          clear AL S7 F7 Y7 v0 v1 v2 u1 u2 RH
          generalize w7.heap.size = k8 at *
          generalize w7.alloc (.cells #[.int .i64 (z1 : Int), .int .i64 (z2 : Int), .int .i64 (z3 : Int)] 111) = w8 at *
          obtain ⟨⟨⟨t1, t2, t3⟩, isd⟩, hop⟩ : ∃ x, opX L E r5 1 = x := ⟨_, rfl⟩
          have OP8 := op_any 1 m w8 base q c E r5 o A L _ S8.out.pt S8.out.mo S8.out.hm S8.out.hq
          rw [hop] at OP8
          have OH8 : Hid (Calls Tryz.prog 162 #[.pointer (some ⟨q, 0, none⟩), .int .i64 1] w8 fun e w' => e = .returned (.tuple #[.agg #[.int .i64 (t1 : Int), .int .i64 (t2 : Int), .int .i64 (t3 : Int)], .bool isd]) ∧ Pt w' base q A c L E (.map (some m)) (.slice A2 (ns5 ++ [nd2 (z1, z2, z3) row row5]).length c2) (if isd = true then r5 + 1 else r5) o ∧ Fq w8.heap.size q w8 w') := Lib.hid OP8
          have HOP8 := Lib.hid hop
          clear OP8 hop
          go_wp2_with (first
            | (go_at_call 162; refine OH8.out.mono ?_; rintro e w9 ⟨rfl, hP, hF⟩; have S9 := Lib.hid (S8.out.read hP hF (by split <;> omega)); have F9 := Lib.hid (F8.out.trans (hF.mono S8.out.pt.le)); have Y9 := Lib.hid (Y8.out.trans (Fy.ofq hF)); have K9 : Hid (Blk w9 k8 111 #[.int .i64 (z1 : Int), .int .i64 (z2 : Int), .int .i64 (z3 : Int)]) := Lib.hid ((Fy.ofq hF).keep k8 111 _ K8.out hkq8 (by decide)); clear hP hF)
            | ((with_reducible refine at_store (t := 111) ?_); refine wpList_store_blk _ rfl 111 _ _ rfl k8 _ 111 [.int .i64 (t1 : Int), .int .i64 (t2 : Int), .int .i64 (t3 : Int)] rfl rfl K9.out rfl Tryz.i111 (by simp [Value.oneCell']) ?_; intro w10 hb10 ho10; have K10 := Lib.hid hb10; have S10 := Lib.hid (S9.out.only ho10 K9.out (by decide) hkb8); have F10 := Lib.hid (F9.out.trans (Fq.of (q := q) (ho10.below hkb8) (Nat.le_refl base))); have Y10 := Lib.hid (Y9.out.only ho10 hws); clear hb10 ho10))
          go_roundw
          case rel => exact ⟨ns5.length, r5, A2, c2, ns5 ++ [nd2 (z1, z2, z3) row row5], k8, t1, t2, t3, isd, rfl, rfl, rfl, by omega, by rw [List.length_append]; simp; omega, hkb8, HOP8, CT5, S10, K10, F10, Y10, by rw [List.length_append]; simp; omega⟩
          case measure =>
            have q1 := S10.out.pt.readAt
            have q2 := S10.out.pt.rd
            rw [q1, RW]
            cases isd <;> simp [onB] at q2 ⊢ <;> omega
set_option maxRecDepth 100000 in
set_option maxHeartbeats 8000000 in
theorem chain_164 (N : Nat) (hf : LvOk N .not 164) (w : World) (base q c E m r o nc : Nat) (A B : Option Addr) (L : List Tk) (ns : List Nd) (h : St w base q A c L E m r o B nc ns) (hN : L.length < r + N) (ho : o ≤ 16) (g : Gx)
    (hg : ∀ n x, bnd (ex L E n (.lv .not) r o ns) (fun row r ns => ex L E n (.lp 2 .not row) r o ns) = some x → ∃ n', ex L E n' g r o ns = some x) :
    Calls Tryz.prog 151 #[.pointer (some ⟨q, 0, none⟩), .int .i64 2, .func (.func 164) #[.pointer (some ⟨q, 0, none⟩)] #[]] w (Out w base q A c L E m r o ns g) := by
  have C1 := Lib.hid (hf w base q A c L E m r o B nc ns h hN ho)
  have GH := Lib.hid hg
  have HF := Lib.hid hf
  have hle := h.pt.le
  have hmany := h.pt.many
  have hfew := h.few
  clear hg hf h
  go_enter Tryz.func151, Tryz.ntmps151
  go_upto_region 2 with (go_at_call 164; refine C1.out.mono ?_; rintro e w1 ⟨n1, x1, hx, hF, hy⟩; have X1 := Lib.hid hx; have F1 := Lib.hid (hF); clear hx hF; rcases x1 with ⟨er, i⟩ | ⟨row1, r1, ns1⟩ <;> first | (have hz : e = .panicked [{ v := .iface 26 (.agg #[.int .i64 er, .int .i64 ((tokAt L E i).at_ : Int)]), recovered := false }] := hy; subst hz; clear hy) | (obtain ⟨rfl, hr1, hn1, hY, B1, nc1, hS⟩ := hy; have S1 := Lib.hid hS; have Y1 := Lib.hid hY; clear hS hY))
  · obtain ⟨n', hx⟩ := GH.out n1 _ (by rw [X1.out]; rfl)
    exact ⟨rfl, n', _, hx, F1.out, rfl⟩
  · have OP1 := Lib.hid (op_any 2 m w1 base q c E r1 o A L _ S1.out.pt S1.out.mo S1.out.hm S1.out.hq)
    have CT : Hid (∀ n x, ex L E n (.lp 2 .not row1) r1 o ns1 = some x → ∃ n', ex L E n' g r o ns = some x) := Lib.hid (fun n x hx => GH.out (max n n1) x (by rw [ex_mono L E n1 _ _ _ _ _ _ (Nat.le_max_right _ _) X1.out]; exact ex_mono L E n _ _ _ _ _ _ (Nat.le_max_left _ _) hx))
    obtain ⟨⟨⟨y1, y2, y3⟩, isb⟩, hop⟩ : ∃ x, opX L E r1 2 = x := ⟨_, rfl⟩
    rw [hop] at OP1
    have OH : Hid (Calls Tryz.prog 162 #[.pointer (some ⟨q, 0, none⟩), .int .i64 2] w1 fun e w' => e = .returned (.tuple #[.agg #[.int .i64 (y1 : Int), .int .i64 (y2 : Int), .int .i64 (y3 : Int)], .bool isb]) ∧ Pt w' base q A c L E (.map (some m)) (.slice B1 ns1.length nc1) (if isb = true then r1 + 1 else r1) o ∧ Fq w1.heap.size q w1 w') := OP1
    have HOP := Lib.hid hop
    clear OP1 hop
    go_upto_region 3 with (go_at_call 162; refine OH.out.mono ?_; rintro e w2 ⟨rfl, hP, hF⟩; have S2 := Lib.hid (S1.out.read hP hF (by split <;> omega)); have F2 := Lib.hid (F1.out.trans (hF.mono S1.out.pt.le)); have Y2 := Lib.hid (Y1.out.trans (Fy.ofq hF)); clear hP hF)
    have AL : Below w2.heap.size w2 (w2.alloc (.cells #[.int .i64 (y1 : Int), .int .i64 (y2 : Int), .int .i64 (y3 : Int)] 111)) := (Below.refl _ _).alloc (Nat.le_refl _) _
    have S3 := Lib.hid (S2.out.on AL)
    have F3 := Lib.hid (F2.out.trans (Fq.of (q := q) AL S2.out.pt.le))
    have Y3 := Lib.hid (Y2.out.trans (Fy.of (q := q) AL))
    have K3 : Hid (Blk (w2.alloc (.cells #[.int .i64 (y1 : Int), .int .i64 (y2 : Int), .int .i64 (y3 : Int)] 111)) w2.heap.size 111 #[.int .i64 (y1 : Int), .int .i64 (y2 : Int), .int .i64 (y3 : Int)]) := Lib.hid (Blk.new _ _ _)
    have hk3 : base ≤ w2.heap.size := S2.out.pt.le
    have hkq : w2.heap.size ≠ q := by have := S2.out.pt.lt; omega
    clear AL S2 F2 Y2 S1 OH
    generalize w2.heap.size = k3 at *
    generalize w2.alloc (.cells #[.int .i64 (y1 : Int), .int .i64 (y2 : Int), .int .i64 (y3 : Int)] 111) = w3 at *
    go_wp2_with fail
    go_loopw [7, 8, 9] (fun v7 v8 v9 wr => ∃ (row r2 : Nat) (B2 : Option Addr) (nc2 : Nat) (ns2 : List Nd) (k y1 y2 y3 : Nat) (isb : Bool), v7 = .int .i64 (row : Int) ∧ v8 = .pointer (some ⟨k, 0, none⟩) ∧ v9 = .bool isb ∧ r ≤ r2 ∧ ns2.length + r ≤ ns.length + r2 ∧ base ≤ k ∧
      Hid (opX L E r2 2 = ((y1, y2, y3), isb)) ∧ Hid (∀ n x, ex L E n (.lp 2 .not row) r2 o ns2 = some x → ∃ n', ex L E n' g r o ns = some x) ∧ Hid (St wr base q A c L E m (if isb = true then r2 + 1 else r2) o B2 nc2 ns2) ∧ Hid (Blk wr k 111 #[.int .i64 (y1 : Int), .int .i64 (y2 : Int), .int .i64 (y3 : Int)]) ∧ Hid (Fq base q w wr) ∧ Hid (Fy q w wr) ∧ ns2.length ≤ r2) (fun _ _ v9 wr => 2 * (L.length + 1 - readAt wr q) + onB v9)
    case atStart => exact ⟨row1, r1, B1, nc1, ns1, k3, y1, y2, y3, isb, rfl, rfl, rfl, hr1, hn1, hk3, HOP, CT, S3, K3, F3, Y3, by omega⟩
    case round =>
      clear hk3 hkq S3 K3 F3 Y3 Y1 HOP CT X1 F1 hr1 hn1
      obtain ⟨row, r2, B2, nc2, ns2, k, z1, z2, z3, isc, rfl, rfl, rfl, hr2, hn2, hk, HOP, CT, S2, K2, F2, Y2, hf2⟩ := hrel
      cases isc with
      | false =>
        obtain ⟨n', hx⟩ := CT.out 1 (.ok (row, r2, ns2)) (by unfold ex; rw [HOP.out]; rfl)
        go_wp2_with fail
        go_ret
        exact ⟨n', _, hx, F2.out, rfl, hr2, hn2, Y2.out, B2, nc2, S2.out⟩
      | true =>
        have hrd : r2 + 1 ≤ L.length := S2.out.pt.rd
        have HF2 := Lib.hid F2.out
        have C5 := Lib.hid (HF.out wr base q A c L E m (r2 + 1) o B2 nc2 ns2 S2.out (by omega) ho)
        have RW : readAt wr q = r2 + 1 := S2.out.pt.readAt
        have hfew2 := S2.out.few
        have hkq : k ≠ q := by have := S2.out.pt.lt; omega
        have hbw : base ≤ wr.heap.size := S2.out.pt.le
        clear C1
        go_upto_region 6 with (go_at_call 164; refine C5.out.mono ?_; rintro e w5 ⟨n5, x5, hx, hF, hy⟩; have X5 := Lib.hid hx; have F5 := Lib.hid (HF2.out.trans hF); clear hx hF; rcases x5 with ⟨er, i⟩ | ⟨row5, r5, ns5⟩ <;> first | (have hz : e = .panicked [{ v := .iface 26 (.agg #[.int .i64 er, .int .i64 ((tokAt L E i).at_ : Int)]), recovered := false }] := hy; subst hz; clear hy) | (obtain ⟨rfl, hr5, hn5, hY, B5, nc5, hS⟩ := hy; have S5 := Lib.hid hS; have Y5 := Lib.hid hY; clear hS hY))
        · obtain ⟨n', hx⟩ := CT.out (n5 + 1) (.error (er, i)) (by unfold ex; rw [HOP.out]; show bnd (ex L E n5 (.lv .not) (r2 + 1) o ns2) _ = _; rw [X5.out]; rfl)
          exact ⟨rfl, n', _, hx, F5.out, rfl⟩
        · have K5 : Hid (Blk w5 k 111 #[.int .i64 (z1 : Int), .int .i64 (z2 : Int), .int .i64 (z3 : Int)]) := Lib.hid (Y5.out.keep k 111 _ K2.out hkq (by decide))
          have Y6 := Lib.hid (Y2.out.trans Y5.out)
          have hlen5 : ns5.length ≤ 1000 := by have := S5.out.few; have := S5.out.pt.rd; have := S5.out.pt.many; omega
          have RH : Hid (Calls Tryz.prog 163 #[.pointer (some ⟨q, 0, none⟩), .agg #[.int .i64 (z2 : Int), .int .i64 (z3 : Int), .int .i64 (row : Int), .int .i64 (row5 : Int), .string ⟨#[]⟩, .string ⟨#[]⟩, .int .i64 0, .int .i64 0, .string ⟨#[]⟩]] w5 fun e w' => e = .returned (.int .i64 (ns5.length : Int)) ∧ ∃ A2 c2, Pt w' base q A c L E (.map (some m)) (.slice A2 (ns5.length + 1) c2) r5 o ∧ Nds w' base A2 (ns5.length + 1) c2 (ns5 ++ [nd2 (z1, z2, z3) row row5]) ∧ Fq base q w5 w' ∧ Fy q w5 w') :=
            Lib.hid (row_any (nd2 (z1, z2, z3) row row5) w5 base q c E r5 o ns5.length nc5 A B5 L _ ns5 S5.out.pt S5.out.nds hlen5)
          have u1 : w5.cell? ⟨k, 1, none⟩ = some (.int .i64 (z2 : Int)) := K5.out.cell 1
          have u2 : w5.cell? ⟨k, 2, none⟩ = some (.int .i64 (z3 : Int)) := K5.out.cell 2
          have CT5 : Hid (∀ n x, ex L E n (.lp 2 .not ns5.length) r5 o (ns5 ++ [nd2 (z1, z2, z3) row row5]) = some x → ∃ n', ex L E n' g r o ns = some x) := Lib.hid (fun n x hx => CT.out (max n n5 + 1) x (by
            unfold ex
            rw [HOP.out]
            show bnd (ex L E (max n n5) (.lv .not) (r2 + 1) o ns2) _ = _
            rw [ex_mono L E n5 _ _ _ _ _ _ (Nat.le_max_right _ _) X5.out]
            exact ex_mono L E n _ _ _ _ _ _ (Nat.le_max_left _ _) hx))
          go_upto_region 7 with (go_at_call 163; refine RH.out.mono ?_; rintro e w7 ⟨rfl, A2, c2, hP, hN2, hF, hY⟩; have S7 : Hid (St w7 base q A c L E m r5 o A2 c2 (ns5 ++ [nd2 (z1, z2, z3) row row5])) := Lib.hid ⟨by rw [List.length_append]; exact hP, by rw [List.length_append]; exact hN2, (hF.block m S5.out.hm S5.out.hq).trans S5.out.mo, S5.out.hm, S5.out.hq, by rw [List.length_append]; simp; omega⟩; have K7 : Hid (Blk w7 k 111 #[.int .i64 (z1 : Int), .int .i64 (z2 : Int), .int .i64 (z3 : Int)]) := Lib.hid (hY.keep k 111 _ K5.out hkq (by decide)); have F7 := Lib.hid (F5.out.trans hF); have Y7 := Lib.hid (Y6.out.trans hY); clear hP hN2 hF hY)
          have hk7 : base ≤ w7.heap.size := S7.out.pt.le
          have v0 : w7.cell? ⟨k, 0, none⟩ = some (.int .i64 (z1 : Int)) := K7.out.cell 0
          have v1 : w7.cell? ⟨k, 1, none⟩ = some (.int .i64 (z2 : Int)) := K7.out.cell 1
          have v2 : w7.cell? ⟨k, 2, none⟩ = some (.int .i64 (z3 : Int)) := K7.out.cell 2
          go_upto_region 4 with fail
          have AL : Below w7.heap.size w7 (w7.alloc (.cells #[.int .i64 (z1 : Int), .int .i64 (z2 : Int), .int .i64 (z3 : Int)] 111)) := (Below.refl _ _).alloc (Nat.le_refl _) _
          have S8 := Lib.hid (S7.out.on AL)
          have F8 := Lib.hid (F7.out.trans (Fq.of (q := q) AL S7.out.pt.le))
          have Y8 := Lib.hid (Y7.out.trans (Fy.of (q := q) AL))
          have K8 : Hid (Blk (w7.alloc (.cells #[.int .i64 (z1 : Int), .int .i64 (z2 : Int), .int .i64 (z3 : Int)] 111)) w7.heap.size 111 #[.int .i64 (z1 : Int), .int .i64 (z2 : Int), .int .i64 (z3 : Int)]) := Lib.hid (Blk.new _ _ _)
          have hkq8 : w7.heap.size ≠ q := by have := S7.out.pt.lt; omega
          have hkb8 : base ≤ w7.heap.size := S7.out.pt.le
          have hws : w.heap.size ≤ w7.heap.size := Y7.out.size
          clear AL S7 F7 Y7 v0 v1 v2 u1 u2 RH
          generalize w7.heap.size = k8 at *
          generalize w7.alloc (.cells #[.int .i64 (z1 : Int), .int .i64 (z2 : Int), .int .i64 (z3 : Int)] 111) = w8 at *
          obtain ⟨⟨⟨t1, t2, t3⟩, isd⟩, hop⟩ : ∃ x, opX L E r5 2 = x := ⟨_, rfl⟩
          have OP8 := op_any 2 m w8 base q c E r5 o A L _ S8.out.pt S8.out.mo S8.out.hm S8.out.hq
          rw [hop] at OP8
          have OH8 : Hid (Calls Tryz.prog 162 #[.pointer (some ⟨q, 0, none⟩), .int .i64 2] w8 fun e w' => e = .returned (.tuple #[.agg #[.int .i64 (t1 : Int), .int .i64 (t2 : Int), .int .i64 (t3 : Int)], .bool isd]) ∧ Pt w' base q A c L E (.map (some m)) (.slice A2 (ns5 ++ [nd2 (z1, z2, z3) row row5]).length c2) (if isd = true then r5 + 1 else r5) o ∧ Fq w8.heap.size q w8 w') := Lib.hid OP8
          have HOP8 := Lib.hid hop
          clear OP8 hop
          go_wp2_with (first
            | (go_at_call 162; refine OH8.out.mono ?_; rintro e w9 ⟨rfl, hP, hF⟩; have S9 := Lib.hid (S8.out.read hP hF (by split <;> omega)); have F9 := Lib.hid (F8.out.trans (hF.mono S8.out.pt.le)); have Y9 := Lib.hid (Y8.out.trans (Fy.ofq hF)); have K9 : Hid (Blk w9 k8 111 #[.int .i64 (z1 : Int), .int .i64 (z2 : Int), .int .i64 (z3 : Int)]) := Lib.hid ((Fy.ofq hF).keep k8 111 _ K8.out hkq8 (by decide)); clear hP hF)
            | ((with_reducible refine at_store (t := 111) ?_); refine wpList_store_blk _ rfl 111 _ _ rfl k8 _ 111 [.int .i64 (t1 : Int), .int .i64 (t2 : Int), .int .i64 (t3 : Int)] rfl rfl K9.out rfl Tryz.i111 (by simp [Value.oneCell']) ?_; intro w10 hb10 ho10; have K10 := Lib.hid hb10; have S10 := Lib.hid (S9.out.only ho10 K9.out (by decide) hkb8); have F10 := Lib.hid (F9.out.trans (Fq.of (q := q) (ho10.below hkb8) (Nat.le_refl base))); have Y10 := Lib.hid (Y9.out.only ho10 hws); clear hb10 ho10))
          go_roundw
          case rel => exact ⟨ns5.length, r5, A2, c2, ns5 ++ [nd2 (z1, z2, z3) row row5], k8, t1, t2, t3, isd, rfl, rfl, rfl, by omega, by rw [List.length_append]; simp; omega, hkb8, HOP8, CT5, S10, K10, F10, Y10, by rw [List.length_append]; simp; omega⟩
          case measure =>
            have q1 := S10.out.pt.readAt
            have q2 := S10.out.pt.rd
            rw [q1, RW]
            cases isd <;> simp [onB] at q2 ⊢ <;> omega
end Go.Proofs.YtiipglmbfgmbbaaGreatDoor
