/-
  A reader of messages in memory: the field Conf.
-/
import Derived.Test.YtemfnckaehjhcaaDoorFR3
namespace Go.Proofs.YtemfnckaehjhcaaDoor
open Go.RowKit
attribute [local go_sem ↓] eqA neA eqGA field1

theorem World.ownsRow.row {w w' : World} {base e size n b2 e2 s2 n2 : Nat} {v v2 : Value} {xs xs2 : List Value} (h : w.ownsRow base e size v n xs) (hr : w.ownsRow b2 e2 s2 v2 n2 xs2) (hne : e2 ≠ e) (hg : w.grownBy w' v2.ownBlock) : w'.ownsRow base e size v n xs := by
  refine ⟨h.1, ?_⟩
  rcases h.2 with hv | ⟨g, cap, cur, hv, hbs, hh, r⟩
  · exact .inl hv
  · exact .inr ⟨g, cap, cur, hv, hbs, Blk.row (w := w) (g := g) (t := e) (cs := cur) hh hr hne hg, r⟩
theorem row_below {w w' : World} {base e2 s2 n2 : Nat} {v2 : Value} {xs2 : List Value} (hr : w.ownsRow base e2 s2 v2 n2 xs2) (hb : base ≤ w.heap.size) (hg : w.grownBy w' v2.ownBlock) : Below base w w' :=
  ⟨hg.os, hg.tape, hg.output, hg.size, fun i hi => hg.block i (by omega) (fun e => by have := World.ownsRow.lt hr i e.symm; omega)⟩
section
variable {w w' : World} {base p q : Nat} {A : Option Addr} {n c : Nat} {zs : List Int} {k : Nat} {r : Rq} {eA : Option Addr} {en ec : Nat} {iA : Option Addr} {im ic : Nat} {dA : Option Addr} {dm dc : Nat}
theorem Fx.keep (h : Fx w base p q A n c zs k r eA en ec iA im ic dA dm dc) (hb : Below w.heap.size w w') : Fx w' base p q A n c zs k r eA en ec iA im ic dA dm dc :=
  have hp := Blk.lt h.rd
  ⟨Blk.below h.rd hb (Blk.lt h.rd), h.bx.below hb h.bx.lt, h.hp, h.hq, h.by_.below (hb.mono (Nat.le_trans h.hp (Nat.le_of_lt hp))), h.kn, h.nc, h.nm, h.cm, h.nl, h.l, h.es.below hb, Ios.below h.mem hb, h.da.below hb⟩
theorem Fx.size (h : Fx w base p q A n c zs k r eA en ec iA im ic dA dm dc) : base ≤ w.heap.size := Nat.le_trans h.hp (Nat.le_of_lt (Blk.lt h.rd))
theorem Fx.q12 (h : Fx w base p q A n c zs k r eA en ec iA im ic dA dm dc) : w.cell? ⟨q, 12, none⟩ = some (.slice iA im ic) := h.bx.cell 12
theorem Fx.q9 (h : Fx w base p q A n c zs k r eA en ec iA im ic dA dm dc) : w.cell? ⟨q, 9, none⟩ = some (.slice eA en ec) := h.bx.cell 9
/-- Members grown by one, and stored. -/
theorem Fx.iput (h : Fx w base p q A n c zs k r eA en ec iA im ic dA dm dc) (hg : w.grownBy w' (Value.slice iA im ic).ownBlock) (D : Option Addr) (d1 d2 : Nat) (ys : List Int) (ho : Ios w' base D d1 d2 ys) :
    (Fx (w'.setCell ⟨q, 12, none⟩ (.slice D d1 d2)) base p q A n c zs k ⟨{ r.m with mem := ys }, r.s⟩ eA en ec D d1 d2 dA dm dc ∧ Below base w (w'.setCell ⟨q, 12, none⟩ (.slice D d1 d2))) ∧ w'.cell? ⟨q, 0, none⟩ = some (.pointer (some ⟨p, 0, none⟩)) ∧ w'.cell? ⟨q, 12, none⟩ = some (.slice iA im ic) ∧ w'.frozen? ⟨q, 12, none⟩ = false := by
  have hb := row_below h.mem h.size hg
  have bx := Blk.row h.bx h.mem (by decide) hg
  have rd := Blk.row h.rd h.mem (by decide) hg
  have hs := setCell_only w' q 12 (.slice D d1 d2)
  refine ⟨⟨⟨?_, ?_, h.hp, h.hq, (h.by_.below hb).setCell h.hq _, h.kn, h.nc, h.nm, h.cm, h.nl, h.l, ?_, ?_, ?_⟩, hb.trans (hs.below h.hq)⟩, bx.cell 0, bx.cell 12, bx.frozen 12⟩
  · exact Blk.far rd (p := ⟨q, 12, none⟩) h.ne _
  · exact bx.set_ 12 _
  · obtain ⟨xs, h1, h2, h3⟩ := h.es
    have : Eo w' base eA en ec r.m.es := ⟨xs, h1, World.ownsRow.row h2 h.mem (by decide) hg, fun x hx => ⟨⟨World.ownsRow.row (h3 x hx).1.1 h.mem (by decide) hg, (h3 x hx).1.2⟩, (h3 x hx).2⟩⟩
    exact this.only bx (by decide) (by decide) hs
  · exact World.ownsRow.only ho bx (by decide) hs
  · exact ⟨World.ownsRow.only (World.ownsRow.row h.da.1 h.mem (by decide) hg) bx (by decide) hs, h.da.2⟩
end
/-- append of one int, at a step of a region that draws. -/
theorem step_append_int {w : World} {ops : Array Oper} {E : Prop} {o : Oper} {a : Act} {K : Act → World → Prop} {Q : Exit → Act → World → Prop} (hgd : o.guard = none) (s x : Operand)
    (ho : o.op = .call { callee := .builtin .append, args := #[s, x], argTypes := #[26, 26] }) (base : Nat) (A : Option Addr) (n c : Nat) (zs : List Int) (hs : a.eval s = .slice A n c) (hown : Ios w base A n c zs)
    (p : Nat) (b : Int) (hx : a.eval x = .slice (some ⟨p, 0, none⟩) 1 1) (hp : Blk w p 3 #[.int .i64 b]) (hsum : n + 1 ≤ 1000000) (hbase : base ≤ w.heap.size)
    (h : ∀ A2 c2 w', Ios w' base A2 (n + 1) c2 (zs ++ [b]) → w.grownBy w' (Value.slice A n c).ownBlock → K (a.put o.dst (.slice A2 (n + 1) c2)) w') : if Region.wanted o (yielded ops a.tmps) = true then Oper.wp Tryd.prog o a w K Q else E := by
  obtain ⟨i0, hi, hz0, hz1, hz2⟩ := info_parts Tryd.info3
  have hw : Region.wanted o (yielded ops a.tmps) = true := by simp [Region.wanted, hgd]
  have hnew : ∀ j u, ([b].map (Value.int .i64))[j]? = some u → w.cell? ((⟨p, 0, none⟩ : Addr).add j) = some u := by
    intro j u hj
    have hj0 : j = 0 := by
      have := (List.getElem?_eq_some_iff.1 hj).1
      simpa using this
    subst hj0
    exact (hp.cell 0).trans hj
  rw [if_pos hw]
  refine wp_append_own w s x 26 ho base 3 i0 (.int .i64 0) 1 8 Tryd.underlying26 hi hz0 hz1 hz2 rfl (by decide) _ n _ hs hown ⟨p, 0, none⟩ 1 1 ([b].map (Value.int .i64)) hx rfl hnew (ints_oneCell _ _) (by unfold maxLen; omega) (by omega) hbase ?_
  intro v' w' hown' hg _
  rw [← List.map_append] at hown'
  rcases hown'.2 with ⟨rfl, hl⟩ | ⟨g, cap, cur, rfl, r⟩
  · have := hown'.1
    simp at this
    simp at hl
  · exact h _ _ w' hown' hg

theorem rdMs_succ : ∀ (i : Nat) (s : Rs), rdMs (i + 1) s = ((rdMs i s).1 ++ [(rdU8 (rdMs i s).2).1], (rdU8 (rdMs i s).2).2)
  | 0, s => rfl
  | i + 1, s => by
    rw [rdMs, rdMs_succ i (rdU8 s).2]
    rfl

set_option maxRecDepth 100000 in
set_option maxHeartbeats 8000000 in
theorem conf_meth (base p q : Nat) (A : Option Addr) (n c : Nat) (zs : List Int) (r : Rq) (w : World) (hq : Fq base p q A n c zs r w) (hm0 : r.m.mem.length ≤ 500000) :
    Calls Tryd.prog 90 #[.pointer (some ⟨q, 0, none⟩)] w fun e w' => e = .returned (.tuple #[]) ∧ Fq base p q A n c zs (rdCf r) w' ∧ Below base w w' := by
  obtain ⟨k, eA, en, ec, iA, im, ic, dA, dm, dc, h⟩ := hq
  have HC := Lib.hid (h.count 5 (by omega))
  have hle := fx_cn_le 5 r.s
  clear h
  unfold rdCf
  generalize rdCn 5 r.s = xs at *
  obtain ⟨x, s⟩ := xs
  dsimp only at hle ⊢
  go_enter Tryd.func90, Tryd.ntmps90
  go_upto_region 1 with (go_at_call 110; refine HC.out.mono ?_; rintro e w1 ⟨rfl, ⟨k1, hx1⟩, hb1⟩)
  clear HC
  go_loopw [4] (fun iv wr => ∃ i : Nat, i ≤ x ∧ iv = .int .i64 i ∧ Fq base p q A n c zs ⟨{ r.m with mem := r.m.mem ++ (rdMs i s).1 }, (rdMs i s).2⟩ wr ∧ Below base w wr) (fun iv _ => x - (intOf iv).toNat)
  case atStart => exact ⟨0, Nat.zero_le _, rfl, ⟨k1, eA, en, ec, iA, im, ic, dA, dm, dc, by simpa [rdMs] using hx1⟩, hb1⟩
  case round =>
    obtain ⟨i, hi, rfl, ⟨k2, eB, eb, ed, iB, ib, id_, dB, db, dd, hx⟩, hb⟩ := hrel
    clear hx1
    have hlen := rdMs_len i s
    by_cases hlt : i < x
    · have i0 : (0 : Int) ≤ (i : Int) := by omega
      have HS := Lib.hid (rdMs_succ i s)
      have hb8 := fx_u8_in hx
      have hil : ib ≤ 500010 := by
        have := hx.mem.1
        simp at this
        omega
      generalize hR : rdMs i s = R at *
      obtain ⟨ms, s1⟩ := R
      dsimp only at hx hb8 HS
      have HU := Lib.hid hx.drew.u8
      dsimp only at HU
      generalize rdU8 s1 = V at *
      obtain ⟨v, s2⟩ := V
      dsimp only at hb8 HU HS
      clear hR
      go_upto_region 2 with (fail)
      have HXa := Lib.hid hx.drew
      have HB3 := Lib.hid ((Below.refl base wr).drew)
      have q0 := HXa.out.q0
      clear hx
      refine wp_region_noPanic ?_
      refine wp_region_held_drew (S := fun w' => w'.cell? ⟨q, 0, none⟩ = some (.pointer (some ⟨p, 0, none⟩))) (by kernel_rfl) q0 (fun hHeld => ?_)
      generalize wr.drew = w3 at *
      refine take_d (i := 0) (d := 6) (v := ?a6) rfl rfl (by kernel_rfl) (by kernel_rfl) (by kernel_rfl) (fun _ _ _ h => h) (Or.inl ⟨by kernel_rfl, ?a6h⟩) hHeld ?a6n
      case a6h => (intro w hSw; (try dsimp only at hSw); go_simp; (try exact rfl))
      try simp only [Act.put, List.setIfInBounds_toArray, List.set_cons_zero, List.set_cons_succ]
      refine take_d (i := 1) (d := 7) (v := ?a7) rfl rfl (by kernel_rfl) (by kernel_rfl) (by kernel_rfl) (fun _ _ _ h => h) (Or.inl ⟨by kernel_rfl, ?a7h⟩) hHeld ?a7n
      case a7h => (intro w hSw; (try dsimp only at hSw); go_simp; (try exact rfl))
      try simp only [Act.put, List.setIfInBounds_toArray, List.set_cons_zero, List.set_cons_succ]
      refine take_d (i := 2) (d := 8) (v := ?a8) rfl rfl (by kernel_rfl) (by kernel_rfl) (by kernel_rfl) (fun _ _ _ h => h) (Or.inl ⟨by kernel_rfl, ?a8h⟩) hHeld ?a8n
      case a8h => (intro w hSw; (try dsimp only at hSw); go_simp; (try exact rfl))
      try simp only [Act.put, List.setIfInBounds_toArray, List.set_cons_zero, List.set_cons_succ]
      refine take_d (i := 3) (d := 9) (v := ?a9) rfl rfl (by kernel_rfl) (by kernel_rfl) (by kernel_rfl) (fun _ _ _ h => h) (Or.inl ⟨by kernel_rfl, ?a9h⟩) hHeld ?a9n
      case a9h => (intro w hSw; (try dsimp only at hSw); go_simp; (try exact rfl))
      try simp only [Act.put, List.setIfInBounds_toArray, List.set_cons_zero, List.set_cons_succ]
      refine take_d (i := 4) (d := 10) (v := ?a10) rfl rfl (by kernel_rfl) (by kernel_rfl) (by kernel_rfl) (fun _ _ _ h => h) (Or.inl ⟨by kernel_rfl, ?a10h⟩) hHeld ?a10n
      case a10h => (intro w hSw; (try dsimp only at hSw); go_simp; (try exact rfl))
      try simp only [Act.put, List.setIfInBounds_toArray, List.set_cons_zero, List.set_cons_succ]
      refine take_d (i := 5) (d := 11) (v := ?a11) rfl rfl (by kernel_rfl) (by kernel_rfl) (by kernel_rfl) (fun _ _ _ h => h) (Or.inl ⟨by kernel_rfl, ?a11h⟩) hHeld ?a11n
      case a11h => (intro w hSw; (try dsimp only at hSw); go_simp; (try exact rfl))
      try simp only [Act.put, List.setIfInBounds_toArray, List.set_cons_zero, List.set_cons_succ]
      refine take_d (i := 7) (d := 13) (v := ?a13) rfl rfl (by kernel_rfl) (by kernel_rfl) (by kernel_rfl) (fun _ _ _ h => h) (Or.inl ⟨by kernel_rfl, ?a13h⟩) hHeld ?a13n
      case a13h => (intro w hSw; (try dsimp only at hSw); go_simp; (try exact rfl))
      try simp only [Act.put, List.setIfInBounds_toArray, List.set_cons_zero, List.set_cons_succ]
      refine take_d (i := 8) (d := 14) (v := ?a14) rfl rfl (by kernel_rfl) (by kernel_rfl) (by kernel_rfl) (fun _ _ _ h => h) (Or.inl ⟨by kernel_rfl, ?a14h⟩) hHeld ?a14n
      case a14h => (intro w hSw; (try dsimp only at hSw); go_simp; (try exact rfl))
      try simp only [Act.put, List.setIfInBounds_toArray, List.set_cons_zero, List.set_cons_succ]
      refine take_d (i := 9) (d := 15) (v := ?a15) rfl rfl (by kernel_rfl) (by kernel_rfl) (by kernel_rfl) (fun _ _ _ h => h) (Or.inl ⟨by kernel_rfl, ?a15h⟩) hHeld ?a15n
      case a15h => (intro w hSw; (try dsimp only at hSw); go_simp; (try exact rfl))
      try simp only [Act.put, List.setIfInBounds_toArray, List.set_cons_zero, List.set_cons_succ]
      refine take_d (i := 10) (d := 16) (v := ?a16) rfl rfl (by kernel_rfl) (by kernel_rfl) (by kernel_rfl) (fun _ _ _ h => h) (Or.inl ⟨by kernel_rfl, ?a16h⟩) hHeld ?a16n
      case a16h => (intro w hSw; (try dsimp only at hSw); go_simp; (try exact rfl))
      try simp only [Act.put, List.setIfInBounds_toArray, List.set_cons_zero, List.set_cons_succ]
      refine take_d (i := 11) (d := 17) (v := ?a17) rfl rfl (by kernel_rfl) (by kernel_rfl) (by kernel_rfl) (fun _ _ _ h => h) (Or.inl ⟨by kernel_rfl, ?a17h⟩) hHeld ?a17n
      case a17h => (intro w hSw; (try dsimp only at hSw); go_simp; (try exact rfl))
      try simp only [Act.put, List.setIfInBounds_toArray, List.set_cons_zero, List.set_cons_succ]
      refine wpAnyH_ready (rs := [6, 12]) (by kernel_rfl) (by simp) ?_
      refine AllReadyH.cons rfl (fun K hK => ?_) (AllReadyH.cons rfl (fun K hK => ?_) AllReadyH.nil)
      · skip
        have c12_4 := HXa.out.q12
        go_simp
        refine hK.out _ _ HXa.out.q0 (fun hHeld => ?_)
        clear hK K
        try simp only [Act.put, List.setIfInBounds_toArray, List.set_cons_zero, List.set_cons_succ]
        refine wpAnyH_ready (rs := [12]) (by kernel_rfl) (by simp) ?_
        refine AllReadyH.cons rfl (fun K hK => ?_) AllReadyH.nil
        go_simp
        refine HU.out.mono ?_
        rintro e w4 ⟨rfl, ⟨k4, hx4⟩, hb4⟩
        have HX4 := Lib.hid hx4
        have HB4 := Lib.hid (HB3.out.trans hb4)
        clear hx4 hb4
        refine hK.out _ _ HX4.out.q0 (fun hHeld => ?_)
        clear hK K
        try simp only [Act.put, List.setIfInBounds_toArray, List.set_cons_zero, List.set_cons_succ]
        refine take_d (i := 13) (d := 19) (v := .int .i64 v) rfl rfl (by kernel_rfl) (by kernel_rfl) (by kernel_rfl) (fun _ _ _ h => h) (Or.inl ⟨by kernel_rfl, ?u2_19h⟩) hHeld ?_
        case u2_19h => (intro w hSw; (try dsimp only at hSw); go_simp; exact wrap_small _ (by omega) (by omega))
        try simp only [Act.put, List.setIfInBounds_toArray, List.set_cons_zero, List.set_cons_succ]
        refine wpAnyH_ready (rs := [14]) (by kernel_rfl) (by simp) ?_
        refine AllReadyH.cons rfl (fun K hK => ?_) AllReadyH.nil
        go_simp
        have hbb : Below w4.heap.size w4 (w4.alloc (.cells #[.int .i64 v] 3)) := (Below.refl _ _).alloc (Nat.le_refl _) _
        have HX5 := Lib.hid (HX4.out.keep hbb)
        have HB5 := Lib.hid (HB4.out.trans (hbb.mono HX4.out.size))
        have P7 : Hid (Blk (w4.alloc (.cells #[.int .i64 v] 3)) w4.heap.size 3 #[.int .i64 v]) := Lib.hid (Blk.new w4 3 _)
        refine hK.out _ _ HX5.out.q0 (fun hHeld => ?_)
        clear hK K hbb
        generalize (w4.alloc (.cells #[.int .i64 v] 3)) = w5 at *
        generalize w4.heap.size = p7 at *
        try simp only [Act.put, List.setIfInBounds_toArray, List.set_cons_zero, List.set_cons_succ]
        refine wpAnyH_ready (rs := [15]) (by kernel_rfl) (by simp) ?_
        refine AllReadyH.cons rfl (fun K hK => ?_) AllReadyH.nil
        refine step_append_int rfl (.tmp 12) (.tmp 20) rfl base iB ib id_ _ rfl HX5.out.mem p7 v rfl P7.out (by omega) HX5.out.size ?_
        intro D d2 w9 ho hg
        obtain ⟨⟨hx9, hb9⟩, q09, c129, f129⟩ := HX5.out.iput hg D _ d2 _ ho
        refine hK.out _ _ q09 (fun hHeld => ?_)
        clear hK K
        try simp only [Act.put, List.setIfInBounds_toArray, List.set_cons_zero, List.set_cons_succ]
        refine take_d (i := 16) (d := 22) (v := ?z4_22) rfl rfl (by kernel_rfl) (by kernel_rfl) (by kernel_rfl) (fun _ _ _ h => h) (Or.inl ⟨by kernel_rfl, ?z4_22h⟩) hHeld ?z4_22n
        case z4_22h => (intro w hSw; (try dsimp only at hSw); go_simp; (try exact rfl))
        try simp only [Act.put, List.setIfInBounds_toArray, List.set_cons_zero, List.set_cons_succ]
        refine take_d (i := 17) (d := 23) (v := ?z4_23) rfl rfl (by kernel_rfl) (by kernel_rfl) (by kernel_rfl) (fun _ _ _ h => h) (Or.inl ⟨by kernel_rfl, ?z4_23h⟩) hHeld ?z4_23n
        case z4_23h => (intro w hSw; (try dsimp only at hSw); go_simp; (try exact rfl))
        try simp only [Act.put, List.setIfInBounds_toArray, List.set_cons_zero, List.set_cons_succ]
        refine take_d (i := 18) (d := 24) (v := ?z4_24) rfl rfl (by kernel_rfl) (by kernel_rfl) (by kernel_rfl) (fun _ _ _ h => h) (Or.inl ⟨by kernel_rfl, ?z4_24h⟩) hHeld ?z4_24n
        case z4_24h => (intro w hSw; (try dsimp only at hSw); go_simp; (try exact rfl))
        try simp only [Act.put, List.setIfInBounds_toArray, List.set_cons_zero, List.set_cons_succ]
        refine take_d (i := 19) (d := 25) (v := ?z4_25) rfl rfl (by kernel_rfl) (by kernel_rfl) (by kernel_rfl) (fun _ _ _ h => h) (Or.inl ⟨by kernel_rfl, ?z4_25h⟩) hHeld ?z4_25n
        case z4_25h => (intro w hSw; (try dsimp only at hSw); go_simp; (try exact rfl))
        try simp only [Act.put, List.setIfInBounds_toArray, List.set_cons_zero, List.set_cons_succ]
        refine wpAnyH_ready (rs := [20]) (by kernel_rfl) (by simp) ?_
        refine AllReadyH.cons rfl (fun K hK => ?_) AllReadyH.nil
        go_simp
        refine hK.out _ _ hx9.q0 (fun hHeld => ?_)
        clear hK K
        try simp only [Act.put, List.setIfInBounds_toArray, List.set_cons_zero, List.set_cons_succ]
        refine wpAnyH_done (by kernel_rfl) ?_ _
        refine NoPanic.normal ?_
        clear ho hg q09 c129 f129
        generalize w9.setCell ⟨q, 12, none⟩ _ = w10 at *
        go_wp2_with fail
        go_roundw
        case rel => exact ⟨i + 1, by omega, by go_num, ⟨_, _, _, _, _, _, _, _, _, _, by rw [HS.out]; have := hx9; rw [List.append_assoc] at this; exact this⟩, (hb.trans HB5.out).trans hb9⟩
        case measure => simp [intOf]; omega
      · skip
        go_simp
        refine HU.out.mono ?_
        rintro e w4 ⟨rfl, ⟨k4, hx4⟩, hb4⟩
        have HX4 := Lib.hid hx4
        have HB4 := Lib.hid (HB3.out.trans hb4)
        clear hx4 hb4
        refine hK.out _ _ HX4.out.q0 (fun hHeld => ?_)
        clear hK K
        try simp only [Act.put, List.setIfInBounds_toArray, List.set_cons_zero, List.set_cons_succ]
        refine take_d (i := 13) (d := 19) (v := .int .i64 v) rfl rfl (by kernel_rfl) (by kernel_rfl) (by kernel_rfl) (fun _ _ _ h => h) (Or.inl ⟨by kernel_rfl, ?u5_19h⟩) hHeld ?_
        case u5_19h => (intro w hSw; (try dsimp only at hSw); go_simp; exact wrap_small _ (by omega) (by omega))
        try simp only [Act.put, List.setIfInBounds_toArray, List.set_cons_zero, List.set_cons_succ]
        refine wpAnyH_ready (rs := [6, 14]) (by kernel_rfl) (by simp) ?_
        refine AllReadyH.cons rfl (fun K hK => ?_) (AllReadyH.cons rfl (fun K hK => ?_) AllReadyH.nil)
        · skip
          have c12_5 := HX4.out.q12
          go_simp
          refine hK.out _ _ HX4.out.q0 (fun hHeld => ?_)
          clear hK K
          try simp only [Act.put, List.setIfInBounds_toArray, List.set_cons_zero, List.set_cons_succ]
          refine wpAnyH_ready (rs := [14]) (by kernel_rfl) (by simp) ?_
          refine AllReadyH.cons rfl (fun K hK => ?_) AllReadyH.nil
          go_simp
          have hbb : Below w4.heap.size w4 (w4.alloc (.cells #[.int .i64 v] 3)) := (Below.refl _ _).alloc (Nat.le_refl _) _
          have HX5 := Lib.hid (HX4.out.keep hbb)
          have HB5 := Lib.hid (HB4.out.trans (hbb.mono HX4.out.size))
          have P7 : Hid (Blk (w4.alloc (.cells #[.int .i64 v] 3)) w4.heap.size 3 #[.int .i64 v]) := Lib.hid (Blk.new w4 3 _)
          refine hK.out _ _ HX5.out.q0 (fun hHeld => ?_)
          clear hK K hbb
          generalize (w4.alloc (.cells #[.int .i64 v] 3)) = w5 at *
          generalize w4.heap.size = p7 at *
          try simp only [Act.put, List.setIfInBounds_toArray, List.set_cons_zero, List.set_cons_succ]
          refine wpAnyH_ready (rs := [15]) (by kernel_rfl) (by simp) ?_
          refine AllReadyH.cons rfl (fun K hK => ?_) AllReadyH.nil
          refine step_append_int rfl (.tmp 12) (.tmp 20) rfl base iB ib id_ _ rfl HX5.out.mem p7 v rfl P7.out (by omega) HX5.out.size ?_
          intro D d2 w9 ho hg
          obtain ⟨⟨hx9, hb9⟩, q09, c129, f129⟩ := HX5.out.iput hg D _ d2 _ ho
          refine hK.out _ _ q09 (fun hHeld => ?_)
          clear hK K
          try simp only [Act.put, List.setIfInBounds_toArray, List.set_cons_zero, List.set_cons_succ]
          refine take_d (i := 16) (d := 22) (v := ?z8_22) rfl rfl (by kernel_rfl) (by kernel_rfl) (by kernel_rfl) (fun _ _ _ h => h) (Or.inl ⟨by kernel_rfl, ?z8_22h⟩) hHeld ?z8_22n
          case z8_22h => (intro w hSw; (try dsimp only at hSw); go_simp; (try exact rfl))
          try simp only [Act.put, List.setIfInBounds_toArray, List.set_cons_zero, List.set_cons_succ]
          refine take_d (i := 17) (d := 23) (v := ?z8_23) rfl rfl (by kernel_rfl) (by kernel_rfl) (by kernel_rfl) (fun _ _ _ h => h) (Or.inl ⟨by kernel_rfl, ?z8_23h⟩) hHeld ?z8_23n
          case z8_23h => (intro w hSw; (try dsimp only at hSw); go_simp; (try exact rfl))
          try simp only [Act.put, List.setIfInBounds_toArray, List.set_cons_zero, List.set_cons_succ]
          refine take_d (i := 18) (d := 24) (v := ?z8_24) rfl rfl (by kernel_rfl) (by kernel_rfl) (by kernel_rfl) (fun _ _ _ h => h) (Or.inl ⟨by kernel_rfl, ?z8_24h⟩) hHeld ?z8_24n
          case z8_24h => (intro w hSw; (try dsimp only at hSw); go_simp; (try exact rfl))
          try simp only [Act.put, List.setIfInBounds_toArray, List.set_cons_zero, List.set_cons_succ]
          refine take_d (i := 19) (d := 25) (v := ?z8_25) rfl rfl (by kernel_rfl) (by kernel_rfl) (by kernel_rfl) (fun _ _ _ h => h) (Or.inl ⟨by kernel_rfl, ?z8_25h⟩) hHeld ?z8_25n
          case z8_25h => (intro w hSw; (try dsimp only at hSw); go_simp; (try exact rfl))
          try simp only [Act.put, List.setIfInBounds_toArray, List.set_cons_zero, List.set_cons_succ]
          refine wpAnyH_ready (rs := [20]) (by kernel_rfl) (by simp) ?_
          refine AllReadyH.cons rfl (fun K hK => ?_) AllReadyH.nil
          go_simp
          refine hK.out _ _ hx9.q0 (fun hHeld => ?_)
          clear hK K
          try simp only [Act.put, List.setIfInBounds_toArray, List.set_cons_zero, List.set_cons_succ]
          refine wpAnyH_done (by kernel_rfl) ?_ _
          refine NoPanic.normal ?_
          clear ho hg q09 c129 f129
          generalize w9.setCell ⟨q, 12, none⟩ _ = w10 at *
          go_wp2_with fail
          go_roundw
          case rel => exact ⟨i + 1, by omega, by go_num, ⟨_, _, _, _, _, _, _, _, _, _, by rw [HS.out]; have := hx9; rw [List.append_assoc] at this; exact this⟩, (hb.trans HB5.out).trans hb9⟩
          case measure => simp [intOf]; omega
        · skip
          go_simp
          have hbb : Below w4.heap.size w4 (w4.alloc (.cells #[.int .i64 v] 3)) := (Below.refl _ _).alloc (Nat.le_refl _) _
          have HX5 := Lib.hid (HX4.out.keep hbb)
          have HB5 := Lib.hid (HB4.out.trans (hbb.mono HX4.out.size))
          have P7 : Hid (Blk (w4.alloc (.cells #[.int .i64 v] 3)) w4.heap.size 3 #[.int .i64 v]) := Lib.hid (Blk.new w4 3 _)
          refine hK.out _ _ HX5.out.q0 (fun hHeld => ?_)
          clear hK K hbb
          generalize (w4.alloc (.cells #[.int .i64 v] 3)) = w5 at *
          generalize w4.heap.size = p7 at *
          try simp only [Act.put, List.setIfInBounds_toArray, List.set_cons_zero, List.set_cons_succ]
          refine wpAnyH_ready (rs := [6]) (by kernel_rfl) (by simp) ?_
          refine AllReadyH.cons rfl (fun K hK => ?_) AllReadyH.nil
          have c12_6 := HX5.out.q12
          go_simp
          refine hK.out _ _ HX5.out.q0 (fun hHeld => ?_)
          clear hK K
          try simp only [Act.put, List.setIfInBounds_toArray, List.set_cons_zero, List.set_cons_succ]
          refine wpAnyH_ready (rs := [15]) (by kernel_rfl) (by simp) ?_
          refine AllReadyH.cons rfl (fun K hK => ?_) AllReadyH.nil
          refine step_append_int rfl (.tmp 12) (.tmp 20) rfl base iB ib id_ _ rfl HX5.out.mem p7 v rfl P7.out (by omega) HX5.out.size ?_
          intro D d2 w9 ho hg
          obtain ⟨⟨hx9, hb9⟩, q09, c129, f129⟩ := HX5.out.iput hg D _ d2 _ ho
          refine hK.out _ _ q09 (fun hHeld => ?_)
          clear hK K
          try simp only [Act.put, List.setIfInBounds_toArray, List.set_cons_zero, List.set_cons_succ]
          refine take_d (i := 16) (d := 22) (v := ?z11_22) rfl rfl (by kernel_rfl) (by kernel_rfl) (by kernel_rfl) (fun _ _ _ h => h) (Or.inl ⟨by kernel_rfl, ?z11_22h⟩) hHeld ?z11_22n
          case z11_22h => (intro w hSw; (try dsimp only at hSw); go_simp; (try exact rfl))
          try simp only [Act.put, List.setIfInBounds_toArray, List.set_cons_zero, List.set_cons_succ]
          refine take_d (i := 17) (d := 23) (v := ?z11_23) rfl rfl (by kernel_rfl) (by kernel_rfl) (by kernel_rfl) (fun _ _ _ h => h) (Or.inl ⟨by kernel_rfl, ?z11_23h⟩) hHeld ?z11_23n
          case z11_23h => (intro w hSw; (try dsimp only at hSw); go_simp; (try exact rfl))
          try simp only [Act.put, List.setIfInBounds_toArray, List.set_cons_zero, List.set_cons_succ]
          refine take_d (i := 18) (d := 24) (v := ?z11_24) rfl rfl (by kernel_rfl) (by kernel_rfl) (by kernel_rfl) (fun _ _ _ h => h) (Or.inl ⟨by kernel_rfl, ?z11_24h⟩) hHeld ?z11_24n
          case z11_24h => (intro w hSw; (try dsimp only at hSw); go_simp; (try exact rfl))
          try simp only [Act.put, List.setIfInBounds_toArray, List.set_cons_zero, List.set_cons_succ]
          refine take_d (i := 19) (d := 25) (v := ?z11_25) rfl rfl (by kernel_rfl) (by kernel_rfl) (by kernel_rfl) (fun _ _ _ h => h) (Or.inl ⟨by kernel_rfl, ?z11_25h⟩) hHeld ?z11_25n
          case z11_25h => (intro w hSw; (try dsimp only at hSw); go_simp; (try exact rfl))
          try simp only [Act.put, List.setIfInBounds_toArray, List.set_cons_zero, List.set_cons_succ]
          refine wpAnyH_ready (rs := [20]) (by kernel_rfl) (by simp) ?_
          refine AllReadyH.cons rfl (fun K hK => ?_) AllReadyH.nil
          go_simp
          refine hK.out _ _ hx9.q0 (fun hHeld => ?_)
          clear hK K
          try simp only [Act.put, List.setIfInBounds_toArray, List.set_cons_zero, List.set_cons_succ]
          refine wpAnyH_done (by kernel_rfl) ?_ _
          refine NoPanic.normal ?_
          clear ho hg q09 c129 f129
          generalize w9.setCell ⟨q, 12, none⟩ _ = w10 at *
          go_wp2_with fail
          go_roundw
          case rel => exact ⟨i + 1, by omega, by go_num, ⟨_, _, _, _, _, _, _, _, _, _, by rw [HS.out]; have := hx9; rw [List.append_assoc] at this; exact this⟩, (hb.trans HB5.out).trans hb9⟩
          case measure => simp [intOf]; omega
    · obtain rfl : i = x := by omega
      go_wp2_with (fail)
      refine bodyPost_end (results_none rfl _ _ _) rfl ?_
      exact ⟨rfl, ⟨_, _, _, _, _, _, _, _, _, _, hx⟩, hb⟩

end Go.Proofs.YtemfnckaehjhcaaDoor
