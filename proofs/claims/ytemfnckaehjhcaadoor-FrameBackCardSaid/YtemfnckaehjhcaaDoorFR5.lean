/-
  A reader of messages in memory: the field Entries.
-/
import Derived.Test.YtemfnckaehjhcaaDoorFR4
namespace Go.Proofs.YtemfnckaehjhcaaDoor
open Go.RowKit
attribute [local go_sem ↓] eqA neA eqGA field1

theorem rdRaw_le (m : Nat) (s : Rs) : (rdRaw m s).1.length ≤ m := by
  unfold rdRaw
  split
  · exact Nat.zero_le _
  · split
    · exact Nat.zero_le _
    · rw [List.length_take]; omega
/-- The Term behind some entries. -/
def tEs : Nat → Int → Rs → Int
  | 0, t, _ => t
  | i + 1, t, s => tEs i (rdEn t s).1.t (rdEn t s).2
theorem rdEs_succ : ∀ (i : Nat) (t : Int) (s : Rs), rdEs (i + 1) t s = ((rdEs i t s).1 ++ [(rdEn (tEs i t s) (rdEs i t s).2).1], (rdEn (tEs i t s) (rdEs i t s).2).2)
  | 0, t, s => rfl
  | i + 1, t, s => by
    rw [rdEs, rdEs_succ i]
    rfl
theorem tEs_succ : ∀ (i : Nat) (t : Int) (s : Rs), tEs (i + 1) t s = (rdEn (tEs i t s) (rdEs i t s).2).1.t
  | 0, t, s => rfl
  | i + 1, t, s => by
    rw [tEs, tEs_succ i]
    rfl
section
variable {w w' : World} {base p q : Nat} {A : Option Addr} {n c : Nat} {zs : List Int} {k : Nat} {r : Rq} {eA : Option Addr} {en ec : Nat} {iA : Option Addr} {im ic : Nat} {dA : Option Addr} {dm dc : Nat}
theorem Fx.q8 (h : Fx w base p q A n c zs k r eA en ec iA im ic dA dm dc) : w.cell? ⟨q, 8, none⟩ = some (.int .u64 r.m.pt) := h.bx.cell 8
/-- Entries grown by one, and stored. -/
theorem Fx.eput (h : Fx w base p q A n c zs k r eA en ec iA im ic dA dm dc) (hg : w.grownBy w' (Value.slice eA en ec).ownBlock) (D : Option Addr) (d1 d2 : Nat) (ys : List En) (ho : Eo w' base D d1 d2 ys) :
    (Fx (w'.setCell ⟨q, 9, none⟩ (.slice D d1 d2)) base p q A n c zs k ⟨{ r.m with es := ys }, r.s⟩ D d1 d2 iA im ic dA dm dc ∧ Below base w (w'.setCell ⟨q, 9, none⟩ (.slice D d1 d2))) ∧ w'.cell? ⟨q, 0, none⟩ = some (.pointer (some ⟨p, 0, none⟩)) ∧ w'.cell? ⟨q, 9, none⟩ = some (.slice eA en ec) ∧ w'.frozen? ⟨q, 9, none⟩ = false := by
  obtain ⟨xs, h1, h2, h3⟩ := h.es
  have hb := row_below h2 h.size hg
  have bx := Blk.row h.bx h2 (by decide) hg
  have rd := Blk.row h.rd h2 (by decide) hg
  have hs := setCell_only w' q 9 (.slice D d1 d2)
  refine ⟨⟨⟨?_, ?_, h.hp, h.hq, (h.by_.below hb).setCell h.hq _, h.kn, h.nc, h.nm, h.cm, h.nl, h.l, ?_, ?_, ?_⟩, hb.trans (hs.below h.hq)⟩, bx.cell 0, bx.cell 9, bx.frozen 9⟩
  · exact Blk.far rd (p := ⟨q, 9, none⟩) h.ne _
  · exact bx.set_ 9 _
  · exact ho.only bx (by decide) (by decide) hs
  · exact World.ownsRow.only (World.ownsRow.row h.mem h2 (by decide) hg) bx (by decide) hs
  · exact ⟨World.ownsRow.only (World.ownsRow.row h.da.1 h2 (by decide) hg) bx (by decide) hs, h.da.2⟩
end

set_option maxRecDepth 100000 in
set_option maxHeartbeats 8000000 in
theorem entries_meth (base p q : Nat) (A : Option Addr) (n c : Nat) (zs : List Int) (r : Rq) (w : World) (hq : Fq base p q A n c zs r w) (hm0 : r.m.es.length ≤ 500000) (hp0 : 0 ≤ r.m.pt) (hp1 : r.m.pt < 18446744073709551616) :
    Calls Tryd.prog 89 #[.pointer (some ⟨q, 0, none⟩)] w fun e w' => e = .returned (.tuple #[]) ∧ Fq base p q A n c zs (rdEnt r) w' ∧ Below base w w' := by
  obtain ⟨i0, hi, hz0, hz1, hz2⟩ := info_parts Tryd.info56
  have HI := Lib.hid hi
  have HZ := Lib.hid hz0
  have HI1 := Lib.hid hz1
  have HI2 := Lib.hid hz2
  clear hi hz0 hz1 hz2
  obtain ⟨k, eA, en, ec, iA, im, ic, dA, dm, dc, h⟩ := hq
  have q8 := h.q8
  have HC := Lib.hid (h.count 8 (by omega))
  have hle := fx_cn_le 8 r.s
  clear h
  unfold rdEnt
  generalize rdCn 8 r.s = xs at *
  obtain ⟨x, s⟩ := xs
  dsimp only at hle ⊢
  go_enter Tryd.func89, Tryd.ntmps89
  go_upto_region 2 with (go_at_call 110; refine HC.out.mono ?_; rintro e w1 ⟨rfl, ⟨k1, hx1⟩, hb1⟩)
  clear HC q8
  go_loopw [2, 13] (fun tv iv wr => ∃ i : Nat, i ≤ x ∧ tv = .int .u64 (tEs i r.m.pt s) ∧ (0 ≤ tEs i r.m.pt s ∧ tEs i r.m.pt s < 18446744073709551616) ∧ iv = .int .i64 i ∧ Fq base p q A n c zs ⟨{ r.m with es := r.m.es ++ (rdEs i r.m.pt s).1 }, (rdEs i r.m.pt s).2⟩ wr ∧ Below base w wr) (fun _ iv _ => x - (intOf iv).toNat)
  case atStart => exact ⟨0, Nat.zero_le _, rfl, ⟨hp0, hp1⟩, rfl, ⟨k1, eA, en, ec, iA, im, ic, dA, dm, dc, by simpa [rdEs] using hx1⟩, hb1⟩
  case round =>
    obtain ⟨i, hi, rfl, ht, rfl, ⟨k2, eB, eb, ed, iB, ib, id_, dB, db, dd, hx⟩, hb⟩ := hrel
    clear hx1
    have hlen := rdEs_len i r.m.pt s
    by_cases hlt : i < x
    · have ki0 : (0 : Int) ≤ (i : Int) := by omega
      have HS := Lib.hid (rdEs_succ i r.m.pt s)
      have HT := Lib.hid (tEs_succ i r.m.pt s)
      have hel : eb ≤ 500010 := by
        have := hx.es.len
        simp at this
        omega
      generalize rdEs i r.m.pt s = R at *
      obtain ⟨es1, s1⟩ := R
      generalize tEs i r.m.pt s = t at *
      dsimp only at hx HS HT hlen
      unfold rdEn at HS HT
      have HH := Lib.hid hx.short
      have hxs := fx_sh_lt hx
      dsimp only at HH hxs
      clear hx
      generalize rdSh s1 = V at *
      obtain ⟨y, s2⟩ := V
      dsimp only at HH hxs HS HT
      go_upto_region 4 with (go_at_call 85; refine HH.out.mono ?_; rintro e w2 ⟨rfl, ⟨k2, hx2⟩, hb2⟩)
      clear HH
      have q02 := hx2.q0
      have hb8 := fx_u8_in hx2
      have HU := Lib.hid hx2.u8
      dsimp only at HU hb8
      generalize rdU8 s2 = V at *
      obtain ⟨z, s3⟩ := V
      dsimp only at HU hb8 HS HT
      clear hx2
      go_upto_region 5 with (go_at_call 84; refine HU.out.mono ?_; rintro e w3 ⟨rfl, ⟨k3, hx3⟩, hb3⟩)
      clear HU q02
      have HB4 := Lib.hid ((Below.refl base w3).drew)
      have q04 := hx3.drew.q0
      have HC := Lib.hid (hx3.drew.count 1024 (by omega))
      have hm := fx_cn_le 1024 s3
      dsimp only at HC
      generalize rdCn 1024 s3 = V at *
      obtain ⟨m, s4⟩ := V
      dsimp only at HC hm HS HT
      clear hx3
      refine wp_region_noPanic ?_
      refine wp_region_held_drew (S := fun w' => w'.cell? ⟨q, 0, none⟩ = some (.pointer (some ⟨p, 0, none⟩))) (by kernel_rfl) q04 (fun hHeld => ?_)
      generalize w3.drew = v0 at *
      refine take_d (i := 0) (d := 26) (v := ?r26) rfl rfl (by kernel_rfl) (by kernel_rfl) (by kernel_rfl) (fun _ _ _ h => h) (Or.inl ⟨by kernel_rfl, ?r26h⟩) hHeld ?r26n
      case r26h => (intro w hSw; (try dsimp only at hSw); go_split_ands; go_simp; (try exact rfl))
      try simp only [Act.put, List.setIfInBounds_toArray, List.set_cons_zero, List.set_cons_succ]
      refine take_d (i := 1) (d := 27) (v := ?r27) rfl rfl (by kernel_rfl) (by kernel_rfl) (by kernel_rfl) (fun _ _ _ h => h) (Or.inl ⟨by kernel_rfl, ?r27h⟩) hHeld ?r27n
      case r27h => (intro w hSw; (try dsimp only at hSw); go_split_ands; go_simp; (try exact rfl))
      try simp only [Act.put, List.setIfInBounds_toArray, List.set_cons_zero, List.set_cons_succ]
      refine take_d (i := 2) (d := 28) (v := ?r28) rfl rfl (by kernel_rfl) (by kernel_rfl) (by kernel_rfl) (fun _ _ _ h => h) (Or.inl ⟨by kernel_rfl, ?r28h⟩) hHeld ?r28n
      case r28h => (intro w hSw; (try dsimp only at hSw); go_split_ands; go_simp; (try exact rfl))
      try simp only [Act.put, List.setIfInBounds_toArray, List.set_cons_zero, List.set_cons_succ]
      refine take_d (i := 3) (d := 29) (v := ?r29) rfl rfl (by kernel_rfl) (by kernel_rfl) (by kernel_rfl) (fun _ _ _ h => h) (Or.inl ⟨by kernel_rfl, ?r29h⟩) hHeld ?r29n
      case r29h => (intro w hSw; (try dsimp only at hSw); go_split_ands; go_simp; (try exact rfl))
      try simp only [Act.put, List.setIfInBounds_toArray, List.set_cons_zero, List.set_cons_succ]
      refine take_d (i := 4) (d := 30) (v := ?r30) rfl rfl (by kernel_rfl) (by kernel_rfl) (by kernel_rfl) (fun _ _ _ h => h) (Or.inl ⟨by kernel_rfl, ?r30h⟩) hHeld ?r30n
      case r30h => (intro w hSw; (try dsimp only at hSw); go_split_ands; go_simp; (try exact rfl))
      try simp only [Act.put, List.setIfInBounds_toArray, List.set_cons_zero, List.set_cons_succ]
      refine take_d (i := 5) (d := 31) (v := ?r31) rfl rfl (by kernel_rfl) (by kernel_rfl) (by kernel_rfl) (fun _ _ _ h => h) (Or.inl ⟨by kernel_rfl, ?r31h⟩) hHeld ?r31n
      case r31h => (intro w hSw; (try dsimp only at hSw); go_split_ands; go_simp; (try exact rfl))
      try simp only [Act.put, List.setIfInBounds_toArray, List.set_cons_zero, List.set_cons_succ]
      refine wpAnyH_ready (rs := [6]) (by kernel_rfl) (by simp) ?_
      refine AllReadyH.cons rfl (fun K hK => ?_) AllReadyH.nil
      go_simp
      refine HC.out.mono ?_
      rintro e w5 ⟨rfl, ⟨k5, hx5⟩, hb5⟩
      refine hK.out _ _ (hx5.q0) (fun hHeld => ?_)
      clear hK K
      try simp only [Act.put, List.setIfInBounds_toArray, List.set_cons_zero, List.set_cons_succ]
      refine wpAnyH_ready (rs := [7]) (by kernel_rfl) (by simp) ?_
      refine AllReadyH.cons rfl (fun K hK => ?_) AllReadyH.nil
      go_simp
      refine (hx5.raw m).mono ?_
      rintro e w6 ⟨D, d2, rfl, ho, ⟨k6, hx6⟩, hb6⟩
      refine hK.out _ _ (hx6.q0) (fun hHeld => ?_)
      clear hK K
      try simp only [Act.put, List.setIfInBounds_toArray, List.set_cons_zero, List.set_cons_succ]
      refine take_d (i := 8) (d := 4) (v := ?r4) rfl rfl (by kernel_rfl) (by kernel_rfl) (by kernel_rfl) (fun _ _ _ h => h) (Or.inl ⟨by kernel_rfl, ?r4h⟩) hHeld ?r4n
      case r4h => (intro w hSw; (try dsimp only at hSw); go_split_ands; go_simp; (try exact rfl))
      try simp only [Act.put, List.setIfInBounds_toArray, List.set_cons_zero, List.set_cons_succ]
      refine wpAnyH_done (by kernel_rfl) ?_ _
      refine NoPanic.normal ?_
      have hml := rdRaw_le m s4
      generalize rdRaw m s4 = V at *
      obtain ⟨ds, s5⟩ := V
      dsimp only at ho hx6 hml HS HT
      have hTw : IntKind.u64.wrap (t + (y : Int)) = (t + (y : Int)) % 18446744073709551616 := by rw [IntKind.wrap_u64]
      have hT0 : 0 ≤ (t + (y : Int)) % 18446744073709551616 := by omega
      have hT1 : (t + (y : Int)) % 18446744073709551616 < 18446744073709551616 := by omega
      rw [hTw]
      generalize (t + (y : Int)) % 18446744073709551616 = T at *
      clear hTw
      have q9 := hx6.q9
      have HBA : Hid (Below w6.heap.size w6 (w6.alloc (.cells #[.int .u64 T, .int .i64 z, .slice D ds.length d2] 56))) := Lib.hid ((Below.refl _ _).alloc (Nat.le_refl _) _)
      have HX7 := Lib.hid (hx6.keep HBA.out)
      have HO7 := Lib.hid (ho.below HBA.out)
      have HB7 : Hid (Blk (w6.alloc (.cells #[.int .u64 T, .int .i64 z, .slice D ds.length d2] 56)) w6.heap.size 56 #[.int .u64 T, .int .i64 z, .slice D ds.length d2]) := Lib.hid (Blk.new w6 56 _)
      have HBT := Lib.hid (((((hb.trans hb2).trans hb3).trans HB4.out).trans hb5).trans hb6)
      have HBU := Lib.hid (HBA.out.mono hx6.size)
      obtain ⟨ys, hy1, hy2, hy3⟩ := HX7.out.es
      have HY1 := Lib.hid hy1
      have HY2 := Lib.hid hy2
      have HY3 := Lib.hid hy3
      have HLN := Lib.hid (show ys.length = eb from by have := HX7.out.es.len; rw [← hy1, List.length_map] at this; exact this)
      clear hy1 hy2 hy3 hx6 ho hb hb2 hb3 HB4 hb5 hb6 q04 HC
      go_wp2_with (at_builtin; refine wpList_append_lies _ rfl (.tmp 39) (.tmp 44) 25 rfl base 56 i0 _ 3 40 Tryd.underlying25 HI.out HZ.out HI1.out HI2.out rfl (by decide) _ eb (rowE ys) rfl HY2.out ⟨w6.heap.size, 0, none⟩ 1 1 [.int .u64 T, .int .i64 z, .slice D ds.length d2] rfl rfl (fun j u hu => by rw [add_at, Nat.zero_add, HB7.out.cell, List.getElem?_toArray]; exact hu) (by simp [Value.oneCell']) (by decide) (by unfold maxLen; omega) (by omega) HX7.out.size _ rfl ?_; intro g9 cap9 w9 hown9 hg9 hat9 hlt9; have E9 : Eo w9 base (some ⟨g9, 0, none⟩) (eb + 1) cap9 ((r.m.es ++ es1) ++ [⟨T, z, ds⟩]) := ⟨ys ++ [⟨T, z, D, ds.length, d2, ds⟩], by rw [List.map_append, HY1.out]; rfl, by rw [rowE_append]; exact hown9, fun x hx => (List.mem_append.1 hx).elim (fun hx => ⟨(HY3.out x hx).1.row HY2.out hg9, (HY3.out x hx).2⟩) (fun hx => by rw [List.mem_singleton.1 hx]; exact ⟨HO7.out.row HY2.out hg9, (show ds.length ≤ 100000 by omega), hT0, hT1⟩)⟩; obtain ⟨⟨hx9, hb9⟩, q09, c99, f99⟩ := HX7.out.eput hg9 _ _ _ _ E9; clear hown9 hg9 hat9 hlt9 E9)
      go_roundw
      case rel => exact ⟨i + 1, by omega, by rw [HT.out], ⟨by rw [HT.out]; exact hT0, by rw [HT.out]; exact hT1⟩, by go_num, ⟨_, _, _, _, _, _, _, _, _, _, by rw [HS.out]; have := hx9; rw [List.append_assoc] at this; exact this⟩, (HBT.out.trans HBU.out).trans hb9⟩
      case measure => simp [intOf]; omega
    · obtain rfl : i = x := by omega
      go_wp2_with (fail)
      refine bodyPost_end (results_none rfl _ _ _) rfl ?_
      exact ⟨rfl, ⟨_, _, _, _, _, _, _, _, _, _, hx⟩, hb⟩

end Go.Proofs.YtemfnckaehjhcaaDoor
