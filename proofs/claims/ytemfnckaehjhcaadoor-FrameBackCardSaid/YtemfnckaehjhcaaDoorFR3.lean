/-
  A reader of messages in memory: bytes of its own, the field Data.
-/
import Derived.Test.YtemfnckaehjhcaaDoorFR2
namespace Go.Proofs.YtemfnckaehjhcaaDoor
open Go.RowKit
attribute [local go_sem ↓] eqA neA eqGA field1

section
variable {w w' : World} {base p q : Nat} {A : Option Addr} {n c : Nat} {zs : List Int} {k : Nat} {r : Rq} {eA : Option Addr} {en ec : Nat} {iA : Option Addr} {im ic : Nat} {dA : Option Addr} {dm dc : Nat}
theorem raw_rd (hk : k ≤ zs.length) (m : Nat) (er : Int) (wr : Bool) : rdRaw m ⟨zs.drop k, er, wr⟩ = (nBytes zs k er m, ⟨zs.drop (nAt zs.length k er m), nErr zs.length k er m, wr⟩) := by
  unfold rdRaw nBytes nAt nErr okN
  by_cases he : er = 0
  · subst he
    have h0 : ¬ ((m : Int) < 0) := by omega
    by_cases hl : zs.length - k < m
    · have h1 : ¬ (m : Int) ≤ (zs.length : Int) - k := by omega
      have h2 : (zs.length : Int) - k < m := by omega
      simp [hl, h1, h2, h0]
    · have h1 : (m : Int) ≤ (zs.length : Int) - k := by omega
      have h2 : ¬ (zs.length : Int) - k < m := by omega
      simp [hl, h1, h2, h0]
  · simp [he]
theorem Fx.raw (h : Fx w base p q A n c zs k r eA en ec iA im ic dA dm dc) (m : Nat) :
    Calls Tryd.prog 111 #[.pointer (some ⟨p, 0, none⟩), .int .i64 (m : Int)] w fun e w' => ∃ A' c', e = .returned (.slice A' (rdRaw m r.s).1.length c') ∧ Own w' base A' (rdRaw m r.s).1.length c' (rdRaw m r.s).1 ∧ (∃ k', Fx w' base p q A n c zs k' ⟨r.m, (rdRaw m r.s).2⟩ eA en ec iA im ic dA dm dc) ∧ Below base w w' := by
  have hz := h.by_.1
  have hr := raw_rd (zs := zs) (k := k) (by rw [hz]; exact h.kn) m r.s.e r.s.wr
  have hrs : r.s = ⟨zs.drop k, r.s.e, r.s.wr⟩ := by rw [← h.l]
  refine (raw_any p k r.s.e m A n c zs w h.rd (h.by_.more h.hp) h.kn h.nc h.nm).mono ?_
  rintro e w' ⟨A', c', rfl, ho, hm⟩
  obtain ⟨h1, h2⟩ := h.moved hm (nAt_le _ _ _ _ h.kn)
  rw [hrs, hr, hz]
  exact ⟨A', c', rfl, ho.down (Nat.le_trans h.hp (Nat.le_of_lt (Blk.lt h.rd))), ⟨_, h1⟩, h2⟩
/-- What comes of a store of other Data. -/
theorem Fx.putD (h : Fx w base p q A n c zs k r eA en ec iA im ic dA dm dc) (D : Option Addr) (d1 d2 : Nat) (ys : List Int) (ho : Own w base D d1 d2 ys) :
    Fx (w.setCell ⟨q, 13, none⟩ (.slice D d1 d2)) base p q A n c zs k ⟨{ r.m with da := ys }, r.s⟩ eA en ec iA im ic D d1 d2 ∧ Below base w (w.setCell ⟨q, 13, none⟩ (.slice D d1 d2)) := by
  have hs := setCell_only w q 13 (.slice D d1 d2)
  refine ⟨⟨?_, ?_, h.hp, h.hq, h.by_.setCell h.hq _, h.kn, h.nc, h.nm, h.cm, h.nl, h.l, ?_, ?_, ?_⟩, hs.below h.hq⟩
  · exact Blk.far h.rd (p := ⟨q, 13, none⟩) h.ne _
  · exact h.bx.set_ 13 _
  · exact h.es.only h.bx (by decide) (by decide) hs
  · exact World.ownsRow.only h.mem h.bx (by decide) hs
  · exact ⟨World.ownsRow.only ho.1 h.bx (by decide) hs, ho.2⟩
theorem Fx.putI (h : Fx w base p q A n c zs k r eA en ec iA im ic dA dm dc) (D : Option Addr) (d1 d2 : Nat) (ys : List Int) (ho : Ios w base D d1 d2 ys) :
    Fx (w.setCell ⟨q, 12, none⟩ (.slice D d1 d2)) base p q A n c zs k ⟨{ r.m with mem := ys }, r.s⟩ eA en ec D d1 d2 dA dm dc ∧ Below base w (w.setCell ⟨q, 12, none⟩ (.slice D d1 d2)) := by
  have hs := setCell_only w q 12 (.slice D d1 d2)
  refine ⟨⟨?_, ?_, h.hp, h.hq, h.by_.setCell h.hq _, h.kn, h.nc, h.nm, h.cm, h.nl, h.l, ?_, ?_, ?_⟩, hs.below h.hq⟩
  · exact Blk.far h.rd (p := ⟨q, 12, none⟩) h.ne _
  · exact h.bx.set_ 12 _
  · exact h.es.only h.bx (by decide) (by decide) hs
  · exact World.ownsRow.only ho h.bx (by decide) hs
  · exact ⟨World.ownsRow.only h.da.1 h.bx (by decide) hs, h.da.2⟩
theorem Fx.putE (h : Fx w base p q A n c zs k r eA en ec iA im ic dA dm dc) (D : Option Addr) (d1 d2 : Nat) (ys : List En) (ho : Eo w base D d1 d2 ys) :
    Fx (w.setCell ⟨q, 9, none⟩ (.slice D d1 d2)) base p q A n c zs k ⟨{ r.m with es := ys }, r.s⟩ D d1 d2 iA im ic dA dm dc ∧ Below base w (w.setCell ⟨q, 9, none⟩ (.slice D d1 d2)) := by
  have hs := setCell_only w q 9 (.slice D d1 d2)
  refine ⟨⟨?_, ?_, h.hp, h.hq, h.by_.setCell h.hq _, h.kn, h.nc, h.nm, h.cm, h.nl, h.l, ?_, ?_, ?_⟩, hs.below h.hq⟩
  · exact Blk.far h.rd (p := ⟨q, 9, none⟩) h.ne _
  · exact h.bx.set_ 9 _
  · exact ho.only h.bx (by decide) (by decide) hs
  · exact World.ownsRow.only h.mem h.bx (by decide) hs
  · exact ⟨World.ownsRow.only h.da.1 h.bx (by decide) hs, h.da.2⟩
end
theorem fx_cn_le (lim : Nat) (s : Rs) : (rdCn lim s).1 ≤ lim := by
  unfold rdCn
  split
  · exact Nat.zero_le _
  · rename_i h
    simp [rdHold] at h
    exact h.2

set_option maxRecDepth 100000 in
theorem data_meth : Meth 91 rdDa := by
  rintro base p q A n c zs r w ⟨k, eA, en, ec, iA, im, ic, dA, dm, dc, h⟩
  have D0 := Lib.hid ((Below.refl base w).drew)
  have q0 := h.drew.q0
  have HC := Lib.hid (h.drew.count 65536 (by omega))
  clear h
  unfold rdDa
  generalize rdCn 65536 r.s = xs at *
  obtain ⟨x, s⟩ := xs
  go_enter Tryd.func91, Tryd.ntmps91
  go_wp2
  refine wp_region_noPanic ?_
  refine wp_region_held_drew (S := fun w' => w'.cell? ⟨q, 0, none⟩ = some (.pointer (some ⟨p, 0, none⟩))) (by kernel_rfl) q0 (fun hHeld => ?_)
  generalize w.drew = v0 at *
  refine take_d (i := 0) (d := 2) (v := ?r2) rfl rfl (by kernel_rfl) (by kernel_rfl) (by kernel_rfl) (fun _ _ _ h => h) (Or.inl ⟨by kernel_rfl, ?r2h⟩) hHeld ?r2n
  case r2h => (intro w hSw; (try dsimp only at hSw); go_split_ands; go_simp; (try exact rfl))
  try simp only [Act.put, List.setIfInBounds_toArray, List.set_cons_zero, List.set_cons_succ]
  refine take_d (i := 1) (d := 3) (v := ?r3) rfl rfl (by kernel_rfl) (by kernel_rfl) (by kernel_rfl) (fun _ _ _ h => h) (Or.inl ⟨by kernel_rfl, ?r3h⟩) hHeld ?r3n
  case r3h => (intro w hSw; (try dsimp only at hSw); go_split_ands; go_simp; (try exact rfl))
  try simp only [Act.put, List.setIfInBounds_toArray, List.set_cons_zero, List.set_cons_succ]
  refine take_d (i := 2) (d := 4) (v := ?r4) rfl rfl (by kernel_rfl) (by kernel_rfl) (by kernel_rfl) (fun _ _ _ h => h) (Or.inl ⟨by kernel_rfl, ?r4h⟩) hHeld ?r4n
  case r4h => (intro w hSw; (try dsimp only at hSw); go_split_ands; go_simp; (try exact rfl))
  try simp only [Act.put, List.setIfInBounds_toArray, List.set_cons_zero, List.set_cons_succ]
  refine take_d (i := 3) (d := 5) (v := ?r5) rfl rfl (by kernel_rfl) (by kernel_rfl) (by kernel_rfl) (fun _ _ _ h => h) (Or.inl ⟨by kernel_rfl, ?r5h⟩) hHeld ?r5n
  case r5h => (intro w hSw; (try dsimp only at hSw); go_split_ands; go_simp; (try exact rfl))
  try simp only [Act.put, List.setIfInBounds_toArray, List.set_cons_zero, List.set_cons_succ]
  refine take_d (i := 4) (d := 6) (v := ?r6) rfl rfl (by kernel_rfl) (by kernel_rfl) (by kernel_rfl) (fun _ _ _ h => h) (Or.inl ⟨by kernel_rfl, ?r6h⟩) hHeld ?r6n
  case r6h => (intro w hSw; (try dsimp only at hSw); go_split_ands; go_simp; (try exact rfl))
  try simp only [Act.put, List.setIfInBounds_toArray, List.set_cons_zero, List.set_cons_succ]
  refine take_d (i := 5) (d := 7) (v := ?r7) rfl rfl (by kernel_rfl) (by kernel_rfl) (by kernel_rfl) (fun _ _ _ h => h) (Or.inl ⟨by kernel_rfl, ?r7h⟩) hHeld ?r7n
  case r7h => (intro w hSw; (try dsimp only at hSw); go_split_ands; go_simp; (try exact rfl))
  try simp only [Act.put, List.setIfInBounds_toArray, List.set_cons_zero, List.set_cons_succ]
  refine take_d (i := 6) (d := 8) (v := ?r8) rfl rfl (by kernel_rfl) (by kernel_rfl) (by kernel_rfl) (fun _ _ _ h => h) (Or.inl ⟨by kernel_rfl, ?r8h⟩) hHeld ?r8n
  case r8h => (intro w hSw; (try dsimp only at hSw); go_split_ands; go_simp; (try exact rfl))
  try simp only [Act.put, List.setIfInBounds_toArray, List.set_cons_zero, List.set_cons_succ]
  refine wpAnyH_ready (rs := [7]) (by kernel_rfl) (by simp) ?_
  refine AllReadyH.cons rfl (fun K hK => ?_) AllReadyH.nil
  go_simp
  refine HC.out.mono ?_
  rintro e w1 ⟨rfl, ⟨k1, hx1⟩, hb1⟩
  refine hK.out _ _ (hx1.q0) (fun hHeld => ?_)
  clear hK K
  try simp only [Act.put, List.setIfInBounds_toArray, List.set_cons_zero, List.set_cons_succ]
  refine wpAnyH_ready (rs := [8]) (by kernel_rfl) (by simp) ?_
  refine AllReadyH.cons rfl (fun K hK => ?_) AllReadyH.nil
  go_simp
  refine (hx1.raw x).mono ?_
  rintro e w2 ⟨D, d2, rfl, ho, ⟨k2, hx2⟩, hb2⟩
  have f2 : w2.frozen? ⟨q, 13, none⟩ = false := hx2.bx.frozen 13
  have c2 := hx2.bx.cell 13
  refine hK.out _ _ (hx2.q0) (fun hHeld => ?_)
  clear hK K
  try simp only [Act.put, List.setIfInBounds_toArray, List.set_cons_zero, List.set_cons_succ]
  refine take_d (i := 9) (d := 11) (v := ?r11) rfl rfl (by kernel_rfl) (by kernel_rfl) (by kernel_rfl) (fun _ _ _ h => h) (Or.inl ⟨by kernel_rfl, ?r11h⟩) hHeld ?r11n
  case r11h => (intro w hSw; (try dsimp only at hSw); go_split_ands; go_simp; (try exact rfl))
  try simp only [Act.put, List.setIfInBounds_toArray, List.set_cons_zero, List.set_cons_succ]
  refine take_d (i := 10) (d := 12) (v := ?r12) rfl rfl (by kernel_rfl) (by kernel_rfl) (by kernel_rfl) (fun _ _ _ h => h) (Or.inl ⟨by kernel_rfl, ?r12h⟩) hHeld ?r12n
  case r12h => (intro w hSw; (try dsimp only at hSw); go_split_ands; go_simp; (try exact rfl))
  try simp only [Act.put, List.setIfInBounds_toArray, List.set_cons_zero, List.set_cons_succ]
  refine take_d (i := 11) (d := 13) (v := ?r13) rfl rfl (by kernel_rfl) (by kernel_rfl) (by kernel_rfl) (fun _ _ _ h => h) (Or.inl ⟨by kernel_rfl, ?r13h⟩) hHeld ?r13n
  case r13h => (intro w hSw; (try dsimp only at hSw); go_split_ands; go_simp; (try exact rfl))
  try simp only [Act.put, List.setIfInBounds_toArray, List.set_cons_zero, List.set_cons_succ]
  refine wpAnyH_ready (rs := [12]) (by kernel_rfl) (by simp) ?_
  refine AllReadyH.cons rfl (fun K hK => ?_) AllReadyH.nil
  go_simp
  obtain ⟨hx3, hb3⟩ := hx2.putD D _ d2 _ ho
  refine hK.out _ _ hx3.q0 (fun hHeld => ?_)
  clear hK K
  try simp only [Act.put, List.setIfInBounds_toArray, List.set_cons_zero, List.set_cons_succ]
  refine wpAnyH_done (by kernel_rfl) ?_ _
  refine NoPanic.normal ?_
  go_wp2
  refine bodyPost_end (results_none rfl _ _ _) rfl ?_
  exact ⟨rfl, ⟨_, _, _, _, _, _, _, _, _, _, hx3⟩, ((D0.out.trans hb1).trans hb2).trans hb3⟩

end Go.Proofs.YtemfnckaehjhcaaDoor
