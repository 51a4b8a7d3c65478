/-
  A reader of messages in memory: how it stands, and its methods on numbers.
-/
import Derived.Test.YtemfnckaehjhcaaDoorFV2
import Derived.Test.YtemfnckaehjhcaaDoorRdA
namespace Go.Proofs.YtemfnckaehjhcaaDoor
open Go.RowKit
attribute [local go_sem ↓] eqA neA eqGA field1

theorem World.ownsRow.held {w w' : World} {base e size n g : Nat} {t : TypeId} {cs : Array Value} {v : Value} {xs : List Value} (h : w.ownsRow base e size v n xs) (hg : Blk w g t cs) (hne : e ≠ t) (hw : w.grownBy w' (some g)) : w'.ownsRow base e size v n xs := by
  refine World.ownsRow.kept h hw ?_
  rcases h.2 with ⟨rfl, _⟩ | ⟨g', cap, cur, rfl, _, hh, _⟩
  · exact .inl rfl
  · refine .inr fun e => ?_
    simp only [Value.ownBlock, Option.some.injEq] at e
    subst e
    unfold Blk at hg
    rw [hg] at hh
    injection hh with hh
    injection hh with _ h2 _
    exact hne h2.symm
/-- A reader of messages at block q, its Reader at block p: what it has read, how it stands. -/
structure Fx (w : World) (base p q : Nat) (A : Option Addr) (n c : Nat) (zs : List Int) (k : Nat) (r : Rq) (eA : Option Addr) (en ec : Nat) (iA : Option Addr) (im ic : Nat) (dA : Option Addr) (dm dc : Nat) : Prop where
  rd : Rd w p k r.s.e A n c
  bx : Blk w q 98 #[.pointer (some ⟨p, 0, none⟩), .bool r.s.wr, .slice A n c, .int .i64 r.m.kind, .int .i64 r.m.fr, .int .i64 r.m.to, .int .u64 r.m.t, .int .u64 r.m.pi, .int .u64 r.m.pt, .slice eA en ec, .int .u64 r.m.co, .bool r.m.ok, .slice iA im ic, .slice dA dm dc]
  hp : base ≤ p
  hq : base ≤ q
  by_ : By w base A n zs
  kn : k ≤ n
  nc : n ≤ c
  nm : n ≤ 140737488355328
  cm : c ≤ 9223372036854775807
  nl : A = none → c = 0
  l : r.s.l = zs.drop k
  es : Eo w base eA en ec r.m.es
  mem : Ios w base iA im ic r.m.mem
  da : Own w base dA dm dc r.m.da
def Fq (base p q : Nat) (A : Option Addr) (n c : Nat) (zs : List Int) (r : Rq) (w : World) : Prop :=
  ∃ (k : Nat) (eA : Option Addr) (en ec : Nat) (iA : Option Addr) (im ic : Nat) (dA : Option Addr) (dm dc : Nat), Fx w base p q A n c zs k r eA en ec iA im ic dA dm dc
section
variable {w w' : World} {base p q : Nat} {A : Option Addr} {n c : Nat} {zs : List Int} {k : Nat} {r : Rq} {eA : Option Addr} {en ec : Nat} {iA : Option Addr} {im ic : Nat} {dA : Option Addr} {dm dc : Nat}
theorem Fx.ne (h : Fx w base p q A n c zs k r eA en ec iA im ic dA dm dc) : p ≠ q := by
  rintro rfl
  have h1 := h.rd
  have h2 := h.bx
  unfold Rd Blk at h1
  unfold Blk at h2
  rw [h1] at h2
  injection h2 with h2
  injection h2 with _ h2 _
  cases h2
theorem grown_below {g : Nat} (hg : base ≤ g) (hl : g < w.heap.size) (h : w.grownBy w' (some g)) : Below base w w' := ⟨h.os, h.tape, h.output, h.size, fun i hi => h.block i (by omega) (fun e => by injection e with e; omega)⟩
/-- What comes of a step of the Reader. -/
theorem Fx.moved (h : Fx w base p q A n c zs k r eA en ec iA im ic dA dm dc) {k' : Nat} {er' : Int} (hm : Moved w p k' er' A n c w') (hk : k' ≤ n) :
    Fx w' base p q A n c zs k' ⟨r.m, ⟨zs.drop k', er', r.s.wr⟩⟩ eA en ec iA im ic dA dm dc ∧ Below base w w' := by
  have hb := grown_below h.hp (Blk.lt h.rd) hm.2
  have hne := h.ne
  refine ⟨⟨hm.1, ?_, h.hp, h.hq, h.by_.below hb, hk, h.nc, h.nm, h.cm, h.nl, rfl, ?_, ?_, ?_⟩, hb⟩
  · exact (hm.2.block q h.bx.lt (fun e => by injection e with e; exact hne e.symm)).trans h.bx
  · obtain ⟨xs, h1, h2, h3⟩ := h.es
    exact ⟨xs, h1, World.ownsRow.held h2 h.rd (by decide) hm.2, fun x hx => ⟨⟨World.ownsRow.held (h3 x hx).1.1 h.rd (by decide) hm.2, (h3 x hx).1.2⟩, (h3 x hx).2⟩⟩
  · exact World.ownsRow.held h.mem h.rd (by decide) hm.2
  · exact ⟨World.ownsRow.held h.da.1 h.rd (by decide) hm.2, h.da.2⟩
/-- What comes of a store into the box. -/
theorem Fx.put (h : Fx w base p q A n c zs k r eA en ec iA im ic dA dm dc) (i : Nat) (v : Value) (r' : Rq) (hs : r'.s.e = r.s.e) (hl : r'.s.l = r.s.l) (he : r'.m.es = r.m.es) (hi : r'.m.mem = r.m.mem) (hd : r'.m.da = r.m.da)
    (hc : (#[.pointer (some ⟨p, 0, none⟩), .bool r.s.wr, .slice A n c, .int .i64 r.m.kind, .int .i64 r.m.fr, .int .i64 r.m.to, .int .u64 r.m.t, .int .u64 r.m.pi, .int .u64 r.m.pt, .slice eA en ec, .int .u64 r.m.co, .bool r.m.ok, .slice iA im ic, .slice dA dm dc] : Array Value).setIfInBounds i v = #[.pointer (some ⟨p, 0, none⟩), .bool r'.s.wr, .slice A n c, .int .i64 r'.m.kind, .int .i64 r'.m.fr, .int .i64 r'.m.to, .int .u64 r'.m.t, .int .u64 r'.m.pi, .int .u64 r'.m.pt, .slice eA en ec, .int .u64 r'.m.co, .bool r'.m.ok, .slice iA im ic, .slice dA dm dc]) :
    Fx (w.setCell ⟨q, i, none⟩ v) base p q A n c zs k r' eA en ec iA im ic dA dm dc ∧ Below base w (w.setCell ⟨q, i, none⟩ v) := by
  have ho := setCell_only w q i v
  refine ⟨⟨?_, ?_, h.hp, h.hq, h.by_.setCell h.hq v, h.kn, h.nc, h.nm, h.cm, h.nl, hl.trans h.l, ?_, ?_, ?_⟩, ho.below h.hq⟩
  · rw [hs]
    exact Blk.far h.rd (p := ⟨q, i, none⟩) h.ne v
  · have := h.bx.set_ i v
    rw [hc] at this
    exact this
  · rw [he]; exact h.es.only h.bx (by decide) (by decide) ho
  · rw [hi]; exact World.ownsRow.only h.mem h.bx (by decide) ho
  · rw [hd]; exact ⟨World.ownsRow.only h.da.1 h.bx (by decide) ho, h.da.2⟩
theorem Fx.drew (h : Fx w base p q A n c zs k r eA en ec iA im ic dA dm dc) : Fx w.drew base p q A n c zs k r eA en ec iA im ic dA dm dc :=
  ⟨Blk.drewN h.rd 1, Blk.drewN h.bx 1, h.hp, h.hq, h.by_.drewN 1, h.kn, h.nc, h.nm, h.cm, h.nl, h.l, h.es.below (Below.refl _ _).drew, Ios.below h.mem (Below.refl _ _).drew, h.da.drew⟩

/-! ### The Reader's answers are those of the plain words. -/
theorem u8_rd (hb : Bs zs) (hk : k ≤ zs.length) (er : Int) (wr : Bool) : rdU8 ⟨zs.drop k, er, wr⟩ = (num (nBytes zs k er 1), ⟨zs.drop (nAt zs.length k er 1), nErr zs.length k er 1, wr⟩) := by
  unfold rdU8 nBytes nAt nErr okN
  by_cases he : er = 0
  · subst he
    by_cases hl : k < zs.length
    · have h1 : (1 : Int) ≤ (zs.length : Int) - k := by omega
      have h2 : ¬ ((zs.length : Int) - k < 1) := by omega
      have h3 := hb k
      rw [List.drop_eq_getElem_cons hl]
      simp [-List.getElem_cons_drop, h1, h2, num]
      have : zs.getD k 0 = zs[k] := by simp [List.getD, hl]
      rw [this] at h3
      omega
    · have h1 : ¬ (1 : Int) ≤ (zs.length : Int) - k := by omega
      have h2 : (zs.length : Int) - k < 1 := by omega
      rw [List.drop_of_length_le (by omega)]
      simp [h1, h2, num]
      omega
  · simp [he, num]
theorem go_rd (hk : k ≤ zs.length) (m : Nat) (hm : m ≤ zs.length - k) (er : Int) (wr : Bool) : rdGo ⟨zs.drop k, er, wr⟩ m = ⟨zs.drop (gAt zs.length k er m), gErr zs.length k er m, wr⟩ := by
  unfold rdGo gAt gErr okG
  by_cases he : er = 0
  · subst he
    have h1 : (m : Int) ≤ (zs.length : Int) - k := by omega
    have h2 : -(k : Int) ≤ m := by omega
    simp [h1, h2]
    congr 1
  · simp [he]

/-! ### The methods. -/
theorem Fx.u8 (h : Fx w base p q A n c zs k r eA en ec iA im ic dA dm dc) :
    Calls Tryd.prog 84 #[.pointer (some ⟨p, 0, none⟩)] w fun e w' => e = .returned (.int .u8 (rdU8 r.s).1) ∧ (∃ k', Fx w' base p q A n c zs k' ⟨r.m, (rdU8 r.s).2⟩ eA en ec iA im ic dA dm dc) ∧ Below base w w' := by
  have hz := h.by_.1
  refine (u8_any p k r.s.e A n c zs w h.rd (h.by_.more h.hp) h.kn h.nc h.nm).mono ?_
  rintro e w' ⟨rfl, hm⟩
  have hr := u8_rd (k := k) h.by_.bs (by rw [hz]; exact h.kn) r.s.e r.s.wr
  have hrs : r.s = ⟨zs.drop k, r.s.e, r.s.wr⟩ := by rw [← h.l]
  rw [hrs, hr, hz]
  obtain ⟨h1, h2⟩ := h.moved hm (nAt_le _ _ _ _ h.kn)
  exact ⟨rfl, ⟨_, h1⟩, h2⟩
theorem Fx.go (h : Fx w base p q A n c zs k r eA en ec iA im ic dA dm dc) (m : Nat) (hml : m ≤ r.s.l.length) :
    Calls Tryd.prog 109 #[.pointer (some ⟨p, 0, none⟩), .int .i64 m] w fun e w' => e = .returned (.tuple #[]) ∧ (∃ k', Fx w' base p q A n c zs k' ⟨r.m, rdGo r.s m⟩ eA en ec iA im ic dA dm dc) ∧ Below base w w' := by
  have hz := h.by_.1
  have hk := h.kn
  refine (go_any p k r.s.e m A n c w h.rd h.kn h.nm).mono ?_
  rintro e w' ⟨rfl, hm⟩
  have hr := go_rd (zs := zs) (k := k) (by rw [hz]; exact h.kn) m (by rw [h.l, List.length_drop] at hml; exact hml) r.s.e r.s.wr
  have hrs : r.s = ⟨zs.drop k, r.s.e, r.s.wr⟩ := by rw [← h.l]
  rw [hrs, hr, hz]
  obtain ⟨h1, h2⟩ := h.moved hm (gAt_le _ _ _ _ h.kn)
  exact ⟨rfl, ⟨_, h1⟩, h2⟩
theorem Fx.hold (h : Fx w base p q A n c zs k r eA en ec iA im ic dA dm dc) (b : Bool) :
    Calls Tryd.prog 108 #[.pointer (some ⟨q, 0, none⟩), .bool b] w fun e w' => e = .returned (.tuple #[]) ∧ Fx w' base p q A n c zs k ⟨r.m, rdHold r.s b⟩ eA en ec iA im ic dA dm dc ∧ Below base w w' := by
  have c1 := h.bx.cell 1
  have f1 : w.frozen? ⟨q, 1, none⟩ = false := h.bx.frozen 1
  have P := h.put 1 (.bool (r.s.wr || !b)) ⟨r.m, rdHold r.s b⟩ rfl rfl rfl rfl rfl rfl
  change w.cell? ⟨q, 1, none⟩ = some (.bool r.s.wr) at c1
  clear h
  generalize r.s.wr = x at *
  cases x <;> cases b
  all_goals
    go_enter Tryd.func108, Tryd.ntmps108
    go_wp2
    refine bodyPost_end (results_none rfl _ _ _) rfl ?_
    exact ⟨rfl, P⟩
theorem Fx.q0 (h : Fx w base p q A n c zs k r eA en ec iA im ic dA dm dc) : w.cell? ⟨q, 0, none⟩ = some (.pointer (some ⟨p, 0, none⟩)) := h.bx.cell 0
theorem Fx.q1 (h : Fx w base p q A n c zs k r eA en ec iA im ic dA dm dc) : w.cell? ⟨q, 1, none⟩ = some (.bool r.s.wr) := h.bx.cell 1
theorem Fx.q2 (h : Fx w base p q A n c zs k r eA en ec iA im ic dA dm dc) : w.cell? ⟨q, 2, none⟩ = some (.slice A n c) := h.bx.cell 2
theorem Fx.cut (h : Fx w base p q A n c zs k r eA en ec iA im ic dA dm dc) : By w base (if c = k then A else A.map (·.add k)) (n - k) r.s.l := by
  have := h.by_.cut (k := k) (m := n - k) (c := c) (Nat.le_refl _) h.kn h.nc
  rw [List.take_of_length_le (by rw [List.length_drop, h.by_.1]; exact Nat.le_refl _), ← h.l] at this
  exact this
set_option maxRecDepth 100000 in
set_option maxHeartbeats 4000000 in
theorem Fx.short (h : Fx w base p q A n c zs k r eA en ec iA im ic dA dm dc) :
    Calls Tryd.prog 85 #[.pointer (some ⟨q, 0, none⟩)] w fun e w' => e = .returned (.int .u64 ((rdSh r.s).1 : Int)) ∧ (∃ k', Fx w' base p q A n c zs k' ⟨r.m, (rdSh r.s).2⟩ eA en ec iA im ic dA dm dc) ∧ Below base w w' := by
  have D0 := Lib.hid ((Below.refl base w).drew)
  have q0 := h.drew.q0
  have q2 := h.drew.q2
  have HX := Lib.hid h.drew
  have CUT := Lib.hid h.drew.cut
  have hk := h.kn
  have hc := h.nc
  have hn := h.nm
  have hcm := h.cm
  have hnl := Lib.hid h.nl
  have hbs := h.by_.bs
  have hlb : ∀ x ∈ r.s.l, 0 ≤ x ∧ x ≤ 255 := by
    have h1 := h.cut.bs
    intro x hx
    obtain ⟨j, hj, rfl⟩ := List.getElem_of_mem hx
    have := h1 j
    simpa [List.getD, hj] using this
  clear h
  rcases hlo : loB r.s.l with _ | ⟨x, m⟩
  · have R1 : rdSh r.s = (0, rdGo (rdHold r.s false) 0) := by
      unfold rdSh rdGo rdHold
      rw [hlo]
      cases r.s.wr <;> simp
    rw [R1]
    have LA := Lib.hid (long_any _ (n - k) (c - k) base r.s.l w.drew CUT.out (by omega))
    rw [hlo] at LA
    clear hlo
    go_enter Tryd.func85, Tryd.ntmps85
    go_upto_region 1 with (fail)
    refine wp_region_noPanic ?_
    refine wp_region_held_drew (S := fun w' => w'.cell? ⟨q, 0, none⟩ = some (.pointer (some ⟨p, 0, none⟩)) ∧ w'.cell? ⟨q, 2, none⟩ = some (.slice A n c)) (by kernel_rfl) ⟨q0, q2⟩ (fun hHeld => ?_)
    generalize w.drew = v0 at *
    refine take_d (i := 0) (d := 7) (v := ?r7) rfl rfl (by kernel_rfl) (by kernel_rfl) (by kernel_rfl) (fun _ _ _ h => h) (Or.inl ⟨by kernel_rfl, ?r7h⟩) hHeld ?r7n
    case r7h => (intro w hSw; (try dsimp only at hSw); go_split_ands; go_simp; (try exact rfl))
    try simp only [Act.put, List.setIfInBounds_toArray, List.set_cons_zero, List.set_cons_succ]
    refine take_d (i := 1) (d := 8) (v := ?r8) rfl rfl (by kernel_rfl) (by kernel_rfl) (by kernel_rfl) (fun _ _ _ h => h) (Or.inl ⟨by kernel_rfl, ?r8h⟩) hHeld ?r8n
    case r8h => (intro w hSw; (try dsimp only at hSw); go_split_ands; go_simp; (try exact rfl))
    try simp only [Act.put, List.setIfInBounds_toArray, List.set_cons_zero, List.set_cons_succ]
    refine take_d (i := 2) (d := 9) (v := ?r9) rfl rfl (by kernel_rfl) (by kernel_rfl) (by kernel_rfl) (fun _ _ _ h => h) (Or.inl ⟨by kernel_rfl, ?r9h⟩) hHeld ?r9n
    case r9h => (intro w hSw; (try dsimp only at hSw); go_split_ands; go_simp; (try exact rfl))
    try simp only [Act.put, List.setIfInBounds_toArray, List.set_cons_zero, List.set_cons_succ]
    refine take_d (i := 3) (d := 10) (v := ?r10) rfl rfl (by kernel_rfl) (by kernel_rfl) (by kernel_rfl) (fun _ _ _ h => h) (Or.inl ⟨by kernel_rfl, ?r10h⟩) hHeld ?r10n
    case r10h => (intro w hSw; (try dsimp only at hSw); go_split_ands; go_simp; (try exact rfl))
    try simp only [Act.put, List.setIfInBounds_toArray, List.set_cons_zero, List.set_cons_succ]
    refine take_d (i := 4) (d := 11) (v := ?r11) rfl rfl (by kernel_rfl) (by kernel_rfl) (by kernel_rfl) (fun _ _ _ h => h) (Or.inl ⟨by kernel_rfl, ?r11h⟩) hHeld ?r11n
    case r11h => (intro w hSw; (try dsimp only at hSw); go_split_ands; go_simp; (try exact rfl))
    try simp only [Act.put, List.setIfInBounds_toArray, List.set_cons_zero, List.set_cons_succ]
    refine take_d (i := 5) (d := 12) (v := ?r12) rfl rfl (by kernel_rfl) (by kernel_rfl) (by kernel_rfl) (fun _ _ _ h => h) (Or.inl ⟨by kernel_rfl, ?r12h⟩) hHeld ?r12n
    case r12h => (intro w hSw; (try dsimp only at hSw); go_split_ands; go_simp; (try exact rfl))
    try simp only [Act.put, List.setIfInBounds_toArray, List.set_cons_zero, List.set_cons_succ]
    refine take_d (i := 6) (d := 13) (v := ?r13) rfl rfl (by kernel_rfl) (by kernel_rfl) (by kernel_rfl) (fun _ _ _ h => h) (Or.inl ⟨by kernel_rfl, ?r13h⟩) hHeld ?r13n
    case r13h => (intro w hSw; (try dsimp only at hSw); go_split_ands; go_simp; (try exact rfl))
    try simp only [Act.put, List.setIfInBounds_toArray, List.set_cons_zero, List.set_cons_succ]
    refine take_d (i := 7) (d := 14) (v := ?r14) rfl rfl (by kernel_rfl) (by kernel_rfl) (by kernel_rfl) (fun _ _ _ h => h) (Or.inl ⟨by kernel_rfl, ?r14h⟩) hHeld ?r14n
    case r14h => (intro w hSw; (try dsimp only at hSw); go_split_ands; go_simp; (try exact rfl))
    try simp only [Act.put, List.setIfInBounds_toArray, List.set_cons_zero, List.set_cons_succ]
    refine take_d (i := 8) (d := 15) (v := ?r15) rfl rfl (by kernel_rfl) (by kernel_rfl) (by kernel_rfl) (fun _ _ _ h => h) (Or.inl ⟨by kernel_rfl, ?r15h⟩) hHeld ?r15n
    case r15h => (intro w hSw; (try dsimp only at hSw); go_split_ands; go_simp; (try exact rfl))
    try simp only [Act.put, List.setIfInBounds_toArray, List.set_cons_zero, List.set_cons_succ]
    refine wpAnyH_ready (rs := [9]) (by kernel_rfl) (by simp) ?_
    refine AllReadyH.cons rfl (fun K hK => ?_) AllReadyH.nil
    go_simp
    refine (at_any p k r.s.e A n c v0 HX.out.rd).mono ?_
    rintro e u ⟨rfl, rfl⟩
    refine hK.out _ _ (⟨q0, q2⟩) (fun hHeld => ?_)
    clear hK K
    try simp only [Act.put, List.setIfInBounds_toArray, List.set_cons_zero, List.set_cons_succ]
    refine take_d (i := 10) (d := 17) (v := .slice (if c = k then A else A.map (·.add k)) (n - k) (c - k)) rfl rfl (by kernel_rfl) (by kernel_rfl) (by kernel_rfl) (fun _ _ _ h => h) (Or.inl ⟨by kernel_rfl, ?r17h⟩) hHeld ?_
    case r17h => (intro w hSw; (try dsimp only at hSw); go_split_ands; go_simp)
    try simp only [Act.put, List.setIfInBounds_toArray, List.set_cons_zero, List.set_cons_succ]
    refine wpAnyH_ready (rs := [11]) (by kernel_rfl) (by simp) ?_
    refine AllReadyH.cons rfl (fun K hK => ?_) AllReadyH.nil
    go_simp
    refine LA.out.mono ?_
    rintro e u ⟨rfl, rfl⟩
    refine hK.out _ _ (⟨q0, q2⟩) (fun hHeld => ?_)
    clear hK K
    try simp only [Act.put, List.setIfInBounds_toArray, List.set_cons_zero, List.set_cons_succ]
    refine take_d (i := 12) (d := 6) (v := ?r6) rfl rfl (by kernel_rfl) (by kernel_rfl) (by kernel_rfl) (fun _ _ _ h => h) (Or.inl ⟨by kernel_rfl, ?r6h⟩) hHeld ?r6n
    case r6h => (intro w hSw; (try dsimp only at hSw); go_split_ands; go_simp; (try exact rfl))
    try simp only [Act.put, List.setIfInBounds_toArray, List.set_cons_zero, List.set_cons_succ]
    refine take_d (i := 13) (d := 19) (v := ?r19) rfl rfl (by kernel_rfl) (by kernel_rfl) (by kernel_rfl) (fun _ _ _ h => h) (Or.inl ⟨by kernel_rfl, ?r19h⟩) hHeld ?r19n
    case r19h => (intro w hSw; (try dsimp only at hSw); go_split_ands; go_simp; (try exact rfl))
    try simp only [Act.put, List.setIfInBounds_toArray, List.set_cons_zero, List.set_cons_succ]
    refine take_d (i := 14) (d := 20) (v := ?r20) rfl rfl (by kernel_rfl) (by kernel_rfl) (by kernel_rfl) (fun _ _ _ h => h) (Or.inl ⟨by kernel_rfl, ?r20h⟩) hHeld ?r20n
    case r20h => (intro w hSw; (try dsimp only at hSw); go_split_ands; go_simp; (try exact rfl))
    try simp only [Act.put, List.setIfInBounds_toArray, List.set_cons_zero, List.set_cons_succ]
    refine take_d (i := 15) (d := 21) (v := ?r21) rfl rfl (by kernel_rfl) (by kernel_rfl) (by kernel_rfl) (fun _ _ _ h => h) (Or.inl ⟨by kernel_rfl, ?r21h⟩) hHeld ?r21n
    case r21h => (intro w hSw; (try dsimp only at hSw); go_split_ands; go_simp; (try exact rfl))
    try simp only [Act.put, List.setIfInBounds_toArray, List.set_cons_zero, List.set_cons_succ]
    refine take_d (i := 16) (d := 3) (v := ?r3) rfl rfl (by kernel_rfl) (by kernel_rfl) (by kernel_rfl) (fun _ _ _ h => h) (Or.inl ⟨by kernel_rfl, ?r3h⟩) hHeld ?r3n
    case r3h => (intro w hSw; (try dsimp only at hSw); go_split_ands; go_simp; (try exact rfl))
    try simp only [Act.put, List.setIfInBounds_toArray, List.set_cons_zero, List.set_cons_succ]
    refine take_d (i := 17) (d := 4) (v := ?r4) rfl rfl (by kernel_rfl) (by kernel_rfl) (by kernel_rfl) (fun _ _ _ h => h) (Or.inl ⟨by kernel_rfl, ?r4h⟩) hHeld ?r4n
    case r4h => (intro w hSw; (try dsimp only at hSw); go_split_ands; go_simp; (try exact rfl))
    try simp only [Act.put, List.setIfInBounds_toArray, List.set_cons_zero, List.set_cons_succ]
    refine take_d (i := 18) (d := 5) (v := ?r5) rfl rfl (by kernel_rfl) (by kernel_rfl) (by kernel_rfl) (fun _ _ _ h => h) (Or.inl ⟨by kernel_rfl, ?r5h⟩) hHeld ?r5n
    case r5h => (intro w hSw; (try dsimp only at hSw); go_split_ands; go_simp; (try exact rfl))
    try simp only [Act.put, List.setIfInBounds_toArray, List.set_cons_zero, List.set_cons_succ]
    refine wpAnyH_done (by kernel_rfl) ?_ _
    refine NoPanic.normal ?_
    generalize (if c = k then A else Option.map (fun x => x.add k) A) = A2 at *
    go_wp2_with (first
      | (go_at_call 108; refine (HX.out.hold false).mono ?_; rintro e w1 ⟨rfl, hx1, hb1⟩; have q01 := hx1.q0)
      | (go_at_call 109; refine (hx1.go 0 (Nat.zero_le _)).mono ?_; rintro e w2 ⟨rfl, hx2, hb2⟩))
    go_ret
    exact ⟨rfl, hx2, (D0.out.trans hb1).trans hb2⟩
  · obtain ⟨hx64, -, hml, -⟩ := loB_back hlb hlo
    have R1 : rdSh r.s = (x, rdGo (rdHold r.s true) m) := by
      unfold rdSh rdHold
      rw [hlo]
      simp
    rw [R1]
    have LA := Lib.hid (long_any _ (n - k) (c - k) base r.s.l w.drew CUT.out (by omega))
    rw [hlo] at LA
    clear hlo
    go_enter Tryd.func85, Tryd.ntmps85
    go_upto_region 1 with (fail)
    refine wp_region_noPanic ?_
    refine wp_region_held_drew (S := fun w' => w'.cell? ⟨q, 0, none⟩ = some (.pointer (some ⟨p, 0, none⟩)) ∧ w'.cell? ⟨q, 2, none⟩ = some (.slice A n c)) (by kernel_rfl) ⟨q0, q2⟩ (fun hHeld => ?_)
    generalize w.drew = v0 at *
    refine take_d (i := 0) (d := 7) (v := ?s7) rfl rfl (by kernel_rfl) (by kernel_rfl) (by kernel_rfl) (fun _ _ _ h => h) (Or.inl ⟨by kernel_rfl, ?s7h⟩) hHeld ?s7n
    case s7h => (intro w hSw; (try dsimp only at hSw); go_split_ands; go_simp; (try exact rfl))
    try simp only [Act.put, List.setIfInBounds_toArray, List.set_cons_zero, List.set_cons_succ]
    refine take_d (i := 1) (d := 8) (v := ?s8) rfl rfl (by kernel_rfl) (by kernel_rfl) (by kernel_rfl) (fun _ _ _ h => h) (Or.inl ⟨by kernel_rfl, ?s8h⟩) hHeld ?s8n
    case s8h => (intro w hSw; (try dsimp only at hSw); go_split_ands; go_simp; (try exact rfl))
    try simp only [Act.put, List.setIfInBounds_toArray, List.set_cons_zero, List.set_cons_succ]
    refine take_d (i := 2) (d := 9) (v := ?s9) rfl rfl (by kernel_rfl) (by kernel_rfl) (by kernel_rfl) (fun _ _ _ h => h) (Or.inl ⟨by kernel_rfl, ?s9h⟩) hHeld ?s9n
    case s9h => (intro w hSw; (try dsimp only at hSw); go_split_ands; go_simp; (try exact rfl))
    try simp only [Act.put, List.setIfInBounds_toArray, List.set_cons_zero, List.set_cons_succ]
    refine take_d (i := 3) (d := 10) (v := ?s10) rfl rfl (by kernel_rfl) (by kernel_rfl) (by kernel_rfl) (fun _ _ _ h => h) (Or.inl ⟨by kernel_rfl, ?s10h⟩) hHeld ?s10n
    case s10h => (intro w hSw; (try dsimp only at hSw); go_split_ands; go_simp; (try exact rfl))
    try simp only [Act.put, List.setIfInBounds_toArray, List.set_cons_zero, List.set_cons_succ]
    refine take_d (i := 4) (d := 11) (v := ?s11) rfl rfl (by kernel_rfl) (by kernel_rfl) (by kernel_rfl) (fun _ _ _ h => h) (Or.inl ⟨by kernel_rfl, ?s11h⟩) hHeld ?s11n
    case s11h => (intro w hSw; (try dsimp only at hSw); go_split_ands; go_simp; (try exact rfl))
    try simp only [Act.put, List.setIfInBounds_toArray, List.set_cons_zero, List.set_cons_succ]
    refine take_d (i := 5) (d := 12) (v := ?s12) rfl rfl (by kernel_rfl) (by kernel_rfl) (by kernel_rfl) (fun _ _ _ h => h) (Or.inl ⟨by kernel_rfl, ?s12h⟩) hHeld ?s12n
    case s12h => (intro w hSw; (try dsimp only at hSw); go_split_ands; go_simp; (try exact rfl))
    try simp only [Act.put, List.setIfInBounds_toArray, List.set_cons_zero, List.set_cons_succ]
    refine take_d (i := 6) (d := 13) (v := ?s13) rfl rfl (by kernel_rfl) (by kernel_rfl) (by kernel_rfl) (fun _ _ _ h => h) (Or.inl ⟨by kernel_rfl, ?s13h⟩) hHeld ?s13n
    case s13h => (intro w hSw; (try dsimp only at hSw); go_split_ands; go_simp; (try exact rfl))
    try simp only [Act.put, List.setIfInBounds_toArray, List.set_cons_zero, List.set_cons_succ]
    refine take_d (i := 7) (d := 14) (v := ?s14) rfl rfl (by kernel_rfl) (by kernel_rfl) (by kernel_rfl) (fun _ _ _ h => h) (Or.inl ⟨by kernel_rfl, ?s14h⟩) hHeld ?s14n
    case s14h => (intro w hSw; (try dsimp only at hSw); go_split_ands; go_simp; (try exact rfl))
    try simp only [Act.put, List.setIfInBounds_toArray, List.set_cons_zero, List.set_cons_succ]
    refine take_d (i := 8) (d := 15) (v := ?s15) rfl rfl (by kernel_rfl) (by kernel_rfl) (by kernel_rfl) (fun _ _ _ h => h) (Or.inl ⟨by kernel_rfl, ?s15h⟩) hHeld ?s15n
    case s15h => (intro w hSw; (try dsimp only at hSw); go_split_ands; go_simp; (try exact rfl))
    try simp only [Act.put, List.setIfInBounds_toArray, List.set_cons_zero, List.set_cons_succ]
    refine wpAnyH_ready (rs := [9]) (by kernel_rfl) (by simp) ?_
    refine AllReadyH.cons rfl (fun K hK => ?_) AllReadyH.nil
    go_simp
    refine (at_any p k r.s.e A n c v0 HX.out.rd).mono ?_
    rintro e u ⟨rfl, rfl⟩
    refine hK.out _ _ (⟨q0, q2⟩) (fun hHeld => ?_)
    clear hK K
    try simp only [Act.put, List.setIfInBounds_toArray, List.set_cons_zero, List.set_cons_succ]
    refine take_d (i := 10) (d := 17) (v := .slice (if c = k then A else A.map (·.add k)) (n - k) (c - k)) rfl rfl (by kernel_rfl) (by kernel_rfl) (by kernel_rfl) (fun _ _ _ h => h) (Or.inl ⟨by kernel_rfl, ?s17h⟩) hHeld ?_
    case s17h => (intro w hSw; (try dsimp only at hSw); go_split_ands; go_simp)
    try simp only [Act.put, List.setIfInBounds_toArray, List.set_cons_zero, List.set_cons_succ]
    refine wpAnyH_ready (rs := [11]) (by kernel_rfl) (by simp) ?_
    refine AllReadyH.cons rfl (fun K hK => ?_) AllReadyH.nil
    go_simp
    refine LA.out.mono ?_
    rintro e u ⟨rfl, rfl⟩
    refine hK.out _ _ (⟨q0, q2⟩) (fun hHeld => ?_)
    clear hK K
    try simp only [Act.put, List.setIfInBounds_toArray, List.set_cons_zero, List.set_cons_succ]
    refine take_d (i := 12) (d := 6) (v := ?s6) rfl rfl (by kernel_rfl) (by kernel_rfl) (by kernel_rfl) (fun _ _ _ h => h) (Or.inl ⟨by kernel_rfl, ?s6h⟩) hHeld ?s6n
    case s6h => (intro w hSw; (try dsimp only at hSw); go_split_ands; go_simp; (try exact rfl))
    try simp only [Act.put, List.setIfInBounds_toArray, List.set_cons_zero, List.set_cons_succ]
    refine take_d (i := 13) (d := 19) (v := ?s19) rfl rfl (by kernel_rfl) (by kernel_rfl) (by kernel_rfl) (fun _ _ _ h => h) (Or.inl ⟨by kernel_rfl, ?s19h⟩) hHeld ?s19n
    case s19h => (intro w hSw; (try dsimp only at hSw); go_split_ands; go_simp; (try exact rfl))
    try simp only [Act.put, List.setIfInBounds_toArray, List.set_cons_zero, List.set_cons_succ]
    refine take_d (i := 14) (d := 20) (v := ?s20) rfl rfl (by kernel_rfl) (by kernel_rfl) (by kernel_rfl) (fun _ _ _ h => h) (Or.inl ⟨by kernel_rfl, ?s20h⟩) hHeld ?s20n
    case s20h => (intro w hSw; (try dsimp only at hSw); go_split_ands; go_simp; (try exact rfl))
    try simp only [Act.put, List.setIfInBounds_toArray, List.set_cons_zero, List.set_cons_succ]
    refine take_d (i := 15) (d := 21) (v := ?s21) rfl rfl (by kernel_rfl) (by kernel_rfl) (by kernel_rfl) (fun _ _ _ h => h) (Or.inl ⟨by kernel_rfl, ?s21h⟩) hHeld ?s21n
    case s21h => (intro w hSw; (try dsimp only at hSw); go_split_ands; go_simp; (try exact rfl))
    try simp only [Act.put, List.setIfInBounds_toArray, List.set_cons_zero, List.set_cons_succ]
    refine take_d (i := 16) (d := 3) (v := ?s3) rfl rfl (by kernel_rfl) (by kernel_rfl) (by kernel_rfl) (fun _ _ _ h => h) (Or.inl ⟨by kernel_rfl, ?s3h⟩) hHeld ?s3n
    case s3h => (intro w hSw; (try dsimp only at hSw); go_split_ands; go_simp; (try exact rfl))
    try simp only [Act.put, List.setIfInBounds_toArray, List.set_cons_zero, List.set_cons_succ]
    refine take_d (i := 17) (d := 4) (v := ?s4) rfl rfl (by kernel_rfl) (by kernel_rfl) (by kernel_rfl) (fun _ _ _ h => h) (Or.inl ⟨by kernel_rfl, ?s4h⟩) hHeld ?s4n
    case s4h => (intro w hSw; (try dsimp only at hSw); go_split_ands; go_simp; (try exact rfl))
    try simp only [Act.put, List.setIfInBounds_toArray, List.set_cons_zero, List.set_cons_succ]
    refine take_d (i := 18) (d := 5) (v := ?s5) rfl rfl (by kernel_rfl) (by kernel_rfl) (by kernel_rfl) (fun _ _ _ h => h) (Or.inl ⟨by kernel_rfl, ?s5h⟩) hHeld ?s5n
    case s5h => (intro w hSw; (try dsimp only at hSw); go_split_ands; go_simp; (try exact rfl))
    try simp only [Act.put, List.setIfInBounds_toArray, List.set_cons_zero, List.set_cons_succ]
    refine wpAnyH_done (by kernel_rfl) ?_ _
    refine NoPanic.normal ?_
    generalize (if c = k then A else Option.map (fun x => x.add k) A) = A2 at *
    go_wp2_with (first
      | (go_at_call 108; refine (HX.out.hold true).mono ?_; rintro e w1 ⟨rfl, hx1, hb1⟩; have q01 := hx1.q0)
      | (go_at_call 109; refine (hx1.go m hml).mono ?_; rintro e w2 ⟨rfl, hx2, hb2⟩))
    go_ret
    exact ⟨rfl, hx2, (D0.out.trans hb1).trans hb2⟩
end

end Go.Proofs.YtemfnckaehjhcaaDoor
