/-
  Copies of logs: the program's clone; the document's Entries and Copy.
-/
import Derived.Test.YtmgaihdepglahaaM2
namespace Go.Proofs.Ytmgaihdepglahaa
open Go.RowKit

theorem ret27 {fn : Func} {p : Tmp} (h : fn.results = #[.cell p 27]) (tmps : Array Value) (w : World) (g : Nat) (a b c : Value)
    (hp : tmps.getD p undef = .pointer (some ⟨g, 0, none⟩)) (hg : Blk w g 27 #[a, b, c]) : (results fn tmps).run Try.prog w = .ok (.agg #[a, b, c]) w :=
  results_cell_row h tmps w g 27 #[a, b, c] (0, 0) _ hp hg Try.underlying27 rfl Try.i27
/-- What a call leaves that answers a log of its own. -/
def Lgd (w : World) (l : Lg) (e : Ending) (w' : World) : Prop := ∃ A n c, e = .returned (.agg #[.int .u64 l.bi, .int .u64 l.bt, .slice A n c]) ∧ Eo w' w.heap.size A n c l.es ∧ Below w.heap.size w w'

theorem Only.grown {g : Nat} {w w' : World} (h : Only g w w') : w.grownBy w' (some g) := ⟨h.os, h.tape, h.output, Nat.le_of_eq h.size.symm, fun k _ hk => h.block k (fun e => hk (by rw [e]))⟩
/-- A store into a block of another type leaves what one owns. -/
theorem World.ownsRow.only {w w' : World} {base e size n g : Nat} {t : TypeId} {cs : Array Value} {v : Value} {xs : List Value} (h : w.ownsRow base e size v n xs) (hg : Blk w g t cs) (hne : e ≠ t) (ho : Only g w w') : w'.ownsRow base e size v n xs := by
  refine ⟨h.1, ?_⟩
  rcases h.2 with hv | ⟨g', cap, cur, hv, hb, hh, r⟩
  · exact .inl hv
  · refine .inr ⟨g', cap, cur, hv, hb, (ho.block g' ?_).trans hh, r⟩
    rintro rfl
    unfold Blk at hg
    rw [hg] at hh
    injection hh with hh
    injection hh with _ h2 _
    exact hne h2.symm
theorem Eo.only {w w' : World} {base n c g : Nat} {A : Option Addr} {es : List En} {t : TypeId} {cs : Array Value} (h : Eo w base A n c es) (hg : Blk w g t cs) (h54 : 54 ≠ t) (h5 : 5 ≠ t) (ho : Only g w w') : Eo w' base A n c es := by
  obtain ⟨xs, h1, h2, h3⟩ := h
  exact ⟨xs, h1, World.ownsRow.only h2 hg h54 ho, fun x hx => ⟨⟨World.ownsRow.only (h3 x hx).1.1 hg h5 ho, (h3 x hx).1.2⟩, (h3 x hx).2⟩⟩
theorem Eo.only27 {w w' : World} {base n c g : Nat} {A : Option Addr} {es : List En} {cs : Array Value} (h : Eo w base A n c es) (hg : Blk w g 27 cs) (ho : Only g w w') : Eo w' base A n c es := h.only hg (by decide) (by decide) ho
theorem Blk.fresh {w : World} {t : TypeId} {cs : Array Value} {n : Nat} (h : n = w.heap.size) : Blk (w.alloc (.cells cs t)) n t cs := by subst h; exact Blk.new w t cs

set_option linter.unusedSimpArgs false in
set_option maxRecDepth 100000 in
set_option maxHeartbeats 1000000 in
theorem clone_any_log (l : Lg) (A : Option Addr) (n c B : Nat) (w : World) (h : Lr w B A n c l) (hB : B ≤ w.heap.size) : Calls Try.prog 53 #[.agg #[.int .u64 l.bi, .int .u64 l.bt, .slice A n c]] w (Lgd w l) := by
  obtain ⟨bi, bt, es⟩ := l
  obtain ⟨hes, hnc, hnil, hn, hi0, hi1, ht0, ht1⟩ := h
  simp only at hes hi0 hi1 ht0 ht1
  have CL := Lib.hid (fun W (hW : Below B w W) => cloned_any A n c B es W (hes.below hW) (by omega) (Nat.le_trans hB hW.size))
  have b0 : Blk ((w.alloc (.cells #[.int .u64 bi, .int .u64 bt, .slice A n c] 81)).alloc (.cells #[.int .u64 0, .int .u64 0, .slice none 0 0] 27)) w.heap.size 81 #[.int .u64 bi, .int .u64 bt, .slice A n c] := (Blk.new w 81 _).alloc _
  have b1 : Blk ((w.alloc (.cells #[.int .u64 bi, .int .u64 bt, .slice A n c] 81)).alloc (.cells #[.int .u64 0, .int .u64 0, .slice none 0 0] 27)) (w.heap.size + 1) 27 #[.int .u64 0, .int .u64 0, .slice none 0 0] := Blk.fresh (by simp)
  have hB0 : Below w.heap.size w ((w.alloc (.cells #[.int .u64 bi, .int .u64 bt, .slice A n c] 81)).alloc (.cells #[.int .u64 0, .int .u64 0, .slice none 0 0] 27)) := ((Below.refl _ w).alloc (Nat.le_refl _) _).alloc (by simp) _
  have C3 : Hid (∀ W, Blk W w.heap.size 81 #[.int .u64 bi, .int .u64 bt, .slice A n c] → W.cell? ⟨w.heap.size, 0, none⟩ = some (.int .u64 bi) ∧ W.cell? ⟨w.heap.size, 1, none⟩ = some (.int .u64 bt) ∧ W.cell? ⟨w.heap.size, 2, none⟩ = some (.slice A n c)) := fun W hb => ⟨hb.cell 0, hb.cell 1, hb.cell 2⟩
  clear hes
  go_enter Try.func53, Try.ntmps53
  go_upto_region 1 with (fail)
  generalize (w.alloc (.cells #[.int .u64 bi, .int .u64 bt, .slice A n c] 81)).alloc (.cells #[.int .u64 0, .int .u64 0, .slice none 0 0] 27) = W0 at *
  have B0 : Hid (Blk W0.drew w.heap.size 81 #[.int .u64 bi, .int .u64 bt, .slice A n c]) := b0
  have B1 : Hid (Blk W0.drew (w.heap.size + 1) 27 #[.int .u64 0, .int .u64 0, .slice none 0 0]) := b1
  have HB := Lib.hid hB0.drew
  have hS0 := C3.out _ B0.out
  clear b0 b1 hB0
  refine wp_region_noPanic ?_
  refine wp_region_held_drew (S := fun w' => w'.cell? ⟨w.heap.size, 0, none⟩ = some (.int .u64 bi) ∧ w'.cell? ⟨w.heap.size, 1, none⟩ = some (.int .u64 bt) ∧ w'.cell? ⟨w.heap.size, 2, none⟩ = some (.slice A n c)) (by kernel_rfl) hS0 (fun hHeld => ?_)
  refine take_d (i := 0) (d := 3) (v := ?a3) rfl rfl (by kernel_rfl) (by kernel_rfl) (by kernel_rfl) (fun _ _ _ h => h) (Or.inl ⟨by kernel_rfl, ?a3h⟩) hHeld ?a3n
  case a3h => (intro w hSw; (try dsimp only at hSw); go_split_ands; go_simp; (try exact rfl))
  try simp only [Act.put, List.setIfInBounds_toArray, List.set_cons_zero, List.set_cons_succ]
  refine take_d (i := 1) (d := 4) (v := ?a4) rfl rfl (by kernel_rfl) (by kernel_rfl) (by kernel_rfl) (fun _ _ _ h => h) (Or.inl ⟨by kernel_rfl, ?a4h⟩) hHeld ?a4n
  case a4h => (intro w hSw; (try dsimp only at hSw); go_split_ands; go_simp; (try exact rfl))
  try simp only [Act.put, List.setIfInBounds_toArray, List.set_cons_zero, List.set_cons_succ]
  refine take_d (i := 2) (d := 5) (v := ?a5) rfl rfl (by kernel_rfl) (by kernel_rfl) (by kernel_rfl) (fun _ _ _ h => h) (Or.inl ⟨by kernel_rfl, ?a5h⟩) hHeld ?a5n
  case a5h => (intro w hSw; (try dsimp only at hSw); go_split_ands; go_simp; (try exact rfl))
  try simp only [Act.put, List.setIfInBounds_toArray, List.set_cons_zero, List.set_cons_succ]
  refine take_d (i := 3) (d := 6) (v := ?a6) rfl rfl (by kernel_rfl) (by kernel_rfl) (by kernel_rfl) (fun _ _ _ h => h) (Or.inl ⟨by kernel_rfl, ?a6h⟩) hHeld ?a6n
  case a6h => (intro w hSw; (try dsimp only at hSw); go_split_ands; go_simp; (try exact rfl))
  try simp only [Act.put, List.setIfInBounds_toArray, List.set_cons_zero, List.set_cons_succ]
  refine take_d (i := 4) (d := 7) (v := ?a7) rfl rfl (by kernel_rfl) (by kernel_rfl) (by kernel_rfl) (fun _ _ _ h => h) (Or.inl ⟨by kernel_rfl, ?a7h⟩) hHeld ?a7n
  case a7h => (intro w hSw; (try dsimp only at hSw); go_split_ands; go_simp; (try exact rfl))
  try simp only [Act.put, List.setIfInBounds_toArray, List.set_cons_zero, List.set_cons_succ]
  refine take_d (i := 5) (d := 8) (v := ?a8) rfl rfl (by kernel_rfl) (by kernel_rfl) (by kernel_rfl) (fun _ _ _ h => h) (Or.inl ⟨by kernel_rfl, ?a8h⟩) hHeld ?a8n
  case a8h => (intro w hSw; (try dsimp only at hSw); go_split_ands; go_simp; (try exact rfl))
  try simp only [Act.put, List.setIfInBounds_toArray, List.set_cons_zero, List.set_cons_succ]
  refine wpAnyH_ready (rs := [6]) (by kernel_rfl) (by simp) ?_
  refine AllReadyH.cons rfl (fun K hK => ?_) AllReadyH.nil
  go_simp
  refine (CL.out _ (HB.out.mono hB)).mono ?_
  rintro e w2 ⟨A2, c2, rfl, ho2, hb2⟩
  have B02 := Lib.hid (B0.out.below hb2 B0.out.lt)
  have B12 := Lib.hid (B1.out.below hb2 B1.out.lt)
  have HB2 := Lib.hid (HB.out.trans (hb2.mono HB.out.size))
  have HO2 := Lib.hid (ho2.down HB.out.size)
  clear ho2 hb2
  refine hK.out _ _ (C3.out _ B02.out) (fun hHeld => ?_)
  clear hK K
  try simp only [Act.put, List.setIfInBounds_toArray, List.set_cons_zero, List.set_cons_succ]
  refine take_d (i := 7) (d := 10) (v := ?a10) rfl rfl (by kernel_rfl) (by kernel_rfl) (by kernel_rfl) (fun _ _ _ h => h) (Or.inl ⟨by kernel_rfl, ?a10h⟩) hHeld ?a10n
  case a10h => (intro w hSw; (try dsimp only at hSw); go_split_ands; go_simp; (try exact rfl))
  try simp only [Act.put, List.setIfInBounds_toArray, List.set_cons_zero, List.set_cons_succ]
  refine wpAnyH_ready (rs := [8]) (by kernel_rfl) (by simp) ?_
  refine AllReadyH.cons rfl (fun K hK => ?_) AllReadyH.nil
  refine wp_store_blk 27 _ _ rfl (w.heap.size + 1) #[.int .u64 0, .int .u64 0, .slice none 0 0] 27 [.int .u64 bi, .int .u64 bt, .slice A2 n c2] rfl rfl B12.out rfl Try.i27 (by simp [Value.oneCell']) ?_
  intro w3 hb3 ho3
  have B13 := Lib.hid hb3
  have B03 := Lib.hid (ho3.keep B02.out (by omega))
  have HB3 := Lib.hid (HB2.out.trans (ho3.below (by omega)))
  have HO3 := Lib.hid (HO2.out.only27 B12.out ho3)
  clear hb3 ho3
  refine hK.out _ _ (C3.out _ B03.out) (fun hHeld => ?_)
  clear hK K
  try simp only [Act.put, List.setIfInBounds_toArray, List.set_cons_zero, List.set_cons_succ]
  refine wpAnyH_done (by kernel_rfl) ?_ _
  refine NoPanic.normal ?_
  go_wp2
  exact bodyPost_ret (ret27 rfl _ _ _ _ _ _ rfl B13.out) rfl ⟨A2, n, c2, rfl, HO3.out, HB3.out⟩

/-- Where Entries stands. -/
def Enr (w0 : World) (es : List En) (k : Nat) (v : Value) (w : World) : Prop := ∃ A c, v = .slice A k c ∧ Eo w w0.heap.size A k c (es.take k) ∧ Below w0.heap.size w0 w

theorem own_apart {w : World} {b1 b2 e1 e2 s1 s2 n1 n2 : Nat} {v1 v2 : Value} {x1 x2 : List Value} (h1 : w.ownsRow b1 e1 s1 v1 n1 x1) (h2 : w.ownsRow b2 e2 s2 v2 n2 x2) (hne : e1 ≠ e2) : v1.ownBlock = none ∨ v1.ownBlock ≠ v2.ownBlock := by
  rcases h1.2 with ⟨rfl, _⟩ | ⟨g1, c1, u1, rfl, _, hh1, _⟩
  · exact .inl rfl
  · rcases h2.2 with ⟨rfl, _⟩ | ⟨g2, c2, u2, rfl, _, hh2, _⟩
    · exact .inr (by simp [Value.ownBlock])
    · refine .inr fun e => ?_
      simp only [Value.ownBlock, Option.some.injEq] at e
      subst e
      rw [hh1] at hh2
      injection hh2 with hh2
      injection hh2 with _ h _
      exact hne h
/-- Bytes of one's own, kept over a growth of a row of entries. -/
theorem Own.row {w w' : World} {base b2 n c n2 : Nat} {A : Option Addr} {zs : List Int} {v : Value} {xs : List Value} (h : Own w base A n c zs) (hr : w.ownsRow b2 54 3 v n2 xs) (hg : w.grownBy w' v.ownBlock) : Own w' base A n c zs :=
  ⟨h.1.kept hg (own_apart h.1 hr (by decide)), h.2⟩

set_option linter.unusedSimpArgs false in
set_option maxRecDepth 100000 in
set_option maxHeartbeats 2000000 in
theorem refentries_any (A : Option Addr) (n c B : Nat) (es : List En) (w : World) (h : Es w B A n es) (hn : n ≤ 1000000) (hB : B ≤ w.heap.size) :
    Calls Try.prog 60 #[.slice A n c] w (Ecloned w n es) := by
  have HL := Lib.hid h.len
  have H := Lib.hid h
  obtain ⟨i0, hi, hz0, hz1, hz2⟩ := info_parts Try.info54
  have HI := Lib.hid hi
  have HZ := Lib.hid hz0
  have H1 := Lib.hid hz1
  have H2 := Lib.hid hz2
  clear h hi hz0 hz1 hz2
  go_enter Try.func60, Try.ntmps60
  go_wp2
  go_loopw [3, 8] (fun v i wr => ∃ k : Nat, k ≤ n ∧ i = .int .i64 k ∧ Enr w es k v wr) (fun _ i _ => n - (intOf i).toNat)
  case atStart => exact ⟨0, Nat.zero_le _, rfl, none, 0, rfl, Eo.nothing _ _, Below.refl _ _⟩
  case round =>
    obtain ⟨k, hk, rfl, Av, cv, rfl, hoo, hb⟩ := hrel
    by_cases hlt : k < n
    · obtain ⟨b, o, x, rfl, hbB, hx, hok, hr⟩ := (H.out.below (hb.mono hB)).at_ hlt
      obtain ⟨c0, c1, c2⟩ := rng3 hr
      have htk : es.take (k + 1) = es.take k ++ [Ec.en x] := by
        rw [List.take_add_one, hx]
        congr 1
        simp [List.getD, List.getElem?_eq_getElem (show k < es.length by rw [HL.out]; exact hlt)]
      have TK := Lib.hid htk
      have HO := Lib.hid hoo
      have HBW := Lib.hid hb
      have OK := Lib.hid hok
      have RB : Hid (∀ gg, (Value.slice Av k cv).ownBlock = some gg → gg < wr.heap.size) := fun gg e => by
        obtain ⟨_, _, h2, _⟩ := hoo
        exact (h2.lt gg e).2
      clear hr hx htk hoo hb hok
      obtain ⟨xt, xk, xA, xn, xc, xd⟩ := x
      have BY := Lib.hid OK.out.by_
      have NC := Lib.hid OK.out.nil
      have XN := Lib.hid OK.out.n
      have T0 := Lib.hid OK.out.t0
      have T1 := Lib.hid OK.out.t1
      simp only at c0 c1 c2
      clear OK
      go_upto_region 5 with (fail)
      have B5 : Hid (Blk ((wr.alloc (.cells #[.int .u64 xt, .int .i64 xk, .slice xA xn xc] 54)).drew) wr.heap.size 54 #[.int .u64 xt, .int .i64 xk, .slice xA xn xc]) := Blk.new wr 54 _
      have L5 : Hid (Below w.heap.size w ((wr.alloc (.cells #[.int .u64 xt, .int .i64 xk, .slice xA xn xc] 54)).drew)) := (HBW.out.alloc HBW.out.size _).drew
      have F5 : Hid (Below wr.heap.size wr ((wr.alloc (.cells #[.int .u64 xt, .int .i64 xk, .slice xA xn xc] 54)).drew)) := ((Below.refl _ wr).alloc (Nat.le_refl _) _).drew
      generalize wr.alloc (.cells #[.int .u64 xt, .int .i64 xk, .slice xA xn xc] 54) = W0 at *
      have C3 : Hid (∀ W, Blk W wr.heap.size 54 #[.int .u64 xt, .int .i64 xk, .slice xA xn xc] → W.cell? ⟨wr.heap.size, 0, none⟩ = some (.int .u64 xt) ∧ W.cell? ⟨wr.heap.size, 1, none⟩ = some (.int .i64 xk) ∧ W.cell? ⟨wr.heap.size, 2, none⟩ = some (.slice xA xn xc)) := fun W hb => ⟨hb.cell 0, hb.cell 1, hb.cell 2⟩
      have hS0 := C3.out _ B5.out
      clear c0 c1 c2
      refine wp_region_noPanic ?_
      refine wp_region_held_drew (S := fun w' => w'.cell? ⟨wr.heap.size, 0, none⟩ = some (.int .u64 xt) ∧ w'.cell? ⟨wr.heap.size, 1, none⟩ = some (.int .i64 xk) ∧ w'.cell? ⟨wr.heap.size, 2, none⟩ = some (.slice xA xn xc)) (by kernel_rfl) hS0 (fun hHeld => ?_)
      refine take_d (i := 0) (d := 12) (v := ?e12) rfl rfl (by kernel_rfl) (by kernel_rfl) (by kernel_rfl) (fun _ _ _ h => h) (Or.inl ⟨by kernel_rfl, ?e12h⟩) hHeld ?e12n
      case e12h => (intro w hSw; (try dsimp only at hSw); go_split_ands; go_simp; (try exact rfl))
      try simp only [Act.put, List.setIfInBounds_toArray, List.set_cons_zero, List.set_cons_succ]
      refine take_d (i := 1) (d := 13) (v := ?e13) rfl rfl (by kernel_rfl) (by kernel_rfl) (by kernel_rfl) (fun _ _ _ h => h) (Or.inl ⟨by kernel_rfl, ?e13h⟩) hHeld ?e13n
      case e13h => (intro w hSw; (try dsimp only at hSw); go_split_ands; go_simp; (try exact rfl))
      try simp only [Act.put, List.setIfInBounds_toArray, List.set_cons_zero, List.set_cons_succ]
      refine take_d (i := 2) (d := 14) (v := ?e14) rfl rfl (by kernel_rfl) (by kernel_rfl) (by kernel_rfl) (fun _ _ _ h => h) (Or.inl ⟨by kernel_rfl, ?e14h⟩) hHeld ?e14n
      case e14h => (intro w hSw; (try dsimp only at hSw); go_split_ands; go_simp; (try exact rfl))
      try simp only [Act.put, List.setIfInBounds_toArray, List.set_cons_zero, List.set_cons_succ]
      refine take_d (i := 3) (d := 15) (v := ?e15) rfl rfl (by kernel_rfl) (by kernel_rfl) (by kernel_rfl) (fun _ _ _ h => h) (Or.inl ⟨by kernel_rfl, ?e15h⟩) hHeld ?e15n
      case e15h => (intro w hSw; (try dsimp only at hSw); go_split_ands; go_simp; (try exact rfl))
      try simp only [Act.put, List.setIfInBounds_toArray, List.set_cons_zero, List.set_cons_succ]
      refine take_d (i := 4) (d := 16) (v := ?e16) rfl rfl (by kernel_rfl) (by kernel_rfl) (by kernel_rfl) (fun _ _ _ h => h) (Or.inl ⟨by kernel_rfl, ?e16h⟩) hHeld ?e16n
      case e16h => (intro w hSw; (try dsimp only at hSw); go_split_ands; go_simp; (try exact rfl))
      try simp only [Act.put, List.setIfInBounds_toArray, List.set_cons_zero, List.set_cons_succ]
      refine take_d (i := 5) (d := 17) (v := ?e17) rfl rfl (by kernel_rfl) (by kernel_rfl) (by kernel_rfl) (fun _ _ _ h => h) (Or.inl ⟨by kernel_rfl, ?e17h⟩) hHeld ?e17n
      case e17h => (intro w hSw; (try dsimp only at hSw); go_split_ands; go_simp; (try exact rfl))
      try simp only [Act.put, List.setIfInBounds_toArray, List.set_cons_zero, List.set_cons_succ]
      refine take_d (i := 6) (d := 18) (v := ?e18) rfl rfl (by kernel_rfl) (by kernel_rfl) (by kernel_rfl) (fun _ _ _ h => h) (Or.inl ⟨by kernel_rfl, ?e18h⟩) hHeld ?e18n
      case e18h => (intro w hSw; (try dsimp only at hSw); go_split_ands; go_simp; (try exact rfl))
      try simp only [Act.put, List.setIfInBounds_toArray, List.set_cons_zero, List.set_cons_succ]
      refine wpAnyH_ready (rs := [7]) (by kernel_rfl) (by simp) ?_
      refine AllReadyH.cons rfl (fun K hK => ?_) AllReadyH.nil
      go_simp
      refine (both_any xA xn xc xd none 0 0 [] W0.drew B (BY.out.below (F5.out.mono (Nat.le_trans hB HBW.out.size))) NC.out By.none_ (fun _ => rfl) (Nat.le_trans hB L5.out.size) XN.out (by omega)).mono ?_
      rintro e w6 ⟨A6, c6, rfl, ho6, hb6⟩
      rw [List.append_nil, Nat.add_zero] at ho6
      have B6 := Lib.hid (B5.out.below hb6 B5.out.lt)
      have L6 := Lib.hid (L5.out.trans (hb6.mono L5.out.size))
      have E6 := Lib.hid ((HO.out.below F5.out).below hb6)
      have O6 := Lib.hid (ho6.down L5.out.size)
      clear ho6 hb6
      refine hK.out _ _ (C3.out _ B6.out) (fun hHeld => ?_)
      clear hK K
      try simp only [Act.put, List.setIfInBounds_toArray, List.set_cons_zero, List.set_cons_succ]
      refine take_d (i := 8) (d := 20) (v := ?e20) rfl rfl (by kernel_rfl) (by kernel_rfl) (by kernel_rfl) (fun _ _ _ h => h) (Or.inl ⟨by kernel_rfl, ?e20h⟩) hHeld ?e20n
      case e20h => (intro w hSw; (try dsimp only at hSw); go_split_ands; go_simp; (try exact rfl))
      try simp only [Act.put, List.setIfInBounds_toArray, List.set_cons_zero, List.set_cons_succ]
      refine wpAnyH_ready (rs := [9]) (by kernel_rfl) (by simp) ?_
      refine AllReadyH.cons rfl (fun K hK => ?_) AllReadyH.nil
      go_simp
      refine hK.out _ _ (C3.out _ (B6.out.alloc _)) (fun hHeld => ?_)
      clear hK K
      have B7 : Hid (Blk (w6.alloc (.cells #[.int .u64 xt, .int .i64 xk, .slice A6 xn c6] 54)) w6.heap.size 54 #[.int .u64 xt, .int .i64 xk, .slice A6 xn c6]) := Blk.new w6 54 _
      have B67 : Hid (Blk (w6.alloc (.cells #[.int .u64 xt, .int .i64 xk, .slice A6 xn c6] 54)) wr.heap.size 54 #[.int .u64 xt, .int .i64 xk, .slice xA xn xc]) := B6.out.alloc _
      have L7 : Hid (Below w.heap.size w (w6.alloc (.cells #[.int .u64 xt, .int .i64 xk, .slice A6 xn c6] 54))) := L6.out.alloc L6.out.size _
      have F7 : Below w6.heap.size w6 (w6.alloc (.cells #[.int .u64 xt, .int .i64 xk, .slice A6 xn c6] 54)) := (Below.refl _ _).alloc (Nat.le_refl _) _
      have E7 := Lib.hid (E6.out.below F7)
      have O7 := Lib.hid (O6.out.below F7)
      clear F7 B6 L6 E6 O6
      generalize w6.alloc (.cells #[.int .u64 xt, .int .i64 xk, .slice A6 xn c6] 54) = w7 at *
      generalize w6.heap.size = g7 at *
      try simp only [Act.put, List.setIfInBounds_toArray, List.set_cons_zero, List.set_cons_succ]
      refine wpAnyH_ready (rs := [10]) (by kernel_rfl) (by simp) ?_
      refine AllReadyH.cons rfl (fun K hK => ?_) AllReadyH.nil
      obtain ⟨ys, hy1, hy2, hy3⟩ := E7.out
      refine wp_append_lies w7 (.tmp 12) (.tmp 21) 25 rfl w.heap.size 54 i0 _ 3 40 Try.underlying25 HI.out HZ.out H1.out H2.out rfl (by decide) _ k (rowE ys) rfl hy2 ⟨g7, 0, none⟩ 1 1 [.int .u64 xt, .int .i64 xk, .slice A6 xn c6] rfl rfl (fun j u hu => by rw [add_at, Nat.zero_add, B7.out.cell, List.getElem?_toArray]; exact hu) (by simp [Value.oneCell']) (by decide) (by unfold maxLen; omega) (by omega) L7.out.size _ rfl ?_
      intro g8 cap8 w8 hown8 hgrow8 hat8 hlt8
      have B68 := Lib.hid (show Blk w8 wr.heap.size 54 #[.int .u64 xt, .int .i64 xk, .slice xA xn xc] from (hgrow8.block _ B67.out.lt (fun e => Nat.lt_irrefl _ (RB.out _ e.symm))).trans B67.out)
      have L8 := Lib.hid (L7.out.grown hgrow8 L7.out.size (fun kk hk => (hy2.lt kk hk).1))
      have E8 : Hid (Eo w8 w.heap.size (some ⟨g8, 0, none⟩) (k + 1) cap8 (es.take (k + 1))) := ⟨ys ++ [⟨xt, xk, A6, xn, c6, xd⟩], by rw [List.map_append, hy1, TK.out]; rfl, by rw [rowE_append]; exact hown8, fun x hx => by
          rcases List.mem_append.1 hx with hx | hx
          · exact ⟨(hy3 x hx).1.row hy2 hgrow8, (hy3 x hx).2⟩
          · rw [List.mem_singleton.1 hx]
            exact ⟨O7.out.row hy2 hgrow8, XN.out, T0.out, T1.out⟩⟩
      clear hown8 hgrow8 hat8 hlt8 hy1 hy2 hy3
      refine hK.out _ _ (C3.out _ B68.out) (fun hHeld => ?_)
      clear hK K
      try simp only [Act.put, List.setIfInBounds_toArray, List.set_cons_zero, List.set_cons_succ]
      refine take_d (i := 11) (d := 3) (v := ?e3) rfl rfl (by kernel_rfl) (by kernel_rfl) (by kernel_rfl) (fun _ _ _ h => h) (Or.inl ⟨by kernel_rfl, ?e3h⟩) hHeld ?e3n
      case e3h => (intro w hSw; (try dsimp only at hSw); go_split_ands; go_simp; (try exact rfl))
      try simp only [Act.put, List.setIfInBounds_toArray, List.set_cons_zero, List.set_cons_succ]
      refine wpAnyH_done (by kernel_rfl) ?_ _
      refine NoPanic.normal ?_
      go_wp2
      go_roundw
      case rel => exact ⟨k + 1, by omega, by go_num, _, _, rfl, E8.out, L8.out⟩
      case measure => simp [intOf]; omega
    · obtain rfl : k = n := by omega
      rw [List.take_of_length_le (by rw [HL.out]; omega)] at hoo
      have F := Lib.hid hoo
      clear hoo
      go_wp2
      go_ret
      exact ⟨Av, cv, rfl, F.out, hb⟩

set_option linter.unusedSimpArgs false in
set_option maxRecDepth 100000 in
set_option maxHeartbeats 1000000 in
theorem refcopy_any (l : Lg) (A : Option Addr) (n c B : Nat) (w : World) (h : Lr w B A n c l) (hB : B ≤ w.heap.size) : Calls Try.prog 54 #[.agg #[.int .u64 l.bi, .int .u64 l.bt, .slice A n c]] w (Lgd w l) := by
  obtain ⟨bi, bt, es⟩ := l
  obtain ⟨hes, hnc, hnil, hn, hi0, hi1, ht0, ht1⟩ := h
  simp only at hes hi0 hi1 ht0 ht1
  have CL := Lib.hid (fun W (hW : Below B w W) => refentries_any A n c B es W (hes.below hW) (by omega) (Nat.le_trans hB hW.size))
  have b0 : Blk ((w.alloc (.cells #[.int .u64 bi, .int .u64 bt, .slice A n c] 27)).alloc (.cells #[.int .u64 0, .int .u64 0, .slice none 0 0] 27)) w.heap.size 27 #[.int .u64 bi, .int .u64 bt, .slice A n c] := (Blk.new w 27 _).alloc _
  have b1 : Blk ((w.alloc (.cells #[.int .u64 bi, .int .u64 bt, .slice A n c] 27)).alloc (.cells #[.int .u64 0, .int .u64 0, .slice none 0 0] 27)) (w.heap.size + 1) 27 #[.int .u64 0, .int .u64 0, .slice none 0 0] := Blk.fresh (by simp)
  have hB0 : Below w.heap.size w ((w.alloc (.cells #[.int .u64 bi, .int .u64 bt, .slice A n c] 27)).alloc (.cells #[.int .u64 0, .int .u64 0, .slice none 0 0] 27)) := ((Below.refl _ w).alloc (Nat.le_refl _) _).alloc (by simp) _
  have C3 : Hid (∀ W, Blk W w.heap.size 27 #[.int .u64 bi, .int .u64 bt, .slice A n c] → W.cell? ⟨w.heap.size, 0, none⟩ = some (.int .u64 bi) ∧ W.cell? ⟨w.heap.size, 1, none⟩ = some (.int .u64 bt) ∧ W.cell? ⟨w.heap.size, 2, none⟩ = some (.slice A n c)) := fun W hb => ⟨hb.cell 0, hb.cell 1, hb.cell 2⟩
  clear hes
  go_enter Try.func54, Try.ntmps54
  go_upto_region 1 with (fail)
  generalize (w.alloc (.cells #[.int .u64 bi, .int .u64 bt, .slice A n c] 27)).alloc (.cells #[.int .u64 0, .int .u64 0, .slice none 0 0] 27) = W0 at *
  have B0 : Hid (Blk W0.drew w.heap.size 27 #[.int .u64 bi, .int .u64 bt, .slice A n c]) := b0
  have B1 : Hid (Blk W0.drew (w.heap.size + 1) 27 #[.int .u64 0, .int .u64 0, .slice none 0 0]) := b1
  have HB := Lib.hid hB0.drew
  have hS0 := C3.out _ B0.out
  clear b0 b1 hB0
  refine wp_region_noPanic ?_
  refine wp_region_held_drew (S := fun w' => w'.cell? ⟨w.heap.size, 0, none⟩ = some (.int .u64 bi) ∧ w'.cell? ⟨w.heap.size, 1, none⟩ = some (.int .u64 bt) ∧ w'.cell? ⟨w.heap.size, 2, none⟩ = some (.slice A n c)) (by kernel_rfl) hS0 (fun hHeld => ?_)
  refine take_d (i := 0) (d := 3) (v := ?a3) rfl rfl (by kernel_rfl) (by kernel_rfl) (by kernel_rfl) (fun _ _ _ h => h) (Or.inl ⟨by kernel_rfl, ?a3h⟩) hHeld ?a3n
  case a3h => (intro w hSw; (try dsimp only at hSw); go_split_ands; go_simp; (try exact rfl))
  try simp only [Act.put, List.setIfInBounds_toArray, List.set_cons_zero, List.set_cons_succ]
  refine take_d (i := 1) (d := 4) (v := ?a4) rfl rfl (by kernel_rfl) (by kernel_rfl) (by kernel_rfl) (fun _ _ _ h => h) (Or.inl ⟨by kernel_rfl, ?a4h⟩) hHeld ?a4n
  case a4h => (intro w hSw; (try dsimp only at hSw); go_split_ands; go_simp; (try exact rfl))
  try simp only [Act.put, List.setIfInBounds_toArray, List.set_cons_zero, List.set_cons_succ]
  refine take_d (i := 2) (d := 5) (v := ?a5) rfl rfl (by kernel_rfl) (by kernel_rfl) (by kernel_rfl) (fun _ _ _ h => h) (Or.inl ⟨by kernel_rfl, ?a5h⟩) hHeld ?a5n
  case a5h => (intro w hSw; (try dsimp only at hSw); go_split_ands; go_simp; (try exact rfl))
  try simp only [Act.put, List.setIfInBounds_toArray, List.set_cons_zero, List.set_cons_succ]
  refine take_d (i := 3) (d := 6) (v := ?a6) rfl rfl (by kernel_rfl) (by kernel_rfl) (by kernel_rfl) (fun _ _ _ h => h) (Or.inl ⟨by kernel_rfl, ?a6h⟩) hHeld ?a6n
  case a6h => (intro w hSw; (try dsimp only at hSw); go_split_ands; go_simp; (try exact rfl))
  try simp only [Act.put, List.setIfInBounds_toArray, List.set_cons_zero, List.set_cons_succ]
  refine wpAnyH_ready (rs := [4]) (by kernel_rfl) (by simp) ?_
  refine AllReadyH.cons rfl (fun K hK => ?_) AllReadyH.nil
  go_simp
  refine (CL.out _ (HB.out.mono hB)).mono ?_
  rintro e w2 ⟨A2, c2, rfl, ho2, hb2⟩
  have B02 := Lib.hid (B0.out.below hb2 B0.out.lt)
  have B12 := Lib.hid (B1.out.below hb2 B1.out.lt)
  have HB2 := Lib.hid (HB.out.trans (hb2.mono HB.out.size))
  have HO2 := Lib.hid (ho2.down HB.out.size)
  clear ho2 hb2
  refine hK.out _ _ (C3.out _ B02.out) (fun hHeld => ?_)
  clear hK K
  try simp only [Act.put, List.setIfInBounds_toArray, List.set_cons_zero, List.set_cons_succ]
  refine take_d (i := 5) (d := 8) (v := ?a8) rfl rfl (by kernel_rfl) (by kernel_rfl) (by kernel_rfl) (fun _ _ _ h => h) (Or.inl ⟨by kernel_rfl, ?a8h⟩) hHeld ?a8n
  case a8h => (intro w hSw; (try dsimp only at hSw); go_split_ands; go_simp; (try exact rfl))
  try simp only [Act.put, List.setIfInBounds_toArray, List.set_cons_zero, List.set_cons_succ]
  refine wpAnyH_ready (rs := [6]) (by kernel_rfl) (by simp) ?_
  refine AllReadyH.cons rfl (fun K hK => ?_) AllReadyH.nil
  refine wp_store_blk 27 _ _ rfl (w.heap.size + 1) #[.int .u64 0, .int .u64 0, .slice none 0 0] 27 [.int .u64 bi, .int .u64 bt, .slice A2 n c2] rfl rfl B12.out rfl Try.i27 (by simp [Value.oneCell']) ?_
  intro w3 hb3 ho3
  have B13 := Lib.hid hb3
  have B03 := Lib.hid (ho3.keep B02.out (by omega))
  have HB3 := Lib.hid (HB2.out.trans (ho3.below (by omega)))
  have HO3 := Lib.hid (HO2.out.only27 B12.out ho3)
  clear hb3 ho3
  refine hK.out _ _ (C3.out _ B03.out) (fun hHeld => ?_)
  clear hK K
  try simp only [Act.put, List.setIfInBounds_toArray, List.set_cons_zero, List.set_cons_succ]
  refine wpAnyH_done (by kernel_rfl) ?_ _
  refine NoPanic.normal ?_
  go_wp2
  exact bodyPost_ret (ret27 rfl _ _ _ _ _ _ rfl B13.out) rfl ⟨A2, n, c2, rfl, HO3.out, HB3.out⟩

end Go.Proofs.Ytmgaihdepglahaa
