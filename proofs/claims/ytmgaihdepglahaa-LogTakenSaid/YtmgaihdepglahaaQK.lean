/-
  Behind a Take all of the offer is met, what was met is as it was, taken again it changes nothing: the law LogTaken.
-/
import Derived.Test.YtmgaihdepglahaaQW
import Derived.Test.YtmgaihdepglahaaQ2
import Derived.Test.YtmgaihdepglahaaN10
import Derived.Deep.CutBlock
namespace Go.Proofs.Ytmgaihdepglahaa
open Go.RowKit
attribute [local go_sem ↓] eqA neA eqGA field1

theorem field0 (w : World) (a b : Int) : (Instr.field 24 (.agg #[.int .u64 a, .int .u64 b]) 0).run Try.prog w = .ok (.int .u64 a) w := by
  have e : (Try.prog.fieldsOf 24)[0]? = some ⟨"Index", 22, 0, false, "", "", 0⟩ := by rw [← Array.getElem?_toList, f24]; rfl
  unfold Instr.field
  simp only [Sem.run_bind, run_underlying u24, Result.andThen_ok, e]
  simp [asAgg, part_int w 22 .u64 Try.underlying22 #[.int .u64 a, .int .u64 b] 0 (.int .u64 a) rfl]
attribute [local go_sem ↓] field0

set_option linter.unusedSimpArgs false in
set_option maxRecDepth 100000 in
set_option maxHeartbeats 16000000 in
theorem taken_walk (g o : Gc) (w : World) (hg : g.raw w w.heap.size) (ho : o.raw w w.heap.size) :
    Calls Try.prog 7 #[.agg #[.int .u64 g.bi, .int .u64 g.bt, .slice g.A g.n g.c], .agg #[.int .u64 o.bi, .int .u64 o.bt, .slice o.A o.n o.c]] w fun e w' => e = .returned (.bool true) ∧ Below w.heap.size w w' := by
  obtain ⟨pi, pt, oA, on, oc, oxs⟩ := o
  obtain ⟨hoes, hp0, hp1, ht0, ht1⟩ := ho
  simp only at hoes hp0 hp1 ht0 ht1
  obtain ⟨L, hL⟩ : ∃ L, fewG g.bi g.bt (g.xs.map Ec.en) = L := ⟨_, rfl⟩
  obtain ⟨M, hM⟩ : ∃ M, fewL (oxs.map Ec.en) = M := ⟨_, rfl⟩
  obtain ⟨nM, hnM⟩ : ∃ nM, min on 32 = nM := ⟨_, rfl⟩
  have OW := Lib.hid (fun W (hW : Below w.heap.size w W) => own_any g.bi g.bt g.A g.n g.c w.heap.size g.xs W (hg.es.below hW) hW.size)
  have FW := Lib.hid (fun W (hW : Below w.heap.size w W) => few_any oA on oc w.heap.size oxs W (hoes.below hW) hW.size)
  rw [hL] at OW
  rw [hM, hnM] at FW
  have hLok : Lok L := by
    rw [← hL]
    exact ⟨by have := (fewL_few (g.xs.map Ec.en)).1; show (fewL _).length ≤ 100; omega, hg.bi0, hg.bi1, hg.bt0, hg.bt1⟩
  have hM32 : M.length ≤ 32 := by rw [← hM]; exact (fewL_few _).1
  have b20 : Blk ((w.alloc (.cells #[.int .u64 g.bi, .int .u64 g.bt, .slice g.A g.n g.c] 27)).alloc (.cells #[.int .u64 pi, .int .u64 pt, .slice oA on oc] 33)) w.heap.size 27 #[.int .u64 g.bi, .int .u64 g.bt, .slice g.A g.n g.c] := (Blk.new w 27 _).alloc _
  have b30 : Blk ((w.alloc (.cells #[.int .u64 g.bi, .int .u64 g.bt, .slice g.A g.n g.c] 27)).alloc (.cells #[.int .u64 pi, .int .u64 pt, .slice oA on oc] 33)) (w.heap.size + 1) 33 #[.int .u64 pi, .int .u64 pt, .slice oA on oc] := Blk.fresh (by simp)
  have hb20 : Below w.heap.size w ((w.alloc (.cells #[.int .u64 g.bi, .int .u64 g.bt, .slice g.A g.n g.c] 27)).alloc (.cells #[.int .u64 pi, .int .u64 pt, .slice oA on oc] 33)) := ((Below.refl _ _).alloc (Nat.le_refl _) _).alloc (by simp) _
  clear hL hM hnM hg hoes
  go_enter Try.func7, Try.ntmps7
  go_wp2_with (go_at_call 10; refine (wakes_any _).mono ?_; rintro e w0 ⟨rfl, hb0⟩; have B20 := Lib.hid (b20.below hb0 b20.lt); have B30 := Lib.hid (b30.below hb0 b30.lt); have HB0 := Lib.hid (hb20.trans (hb0.mono hb20.size)); clear hb0 b20 b30 hb20)
  have hb : Below w0.heap.size w0 w0.drew := (Below.refl _ _).drew
  have B21 := Lib.hid (B20.out.below hb B20.out.lt)
  have B31 := Lib.hid (B30.out.below hb B30.out.lt)
  have HB1 := Lib.hid (HB0.out.trans (hb.mono HB0.out.size))
  clear hb
  have hS0 := B31.out.three
  refine wp_region_noPanic ?_
  refine wp_region_held_drew (S := fun w' => (w'.cell? ⟨(w.heap.size + 1), 0, none⟩ = some (.int .u64 pi) ∧ w'.cell? ⟨(w.heap.size + 1), 1, none⟩ = some (.int .u64 pt) ∧ w'.cell? ⟨(w.heap.size + 1), 2, none⟩ = some (.slice oA on oc))) (by kernel_rfl) hS0 (fun hHeld => ?_)
  generalize w0.drew = w1 at *
  refine take_d (i := 2) (d := 25) (v := ?a25) rfl rfl (by kernel_rfl) (by kernel_rfl) (by kernel_rfl) (fun _ _ _ h => h) (Or.inl ⟨by kernel_rfl, ?a25h⟩) hHeld ?a25n
  case a25h => (intro w hSw; (try dsimp only at hSw); go_split_ands; go_simp; (try exact rfl))
  try simp only [Act.put, List.setIfInBounds_toArray, List.set_cons_zero, List.set_cons_succ]
  refine take_d (i := 3) (d := 26) (v := ?a26) rfl rfl (by kernel_rfl) (by kernel_rfl) (by kernel_rfl) (fun _ _ _ h => h) (Or.inl ⟨by kernel_rfl, ?a26h⟩) hHeld ?a26n
  case a26h => (intro w hSw; (try dsimp only at hSw); go_split_ands; go_simp; (try exact rfl))
  try simp only [Act.put, List.setIfInBounds_toArray, List.set_cons_zero, List.set_cons_succ]
  refine wpAnyH_ready (rs := [0]) (by kernel_rfl) (by simp) ?_
  refine AllReadyH.cons rfl (fun K hK => ?_) AllReadyH.nil
  refine wp_load_mid 27 _ rfl w.heap.size 0 rfl [.int .u64 g.bi, .int .u64 g.bt, .slice g.A g.n g.c] _ B21.out.rng Try.underlying27 rfl Try.i27 ?_
  refine hK.out _ _ hHeld (fun hHeld => ?_)
  clear hK K
  try simp only [Act.put, List.setIfInBounds_toArray, List.set_cons_zero, List.set_cons_succ]
  refine wpAnyH_ready (rs := [1]) (by kernel_rfl) (by simp) ?_
  refine AllReadyH.cons rfl (fun K hK => ?_) AllReadyH.nil
  go_simp
  refine (OW.out _ HB1.out).mono ?_
  rintro e w2 ⟨AL, nL, cL, rfl, ho2, hb⟩
  have B22 := Lib.hid (B21.out.below hb B21.out.lt)
  have B32 := Lib.hid (B31.out.below hb B31.out.lt)
  have HB2 := Lib.hid (HB1.out.trans (hb.mono HB1.out.size))
  have HL2 := Lib.hid (ho2.down HB1.out.size)
  clear ho2 hb
  refine hK.out _ _ (B32.out.three) (fun hHeld => ?_)
  clear hK K
  try simp only [Act.put, List.setIfInBounds_toArray, List.set_cons_zero, List.set_cons_succ]
  refine wpAnyH_ready (rs := [4]) (by kernel_rfl) (by simp) ?_
  refine AllReadyH.cons rfl (fun K hK => ?_) AllReadyH.nil
  go_simp
  refine (FW.out _ HB2.out).mono ?_
  rintro e w3 ⟨AM, cM, rfl, ho3, hb⟩
  have B23 := Lib.hid (B22.out.below hb B22.out.lt)
  have B33 := Lib.hid (B32.out.below hb B32.out.lt)
  have HL3 := Lib.hid (Eo.below HL2.out hb)
  have HB3 := Lib.hid (HB2.out.trans (hb.mono HB2.out.size))
  have HM3 := Lib.hid (ho3.down HB2.out.size)
  clear ho3 hb
  refine hK.out _ _ (B33.out.three) (fun hHeld => ?_)
  clear hK K
  try simp only [Act.put, List.setIfInBounds_toArray, List.set_cons_zero, List.set_cons_succ]
  refine wpAnyH_ready (rs := [5]) (by kernel_rfl) (by simp) ?_
  refine AllReadyH.cons rfl (fun K hK => ?_) AllReadyH.nil
  refine wp_store_blk 27 _ _ rfl w.heap.size #[.int .u64 g.bi, .int .u64 g.bt, .slice g.A g.n g.c] 27 [.int .u64 L.bi, .int .u64 L.bt, .slice AL nL cL] rfl rfl B23.out rfl Try.i27 (by simp [Value.oneCell']) ?_
  intro w4 hb ho
  have B24 := Lib.hid hb
  have B34 := Lib.hid (ho.keep B33.out (by omega))
  have HL4 := Lib.hid (HL3.out.only27 B23.out ho)
  have HM4 := Lib.hid (HM3.out.only27 B23.out ho)
  have HB4 := Lib.hid (HB3.out.trans (ho.below (Nat.le_refl _)))
  clear hb ho
  refine hK.out _ _ B34.out.three (fun hHeld => ?_)
  clear hK K
  try simp only [Act.put, List.setIfInBounds_toArray, List.set_cons_zero, List.set_cons_succ]
  refine take_d (i := 6) (d := 5) (v := ?a5) rfl rfl (by kernel_rfl) (by kernel_rfl) (by kernel_rfl) (fun _ _ _ h => h) (Or.inl ⟨by kernel_rfl, ?a5h⟩) hHeld ?a5n
  case a5h => (intro w hSw; (try dsimp only at hSw); go_split_ands; go_simp; (try exact rfl))
  try simp only [Act.put, List.setIfInBounds_toArray, List.set_cons_zero, List.set_cons_succ]
  refine wpAnyH_done (by kernel_rfl) ?_ _
  refine NoPanic.normal ?_
  clear OW FW HB0 HB1 HB2 HB3 B21 B22 B31 B32 B33 HL2 HL3 HM3 B20 B30 hS0 B23
  have hml : M.length = nM := HM4.out.len
  have hm32 : nM ≤ 32 := by omega
  have hLl := HL4.out.len
  have LR : Hid (∀ W, Eo W w.heap.size AL nL cL L.es → Lr W W.heap.size AL nL cL L) := Lib.hid (fun W ho => hLok.lr ho)
  have MR : Hid (∀ W, Eo W w.heap.size AM nM cM M → Lr W W.heap.size AM nM cM ⟨pi, pt, M⟩) := Lib.hid (fun W ho => Eo.lr (l := ⟨pi, pt, M⟩) ho (by show M.length ≤ 1000; omega) hp0 hp1 ht0 ht1)
  have ME := Lib.hid (fun W ho ho' => Meet_any L ⟨pi, pt, M⟩ AL AM nL cL nM cM _ W (LR.out W ho) (MR.out W ho') (Nat.le_refl _))
  have TK := Lib.hid (fun W ho ho' => Take_any L ⟨pi, pt, M⟩ AL AM nL cL nM cM _ W (LR.out W ho) (MR.out W ho') (Nat.le_refl _) (by omega))
  simp only at ME TK
  have hbad : pTakeE L pi pt M ≠ 0 → pTakeL L pi pt M = lg0 ∧ pTakeI L pi pt M = 0 ∧ (meetE L pi pt M = 0 ∨ meetE L pi pt M = pTakeE L pi pt M) := fun h => by
    refine ⟨by unfold pTakeL; rw [if_pos h], by unfold pTakeI; rw [if_pos h], ?_⟩
    by_cases hE : meetE L pi pt M = 0
    · exact Or.inl hE
    · exact Or.inr (by unfold pTakeE; rw [if_pos hE])
  have hgood := fun h => taken (l := L) (pi := pi) (pt := pt) (es := M) hLok.bi0 hp0 h
  generalize meetN L pi pt M = k at *
  generalize meetE L pi pt M = E at *
  generalize pTakeE L pi pt M = TE at *
  generalize pTakeL L pi pt M = X at *
  generalize pTakeI L pi pt M = TI at *
  obtain ⟨x0, x1, x2⟩ := B24.out.three
  obtain ⟨y0, y1, y2⟩ := B34.out.three
  go_wp2_with fail
  refine (ME.out w4 HL4.out HM4.out).mono ?_
  rintro e w5 ⟨rfl, hb⟩
  have B25 := Lib.hid (B24.out.below hb B24.out.lt)
  have B35 := Lib.hid (B34.out.below hb B34.out.lt)
  have HL5 := Lib.hid (Eo.below HL4.out hb)
  have HM5 := Lib.hid (Eo.below HM4.out hb)
  have HB5 := Lib.hid (HB4.out.trans (hb.mono HB4.out.size))
  clear hb x0 x1 x2 y0 y1 y2
  obtain ⟨x0, x1, x2⟩ := B25.out.three
  obtain ⟨y0, y1, y2⟩ := B35.out.three
  go_wp2_with fail
  refine (TK.out w5 HL5.out HM5.out).mono ?_
  rintro e w6 ⟨Ax, nx, cx, rfl, ho6, hb⟩
  have Hx6 := Lib.hid (ho6.down HB5.out.size)
  have B26 := Lib.hid (B25.out.below hb B25.out.lt)
  have B36 := Lib.hid (B35.out.below hb B35.out.lt)
  have HL6 := Lib.hid (Eo.below HL5.out hb)
  have HM6 := Lib.hid (Eo.below HM5.out hb)
  have HB6 := Lib.hid (HB5.out.trans (hb.mono HB5.out.size))
  clear hb ho6 x0 x1 x2 y0 y1 y2 ME TK
  have hz := B26.out.lt
  have hz3 := B36.out.lt
  by_cases hTE : TE = 0
  rotate_left
  · obtain ⟨rfl, rfl, hE⟩ := hbad hTE
    clear hbad hgood
    obtain rfl : nx = 0 := by have := Hx6.out.len; exact this.symm
    have t1 : (TE != 0) = true := by simp [hTE]
    have t2 : (TE == 0) = false := by simp [hTE]
    have hbW : Below w6.heap.size w6 (w6.alloc (.cells #[.int .u64 lg0.bi, .int .u64 lg0.bt, .slice Ax 0 cx] 27)) := (Below.refl _ _).alloc (Nat.le_refl _) _
    have HB7 := Lib.hid (HB6.out.trans (hbW.mono HB6.out.size))
    clear hbW
    rcases hE with rfl | rfl
    · go_wp2
      go_ret
      exact ⟨rfl, HB7.out⟩
    · go_wp2
      go_ret
      exact ⟨rfl, HB7.out⟩
  · subst hTE
    obtain ⟨hE, hTI, hT⟩ := hgood rfl
    subst hE hTI
    clear hbad hgood
    have hLb := hLok.bi0
    have hLb1 := hLok.bi1
    have hrm := hT.rm
    rw [hml] at hrm
    have hkn : k ≤ nM := by rw [← hml]; exact hT.n0
    have hXok : Lok X := ⟨by have := (right_parts hT.rx).2.1; omega, by rw [hT.bi]; exact hLok.bi0, by rw [hT.bi]; exact hLok.bi1, by rw [hT.bt]; exact hLok.bt0, by rw [hT.bt]; exact hLok.bt1⟩
    have XR : Hid (∀ W A n c, Eo W w.heap.size A n c X.es → Lr W W.heap.size A n c X) := Lib.hid (fun W A n c ho => hXok.lr ho)
    have MX : Hid (∀ W, Eo W w.heap.size Ax nx cx X.es → Calls Try.prog 42 #[.agg #[.int .u64 X.bi, .int .u64 X.bt, .slice Ax nx cx]] W fun e w' => e = .returned (.bool true) ∧ Below W.heap.size W w') := Lib.hid (fun W ho => by
      have := may_any X Ax nx cx _ W (XR.out W _ _ _ ho) (Nat.le_refl _)
      rw [hT.rx] at this
      exact this)
    have ME : Hid (∀ W, Eo W w.heap.size Ax nx cx X.es → Eo W w.heap.size AM nM cM M → Calls Try.prog 14 #[.agg #[.int .u64 X.bi, .int .u64 X.bt, .slice Ax nx cx], .agg #[.int .u64 pi, .int .u64 pt], .slice AM nM cM] W fun e w' => e = .returned (.tuple #[.int .i64 (nM : Int), .int .i64 0]) ∧ Below W.heap.size W w') := Lib.hid (fun W ho ho' => by
      have := Meet_any X ⟨pi, pt, M⟩ Ax AM nx cx nM cM _ W (XR.out W _ _ _ ho) (MR.out W ho') (Nat.le_refl _)
      simp only [hT.e, hT.m, hml] at this
      exact this)
    have hx1 : pTakeE X pi pt M = 0 := by unfold pTakeE; rw [if_neg (by rw [hT.e]; decide), if_neg (by rw [hT.m]; omega)]
    have hx2 : pTakeL X pi pt M = X := by unfold pTakeL; rw [if_neg (by rw [hx1]; decide), if_neg (by rw [hT.m]; omega)]
    have hx3 : pTakeI X pi pt M = pi + nM := by unfold pTakeI; rw [if_neg (by rw [hx1]; decide), hml]; unfold spI; omega
    have TK : Hid (∀ W, Eo W w.heap.size Ax nx cx X.es → Eo W w.heap.size AM nM cM M → Calls Try.prog 16 #[.agg #[.int .u64 X.bi, .int .u64 X.bt, .slice Ax nx cx], .agg #[.int .u64 pi, .int .u64 pt], .slice AM nM cM] W (Ltk W X (pi + nM) 0)) := Lib.hid (fun W ho ho' => by
      have := Take_any X ⟨pi, pt, M⟩ Ax AM nx cx nM cM _ W (XR.out W _ _ _ ho) (MR.out W ho') (Nat.le_refl _) (by omega)
      simp only [hx1, hx2, hx3] at this
      exact this)
    have SM : Hid (∀ W Ay ny cy, Eo W w.heap.size Ax nx cx X.es → Eo W w.heap.size Ay ny cy X.es → Calls Try.prog 41 #[.agg #[.int .u64 X.bi, .int .u64 X.bt, .slice Ax nx cx], .agg #[.int .u64 X.bi, .int .u64 X.bt, .slice Ay ny cy]] W fun e w' => e = .returned (.bool true) ∧ Below W.heap.size W w') := Lib.hid (fun W Ay ny cy ho ho' => by
      have := Same_any X X Ax Ay nx ny cx cy _ W (XR.out W _ _ _ ho) (XR.out W _ _ _ ho') (Nat.le_refl _)
      rw [decide_eq_true rfl] at this
      exact this)
    have hLen : L.es.length = nL := hLl
    have hLroom := (right_parts hT.r).2.2.2
    have TL : Hid (∀ j : Nat, j ≤ nL → ∀ W, Eo W w.heap.size AL nL cL L.es → Calls Try.prog 30 #[.agg #[.int .u64 L.bi, .int .u64 L.bt, .slice AL nL cL], .int .u64 (L.bi + (j : Int))] W fun e w' => e = .returned (.tuple #[.int .u64 (L.T j), .bool true]) ∧ Below W.heap.size W w') := Lib.hid (fun j hj W ho => by
      have := Term_any L AL nL cL _ W (LR.out W ho) (Nat.le_refl _) (L.bi + j) (by omega) (by omega)
      rw [(term_in hT.r hLb (by omega)).1, (term_in hT.r hLb (by omega)).2] at this
      exact this)
    have hXroom := (right_parts hT.rx).2.2.2
    have TX : Hid (∀ j : Nat, j ≤ nL → (k < nM → L.bi + (j : Int) ≤ pi + (k : Int)) → ∀ W, Eo W w.heap.size Ax nx cx X.es → Calls Try.prog 30 #[.agg #[.int .u64 X.bi, .int .u64 X.bt, .slice Ax nx cx], .int .u64 (L.bi + (j : Int))] W fun e w' => e = .returned (.tuple #[.int .u64 (L.T j), .bool true]) ∧ Below W.heap.size W w') := Lib.hid (fun j hj hk W ho => by
      obtain ⟨hw1, hw2⟩ := hT.was j (by omega) (by rw [hml]; exact hk)
      have := Term_any X Ax nx cx _ W (XR.out W _ _ _ ho) (Nat.le_refl _) (L.bi + j) (by omega) (by omega)
      have hti := term_in hT.rx hXok.bi0 hw1
      rw [hT.bi, hw2] at hti
      rw [hti.1, hti.2] at this
      exact this)
    have HX : Hid (∀ j : Nat, k ≤ j → j < nM → ∀ W, Eo W w.heap.size Ax nx cx X.es → Calls Try.prog 37 #[.agg #[.int .u64 X.bi, .int .u64 X.bt, .slice Ax nx cx], .agg #[.int .u64 (pi + (j : Int) + 1), .int .u64 (M.getD j e0).t]] W fun e w' => e = .returned (.bool true) ∧ Below W.heap.size W w') := Lib.hid (fun j hj hj' W ho => by
      have := Has_any X Ax nx cx _ W (XR.out W _ _ _ ho) (Nat.le_refl _) (pi + j + 1) (M.getD j e0).t (by omega) (by omega)
      rw [show hasB X (pi + j + 1) (M.getD j e0).t = true by unfold hasB; rw [hT.rx, hT.new j hj (by omega)]; rfl] at this
      exact this)
    have LX : Hid (k < nM → ∀ W, Eo W w.heap.size Ax nx cx X.es → Calls Try.prog 28 #[.agg #[.int .u64 X.bi, .int .u64 X.bt, .slice Ax nx cx]] W fun e w' => e = .returned (.agg #[.int .u64 (pi + (nM : Int)), .int .u64 X.lastT]) ∧ Below W.heap.size W w') := Lib.hid (fun hk W ho => by
      have := Last_any X Ax nx cx _ W (XR.out W _ _ _ ho) (Nat.le_refl _)
      unfold pLastI pLastT at this
      rw [if_pos hT.rx, if_pos hT.rx, hT.last (by omega), hml] at this
      exact this)
    have hm64 : IntKind.u64.wrap (nM : Int) = (nM : Int) := by rw [IntKind.wrap_u64]; omega
    have hk64 : IntKind.u64.wrap (k : Int) = (k : Int) := by rw [IntKind.wrap_u64]; omega
    have hIm : IntKind.u64.wrap (pi + (nM : Int)) = pi + (nM : Int) := by rw [IntKind.wrap_u64]; omega
    have hIk : IntKind.u64.wrap (pi + (k : Int)) = pi + (k : Int) := by rw [IntKind.wrap_u64]; omega
    have hng : ¬ ((nM : Int) < (k : Int)) := by omega
    have HL16 : Hid (nL ≤ 16) := Lib.hid (by have := (right_parts hT.r).2.1; omega)
    have N64 : Hid (wrap64 ((nL : Int) + 1) = (nL : Int) + 1) := Lib.hid (by rw [wrap64_eq]; have := HL16.out; omega)
    have HLR : Hid (L.bi + (nL : Int) ≤ 18446744073709551614) := Lib.hid (by omega)
    have HRM := Lib.hid hrm
    have HP0 := Lib.hid hp0
    have HLB := Lib.hid hLb
    have HKN := Lib.hid hkn
    have HM32 := Lib.hid hm32
    rw [hml]
    clear hx1 hx2 hx3 hXroom hLroom hLen hT hXok hLok hrm hml hM32 hLl XR MR LR hLb1 hp1 ht0 ht1 hp0 hLb hkn hm32
    go_wp2_with fail
    have hb : Below w6.heap.size w6 (w6.alloc (.cells #[.int .u64 X.bi, .int .u64 X.bt, .slice Ax nx cx] 27)) := (Below.refl _ _).alloc (Nat.le_refl _) _
    have B27 := Lib.hid (B26.out.below hb B26.out.lt)
    have B37 := Lib.hid (B36.out.below hb B36.out.lt)
    have HL7 := Lib.hid (Eo.below HL6.out hb)
    have HM7 := Lib.hid (Eo.below HM6.out hb)
    have Hx7 := Lib.hid (Eo.below Hx6.out hb)
    have HB7 := Lib.hid (HB6.out.trans (hb.mono HB6.out.size))
    have B87 : Hid (Blk (w6.alloc (.cells #[.int .u64 X.bi, .int .u64 X.bt, .slice Ax nx cx] 27)) w6.heap.size 27 #[.int .u64 X.bi, .int .u64 X.bt, .slice Ax nx cx]) := Lib.hid (Blk.new _ _ _)
    clear hb
    generalize (w6.alloc (.cells #[.int .u64 X.bi, .int .u64 X.bt, .slice Ax nx cx] 27)) = w7 at *
    generalize w6.heap.size = p8 at *
    refine (MX.out w7 Hx7.out).mono ?_
    rintro e w8 ⟨rfl, hb⟩
    have B28 := Lib.hid (B27.out.below hb B27.out.lt)
    have B38 := Lib.hid (B37.out.below hb B37.out.lt)
    have B88 := Lib.hid (B87.out.below hb B87.out.lt)
    have HL8 := Lib.hid (Eo.below HL7.out hb)
    have HM8 := Lib.hid (Eo.below HM7.out hb)
    have Hx8 := Lib.hid (Eo.below Hx7.out hb)
    have HB8 := Lib.hid (HB7.out.trans (hb.mono HB7.out.size))
    clear hb hz hz3
    obtain ⟨x0, x1, x2⟩ := B88.out.three
    obtain ⟨y0, y1, y2⟩ := B38.out.three
    go_wp2_with fail
    refine (ME.out w8 Hx8.out HM8.out).mono ?_
    rintro e w9 ⟨rfl, hb⟩
    have B29 := Lib.hid (B28.out.below hb B28.out.lt)
    have B39 := Lib.hid (B38.out.below hb B38.out.lt)
    have B89 := Lib.hid (B88.out.below hb B88.out.lt)
    have HL9 := Lib.hid (Eo.below HL8.out hb)
    have HM9 := Lib.hid (Eo.below HM8.out hb)
    have Hx9 := Lib.hid (Eo.below Hx8.out hb)
    have HB9 := Lib.hid (HB8.out.trans (hb.mono HB8.out.size))
    clear hb x0 x1 x2 y0 y1 y2
    obtain ⟨x0, x1, x2⟩ := B89.out.three
    obtain ⟨y0, y1, y2⟩ := B39.out.three
    go_wp2_with fail
    refine (TK.out w9 Hx9.out HM9.out).mono ?_
    rintro e w10 ⟨Ay, ny, cy, rfl, ho10, hb⟩
    have Hy10 := Lib.hid (ho10.down HB9.out.size)
    have B210 := Lib.hid (B29.out.below hb B29.out.lt)
    have B310 := Lib.hid (B39.out.below hb B39.out.lt)
    have B810 := Lib.hid (B89.out.below hb B89.out.lt)
    have HL10 := Lib.hid (Eo.below HL9.out hb)
    have HM10 := Lib.hid (Eo.below HM9.out hb)
    have Hx10 := Lib.hid (Eo.below Hx9.out hb)
    have HB10 := Lib.hid (HB9.out.trans (hb.mono HB9.out.size))
    clear hb ho10 x0 x1 x2 y0 y1 y2
    have hz := B210.out.lt
    have hz3 := B310.out.lt
    have hz8 := B810.out.lt
    obtain ⟨x0, x1, x2⟩ := B810.out.three
    go_wp2_with fail
    clear x0 x1 x2
    have hb : Below w10.heap.size w10 (w10.alloc (.cells #[.int .u64 X.bi, .int .u64 X.bt, .slice Ay ny cy] 27)) := (Below.refl _ _).alloc (Nat.le_refl _) _
    have B211 := Lib.hid (B210.out.below hb B210.out.lt)
    have B311 := Lib.hid (B310.out.below hb B310.out.lt)
    have B811 := Lib.hid (B810.out.below hb B810.out.lt)
    have HL11 := Lib.hid (Eo.below HL10.out hb)
    have HM11 := Lib.hid (Eo.below HM10.out hb)
    have Hx11 := Lib.hid (Eo.below Hx10.out hb)
    have Hy11 := Lib.hid (Eo.below Hy10.out hb)
    have HB11 := Lib.hid (HB10.out.trans (hb.mono HB10.out.size))
    have BY11 : Hid (Blk (w10.alloc (.cells #[.int .u64 X.bi, .int .u64 X.bt, .slice Ay ny cy] 27)) w10.heap.size 27 #[.int .u64 X.bi, .int .u64 X.bt, .slice Ay ny cy]) := Lib.hid (Blk.new _ _ _)
    clear hb
    generalize (w10.alloc (.cells #[.int .u64 X.bi, .int .u64 X.bt, .slice Ay ny cy] 27)) = w11 at *
    generalize w10.heap.size = pY at *
    refine (SM.out w11 _ _ _ Hx11.out Hy11.out).mono ?_
    rintro e w12 ⟨rfl, hb⟩
    have B212 := Lib.hid (B211.out.below hb B211.out.lt)
    have B312 := Lib.hid (B311.out.below hb B311.out.lt)
    have B812 := Lib.hid (B811.out.below hb B811.out.lt)
    have HL12 := Lib.hid (Eo.below HL11.out hb)
    have HM12 := Lib.hid (Eo.below HM11.out hb)
    have Hx12 := Lib.hid (Eo.below Hx11.out hb)
    have HB12 := Lib.hid (HB11.out.trans (hb.mono HB11.out.size))
    clear hb hz hz3 hz8 SM TK ME MX
    obtain ⟨x0, x1, x2⟩ := B212.out.three
    have n64 := N64.out
    go_upto_block 0 with fail
    clear x0 x1 x2 n64
    rw [N64.out]
    go_cut [] from 132 to 178 (fun wx => Blk wx p8 27 #[.int .u64 X.bi, .int .u64 X.bt, .slice Ax nx cx] ∧ Blk wx (w.heap.size + 1) 33 #[.int .u64 pi, .int .u64 pt, .slice oA on oc] ∧ Eo wx w.heap.size AM nM cM M ∧ Eo wx w.heap.size Ax nx cx X.es ∧ Below w.heap.size w wx)
    case first =>
      go_wp2_with fail
      go_loopw [132] (fun ix wr => ∃ j : Nat, j ≤ nL + 1 ∧ ix = .int .i64 j ∧ Blk wr w.heap.size 27 #[.int .u64 L.bi, .int .u64 L.bt, .slice AL nL cL] ∧ Blk wr p8 27 #[.int .u64 X.bi, .int .u64 X.bt, .slice Ax nx cx] ∧ Blk wr (w.heap.size + 1) 33 #[.int .u64 pi, .int .u64 pt, .slice oA on oc] ∧ Eo wr w.heap.size AL nL cL L.es ∧ Eo wr w.heap.size Ax nx cx X.es ∧ Eo wr w.heap.size AM nM cM M ∧ Below w.heap.size w wr) (fun ix _ => nL + 1 - (intOf ix).toNat)
      case atStart => exact ⟨0, Nat.zero_le _, rfl, B212.out, B812.out, B312.out, HL12.out, Hx12.out, HM12.out, HB12.out⟩
      case round =>
        obtain ⟨j, hj, rfl, c2', c8', c3', oL', ox', oM', hb'⟩ := hrel
        have B20 := Lib.hid c2'
        have B80 := Lib.hid c8'
        have B30 := Lib.hid c3'
        have HL0 := Lib.hid oL'
        have Hx0 := Lib.hid ox'
        have HM0 := Lib.hid oM'
        have HB0 := Lib.hid hb'
        clear c2' c8' c3' oL' ox' oM' hb'
        by_cases hlt : j < nL + 1
        · have hjl : j ≤ nL := by omega
          have l0 : ((j : Int) < (nL : Int) + 1) := by omega
          have e18 : IntKind.u64.wrap (L.bi + (j : Int)) = L.bi + (j : Int) := by rw [IntKind.wrap_u64]; have := HLR.out; have := HLB.out; have := HL16.out; omega
          have e19 : IntKind.u64.wrap (j : Int) = (j : Int) := by rw [IntKind.wrap_u64]; have := HL16.out; omega
          obtain ⟨x0, x1, x2⟩ := B20.out.three
          obtain ⟨y0, y1, y2⟩ := B30.out.three
          have step : (k < nM → L.bi + (j : Int) ≤ pi + (k : Int)) → ∀ W, Eo W w.heap.size Ax nx cx X.es → Calls Try.prog 30 #[.agg #[.int .u64 X.bi, .int .u64 X.bt, .slice Ax nx cx], .int .u64 (L.bi + (j : Int))] W fun e w' => e = .returned (.tuple #[.int .u64 (L.T j), .bool true]) ∧ Below W.heap.size W w' := TX.out j hjl
          have STEP := Lib.hid step
          clear step
          by_cases hk : k < nM
          · have hkI : ((k : Int) < (nM : Int)) := by omega
            by_cases hg : pi + (k : Int) < L.bi + (j : Int)
            · clear hlt hj
              go_wp2
              go_meet
              case rel => exact ⟨B80.out, B30.out, HM0.out, Hx0.out, HB0.out⟩
            · have hle : k < nM → L.bi + (j : Int) ≤ pi + (k : Int) := fun _ => by omega
              go_wp2_with fail
              clear x0 x1 x2 y0 y1 y2
              refine (TL.out j hjl wr HL0.out).mono ?_
              rintro e w1 ⟨rfl, hb⟩
              have B21 := Lib.hid (B20.out.below hb B20.out.lt)
              have B81 := Lib.hid (B80.out.below hb B80.out.lt)
              have B31 := Lib.hid (B30.out.below hb B30.out.lt)
              have HL1 := Lib.hid (Eo.below HL0.out hb)
              have Hx1 := Lib.hid (Eo.below Hx0.out hb)
              have HM1 := Lib.hid (Eo.below HM0.out hb)
              have HB1 := Lib.hid (HB0.out.trans (hb.mono HB0.out.size))
              clear hb
              obtain ⟨x0, x1, x2⟩ := B81.out.three
              go_wp2_with fail
              clear x0 x1 x2
              refine (STEP.out hle w1 Hx1.out).mono ?_
              rintro e w2 ⟨rfl, hb⟩
              have B22 := Lib.hid (B21.out.below hb B21.out.lt)
              have B82 := Lib.hid (B81.out.below hb B81.out.lt)
              have B32 := Lib.hid (B31.out.below hb B31.out.lt)
              have HL2 := Lib.hid (Eo.below HL1.out hb)
              have Hx2 := Lib.hid (Eo.below Hx1.out hb)
              have HM2 := Lib.hid (Eo.below HM1.out hb)
              have HB2 := Lib.hid (HB1.out.trans (hb.mono HB1.out.size))
              clear hb
              have j64 : wrap64 ((j : Int) + 1) = (j : Int) + 1 := by rw [wrap64_eq]; have := HL16.out; omega
              go_wp2
              go_roundw
              case rel => exact ⟨j + 1, (by clear j64; omega), (by first | (rw [j64]; rfl) | go_num), B22.out, B82.out, B32.out, HL2.out, Hx2.out, HM2.out, HB2.out⟩
              case measure => (try rw [j64]); clear j64; simp [intOf]; omega
          · have hkI : ¬ ((k : Int) < (nM : Int)) := by omega
            have hle : k < nM → L.bi + (j : Int) ≤ pi + (k : Int) := fun h => absurd h hk
            go_wp2_with fail
            clear x0 x1 x2 y0 y1 y2
            refine (TL.out j hjl wr HL0.out).mono ?_
            rintro e w1 ⟨rfl, hb⟩
            have B21 := Lib.hid (B20.out.below hb B20.out.lt)
            have B81 := Lib.hid (B80.out.below hb B80.out.lt)
            have B31 := Lib.hid (B30.out.below hb B30.out.lt)
            have HL1 := Lib.hid (Eo.below HL0.out hb)
            have Hx1 := Lib.hid (Eo.below Hx0.out hb)
            have HM1 := Lib.hid (Eo.below HM0.out hb)
            have HB1 := Lib.hid (HB0.out.trans (hb.mono HB0.out.size))
            clear hb
            obtain ⟨x0, x1, x2⟩ := B81.out.three
            go_wp2_with fail
            clear x0 x1 x2
            refine (STEP.out hle w1 Hx1.out).mono ?_
            rintro e w2 ⟨rfl, hb⟩
            have B22 := Lib.hid (B21.out.below hb B21.out.lt)
            have B82 := Lib.hid (B81.out.below hb B81.out.lt)
            have B32 := Lib.hid (B31.out.below hb B31.out.lt)
            have HL2 := Lib.hid (Eo.below HL1.out hb)
            have Hx2 := Lib.hid (Eo.below Hx1.out hb)
            have HM2 := Lib.hid (Eo.below HM1.out hb)
            have HB2 := Lib.hid (HB1.out.trans (hb.mono HB1.out.size))
            clear hb
            have j64 : wrap64 ((j : Int) + 1) = (j : Int) + 1 := by rw [wrap64_eq]; have := HL16.out; omega
            go_wp2
            go_roundw
            case rel => exact ⟨j + 1, (by clear j64; omega), (by first | (rw [j64]; rfl) | go_num), B22.out, B82.out, B32.out, HL2.out, Hx2.out, HM2.out, HB2.out⟩
            case measure => (try rw [j64]); clear j64; simp [intOf]; omega
        · have l0 : ¬ ((j : Int) < (nL : Int) + 1) := by omega
          go_wp2
          go_meet
          case rel => exact ⟨B80.out, B30.out, HM0.out, Hx0.out, HB0.out⟩
    case rest =>
      obtain ⟨c8', c3', oM', ox', hb'⟩ := hcut
      have B80 := Lib.hid c8'
      have B30 := Lib.hid c3'
      have Hx0 := Lib.hid ox'
      have HM0 := Lib.hid oM'
      have HB0 := Lib.hid hb'
      clear c8' c3' oM' ox' hb'
      clear TL TX
      go_wp2_with fail
      go_loopw [20] (fun ix wr => ∃ j : Nat, k ≤ j ∧ j ≤ nM ∧ ix = .int .i64 j ∧ Blk wr p8 27 #[.int .u64 X.bi, .int .u64 X.bt, .slice Ax nx cx] ∧ Blk wr (w.heap.size + 1) 33 #[.int .u64 pi, .int .u64 pt, .slice oA on oc] ∧ Eo wr w.heap.size Ax nx cx X.es ∧ Eo wr w.heap.size AM nM cM M ∧ Below w.heap.size w wr) (fun ix _ => nM - (intOf ix).toNat)
      case atStart => exact ⟨k, Nat.le_refl _, HKN.out, rfl, B80.out, B30.out, Hx0.out, HM0.out, HB0.out⟩
      case round =>
        obtain ⟨j, hkj, hj, rfl, c8', c3', ox', oM', hb'⟩ := hrel
        have B81 := Lib.hid c8'
        have B31 := Lib.hid c3'
        have Hx1 := Lib.hid ox'
        have HM1 := Lib.hid oM'
        have HB1 := Lib.hid hb'
        clear c8' c3' ox' oM' hb'
        by_cases hlt : j < nM
        · obtain ⟨b, o, x, rfl, hbB, hex, hxok, hrng⟩ := HM1.out.read.at_ hlt
          have hxt : x.t = (M.getD j e0).t := congrArg En.t hex
          have RG : Hid (∀ W, Eo W w.heap.size (some ⟨b, o, none⟩) nM cM M → W.cell? ⟨b, o + j * 3, none⟩ = some (.int .u64 (M.getD j e0).t)) := Lib.hid (fun W hW => by
            obtain ⟨b', o', x', he', _, hex', _, hr'⟩ := hW.read.at_ hlt
            injection he' with he'
            injection he' with he1 he2 _
            subst he1 he2
            have := hr' 0 (.int .u64 x'.t) rfl
            rw [show x'.t = (M.getD j e0).t from congrArg En.t hex'] at this
            exact this)
          clear hbB hex hxok hrng hxt
          have l0 : ((j : Int) < (nM : Int)) := by omega
          have j0 : (0 : Int) ≤ (j : Int) := by omega
          have e19 : IntKind.u64.wrap (j : Int) = (j : Int) := by rw [IntKind.wrap_u64]; have := HM32.out; omega
          have e18 : IntKind.u64.wrap (pi + (j : Int)) = pi + (j : Int) := by rw [IntKind.wrap_u64]; have := HRM.out; have := HP0.out; omega
          have e17 : IntKind.u64.wrap (pi + (j : Int) + 1) = pi + (j : Int) + 1 := by rw [IntKind.wrap_u64]; have := HRM.out; have := HP0.out; omega
          have hjn : (j : Int).toNat = j := rfl
          go_wp2_with fail
          have hb : Below wr.heap.size wr wr.drew := (Below.refl _ _).drew
          have B82 := Lib.hid (B81.out.below hb B81.out.lt)
          have B32 := Lib.hid (B31.out.below hb B31.out.lt)
          have Hx2 := Lib.hid (Eo.below Hx1.out hb)
          have HM2 := Lib.hid (Eo.below HM1.out hb)
          have HB2 := Lib.hid (HB1.out.trans (hb.mono HB1.out.size))
          clear hb
          have hS1 := And.intro B82.out.three (And.intro B32.out.three (RG.out _ HM2.out))
          refine wp_region_noPanic ?_
          refine wp_region_held_drew (S := fun w' => (w'.cell? ⟨p8, 0, none⟩ = some (.int .u64 X.bi) ∧ w'.cell? ⟨p8, 1, none⟩ = some (.int .u64 X.bt) ∧ w'.cell? ⟨p8, 2, none⟩ = some (.slice Ax nx cx)) ∧ (w'.cell? ⟨(w.heap.size + 1), 0, none⟩ = some (.int .u64 pi) ∧ w'.cell? ⟨(w.heap.size + 1), 1, none⟩ = some (.int .u64 pt) ∧ w'.cell? ⟨(w.heap.size + 1), 2, none⟩ = some (.slice oA on oc)) ∧ w'.cell? ⟨b, o + j * 3, none⟩ = some (.int .u64 (M.getD j e0).t)) (by kernel_rfl) hS1 (fun hHeld => ?_)
          generalize wr.drew = w2 at *
          refine take_d (i := 0) (d := 186) (v := ?b186) rfl rfl (by kernel_rfl) (by kernel_rfl) (by kernel_rfl) (fun _ _ _ h => h) (Or.inl ⟨by kernel_rfl, ?b186h⟩) hHeld ?b186n
          case b186h => (intro w hSw; (try dsimp only at hSw); go_split_ands; go_simp; (try exact rfl))
          try simp only [Act.put, List.setIfInBounds_toArray, List.set_cons_zero, List.set_cons_succ]
          refine take_d (i := 1) (d := 187) (v := ?b187) rfl rfl (by kernel_rfl) (by kernel_rfl) (by kernel_rfl) (fun _ _ _ h => h) (Or.inl ⟨by kernel_rfl, ?b187h⟩) hHeld ?b187n
          case b187h => (intro w hSw; (try dsimp only at hSw); go_split_ands; go_simp; (try exact rfl))
          try simp only [Act.put, List.setIfInBounds_toArray, List.set_cons_zero, List.set_cons_succ]
          refine take_d (i := 2) (d := 188) (v := ?b188) rfl rfl (by kernel_rfl) (by kernel_rfl) (by kernel_rfl) (fun _ _ _ h => h) (Or.inl ⟨by kernel_rfl, ?b188h⟩) hHeld ?b188n
          case b188h => (intro w hSw; (try dsimp only at hSw); go_split_ands; go_simp; (try exact rfl))
          try simp only [Act.put, List.setIfInBounds_toArray, List.set_cons_zero, List.set_cons_succ]
          refine take_d (i := 3) (d := 189) (v := ?b189) rfl rfl (by kernel_rfl) (by kernel_rfl) (by kernel_rfl) (fun _ _ _ h => h) (Or.inl ⟨by kernel_rfl, ?b189h⟩) hHeld ?b189n
          case b189h => (intro w hSw; (try dsimp only at hSw); go_split_ands; go_simp; (try exact rfl))
          try simp only [Act.put, List.setIfInBounds_toArray, List.set_cons_zero, List.set_cons_succ]
          refine take_d (i := 4) (d := 190) (v := ?b190) rfl rfl (by kernel_rfl) (by kernel_rfl) (by kernel_rfl) (fun _ _ _ h => h) (Or.inl ⟨by kernel_rfl, ?b190h⟩) hHeld ?b190n
          case b190h => (intro w hSw; (try dsimp only at hSw); go_split_ands; go_simp; (try exact rfl))
          try simp only [Act.put, List.setIfInBounds_toArray, List.set_cons_zero, List.set_cons_succ]
          refine take_d (i := 5) (d := 191) (v := ?b191) rfl rfl (by kernel_rfl) (by kernel_rfl) (by kernel_rfl) (fun _ _ _ h => h) (Or.inl ⟨by kernel_rfl, ?b191h⟩) hHeld ?b191n
          case b191h => (intro w hSw; (try dsimp only at hSw); go_split_ands; go_simp; (try exact rfl))
          try simp only [Act.put, List.setIfInBounds_toArray, List.set_cons_zero, List.set_cons_succ]
          refine take_d (i := 6) (d := 192) (v := ?b192) rfl rfl (by kernel_rfl) (by kernel_rfl) (by kernel_rfl) (fun _ _ _ h => h) (Or.inl ⟨by kernel_rfl, ?b192h⟩) hHeld ?b192n
          case b192h => (intro w hSw; (try dsimp only at hSw); go_split_ands; go_simp; (try exact rfl))
          try simp only [Act.put, List.setIfInBounds_toArray, List.set_cons_zero, List.set_cons_succ]
          refine take_d (i := 7) (d := 193) (v := ?b193) rfl rfl (by kernel_rfl) (by kernel_rfl) (by kernel_rfl) (fun _ _ _ h => h) (Or.inl ⟨by kernel_rfl, ?b193h⟩) hHeld ?b193n
          case b193h => (intro w hSw; (try dsimp only at hSw); go_split_ands; go_simp; (try exact rfl))
          try simp only [Act.put, List.setIfInBounds_toArray, List.set_cons_zero, List.set_cons_succ]
          refine take_d (i := 8) (d := 194) (v := ?b194) rfl rfl (by kernel_rfl) (by kernel_rfl) (by kernel_rfl) (fun _ _ _ h => h) (Or.inl ⟨by kernel_rfl, ?b194h⟩) hHeld ?b194n
          case b194h => (intro w hSw; (try dsimp only at hSw); go_split_ands; go_simp; (try exact rfl))
          try simp only [Act.put, List.setIfInBounds_toArray, List.set_cons_zero, List.set_cons_succ]
          refine take_d (i := 9) (d := 195) (v := ?b195) rfl rfl (by kernel_rfl) (by kernel_rfl) (by kernel_rfl) (fun _ _ _ h => h) (Or.inl ⟨by kernel_rfl, ?b195h⟩) hHeld ?b195n
          case b195h => (intro w hSw; (try dsimp only at hSw); go_split_ands; go_simp; (try exact rfl))
          try simp only [Act.put, List.setIfInBounds_toArray, List.set_cons_zero, List.set_cons_succ]
          refine take_d (i := 10) (d := 196) (v := ?b196) rfl rfl (by kernel_rfl) (by kernel_rfl) (by kernel_rfl) (fun _ _ _ h => h) (Or.inl ⟨by kernel_rfl, ?b196h⟩) hHeld ?b196n
          case b196h => (intro w hSw; (try dsimp only at hSw); go_split_ands; go_simp; (try exact rfl))
          try simp only [Act.put, List.setIfInBounds_toArray, List.set_cons_zero, List.set_cons_succ]
          refine take_d (i := 11) (d := 197) (v := ?b197) rfl rfl (by kernel_rfl) (by kernel_rfl) (by kernel_rfl) (fun _ _ _ h => h) (Or.inl ⟨by kernel_rfl, ?b197h⟩) hHeld ?b197n
          case b197h => (intro w hSw; (try dsimp only at hSw); go_split_ands; go_simp; (try exact rfl))
          try simp only [Act.put, List.setIfInBounds_toArray, List.set_cons_zero, List.set_cons_succ]
          refine take_d (i := 12) (d := 198) (v := ?b198) rfl rfl (by kernel_rfl) (by kernel_rfl) (by kernel_rfl) (fun _ _ _ h => h) (Or.inl ⟨by kernel_rfl, ?b198h⟩) hHeld ?b198n
          case b198h => (intro w hSw; (try dsimp only at hSw); go_split_ands; go_simp; (try exact rfl))
          try simp only [Act.put, List.setIfInBounds_toArray, List.set_cons_zero, List.set_cons_succ]
          refine take_d (i := 13) (d := 199) (v := ?b199) rfl rfl (by kernel_rfl) (by kernel_rfl) (by kernel_rfl) (fun _ _ _ h => h) (Or.inl ⟨by kernel_rfl, ?b199h⟩) hHeld ?b199n
          case b199h => (intro w hSw; (try dsimp only at hSw); go_split_ands; go_simp; (try exact rfl))
          try simp only [Act.put, List.setIfInBounds_toArray, List.set_cons_zero, List.set_cons_succ]
          refine wpAnyH_ready (rs := [14]) (by kernel_rfl) (by simp) ?_
          refine AllReadyH.cons rfl (fun K hK => ?_) AllReadyH.nil
          go_simp
          refine (HX.out j hkj hlt w2 Hx2.out).mono ?_
          rintro e w3 ⟨rfl, hb⟩
          have B83 := Lib.hid (B82.out.below hb B82.out.lt)
          have B33 := Lib.hid (B32.out.below hb B32.out.lt)
          have Hx3 := Lib.hid (Eo.below Hx2.out hb)
          have HM3 := Lib.hid (Eo.below HM2.out hb)
          have HB3 := Lib.hid (HB2.out.trans (hb.mono HB2.out.size))
          clear hb
          refine hK.out _ _ (And.intro B83.out.three (And.intro B33.out.three (RG.out _ HM3.out))) (fun hHeld => ?_)
          clear hK K
          try simp only [Act.put, List.setIfInBounds_toArray, List.set_cons_zero, List.set_cons_succ]
          refine take_d (i := 15) (d := 201) (v := ?b201) rfl rfl (by kernel_rfl) (by kernel_rfl) (by kernel_rfl) (fun _ _ _ h => h) (Or.inl ⟨by kernel_rfl, ?b201h⟩) hHeld ?b201n
          case b201h => (intro w hSw; (try dsimp only at hSw); go_split_ands; go_simp; (try exact rfl))
          try simp only [Act.put, List.setIfInBounds_toArray, List.set_cons_zero, List.set_cons_succ]
          refine wpAnyH_done (by kernel_rfl) ?_ _
          refine NoPanic.normal ?_
          have j64 : wrap64 ((j : Int) + 1) = (j : Int) + 1 := by rw [wrap64_eq]; have := HM32.out; omega
          go_wp2
          go_roundw
          case rel => exact ⟨j + 1, (by clear j64; omega), (by clear j64; omega), (by first | (rw [j64]; rfl) | go_num), B83.out, B33.out, Hx3.out, HM3.out, HB3.out⟩
          case measure => (try rw [j64]); clear j64; simp [intOf]; omega
        · obtain rfl : j = nM := by omega
          have l0 : ¬ ((j : Int) < (j : Int)) := by omega
          by_cases hk : k = j
          · subst hk
            go_wp2
            go_ret
            exact ⟨rfl, HB1.out⟩
          · have hkI : ((k : Int) == (j : Int)) = false := by simp; omega
            obtain ⟨x0, x1, x2⟩ := B81.out.three
            have hkl : k < j := by omega
            go_wp2_with fail
            clear x0 x1 x2
            refine (LX.out hkl wr Hx1.out).mono ?_
            rintro e w3 ⟨rfl, hb⟩
            have HB3 := Lib.hid (HB1.out.trans (hb.mono HB1.out.size))
            clear hb
            go_wp2
            go_ret
            exact ⟨rfl, HB3.out⟩

end Go.Proofs.Ytmgaihdepglahaa
