/-
  The document's Take.
-/
import Derived.Test.YtmgaihdepglahaaM9
import Derived.Test.YtmgaihdepglahaaM8
import Derived.Test.YtmgaihdepglahaaN10
import Derived.Deep.CutBlock
namespace Go.Proofs.Ytmgaihdepglahaa
open Go.RowKit
attribute [local go_sem ↓] eqA neA eqGA

set_option linter.unusedSimpArgs false in
set_option maxRecDepth 100000 in
set_option maxHeartbeats 8000000 in
theorem reftake_any (l o : Lg) (A A' : Option Addr) (n c m c' B : Nat) (w : World) (h : Lr w B A n c l) (h' : Lr w B A' m c' o) (hB : B ≤ w.heap.size) (hm9 : m ≤ 900) :
    Calls Try.prog 17 #[.agg #[.int .u64 l.bi, .int .u64 l.bt, .slice A n c], .agg #[.int .u64 o.bi, .int .u64 o.bt], .slice A' m c'] w (Ltk w (rTakeL l o.bi o.bt o.es) (rTakeI l o.bi o.bt o.es) (rTakeE l o.bi o.bt o.es)) := by
  obtain ⟨pi, pt, es⟩ := o
  have hp0 : 0 ≤ pi := h'.bi0
  have hp1 : pi < 18446744073709551616 := h'.bi1
  have hlen : es.length = m := h'.len
  have hnc' := h'.nc
  simp only
  have ME := Lib.hid (fun W (hW : Below w.heap.size w W) => refmeet_any l ⟨pi, pt, es⟩ A A' n c m c' B W (h.below (hW.mono hB)) (h'.below (hW.mono hB)) (Nat.le_trans hB hW.size))
  have SP := Lib.hid (fun W (hW : Below w.heap.size w W) => refspots_any pi pt A' m c' B es W (h'.es.below (hW.mono hB)) (by omega) (Nat.le_trans hB hW.size) hp0 hp1)
  have CP := Lib.hid (fun W (hW : Below w.heap.size w W) => refcopy_any l A n c B W (h.below (hW.mono hB)) (Nat.le_trans hB hW.size))
  have CU := Lib.hid (fun W (hW : Below w.heap.size w W) i h0 h1 => refcut_any l A n c B W (h.below (hW.mono hB)) (Nat.le_trans hB hW.size) i h0 h1)
  have hO := Lib.hid (fun W (hW : Below w.heap.size w W) => h'.below (hW.mono hB))
  simp only at ME
  have hNle : rMeetN l pi pt es ≤ m := by
    rw [← hlen]
    unfold rMeetN
    split
    · exact metN_le _ _ _
    · exact Nat.zero_le _
  have hTE : rTakeE l pi pt es = if rMeetE l pi pt es ≠ 0 then rMeetE l pi pt es else if rMeetN l pi pt es = m then 0 else if rCutE l (spI pi (rMeetN l pi pt es + 1)) ≠ 0 then rCutE l (spI pi (rMeetN l pi pt es + 1)) else rExtE (rCutL l (spI pi (rMeetN l pi pt es + 1))) (es.drop (rMeetN l pi pt es)) := by unfold rTakeE takeC; rw [hlen]
  have hTL : rTakeL l pi pt es = if rTakeE l pi pt es ≠ 0 then lg0 else if rMeetN l pi pt es = m then l else rExtL (rCutL l (spI pi (rMeetN l pi pt es + 1))) (es.drop (rMeetN l pi pt es)) := by unfold rTakeL takeC; rw [hlen]
  have hTI : rTakeI l pi pt es = if rTakeE l pi pt es ≠ 0 then 0 else spI pi m := by unfold rTakeI; rw [hlen]
  have hcb : ∀ i, 0 ≤ (rCutL l i).bi ∧ (rCutL l i).bi < 18446744073709551616 ∧ 0 ≤ (rCutL l i).bt ∧ (rCutL l i).bt < 18446744073709551616 ∧ (rCutL l i).es.length ≤ 1000 := fun i => by
    unfold rCutL
    split
    · exact ⟨h.bi0, h.bi1, h.bt0, h.bt1, by show (l.es.take _).length ≤ 1000; rw [List.length_take]; have := h.len; have := h.n; omega⟩
    · exact ⟨by decide, by decide, by decide, by decide, by decide⟩
  generalize rTakeE l pi pt es = TE at *
  generalize rTakeL l pi pt es = TL at *
  generalize rTakeI l pi pt es = TI at *
  generalize rMeetE l pi pt es = ME0 at *
  generalize rMeetN l pi pt es = N at *
  have B31 : Hid (Blk (((w.alloc (.cells #[.int .u64 l.bi, .int .u64 l.bt, .slice A n c] 27)).alloc (.cells #[.int .u64 pi, .int .u64 pt] 24)).alloc (.cells #[.int .u64 0, .int .u64 0, .slice none 0 0] 27)) w.heap.size 27 #[.int .u64 l.bi, .int .u64 l.bt, .slice A n c]) := Lib.hid (((Blk.new w 27 _).alloc _).alloc _)
  have B41 : Hid (Blk (((w.alloc (.cells #[.int .u64 l.bi, .int .u64 l.bt, .slice A n c] 27)).alloc (.cells #[.int .u64 pi, .int .u64 pt] 24)).alloc (.cells #[.int .u64 0, .int .u64 0, .slice none 0 0] 27)) (w.heap.size + 1) 24 #[.int .u64 pi, .int .u64 pt]) := Lib.hid ((Blk.fresh (by simp)).alloc _)
  have B61 : Hid (Blk (((w.alloc (.cells #[.int .u64 l.bi, .int .u64 l.bt, .slice A n c] 27)).alloc (.cells #[.int .u64 pi, .int .u64 pt] 24)).alloc (.cells #[.int .u64 0, .int .u64 0, .slice none 0 0] 27)) (w.heap.size + 2) 27 #[.int .u64 0, .int .u64 0, .slice none 0 0]) := Lib.hid (Blk.fresh (by simp))
  have HB1 : Hid (Below w.heap.size w (((w.alloc (.cells #[.int .u64 l.bi, .int .u64 l.bt, .slice A n c] 27)).alloc (.cells #[.int .u64 pi, .int .u64 pt] 24)).alloc (.cells #[.int .u64 0, .int .u64 0, .slice none 0 0] 27))) := Lib.hid ((((Below.refl _ _).alloc (Nat.le_refl _) _).alloc (by simp) _).alloc (by simp; omega) _)
  have HM := Lib.hid hm9
  have HNC := Lib.hid hnc'
  have HNL := Lib.hid hNle
  have HBB := Lib.hid hB
  clear h h' hlen hm9 hB hnc' hNle
  by_cases hE : ME0 = 0
  rotate_left
  · rw [if_pos hE] at hTE
    subst hTE
    rw [if_pos hE] at hTL hTI
    subst hTL hTI
    have hE2 : (TE != 0) = true := by simp [hE]
    clear hE hcb
    go_enter Try.func17, Try.ntmps17
    go_wp2_with fail
    refine (ME.out _ HB1.out).mono ?_
    rintro e w2 ⟨rfl, hb⟩
    have B32 := Lib.hid (B31.out.below hb B31.out.lt)
    have B42 := Lib.hid (B41.out.below hb B41.out.lt)
    have B62 := Lib.hid (B61.out.below hb B61.out.lt)
    have HB2 := Lib.hid (HB1.out.trans (hb.mono HB1.out.size))
    clear hb
    have z0 := B62.out.cell 0
    have z1 := B62.out.cell 1
    have z2 := B62.out.cell 2
    have f0 := B62.out.frozen 0
    have f1 := B62.out.frozen 1
    have f2 := B62.out.frozen 2
    go_wp2
    exact bodyPost_ret (ret27tt rfl _ _ (w.heap.size + 2) _ _ _ _ _ rfl rfl rfl (((B62.out.set_ 0 _).set_ 1 _).set_ 2 _)) rfl ⟨none, 0, 0, rfl, Eo.nothing _ _, HB2.out.trans ((set3_only w2 (w.heap.size + 2) _ _ _).below (by omega))⟩
  · subst hE
    rw [if_neg (by decide)] at hTE
    by_cases hNm : N = m
    · subst hNm
      rw [if_pos rfl] at hTE
      subst hTE
      rw [if_neg (by decide), if_pos rfl] at hTL
      rw [if_neg (by decide)] at hTI
      subst hTL hTI
      clear hcb
      go_enter Try.func17, Try.ntmps17
      go_wp2_with fail
      refine (ME.out _ HB1.out).mono ?_
      rintro e w2 ⟨rfl, hb⟩
      have B32 := Lib.hid (B31.out.below hb B31.out.lt)
      have B42 := Lib.hid (B41.out.below hb B41.out.lt)
      have B62 := Lib.hid (B61.out.below hb B61.out.lt)
      have HB2 := Lib.hid (HB1.out.trans (hb.mono HB1.out.size))
      clear hb
      have y0 := B42.out.cell 0
      have y1 := B42.out.cell 1
      go_wp2_with fail
      clear y0 y1
      refine (SP.out w2 HB2.out).mono ?_
      rintro e w3 ⟨A9, c9, rfl, ho, hb⟩
      have SO3 := Lib.hid (So.down ho HB2.out.size)
      have B33 := Lib.hid (B32.out.below hb B32.out.lt)
      have B43 := Lib.hid (B42.out.below hb B42.out.lt)
      have B63 := Lib.hid (B62.out.below hb B62.out.lt)
      have HB3 := Lib.hid (HB2.out.trans (hb.mono HB2.out.size))
      clear hb ho
      obtain ⟨g9, rfl, hg9, hgl, s0, s1⟩ := SO3.out.at_ (show N < N + 1 by omega)
      have k0 : (0 : Int) ≤ (N : Int) := by omega
      have k1 : ((N : Int) < (N : Int) + 1) := by omega
      have m64 : wrap64 (N : Int) = (N : Int) := by clear k0 k1; rw [wrap64_e]; have := HM.out; omega
      have x0 := B33.out.cell 0
      have x1 := B33.out.cell 1
      have x2 := B33.out.cell 2
      go_wp2_with fail
      clear x0 x1 x2 s0 s1 m64
      refine (CP.out w3 HB3.out).mono ?_
      rintro e w4 ⟨A5, n5, c5, rfl, ho5, hb⟩
      have B34 := Lib.hid (B33.out.below hb B33.out.lt)
      have B44 := Lib.hid (B43.out.below hb B43.out.lt)
      have B64 := Lib.hid (B63.out.below hb B63.out.lt)
      have HB4 := Lib.hid (HB3.out.trans (hb.mono HB3.out.size))
      have HO4 := Lib.hid (ho5.down HB3.out.size)
      clear hb ho5
      have z0 := B64.out.cell 0
      have z1 := B64.out.cell 1
      have z2 := B64.out.cell 2
      have f0 := B64.out.frozen 0
      have f1 := B64.out.frozen 1
      have f2 := B64.out.frozen 2
      have hon := set3_only w4 (w.heap.size + 2) (.int .u64 TL.bi) (.int .u64 TL.bt) (.slice A5 n5 c5)
      go_wp2
      exact bodyPost_ret (ret27tt rfl _ _ (w.heap.size + 2) _ _ _ _ _ rfl rfl rfl (((B64.out.set_ 0 _).set_ 1 _).set_ 2 _)) rfl ⟨A5, n5, c5, rfl, HO4.out.only27 B64.out hon, HB4.out.trans (hon.below (by omega))⟩
    · rw [if_neg hNm] at hTE hTL
      have hNlt : N < m := by have := HNL.out; omega
      have hNe : ((N : Int) == (m : Int)) = false := by simp; omega
      have hj := spI_lt pi (N + 1)
      have CU1 := Lib.hid (fun W hW => CU.out W hW (spI pi (N + 1)) hj.1 hj.2)
      have hcb1 := hcb (spI pi (N + 1))
      generalize hSJ : spI pi (N + 1) = J at *
      generalize rCutE l J = CE at *
      generalize rCutL l J = CL at *
      have HTE := Lib.hid hTE
      have HTL := Lib.hid hTL
      have HTI := Lib.hid hTI
      clear hTE hTL hTI hcb hj CP CU hNm
      go_enter Try.func17, Try.ntmps17
      go_wp2_with fail
      refine (ME.out _ HB1.out).mono ?_
      rintro e w2 ⟨rfl, hb⟩
      have B32 := Lib.hid (B31.out.below hb B31.out.lt)
      have B42 := Lib.hid (B41.out.below hb B41.out.lt)
      have B62 := Lib.hid (B61.out.below hb B61.out.lt)
      have HB2 := Lib.hid (HB1.out.trans (hb.mono HB1.out.size))
      clear hb
      have y0 := B42.out.cell 0
      have y1 := B42.out.cell 1
      go_wp2_with fail
      clear y0 y1
      refine (SP.out w2 HB2.out).mono ?_
      rintro e w3 ⟨A9, c9, rfl, ho, hb⟩
      have SO3 := Lib.hid (So.down ho HB2.out.size)
      have B33 := Lib.hid (B32.out.below hb B32.out.lt)
      have B43 := Lib.hid (B42.out.below hb B42.out.lt)
      have B63 := Lib.hid (B62.out.below hb B62.out.lt)
      have HB3 := Lib.hid (HB2.out.trans (hb.mono HB2.out.size))
      clear hb ho
      obtain ⟨g9, rfl, hg9, hgl, s0, s1⟩ := SO3.out.at_ (show m < m + 1 by omega)
      have k0 : (0 : Int) ≤ (m : Int) := by omega
      have k1 : ((m : Int) < (m : Int) + 1) := by omega
      obtain ⟨g9', he9, _, hgl', t0, t1⟩ := SO3.out.at_ (show N + 1 < m + 1 by omega)
      injection he9 with he9
      injection he9 with he9 _ _
      subst he9
      rw [hSJ] at t0
      have m64 : wrap64 (m : Int) = (m : Int) := by clear k0 k1; rw [wrap64_e]; have := HM.out; omega
      have M64 := Lib.hid m64
      clear m64
      have n64 : wrap64 ((N : Int) + 1) = (N : Int) + 1 := by clear k0 k1 hNe; rw [wrap64_e]; have := HM.out; omega
      have N64 := Lib.hid n64
      clear n64
      have n0 : (0 : Int) ≤ (N : Int) + 1 := by omega
      have n1 : ((N : Int) + 1 < (m : Int) + 1) := by omega
      have n2 : ((N : Int) + 1).toNat = N + 1 := by omega
      have hNm9 : N ≤ m ∧ m ≤ 900 := ⟨by omega, HM.out⟩
      have HN9 := Lib.hid hNm9
      clear hNm9
      have m64 := M64.out
      have x0 := B33.out.cell 0
      have x1 := B33.out.cell 1
      have x2 := B33.out.cell 2
      go_upto_region 8 with fail
      clear x0 x1 x2 s0 s1 m64
      have HD : Hid (∀ W, Below w3.heap.size w3 W → (W.cell? ⟨w.heap.size, 0, none⟩ = some (.int .u64 l.bi) ∧ W.cell? ⟨w.heap.size, 1, none⟩ = some (.int .u64 l.bt) ∧ W.cell? ⟨w.heap.size, 2, none⟩ = some (.slice A n c)) ∧ W.cell? ⟨g9, (N + 1) * 2, none⟩ = some (.int .u64 J)) := Lib.hid (fun W hW => ⟨⟨(B33.out.below hW B33.out.lt).cell 0, (B33.out.below hW B33.out.lt).cell 1, (B33.out.below hW B33.out.lt).cell 2⟩, (hW.cell (p := ⟨g9, (N + 1) * 2, none⟩) hgl).trans t0⟩)
      have HG : Hid (w.heap.size + 3 ≤ w3.heap.size) := Lib.hid (by have := B63.out.lt; omega)
      clear t0 t1 hgl hgl' hg9
      have n64 := N64.out
      have n65 : IntKind.i64.wrap ((N : Int) + 1) = (N : Int) + 1 := (IntKind.wrap_i64 _).trans ((wrap64_e _).symm.trans n64)
      go_cut [10, 13] from 42 (fun v10 v13 wx => ∃ pC Ac nc cc, v13 = .pointer (some ⟨pC, 0, none⟩) ∧ v10 = .int .i64 CE ∧ Blk wx pC 27 #[.int .u64 CL.bi, .int .u64 CL.bt, .slice Ac nc cc] ∧ Eo wx w.heap.size Ac nc cc CL.es ∧ Below w3.heap.size w3 wx ∧ w.heap.size + 3 ≤ pC)
      case first =>
        have HC0 := Lib.hid (show Below w3.heap.size w3 w3.drew from (Below.refl _ _).drew)
        have hS0 := HD.out _ HC0.out
        refine wp_region_noPanic ?_
        refine wp_region_held_drew (S := fun w' => (w'.cell? ⟨w.heap.size, 0, none⟩ = some (.int .u64 l.bi) ∧ w'.cell? ⟨w.heap.size, 1, none⟩ = some (.int .u64 l.bt) ∧ w'.cell? ⟨w.heap.size, 2, none⟩ = some (.slice A n c)) ∧ w'.cell? ⟨g9, (N + 1) * 2, none⟩ = some (.int .u64 J)) (by kernel_rfl) hS0 (fun hHeld => ?_)
        generalize w3.drew = v0 at *
        refine take_d (i := 0) (d := 43) (v := ?t1) rfl rfl (by kernel_rfl) (by kernel_rfl) (by kernel_rfl) (fun _ _ _ h => h) (Or.inl ⟨by kernel_rfl, ?t1h⟩) hHeld ?t1n
        case t1h => (intro w hSw; (try dsimp only at hSw); go_split_ands; go_simp; (try exact rfl))
        try simp only [Act.put, List.setIfInBounds_toArray, List.set_cons_zero, List.set_cons_succ]
        refine take_d (i := 1) (d := 44) (v := ?t2) rfl rfl (by kernel_rfl) (by kernel_rfl) (by kernel_rfl) (fun _ _ _ h => h) (Or.inl ⟨by kernel_rfl, ?t2h⟩) hHeld ?t2n
        case t2h => (intro w hSw; (try dsimp only at hSw); go_split_ands; go_simp; (try exact rfl))
        try simp only [Act.put, List.setIfInBounds_toArray, List.set_cons_zero, List.set_cons_succ]
        refine take_d (i := 2) (d := 45) (v := ?t3) rfl rfl (by kernel_rfl) (by kernel_rfl) (by kernel_rfl) (fun _ _ _ h => h) (Or.inl ⟨by kernel_rfl, ?t3h⟩) hHeld ?t3n
        case t3h => (intro w hSw; (try dsimp only at hSw); go_split_ands; go_simp; (try exact rfl))
        try simp only [Act.put, List.setIfInBounds_toArray, List.set_cons_zero, List.set_cons_succ]
        refine take_d (i := 3) (d := 46) (v := ?t4) rfl rfl (by kernel_rfl) (by kernel_rfl) (by kernel_rfl) (fun _ _ _ h => h) (Or.inl ⟨by kernel_rfl, ?t4h⟩) hHeld ?t4n
        case t4h => (intro w hSw; (try dsimp only at hSw); go_split_ands; go_simp; (try exact rfl))
        try simp only [Act.put, List.setIfInBounds_toArray, List.set_cons_zero, List.set_cons_succ]
        refine take_d (i := 4) (d := 47) (v := ?t5) rfl rfl (by kernel_rfl) (by kernel_rfl) (by kernel_rfl) (fun _ _ _ h => h) (Or.inl ⟨by kernel_rfl, ?t5h⟩) hHeld ?t5n
        case t5h => (intro w hSw; (try dsimp only at hSw); go_split_ands; go_simp; (try exact rfl))
        try simp only [Act.put, List.setIfInBounds_toArray, List.set_cons_zero, List.set_cons_succ]
        refine take_d (i := 5) (d := 48) (v := ?t6) rfl rfl (by kernel_rfl) (by kernel_rfl) (by kernel_rfl) (fun _ _ _ h => h) (Or.inl ⟨by kernel_rfl, ?t6h⟩) hHeld ?t6n
        case t6h => (intro w hSw; (try dsimp only at hSw); go_split_ands; go_simp; (try exact rfl))
        try simp only [Act.put, List.setIfInBounds_toArray, List.set_cons_zero, List.set_cons_succ]
        refine take_d (i := 6) (d := 49) (v := ?t7) rfl rfl (by kernel_rfl) (by kernel_rfl) (by kernel_rfl) (fun _ _ _ h => h) (Or.inl ⟨by kernel_rfl, ?t7h⟩) hHeld ?t7n
        case t7h => (intro w hSw; (try dsimp only at hSw); go_split_ands; go_simp; (try exact rfl))
        try simp only [Act.put, List.setIfInBounds_toArray, List.set_cons_zero, List.set_cons_succ]
        refine wpAnyH_ready (rs := [7, 11]) (by kernel_rfl) (by simp) ?_
        refine AllReadyH.cons rfl (fun K hK => ?_) (AllReadyH.cons rfl (fun K hK => ?_) AllReadyH.nil)
        · skip
          go_simp
          refine (CU1.out v0 (HB3.out.trans (HC0.out.mono HB3.out.size))).mono ?_
          rintro e v1 ⟨Ae, ne, ce, rfl, ho, hb⟩
          have HC1 := Lib.hid (HC0.out.trans (hb.mono HC0.out.size))
          have He1 := Lib.hid (ho.down (show w.heap.size ≤ v0.heap.size from Nat.le_trans HB3.out.size HC0.out.size))
          clear ho hb
          refine hK.out _ _ (HD.out _ HC1.out) (fun hHeld => ?_)
          clear hK K
          try simp only [Act.put, List.setIfInBounds_toArray, List.set_cons_zero, List.set_cons_succ]
          refine take_d (i := 8) (d := 42) (v := ?t8) rfl rfl (by kernel_rfl) (by kernel_rfl) (by kernel_rfl) (fun _ _ _ h => h) (Or.inl ⟨by kernel_rfl, ?t8h⟩) hHeld ?t8n
          case t8h => (intro w hSw; (try dsimp only at hSw); go_split_ands; go_simp; (try exact rfl))
          try simp only [Act.put, List.setIfInBounds_toArray, List.set_cons_zero, List.set_cons_succ]
          refine take_d (i := 9) (d := 51) (v := ?t9) rfl rfl (by kernel_rfl) (by kernel_rfl) (by kernel_rfl) (fun _ _ _ h => h) (Or.inl ⟨by kernel_rfl, ?t9h⟩) hHeld ?t9n
          case t9h => (intro w hSw; (try dsimp only at hSw); go_split_ands; go_simp; (try exact rfl))
          try simp only [Act.put, List.setIfInBounds_toArray, List.set_cons_zero, List.set_cons_succ]
          refine take_d (i := 10) (d := 52) (v := ?t10) rfl rfl (by kernel_rfl) (by kernel_rfl) (by kernel_rfl) (fun _ _ _ h => h) (Or.inl ⟨by kernel_rfl, ?t10h⟩) hHeld ?t10n
          case t10h => (intro w hSw; (try dsimp only at hSw); go_split_ands; go_simp; (try exact rfl))
          try simp only [Act.put, List.setIfInBounds_toArray, List.set_cons_zero, List.set_cons_succ]
          refine wpAnyH_ready (rs := [11]) (by kernel_rfl) (by simp) ?_
          refine AllReadyH.cons rfl (fun K hK => ?_) AllReadyH.nil
          go_simp
          have hb : Below v1.heap.size v1 (v1.alloc (.cells #[.int .u64 0, .int .u64 0, .slice none 0 0] 27)) := (Below.refl _ _).alloc (Nat.le_refl _) _
          refine hK.out _ _ (HD.out _ (HC1.out.trans (hb.mono HC1.out.size))) (fun hHeld => ?_)
          clear hK K
          have HC2 := Lib.hid (HC1.out.trans (hb.mono HC1.out.size))
          have He2 := Lib.hid (Eo.below He1.out hb)
          have BA2 : Hid (Blk (v1.alloc (.cells #[.int .u64 0, .int .u64 0, .slice none 0 0] 27)) v1.heap.size 27 #[.int .u64 0, .int .u64 0, .slice none 0 0]) := Lib.hid (Blk.new _ _ _)
          have LA := Lib.hid HC1.out.size
          clear hb
          generalize (v1.alloc (.cells #[.int .u64 0, .int .u64 0, .slice none 0 0] 27)) = v2 at *
          generalize v1.heap.size = pA at *
          try simp only [Act.put, List.setIfInBounds_toArray, List.set_cons_zero, List.set_cons_succ]
          refine wpAnyH_ready (rs := [12]) (by kernel_rfl) (by simp) ?_
          refine AllReadyH.cons rfl (fun K hK => ?_) AllReadyH.nil
          refine wp_store_blk 27 _ _ rfl pA #[.int .u64 0, .int .u64 0, .slice none 0 0] 27 [.int .u64 CL.bi, .int .u64 CL.bt, .slice Ae ne ce] rfl rfl BA2.out rfl Try.i27 (by simp [Value.oneCell']) ?_
          intro v3 hb ho
          have BA3 := Lib.hid hb
          have He3 := Lib.hid (He2.out.only27 BA2.out ho)
          have HC3 := Lib.hid (HC2.out.trans (ho.below LA.out))
          clear hb ho
          refine hK.out _ _ (HD.out _ HC3.out) (fun hHeld => ?_)
          clear hK K
          try simp only [Act.put, List.setIfInBounds_toArray, List.set_cons_zero, List.set_cons_succ]
          refine take_d (i := 13) (d := 10) (v := ?t11) rfl rfl (by kernel_rfl) (by kernel_rfl) (by kernel_rfl) (fun _ _ _ h => h) (Or.inl ⟨by kernel_rfl, ?t11h⟩) hHeld ?t11n
          case t11h => (intro w hSw; (try dsimp only at hSw); go_split_ands; go_simp; (try exact rfl))
          try simp only [Act.put, List.setIfInBounds_toArray, List.set_cons_zero, List.set_cons_succ]
          refine wpAnyH_done (by kernel_rfl) ?_ _
          refine NoPanic.normal ?_
          go_wp2_with fail
          go_meet
          case rel => exact ⟨pA, Ae, ne, ce, rfl, rfl, BA3.out, He3.out, HC3.out, by have := HG.out; have := LA.out; omega⟩
        · skip
          go_simp
          have hb : Below v0.heap.size v0 (v0.alloc (.cells #[.int .u64 0, .int .u64 0, .slice none 0 0] 27)) := (Below.refl _ _).alloc (Nat.le_refl _) _
          refine hK.out _ _ (HD.out _ (HC0.out.trans (hb.mono HC0.out.size))) (fun hHeld => ?_)
          clear hK K
          have HC1 := Lib.hid (HC0.out.trans (hb.mono HC0.out.size))
          have BA1 : Hid (Blk (v0.alloc (.cells #[.int .u64 0, .int .u64 0, .slice none 0 0] 27)) v0.heap.size 27 #[.int .u64 0, .int .u64 0, .slice none 0 0]) := Lib.hid (Blk.new _ _ _)
          have LA := Lib.hid HC0.out.size
          clear hb
          generalize (v0.alloc (.cells #[.int .u64 0, .int .u64 0, .slice none 0 0] 27)) = v1 at *
          generalize v0.heap.size = pA at *
          try simp only [Act.put, List.setIfInBounds_toArray, List.set_cons_zero, List.set_cons_succ]
          refine wpAnyH_ready (rs := [7]) (by kernel_rfl) (by simp) ?_
          refine AllReadyH.cons rfl (fun K hK => ?_) AllReadyH.nil
          go_simp
          refine (CU1.out v1 (HB3.out.trans (HC1.out.mono HB3.out.size))).mono ?_
          rintro e v2 ⟨Ae, ne, ce, rfl, ho, hb⟩
          have HC2 := Lib.hid (HC1.out.trans (hb.mono HC1.out.size))
          have BA2 := Lib.hid (BA1.out.below hb BA1.out.lt)
          have He2 := Lib.hid (ho.down (show w.heap.size ≤ v1.heap.size from Nat.le_trans HB3.out.size HC1.out.size))
          clear ho hb
          refine hK.out _ _ (HD.out _ HC2.out) (fun hHeld => ?_)
          clear hK K
          try simp only [Act.put, List.setIfInBounds_toArray, List.set_cons_zero, List.set_cons_succ]
          refine take_d (i := 8) (d := 42) (v := ?t12) rfl rfl (by kernel_rfl) (by kernel_rfl) (by kernel_rfl) (fun _ _ _ h => h) (Or.inl ⟨by kernel_rfl, ?t12h⟩) hHeld ?t12n
          case t12h => (intro w hSw; (try dsimp only at hSw); go_split_ands; go_simp; (try exact rfl))
          try simp only [Act.put, List.setIfInBounds_toArray, List.set_cons_zero, List.set_cons_succ]
          refine take_d (i := 9) (d := 51) (v := ?t13) rfl rfl (by kernel_rfl) (by kernel_rfl) (by kernel_rfl) (fun _ _ _ h => h) (Or.inl ⟨by kernel_rfl, ?t13h⟩) hHeld ?t13n
          case t13h => (intro w hSw; (try dsimp only at hSw); go_split_ands; go_simp; (try exact rfl))
          try simp only [Act.put, List.setIfInBounds_toArray, List.set_cons_zero, List.set_cons_succ]
          refine take_d (i := 10) (d := 52) (v := ?t14) rfl rfl (by kernel_rfl) (by kernel_rfl) (by kernel_rfl) (fun _ _ _ h => h) (Or.inl ⟨by kernel_rfl, ?t14h⟩) hHeld ?t14n
          case t14h => (intro w hSw; (try dsimp only at hSw); go_split_ands; go_simp; (try exact rfl))
          try simp only [Act.put, List.setIfInBounds_toArray, List.set_cons_zero, List.set_cons_succ]
          refine wpAnyH_ready (rs := [12]) (by kernel_rfl) (by simp) ?_
          refine AllReadyH.cons rfl (fun K hK => ?_) AllReadyH.nil
          refine wp_store_blk 27 _ _ rfl pA #[.int .u64 0, .int .u64 0, .slice none 0 0] 27 [.int .u64 CL.bi, .int .u64 CL.bt, .slice Ae ne ce] rfl rfl BA2.out rfl Try.i27 (by simp [Value.oneCell']) ?_
          intro v3 hb ho
          have BA3 := Lib.hid hb
          have He3 := Lib.hid (He2.out.only27 BA2.out ho)
          have HC3 := Lib.hid (HC2.out.trans (ho.below LA.out))
          clear hb ho
          refine hK.out _ _ (HD.out _ HC3.out) (fun hHeld => ?_)
          clear hK K
          try simp only [Act.put, List.setIfInBounds_toArray, List.set_cons_zero, List.set_cons_succ]
          refine take_d (i := 13) (d := 10) (v := ?t15) rfl rfl (by kernel_rfl) (by kernel_rfl) (by kernel_rfl) (fun _ _ _ h => h) (Or.inl ⟨by kernel_rfl, ?t15h⟩) hHeld ?t15n
          case t15h => (intro w hSw; (try dsimp only at hSw); go_split_ands; go_simp; (try exact rfl))
          try simp only [Act.put, List.setIfInBounds_toArray, List.set_cons_zero, List.set_cons_succ]
          refine wpAnyH_done (by kernel_rfl) ?_ _
          refine NoPanic.normal ?_
          go_wp2_with fail
          go_meet
          case rel => exact ⟨pA, Ae, ne, ce, rfl, rfl, BA3.out, He3.out, HC3.out, by have := HG.out; have := LA.out; omega⟩
      case rest =>
        obtain ⟨pC, Ac, nc, cc, rfl, rfl, bc', ec', hb, hpC⟩ := hcut
        have BC4 := Lib.hid bc'
        have HE4 := Lib.hid ec'
        generalize wc = w4 at *
        have B34 := Lib.hid (B33.out.below hb B33.out.lt)
        have B44 := Lib.hid (B43.out.below hb B43.out.lt)
        have B64 := Lib.hid (B63.out.below hb B63.out.lt)
        have HB4 := Lib.hid (HB3.out.trans (hb.mono HB3.out.size))
        clear bc' ec' hb HD n64 n65 n0 n1 n2 k0 k1
        by_cases hCE : CE = 0
        rotate_left
        · have hTE := HTE.out
          rw [if_pos hCE] at hTE
          clear HTE
          subst hTE
          have hTL := HTL.out
          have hTI := HTI.out
          clear HTL HTI
          rw [if_pos hCE] at hTL hTI
          subst hTL hTI
          have hE2 : (TE != 0) = true := by simp [hCE]
          clear hCE
          have z0 := B64.out.cell 0
          have z1 := B64.out.cell 1
          have z2 := B64.out.cell 2
          have f0 := B64.out.frozen 0
          have f1 := B64.out.frozen 1
          have f2 := B64.out.frozen 2
          go_wp2
          exact bodyPost_ret (ret27tt rfl _ _ (w.heap.size + 2) _ _ _ _ _ rfl rfl rfl (((B64.out.set_ 0 _).set_ 1 _).set_ 2 _)) rfl ⟨none, 0, 0, rfl, Eo.nothing _ _, HB4.out.trans ((set3_only w4 (w.heap.size + 2) _ _ _).below (by omega))⟩
        · subst hCE
          have hk0 : (0 : Int) ≤ (N : Int) := by omega
          have hkc : (N : Int) ≤ (c' : Int) := by have := HNC.out; omega
          have hkm : (N : Int) ≤ (m : Int) := by omega
          have hkm' : N ≤ m := by omega
          have hlc := HE4.out.len
          have EX : Hid (∀ W b, Below w.heap.size w W → Eo W b Ac nc cc CL.es → Calls Try.prog 24 #[.agg #[.int .u64 CL.bi, .int .u64 CL.bt, .slice Ac nc cc], .slice (if c' = N then A' else A'.map (·.add (N * 3))) (m - N) (c' - N)] W (Lgx W (rExtL CL (es.drop N)) (rExtI CL (es.drop N)) (rExtT CL (es.drop N)) (rExtE CL (es.drop N)))) := Lib.hid (fun W b hW ho => refextend_any CL Ac nc cc W.heap.size W ⟨ho.read, ho.cap, ho.nil, by have := hcb1.2.2.2.2; omega, hcb1.1, hcb1.2.1, hcb1.2.2.1, hcb1.2.2.2.1⟩ (Nat.le_refl _) (if c' = N then A' else A'.map (·.add (N * 3))) (m - N) (c' - N) (es.drop N) ((((hO.out W hW).drop hkm' 0 0 (by decide) (by decide) (by decide) (by decide)).es).more (Nat.le_trans HBB.out hW.size)) (by have := HM.out; omega) (by have := HNC.out; omega))
          generalize rExtE CL (es.drop N) = XE at *
          generalize rExtL CL (es.drop N) = XL at *
          generalize rExtI CL (es.drop N) = XI at *
          generalize rExtT CL (es.drop N) = XT at *
          clear hlc hcb1 hO
          go_wp2_with fail
          have hb : Below w4.heap.size w4 w4.drew := (Below.refl _ _).drew
          have B35 := Lib.hid (B34.out.below hb B34.out.lt)
          have B45 := Lib.hid (B44.out.below hb B44.out.lt)
          have B65 := Lib.hid (B64.out.below hb B64.out.lt)
          have BC5 := Lib.hid (BC4.out.below hb BC4.out.lt)
          have HB5 := Lib.hid (HB4.out.trans (hb.mono HB4.out.size))
          have HE5 := Lib.hid (Eo.below HE4.out hb)
          clear hb
          have hS1 := B35.out.cell 0
          refine wp_region_noPanic ?_
          refine wp_region_held_drew (S := fun w' => w'.cell? ⟨w.heap.size, 0, none⟩ = some (.int .u64 l.bi)) (by kernel_rfl) hS1 (fun hHeld => ?_)
          generalize w4.drew = w5 at *
          refine take_d (i := 1) (d := 59) (v := ?e59) rfl rfl (by kernel_rfl) (by kernel_rfl) (by kernel_rfl) (fun _ _ _ h => h) (Or.inl ⟨by kernel_rfl, ?e59h⟩) hHeld ?e59n
          case e59h => (intro w hSw; (try dsimp only at hSw); go_split_ands; go_simp; (try exact rfl))
          try simp only [Act.put, List.setIfInBounds_toArray, List.set_cons_zero, List.set_cons_succ]
          refine take_d (i := 2) (d := 60) (v := ?e60) rfl rfl (by kernel_rfl) (by kernel_rfl) (by kernel_rfl) (fun _ _ _ h => h) (Or.inl ⟨by kernel_rfl, ?e60h⟩) hHeld ?e60n
          case e60h => (intro w hSw; (try dsimp only at hSw); go_split_ands; go_simp; (try exact rfl))
          try simp only [Act.put, List.setIfInBounds_toArray, List.set_cons_zero, List.set_cons_succ]
          refine take_d (i := 3) (d := 61) (v := ?e61) rfl rfl (by kernel_rfl) (by kernel_rfl) (by kernel_rfl) (fun _ _ _ h => h) (Or.inl ⟨by kernel_rfl, ?e61h⟩) hHeld ?e61n
          case e61h => (intro w hSw; (try dsimp only at hSw); go_split_ands; go_simp; (try exact rfl))
          try simp only [Act.put, List.setIfInBounds_toArray, List.set_cons_zero, List.set_cons_succ]
          refine wpAnyH_ready (rs := [0]) (by kernel_rfl) (by simp) ?_
          refine AllReadyH.cons rfl (fun K hK => ?_) AllReadyH.nil
          refine wp_load_mid 27 _ rfl pC 0 rfl [.int .u64 CL.bi, .int .u64 CL.bt, .slice Ac nc cc] _ BC5.out.rng Try.underlying27 rfl Try.i27 ?_
          refine hK.out _ _ hHeld (fun hHeld => ?_)
          clear hK K
          try simp only [Act.put, List.setIfInBounds_toArray, List.set_cons_zero, List.set_cons_succ]
          refine wpAnyH_ready (rs := [4]) (by kernel_rfl) (by simp) ?_
          refine AllReadyH.cons rfl (fun K hK => ?_) AllReadyH.nil
          go_simp
          refine (EX.out w5 _ HB5.out HE5.out).mono ?_
          rintro e w6 ⟨Af, nf, cf, rfl, ho, hb⟩
          have B36 := Lib.hid (B35.out.below hb B35.out.lt)
          have B46 := Lib.hid (B45.out.below hb B45.out.lt)
          have B66 := Lib.hid (B65.out.below hb B65.out.lt)
          have BC6 := Lib.hid (BC5.out.below hb BC5.out.lt)
          have HB6 := Lib.hid (HB5.out.trans (hb.mono HB5.out.size))
          have HF6 := Lib.hid (ho.down HB5.out.size)
          clear ho hb
          refine hK.out _ _ (B36.out.cell 0) (fun hHeld => ?_)
          clear hK K
          try simp only [Act.put, List.setIfInBounds_toArray, List.set_cons_zero, List.set_cons_succ]
          refine take_d (i := 5) (d := 57) (v := ?e57) rfl rfl (by kernel_rfl) (by kernel_rfl) (by kernel_rfl) (fun _ _ _ h => h) (Or.inl ⟨by kernel_rfl, ?e57h⟩) hHeld ?e57n
          case e57h => (intro w hSw; (try dsimp only at hSw); go_split_ands; go_simp; (try exact rfl))
          try simp only [Act.put, List.setIfInBounds_toArray, List.set_cons_zero, List.set_cons_succ]
          refine take_d (i := 6) (d := 63) (v := ?e63) rfl rfl (by kernel_rfl) (by kernel_rfl) (by kernel_rfl) (fun _ _ _ h => h) (Or.inl ⟨by kernel_rfl, ?e63h⟩) hHeld ?e63n
          case e63h => (intro w hSw; (try dsimp only at hSw); go_split_ands; go_simp; (try exact rfl))
          try simp only [Act.put, List.setIfInBounds_toArray, List.set_cons_zero, List.set_cons_succ]
          refine take_d (i := 7) (d := 64) (v := ?e64) rfl rfl (by kernel_rfl) (by kernel_rfl) (by kernel_rfl) (fun _ _ _ h => h) (Or.inl ⟨by kernel_rfl, ?e64h⟩) hHeld ?e64n
          case e64h => (intro w hSw; (try dsimp only at hSw); go_split_ands; go_simp; (try exact rfl))
          try simp only [Act.put, List.setIfInBounds_toArray, List.set_cons_zero, List.set_cons_succ]
          refine take_d (i := 8) (d := 65) (v := ?e65) rfl rfl (by kernel_rfl) (by kernel_rfl) (by kernel_rfl) (fun _ _ _ h => h) (Or.inl ⟨by kernel_rfl, ?e65h⟩) hHeld ?e65n
          case e65h => (intro w hSw; (try dsimp only at hSw); go_split_ands; go_simp; (try exact rfl))
          try simp only [Act.put, List.setIfInBounds_toArray, List.set_cons_zero, List.set_cons_succ]
          refine wpAnyH_ready (rs := [9]) (by kernel_rfl) (by simp) ?_
          refine AllReadyH.cons rfl (fun K hK => ?_) AllReadyH.nil
          refine wp_store_blk 27 _ _ rfl pC #[.int .u64 CL.bi, .int .u64 CL.bt, .slice Ac nc cc] 27 [.int .u64 XL.bi, .int .u64 XL.bt, .slice Af nf cf] rfl rfl BC6.out rfl Try.i27 (by simp [Value.oneCell']) ?_
          intro w7 hb ho
          have BC7 := Lib.hid hb
          have B37 := Lib.hid (ho.keep B36.out (by omega))
          have B47 := Lib.hid (ho.keep B46.out (by omega))
          have B67 := Lib.hid (ho.keep B66.out (by omega))
          have HF7 := Lib.hid (HF6.out.only27 BC6.out ho)
          have HB7 := Lib.hid (HB6.out.trans (ho.below (by omega)))
          clear hb ho
          refine hK.out _ _ (B37.out.cell 0) (fun hHeld => ?_)
          clear hK K
          try simp only [Act.put, List.setIfInBounds_toArray, List.set_cons_zero, List.set_cons_succ]
          refine take_d (i := 10) (d := 10) (v := ?e10) rfl rfl (by kernel_rfl) (by kernel_rfl) (by kernel_rfl) (fun _ _ _ h => h) (Or.inl ⟨by kernel_rfl, ?e10h⟩) hHeld ?e10n
          case e10h => (intro w hSw; (try dsimp only at hSw); go_split_ands; go_simp; (try exact rfl))
          try simp only [Act.put, List.setIfInBounds_toArray, List.set_cons_zero, List.set_cons_succ]
          refine wpAnyH_done (by kernel_rfl) ?_ _
          refine NoPanic.normal ?_
          clear EX hk0 hkc hkm hkm'
          have hTE := HTE.out
          rw [if_neg (by decide)] at hTE
          have hTL := HTL.out
          have hTI := HTI.out
          clear HTE HTL HTI
          by_cases hXE : XE = 0
          rotate_left
          · subst hTE
            rw [if_pos hXE] at hTL hTI
            subst hTL hTI
            have hE2 : (TE != 0) = true := by simp [hXE]
            clear hXE
            generalize (if c' = N then A' else Option.map (fun x => x.add (N * 3)) A') = A6 at *
            have z0 := B67.out.cell 0
            have z1 := B67.out.cell 1
            have z2 := B67.out.cell 2
            have f0 := B67.out.frozen 0
            have f1 := B67.out.frozen 1
            have f2 := B67.out.frozen 2
            go_wp2
            exact bodyPost_ret (ret27tt rfl _ _ (w.heap.size + 2) _ _ _ _ _ rfl rfl rfl (((B67.out.set_ 0 _).set_ 1 _).set_ 2 _)) rfl ⟨none, 0, 0, rfl, Eo.nothing _ _, HB7.out.trans ((set3_only w7 (w.heap.size + 2) _ _ _).below (by omega))⟩
          · subst hXE
            subst hTE
            rw [if_neg (by decide)] at hTL hTI
            subst hTL hTI
            generalize (if c' = N then A' else Option.map (fun x => x.add (N * 3)) A') = A6 at *
            have x0 := BC7.out.cell 0
            have x1 := BC7.out.cell 1
            have x2 := BC7.out.cell 2
            have z0 := B67.out.cell 0
            have z1 := B67.out.cell 1
            have z2 := B67.out.cell 2
            have f0 := B67.out.frozen 0
            have f1 := B67.out.frozen 1
            have f2 := B67.out.frozen 2
            have hon := set3_only w7 (w.heap.size + 2) (.int .u64 TL.bi) (.int .u64 TL.bt) (.slice Af nf cf)
            go_wp2
            exact bodyPost_ret (ret27tt rfl _ _ (w.heap.size + 2) _ _ _ _ _ rfl rfl rfl (((B67.out.set_ 0 _).set_ 1 _).set_ 2 _)) rfl ⟨Af, nf, cf, rfl, HF7.out.only27 B67.out hon, HB7.out.trans (hon.below (by omega))⟩

end Go.Proofs.Ytmgaihdepglahaa
