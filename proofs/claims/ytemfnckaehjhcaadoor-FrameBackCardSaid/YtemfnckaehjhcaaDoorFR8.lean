/-
  Decode: the message that bytes are.
-/
import Derived.Test.YtemfnckaehjhcaaDoorFR7
import Derived.Test.YtemfnckaehjhcaaDoorFP
namespace Go.Proofs.YtemfnckaehjhcaaDoor
open Go.RowKit
attribute [local go_sem ↓] eqA neA eqGA field1

/-- Which error Decode answers, and which message. -/
def decE (zs : List Int) : Int := if zs.length < 16 then 7 else if zs.take 16 = sealF (zs.drop 16) ∧ rdOkB (zs.drop 16) = true ∧ rightM (rdAll (zs.drop 16)).m = true then 0 else 171
def decMs (zs : List Int) : Ms := if decE zs = 0 then (rdAll (zs.drop 16)).m else ms0
theorem rdCn_le (lim : Nat) (s : Rs) : (rdCn lim s).1 ≤ lim := by
  unfold rdCn
  by_cases h : (rdHold (rdSh s).2 (decide ((rdSh s).1 ≤ lim))).wr = true
  · rw [if_pos h]; exact Nat.zero_le _
  · rw [if_neg h]
    have h2 : ((rdSh s).2.wr || !(decide ((rdSh s).1 ≤ lim))) = false := by
      have : (rdHold (rdSh s).2 (decide ((rdSh s).1 ≤ lim))).wr = ((rdSh s).2.wr || !(decide ((rdSh s).1 ≤ lim))) := rfl
      rw [this] at h
      simpa using h
    rw [Bool.or_eq_false_iff] at h2
    simpa using h2.2
theorem rdRaw_len (n : Nat) (s : Rs) : (rdRaw n s).1.length ≤ n := by
  unfold rdRaw
  split
  · simp
  · split
    · simp
    · simp only [List.length_take]; omega
theorem rdFs_few (kd : Int) (q : Rq) (he : q.m.es = []) (hm : q.m.mem = []) (hd : q.m.da = []) : ∀ k, k ≤ 6 → (rdFs kd k q).m.es.length ≤ (if 3 < k then 8 else 0) ∧ (rdFs kd k q).m.mem.length ≤ (if 4 < k then 5 else 0) ∧ (rdFs kd k q).m.da.length ≤ (if 5 < k then 65536 else 0)
  | 0, _ => by simp [rdFs, he, hm, hd]
  | k + 1, hk => by
    obtain ⟨h1, h2, h3⟩ := rdFs_few kd q he hm hd k (by omega)
    have e : rdFs kd (k + 1) q = if cntg kd / 2 ^ k % 2 = 1 then rdF k (rdFs kd k q) else rdFs kd k q := rfl
    rw [e]
    generalize rdFs kd k q = r at *
    have c1 := rdCn_le 8 r.s
    have c2 := rdCn_le 5 r.s
    have c3 := rdCn_le 65536 r.s
    rcases (show k = 0 ∨ k = 1 ∨ k = 2 ∨ k = 3 ∨ k = 4 ∨ k = 5 by omega) with rfl | rfl | rfl | rfl | rfl | rfl
    · split
      · exact ⟨h1, h2, h3⟩
      · exact ⟨h1, h2, h3⟩
    · split
      · exact ⟨h1, h2, h3⟩
      · exact ⟨h1, h2, h3⟩
    · split
      · exact ⟨h1, h2, h3⟩
      · exact ⟨h1, h2, h3⟩
    · simp only [Nat.reduceLT, Nat.reduceAdd, if_false, if_true, Nat.lt_irrefl] at h1 h2 h3 ⊢
      split
      · refine ⟨?_, h2, h3⟩
        show (r.m.es ++ _).length ≤ 8
        rw [List.length_append, rdEs_len]; omega
      · exact ⟨by omega, h2, h3⟩
    · simp only [Nat.reduceLT, Nat.reduceAdd, if_false, if_true, Nat.lt_irrefl] at h1 h2 h3 ⊢
      split
      · refine ⟨h1, ?_, h3⟩
        show (r.m.mem ++ _).length ≤ 5
        rw [List.length_append, rdMs_len]; omega
      · exact ⟨h1, by omega, h3⟩
    · simp only [Nat.reduceLT, Nat.reduceAdd, if_false, if_true, Nat.lt_irrefl] at h1 h2 h3 ⊢
      split
      · refine ⟨h1, h2, ?_⟩
        show (rdRaw _ _).1.length ≤ 65536
        exact Nat.le_trans (rdRaw_len _ _) c3
      · exact ⟨h1, h2, by omega⟩
theorem rdAll_mb {p : List Int} (hp : BsL p) : Mb (rdAll p).m := by
  have h := rdFs_few (rdHead ⟨ms0, ⟨p, 0, false⟩⟩).m.kind (rdHead ⟨ms0, ⟨p, 0, false⟩⟩) rfl rfl rfl 6 (Nat.le_refl _)
  have i := rdAll_in hp
  simp only [Nat.reduceLT, if_true] at h
  refine ⟨?_, ?_, ?_, i.t0, i.t1, i.pi0, i.pi1, i.pt0, i.pt1, i.co0, i.co1⟩
  · have := h.1; unfold rdAll; omega
  · have := h.2.1; unfold rdAll; omega
  · have := h.2.2; unfold rdAll; omega
theorem bsl_of {zs : List Int} (h : ∀ j, 0 ≤ zs.getD j 0 ∧ zs.getD j 0 ≤ 255) : BsL zs := by
  intro x hx
  obtain ⟨j, hj, rfl⟩ := List.getElem_of_mem hx
  have h1 := h j
  simpa [List.getD, hj] using h1
/-- What Decode answers. -/
def Dcd (w : World) (m : Ms) (er : Int) (e : Ending) (w' : World) : Prop := ∃ eA en ec iA im ic dA dm dc, e = .returned (.tuple #[.agg #[.int .i64 m.kind, .int .i64 m.fr, .int .i64 m.to, .int .u64 m.t, .int .u64 m.pi, .int .u64 m.pt, .slice eA en ec, .int .u64 m.co, .bool m.ok, .slice iA im ic, .slice dA dm dc], .int .i64 er]) ∧
  Eo w' w.heap.size eA en ec m.es ∧ Ios w' w.heap.size iA im ic m.mem ∧ Own w' w.heap.size dA dm dc m.da ∧ Below w.heap.size w w'
theorem Dcd.zero {w w' : World} (er : Int) (hb : Below w.heap.size w w') : Dcd w ms0 er (.returned (.tuple #[.agg #[.int .i64 0, .int .i64 0, .int .i64 0, .int .u64 0, .int .u64 0, .int .u64 0, .slice none 0 0, .int .u64 0, .bool false, .slice none 0 0, .slice none 0 0], .int .i64 er])) w' :=
  ⟨none, 0, 0, none, 0, 0, none, 0, 0, rfl, Eo.nothing _ _, World.ownsRow_nil _ _ _ _, ⟨World.ownsRow_nil _ _ _ _, fun j => by simp [ms0]⟩, hb⟩

set_option maxRecDepth 100000 in
set_option maxHeartbeats 8000000 in
theorem decode_any (A : Option Addr) (n c : Nat) (zs : List Int) (w : World) (h : By w w.heap.size A n zs) (hc : n ≤ c) (hn : n ≤ 100000) (hcm : c ≤ 9223372036854775807) (hG : Bk.Gl w) :
    Calls Tryd.prog 21 #[.slice A n c] w (Dcd w (decMs zs) (decE zs)) := by
  have B0 : Hid (Blk (w.alloc (.cells #[.int .i64 0, .int .i64 0, .int .i64 0, .int .u64 0, .int .u64 0, .int .u64 0, .slice none 0 0, .int .u64 0, .bool false, .slice none 0 0, .slice none 0 0] 31)) w.heap.size 31 #[.int .i64 0, .int .i64 0, .int .i64 0, .int .u64 0, .int .u64 0, .int .u64 0, .slice none 0 0, .int .u64 0, .bool false, .slice none 0 0, .slice none 0 0]) := Lib.hid (Blk.new _ _ _)
  have HB0 : Hid (Below w.heap.size w (w.alloc (.cells #[.int .i64 0, .int .i64 0, .int .i64 0, .int .u64 0, .int .u64 0, .int .u64 0, .slice none 0 0, .int .u64 0, .bool false, .slice none 0 0, .slice none 0 0] 31))) := Lib.hid ((Below.refl _ _).alloc (Nat.le_refl _) _)
  have hn63 : (n : Int) ≤ 100000 := by omega
  have hnc : (n : Int) ≤ (c : Int) := by omega
  have c63 : (c : Int) ≤ 9223372036854775807 := by omega
  by_cases h16 : n < 16
  · have hE : decE zs = 7 := by unfold decE; rw [if_pos (by rw [h.1]; exact h16)]
    have hM : decMs zs = ms0 := by unfold decMs; rw [hE, if_neg (by decide)]
    rw [hE, hM]
    have h16' : (n : Int) < 16 := by omega
    clear h hG hE hM
    go_enter Tryd.func21, Tryd.ntmps21
    go_upto_region 1 with (fail)
    generalize w.alloc (.cells #[.int .i64 0, .int .i64 0, .int .i64 0, .int .u64 0, .int .u64 0, .int .u64 0, .slice none 0 0, .int .u64 0, .bool false, .slice none 0 0, .slice none 0 0] 31) = W1 at *
    go_wp2_with ((with_reducible refine at_store (t := 31) ?_); refine wpList_store_blk _ rfl 31 _ _ rfl w.heap.size #[.int .i64 0, .int .i64 0, .int .i64 0, .int .u64 0, .int .u64 0, .int .u64 0, .slice none 0 0, .int .u64 0, .bool false, .slice none 0 0, .slice none 0 0] 31 [.int .i64 0, .int .i64 0, .int .i64 0, .int .u64 0, .int .u64 0, .int .u64 0, .slice none 0 0, .int .u64 0, .bool false, .slice none 0 0, .slice none 0 0] rfl rfl B0.out rfl Tryd.i31 (by simp [Value.oneCell']) ?_; intro w2 hb2 ho2; have Y2 := Lib.hid hb2; have HB2 := Lib.hid (HB0.out.trans (ho2.below (Nat.le_refl _))); clear hb2 ho2)
    exact bodyPost_ret (ret_cell_tmp (p := 2) (u := 3) rfl _ _ w.heap.size 31 #[.int .i64 0, .int .i64 0, .int .i64 0, .int .u64 0, .int .u64 0, .int .u64 0, .slice none 0 0, .int .u64 0, .bool false, .slice none 0 0, .slice none 0 0] _ rfl Y2.out Tryd.underlying31 rfl Tryd.i31) rfl (Dcd.zero 7 HB2.out)
  have h16' : ¬ (n : Int) < 16 := by omega
  obtain ⟨b, o, hA, hbl, hcell⟩ := h.2.2 (by omega)
  subst hA
  have BP : ∀ A9, (A9 = some ⟨b, o + 16, none⟩ ∨ n = 16) → By w w.heap.size A9 (n - 16) (zs.drop 16) := fun A9 hA9 => by
    refine ⟨by rw [List.length_drop, h.1], fun j => ?_, fun hp => ?_⟩
    · have := h.2.1 (16 + j)
      simpa [List.getD, List.getElem?_drop] using this
    · rcases hA9 with rfl | hA9
      · refine ⟨b, o + 16, rfl, hbl, fun j hj => ?_⟩
        have := hcell (16 + j) (by omega)
        rw [← Nat.add_assoc] at this
        rw [this]
        simp [List.getD, List.getElem?_drop]
      · omega
  have hT : Hid (By w w.heap.size (some ⟨b, o, none⟩) 16 (zs.take 16)) := Lib.hid (h.take (by omega))
  have LZ := h.1
  have hsl1 : ∃ A9, (A9 = some ⟨b, o + 16, none⟩ ∨ n = 16) ∧ (A9 = none → c - 16 = 0) ∧ ∀ W : World, (Instr.slice 29 (.slice (some ⟨b, o, none⟩) n c) (some (.int .i64 16)) none none).run Tryd.prog W = .ok (.slice A9 (n - 16) (c - 16)) W := by
    by_cases hc16 : c = 16
    · have n16 : n = 16 := by omega
      subst hc16
      subst n16
      exact ⟨some ⟨b, o, none⟩, .inr rfl, fun e => (by cases e), fun W => by kernel_rfl⟩
    · refine ⟨some ⟨b, o + 16, none⟩, .inl rfl, fun e => (by cases e), fun W => ?_⟩
      have h1 : (16 : Int) ≤ (n : Int) := by omega
      go_simp
  obtain ⟨A9, hA9, hnl9, hsl1⟩ := hsl1
  have hP := Lib.hid (BP A9 hA9)
  have hsl2 : ∀ W : World, (Instr.slice 29 (.slice (some ⟨b, o, none⟩) n c) none (some (.int .i64 16)) none).run Tryd.prog W = .ok (.slice (some ⟨b, o, none⟩) 16 c) W := fun W => by
    have h1 : (16 : Int) ≤ (c : Int) := by omega
    go_simp
  have BL := Lib.hid (rdAll_mb (bsl_of (hP.out.2.1)))
  have SL := Lib.hid (fun W (hW : Below w.heap.size w W) => seal_any A9 (n - 16) (c - 16) (zs.drop 16) W ((hP.out.below hW).more hW.size) (by omega) (by omega) (by omega) (hG.on hW))
  have RD := Lib.hid (fun W (hW : Below w.heap.size w W) => read_msg A9 (n - 16) (c - 16) (zs.drop 16) W ((hP.out.below hW).more hW.size) (by omega) (by omega) (by omega) hnl9)
  have EQ := Lib.hid (fun W g (hW : Below w.heap.size w W) (hs : By W W.heap.size (some ⟨g, 0, none⟩) 16 (sealF (zs.drop 16))) => equal_any (some ⟨b, o, none⟩) (some ⟨g, 0, none⟩) 16 c 16 32 (zs.take 16) (sealF (zs.drop 16)) W _ _ (hT.out.below hW) hs)
  have hE : Hid (decE zs = if zs.take 16 = sealF (zs.drop 16) ∧ rdOkB (zs.drop 16) = true ∧ rightM (rdAll (zs.drop 16)).m = true then 0 else 171) := Lib.hid (by unfold decE; rw [if_neg (by rw [h.1]; exact h16)])
  have hM : Hid (decMs zs = if decE zs = 0 then (rdAll (zs.drop 16)).m else ms0) := Lib.hid rfl
  clear h hG BP hcell hT hP hA9 hnl9 LZ h16
  generalize decMs zs = DM at *
  generalize decE zs = DE at *
  generalize zs.take 16 = TS at *
  generalize rdOkB (zs.drop 16) = OK at *
  generalize (rdAll (zs.drop 16)).m = m at *
  generalize zs.drop 16 = PL at *
  have EB : Hid ((TS == sealF PL) = decide (TS = sealF PL)) := Lib.hid (by rw [Bool.eq_iff_iff]; simp)
  generalize sealF PL = SE at *
  have hx0 : (0 : Int) ≤ (n : Int) - 16 := by omega
  go_enter Tryd.func21, Tryd.ntmps21
  go_upto_region 4 with (fail)
  generalize w.alloc (.cells #[.int .i64 0, .int .i64 0, .int .i64 0, .int .u64 0, .int .u64 0, .int .u64 0, .slice none 0 0, .int .u64 0, .bool false, .slice none 0 0, .slice none 0 0] 31) = W1 at *
  go_cut [18] from 13 (fun v18 wx => v18 = .bool (!(TS == SE)) ∧ Blk wx w.heap.size 31 #[.int .i64 0, .int .i64 0, .int .i64 0, .int .u64 0, .int .u64 0, .int .u64 0, .slice none 0 0, .int .u64 0, .bool false, .slice none 0 0, .slice none 0 0] ∧ Below w.heap.size w wx)
  case first =>
    have B1 : Hid (Blk W1.drew w.heap.size 31 #[.int .i64 0, .int .i64 0, .int .i64 0, .int .u64 0, .int .u64 0, .int .u64 0, .slice none 0 0, .int .u64 0, .bool false, .slice none 0 0, .slice none 0 0]) := Lib.hid (B0.out.drewN 1)
    have H1 : Hid (Below w.heap.size w W1.drew) := Lib.hid HB0.out.drew
    refine wp_region_noPanic ?_
    refine wp_region_held_drew (S := fun w' => True) (by kernel_rfl) trivial (fun hHeld => ?_)
    generalize W1.drew = w1 at *
    refine take_d (i := 0) (d := 13) (v := ?ra13) rfl rfl (by kernel_rfl) (by kernel_rfl) (by kernel_rfl) (fun _ _ _ h => h) (Or.inl ⟨by kernel_rfl, ?ra13h⟩) hHeld ?ra13n
    case ra13h => (intro w hSw; (try dsimp only at hSw); go_split_ands; go_simp; (try exact rfl))
    try simp only [Act.put, List.setIfInBounds_toArray, List.set_cons_zero, List.set_cons_succ]
    refine take_d (i := 1) (d := 14) (v := ?ra14) rfl rfl (by kernel_rfl) (by kernel_rfl) (by kernel_rfl) (fun _ _ _ h => h) (Or.inl ⟨by kernel_rfl, ?ra14h⟩) hHeld ?ra14n
    case ra14h => (intro w hSw; (try dsimp only at hSw); go_split_ands; go_simp; (try exact rfl))
    try simp only [Act.put, List.setIfInBounds_toArray, List.set_cons_zero, List.set_cons_succ]
    refine take_d (i := 2) (d := 15) (v := ?ra15) rfl rfl (by kernel_rfl) (by kernel_rfl) (by kernel_rfl) (fun _ _ _ h => h) (Or.inl ⟨by kernel_rfl, ?ra15h⟩) hHeld ?ra15n
    case ra15h => (intro w hSw; (try dsimp only at hSw); go_split_ands; go_simp; (try exact rfl))
    try simp only [Act.put, List.setIfInBounds_toArray, List.set_cons_zero, List.set_cons_succ]
    refine wpAnyH_ready (rs := [3]) (by kernel_rfl) (by simp) ?_
    refine AllReadyH.cons rfl (fun K hK => ?_) AllReadyH.nil
    go_simp
    refine (SL.out _ H1.out).mono ?_
    rintro e w2 ⟨gs, rfl, hs, hb⟩
    have B2 := Lib.hid (B1.out.below hb B1.out.lt)
    have H2 := Lib.hid (H1.out.trans (hb.mono H1.out.size))
    have HS := Lib.hid hs
    clear hb hs
    refine hK.out _ _ (trivial) (fun hHeld => ?_)
    clear hK K
    try simp only [Act.put, List.setIfInBounds_toArray, List.set_cons_zero, List.set_cons_succ]
    refine wpAnyH_ready (rs := [4]) (by kernel_rfl) (by simp) ?_
    refine AllReadyH.cons rfl (fun K hK => ?_) AllReadyH.nil
    go_simp
    refine (EQ.out _ _ H2.out HS.out).mono ?_
    rintro e w3 ⟨rfl, rfl⟩
    refine hK.out _ _ (trivial) (fun hHeld => ?_)
    clear hK K
    try simp only [Act.put, List.setIfInBounds_toArray, List.set_cons_zero, List.set_cons_succ]
    refine take_d (i := 5) (d := 18) (v := ?ra18) rfl rfl (by kernel_rfl) (by kernel_rfl) (by kernel_rfl) (fun _ _ _ h => h) (Or.inl ⟨by kernel_rfl, ?ra18h⟩) hHeld ?ra18n
    case ra18h => (intro w hSw; (try dsimp only at hSw); go_split_ands; go_simp; (try exact rfl))
    try simp only [Act.put, List.setIfInBounds_toArray, List.set_cons_zero, List.set_cons_succ]
    refine wpAnyH_done (by kernel_rfl) ?_ _
    refine NoPanic.normal ?_
    go_wp2_with fail
    go_meet
    case rel => exact ⟨rfl, B2.out, H2.out⟩
  case rest =>
    obtain ⟨rfl, k1, k2⟩ := hcut
    have B3 := Lib.hid k1
    have HB3 := Lib.hid k2
    clear k1 k2 B0 HB0
    by_cases hts : TS = SE
    · have e1 : (TS == SE) = true := by rw [EB.out]; exact decide_eq_true hts
      rw [e1]
      have WZ : Hid (w.heap.size < wc.heap.size) := Lib.hid B3.out.lt
      cases OK with
      | true =>
        cases hr : rightM m with
        | true =>
          obtain rfl : DE = 0 := by rw [hE.out, if_pos ⟨hts, rfl, hr⟩]
          obtain rfl : m = DM := by rw [hM.out, if_pos rfl]
          have hk : Hid (chkM m = 0) := Lib.hid (by unfold chkM; rw [if_pos hr])
          clear hE hM EB hts e1 hr
          go_wp2_with (first
            | (go_at_call 44; refine (RD.out _ HB3.out).mono ?_; rintro e w4 ⟨eA, en, ec, iA, im, ic, dA, dm, dc, rfl, ee, ii, dd, hb⟩; have E4 := Lib.hid ee; have I4 := Lib.hid ii; have D4 := Lib.hid dd; have B4 := Lib.hid (B3.out.below hb B3.out.lt); have HB4 := Lib.hid (HB3.out.trans (hb.mono (by have := WZ.out; omega))); have AL : Below w4.heap.size w4 (w4.alloc (.cells #[.int .i64 m.kind, .int .i64 m.fr, .int .i64 m.to, .int .u64 m.t, .int .u64 m.pi, .int .u64 m.pt, .slice eA en ec, .int .u64 m.co, .bool m.ok, .slice iA im ic, .slice dA dm dc] 31)) := (Below.refl _ _).alloc (Nat.le_refl _) _; have X5 : Hid (Blk (w4.alloc (.cells #[.int .i64 m.kind, .int .i64 m.fr, .int .i64 m.to, .int .u64 m.t, .int .u64 m.pi, .int .u64 m.pt, .slice eA en ec, .int .u64 m.co, .bool m.ok, .slice iA im ic, .slice dA dm dc] 31)) w4.heap.size 31 #[.int .i64 m.kind, .int .i64 m.fr, .int .i64 m.to, .int .u64 m.t, .int .u64 m.pi, .int .u64 m.pt, .slice eA en ec, .int .u64 m.co, .bool m.ok, .slice iA im ic, .slice dA dm dc]) := Lib.hid (Blk.new _ _ _); have E5 := Lib.hid (E4.out.below AL); have I5 := Lib.hid (World.ownsRow.below I4.out AL); have D5 := Lib.hid (D4.out.below AL); have B5 := Lib.hid (B4.out.below AL B4.out.lt); have HB5 := Lib.hid (HB4.out.alloc HB4.out.size (.cells #[.int .i64 m.kind, .int .i64 m.fr, .int .i64 m.to, .int .u64 m.t, .int .u64 m.pi, .int .u64 m.pt, .slice eA en ec, .int .u64 m.co, .bool m.ok, .slice iA im ic, .slice dA dm dc] 31)); have W4 : Hid (wc.heap.size ≤ w4.heap.size) := Lib.hid hb.size; clear ee ii dd hb AL)
            | (go_at_call 11; refine (check_any m eA en ec iA im ic dA dm dc _ _ (mr_of E5.out I5.out D5.out BL.out) (Nat.le_refl _)).mono ?_; rw [hk.out]; rintro e w6 ⟨rfl, hb⟩; have E6 := Lib.hid (E5.out.below hb); have I6 := Lib.hid (World.ownsRow.below I5.out hb); have D6 := Lib.hid (D5.out.below hb); have X6 := Lib.hid (X5.out.below hb X5.out.lt); have B6 := Lib.hid (B5.out.below hb B5.out.lt); have HB6 := Lib.hid (HB5.out.trans (hb.mono HB5.out.size)); clear hb)
            | (refine wpList_load_if (by kernel_rfl) 31 _ rfl w4.heap.size 0 rfl [.int .i64 m.kind, .int .i64 m.fr, .int .i64 m.to, .int .u64 m.t, .int .u64 m.pi, .int .u64 m.pt, .slice eA en ec, .int .u64 m.co, .bool m.ok, .slice iA im ic, .slice dA dm dc] _ (Blk.rng X5.out) Tryd.underlying31 rfl Tryd.i31 ?_)
            | ((with_reducible refine at_load (t := 31) ?_); refine wpList_load_mid rfl 31 _ rfl w4.heap.size 0 rfl [.int .i64 m.kind, .int .i64 m.fr, .int .i64 m.to, .int .u64 m.t, .int .u64 m.pi, .int .u64 m.pt, .slice eA en ec, .int .u64 m.co, .bool m.ok, .slice iA im ic, .slice dA dm dc] _ (Blk.rng X6.out) Tryd.underlying31 rfl Tryd.i31 ?_)
            | ((with_reducible refine at_store (t := 31) ?_); refine wpList_store_blk _ rfl 31 _ _ rfl w.heap.size #[.int .i64 0, .int .i64 0, .int .i64 0, .int .u64 0, .int .u64 0, .int .u64 0, .slice none 0 0, .int .u64 0, .bool false, .slice none 0 0, .slice none 0 0] 31 [.int .i64 m.kind, .int .i64 m.fr, .int .i64 m.to, .int .u64 m.t, .int .u64 m.pi, .int .u64 m.pt, .slice eA en ec, .int .u64 m.co, .bool m.ok, .slice iA im ic, .slice dA dm dc] rfl rfl B6.out rfl Tryd.i31 (by simp [Value.oneCell']) ?_; intro w7 hb7 ho7; have Y7 := Lib.hid hb7; have HB7 := Lib.hid (HB6.out.trans (ho7.below (Nat.le_refl _))); have E7 : Hid (Eo w7 w.heap.size eA en ec m.es) := Lib.hid ((Eo.only E6.out B6.out (by decide) (by decide) ho7).down (by have := WZ.out; omega)); have I7 := Lib.hid (World.ownsRow.down (World.ownsRow.only I6.out B6.out (by decide) ho7) (show w.heap.size ≤ wc.heap.size by have := WZ.out; omega)); have D7 : Hid (Own w7 w.heap.size dA dm dc m.da) := Lib.hid ⟨World.ownsRow.down (World.ownsRow.only D6.out.1 B6.out (by decide) ho7) (by have := WZ.out; omega), D6.out.2⟩; clear hb7 ho7))
          exact bodyPost_ret (ret_cell_tmp (p := 2) (u := 3) rfl _ _ w.heap.size 31 #[.int .i64 m.kind, .int .i64 m.fr, .int .i64 m.to, .int .u64 m.t, .int .u64 m.pi, .int .u64 m.pt, .slice eA en ec, .int .u64 m.co, .bool m.ok, .slice iA im ic, .slice dA dm dc] _ rfl Y7.out Tryd.underlying31 rfl Tryd.i31) rfl ⟨eA, en, ec, iA, im, ic, dA, dm, dc, rfl, E7.out, I7.out, D7.out, HB7.out⟩
        | false =>
          obtain rfl : DE = 171 := by rw [hE.out, if_neg (fun e => by rw [hr] at e; cases e.2.2)]
          obtain rfl : DM = ms0 := by rw [hM.out, if_neg (by decide)]
          have hk : Hid (chkM m = 170) := Lib.hid (by unfold chkM; rw [if_neg (by rw [hr]; decide)])
          clear hE hM EB hts e1 hr
          go_wp2_with (first
            | (go_at_call 44; refine (RD.out _ HB3.out).mono ?_; rintro e w4 ⟨eA, en, ec, iA, im, ic, dA, dm, dc, rfl, ee, ii, dd, hb⟩; have E4 := Lib.hid ee; have I4 := Lib.hid ii; have D4 := Lib.hid dd; have B4 := Lib.hid (B3.out.below hb B3.out.lt); have HB4 := Lib.hid (HB3.out.trans (hb.mono (by have := WZ.out; omega))); have AL : Below w4.heap.size w4 (w4.alloc (.cells #[.int .i64 m.kind, .int .i64 m.fr, .int .i64 m.to, .int .u64 m.t, .int .u64 m.pi, .int .u64 m.pt, .slice eA en ec, .int .u64 m.co, .bool m.ok, .slice iA im ic, .slice dA dm dc] 31)) := (Below.refl _ _).alloc (Nat.le_refl _) _; have X5 : Hid (Blk (w4.alloc (.cells #[.int .i64 m.kind, .int .i64 m.fr, .int .i64 m.to, .int .u64 m.t, .int .u64 m.pi, .int .u64 m.pt, .slice eA en ec, .int .u64 m.co, .bool m.ok, .slice iA im ic, .slice dA dm dc] 31)) w4.heap.size 31 #[.int .i64 m.kind, .int .i64 m.fr, .int .i64 m.to, .int .u64 m.t, .int .u64 m.pi, .int .u64 m.pt, .slice eA en ec, .int .u64 m.co, .bool m.ok, .slice iA im ic, .slice dA dm dc]) := Lib.hid (Blk.new _ _ _); have E5 := Lib.hid (E4.out.below AL); have I5 := Lib.hid (World.ownsRow.below I4.out AL); have D5 := Lib.hid (D4.out.below AL); have B5 := Lib.hid (B4.out.below AL B4.out.lt); have HB5 := Lib.hid (HB4.out.alloc HB4.out.size (.cells #[.int .i64 m.kind, .int .i64 m.fr, .int .i64 m.to, .int .u64 m.t, .int .u64 m.pi, .int .u64 m.pt, .slice eA en ec, .int .u64 m.co, .bool m.ok, .slice iA im ic, .slice dA dm dc] 31)); have W4 : Hid (wc.heap.size ≤ w4.heap.size) := Lib.hid hb.size; clear ee ii dd hb AL)
            | (go_at_call 11; refine (check_any m eA en ec iA im ic dA dm dc _ _ (mr_of E5.out I5.out D5.out BL.out) (Nat.le_refl _)).mono ?_; rw [hk.out]; rintro e w6 ⟨rfl, hb⟩; have E6 := Lib.hid (E5.out.below hb); have I6 := Lib.hid (World.ownsRow.below I5.out hb); have D6 := Lib.hid (D5.out.below hb); have X6 := Lib.hid (X5.out.below hb X5.out.lt); have B6 := Lib.hid (B5.out.below hb B5.out.lt); have HB6 := Lib.hid (HB5.out.trans (hb.mono HB5.out.size)); clear hb)
            | (refine wpList_load_if (by kernel_rfl) 31 _ rfl w4.heap.size 0 rfl [.int .i64 m.kind, .int .i64 m.fr, .int .i64 m.to, .int .u64 m.t, .int .u64 m.pi, .int .u64 m.pt, .slice eA en ec, .int .u64 m.co, .bool m.ok, .slice iA im ic, .slice dA dm dc] _ (Blk.rng X5.out) Tryd.underlying31 rfl Tryd.i31 ?_)
            | ((with_reducible refine at_store (t := 31) ?_); refine wpList_store_blk _ rfl 31 _ _ rfl w.heap.size #[.int .i64 0, .int .i64 0, .int .i64 0, .int .u64 0, .int .u64 0, .int .u64 0, .slice none 0 0, .int .u64 0, .bool false, .slice none 0 0, .slice none 0 0] 31 [.int .i64 0, .int .i64 0, .int .i64 0, .int .u64 0, .int .u64 0, .int .u64 0, .slice none 0 0, .int .u64 0, .bool false, .slice none 0 0, .slice none 0 0] rfl rfl B6.out rfl Tryd.i31 (by simp [Value.oneCell']) ?_; intro w7 hb7 ho7; have Y7 := Lib.hid hb7; have HB7 := Lib.hid (HB6.out.trans (ho7.below (Nat.le_refl _))); clear hb7 ho7))
          exact bodyPost_ret (ret_cell_tmp (p := 2) (u := 3) rfl _ _ w.heap.size 31 #[.int .i64 0, .int .i64 0, .int .i64 0, .int .u64 0, .int .u64 0, .int .u64 0, .slice none 0 0, .int .u64 0, .bool false, .slice none 0 0, .slice none 0 0] _ rfl Y7.out Tryd.underlying31 rfl Tryd.i31) rfl (Dcd.zero 171 HB7.out)
      | false =>
        obtain rfl : DE = 171 := by rw [hE.out, if_neg (fun e => by cases e.2.1)]
        obtain rfl : DM = ms0 := by rw [hM.out, if_neg (by decide)]
        have hk : Hid True := Lib.hid trivial
        clear hE hM EB hts e1
        go_wp2_with (first
            | (go_at_call 44; refine (RD.out _ HB3.out).mono ?_; rintro e w4 ⟨eA, en, ec, iA, im, ic, dA, dm, dc, rfl, ee, ii, dd, hb⟩; have E4 := Lib.hid ee; have I4 := Lib.hid ii; have D4 := Lib.hid dd; have B4 := Lib.hid (B3.out.below hb B3.out.lt); have HB4 := Lib.hid (HB3.out.trans (hb.mono (by have := WZ.out; omega))); have AL : Below w4.heap.size w4 (w4.alloc (.cells #[.int .i64 m.kind, .int .i64 m.fr, .int .i64 m.to, .int .u64 m.t, .int .u64 m.pi, .int .u64 m.pt, .slice eA en ec, .int .u64 m.co, .bool m.ok, .slice iA im ic, .slice dA dm dc] 31)) := (Below.refl _ _).alloc (Nat.le_refl _) _; have X5 : Hid (Blk (w4.alloc (.cells #[.int .i64 m.kind, .int .i64 m.fr, .int .i64 m.to, .int .u64 m.t, .int .u64 m.pi, .int .u64 m.pt, .slice eA en ec, .int .u64 m.co, .bool m.ok, .slice iA im ic, .slice dA dm dc] 31)) w4.heap.size 31 #[.int .i64 m.kind, .int .i64 m.fr, .int .i64 m.to, .int .u64 m.t, .int .u64 m.pi, .int .u64 m.pt, .slice eA en ec, .int .u64 m.co, .bool m.ok, .slice iA im ic, .slice dA dm dc]) := Lib.hid (Blk.new _ _ _); have E5 := Lib.hid (E4.out.below AL); have I5 := Lib.hid (World.ownsRow.below I4.out AL); have D5 := Lib.hid (D4.out.below AL); have B5 := Lib.hid (B4.out.below AL B4.out.lt); have HB5 := Lib.hid (HB4.out.alloc HB4.out.size (.cells #[.int .i64 m.kind, .int .i64 m.fr, .int .i64 m.to, .int .u64 m.t, .int .u64 m.pi, .int .u64 m.pt, .slice eA en ec, .int .u64 m.co, .bool m.ok, .slice iA im ic, .slice dA dm dc] 31)); have W4 : Hid (wc.heap.size ≤ w4.heap.size) := Lib.hid hb.size; clear ee ii dd hb AL)
            | ((with_reducible refine at_store (t := 31) ?_); refine wpList_store_blk _ rfl 31 _ _ rfl w.heap.size #[.int .i64 0, .int .i64 0, .int .i64 0, .int .u64 0, .int .u64 0, .int .u64 0, .slice none 0 0, .int .u64 0, .bool false, .slice none 0 0, .slice none 0 0] 31 [.int .i64 0, .int .i64 0, .int .i64 0, .int .u64 0, .int .u64 0, .int .u64 0, .slice none 0 0, .int .u64 0, .bool false, .slice none 0 0, .slice none 0 0] rfl rfl B5.out rfl Tryd.i31 (by simp [Value.oneCell']) ?_; intro w7 hb7 ho7; have Y7 := Lib.hid hb7; have HB7 := Lib.hid (HB5.out.trans (ho7.below (Nat.le_refl _))); clear hb7 ho7))
        exact bodyPost_ret (ret_cell_tmp (p := 2) (u := 3) rfl _ _ w.heap.size 31 #[.int .i64 0, .int .i64 0, .int .i64 0, .int .u64 0, .int .u64 0, .int .u64 0, .slice none 0 0, .int .u64 0, .bool false, .slice none 0 0, .slice none 0 0] _ rfl Y7.out Tryd.underlying31 rfl Tryd.i31) rfl (Dcd.zero 171 HB7.out)
    · have e1 : (TS == SE) = false := by rw [EB.out]; exact decide_eq_false hts
      rw [e1]
      obtain rfl : DE = 171 := by rw [hE.out, if_neg (fun e => hts e.1)]
      obtain rfl : DM = ms0 := by rw [hM.out, if_neg (by decide)]
      clear hE hM EB hts e1
      go_wp2_with ((with_reducible refine at_store (t := 31) ?_); refine wpList_store_blk _ rfl 31 _ _ rfl w.heap.size #[.int .i64 0, .int .i64 0, .int .i64 0, .int .u64 0, .int .u64 0, .int .u64 0, .slice none 0 0, .int .u64 0, .bool false, .slice none 0 0, .slice none 0 0] 31 [.int .i64 0, .int .i64 0, .int .i64 0, .int .u64 0, .int .u64 0, .int .u64 0, .slice none 0 0, .int .u64 0, .bool false, .slice none 0 0, .slice none 0 0] rfl rfl B3.out rfl Tryd.i31 (by simp [Value.oneCell']) ?_; intro w7 hb7 ho7; have Y7 := Lib.hid hb7; have HB7 := Lib.hid (HB3.out.trans (ho7.below (Nat.le_refl _))); clear hb7 ho7)
      exact bodyPost_ret (ret_cell_tmp (p := 2) (u := 3) rfl _ _ w.heap.size 31 #[.int .i64 0, .int .i64 0, .int .i64 0, .int .u64 0, .int .u64 0, .int .u64 0, .slice none 0 0, .int .u64 0, .bool false, .slice none 0 0, .slice none 0 0] _ rfl Y7.out Tryd.underlying31 rfl Tryd.i31) rfl (Dcd.zero 171 HB7.out)
end Go.Proofs.YtemfnckaehjhcaaDoor
