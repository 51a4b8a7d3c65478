/-
  The law DiskSplits, walked: a disk and its copy go ways of their own.
-/
import Derived.Test.YtdhompiapklnaaaG2
import Derived.Test.YtdhompiapklnaaaG3
import Derived.Test.YtdhompiapklnaaaCp
import Derived.Deep.Cut
namespace Go.Proofs.Ytdhompiapklnaaa
open Go.RowKit
attribute [local go_sem ↓] Try.z39 Try.z32 Try.z37

/-- What the document's disk says to a request. -/
theorem say_any {F : Nat → Prop} {W : World} {S : DSt} {r : List Value} (kd at_ nn2 : Int) (hnn2 : nn2 ≤ 9223372036854775807) (Ak : Option Addr) (ck : Nat) (ks : List Bool) (hkl : ks.length ≤ 9223372036854775807) (h : RRow F W S r) (ok : S.ok) (hz : 0 < S.has.length) (hh : S.has.length ≤ 2048) (hq : S.q.length ≤ 1000) (hk : Bs W W.heap.size Ak ks) (hF : ∀ g, W.heap.size ≤ g → F g) :
    Calls Try.prog 15 #[.agg #[.int .i64 kd, .int .i64 at_, .int .i64 nn2, .slice Ak ks.length ck], .agg r.toArray] W (RSaid F W (ofS S kd at_ nn2 ks) (ofB S kd at_) (ofE S kd at_)) := by
  obtain ⟨Ah, ch, Aq, cq, dm, g1, rfl, g3, g4, g5⟩ := h
  exact said_any kd at_ nn2 hnn2 Ak ck ks hkl Ah ch Aq cq S ok (by omega) (by omega) (by omega) dm W g1 hk g3 g4 F hF g5

theorem Dk.keepz {w w' : World} {base p gs base2 p2 g2 : Nat} {T : DSt} (h : Dk w base2 p2 g2 T) (hf : Fz base p gs w w') (hp : p < base2) (hg : gs < base2) : Dk w' base2 p2 g2 T := by
  obtain ⟨_, hpb⟩ := h.pb
  obtain ⟨_, _, _, ho, _⟩ := id h.own
  have h2 := h.base
  have h3 := ho.gs.1
  obtain ⟨_, hgb⟩ := h.gb
  exact h.keep (hf.block p2 hpb.lt (.inr ⟨by omega, by omega⟩)) (hf.block g2 hgb.lt (.inr ⟨by omega, by omega⟩)) fun g cur hge hb => hf.block g hb.lt (.inr ⟨by omega, by omega⟩)

set_option linter.unusedSimpArgs false in
set_option linter.unusedVariables false in
set_option maxRecDepth 100000 in
set_option maxHeartbeats 2000000 in
theorem splits_walk (nn : Int) (A : Option Addr) (n c : Nat) (A2 : Option Addr) (n2 c2 : Nat) (w : World) (_hnn : -9223372036854775808 ≤ nn ∧ nn ≤ 9223372036854775807) (hAl : Asks w w.heap.size A n) (hnl : n ≤ 9223372036854775807) (hAl2 : Asks w w.heap.size A2 n2) (hnl2 : n2 ≤ 9223372036854775807) :
    Calls Try.prog 4 #[.int .i64 nn, .slice A n c, .slice A2 n2 c2] w fun e w' => e = .returned (.bool true) ∧ Below w.heap.size w w' := by
  have HA := Lib.hid hAl
  have HA2 := Lib.hid hAl2
  have SZ := Lib.hid (sz_le nn)
  have SA := Lib.hid (fun w => size_any nn w)
  generalize sz nn = z at *
  have hz1 := SZ.out.1
  have hz2 := SZ.out.2
  have NW := Lib.hid (fun w => new_any z w (by omega) (by omega))
  have MD := Lib.hid (fun gs w h => made_any z gs w (by omega) h)
  clear hAl hAl2 _hnn
  go_enter Try.func4, Try.ntmps4
  go_wp2_with fail
  refine (wakes_any _).mono ?_
  rintro e w1 ⟨rfl, hb⟩
  have B1 := Lib.hid hb
  clear hb
  go_wp2_with (go_at_call 11; refine (SA.out _).mono ?_; rintro e w' ⟨rfl, rfl⟩)
  refine (NW.out _).mono ?_
  rintro e w2 ⟨p, gs, rfl, d2, hb⟩
  have BB : Hid (w.heap.size ≤ w1.heap.size) := B1.out.size
  have B2 := Lib.hid (B1.out.trans (hb.mono B1.out.size))
  have D2 := Lib.hid d2
  have GL : Hid (gs < w2.heap.size) := by obtain ⟨_, hg⟩ := d2.gb; exact hg.lt
  clear hb d2
  generalize w1.heap.size = base at *
  go_wp2_with (go_at_call 11; refine (SA.out _).mono ?_; rintro e w' ⟨rfl, rfl⟩)
  refine (MD.out gs _ GL.out).mono ?_
  rintro e w3 ⟨m, rfl, hm6, hrk, hb⟩
  clear hm6
  obtain ⟨r, rfl, hr⟩ := hrk.row
  have R3 := Lib.hid hr
  have D3 := Lib.hid (D2.out.below hb)
  have B3 := Lib.hid (B2.out.trans (hb.mono B2.out.size))
  have L6 := Lib.hid hr.one.1
  have O6 := Lib.hid hr.one.2
  have i32r : Hid ((Try.prog.info? 32).map (·.size) = some r.length) := by rw [L6.out]; exact Try.i32
  have z32r : Hid (ZZ.size = r.length) := by rw [L6.out]; rfl
  clear hrk hr hb D2 B2 SA NW MD L6
  go_upto_region 5 with ((with_reducible refine at_store (t := 32) ?_); refine wpList_store_new w3 rfl 32 _ _ rfl _ _ _ r rfl rfl rfl z32r.out i32r.out O6.out ?_)
  have S4 : Hid (RS w base p gs w3.heap.size (fun g => g ≠ gs) (made z) (made z) r (w3.alloc (.cells r.toArray 32))) := ⟨D3.out.alloc _, R3.out.alloc _, Blk.new w3 32 _, B3.out.alloc B3.out.size _, BB.out⟩
  have L7 : Hid (w.heap.size ≤ w3.heap.size) := B3.out.size
  clear R3 D3 B3
  generalize w3.alloc (.cells r.toArray 32) = w4 at *
  generalize w3.heap.size = b7 at *
  clear i32r z32r O6
  go_wp2_with fail
  go_loopw [35] (fun i wr => ∃ j : Nat, j ≤ n ∧ i = .int .i64 j ∧ ∃ S r, RS w base p gs b7 (fun g => g ≠ gs) S S r wr ∧ S.q.length ≤ j ∧ S.q.length ≤ 50 ∧ S.has.length = z) (fun i _ => n - (intOf i).toNat)
  case atStart => exact ⟨0, Nat.zero_le _, rfl, made z, r, S4.out, by simp [made], by simp [made], by simp [made]⟩
  case round =>
    clear S4
    obtain ⟨j, hj, rfl, S, r, h1, hq1, hq50, hh1⟩ := hrel
    have i32r : Hid ((Try.prog.info? 32).map (·.size) = some r.length) := by rw [h1.row.one.1]; exact Try.i32
    by_cases hlt : j < n
    · obtain ⟨b, o, rfl, hb, hc⟩ := (HA.out.below h1.bel) (by omega)
      obtain ⟨kd, at_, nn2, Ak, nk, ck, hr, hnn2, ks, rfl, hkl, hks⟩ := hc j hlt
      have hR := Lib.hid hr
      have i37 := Lib.hid (show (Try.prog.info? 37).map (·.size) = some [Value.int .i64 kd, .int .i64 at_, .int .i64 nn2, .slice Ak ks.length ck].length from Try.i37)
      have o37 : Hid (∀ v ∈ [Value.int .i64 kd, .int .i64 at_, .int .i64 nn2, .slice Ak ks.length ck], v.oneCell' = true) := show ∀ v ∈ _, _ by simp [Value.oneCell']
      have S1 := Lib.hid h1
      have S2 := Lib.hid (h1.alloc (.cells #[.int .i64 kd, .int .i64 at_, .int .i64 nn2, .slice Ak ks.length ck] 37))
      have N9 : Hid (Blk (wr.alloc (.cells #[.int .i64 kd, .int .i64 at_, .int .i64 nn2, .slice Ak ks.length ck] 37)) wr.heap.size 37 [Value.int .i64 kd, .int .i64 at_, .int .i64 nn2, .slice Ak ks.length ck].toArray) := Blk.new wr 37 _
      have HKS := Lib.hid hks
      clear hr hc h1
      have jI : (j : Int) < (n : Int) := by omega
      have jI0 : (0 : Int) ≤ (j : Nat) := by omega
      have B1 : Hid (Below w.heap.size w wr) := S1.out.bel
      by_cases h50 : j < 50
      · have j50 : (j : Int) < 50 := by omega
        have hof := of_any kd at_ nn2 Ak ck ks _ base p gs S S2.out.dk (by omega) hnn2 ((HKS.out.over S1.out.bel S2.out.bel).up S2.out.bel.size) hkl
        have SAY : Hid (∀ (F : Nat → Prop) W, RRow F W S r → Bs W W.heap.size Ak ks → (∀ g, W.heap.size ≤ g → F g) → Calls Try.prog 15 #[.agg #[.int .i64 kd, .int .i64 at_, .int .i64 nn2, .slice Ak ks.length ck], .agg r.toArray] W (RSaid F W (ofS S kd at_ nn2 ks) (ofB S kd at_) (ofE S kd at_))) := fun F W h hk hF =>
          say_any kd at_ nn2 hnn2 Ak ck ks hkl h S2.out.dk.ok (by omega) (by omega) (by omega) hk hF
        have hl := ofS_len S kd at_ nn2 ks
        have hqq := ofS_q S kd at_ nn2 ks
        unfold askv at hof
        have HOF := Lib.hid hof
        unfold Ofd at HOF
        generalize ofS S kd at_ nn2 ks = T at *
        generalize ofE S kd at_ = er at *
        generalize ofB S kd at_ = B at *
        have HL : Hid (T.has.length = z) := hl.trans hh1
        have HQ : Hid (T.q.length ≤ j + 1) := show _ ≤ _ by omega
        have HJ : Hid (j < 50) := h50
        clear hof hl hqq hh1 hq1 hq50 h50
        go_upto_region 10 with (first
          | ((with_reducible refine at_load (t := 37) ?_); refine wpList_load_mid rfl 37 _ rfl b (o + j * 4) rfl _ _ hR.out Try.underlying37 rfl i37.out ?_)
          | ((with_reducible refine at_store (t := 37) ?_); refine wpList_store_new wr rfl 37 _ _ rfl _ _ _ [.int .i64 kd, .int .i64 at_, .int .i64 nn2, .slice Ak ks.length ck] rfl rfl rfl rfl i37.out o37.out ?_))
        generalize wr.alloc (.cells #[.int .i64 kd, .int .i64 at_, .int .i64 nn2, .slice Ak ks.length ck] 37) = w2 at *
        generalize wr.heap.size = g9 at *
        go_wp2_with ((with_reducible refine at_load (t := 37) ?_); refine wpList_load_mid rfl 37 _ rfl g9 0 rfl _ _ N9.out.rng Try.underlying37 rfl i37.out ?_)
        refine HOF.out.mono ?_
        rintro e w3 ⟨rfl, d3, f3⟩
        have S3 := Lib.hid (S2.out.fr d3 f3 (fun _ h => h))
        have N3 : Hid (Blk w3 g9 37 [Value.int .i64 kd, .int .i64 at_, .int .i64 nn2, .slice Ak ks.length ck].toArray) := by
          obtain ⟨_, hp⟩ := S2.out.dk.pb
          obtain ⟨_, hg⟩ := S2.out.dk.gb
          exact N9.out.fr f3 (N9.out.ne hp (by decide)) (N9.out.ne hg (by decide)) (by decide)
        clear HOF d3 f3 S2 N9
        have SY := Lib.hid (SAY.out (fun g => g ≠ gs) w3 S3.out.row ((HKS.out.over B1.out S3.out.bel).up S3.out.bel.size) (fun g hg => by obtain ⟨_, hgb⟩ := S3.out.dk.gb; have := hgb.lt; omega))
        clear SAY
        go_wp2_with (first
          | ((with_reducible refine at_load (t := 37) ?_); refine wpList_load_mid rfl 37 _ rfl g9 0 rfl _ _ N3.out.rng Try.underlying37 rfl i37.out ?_)
          | ((with_reducible refine at_load (t := 32) ?_); refine wpList_load_mid rfl 32 _ rfl b7 0 rfl r _ S3.out.b7.rng Try.underlying32 rfl i32r.out ?_))
        refine SY.out.mono ?_
        rintro e w6 ⟨r2, rfl, hrr, k6⟩
        have S6 := Lib.hid (S3.out.low k6)
        have R6 := Lib.hid hrr
        have i32n : Hid ((Try.prog.info? 32).map (·.size) = some r2.length) := by rw [hrr.one.1]; exact Try.i32
        have z32n : Hid (r.toArray.size = r2.length) := show _ = _ by rw [hrr.one.1, List.size_toArray, S3.out.row.one.1]
        have o32n := Lib.hid hrr.one.2
        clear hrr k6 SY S3 N3
        go_wp2_with ((with_reducible refine at_store (t := 32) ?_); refine wpList_store_blk _ rfl 32 _ _ rfl b7 r.toArray 32 r2 rfl rfl S6.out.b7 z32n.out i32n.out o32n.out ?_; intro w7 hb7 ho7; have S7 := Lib.hid (S6.out.put7 ho7 hb7 R6.out L7.out); clear hb7 ho7)
        exact ⟨⟨j + 1, by omega, by go_num, T, r2, S7.out, HQ.out, by have := HQ.out; have := HJ.out; omega, HL.out⟩, by simp [intOf]; omega⟩
      · have j50 : ¬ (j : Int) < 50 := by omega
        clear h50
        go_wp2_with (first
          | ((with_reducible refine at_load (t := 37) ?_); refine wpList_load_mid rfl 37 _ rfl b (o + j * 4) rfl _ _ hR.out Try.underlying37 rfl i37.out ?_)
          | ((with_reducible refine at_store (t := 37) ?_); refine wpList_store_new wr rfl 37 _ _ rfl _ _ _ [.int .i64 kd, .int .i64 at_, .int .i64 nn2, .slice Ak ks.length ck] rfl rfl rfl rfl i37.out o37.out ?_))
        exact ⟨⟨j + 1, by omega, by go_num, S, r, S2.out, by omega, by omega, hh1⟩, by simp [intOf]; omega⟩
    · have jI : ¬ (j : Int) < (n : Int) := by omega
      have S1 := Lib.hid h1
      have HM := Lib.hid hq50
      clear h1 hq1 hq50
      go_upto_region 14 with fail
      have CP := Lib.hid (fun (W : World) (h : Dk W base p gs S) => copy_any W base p gs S h (by have := HM.out; omega) (by omega))
      go_cut [12, 13] from 53 (fun v12 v13 wx => ∃ p2 g2 b13, v12 = .pointer (some ⟨p2, 0, none⟩) ∧ v13 = .pointer (some ⟨b13, 0, none⟩) ∧ wr.heap.size ≤ b13 ∧ Dk wx wr.heap.size p2 g2 S ∧ Blk wx b13 32 r.toArray ∧ Below wr.heap.size wr wx)
      case first =>
        have hS0 : wr.drew.rangeAt b7 0 r := Blk.rng (show Blk wr.drew b7 32 r.toArray from S1.out.b7)
        have X0 : Hid (Below wr.heap.size wr wr.drew) := (Below.refl _ wr).drew
        refine wp_region_noPanic ?_
        refine wp_region_held_drew (S := fun w' => w'.rangeAt b7 0 r) (by kernel_rfl) hS0 (fun hHeld => ?_)
        clear hS0
        refine take_d (i := 0) (d := 53) (v := .pointer (some ⟨p, 0, none⟩)) rfl rfl (by kernel_rfl) (by kernel_rfl) (by kernel_rfl) (fun _ _ _ h => h) (Or.inl ⟨by kernel_rfl, ?hy⟩) hHeld ?_
        case hy => (intro w hSw; (try dsimp only at hSw); go_split_ands; go_simp)
        try simp only [Act.put, List.setIfInBounds_toArray, List.set_cons_zero, List.set_cons_succ]
        refine take_d (i := 2) (d := 55) (v := .agg r.toArray) rfl rfl (by kernel_rfl) (by kernel_rfl) (by kernel_rfl) (fun _ _ _ h => h) (yieldsIf_load_mid (by kernel_rfl) _ _ rfl _ _ rfl _ _ (fun w h => h) Try.underlying32 rfl i32r.out) hHeld ?_
        try simp only [Act.put, List.setIfInBounds_toArray, List.set_cons_zero, List.set_cons_succ]
        generalize wr.drew = W1 at *
        have Z6 : Hid (ZZ.size = r.length) := show _ = _ by rw [S1.out.row.one.1]; rfl
        have O6 := Lib.hid S1.out.row.one.2
        have IR := Lib.hid S1.out
        have DN := Lib.hid (fun (W : World) (hB : Below wr.heap.size wr W) => CP.out W (S1.out.dk.below hB))
        clear CP
        refine wpAnyH_ready (rs := [1, 3]) (by kernel_rfl) (by simp) ?_
        refine AllReadyH.cons rfl (fun K hK => ?_) (AllReadyH.cons rfl (fun K hK => ?_) AllReadyH.nil)
        · skip
          go_simp
          refine (DN.out _ X0.out).mono ?_
          rintro e wa ⟨p2, g2, rfl, hd2, ka⟩
          have X1 : Hid (Below wr.heap.size wr wa) := X0.out.trans (ka.mono X0.out.size)
          have D1 : Hid (Dk wa wr.heap.size p2 g2 S) := hd2.down X0.out.size
          clear hd2 ka
          have Y1 : Hid (wa.rangeAt b7 0 r) := (IR.out.b7.below X1.out IR.out.b7.lt).rng
          refine hK.out _ _ Y1.out (fun hHeld => ?_)
          clear hK K
          try simp only [Act.put, List.setIfInBounds_toArray, List.set_cons_zero, List.set_cons_succ]
          refine wpAnyH_ready (rs := [3]) (by kernel_rfl) (by simp) ?_
          refine AllReadyH.cons rfl (fun K hK => ?_) AllReadyH.nil
          go_simp
          have X4 : Hid (Below wr.heap.size wr (wa.alloc (.cells ZZ 32))) := X1.out.alloc X1.out.size _
          have D4 : Hid (Dk (wa.alloc (.cells ZZ 32)) wr.heap.size p2 g2 S) := D1.out.alloc _
          have N4 : Hid (Blk (wa.alloc (.cells ZZ 32)) wa.heap.size 32 ZZ) := Blk.new wa 32 _
          have GE : Hid (wr.heap.size ≤ wa.heap.size) := X1.out.size
          refine hK.out _ _ (IR.out.b7.below X4.out IR.out.b7.lt).rng (fun hHeld => ?_)
          clear hK K
          try simp only [Act.put, List.setIfInBounds_toArray, List.set_cons_zero, List.set_cons_succ]
          refine take_d (i := 4) (d := 12) (v := .pointer (some ⟨p2, 0, none⟩)) rfl rfl (by kernel_rfl) (by kernel_rfl) (by kernel_rfl) (fun _ _ _ h => h) (Or.inl ⟨by kernel_rfl, ?hy⟩) hHeld ?_
          case hy => (intro w hSw; (try dsimp only at hSw); go_split_ands; go_simp)
          try simp only [Act.put, List.setIfInBounds_toArray, List.set_cons_zero, List.set_cons_succ]
          refine wpAnyH_ready (rs := [5]) (by kernel_rfl) (by simp) ?_
          refine AllReadyH.cons rfl (fun K hK => ?_) AllReadyH.nil
          rw [if_pos (by kernel_rfl)]
          refine wp_store_blk 32 _ _ rfl _ ZZ 32 r rfl rfl N4.out Z6.out i32r.out O6.out ?_
          intro w8 hb8 ho8
          have X8 : Hid (Below wr.heap.size wr w8) := X4.out.trans (ho8.below GE.out)
          have D8 : Hid (Dk w8 wr.heap.size p2 g2 S) := by
            obtain ⟨_, hg⟩ := D4.out.gb
            exact D4.out.only ho8 N4.out (by decide) (N4.out.ne hg (by decide)) (by decide)
          have B8 := Lib.hid hb8
          clear hb8 ho8
          refine hK.out _ _ (IR.out.b7.below X8.out IR.out.b7.lt).rng (fun hHeld => ?_)
          clear hK K
          try simp only [Act.put, List.setIfInBounds_toArray, List.set_cons_zero, List.set_cons_succ]
          refine wpAnyH_done (by kernel_rfl) ?_ _
          refine NoPanic.normal ?_
          go_wp2_with fail
          go_meet
          case rel => exact ⟨p2, g2, _, rfl, rfl, GE.out, D8.out, B8.out, X8.out⟩
        · skip
          go_simp
          have X1 : Hid (Below wr.heap.size wr (W1.alloc (.cells ZZ 32))) := X0.out.alloc X0.out.size _
          have N1 : Hid (Blk (W1.alloc (.cells ZZ 32)) W1.heap.size 32 ZZ) := Blk.new W1 32 _
          have GE : Hid (wr.heap.size ≤ W1.heap.size) := X0.out.size
          refine hK.out _ _ (IR.out.b7.below X1.out IR.out.b7.lt).rng (fun hHeld => ?_)
          clear hK K
          try simp only [Act.put, List.setIfInBounds_toArray, List.set_cons_zero, List.set_cons_succ]
          generalize W1.alloc (.cells ZZ 32) = W2 at *
          generalize W1.heap.size = g13 at *
          refine wpAnyH_ready (rs := [1]) (by kernel_rfl) (by simp) ?_
          refine AllReadyH.cons rfl (fun K hK => ?_) AllReadyH.nil
          go_simp
          refine (DN.out _ X1.out).mono ?_
          rintro e wa ⟨p2, g2, rfl, hd2, ka⟩
          have X4 : Hid (Below wr.heap.size wr wa) := X1.out.trans (ka.mono X1.out.size)
          have D4 : Hid (Dk wa wr.heap.size p2 g2 S) := hd2.down X1.out.size
          have N4 : Hid (Blk wa g13 32 ZZ) := N1.out.below ka N1.out.lt
          clear hd2 ka
          refine hK.out _ _ (IR.out.b7.below X4.out IR.out.b7.lt).rng (fun hHeld => ?_)
          clear hK K
          try simp only [Act.put, List.setIfInBounds_toArray, List.set_cons_zero, List.set_cons_succ]
          refine take_d (i := 4) (d := 12) (v := .pointer (some ⟨p2, 0, none⟩)) rfl rfl (by kernel_rfl) (by kernel_rfl) (by kernel_rfl) (fun _ _ _ h => h) (Or.inl ⟨by kernel_rfl, ?hy⟩) hHeld ?_
          case hy => (intro w hSw; (try dsimp only at hSw); go_split_ands; go_simp)
          try simp only [Act.put, List.setIfInBounds_toArray, List.set_cons_zero, List.set_cons_succ]
          refine wpAnyH_ready (rs := [5]) (by kernel_rfl) (by simp) ?_
          refine AllReadyH.cons rfl (fun K hK => ?_) AllReadyH.nil
          rw [if_pos (by kernel_rfl)]
          refine wp_store_blk 32 _ _ rfl _ ZZ 32 r rfl rfl N4.out Z6.out i32r.out O6.out ?_
          intro w8 hb8 ho8
          have X8 : Hid (Below wr.heap.size wr w8) := X4.out.trans (ho8.below GE.out)
          have D8 : Hid (Dk w8 wr.heap.size p2 g2 S) := by
            obtain ⟨_, hg⟩ := D4.out.gb
            exact D4.out.only ho8 N4.out (by decide) (N4.out.ne hg (by decide)) (by decide)
          have B8 := Lib.hid hb8
          clear hb8 ho8
          refine hK.out _ _ (IR.out.b7.below X8.out IR.out.b7.lt).rng (fun hHeld => ?_)
          clear hK K
          try simp only [Act.put, List.setIfInBounds_toArray, List.set_cons_zero, List.set_cons_succ]
          refine wpAnyH_done (by kernel_rfl) ?_ _
          refine NoPanic.normal ?_
          go_wp2_with fail
          go_meet
          case rel => exact ⟨p2, g2, _, rfl, rfl, GE.out, D8.out, B8.out, X8.out⟩
      case rest =>
        obtain ⟨p2, g2, b13, rfl, rfl, hge, dc, hb13, hbl⟩ := hcut
        have G2 : wr.heap.size ≤ g2 := by obtain ⟨_, _, _, ho, _⟩ := id dc.own; exact ho.gs.1
        have C0 : Hid (RS wr wr.heap.size p2 g2 b13 (fun g => g ≠ gs ∧ g ≠ g2) S S r wc) := ⟨dc, (S1.out.row.new_ G2).below hbl, hb13, hbl, Nat.le_refl _⟩
        have GE := Lib.hid hge
        have HG := Lib.hid G2
        clear CP dc hb13 hbl hge G2 HA hj hlt jI
        generalize wr = wm at *
        clear wr
        go_wp2_with fail
        go_loopw [60] (fun i wr => ∃ j : Nat, j ≤ n2 ∧ i = .int .i64 j ∧ j ≤ 50 ∧ ∃ T rc, RS wm wm.heap.size p2 g2 b13 (fun g => g ≠ gs ∧ g ≠ g2) T T rc wr ∧ T.q.length ≤ j + 50 ∧ T.has.length = z) (fun i _ => n2 - (intOf i).toNat)
        case atStart => exact ⟨0, Nat.zero_le _, rfl, by omega, S, r, C0.out, by have := HM.out; omega, hh1⟩
        case round =>
          clear C0
          obtain ⟨j, hj, rfl, hj50, T, rc, c1, hT, hTh⟩ := hrel
          have i32c : Hid ((Try.prog.info? 32).map (·.size) = some rc.length) := by rw [c1.row.one.1]; exact Try.i32
          have C1 := Lib.hid c1
          clear c1
          by_cases hlt : j < n2
          · have BW : Hid (Below w.heap.size w wr) := S1.out.bel.trans (C1.out.bel.mono S1.out.bel.size)
            obtain ⟨b, o, rfl, hb, hc⟩ := (HA2.out.below BW.out) (by omega)
            obtain ⟨kd, at_, nn2, Ak, nk, ck, hr, hnn2, ks, rfl, hkl, hks⟩ := hc j hlt
            have hR := Lib.hid hr
            have i37 := Lib.hid (show (Try.prog.info? 37).map (·.size) = some [Value.int .i64 kd, .int .i64 at_, .int .i64 nn2, .slice Ak ks.length ck].length from Try.i37)
            have o37 : Hid (∀ v ∈ [Value.int .i64 kd, .int .i64 at_, .int .i64 nn2, .slice Ak ks.length ck], v.oneCell' = true) := show ∀ v ∈ _, _ by simp [Value.oneCell']
            have HKS := Lib.hid hks
            clear hr hc
            have jI : (j : Int) < (n2 : Int) := by omega
            have jI0 : (0 : Int) ≤ (j : Nat) := by omega
            by_cases h50 : j = 50
            · have j50 : ((j : Int) == 50) = true := by simp; omega
              subst h50
              go_upto_region 28 with (first
                | ((with_reducible refine at_load (t := 37) ?_); refine wpList_load_mid rfl 37 _ rfl b (o + 50 * 4) rfl _ _ hR.out Try.underlying37 rfl i37.out ?_)
                | ((with_reducible refine at_store (t := 37) ?_); refine wpList_store_new wr rfl 37 _ _ rfl _ _ _ [.int .i64 kd, .int .i64 at_, .int .i64 nn2, .slice Ak ks.length ck] rfl rfl rfl rfl i37.out o37.out ?_))
              have C2 := Lib.hid (C1.out.alloc (.cells #[.int .i64 kd, .int .i64 at_, .int .i64 nn2, .slice Ak ks.length ck] 37))
              clear C1 HKS hR
              generalize wr.alloc (.cells #[.int .i64 kd, .int .i64 at_, .int .i64 nn2, .slice Ak ks.length ck] 37) = wq at *
              have PL : Hid (p < wm.heap.size) := by obtain ⟨_, hb⟩ := S1.out.dk.pb; exact hb.lt
              have QL : Hid (gs < wm.heap.size) := by obtain ⟨_, hb⟩ := S1.out.dk.gb; exact hb.lt
              have DD : Hid (Dk wq base p gs S) := S1.out.dk.below C2.out.bel
              have RD : Hid (RRow (fun g => g ≠ gs) wq S r) := S1.out.row.below C2.out.bel
              have B9 := Lib.hid (S1.out.b7.below C2.out.bel S1.out.b7.lt)
              have SEC := Lib.hid (sectors16z (fun g => g ≠ gs) base p gs S r wq DD.out RD.out (fun _ h => h) (by have := HM.out; omega) (by omega))
              have SEC2 := Lib.hid (fun (W : World) (f : Fz base p gs wq W) => sectors16_any (fun g => g ≠ gs ∧ g ≠ g2) wm.heap.size p2 g2 T rc W (C2.out.dk.keepz f PL.out QL.out) (C2.out.row.fz DD.out f (fun _ h => h.1)) (fun _ h => h.2) (by omega) (by omega))
              clear hT hTh
              go_wp2_with ((with_reducible refine at_load (t := 32) ?_); refine wpList_load_mid rfl 32 _ rfl b7 0 rfl r _ B9.out.rng Try.underlying32 rfl i32r.out ?_)
              refine SEC.out.mono ?_
              rintro e w9 ⟨rfl, f9⟩
              have X13 := Lib.hid (C2.out.b7.fz f9 (by have := PL.out; have := GE.out; omega) (by have := QL.out; have := GE.out; omega) (by decide))
              have SEC3 := Lib.hid (SEC2.out _ f9)
              have F9 := Lib.hid f9
              clear SEC SEC2 f9
              go_wp2_with ((with_reducible refine at_load (t := 32) ?_); refine wpList_load_if (by rfl) 32 _ rfl b13 0 rfl rc _ X13.out.rng Try.underlying32 rfl i32c.out ?_)
              refine SEC3.out.mono ?_
              rintro e w10 ⟨rfl, f10⟩
              have B10 : Hid (Below w.heap.size w w10) := by
                have k1 := S1.out.bel
                have k2 := C2.out.bel
                have k3 : Below base wq w9 := F9.out.below (by have := S1.out.bb; have := S1.out.dk.base; have := PL.out; have := k2.size; omega)
                have k4 : Below wm.heap.size w9 w10 := f10.below (by have := k2.size; have := F9.out.size; omega)
                have := S1.out.bb
                exact ((k1.trans (k2.mono k1.size)).trans (k3.mono this)).trans (k4.mono k1.size)
              clear f10
              go_wp2
              go_ret
              exact ⟨rfl, B10.out⟩
            · have j50 : ((j : Int) == 50) = false := by simp; omega
              have SS := HM.out
              have C2 := Lib.hid (C1.out.alloc (.cells #[.int .i64 kd, .int .i64 at_, .int .i64 nn2, .slice Ak ks.length ck] 37))
              have N9 : Hid (Blk (wr.alloc (.cells #[.int .i64 kd, .int .i64 at_, .int .i64 nn2, .slice Ak ks.length ck] 37)) wr.heap.size 37 [Value.int .i64 kd, .int .i64 at_, .int .i64 nn2, .slice Ak ks.length ck].toArray) := Blk.new wr 37 _
              have G9 : Hid (g2 < wr.heap.size) := by obtain ⟨_, hg⟩ := C1.out.dk.gb; exact hg.lt
              have Q9 : Hid (gs < wm.heap.size) := by obtain ⟨_, hg⟩ := S1.out.dk.gb; exact hg.lt
              have W9 : Hid (wm.heap.size ≤ wr.heap.size) := C1.out.bel.size
              have hof := of_any kd at_ nn2 Ak ck ks _ wm.heap.size p2 g2 T C2.out.dk (by omega) hnn2 ((HKS.out.over BW.out (S1.out.bel.trans (C2.out.bel.mono S1.out.bel.size))).up (S1.out.bel.trans (C2.out.bel.mono S1.out.bel.size)).size) hkl
              have SAY : Hid (∀ (F : Nat → Prop) W, RRow F W T rc → Bs W W.heap.size Ak ks → (∀ g, W.heap.size ≤ g → F g) → Calls Try.prog 15 #[.agg #[.int .i64 kd, .int .i64 at_, .int .i64 nn2, .slice Ak ks.length ck], .agg rc.toArray] W (RSaid F W (ofS T kd at_ nn2 ks) (ofB T kd at_) (ofE T kd at_))) := fun F W h hk hF =>
                say_any kd at_ nn2 hnn2 Ak ck ks hkl h C2.out.dk.ok (by omega) (by omega) (by omega) hk hF
              have hl := ofS_len T kd at_ nn2 ks
              have hqq := ofS_q T kd at_ nn2 ks
              have hBB : B64 (ofB T kd at_) := by
                unfold ofB
                split
                · exact readB_ok C2.out.dk.ok _
                · exact Z0.ok
              unfold askv at hof
              have HOF := Lib.hid hof
              unfold Ofd at HOF
              generalize ofS T kd at_ nn2 ks = T2 at *
              generalize ofE T kd at_ = er at *
              generalize ofB T kd at_ = B at *
              have HL : Hid (T2.has.length = z) := hl.trans hTh
              have HQ : Hid (T2.q.length ≤ j + 1 + 50) := show _ ≤ _ by omega
              have ee : (er != er) = false := by simp
              have hne := fun W => ne39 W B hBB
              have i39 : Hid ((Try.prog.info? 39).map (·.size) = some B.length) := by rw [hBB.1]; exact Try.i39
              have z39 : Hid (Z0.toArray.size = B.length) := by rw [hBB.1]; rfl
              have o39 := Lib.hid hBB.one
              have HJ : Hid (j ≠ 50) := h50
              have HJ2 : Hid (j ≤ 50) := hj50
              clear hof hl hqq hBB h50 hTh hT
              go_upto_region 21 with (first
                | ((with_reducible refine at_load (t := 37) ?_); refine wpList_load_mid rfl 37 _ rfl b (o + j * 4) rfl _ _ hR.out Try.underlying37 rfl i37.out ?_)
                | ((with_reducible refine at_store (t := 37) ?_); refine wpList_store_new wr rfl 37 _ _ rfl _ _ _ [.int .i64 kd, .int .i64 at_, .int .i64 nn2, .slice Ak ks.length ck] rfl rfl rfl rfl i37.out o37.out ?_))
              clear C1
              generalize wr.alloc (.cells #[.int .i64 kd, .int .i64 at_, .int .i64 nn2, .slice Ak ks.length ck] 37) = w2 at *
              generalize wr.heap.size = g9 at *
              go_wp2_with ((with_reducible refine at_load (t := 37) ?_); refine wpList_load_mid rfl 37 _ rfl g9 0 rfl _ _ N9.out.rng Try.underlying37 rfl i37.out ?_)
              refine HOF.out.mono ?_
              rintro e w3 ⟨rfl, d3, f3⟩
              have S3 := Lib.hid (C2.out.fr d3 f3 (fun _ h => h.2))
              have N3 : Hid (Blk w3 g9 37 [Value.int .i64 kd, .int .i64 at_, .int .i64 nn2, .slice Ak ks.length ck].toArray) := by
                obtain ⟨_, hp⟩ := C2.out.dk.pb
                obtain ⟨_, hg⟩ := C2.out.dk.gb
                exact N9.out.fr f3 (N9.out.ne hp (by decide)) (N9.out.ne hg (by decide)) (by decide)
              clear HOF d3 f3 C2 N9
              go_upto_region 24 with ((with_reducible refine at_store (t := 39) ?_); refine wpList_store_new w3 rfl 39 _ _ rfl _ _ _ B rfl rfl rfl z39.out i39.out o39.out ?_)
              have S4 := Lib.hid (S3.out.alloc (.cells B.toArray 39))
              have N4 := Lib.hid (N3.out.alloc (.cells B.toArray 39))
              have M4 : Hid (Blk (w3.alloc (.cells B.toArray 39)) w3.heap.size 39 B.toArray) := Blk.new w3 39 _
              have S5 := Lib.hid (S4.out.alloc (.cells Z0.toArray 39))
              have N5 := Lib.hid (N4.out.alloc (.cells Z0.toArray 39))
              have M5 := Lib.hid (M4.out.alloc (.cells Z0.toArray 39))
              have K5 : Hid (Blk ((w3.alloc (.cells B.toArray 39)).alloc (.cells Z0.toArray 39)) (w3.heap.size + 1) 39 Z0.toArray) := Blk.new' _ 39 _ (by simp)
              have G5 : Hid (g2 < w3.heap.size) := by
                obtain ⟨_, hg⟩ := S3.out.dk.gb
                exact hg.lt
              have W5 : Hid (wm.heap.size ≤ w3.heap.size) := S3.out.bel.size
              have R5 : Hid (RRow (fun g => (g ≠ gs ∧ g ≠ g2) ∧ g ≠ w3.heap.size + 1) ((w3.alloc (.cells B.toArray 39)).alloc (.cells Z0.toArray 39)) T rc) :=
                ((S4.out.row.new_ (g := w3.heap.size + 1) (by simp)).alloc _)
              have SZ5 : Hid (((w3.alloc (.cells B.toArray 39)).alloc (.cells Z0.toArray 39)).heap.size = w3.heap.size + 1 + 1) := by show _ = _; simp
              clear S3 N3 S4 N4 M4
              generalize (w3.alloc (.cells B.toArray 39)).alloc (.cells Z0.toArray 39) = w5 at *
              generalize w3.heap.size = g10 at *
              have SY := Lib.hid (SAY.out (fun g => (g ≠ gs ∧ g ≠ g2) ∧ g ≠ g10 + 1) w5 R5.out ((HKS.out.over BW.out (S1.out.bel.trans (S5.out.bel.mono S1.out.bel.size))).up (S1.out.bel.trans (S5.out.bel.mono S1.out.bel.size)).size) (fun g hg => by have := SZ5.out; have := G5.out; have := Q9.out; have := W5.out; refine ⟨⟨?_, ?_⟩, ?_⟩ <;> omega))
              clear SAY R5
              go_wp2_with (first
                | ((with_reducible refine at_load (t := 37) ?_); refine wpList_load_mid rfl 37 _ rfl g9 0 rfl _ _ N5.out.rng Try.underlying37 rfl i37.out ?_)
                | ((with_reducible refine at_load (t := 32) ?_); refine wpList_load_mid rfl 32 _ rfl b13 0 rfl rc _ S5.out.b7.rng Try.underlying32 rfl i32c.out ?_))
              refine SY.out.mono ?_
              rintro e w6 ⟨r2, rfl, hrr, k6⟩
              have S6 := Lib.hid (S5.out.low k6)
              have N6 := Lib.hid (N5.out.below k6 N5.out.lt)
              have M6 := Lib.hid (M5.out.below k6 M5.out.lt)
              have K6 := Lib.hid (K5.out.below k6 K5.out.lt)
              have R6 := Lib.hid hrr
              have i32n : Hid ((Try.prog.info? 32).map (·.size) = some r2.length) := by rw [hrr.one.1]; exact Try.i32
              have z32n : Hid (rc.toArray.size = r2.length) := show _ = _ by rw [hrr.one.1, List.size_toArray, S5.out.row.one.1]
              have o32n := Lib.hid hrr.one.2
              clear hrr k6 SY S5 N5 M5 K5
              go_wp2_with (first
                | ((with_reducible refine at_store (t := 32) ?_); refine wpList_store_blk _ rfl 32 _ _ rfl b13 rc.toArray 32 r2 rfl rfl S6.out.b7 z32n.out i32n.out o32n.out ?_; intro w7 hb7 ho7; have S7 := Lib.hid (S6.out.put7 ho7 hb7 R6.out GE.out); have M7 := Lib.hid (ho7.keep M6.out (M6.out.ne S6.out.b7 (by decide))); have K7 := Lib.hid (ho7.keep K6.out (K6.out.ne S6.out.b7 (by decide))); clear hb7 ho7)
                | ((with_reducible refine at_store (t := 39) ?_); refine wpList_store_blk _ rfl 39 _ _ rfl (g10 + 1) Z0.toArray 39 B rfl rfl K7.out z39.out i39.out o39.out ?_; intro w8 hb8 ho8; have S8 : Hid (RS wm wm.heap.size p2 g2 b13 (fun g => g ≠ gs ∧ g ≠ g2) T2 T2 r2 w8) := (S7.out.put39 ho8 K7.out (by have := G5.out; omega) (fun _ h => h.2) (by have := W5.out; omega)).weak (fun _ h => h.1); have M8 := Lib.hid (ho8.keep M7.out (by omega)); have K8 := Lib.hid hb8; clear hb8 ho8)
                | ((with_reducible refine at_load (t := 39) ?_); refine wpList_load_if (by rfl) 39 _ rfl g10 0 rfl B _ M8.out.rng Try.underlying39 rfl i39.out ?_)
                | ((with_reducible refine at_load (t := 39) ?_); refine wpList_load_if (by rfl) 39 _ rfl (g10 + 1) 0 rfl B _ K8.out.rng Try.underlying39 rfl i39.out ?_)
                | ((with_reducible refine at_load (t := 32) ?_); refine wpList_load_if (by rfl) 32 _ rfl b13 0 rfl r2 _ S8.out.b7.rng Try.underlying32 rfl i32n.out ?_))
              refine (tells_any S8.out.dk (S8.out.row.rk S8.out.dk.ok (fun _ h => h.2)) (by have := HQ.out; have := HJ2.out; omega)).mono ?_
              rintro e w9 ⟨rfl, hb9⟩
              have S9 := Lib.hid (S8.out.low hb9)
              have B9 := Lib.hid (S1.out.b7.below S9.out.bel S1.out.b7.lt)
              clear hb9 S8 S7 S6
              go_wp2_with ((with_reducible refine at_load (t := 32) ?_); refine wpList_load_if (by rfl) 32 _ rfl b7 0 rfl r _ B9.out.rng Try.underlying32 rfl i32r.out ?_)
              refine (tells_any (S1.out.dk.below S9.out.bel) ((S1.out.row.below S9.out.bel).rk S1.out.dk.ok (fun _ h => h)) (by have := HM.out; omega)).mono ?_
              rintro e w10 ⟨rfl, hb10⟩
              have S10 := Lib.hid (S9.out.low hb10)
              clear hb10 S9 B9
              go_wp2
              exact ⟨⟨j + 1, by omega, by go_num, by have := HJ.out; have := HJ2.out; omega, T2, r2, S10.out, HQ.out, HL.out⟩, by simp [intOf]; omega⟩
          · have jI : ¬ (j : Int) < (n2 : Int) := by omega
            have PL : Hid (p < wm.heap.size) := by obtain ⟨_, hb⟩ := S1.out.dk.pb; exact hb.lt
            have QL : Hid (gs < wm.heap.size) := by obtain ⟨_, hb⟩ := S1.out.dk.gb; exact hb.lt
            have DD : Hid (Dk wr base p gs S) := S1.out.dk.below C1.out.bel
            have RD : Hid (RRow (fun g => g ≠ gs) wr S r) := S1.out.row.below C1.out.bel
            have B9 := Lib.hid (S1.out.b7.below C1.out.bel S1.out.b7.lt)
            have SEC := Lib.hid (sectors16z (fun g => g ≠ gs) base p gs S r wr DD.out RD.out (fun _ h => h) (by have := HM.out; omega) (by omega))
            have SEC2 := Lib.hid (fun (W : World) (f : Fz base p gs wr W) => sectors16_any (fun g => g ≠ gs ∧ g ≠ g2) wm.heap.size p2 g2 T rc W (C1.out.dk.keepz f PL.out QL.out) (C1.out.row.fz DD.out f (fun _ h => h.1)) (fun _ h => h.2) (by omega) (by omega))
            clear hT hTh
            go_wp2_with ((with_reducible refine at_load (t := 32) ?_); refine wpList_load_mid rfl 32 _ rfl b7 0 rfl r _ B9.out.rng Try.underlying32 rfl i32r.out ?_)
            refine SEC.out.mono ?_
            rintro e w9 ⟨rfl, f9⟩
            have X13 := Lib.hid (C1.out.b7.fz f9 (by have := PL.out; have := GE.out; omega) (by have := QL.out; have := GE.out; omega) (by decide))
            have SEC3 := Lib.hid (SEC2.out _ f9)
            have F9 := Lib.hid f9
            clear SEC SEC2 f9
            go_wp2_with ((with_reducible refine at_load (t := 32) ?_); refine wpList_load_if (by rfl) 32 _ rfl b13 0 rfl rc _ X13.out.rng Try.underlying32 rfl i32c.out ?_)
            refine SEC3.out.mono ?_
            rintro e w10 ⟨rfl, f10⟩
            have B10 : Hid (Below w.heap.size w w10) := by
              have k1 := S1.out.bel
              have k2 := C1.out.bel
              have k3 : Below base wr w9 := F9.out.below (by have := S1.out.bb; have := S1.out.dk.base; have := PL.out; have := k2.size; omega)
              have k4 : Below wm.heap.size w9 w10 := f10.below (by have := k2.size; have := F9.out.size; omega)
              have := S1.out.bb
              exact ((k1.trans (k2.mono k1.size)).trans (k3.mono this)).trans (k4.mono k1.size)
            clear f10
            go_wp2
            go_ret
            exact ⟨rfl, B10.out⟩

end Go.Proofs.Ytdhompiapklnaaa
