/-
  The law DiskRuns, walked: its loop.
-/
import Derived.Test.YtdhompiapklnaaaG1
namespace Go.Proofs.Ytdhompiapklnaaa
open Go.RowKit
attribute [local go_sem ↓] Try.z39 Try.z32 Try.z37

theorem Bs.over {w wr W : World} {B : Nat} {A : Option Addr} {ks : List Bool} (h : Bs wr B A ks) (h1 : Below B w wr) (h2 : Below B w W) : Bs W B A ks := fun hn => by
  obtain ⟨b, o, e, hb, hc⟩ := h hn
  exact ⟨b, o, e, hb, fun j hj => ((h2.cell (p := ⟨b, o + j, none⟩) hb).trans (h1.cell (p := ⟨b, o + j, none⟩) hb).symm).trans (hc j hj)⟩
theorem Bs.up {w : World} {B B' : Nat} {A : Option Addr} {ks : List Bool} (h : Bs w B A ks) (hB : B ≤ B') : Bs w B' A ks := fun hn => by
  obtain ⟨b, o, e, hb, hc⟩ := h hn
  exact ⟨b, o, e, by omega, hc⟩
/-- A load of a row under a guard that holds. -/
theorem wpList_load_if {P : Program} {ops : Array Oper} {rest : List Oper} {op : Oper} {a : Act} {w : World} {Q : Exit → Act → World → Prop} (hw : Region.wanted op (yielded ops a.tmps) = true) (ty : TypeId) (x : Operand) (ho : op.op = .load ty x)
    (b o : Nat) (hx : a.eval x = .pointer (some ⟨b, o, none⟩)) (cs : List Value) (d : TypeDesc) (hc : w.rangeAt b o cs)
    (hu : P.underlying ty = some d) (hd : d.isRow = true) (hi : (P.info? ty).map (·.size) = some cs.length)
    (h : wpList P ops Q rest (a.put op.dst (.agg cs.toArray)) w) : wpList P ops Q (op :: rest) a w := by
  unfold wpList
  rw [if_pos hw]
  exact .inl (wp_load_mid ty x ho b o hx cs d hc hu hd hi h)

set_option linter.unusedSimpArgs false in
set_option linter.unusedVariables false in
set_option maxRecDepth 100000 in
set_option maxHeartbeats 2000000 in
theorem runs_walk (nn : Int) (A : Option Addr) (n c : Nat) (w : World) (_hnn : -9223372036854775808 ≤ nn ∧ nn ≤ 9223372036854775807) (hAl : Asks w w.heap.size A n) (hnl : n ≤ 9223372036854775807) :
    Calls Try.prog 3 #[.int .i64 nn, .slice A n c] w fun e w' => e = .returned (.bool true) ∧ Below w.heap.size w w' := by
  have HA := Lib.hid hAl
  have SZ := Lib.hid (sz_le nn)
  have SA := Lib.hid (fun w => size_any nn w)
  generalize sz nn = z at *
  have hz1 := SZ.out.1
  have hz2 := SZ.out.2
  have NW := Lib.hid (fun w => new_any z w (by omega) (by omega))
  have MD := Lib.hid (fun gs w h => made_any z gs w (by omega) h)
  clear hAl _hnn
  go_enter Try.func3, Try.ntmps3
  go_wp2_with fail
  refine (wakes_any _).mono ?_
  rintro e w1 ⟨rfl, hb⟩
  have B1 := Lib.hid hb
  clear hb
  go_wp2_with (go_at_call 11; refine (SA.out _).mono ?_; rintro e w' ⟨rfl, rfl⟩)
  refine (NW.out _).mono ?_
  rintro e w2 ⟨p, gs, rfl, d2, hb⟩
  have BB : Hid (w.heap.size ≤ w1.heap.size) := B1.out.size
  have B2 := Lib.hid (B1.out.trans (hb.mono B1.out.size))
  have D2 := Lib.hid d2
  have GL : Hid (gs < w2.heap.size) := by obtain ⟨_, hg⟩ := d2.gb; exact hg.lt
  clear hb d2
  generalize w1.heap.size = base at *
  go_wp2_with (go_at_call 11; refine (SA.out _).mono ?_; rintro e w' ⟨rfl, rfl⟩)
  refine (MD.out gs _ GL.out).mono ?_
  rintro e w3 ⟨m, rfl, hm6, hrk, hb⟩
  clear hm6
  obtain ⟨r, rfl, hr⟩ := hrk.row
  have R3 := Lib.hid hr
  have D3 := Lib.hid (D2.out.below hb)
  have B3 := Lib.hid (B2.out.trans (hb.mono B2.out.size))
  have L6 := Lib.hid hr.one.1
  have O6 := Lib.hid hr.one.2
  have i32r : Hid ((Try.prog.info? 32).map (·.size) = some r.length) := by rw [L6.out]; exact Try.i32
  have z32r : Hid (ZZ.size = r.length) := by rw [L6.out]; rfl
  clear hrk hr hb D2 B2 SA NW MD L6
  go_wp2_with (first
    | ((with_reducible refine at_store (t := 32) ?_); refine wpList_store_new w3 rfl 32 _ _ rfl _ _ _ r rfl rfl rfl z32r.out i32r.out O6.out ?_; have S4 : Hid (RS w base p gs w3.heap.size (fun g => g ≠ gs) (made z) (made z) r (w3.alloc (.cells r.toArray 32))) := ⟨D3.out.alloc _, R3.out.alloc _, Blk.new w3 32 _, B3.out.alloc B3.out.size _, BB.out⟩; have L7 : Hid (w.heap.size ≤ w3.heap.size) := B3.out.size; clear R3 D3 B3; generalize w3.alloc (.cells r.toArray 32) = w4 at *; generalize w3.heap.size = b7 at *)
    | ((with_reducible refine at_load (t := 32) ?_); refine wpList_load_if (by rfl) 32 _ rfl b7 0 rfl r _ S4.out.b7.rng Try.underlying32 rfl i32r.out ?_))
  refine (tells_any S4.out.dk (S4.out.row.rk S4.out.dk.ok (fun _ h => h)) (by simp [made])).mono ?_
  rintro e w5 ⟨rfl, hb⟩
  have S5 := Lib.hid (S4.out.low hb)
  clear hb S4 i32r z32r O6
  go_wp2_with fail
  go_loopw [35] (fun i wr => ∃ j : Nat, j ≤ n ∧ j ≤ 90 ∧ i = .int .i64 j ∧ ∃ S r, RS w base p gs b7 (fun g => g ≠ gs) S S r wr ∧ S.q.length ≤ j ∧ S.has.length = z) (fun i _ => n - (intOf i).toNat)
  case atStart => exact ⟨0, Nat.zero_le _, by omega, rfl, made z, r, S5.out, by simp [made], by simp [made]⟩
  case round =>
    clear S5
    obtain ⟨j, hj, hj90, rfl, S, r, h1, hq1, hh1⟩ := hrel
    have i32r : Hid ((Try.prog.info? 32).map (·.size) = some r.length) := by rw [h1.row.one.1]; exact Try.i32
    by_cases hlt : j < n
    · obtain ⟨b, o, rfl, hb, hc⟩ := (HA.out.below h1.bel) (by omega)
      obtain ⟨kd, at_, nn2, Ak, nk, ck, hr, hnn2, ks, rfl, hkl, hks⟩ := hc j hlt
      have hR := Lib.hid hr
      have i37 := Lib.hid (show (Try.prog.info? 37).map (·.size) = some [Value.int .i64 kd, .int .i64 at_, .int .i64 nn2, .slice Ak ks.length ck].length from Try.i37)
      have o37 : Hid (∀ v ∈ [Value.int .i64 kd, .int .i64 at_, .int .i64 nn2, .slice Ak ks.length ck], v.oneCell' = true) := show ∀ v ∈ _, _ by simp [Value.oneCell']
      have S1 := Lib.hid h1
      have S2 := Lib.hid (h1.alloc (.cells #[.int .i64 kd, .int .i64 at_, .int .i64 nn2, .slice Ak ks.length ck] 37))
      have N9 : Hid (Blk (wr.alloc (.cells #[.int .i64 kd, .int .i64 at_, .int .i64 nn2, .slice Ak ks.length ck] 37)) wr.heap.size 37 [Value.int .i64 kd, .int .i64 at_, .int .i64 nn2, .slice Ak ks.length ck].toArray) := Blk.new wr 37 _
      have G9 : Hid (gs < wr.heap.size) := by obtain ⟨_, hg⟩ := h1.dk.gb; exact hg.lt
      have W9 : Hid (w.heap.size ≤ wr.heap.size) := h1.bel.size
      have HKS := Lib.hid hks
      clear hr hc h1
      have jI : (j : Int) < (n : Int) := by omega
      have jI0 : (0 : Int) ≤ (j : Nat) := by omega
      have B1 : Hid (Below w.heap.size w wr) := S1.out.bel
      by_cases h90 : j = 90
      · subst h90
        have SEC := Lib.hid (sectors16_any (fun g => g ≠ gs) base p gs S r _ S2.out.dk S2.out.row (fun _ h => h) (by omega) (by omega))
        go_wp2_with (first
          | ((with_reducible refine at_load (t := 37) ?_); refine wpList_load_mid rfl 37 _ rfl b (o + 90 * 4) rfl _ _ hR.out Try.underlying37 rfl i37.out ?_)
          | ((with_reducible refine at_store (t := 37) ?_); refine wpList_store_new wr rfl 37 _ _ rfl _ _ _ [.int .i64 kd, .int .i64 at_, .int .i64 nn2, .slice Ak ks.length ck] rfl rfl rfl rfl i37.out o37.out ?_)
          | ((with_reducible refine at_load (t := 32) ?_); refine wpList_load_mid rfl 32 _ rfl b7 0 rfl r _ S2.out.b7.rng Try.underlying32 rfl i32r.out ?_))
        refine SEC.out.mono ?_
        rintro e w9 ⟨rfl, f9⟩
        have B9 : Hid (Below w.heap.size w w9) := S2.out.bel.trans ⟨f9.os, f9.tape, f9.output, f9.size, fun i hi => f9.block i (Nat.lt_of_lt_of_le hi S2.out.bel.size) (.inl (Nat.lt_of_lt_of_le hi BB.out))⟩
        clear f9
        go_wp2
        go_ret
        exact ⟨rfl, B9.out⟩
      · have j90 : ((j : Int) == 90) = false := by simp; omega
        have hof := of_any kd at_ nn2 Ak ck ks _ base p gs S S2.out.dk (by omega) hnn2 ((HKS.out.over S1.out.bel S2.out.bel).up S2.out.bel.size) hkl
        have SAY : Hid (∀ (F : Nat → Prop) W, RRow F W S r → Bs W W.heap.size Ak ks → (∀ g, W.heap.size ≤ g → F g) → Calls Try.prog 15 #[.agg #[.int .i64 kd, .int .i64 at_, .int .i64 nn2, .slice Ak ks.length ck], .agg r.toArray] W (RSaid F W (ofS S kd at_ nn2 ks) (ofB S kd at_) (ofE S kd at_))) := fun F W h hk hF => by
          obtain ⟨Ah, ch, Aq, cq, dm, g1, rfl, g3, g4, g5⟩ := h
          exact said_any kd at_ nn2 hnn2 Ak ck ks hkl Ah ch Aq cq S S2.out.dk.ok (by omega) (by omega) (by omega) dm W g1 hk g3 g4 F hF g5
        have hl := ofS_len S kd at_ nn2 ks
        have hqq := ofS_q S kd at_ nn2 ks
        have hBB : B64 (ofB S kd at_) := by
          unfold ofB
          split
          · exact readB_ok S2.out.dk.ok _
          · exact Z0.ok
        unfold askv at hof
        have HOF := Lib.hid hof
        unfold Ofd at HOF
        generalize ofS S kd at_ nn2 ks = T at *
        generalize ofE S kd at_ = er at *
        generalize ofB S kd at_ = B at *
        have HL : Hid (T.has.length = z) := hl.trans hh1
        have HQ : Hid (T.q.length ≤ j + 1) := show _ ≤ _ by omega
        have ee : (er != er) = false := by simp
        have hne := fun W => ne39 W B hBB
        have i39 : Hid ((Try.prog.info? 39).map (·.size) = some B.length) := by rw [hBB.1]; exact Try.i39
        have z39 : Hid (Z0.toArray.size = B.length) := by rw [hBB.1]; rfl
        have o39 := Lib.hid hBB.one
        have HJ : Hid (j ≠ 90) := h90
        have HJ2 : Hid (j ≤ 90) := hj90
        clear hof hl hqq hBB h90 hh1 hq1
        go_upto_region 11 with (first
          | ((with_reducible refine at_load (t := 37) ?_); refine wpList_load_mid rfl 37 _ rfl b (o + j * 4) rfl _ _ hR.out Try.underlying37 rfl i37.out ?_)
          | ((with_reducible refine at_store (t := 37) ?_); refine wpList_store_new wr rfl 37 _ _ rfl _ _ _ [.int .i64 kd, .int .i64 at_, .int .i64 nn2, .slice Ak ks.length ck] rfl rfl rfl rfl i37.out o37.out ?_))
        generalize wr.alloc (.cells #[.int .i64 kd, .int .i64 at_, .int .i64 nn2, .slice Ak ks.length ck] 37) = w2 at *
        generalize wr.heap.size = g9 at *
        go_wp2_with ((with_reducible refine at_load (t := 37) ?_); refine wpList_load_mid rfl 37 _ rfl g9 0 rfl _ _ N9.out.rng Try.underlying37 rfl i37.out ?_)
        refine HOF.out.mono ?_
        rintro e w3 ⟨rfl, d3, f3⟩
        have S3 := Lib.hid (S2.out.fr d3 f3 (fun _ h => h))
        have N3 : Hid (Blk w3 g9 37 [Value.int .i64 kd, .int .i64 at_, .int .i64 nn2, .slice Ak ks.length ck].toArray) := by
          obtain ⟨_, hp⟩ := S2.out.dk.pb
          obtain ⟨_, hg⟩ := S2.out.dk.gb
          exact N9.out.fr f3 (N9.out.ne hp (by decide)) (N9.out.ne hg (by decide)) (by decide)
        clear HOF d3 f3 S2 N9
        go_upto_region 14 with ((with_reducible refine at_store (t := 39) ?_); refine wpList_store_new w3 rfl 39 _ _ rfl _ _ _ B rfl rfl rfl z39.out i39.out o39.out ?_)
        have S4 := Lib.hid (S3.out.alloc (.cells B.toArray 39))
        have N4 := Lib.hid (N3.out.alloc (.cells B.toArray 39))
        have M4 : Hid (Blk (w3.alloc (.cells B.toArray 39)) w3.heap.size 39 B.toArray) := Blk.new w3 39 _
        have S5 := Lib.hid (S4.out.alloc (.cells Z0.toArray 39))
        have N5 := Lib.hid (N4.out.alloc (.cells Z0.toArray 39))
        have M5 := Lib.hid (M4.out.alloc (.cells Z0.toArray 39))
        have K5 : Hid (Blk ((w3.alloc (.cells B.toArray 39)).alloc (.cells Z0.toArray 39)) (w3.heap.size + 1) 39 Z0.toArray) := Blk.new' _ 39 _ (by simp)
        have G5 : Hid (gs < w3.heap.size) := by
          obtain ⟨_, hg⟩ := S3.out.dk.gb
          exact hg.lt
        have W5 : Hid (w.heap.size ≤ w3.heap.size) := S3.out.bel.size
        have R5 : Hid (RRow (fun g => g ≠ gs ∧ g ≠ w3.heap.size + 1) ((w3.alloc (.cells B.toArray 39)).alloc (.cells Z0.toArray 39)) S r) :=
          ((S4.out.row.new_ (g := w3.heap.size + 1) (by simp)).alloc _)
        have SZ5 : Hid (((w3.alloc (.cells B.toArray 39)).alloc (.cells Z0.toArray 39)).heap.size = w3.heap.size + 1 + 1) := by show _ = _; simp
        clear S3 N3 S4 N4 M4
        generalize (w3.alloc (.cells B.toArray 39)).alloc (.cells Z0.toArray 39) = w5 at *
        generalize w3.heap.size = g10 at *
        have SY := Lib.hid (SAY.out (fun g => g ≠ gs ∧ g ≠ g10 + 1) w5 R5.out ((HKS.out.over B1.out S5.out.bel).up S5.out.bel.size) (fun g hg => by have := SZ5.out; have := G5.out; constructor <;> omega))
        clear SAY R5
        go_wp2_with (first
          | ((with_reducible refine at_load (t := 37) ?_); refine wpList_load_mid rfl 37 _ rfl g9 0 rfl _ _ N5.out.rng Try.underlying37 rfl i37.out ?_)
          | ((with_reducible refine at_load (t := 32) ?_); refine wpList_load_mid rfl 32 _ rfl b7 0 rfl r _ S5.out.b7.rng Try.underlying32 rfl i32r.out ?_))
        refine SY.out.mono ?_
        rintro e w6 ⟨r2, rfl, hrr, k6⟩
        have S6 := Lib.hid (S5.out.low k6)
        have N6 := Lib.hid (N5.out.below k6 N5.out.lt)
        have M6 := Lib.hid (M5.out.below k6 M5.out.lt)
        have K6 := Lib.hid (K5.out.below k6 K5.out.lt)
        have R6 := Lib.hid hrr
        have i32n : Hid ((Try.prog.info? 32).map (·.size) = some r2.length) := by rw [hrr.one.1]; exact Try.i32
        have z32n : Hid (r.toArray.size = r2.length) := show _ = _ by rw [hrr.one.1, List.size_toArray, S5.out.row.one.1]
        have o32n := Lib.hid hrr.one.2
        clear hrr k6 SY S5 N5 M5 K5
        go_wp2_with (first
          | ((with_reducible refine at_store (t := 32) ?_); refine wpList_store_blk _ rfl 32 _ _ rfl b7 r.toArray 32 r2 rfl rfl S6.out.b7 z32n.out i32n.out o32n.out ?_; intro w7 hb7 ho7; have S7 := Lib.hid (S6.out.put7 ho7 hb7 R6.out L7.out); have M7 := Lib.hid (ho7.keep M6.out (M6.out.ne S6.out.b7 (by decide))); have K7 := Lib.hid (ho7.keep K6.out (K6.out.ne S6.out.b7 (by decide))); clear hb7 ho7)
          | ((with_reducible refine at_store (t := 39) ?_); refine wpList_store_blk _ rfl 39 _ _ rfl (g10 + 1) Z0.toArray 39 B rfl rfl K7.out z39.out i39.out o39.out ?_; intro w8 hb8 ho8; have S8 : Hid (RS w base p gs b7 (fun g => g ≠ gs) T T r2 w8) := (S7.out.put39 ho8 K7.out (by have := G5.out; omega) (fun _ h => h.2) (by have := W5.out; omega)).weak (fun _ h => h.1); have M8 := Lib.hid (ho8.keep M7.out (by omega)); have K8 := Lib.hid hb8; clear hb8 ho8)
          | ((with_reducible refine at_load (t := 39) ?_); refine wpList_load_if (by rfl) 39 _ rfl g10 0 rfl B _ M8.out.rng Try.underlying39 rfl i39.out ?_)
          | ((with_reducible refine at_load (t := 39) ?_); refine wpList_load_if (by rfl) 39 _ rfl (g10 + 1) 0 rfl B _ K8.out.rng Try.underlying39 rfl i39.out ?_)
          | ((with_reducible refine at_load (t := 32) ?_); refine wpList_load_if (by rfl) 32 _ rfl b7 0 rfl r2 _ S8.out.b7.rng Try.underlying32 rfl i32n.out ?_))
        refine (tells_any S8.out.dk (S8.out.row.rk S8.out.dk.ok (fun _ h => h)) (by have := HQ.out; have := HJ2.out; omega)).mono ?_
        rintro e w9 ⟨rfl, hb9⟩
        have S9 := Lib.hid (S8.out.low hb9)
        clear hb9
        go_wp2
        exact ⟨⟨j + 1, by omega, by have := HJ.out; have := HJ2.out; omega, by go_num, T, r2, S9.out, HQ.out, HL.out⟩, by simp [intOf]; omega⟩
    · have jI : ¬ (j : Int) < (n : Int) := by omega
      have SEC := Lib.hid (sectors16_any (fun g => g ≠ gs) base p gs S r _ h1.dk h1.row (fun _ h => h) (by omega) (by omega))
      have S1 := Lib.hid h1
      clear h1
      go_wp2_with ((with_reducible refine at_load (t := 32) ?_); refine wpList_load_mid rfl 32 _ rfl b7 0 rfl r _ S1.out.b7.rng Try.underlying32 rfl i32r.out ?_)
      refine SEC.out.mono ?_
      rintro e w9 ⟨rfl, f9⟩
      have B9 : Hid (Below w.heap.size w w9) := S1.out.bel.trans ⟨f9.os, f9.tape, f9.output, f9.size, fun i hi => f9.block i (Nat.lt_of_lt_of_le hi S1.out.bel.size) (.inl (Nat.lt_of_lt_of_le hi BB.out))⟩
      clear f9
      go_wp2
      go_ret
      exact ⟨rfl, B9.out⟩

end Go.Proofs.Ytdhompiapklnaaa
