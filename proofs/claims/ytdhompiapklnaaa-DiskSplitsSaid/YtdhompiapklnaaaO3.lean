/-
  An Ask of a disk: a Read, a Write; all kinds.
-/
import Derived.Test.YtdhompiapklnaaaO2
namespace Go.Proofs.Ytdhompiapklnaaa
open Go.RowKit
attribute [local go_sem ↓] Try.z39 Go.wp_at_zero Go.wp_at_succ

set_option maxRecDepth 100000 in
set_option maxHeartbeats 2000000 in
theorem of4 (at_ n : Int) (A : Option Addr) (nk c : Nat) (w : World) (base p gs : Nat) (S : DSt) (h : Dk w base p gs S) (hq : S.q.length < 1000000) :
    Calls Try.prog 14 #[.agg (askv 4 at_ n A nk c), .pointer (some ⟨p, 0, none⟩)] w (Ofd w base p gs (askSt S false at_) (askErr S false at_) (readB S at_)) := by
  unfold askv
  have hp := h.lt
  have hg := h.gs_lt
  have hB : Below w.heap.size w ((w.alloc (.cells #[.int .i64 4, .int .i64 at_, .int .i64 n, .slice A nk c] 37)).alloc (.cells Z0.toArray 39)) := ((Below.refl _ w).alloc (Nat.le_refl _) _).alloc (by simp) _
  have bx := Bx.start w 4 at_ n A nk c
  have d0 := h.below hB
  have f0 : Fr base p gs w ((w.alloc (.cells #[.int .i64 4, .int .i64 at_, .int .i64 n, .slice A nk c] 37)).alloc (.cells Z0.toArray 39)) := Fr.of_below hB
  have hc := read_any at_ _ base p gs S d0 (by omega)
  unfold Readd at hc
  have hrb := readB_ok h.ok at_
  have HC := Lib.hid hc
  have BX := Lib.hid bx
  have F0 := Lib.hid f0
  have i39 := Lib.hid (show (Try.prog.info? 39).map (·.size) = some (readB S at_).toArray.size by rw [List.size_toArray, hrb.1]; exact Try.i39)
  have hone := Lib.hid hrb.one
  have hlen := Lib.hid hrb.1
  clear h d0 f0 bx hc hrb
  unfold Ofd
  generalize readB S at_ = R at *
  generalize askErr S false at_ = er at *
  generalize askSt S false at_ = S' at *
  go_enter Try.func14, Try.ntmps14
  go_wp2_with fail
  refine HC.out.mono ?_
  rintro e w2 ⟨rfl, d2, f2⟩
  have b2 := BX.out.fr f2 hp hg
  clear HC
  have k2 := b2.res
  have ht := Lib.hid (there_blk k2 R.toArray.size (by rw [List.size_toArray, hlen.out]; exact Nat.le_refl _))
  have K2 := Lib.hid k2
  have FIN := Lib.hid (ofd_end (B := R) (by omega) hp hg k2 d2 (F0.out.trans f2))
  clear k2 b2 d2 f2
  go_wp2_with ((with_reducible refine at_store (t := 39) ?_); refine wpList_store_mid rfl 39 _ _ rfl (w.heap.size + 1) 0 R.toArray rfl rfl ht.out i39.out (all_oneCell_toArray hone.out) ?_)
  have kf := K2.out.setCells 0 R
  rw [lay_whole _ _ (by rw [hlen.out]; rfl)] at kf
  exact bodyPost_ret (ret_cell_tmp (p := 4) (u := 5) (ty := 39) rfl _ _ (w.heap.size + 1) 39 R.toArray _ rfl kf Try.underlying39 rfl i39.out) rfl ⟨rfl, FIN.out⟩

set_option maxRecDepth 100000 in
set_option maxHeartbeats 2000000 in
theorem of5 (at_ n : Int) (A : Option Addr) (nk c : Nat) (w : World) (base p gs : Nat) (S : DSt) (h : Dk w base p gs S) (hq : S.q.length < 1000000) :
    Calls Try.prog 14 #[.agg (askv 5 at_ n A nk c), .pointer (some ⟨p, 0, none⟩)] w (Ofd w base p gs (askSt S false at_) (askErr S false at_) (readB S at_)) := by
  unfold askv
  have hp := h.lt
  have hg := h.gs_lt
  have hB : Below w.heap.size w ((w.alloc (.cells #[.int .i64 5, .int .i64 at_, .int .i64 n, .slice A nk c] 37)).alloc (.cells Z0.toArray 39)) := ((Below.refl _ w).alloc (Nat.le_refl _) _).alloc (by simp) _
  have bx := Bx.start w 5 at_ n A nk c
  have d0 := h.below hB
  have f0 : Fr base p gs w ((w.alloc (.cells #[.int .i64 5, .int .i64 at_, .int .i64 n, .slice A nk c] 37)).alloc (.cells Z0.toArray 39)) := Fr.of_below hB
  have hc := read_any at_ _ base p gs S d0 (by omega)
  unfold Readd at hc
  have hrb := readB_ok h.ok at_
  have HC := Lib.hid hc
  have BX := Lib.hid bx
  have F0 := Lib.hid f0
  have i39 := Lib.hid (show (Try.prog.info? 39).map (·.size) = some (readB S at_).toArray.size by rw [List.size_toArray, hrb.1]; exact Try.i39)
  have hone := Lib.hid hrb.one
  have hlen := Lib.hid hrb.1
  clear h d0 f0 bx hc hrb
  unfold Ofd
  generalize readB S at_ = R at *
  generalize askErr S false at_ = er at *
  generalize askSt S false at_ = S' at *
  go_enter Try.func14, Try.ntmps14
  go_wp2_with fail
  refine HC.out.mono ?_
  rintro e w2 ⟨rfl, d2, f2⟩
  have b2 := BX.out.fr f2 hp hg
  clear HC
  have k2 := b2.res
  have ht := Lib.hid (there_blk k2 R.toArray.size (by rw [List.size_toArray, hlen.out]; exact Nat.le_refl _))
  have K2 := Lib.hid k2
  have FIN := Lib.hid (ofd_end (B := R) (by omega) hp hg k2 d2 (F0.out.trans f2))
  clear k2 b2 d2 f2
  go_wp2_with ((with_reducible refine at_store (t := 39) ?_); refine wpList_store_mid rfl 39 _ _ rfl (w.heap.size + 1) 0 R.toArray rfl rfl ht.out i39.out (all_oneCell_toArray hone.out) ?_)
  have kf := K2.out.setCells 0 R
  rw [lay_whole _ _ (by rw [hlen.out]; rfl)] at kf
  exact bodyPost_ret (ret_cell_tmp (p := 4) (u := 5) (ty := 39) rfl _ _ (w.heap.size + 1) 39 R.toArray _ rfl kf Try.underlying39 rfl i39.out) rfl ⟨rfl, FIN.out⟩

theorem Dk.drew {w : World} {base p gs : Nat} {S : DSt} (h : Dk w base p gs S) : Dk w.drew base p gs S := ⟨h.own, h.base, h.ok⟩
theorem Bx.drew {w : World} {kd at_ n : Int} {A : Option Addr} {nk c : Nat} {W : World} (h : Bx w kd at_ n A nk c W) : Bx w kd at_ n A nk c W.drew := ⟨h.box, h.res⟩
theorem Bx.cells {w : World} {kd at_ n : Int} {A : Option Addr} {nk c : Nat} {W : World} (h : Bx w kd at_ n A nk c W) : W.cell? ⟨w.heap.size, 0, none⟩ = some (.int .i64 kd) ∧ W.cell? ⟨w.heap.size, 1, none⟩ = some (.int .i64 at_) ∧ W.cell? ⟨w.heap.size, 2, none⟩ = some (.int .i64 n) ∧ W.cell? ⟨w.heap.size, 3, none⟩ = some (.slice A nk c) ∧ W.there (w.heap.size + 1) 0 64 :=
  ⟨h.box.cell 0, h.box.cell 1, h.box.cell 2, h.box.cell 3, there_blk h.res 64 (Nat.le_refl _)⟩
theorem Bx.setZ {w : World} {kd at_ n : Int} {A : Option Addr} {nk c : Nat} {W : World} (h : Bx w kd at_ n A nk c W) : Bx w kd at_ n A nk c (W.setCells (w.heap.size + 1) 0 Z0) :=
  ⟨h.box.setCells_far (by omega) _ _, by have := h.res.setCells 0 Z0; rwa [lay_whole _ _ rfl] at this⟩

set_option maxRecDepth 100000 in
set_option maxHeartbeats 4000000 in
theorem of6 (kd at_ n : Int) (A : Option Addr) (nk c : Nat) (w : World) (base p gs : Nat) (S : DSt) (h : Dk w base p gs S) (hq : S.q.length < 1000000) (h0 : (kd == 0) = false) (h1 : (kd == 1) = false) (h2 : (kd == 2) = false) (h3 : (kd == 3) = false) (h4 : (kd == 4) = false) (h5 : (kd == 5) = false) :
    Calls Try.prog 14 #[.agg (askv kd at_ n A nk c), .pointer (some ⟨p, 0, none⟩)] w (Ofd w base p gs (writeSt S at_ (bk n)) (askErr S true at_) Z0) := by
  unfold askv
  have hp := h.lt
  have hg := h.gs_lt
  have hB : Below w.heap.size w ((w.alloc (.cells #[.int .i64 kd, .int .i64 at_, .int .i64 n, .slice A nk c] 37)).alloc (.cells Z0.toArray 39)) := ((Below.refl _ w).alloc (Nat.le_refl _) _).alloc (by simp) _
  have bx := Bx.start w kd at_ n A nk c
  have d0 := h.below hB
  have f0 : Fr base p gs w ((w.alloc (.cells #[.int .i64 kd, .int .i64 at_, .int .i64 n, .slice A nk c] 37)).alloc (.cells Z0.toArray 39)) := Fr.of_below hB
  have HBZ := buildZ
  have BX := Lib.hid bx
  have F0 := Lib.hid f0
  have D0 := Lib.hid d0
  clear h d0 f0 bx
  go_enter Try.func14, Try.ntmps14
  go_wp2_with fail
  generalize (w.alloc (.cells #[.int .i64 kd, .int .i64 at_, .int .i64 n, .slice A nk c] 37)).alloc (.cells Z0.toArray 39) = W0 at *
  have i39 : (Try.prog.info? 39).map (·.size) = some Z0.length := Try.i39
  have hone := Z0.ok.one
  have hu := Try.underlying39
  have q0 : W0.cell? ⟨w.heap.size, 0, none⟩ = some (.int .i64 kd) := BX.out.box.cell 0
  have q1 : W0.cell? ⟨w.heap.size, 1, none⟩ = some (.int .i64 at_) := BX.out.box.cell 1
  have q2 : W0.cell? ⟨w.heap.size, 2, none⟩ = some (.int .i64 n) := BX.out.box.cell 2
  have q3 : W0.cell? ⟨w.heap.size, 3, none⟩ = some (.slice A nk c) := BX.out.box.cell 3
  have hblk := block_any kd at_ n A nk c
  unfold askv at hblk
  have HBK := Lib.hid hblk
  clear hblk
  have hlZ : Z0.length = 64 := Z0.ok.1
  go_region_held3 (fun w' => w'.cell? ⟨w.heap.size, 0, none⟩ = some (.int .i64 kd) ∧ w'.cell? ⟨w.heap.size, 1, none⟩ = some (.int .i64 at_) ∧ w'.cell? ⟨w.heap.size, 2, none⟩ = some (.int .i64 n) ∧ w'.cell? ⟨w.heap.size, 3, none⟩ = some (.slice A nk c) ∧ w'.there (w.heap.size + 1) 0 64)
    (first | with_reducible exact (((Bx.drew BX.out).below hb1).fr hf2 hp hg).cells | with_reducible exact ((((Bx.drew BX.out).below hb1).fr hf2 hp hg).setZ).cells | with_reducible exact ((Bx.drew BX.out).below hb1).cells | with_reducible exact (Bx.drew BX.out).cells)
    (first
      | (go_at_call 33; refine (HBK.out _).mono ?_; rintro e w1 ⟨rfl, hb1⟩)
      | (go_at_call 32; refine (write_any at_ (bk n) (bk_ok n) _ base p gs S (by exact (Dk.drew D0.out).below hb1) hq).mono ?_; rintro e w2 ⟨rfl, hd2, hf2⟩))
  have b2 := ((Bx.drew BX.out).below hb1).fr hf2 hp hg
  have f2 : Fr base p gs w w2 := (F0.out.trans ((Fr.refl _ _ _ _).drew 1)).trans ((Fr.of_below hb1).trans hf2)
  have FIN := Lib.hid (ofd_end (B := Z0) (by omega) hp hg b2.res hd2 f2)
  have kf := Lib.hid b2.setZ.res
  clear b2 f2 hd2 hf2 hb1 q0 q1 q2 q3
  go_wp2
  exact bodyPost_ret (ret_cell_tmp (p := 4) (u := 5) (ty := 39) rfl _ _ (w.heap.size + 1) 39 Z0.toArray _ rfl kf.out Try.underlying39 rfl Try.i39) rfl ⟨rfl, FIN.out⟩

theorem of_any (kd at_ n : Int) (A : Option Addr) (c : Nat) (ks : List Bool) (w : World) (base p gs : Nat) (S : DSt) (h : Dk w base p gs S) (hq : S.q.length < 1000000) (hn : n ≤ 9223372036854775807) (hk : Bs w w.heap.size A ks) (hl : ks.length ≤ 9223372036854775807) :
    Calls Try.prog 14 #[.agg (askv kd at_ n A ks.length c), .pointer (some ⟨p, 0, none⟩)] w (Ofd w base p gs (ofS S kd at_ n ks) (ofE S kd at_) (ofB S kd at_)) := by
  by_cases h0 : kd = 0
  · subst h0
    exact of0 at_ n A c ks w base p gs S h hq hn hk hl
  · by_cases h1 : kd = 1
    · subst h1
      exact of1 at_ n A c ks w base p gs S h hq hn hk hl
    · by_cases h2 : kd = 2
      · subst h2
        exact of2 at_ n A c ks w base p gs S h hq hn hk hl
      · by_cases h3 : kd = 3
        · subst h3
          exact of3 at_ n A c ks w base p gs S h hq hn hk hl
        · by_cases h4 : kd = 4
          · subst h4
            exact of4 at_ n A ks.length c w base p gs S h hq
          · by_cases h5 : kd = 5
            · subst h5
              exact of5 at_ n A ks.length c w base p gs S h hq
            · have e1 : ofS S kd at_ n ks = writeSt S at_ (bk n) := by simp [ofS, h0, h1, h2, h3, h4, h5]
              have e2 : ofE S kd at_ = askErr S true at_ := by simp [ofE, h0, h1, h2, h3, h4, h5]
              have e3 : ofB S kd at_ = Z0 := by simp [ofB, h4, h5]
              rw [e1, e2, e3]
              exact of6 kd at_ n A ks.length c w base p gs S h hq (by simpa using h0) (by simpa using h1) (by simpa using h2) (by simpa using h3) (by simpa using h4) (by simpa using h5)

section
variable {S : DSt}
theorem armSt_ok (h : S.ok) (n : Int) (hn : n ≤ 9223372036854775807) : (armSt S n).ok := by
  unfold armSt
  have := atl_ok n hn
  split
  · exact h
  · exact ⟨h.has, h.q, this.1, h.doomed, this.2, h.doomed'⟩
theorem failSt_ok (h : S.ok) (n : Int) (hn : n ≤ 9223372036854775807) : (failSt S n).ok := by
  unfold failSt
  have := atl_ok n hn
  split
  · exact h
  · exact ⟨h.has, h.q, h.armed, this.1, h.armed', this.2⟩
theorem ofS_len (S : DSt) (kd at_ n : Int) (ks : List Bool) : (ofS S kd at_ n ks).has.length = S.has.length := by
  unfold ofS
  split
  · unfold armSt; split <;> rfl
  split
  · unfold failSt; split <;> rfl
  split
  · exact crashed_len S _
  split
  · exact syncSt_len S
  split
  · rw [askSt_has]
  · exact writeSt_len S _ _
theorem ofS_q (S : DSt) (kd at_ n : Int) (ks : List Bool) : (ofS S kd at_ n ks).q.length ≤ S.q.length + 1 := by
  unfold ofS
  split
  · unfold armSt; split <;> simp
  split
  · unfold failSt; split <;> simp
  split
  · simp [crashed]
  split
  · have := syncSt_q S; omega
  split
  · rw [askSt_q]; omega
  · exact writeSt_q S _ _
end

end Go.Proofs.Ytdhompiapklnaaa
