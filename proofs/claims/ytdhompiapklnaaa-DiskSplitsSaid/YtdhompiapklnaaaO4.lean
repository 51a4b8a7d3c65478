/-
  An Ask of nothing.
-/
import Derived.Test.YtdhompiapklnaaaO3
namespace Go.Proofs.Ytdhompiapklnaaa
open Go.RowKit
attribute [local go_sem ↓] Try.z39 Go.wp_at_zero Go.wp_at_succ

theorem crash_nil (A : Option Addr) (n c : Nat) (w : World) : Calls Try.prog 30 #[.pointer none, .slice A n c] w fun e w' => e = .returned (.int .i64 1) ∧ w = w' := by
  go_enter Try.func30, Try.ntmps30
  go_wp2
  go_ret
  exact ⟨rfl, rfl⟩

/-- What nothing answers. -/
def Nil (w : World) (e : Ending) (w' : World) : Prop := e = .returned (.tuple #[.agg Z0.toArray, .int .i64 1]) ∧ Below w.heap.size w w'

set_option maxRecDepth 100000 in
set_option maxHeartbeats 2000000 in
theorem nil0 (at_ n : Int) (A : Option Addr) (c : Nat) (ks : List Bool) (w : World) :
    Calls Try.prog 14 #[.agg (askv 0 at_ n A ks.length c), .pointer none] w (Nil w) := by
  unfold askv
  have hB : Below w.heap.size w ((w.alloc (.cells #[.int .i64 0, .int .i64 at_, .int .i64 n, .slice A ks.length c] 37)).alloc (.cells Z0.toArray 39)) := ((Below.refl _ w).alloc (Nat.le_refl _) _).alloc (by simp) _
  have bx := Bx.start w 0 at_ n A ks.length c
  have HBZ := buildZ
  have i39 := Lib.hid (show (Try.prog.info? 39).map (·.size) = some Z0.toArray.size from Try.i39)
  have hone := Lib.hid Z0.ok.one
  have BX := Lib.hid bx
  have HB := Lib.hid hB
  clear bx hB
  go_enter Try.func14, Try.ntmps14
  go_wp2_with fail
  refine (arm_nil _ _).mono ?_
  rintro e w2 ⟨rfl, rfl⟩
  have b2 := BX.out
  have hB2 := HB.out
  generalize (w.alloc (.cells #[.int .i64 0, .int .i64 at_, .int .i64 n, .slice A ks.length c] 37)).alloc (.cells Z0.toArray 39) = w2 at *
  have k2 := b2.res
  have ht := Lib.hid (there_blk k2 Z0.toArray.size (Nat.le_refl _))
  have K2 := Lib.hid k2
  have FIN := Lib.hid (show Below w.heap.size w (w2.setCells (w.heap.size + 1) 0 Z0) from Below.setCells hB2 (by omega) _ _)
  clear k2 b2 hB2
  go_wp2_with ((with_reducible refine at_store (t := 39) ?_); refine wpList_store_mid rfl 39 _ _ rfl (w.heap.size + 1) 0 Z0.toArray rfl rfl ht.out i39.out (all_oneCell_toArray hone.out) ?_)
  have kf := K2.out.setCells 0 Z0
  rw [lay_whole _ _ rfl] at kf
  exact bodyPost_ret (ret_cell_tmp (p := 4) (u := 5) (ty := 39) rfl _ _ (w.heap.size + 1) 39 Z0.toArray _ rfl kf Try.underlying39 rfl i39.out) rfl ⟨rfl, FIN.out⟩

set_option maxRecDepth 100000 in
set_option maxHeartbeats 2000000 in
theorem nil1 (at_ n : Int) (A : Option Addr) (c : Nat) (ks : List Bool) (w : World) :
    Calls Try.prog 14 #[.agg (askv 1 at_ n A ks.length c), .pointer none] w (Nil w) := by
  unfold askv
  have hB : Below w.heap.size w ((w.alloc (.cells #[.int .i64 1, .int .i64 at_, .int .i64 n, .slice A ks.length c] 37)).alloc (.cells Z0.toArray 39)) := ((Below.refl _ w).alloc (Nat.le_refl _) _).alloc (by simp) _
  have bx := Bx.start w 1 at_ n A ks.length c
  have HBZ := buildZ
  have i39 := Lib.hid (show (Try.prog.info? 39).map (·.size) = some Z0.toArray.size from Try.i39)
  have hone := Lib.hid Z0.ok.one
  have BX := Lib.hid bx
  have HB := Lib.hid hB
  clear bx hB
  go_enter Try.func14, Try.ntmps14
  go_wp2_with fail
  refine (fail_nil _ _).mono ?_
  rintro e w2 ⟨rfl, rfl⟩
  have b2 := BX.out
  have hB2 := HB.out
  generalize (w.alloc (.cells #[.int .i64 1, .int .i64 at_, .int .i64 n, .slice A ks.length c] 37)).alloc (.cells Z0.toArray 39) = w2 at *
  have k2 := b2.res
  have ht := Lib.hid (there_blk k2 Z0.toArray.size (Nat.le_refl _))
  have K2 := Lib.hid k2
  have FIN := Lib.hid (show Below w.heap.size w (w2.setCells (w.heap.size + 1) 0 Z0) from Below.setCells hB2 (by omega) _ _)
  clear k2 b2 hB2
  go_wp2_with ((with_reducible refine at_store (t := 39) ?_); refine wpList_store_mid rfl 39 _ _ rfl (w.heap.size + 1) 0 Z0.toArray rfl rfl ht.out i39.out (all_oneCell_toArray hone.out) ?_)
  have kf := K2.out.setCells 0 Z0
  rw [lay_whole _ _ rfl] at kf
  exact bodyPost_ret (ret_cell_tmp (p := 4) (u := 5) (ty := 39) rfl _ _ (w.heap.size + 1) 39 Z0.toArray _ rfl kf Try.underlying39 rfl i39.out) rfl ⟨rfl, FIN.out⟩

set_option maxRecDepth 100000 in
set_option maxHeartbeats 2000000 in
theorem nil2 (at_ n : Int) (A : Option Addr) (c : Nat) (ks : List Bool) (w : World) (hk : Bs w w.heap.size A ks) (hl : ks.length ≤ 9223372036854775807) :
    Calls Try.prog 14 #[.agg (askv 2 at_ n A ks.length c), .pointer none] w (Nil w) := by
  unfold askv
  have hB : Below w.heap.size w ((w.alloc (.cells #[.int .i64 2, .int .i64 at_, .int .i64 n, .slice A ks.length c] 37)).alloc (.cells Z0.toArray 39)) := ((Below.refl _ w).alloc (Nat.le_refl _) _).alloc (by simp) _
  have bx := Bx.start w 2 at_ n A ks.length c
  have HBZ := buildZ
  have HK := Lib.hid (keep_any 2 at_ n A c ks _ ((hk.below hB).more hB.size) hl)
  unfold askv at HK
  generalize ks.take 100 = K1 at *
  have i39 := Lib.hid (show (Try.prog.info? 39).map (·.size) = some Z0.toArray.size from Try.i39)
  have hone := Lib.hid Z0.ok.one
  have BX := Lib.hid bx
  have HB := Lib.hid hB
  clear bx hB hk
  go_enter Try.func14, Try.ntmps14
  go_wp2_with fail
  refine HK.out.mono ?_
  rintro e w2 ⟨v, rfl, hrow, hb⟩
  obtain ⟨A1, c1, rfl, _⟩ := hrow.kb (b' := 0)
  have b2 := BX.out.below hb
  have hB2 := HB.out.trans (hb.mono HB.out.size)
  clear hb hrow HK
  go_wp2_with fail
  refine (crash_nil _ _ _ _).mono ?_
  rintro e w3 ⟨rfl, rfl⟩
  have k2 := b2.res
  have ht := Lib.hid (there_blk k2 Z0.toArray.size (Nat.le_refl _))
  have K2 := Lib.hid k2
  have FIN := Lib.hid (show Below w.heap.size w (w2.setCells (w.heap.size + 1) 0 Z0) from Below.setCells hB2 (by omega) _ _)
  clear k2 b2 hB2
  go_wp2_with ((with_reducible refine at_store (t := 39) ?_); refine wpList_store_mid rfl 39 _ _ rfl (w.heap.size + 1) 0 Z0.toArray rfl rfl ht.out i39.out (all_oneCell_toArray hone.out) ?_)
  have kf := K2.out.setCells 0 Z0
  rw [lay_whole _ _ rfl] at kf
  exact bodyPost_ret (ret_cell_tmp (p := 4) (u := 5) (ty := 39) rfl _ _ (w.heap.size + 1) 39 Z0.toArray _ rfl kf Try.underlying39 rfl i39.out) rfl ⟨rfl, FIN.out⟩

set_option maxRecDepth 100000 in
set_option maxHeartbeats 2000000 in
theorem nil3 (at_ n : Int) (A : Option Addr) (c : Nat) (ks : List Bool) (w : World) :
    Calls Try.prog 14 #[.agg (askv 3 at_ n A ks.length c), .pointer none] w (Nil w) := by
  unfold askv
  have hB : Below w.heap.size w ((w.alloc (.cells #[.int .i64 3, .int .i64 at_, .int .i64 n, .slice A ks.length c] 37)).alloc (.cells Z0.toArray 39)) := ((Below.refl _ w).alloc (Nat.le_refl _) _).alloc (by simp) _
  have bx := Bx.start w 3 at_ n A ks.length c
  have HBZ := buildZ
  have i39 := Lib.hid (show (Try.prog.info? 39).map (·.size) = some Z0.toArray.size from Try.i39)
  have hone := Lib.hid Z0.ok.one
  have BX := Lib.hid bx
  have HB := Lib.hid hB
  clear bx hB
  go_enter Try.func14, Try.ntmps14
  go_wp2_with fail
  refine (sync_nil _).mono ?_
  rintro e w2 ⟨rfl, hb⟩
  have b2 := BX.out.below hb
  have hB2 := HB.out.trans (hb.mono HB.out.size)
  clear hb
  have k2 := b2.res
  have ht := Lib.hid (there_blk k2 Z0.toArray.size (Nat.le_refl _))
  have K2 := Lib.hid k2
  have FIN := Lib.hid (show Below w.heap.size w (w2.setCells (w.heap.size + 1) 0 Z0) from Below.setCells hB2 (by omega) _ _)
  clear k2 b2 hB2
  go_wp2_with ((with_reducible refine at_store (t := 39) ?_); refine wpList_store_mid rfl 39 _ _ rfl (w.heap.size + 1) 0 Z0.toArray rfl rfl ht.out i39.out (all_oneCell_toArray hone.out) ?_)
  have kf := K2.out.setCells 0 Z0
  rw [lay_whole _ _ rfl] at kf
  exact bodyPost_ret (ret_cell_tmp (p := 4) (u := 5) (ty := 39) rfl _ _ (w.heap.size + 1) 39 Z0.toArray _ rfl kf Try.underlying39 rfl i39.out) rfl ⟨rfl, FIN.out⟩

set_option maxRecDepth 100000 in
set_option maxHeartbeats 2000000 in
theorem nil4 (at_ n : Int) (A : Option Addr) (c : Nat) (ks : List Bool) (w : World) :
    Calls Try.prog 14 #[.agg (askv 4 at_ n A ks.length c), .pointer none] w (Nil w) := by
  unfold askv
  have hB : Below w.heap.size w ((w.alloc (.cells #[.int .i64 4, .int .i64 at_, .int .i64 n, .slice A ks.length c] 37)).alloc (.cells Z0.toArray 39)) := ((Below.refl _ w).alloc (Nat.le_refl _) _).alloc (by simp) _
  have bx := Bx.start w 4 at_ n A ks.length c
  have HBZ := buildZ
  have i39 := Lib.hid (show (Try.prog.info? 39).map (·.size) = some Z0.toArray.size from Try.i39)
  have hone := Lib.hid Z0.ok.one
  have BX := Lib.hid bx
  have HB := Lib.hid hB
  clear bx hB
  go_enter Try.func14, Try.ntmps14
  go_wp2_with fail
  refine (read_nil _ _).mono ?_
  rintro e w2 ⟨rfl, hb⟩
  have b2 := BX.out.below hb
  have hB2 := HB.out.trans (hb.mono HB.out.size)
  clear hb
  have k2 := b2.res
  have ht := Lib.hid (there_blk k2 Z0.toArray.size (Nat.le_refl _))
  have K2 := Lib.hid k2
  have FIN := Lib.hid (show Below w.heap.size w (w2.setCells (w.heap.size + 1) 0 Z0) from Below.setCells hB2 (by omega) _ _)
  clear k2 b2 hB2
  go_wp2_with ((with_reducible refine at_store (t := 39) ?_); refine wpList_store_mid rfl 39 _ _ rfl (w.heap.size + 1) 0 Z0.toArray rfl rfl ht.out i39.out (all_oneCell_toArray hone.out) ?_)
  have kf := K2.out.setCells 0 Z0
  rw [lay_whole _ _ rfl] at kf
  exact bodyPost_ret (ret_cell_tmp (p := 4) (u := 5) (ty := 39) rfl _ _ (w.heap.size + 1) 39 Z0.toArray _ rfl kf Try.underlying39 rfl i39.out) rfl ⟨rfl, FIN.out⟩

set_option maxRecDepth 100000 in
set_option maxHeartbeats 2000000 in
theorem nil5 (at_ n : Int) (A : Option Addr) (c : Nat) (ks : List Bool) (w : World) :
    Calls Try.prog 14 #[.agg (askv 5 at_ n A ks.length c), .pointer none] w (Nil w) := by
  unfold askv
  have hB : Below w.heap.size w ((w.alloc (.cells #[.int .i64 5, .int .i64 at_, .int .i64 n, .slice A ks.length c] 37)).alloc (.cells Z0.toArray 39)) := ((Below.refl _ w).alloc (Nat.le_refl _) _).alloc (by simp) _
  have bx := Bx.start w 5 at_ n A ks.length c
  have HBZ := buildZ
  have i39 := Lib.hid (show (Try.prog.info? 39).map (·.size) = some Z0.toArray.size from Try.i39)
  have hone := Lib.hid Z0.ok.one
  have BX := Lib.hid bx
  have HB := Lib.hid hB
  clear bx hB
  go_enter Try.func14, Try.ntmps14
  go_wp2_with fail
  refine (read_nil _ _).mono ?_
  rintro e w2 ⟨rfl, hb⟩
  have b2 := BX.out.below hb
  have hB2 := HB.out.trans (hb.mono HB.out.size)
  clear hb
  have k2 := b2.res
  have ht := Lib.hid (there_blk k2 Z0.toArray.size (Nat.le_refl _))
  have K2 := Lib.hid k2
  have FIN := Lib.hid (show Below w.heap.size w (w2.setCells (w.heap.size + 1) 0 Z0) from Below.setCells hB2 (by omega) _ _)
  clear k2 b2 hB2
  go_wp2_with ((with_reducible refine at_store (t := 39) ?_); refine wpList_store_mid rfl 39 _ _ rfl (w.heap.size + 1) 0 Z0.toArray rfl rfl ht.out i39.out (all_oneCell_toArray hone.out) ?_)
  have kf := K2.out.setCells 0 Z0
  rw [lay_whole _ _ rfl] at kf
  exact bodyPost_ret (ret_cell_tmp (p := 4) (u := 5) (ty := 39) rfl _ _ (w.heap.size + 1) 39 Z0.toArray _ rfl kf Try.underlying39 rfl i39.out) rfl ⟨rfl, FIN.out⟩

set_option maxRecDepth 100000 in
set_option maxHeartbeats 4000000 in
theorem nil6 (kd at_ n : Int) (A : Option Addr) (nk c : Nat) (w : World) (h0 : (kd == 0) = false) (h1 : (kd == 1) = false) (h2 : (kd == 2) = false) (h3 : (kd == 3) = false) (h4 : (kd == 4) = false) (h5 : (kd == 5) = false) :
    Calls Try.prog 14 #[.agg (askv kd at_ n A nk c), .pointer none] w (Nil w) := by
  unfold askv
  have hB : Below w.heap.size w ((w.alloc (.cells #[.int .i64 kd, .int .i64 at_, .int .i64 n, .slice A nk c] 37)).alloc (.cells Z0.toArray 39)) := ((Below.refl _ w).alloc (Nat.le_refl _) _).alloc (by simp) _
  have bx := Bx.start w kd at_ n A nk c
  have HBZ := buildZ
  have BX := Lib.hid bx
  clear bx
  go_enter Try.func14, Try.ntmps14
  go_wp2_with fail
  generalize (w.alloc (.cells #[.int .i64 kd, .int .i64 at_, .int .i64 n, .slice A nk c] 37)).alloc (.cells Z0.toArray 39) = W0 at *
  have i39 : (Try.prog.info? 39).map (·.size) = some Z0.length := Try.i39
  have hone := Z0.ok.one
  have hu := Try.underlying39
  have hblk := block_any kd at_ n A nk c
  unfold askv at hblk
  have HBK := Lib.hid hblk
  clear hblk
  have hlZ : Z0.length = 64 := Z0.ok.1
  go_region_held3 (fun w' => w'.cell? ⟨w.heap.size, 0, none⟩ = some (.int .i64 kd) ∧ w'.cell? ⟨w.heap.size, 1, none⟩ = some (.int .i64 at_) ∧ w'.cell? ⟨w.heap.size, 2, none⟩ = some (.int .i64 n) ∧ w'.cell? ⟨w.heap.size, 3, none⟩ = some (.slice A nk c) ∧ w'.there (w.heap.size + 1) 0 64)
    (first | with_reducible exact (((Bx.drew BX.out).below hb1).below hb2).cells | with_reducible exact ((((Bx.drew BX.out).below hb1).below hb2).setZ).cells | with_reducible exact ((Bx.drew BX.out).below hb1).cells | with_reducible exact (Bx.drew BX.out).cells)
    (first
      | (go_at_call 33; refine (HBK.out _).mono ?_; rintro e w1 ⟨rfl, hb1⟩)
      | (go_at_call 32; refine (write_nil at_ (bk n) _).mono ?_; rintro e w2 ⟨rfl, hb2⟩))
  have b2 := ((Bx.drew BX.out).below hb1).below hb2
  have hB2 : Below w.heap.size w w2 := (hB.drew.trans (hb1.mono hB.size)).trans (hb2.mono (Nat.le_trans hB.size hb1.size))
  have FIN := Lib.hid (show Below w.heap.size w (w2.setCells (w.heap.size + 1) 0 Z0) from Below.setCells hB2 (by omega) _ _)
  have kf := Lib.hid b2.setZ.res
  clear b2 hB2 hb1 hb2
  go_wp2
  exact bodyPost_ret (ret_cell_tmp (p := 4) (u := 5) (ty := 39) rfl _ _ (w.heap.size + 1) 39 Z0.toArray _ rfl kf.out Try.underlying39 rfl Try.i39) rfl ⟨rfl, FIN.out⟩

theorem of_nil (kd at_ n : Int) (A : Option Addr) (c : Nat) (ks : List Bool) (w : World) (hk : Bs w w.heap.size A ks) (hl : ks.length ≤ 9223372036854775807) :
    Calls Try.prog 14 #[.agg (askv kd at_ n A ks.length c), .pointer none] w (Nil w) := by
  by_cases h0 : kd = 0
  · subst h0; exact nil0 at_ n A c ks w
  by_cases h1 : kd = 1
  · subst h1; exact nil1 at_ n A c ks w
  by_cases h2 : kd = 2
  · subst h2; exact nil2 at_ n A c ks w hk hl
  by_cases h3 : kd = 3
  · subst h3; exact nil3 at_ n A c ks w
  by_cases h4 : kd = 4
  · subst h4; exact nil4 at_ n A c ks w
  by_cases h5 : kd = 5
  · subst h5; exact nil5 at_ n A c ks w
  exact nil6 kd at_ n A ks.length c w (by simpa using h0) (by simpa using h1) (by simpa using h2) (by simpa using h3) (by simpa using h4) (by simpa using h5)

end Go.Proofs.Ytdhompiapklnaaa
