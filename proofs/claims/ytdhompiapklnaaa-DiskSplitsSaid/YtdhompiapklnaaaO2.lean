/-
  An Ask of a disk.
-/
import Derived.Test.YtdhompiapklnaaaOf
import Derived.Test.YtdhompiapklnaaaD2
namespace Go.Proofs.Ytdhompiapklnaaa
open Go.RowKit
attribute [local go_sem ↓] Try.z39 Go.wp_at_zero Go.wp_at_succ

theorem buildZ (w : World) : (Instr.build 39 #[]).run Try.prog w = .ok (.agg Z0.toArray) w := run_build w 39 _ _ (by kernel_rfl)

/-- What an Ask makes of a disk, its error, its block. -/
def ofS (S : DSt) (kd at_ n : Int) (ks : List Bool) : DSt :=
  if kd = 0 then armSt S n else if kd = 1 then failSt S n else if kd = 2 then crashed S (ks.take 100) else if kd = 3 then syncSt S else if kd = 4 ∨ kd = 5 then askSt S false at_ else writeSt S at_ (bk n)
def ofE (S : DSt) (kd at_ : Int) : Int :=
  if kd = 0 then setErr S else if kd = 1 then setErr S else if kd = 2 then 0 else if kd = 3 then askErr S true 0 else if kd = 4 ∨ kd = 5 then askErr S false at_ else askErr S true at_
def ofB (S : DSt) (kd at_ : Int) : List Value := if kd = 4 ∨ kd = 5 then readB S at_ else Z0

/-- What an Ask leaves. -/
def Ofd (w : World) (base p gs : Nat) (S' : DSt) (er : Int) (B : List Value) (e : Ending) (w' : World) : Prop := e = .returned (.tuple #[.agg B.toArray, .int .i64 er]) ∧ Dk w' base p gs S' ∧ Fr base p gs w w'

theorem ofd_end {w w2 : World} {base p gs rb : Nat} {S' : DSt} {B : List Value} {c : Array Value} (hb : w.heap.size ≤ rb) (hp : p < w.heap.size) (hg : gs < w.heap.size) (k2 : Blk w2 rb 39 c) (d2 : Dk w2 base p gs S') (f2 : Fr base p gs w w2) :
    Dk (w2.setCells rb 0 B) base p gs S' ∧ Fr base p gs w (w2.setCells rb 0 B) := by
  refine ⟨d2.keep (heap_setCells_other _ _ _ _ _ (by omega)) (heap_setCells_other _ _ _ _ _ (by omega)) fun g cur _ hg' => heap_setCells_other _ _ _ _ _ (hg'.ne k2 (by decide)), ?_⟩
  obtain ⟨r1, r2, r3, r4⟩ := setCells_rest B w2 rb 0
  exact f2.grown ⟨r1, r2, r3, Nat.le_of_eq r4.symm, fun k hk hne => heap_setCells_other _ _ _ _ _ (fun e => hne (by rw [e]))⟩ hb

/-- The Ask's box and the result's. -/
structure Bx (w : World) (kd at_ n : Int) (A : Option Addr) (nk c : Nat) (W : World) : Prop where
  box : Blk W w.heap.size 37 #[.int .i64 kd, .int .i64 at_, .int .i64 n, .slice A nk c]
  res : Blk W (w.heap.size + 1) 39 Z0.toArray
theorem Bx.fr {w : World} {kd at_ n : Int} {A : Option Addr} {nk c : Nat} {W W' : World} {base p gs : Nat} (h : Bx w kd at_ n A nk c W) (hf : Fr base p gs W W') (hp : p < w.heap.size) (hg : gs < w.heap.size) : Bx w kd at_ n A nk c W' :=
  ⟨h.box.fr hf (by omega) (by omega) (by decide), h.res.fr hf (by omega) (by omega) (by decide)⟩
theorem Bx.below {w : World} {kd at_ n : Int} {A : Option Addr} {nk c : Nat} {W W' : World} (h : Bx w kd at_ n A nk c W) (hf : Below W.heap.size W W') : Bx w kd at_ n A nk c W' := ⟨h.box.below hf h.box.lt, h.res.below hf h.res.lt⟩
theorem Bx.start (w : World) (kd at_ n : Int) (A : Option Addr) (nk c : Nat) : Bx w kd at_ n A nk c ((w.alloc (.cells #[.int .i64 kd, .int .i64 at_, .int .i64 n, .slice A nk c] 37)).alloc (.cells Z0.toArray 39)) := ⟨(Blk.new w 37 _).alloc _, Blk.new' (w.alloc _) 39 _ (by simp)⟩

set_option maxRecDepth 100000 in
set_option maxHeartbeats 2000000 in
theorem of0 (at_ n : Int) (A : Option Addr) (c : Nat) (ks : List Bool) (w : World) (base p gs : Nat) (S : DSt) (h : Dk w base p gs S) (_hq : S.q.length < 1000000) (hn : n ≤ 9223372036854775807) (_hk : Bs w w.heap.size A ks) (_hl : ks.length ≤ 9223372036854775807) :
    Calls Try.prog 14 #[.agg (askv 0 at_ n A ks.length c), .pointer (some ⟨p, 0, none⟩)] w (Ofd w base p gs (armSt S n) (setErr S) Z0) := by
  unfold askv
  have hp := h.lt
  have hg := h.gs_lt
  have hB : Below w.heap.size w ((w.alloc (.cells #[.int .i64 0, .int .i64 at_, .int .i64 n, .slice A ks.length c] 37)).alloc (.cells Z0.toArray 39)) := ((Below.refl _ w).alloc (Nat.le_refl _) _).alloc (by simp) _
  have bx := Bx.start w 0 at_ n A ks.length c
  have d0 := h.below hB
  have f0 : Fr base p gs w ((w.alloc (.cells #[.int .i64 0, .int .i64 at_, .int .i64 n, .slice A ks.length c] 37)).alloc (.cells Z0.toArray 39)) := Fr.of_below hB
  have HBZ := buildZ
  have HC := Lib.hid (armD n _ base p gs S d0 hn)
  have i39 := Lib.hid (show (Try.prog.info? 39).map (·.size) = some Z0.toArray.size from Try.i39)
  have hone := Lib.hid Z0.ok.one
  have BX := Lib.hid bx
  have D0 := Lib.hid d0
  have F0 := Lib.hid f0
  clear h d0 f0 bx
  go_enter Try.func14, Try.ntmps14
  go_wp2_with fail
  refine HC.out.mono ?_
  rintro e w2 ⟨rfl, d2, f2⟩
  have b2 := BX.out.fr f2 hp hg
  clear HC
  have k2 := b2.res
  have ht := Lib.hid (there_blk k2 Z0.toArray.size (Nat.le_refl _))
  have K2 := Lib.hid k2
  have FIN := Lib.hid (ofd_end (B := Z0) (by omega) hp hg k2 d2 (F0.out.trans f2))
  clear k2 b2 d2 f2
  go_wp2_with ((with_reducible refine at_store (t := 39) ?_); refine wpList_store_mid rfl 39 _ _ rfl (w.heap.size + 1) 0 Z0.toArray rfl rfl ht.out i39.out (all_oneCell_toArray hone.out) ?_)
  have kf := K2.out.setCells 0 Z0
  rw [lay_whole _ _ rfl] at kf
  exact bodyPost_ret (ret_cell_tmp (p := 4) (u := 5) (ty := 39) rfl _ _ (w.heap.size + 1) 39 Z0.toArray _ rfl kf Try.underlying39 rfl i39.out) rfl ⟨rfl, FIN.out⟩

set_option maxRecDepth 100000 in
set_option maxHeartbeats 2000000 in
theorem of1 (at_ n : Int) (A : Option Addr) (c : Nat) (ks : List Bool) (w : World) (base p gs : Nat) (S : DSt) (h : Dk w base p gs S) (_hq : S.q.length < 1000000) (hn : n ≤ 9223372036854775807) (_hk : Bs w w.heap.size A ks) (_hl : ks.length ≤ 9223372036854775807) :
    Calls Try.prog 14 #[.agg (askv 1 at_ n A ks.length c), .pointer (some ⟨p, 0, none⟩)] w (Ofd w base p gs (failSt S n) (setErr S) Z0) := by
  unfold askv
  have hp := h.lt
  have hg := h.gs_lt
  have hB : Below w.heap.size w ((w.alloc (.cells #[.int .i64 1, .int .i64 at_, .int .i64 n, .slice A ks.length c] 37)).alloc (.cells Z0.toArray 39)) := ((Below.refl _ w).alloc (Nat.le_refl _) _).alloc (by simp) _
  have bx := Bx.start w 1 at_ n A ks.length c
  have d0 := h.below hB
  have f0 : Fr base p gs w ((w.alloc (.cells #[.int .i64 1, .int .i64 at_, .int .i64 n, .slice A ks.length c] 37)).alloc (.cells Z0.toArray 39)) := Fr.of_below hB
  have HBZ := buildZ
  have HC := Lib.hid (failD n _ base p gs S d0 hn)
  have i39 := Lib.hid (show (Try.prog.info? 39).map (·.size) = some Z0.toArray.size from Try.i39)
  have hone := Lib.hid Z0.ok.one
  have BX := Lib.hid bx
  have D0 := Lib.hid d0
  have F0 := Lib.hid f0
  clear h d0 f0 bx
  go_enter Try.func14, Try.ntmps14
  go_wp2_with fail
  refine HC.out.mono ?_
  rintro e w2 ⟨rfl, d2, f2⟩
  have b2 := BX.out.fr f2 hp hg
  clear HC
  have k2 := b2.res
  have ht := Lib.hid (there_blk k2 Z0.toArray.size (Nat.le_refl _))
  have K2 := Lib.hid k2
  have FIN := Lib.hid (ofd_end (B := Z0) (by omega) hp hg k2 d2 (F0.out.trans f2))
  clear k2 b2 d2 f2
  go_wp2_with ((with_reducible refine at_store (t := 39) ?_); refine wpList_store_mid rfl 39 _ _ rfl (w.heap.size + 1) 0 Z0.toArray rfl rfl ht.out i39.out (all_oneCell_toArray hone.out) ?_)
  have kf := K2.out.setCells 0 Z0
  rw [lay_whole _ _ rfl] at kf
  exact bodyPost_ret (ret_cell_tmp (p := 4) (u := 5) (ty := 39) rfl _ _ (w.heap.size + 1) 39 Z0.toArray _ rfl kf Try.underlying39 rfl i39.out) rfl ⟨rfl, FIN.out⟩

set_option maxRecDepth 100000 in
set_option maxHeartbeats 2000000 in
theorem of3 (at_ n : Int) (A : Option Addr) (c : Nat) (ks : List Bool) (w : World) (base p gs : Nat) (S : DSt) (h : Dk w base p gs S) (hq : S.q.length < 1000000) (_hn : n ≤ 9223372036854775807) (_hk : Bs w w.heap.size A ks) (_hl : ks.length ≤ 9223372036854775807) :
    Calls Try.prog 14 #[.agg (askv 3 at_ n A ks.length c), .pointer (some ⟨p, 0, none⟩)] w (Ofd w base p gs (syncSt S) (askErr S true 0) Z0) := by
  unfold askv
  have hp := h.lt
  have hg := h.gs_lt
  have hB : Below w.heap.size w ((w.alloc (.cells #[.int .i64 3, .int .i64 at_, .int .i64 n, .slice A ks.length c] 37)).alloc (.cells Z0.toArray 39)) := ((Below.refl _ w).alloc (Nat.le_refl _) _).alloc (by simp) _
  have bx := Bx.start w 3 at_ n A ks.length c
  have d0 := h.below hB
  have f0 : Fr base p gs w ((w.alloc (.cells #[.int .i64 3, .int .i64 at_, .int .i64 n, .slice A ks.length c] 37)).alloc (.cells Z0.toArray 39)) := Fr.of_below hB
  have HBZ := buildZ
  have HC := Lib.hid (sync_any _ base p gs S d0 (by omega))
  have i39 := Lib.hid (show (Try.prog.info? 39).map (·.size) = some Z0.toArray.size from Try.i39)
  have hone := Lib.hid Z0.ok.one
  have BX := Lib.hid bx
  have D0 := Lib.hid d0
  have F0 := Lib.hid f0
  clear h d0 f0 bx
  go_enter Try.func14, Try.ntmps14
  go_wp2_with fail
  refine HC.out.mono ?_
  rintro e w2 ⟨rfl, d2, f2⟩
  have b2 := BX.out.fr f2 hp hg
  clear HC
  have k2 := b2.res
  have ht := Lib.hid (there_blk k2 Z0.toArray.size (Nat.le_refl _))
  have K2 := Lib.hid k2
  have FIN := Lib.hid (ofd_end (B := Z0) (by omega) hp hg k2 d2 (F0.out.trans f2))
  clear k2 b2 d2 f2
  go_wp2_with ((with_reducible refine at_store (t := 39) ?_); refine wpList_store_mid rfl 39 _ _ rfl (w.heap.size + 1) 0 Z0.toArray rfl rfl ht.out i39.out (all_oneCell_toArray hone.out) ?_)
  have kf := K2.out.setCells 0 Z0
  rw [lay_whole _ _ rfl] at kf
  exact bodyPost_ret (ret_cell_tmp (p := 4) (u := 5) (ty := 39) rfl _ _ (w.heap.size + 1) 39 Z0.toArray _ rfl kf Try.underlying39 rfl i39.out) rfl ⟨rfl, FIN.out⟩

set_option maxRecDepth 100000 in
set_option maxHeartbeats 2000000 in
theorem of2 (at_ n : Int) (A : Option Addr) (c : Nat) (ks : List Bool) (w : World) (base p gs : Nat) (S : DSt) (h : Dk w base p gs S) (hq : S.q.length < 1000000) (_hn : n ≤ 9223372036854775807) (hk : Bs w w.heap.size A ks) (hl : ks.length ≤ 9223372036854775807) :
    Calls Try.prog 14 #[.agg (askv 2 at_ n A ks.length c), .pointer (some ⟨p, 0, none⟩)] w (Ofd w base p gs (crashed S (ks.take 100)) (0) Z0) := by
  unfold askv
  have hp := h.lt
  have hg := h.gs_lt
  have hB : Below w.heap.size w ((w.alloc (.cells #[.int .i64 2, .int .i64 at_, .int .i64 n, .slice A ks.length c] 37)).alloc (.cells Z0.toArray 39)) := ((Below.refl _ w).alloc (Nat.le_refl _) _).alloc (by simp) _
  have bx := Bx.start w 2 at_ n A ks.length c
  have d0 := h.below hB
  have f0 : Fr base p gs w ((w.alloc (.cells #[.int .i64 2, .int .i64 at_, .int .i64 n, .slice A ks.length c] 37)).alloc (.cells Z0.toArray 39)) := Fr.of_below hB
  have HBZ := buildZ
  have HK := Lib.hid (keep_any 2 at_ n A c ks _ ((hk.below hB).more hB.size) hl)
  unfold askv at HK
  have hlk : (ks.take 100).length ≤ 9223372036854775807 := by rw [List.length_take]; omega
  generalize ks.take 100 = K1 at *
  have i39 := Lib.hid (show (Try.prog.info? 39).map (·.size) = some Z0.toArray.size from Try.i39)
  have hone := Lib.hid Z0.ok.one
  have BX := Lib.hid bx
  have D0 := Lib.hid d0
  have F0 := Lib.hid f0
  clear h d0 f0 bx hk
  go_enter Try.func14, Try.ntmps14
  go_wp2_with fail
  refine HK.out.mono ?_
  rintro e w1 ⟨v, rfl, hrow, hB1⟩
  obtain ⟨A1, c1, rfl, hkb⟩ := hrow.kb (b' := base)
  have d1 := D0.out.below hB1
  have b1 := BX.out.below hB1
  have HC := Lib.hid (crash_any w1 base p gs S A1 c1 K1 d1 (by omega) hkb hlk)
  have F1 := Lib.hid (show Fr base p gs _ w1 from Fr.of_below hB1)
  clear HK d1 hB1 hrow hkb hlk
  go_wp2_with fail
  refine HC.out.mono ?_
  rintro e w2 ⟨rfl, d2, f2'⟩
  have b2 := b1.fr f2' hp hg
  have f2 := F1.out.trans f2'
  clear HC f2' F1 b1
  have k2 := b2.res
  have ht := Lib.hid (there_blk k2 Z0.toArray.size (Nat.le_refl _))
  have K2 := Lib.hid k2
  have FIN := Lib.hid (ofd_end (B := Z0) (by omega) hp hg k2 d2 (F0.out.trans f2))
  clear k2 b2 d2 f2
  go_wp2_with ((with_reducible refine at_store (t := 39) ?_); refine wpList_store_mid rfl 39 _ _ rfl (w.heap.size + 1) 0 Z0.toArray rfl rfl ht.out i39.out (all_oneCell_toArray hone.out) ?_)
  have kf := K2.out.setCells 0 Z0
  rw [lay_whole _ _ rfl] at kf
  exact bodyPost_ret (ret_cell_tmp (p := 4) (u := 5) (ty := 39) rfl _ _ (w.heap.size + 1) 39 Z0.toArray _ rfl kf Try.underlying39 rfl i39.out) rfl ⟨rfl, FIN.out⟩

end Go.Proofs.Ytdhompiapklnaaa
