/-
  The program's Append.
-/
import Derived.Test.YtmgaihdepglahaaN8
import Derived.Test.YtmgaihdepglahaaK1
namespace Go.Proofs.Ytmgaihdepglahaa
open Go.RowKit

theorem one_es {w : World} {B g : Nat} {x : Ec} (hx : x.raw w B) (hd : x.n ≤ 100000) (hg : Blk w g 54 #[.int .u64 x.t, .int .i64 x.k, .slice x.A x.n x.c]) (hB : g < B) : Es w B (some ⟨g, 0, none⟩) 1 [x.en] := by
  refine ⟨[x], rfl, rfl, fun y hy => ?_, fun _ => ⟨g, 0, rfl, hB, fun j v hj => ?_⟩⟩
  · rw [List.mem_singleton] at hy
    subst hy
    exact ⟨hx.by_, hx.nc, hx.nil, hd, hx.t0, hx.t1⟩
  · rw [Nat.zero_add, hg.cell, List.getElem?_toArray]
    exact hj

theorem Only.two {g : Nat} {a b c : World} (h : Only g a b) (k : Only g b c) : Only g a c := ⟨k.os.trans h.os, k.tape.trans h.tape, k.output.trans h.output, k.size.trans h.size, fun i hi => (k.block i hi).trans (h.block i hi)⟩
theorem set2_only (w : World) (g : Nat) (a b : Value) : Only g w ((w.setCell ⟨g, 0, none⟩ a).setCell ⟨g, 1, none⟩ b) := (setCell_only w g 0 a).two (setCell_only _ g 1 b)

set_option linter.unusedSimpArgs false in
set_option maxRecDepth 100000 in
set_option maxHeartbeats 4000000 in
theorem Append_any (l : Lg) (A : Option Addr) (n c B : Nat) (x : Ec) (w : World) (h : Lr w B A n c l) (hB : B ≤ w.heap.size) (hx : x.raw w B) (hd : x.n ≤ 100000) :
    Calls Try.prog 27 #[.agg #[.int .u64 l.bi, .int .u64 l.bt, .slice A n c], .agg #[.int .u64 x.t, .int .i64 x.k, .slice x.A x.n x.c]] w (Lgx w (pExtL l [x.en]) (pExtI l [x.en]) (pExtT l [x.en]) (pExtE l [x.en])) := by
  obtain ⟨g, hg⟩ : ∃ g, w.heap.size = g := ⟨_, rfl⟩
  have HB1 : Below g w (((((w.alloc (.cells #[.int .u64 l.bi, .int .u64 l.bt, .slice A n c] 27)).alloc (.cells #[.int .u64 x.t, .int .i64 x.k, .slice x.A x.n x.c] 54)).alloc (.cells #[.int .u64 0, .int .u64 0, .slice none 0 0] 27)).alloc (.cells #[.int .u64 0, .int .u64 0] 24)).alloc (.cells #[.int .u64 x.t, .int .i64 x.k, .slice x.A x.n x.c] 54)) := hg ▸ (((((Below.refl _ _).alloc (Nat.le_refl _) _).alloc (by simp) _).alloc (by simp; omega) _).alloc (by simp; omega) _).alloc (by simp; omega) _
  have B4 : Blk (((((w.alloc (.cells #[.int .u64 l.bi, .int .u64 l.bt, .slice A n c] 27)).alloc (.cells #[.int .u64 x.t, .int .i64 x.k, .slice x.A x.n x.c] 54)).alloc (.cells #[.int .u64 0, .int .u64 0, .slice none 0 0] 27)).alloc (.cells #[.int .u64 0, .int .u64 0] 24)).alloc (.cells #[.int .u64 x.t, .int .i64 x.k, .slice x.A x.n x.c] 54)) (g + 2) 27 #[.int .u64 0, .int .u64 0, .slice none 0 0] := hg ▸ ((Blk.fresh (by simp)).alloc _).alloc _
  have B5 : Blk (((((w.alloc (.cells #[.int .u64 l.bi, .int .u64 l.bt, .slice A n c] 27)).alloc (.cells #[.int .u64 x.t, .int .i64 x.k, .slice x.A x.n x.c] 54)).alloc (.cells #[.int .u64 0, .int .u64 0, .slice none 0 0] 27)).alloc (.cells #[.int .u64 0, .int .u64 0] 24)).alloc (.cells #[.int .u64 x.t, .int .i64 x.k, .slice x.A x.n x.c] 54)) (g + 3) 24 #[.int .u64 0, .int .u64 0] := hg ▸ (Blk.fresh (by simp)).alloc _
  have B9 : Blk (((((w.alloc (.cells #[.int .u64 l.bi, .int .u64 l.bt, .slice A n c] 27)).alloc (.cells #[.int .u64 x.t, .int .i64 x.k, .slice x.A x.n x.c] 54)).alloc (.cells #[.int .u64 0, .int .u64 0, .slice none 0 0] 27)).alloc (.cells #[.int .u64 0, .int .u64 0] 24)).alloc (.cells #[.int .u64 x.t, .int .i64 x.k, .slice x.A x.n x.c] 54)) (g + 4) 54 #[.int .u64 x.t, .int .i64 x.k, .slice x.A x.n x.c] := hg ▸ Blk.fresh (by simp)
  have hs : (((((w.alloc (.cells #[.int .u64 l.bi, .int .u64 l.bt, .slice A n c] 27)).alloc (.cells #[.int .u64 x.t, .int .i64 x.k, .slice x.A x.n x.c] 54)).alloc (.cells #[.int .u64 0, .int .u64 0, .slice none 0 0] 27)).alloc (.cells #[.int .u64 0, .int .u64 0] 24)).alloc (.cells #[.int .u64 x.t, .int .i64 x.k, .slice x.A x.n x.c] 54)).heap.size = g + 5 := by simp; omega
  have EX := Extend_any l A n c (g + 5) (((((w.alloc (.cells #[.int .u64 l.bi, .int .u64 l.bt, .slice A n c] 27)).alloc (.cells #[.int .u64 x.t, .int .i64 x.k, .slice x.A x.n x.c] 54)).alloc (.cells #[.int .u64 0, .int .u64 0, .slice none 0 0] 27)).alloc (.cells #[.int .u64 0, .int .u64 0] 24)).alloc (.cells #[.int .u64 x.t, .int .i64 x.k, .slice x.A x.n x.c] 54)) ((h.below (HB1.mono (by omega))).more (by omega)) (by omega) (some ⟨g + 4, 0, none⟩) 1 1 [x.en] (one_es ((hx.below (HB1.mono (by omega))).more (by omega)) hd B9 (by omega)) (by omega)
  have EXH := Lib.hid EX
  have HB1' := Lib.hid HB1
  have B4' := Lib.hid B4
  have B5' := Lib.hid B5
  clear EX HB1 B4 B5 B9 hs h hx hd
  go_enter Try.func27, Try.ntmps27
  go_wp2_with fail
  refine EXH.out.mono ?_
  ( rintro e w2 ⟨A2, n2, c2, rfl, ho, hb⟩; have B42 := B4'.out.below hb B4'.out.lt; have B52 := B5'.out.below hb B5'.out.lt; have x0 := B42.frozen 0; have x1 := B42.frozen 1; have x2 := B42.frozen 2; have y0 := B52.frozen 0; have y1 := B52.frozen 1; have u0 := B42.cell 0; have u1 := B42.cell 1; have u2 := B42.cell 2; have v0 := B52.cell 0; have v1 := B52.cell 1)
  have hgs := HB1'.out.size
  rw [hg] at hgs
  have HB2 := HB1'.out.trans (hb.mono hgs)
  obtain ⟨k4, k5, kb⟩ := set5 B42 B52 HB2 (by omega) (by omega) (by omega) (a := .int .u64 (pExtL l [x.en]).bi) (b := .int .u64 (pExtL l [x.en]).bt) (c := .slice A2 n2 c2) (d := .int .u64 (pExtI l [x.en])) (e := .int .u64 (pExtT l [x.en]))
  have HO := Lib.hid ((ho.down hgs))
  clear hb ho hgs
  go_wp2
  exact bodyPost_ret (ret27x rfl _ _ (g + 2) (g + 3) _ _ _ _ _ _ rfl rfl rfl k4 k5) rfl ⟨A2, n2, c2, rfl, by rw [hg]; exact (HO.out.only27 B42 (set3_only _ _ _ _ _)).only ((set3_only _ (g + 2) _ _ _).keep B52 (by omega)) (by decide) (by decide) (set2_only _ _ _ _), by rw [hg]; exact kb⟩

end Go.Proofs.Ytmgaihdepglahaa
