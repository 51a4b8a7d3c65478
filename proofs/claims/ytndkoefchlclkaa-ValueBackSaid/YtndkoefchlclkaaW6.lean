/-
  The program's Decode.
-/
import Derived.Test.YtndkoefchlclkaaW5
import Derived.StillTailTactics
namespace Go.Proofs.Ytndkoefchlclkaa
open Go.RowKit
attribute [local go_sem ↓] eqV neV eqG

theorem ret_cell_two {P : Program} {fn : Func} {p u v : Tmp} {ty : TypeId} (h : fn.results = #[.cell p ty, .tmp u, .tmp v]) (tmps : Array Value) (w : World) (g : Nat) (t : TypeId) (cs : Array Value) (d : TypeDesc)
    (hp : tmps.getD p undef = .pointer (some ⟨g, 0, none⟩)) (hg : Blk w g t cs) (hu : P.underlying ty = some d) (hd : (match d with | .struct _ | .array _ _ => true | _ => false) = true) (hi : (P.info? ty).map (·.size) = some cs.size) :
    (results fn tmps).run P w = .ok (.tuple #[.agg cs, tmps.getD u undef, tmps.getD v undef]) w := by
  have hp' : tmps[p]?.getD undef = .pointer (some ⟨g, 0, none⟩) := by simpa using hp
  simp [results, h, hp', asAddr, run_loadVar_row w g t ty cs (0, 0) d hg hu hd hi]

/-- What Decode answers. -/
def DR (w0 : World) (D : Int × Int × ByteArray × Int × Int) (e : Ending) (w : World) : Prop :=
  e = .returned (.tuple #[.agg #[.int .i64 D.1, .int .i64 D.2.1, .string D.2.2.1], .int .i64 D.2.2.2.1, .int .i64 D.2.2.2.2]) ∧ Below w0.heap.size w0 w

set_option maxRecDepth 100000 in
set_option maxHeartbeats 2000000 in
theorem decode_any (A : Option Addr) (n c : Nat) (zs : List Int) (w : World) (hb : By w w.heap.size A n zs) (hnc : n ≤ c) (hn : n ≤ 100000) :
    Calls Try.prog 31 #[.slice A n c] w (DR w (decF zs)) := by
  have G0 : Hid (Blk (w.alloc (.cells #[.int .i64 0, .int .i64 0, .string { data := #[] }] 23)) w.heap.size 23 #[.int .i64 0, .int .i64 0, .string { data := #[] }]) := Blk.new _ _ _
  have B0 : Hid (Below w.heap.size w (w.alloc (.cells #[.int .i64 0, .int .i64 0, .string { data := #[] }] 23))) := (Below.refl _ w).alloc (Nat.le_refl _) _
  have HB : Hid (By (w.alloc (.cells #[.int .i64 0, .int .i64 0, .string { data := #[] }] 23)) (w.alloc (.cells #[.int .i64 0, .int .i64 0, .string { data := #[] }] 23)).heap.size A n zs) := (hb.alloc (Nat.le_refl _) _).more (by simp)
  have i3 := Lib.hid i23
  have HN : Hid (w.heap.size ≤ w.heap.size) := Nat.le_refl _
  have HNC := Lib.hid hnc
  have HS := Lib.hid hn
  clear hb hnc hn
  generalize hD : decF zs = D
  have HD := Lib.hid hD
  clear hD
  go_enter Try.func31, Try.ntmps31
  go_upto_region 1 with (fail)
  generalize w.alloc (.cells #[.int .i64 0, .int .i64 0, .string { data := #[] }] 23) = W0 at *
  go_wp2_with fail
  refine (read_new A n c W0).mono ?_
  rintro e w1 ⟨rfl, hr1, hb1⟩
  have NP : Hid (w.heap.size ≠ W0.heap.size) := show _ ≠ _ by have := G0.out.lt; omega
  have G1 := Lib.hid (G0.out.below hb1 G0.out.lt)
  have B1 := Lib.hid (B0.out.trans (hb1.mono B0.out.size))
  have T1 : Hid (TW w1 W0.heap.size n c A zs 0 0 w1) := ⟨hr1, HB.out.below hb1, World.grownBy.refl _ _, hr1.lt, Nat.zero_le _, HNC.out, HS.out⟩
  have LP : Hid (w.heap.size ≤ W0.heap.size) := B0.out.size
  clear hr1 hb1 G0 B0 HB
  generalize W0.heap.size = p at *
  go_wp2_with fail
  refine (take_any p n c A zs w1 T1.out).mono ?_
  rintro e w2 ⟨K, N, S, ok, k, er, rfl, ht, hc⟩
  have G2 := Lib.hid (G1.out.kept ht NP.out)
  have hgr : Below w.heap.size w1 w2 := ⟨ht.gr.os, ht.gr.tape, ht.gr.output, ht.gr.size, fun i hi => ht.gr.block i (Nat.lt_of_lt_of_le hi B1.out.size) (fun e => by injection e with e; have := LP.out; omega)⟩
  have B2 := Lib.hid (B1.out.trans hgr)
  have T2 := Lib.hid ht
  have LQ : Hid (w.heap.size < w2.heap.size) := G2.out.lt
  rw [HD.out] at hc
  have HC := Lib.hid hc
  clear hc hgr ht G1 B1
  go_upto_region 3 with (fail)
  have V3 : Hid (Blk (w2.alloc (.cells #[.int .i64 K, .int .i64 N, .string S] 23)) w2.heap.size 23 #[.int .i64 K, .int .i64 N, .string S]) := Blk.new _ _ _
  have G3 := Lib.hid (G2.out.alloc (.cells #[.int .i64 K, .int .i64 N, .string S] 23))
  have T3 := Lib.hid (T2.out.alloc (.cells #[.int .i64 K, .int .i64 N, .string S] 23))
  have B3 := Lib.hid (B2.out.alloc (Nat.le_of_lt LQ.out) (.cells #[.int .i64 K, .int .i64 N, .string S] 23))
  clear G2 T2 B2
  generalize w2.alloc (.cells #[.int .i64 K, .int .i64 N, .string S] 23) = w3 at *
  generalize w2.heap.size = q at *
  have g0 : _ = some (Value.int .i64 0) := G3.out.cell 0
  have g1 : _ = some (Value.int .i64 0) := G3.out.cell 1
  have g2 : _ = some (Value.string { data := #[] }) := G3.out.cell 2
  have q0 := G3.out.frozen 0
  have q1 := G3.out.frozen 1
  have q2 := G3.out.frozen 2
  rcases HC.out with ⟨rfl, rfl⟩ | ⟨rfl, rfl, rfl⟩ | ⟨rfl, rfl, rfl⟩
  · clear HC
    go_wp2_with (go_at_call 57; refine (err_any _ _ _ _ _ _ _ T3.out.rd).mono ?_; rintro e w' ⟨rfl, rfl⟩)
    exact bodyPost_ret (ret_cell_two (p := 2) (u := 3) (v := 4) (ty := 23) rfl _ _ w.heap.size 23 #[.int .i64 0, .int .i64 0, .string E0] _ rfl (((G3.out.set_ 0 (.int .i64 0)).set_ 1 (.int .i64 0)).set_ 2 (.string E0)) Try.underlying23 rfl i3.out) rfl ⟨rfl, ((B3.out.setCell HN.out _).setCell HN.out _).setCell HN.out _⟩
  · clear HC
    go_wp2_with (go_at_call 57; refine (err_any _ _ _ _ _ _ _ T3.out.rd).mono ?_; rintro e w' ⟨rfl, rfl⟩)
    exact bodyPost_ret (ret_cell_two (p := 2) (u := 3) (v := 4) (ty := 23) rfl _ _ w.heap.size 23 #[.int .i64 0, .int .i64 0, .string E0] _ rfl (((G3.out.set_ 0 (.int .i64 0)).set_ 1 (.int .i64 0)).set_ 2 (.string E0)) Try.underlying23 rfl i3.out) rfl ⟨rfl, ((B3.out.setCell HN.out _).setCell HN.out _).setCell HN.out _⟩
  · clear HC
    have c0 := V3.out.cell 0
    have c1 := V3.out.cell 1
    have c2 := V3.out.cell 2
    go_wp2_with (go_at_call 57; refine (err_any _ _ _ _ _ _ _ T3.out.rd).mono ?_; rintro e w' ⟨rfl, rfl⟩)
    refine wp_region_still_tail 3 (by kernel_rfl) (by kernel_rfl) ?_
    simp only [List.take_succ_cons, List.take_zero, List.drop_succ_cons, List.drop_zero]
    still_step
    still_step
    still_call ((at_any p k 0 A n c w3.drew T3.out.rd).mono (fun _ _ h => ⟨h.1, h.2.symm⟩))
    refine wpStill_nil ?_
    have B4 := Lib.hid B3.out.drew
    have G4 : Hid (Blk w3.drew w.heap.size 23 #[.int .i64 0, .int .i64 0, .string { data := #[] }]) := G3.out
    clear c0 c1 c2 g0 g1 g2 q0 q1 q2
    change wpList _ _ _ _ _ w3.drew
    generalize w3.drew = w4 at *
    have g0 : _ = some (Value.int .i64 0) := G4.out.cell 0
    have g1 : _ = some (Value.int .i64 0) := G4.out.cell 1
    have g2 : _ = some (Value.string { data := #[] }) := G4.out.cell 2
    have q0 := G4.out.frozen 0
    have q1 := G4.out.frozen 1
    have q2 := G4.out.frozen 2
    go_wp2
    exact bodyPost_ret (ret_cell_two (p := 2) (u := 3) (v := 4) (ty := 23) rfl _ _ w.heap.size 23 #[.int .i64 K, .int .i64 N, .string S] _ rfl (((G4.out.set_ 0 (.int .i64 K)).set_ 1 (.int .i64 N)).set_ 2 (.string S)) Try.underlying23 rfl i3.out) rfl ⟨rfl, ((B4.out.setCell HN.out _).setCell HN.out _).setCell HN.out _⟩

end Go.Proofs.Ytndkoefchlclkaa
