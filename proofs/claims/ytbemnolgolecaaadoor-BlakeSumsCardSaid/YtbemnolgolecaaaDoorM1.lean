/-
  The document's own Turned, Mix, Digit, Start.
-/
import Derived.Test.YtbemnolgolecaaaDoorB3
import Derived.Test.YtbemnolgolecaaaDoorB1
namespace Go.Proofs.YtbemnolgolecaaaDoor
open Go.RowKit

theorem turned_any (x : BitVec 32) (n : Nat) (N : Int) (hN : N = (n : Int)) (h0 : 0 < n) (h1 : n < 32) (w : World) :
    Calls Tryd.prog 34 #[.int .u32 (tn x : Int), .int .i64 N] w fun e w' => e = .returned (.int .u32 (tn (rr x n) : Int)) ∧ ∃ k, w' = w.drewN k := by
  subst hN
  have hx := tn_lt x
  have hs : Hid (bits .or .u32 ((tn x : Int) / 2 ^ n) (((tn x : Int) * 2 ^ (32 - n)) % 4294967296) = (tn (rr x n) : Int)) := by
    show _ = _
    rw [tn_shr, tn_shl, tn_or]
    rfl
  go_enter Tryd.func34, Tryd.ntmps34
  go_wp2
  go_quiet (fail)
  go_wp2
  go_ret
  exact ⟨ret_int hs.out, _, rfl⟩
theorem turned_xor {w W : World} {g : Nat} (h : MW w g W) (x y : Int) (n : Nat) (N : Int) (hN : N = (n : Int)) (h0 : 0 < n) (h1 : n < 32) :
    Calls Tryd.prog 34 #[.int .u32 (bits .xor .u32 x y), .int .i64 N] W fun e w' => e = .returned (.int .u32 (tn (rr (bv x ^^^ bv y) n) : Int)) ∧ MW w g w' := by
  rw [xor_bv]
  exact (turned_any _ n N hN h0 h1 W).mono fun e w' ⟨he, k, hw⟩ => ⟨he, by rw [hw]; exact h.drewN k⟩
theorem turned_tn {w W : World} {g : Nat} (h : MW w g W) (x : BitVec 32) (n : Nat) (N : Int) (hN : N = (n : Int)) (h0 : 0 < n) (h1 : n < 32) :
    Calls Tryd.prog 34 #[.int .u32 (tn x : Int), .int .i64 N] W fun e w' => e = .returned (.int .u32 (tn (rr x n) : Int)) ∧ MW w g w' :=
  (turned_any _ n N hN h0 h1 W).mono fun e w' ⟨he, k, hw⟩ => ⟨he, by rw [hw]; exact h.drewN k⟩

set_option maxRecDepth 100000 in
set_option maxHeartbeats 2000000 in
theorem refmix_any (q : Q) (x y : BitVec 32) (w : World) :
    Calls Tryd.prog 16 #[q.v, .int .u32 (tn x : Int), .int .u32 (tn y : Int)] w (Mixes w (mixQ q x y)) := by
  obtain ⟨a, b, c, d⟩ := q
  unfold Q.v
  dsimp only
  have m0 := (MW.mk0 w #[.int .u32 (tn a), .int .u32 (tn b), .int .u32 (tn c), .int .u32 (tn d)])
  go_enter Tryd.func16, Tryd.ntmps16
  go_wp2
  go_quiet (fail)
  go_wp2_with fail
  replace m0 := m0.drewN nq
  generalize (((w.alloc (.cells #[.int .u32 (tn a), .int .u32 (tn b), .int .u32 (tn c), .int .u32 (tn d)] 33)).alloc (.cells #[.int .u32 0, .int .u32 0, .int .u32 0, .int .u32 0] 33)).drewN nq) = W at *
  ((with_reducible first | refine (turned_xor m0 _ _ 16 16 rfl (by omega) (by omega)).mono ?_ | refine (turned_tn m0 _ 16 16 rfl (by omega) (by omega)).mono ?_))
  rintro e w1 ⟨rfl, m1⟩
  clear m0
  go_wp2_with fail
  ((with_reducible first | refine (turned_xor m1 _ _ 12 12 rfl (by omega) (by omega)).mono ?_ | refine (turned_tn m1 _ 12 12 rfl (by omega) (by omega)).mono ?_))
  rintro e w2 ⟨rfl, m2⟩
  clear m1
  go_wp2_with fail
  ((with_reducible first | refine (turned_xor m2 _ _ 8 8 rfl (by omega) (by omega)).mono ?_ | refine (turned_tn m2 _ 8 8 rfl (by omega) (by omega)).mono ?_))
  rintro e w3 ⟨rfl, m3⟩
  clear m2
  go_wp2_with fail
  ((with_reducible first | refine (turned_xor m3 _ _ 7 7 rfl (by omega) (by omega)).mono ?_ | refine (turned_tn m3 _ 7 7 rfl (by omega) (by omega)).mono ?_))
  rintro e w4 ⟨rfl, m4⟩
  clear m3
  obtain ⟨c0, hb0, hs0⟩ := m4.blk
  have HM := Lib.hid m4
  have HB0 := Lib.hid hb0
  have HS0 := Lib.hid hs0
  clear m4 hb0 hs0
  go_wp2_with ((with_reducible refine at_store (t := 33) ?_); refine wpList_store_blk _ rfl 33 _ _ rfl _ c0 33 [.int .u32 _, .int .u32 _, .int .u32 _, .int .u32 _] rfl rfl HB0.out (by rw [HS0.out]; rfl) Tryd.i33 (Q.one _ _ _ _) ?_; intro w9 hb9 ho9)
  refine bodyPost_ret (results_cell_row (p := 6) (ty := 33) rfl _ _ (w.heap.size + 1) 33 _ (0, 0) _ rfl hb9 Tryd.underlying33 rfl Tryd.i33) rfl ?_
  refine Mixes.mk' HM.out ho9 ?_ ?_ ?_ ?_
  all_goals
    (try rw [mod_tn])
    simp only [bv_mod, bv_add, bv_tn, mixQ, half, BitVec.add_assoc]

/-- The document's Digit. -/
def dgF (c : Int) : Int := if 48 ≤ c ∧ c ≤ 57 then c - 48 else if 97 ≤ c ∧ c ≤ 102 then c - 97 + 10 else -1
set_option linter.unusedSimpArgs false in
set_option maxHeartbeats 1000000 in
theorem digit_any (c : Int) (h0 : 0 ≤ c) (h1 : c ≤ 255) (w : World) : Calls Tryd.prog 18 #[.int .u8 c] w fun e w' => e = .returned (.int .i64 (dgF c)) ∧ w = w' := by
  unfold dgF
  by_cases a0 : 48 ≤ c <;> by_cases a1 : c ≤ 57 <;> by_cases a2 : 97 ≤ c <;> by_cases a3 : c ≤ 102 <;>
    first
    | omega
    | (simp only [a0, a1, a2, a3, and_true, and_false, and_self, if_true, if_false]
       go_enter Tryd.func18, Tryd.ntmps18
       go_wp2
       go_ret
       exact ⟨rfl, rfl⟩)

set_option maxRecDepth 100000 in
theorem refstart_any (w : World) : Calls Tryd.prog 21 #[] w fun e w' => e = .returned (.agg (UL startL).toArray) ∧ Below w.heap.size w w' := by
  have hu : (UL startL).toArray = #[.int .u32 1779033703, .int .u32 3144134277, .int .u32 1013904242, .int .u32 2773480762, .int .u32 1359893119, .int .u32 2600822924, .int .u32 528734635, .int .u32 1541459225] := by kernel_rfl
  have HU := Lib.hid hu
  clear hu
  go_enter Tryd.func21, Tryd.ntmps21
  go_wp2_with fail
  rw [HU.out]
  exact bodyPost_ret (results_cell_row (p := 0) (ty := 42) rfl _ _ w.heap.size 42 _ (0, 0) _ rfl (Blk.new w 42 _) Tryd.underlying42 rfl Tryd.i42) rfl ⟨rfl, (Below.refl _ w).alloc (Nat.le_refl _) _⟩

end Go.Proofs.YtbemnolgolecaaaDoor
