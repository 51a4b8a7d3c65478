/-
  Several texts in one: BkB1, BkM1.
-/
import Derived.Test.YtemfnckaehjhcaaDoorBkA
/-
  What Mix and Unmix answer.
-/
namespace Go.Proofs.YtemfnckaehjhcaaDoor.Bk
open Go.RowKit

theorem binAdd (t : TypeId) (x y : BitVec 32) : binOp .add t (.int .u32 (tn x : Int)) (.int .u32 (tn y : Int)) = pure (.int .u32 (tn (x + y) : Int)) := by
  rw [binOp_add]
  show pure (Value.int .u32 (IntKind.u32.wrap ((tn x : Int) + (tn y : Int)))) = _
  rw [tn_add]
theorem binSub (t : TypeId) (x y : BitVec 32) : binOp .sub t (.int .u32 (tn x : Int)) (.int .u32 (tn y : Int)) = pure (.int .u32 (tn (x - y) : Int)) := by
  rw [binOp_sub]
  show pure (Value.int .u32 (IntKind.u32.wrap ((tn x : Int) - (tn y : Int)))) = _
  rw [tn_sub]
theorem binXor (t : TypeId) (x y : BitVec 32) : binOp .xor t (.int .u32 (tn x : Int)) (.int .u32 (tn y : Int)) = pure (.int .u32 (tn (x ^^^ y) : Int)) := by
  rw [binOp_xor, intBits_xor, tn_xor]
attribute [local go_sem ↓] binAdd binSub binXor

def U (x : BitVec 32) : Value := .int .u32 (tn x : Int)
def Q.v (q : Q) : Value := .agg #[.int .u32 (tn q.a), .int .u32 (tn q.b), .int .u32 (tn q.c), .int .u32 (tn q.d)]

theorem turn_any (x : BitVec 32) (n : Nat) (h0 : 0 < n) (h1 : n < 32) (w : World) :
    Calls Tryd.prog 124 #[.int .u32 (tn x : Int), .int .i64 (n : Int), .int .i64 32] w fun e w' => e = .returned (.int .u32 (tn (rr x n) : Int)) ∧ ∃ k, w' = w.drewN k := by
  have hx := tn_lt x
  have hs : Hid (bits .or .u32 ((tn x : Int) / 2 ^ n) (((tn x : Int) * 2 ^ (32 - n)) % 4294967296) = (tn (rr x n) : Int)) := by
    show _ = _
    rw [tn_shr, tn_shl, tn_or]
    rfl
  go_enter Tryd.func124, Tryd.ntmps124
  go_wp2
  go_quiet (fail)
  go_wp2
  go_ret
  exact ⟨ret_int hs.out, _, rfl⟩

theorem there_any (n : Nat) (w : World) : Calls Tryd.prog 121 #[.int .i64 (n : Int)] w fun e w' => e = .returned (.func (.func 123) #[] #[.pointer (some ⟨w.heap.size, 0, none⟩)]) ∧ w' = w.alloc (.cells #[.int .i64 (n : Int)] 3) := by
  go_enter Tryd.func121, Tryd.ntmps121
  go_wp2
  go_ret
  exact ⟨rfl, rfl⟩
theorem clo_any (x : BitVec 32) (n g : Nat) (h0 : 0 < n) (h1 : n < 32) (w : World) (hc : w.cell? ⟨g, 0, none⟩ = some (.int .i64 (n : Int))) :
    Calls Tryd.prog 123 #[.int .u32 (tn x : Int), .pointer (some ⟨g, 0, none⟩)] w fun e w' => e = .returned (.int .u32 (tn (rr x n) : Int)) ∧ ∃ k, w' = w.drewN k := by
  go_enter Tryd.func123, Tryd.ntmps123
  go_wp2_with (go_at_call 124; refine (turn_any _ n h0 h1 _).mono ?_; rintro e w' ⟨rfl, k, rfl⟩)
  go_ret
  exact ⟨rfl, _, rfl⟩
theorem Tryd.i33 : (Tryd.prog.info? 148).map (·.size) = some 4 := by kernel_rfl

/-- What a call of mixed numbers leaves. -/
def Mixes (w : World) (q : Q) (e : Ending) (w' : World) : Prop := e = .returned q.v ∧ Below w.heap.size w w'

/-- Where one stands on the way. -/
structure MW (w0 : World) (g : Nat) (w : World) : Prop where
  below : Below w0.heap.size w0 w
  blk : ∃ c, Blk w g 148 c ∧ c.size = 4
  lo : w0.heap.size ≤ g
theorem MW.alloc {w0 w : World} {g : Nat} (h : MW w0 g w) (o : Obj) : MW w0 g (w.alloc o) := ⟨h.below.alloc h.below.size _, by obtain ⟨c, hb, hs⟩ := h.blk; exact ⟨c, hb.alloc _, hs⟩, h.lo⟩
theorem MW.drewN {w0 w : World} {g : Nat} (h : MW w0 g w) (n : Nat) : MW w0 g (w.drewN n) := ⟨below_drewN h.below n, h.blk, h.lo⟩

theorem Mixes.mk {w W W' : World} {g : Nat} {q : Q} (h : MW w g W) (hb : Only g W W') : Mixes w q (.returned q.v) W' := ⟨rfl, h.below.trans ((hb.below h.lo).mono (Nat.le_refl _))⟩
theorem Mixes.mk' {w W W' : World} {g : Nat} {q : Q} {a b c d : Int} (h : MW w g W) (ho : Only g W W') (ha : a = tn q.a) (hb : b = tn q.b) (hc : c = tn q.c) (hd : d = tn q.d) : Mixes w q (.returned (.agg #[.int .u32 a, .int .u32 b, .int .u32 c, .int .u32 d])) W' := by
  subst ha hb hc hd
  exact Mixes.mk h ho
theorem clo_tn {w W : World} {g : Nat} (h : MW w g W) (x : BitVec 32) (n : Nat) (N : Int) (hN : N = (n : Int)) (h0 : 0 < n) (h1 : n < 32) {k : Nat} (hk : k = W.heap.size) :
    Calls Tryd.prog 123 #[.int .u32 (tn x : Int), .pointer (some ⟨k, 0, none⟩)] (W.alloc (.cells #[.int .i64 N] 3)) fun e w' => e = .returned (.int .u32 (tn (rr x n) : Int)) ∧ MW w g w' := by
  subst hk
  subst hN
  exact (clo_any x n W.heap.size h0 h1 _ ((Blk.new W 3 _).cell 0)).mono fun e w' ⟨he, k, hw⟩ => ⟨he, by rw [hw]; exact (h.alloc _).drewN k⟩
theorem clo_xor {w W : World} {g : Nat} (h : MW w g W) (x y : Int) (n : Nat) (N : Int) (hN : N = (n : Int)) (h0 : 0 < n) (h1 : n < 32) {k : Nat} (hk : k = W.heap.size) :
    Calls Tryd.prog 123 #[.int .u32 (bits .xor .u32 x y), .pointer (some ⟨k, 0, none⟩)] (W.alloc (.cells #[.int .i64 N] 3)) fun e w' => e = .returned (.int .u32 (tn (rr (bv x ^^^ bv y) n) : Int)) ∧ MW w g w' := by
  rw [xor_bv]
  exact clo_tn h _ n N hN h0 h1 hk
theorem MW.mk0 (w : World) (c0 : Array Value) : MW w (w.heap.size + 1) ((w.alloc (.cells c0 148)).alloc (.cells #[.int .u32 0, .int .u32 0, .int .u32 0, .int .u32 0] 148)) :=
  ⟨((Below.refl _ w).alloc (Nat.le_refl _) _).alloc (by simp) _, ⟨_, Blk.new' _ 148 _ (by simp), rfl⟩, by omega⟩
theorem Q.one (a b c d : Int) : ∀ v ∈ [Value.int .u32 a, .int .u32 b, .int .u32 c, .int .u32 d], v.oneCell' = true := by simp [Value.oneCell']
theorem Q.v_of {q : Q} {a b c d : Int} (ha : a = tn q.a) (hb : b = tn q.b) (hc : c = tn q.c) (hd : d = tn q.d) : Value.agg #[.int .u32 a, .int .u32 b, .int .u32 c, .int .u32 d] = q.v := by
  subst ha hb hc hd
  rfl

set_option maxRecDepth 100000 in
set_option maxHeartbeats 2000000 in
theorem mix_any (q : Q) (x y : BitVec 32) (w : World) :
    Calls Tryd.prog 113 #[q.v, .int .u32 (tn x : Int), .int .u32 (tn y : Int)] w (Mixes w (mixQ q x y)) := by
  obtain ⟨a, b, c, d⟩ := q
  unfold Q.v
  dsimp only
  have m0 := (MW.mk0 w #[.int .u32 (tn a), .int .u32 (tn b), .int .u32 (tn c), .int .u32 (tn d)])
  go_enter Tryd.func113, Tryd.ntmps113
  go_wp2
  go_quiet (fail)
  go_wp2_with fail
  replace m0 := m0.drewN nq
  generalize (((w.alloc (.cells #[.int .u32 (tn a), .int .u32 (tn b), .int .u32 (tn c), .int .u32 (tn d)] 148)).alloc (.cells #[.int .u32 0, .int .u32 0, .int .u32 0, .int .u32 0] 148)).drewN nq) = W at *
  refine (there_any 16 _).mono ?_
  rintro e u1 ⟨rfl, rfl⟩
  go_wp2_with fail
  ((with_reducible first | refine (clo_xor m0 _ _ 16 16 rfl (by omega) (by omega) (by rfl)).mono ?_ | refine (clo_tn m0 _ 16 16 rfl (by omega) (by omega) (by rfl)).mono ?_))
  rintro e w1 ⟨rfl, m1⟩
  clear m0
  go_wp2_with fail
  refine (there_any 12 _).mono ?_
  rintro e u2 ⟨rfl, rfl⟩
  go_wp2_with fail
  ((with_reducible first | refine (clo_xor m1 _ _ 12 12 rfl (by omega) (by omega) (by rfl)).mono ?_ | refine (clo_tn m1 _ 12 12 rfl (by omega) (by omega) (by rfl)).mono ?_))
  rintro e w2 ⟨rfl, m2⟩
  clear m1
  go_wp2_with fail
  refine (there_any 8 _).mono ?_
  rintro e u3 ⟨rfl, rfl⟩
  go_wp2_with fail
  ((with_reducible first | refine (clo_xor m2 _ _ 8 8 rfl (by omega) (by omega) (by rfl)).mono ?_ | refine (clo_tn m2 _ 8 8 rfl (by omega) (by omega) (by rfl)).mono ?_))
  rintro e w3 ⟨rfl, m3⟩
  clear m2
  go_wp2_with fail
  refine (there_any 7 _).mono ?_
  rintro e u4 ⟨rfl, rfl⟩
  go_wp2_with fail
  ((with_reducible first | refine (clo_xor m3 _ _ 7 7 rfl (by omega) (by omega) (by rfl)).mono ?_ | refine (clo_tn m3 _ 7 7 rfl (by omega) (by omega) (by rfl)).mono ?_))
  rintro e w4 ⟨rfl, m4⟩
  clear m3
  obtain ⟨c0, hb0, hs0⟩ := m4.blk
  have HM := Lib.hid m4
  have HB0 := Lib.hid hb0
  have HS0 := Lib.hid hs0
  clear m4 hb0 hs0
  go_wp2_with ((with_reducible refine at_store (t := 148) ?_); refine wpList_store_blk _ rfl 148 _ _ rfl _ c0 148 [.int .u32 _, .int .u32 _, .int .u32 _, .int .u32 _] rfl rfl HB0.out (by rw [HS0.out]; rfl) Tryd.i33 (Q.one _ _ _ _) ?_; intro w9 hb9 ho9)
  refine bodyPost_ret (results_cell_row (p := 6) (ty := 148) rfl _ _ (w.heap.size + 1) 148 _ (0, 0) _ rfl hb9 Tryd.underlying148 rfl Tryd.i33) rfl ?_
  refine Mixes.mk' HM.out ho9 ?_ ?_ ?_ ?_
  all_goals
    (try rw [mod_tn])
    simp only [bv_mod, bv_add, bv_tn]
    rfl

end Go.Proofs.YtemfnckaehjhcaaDoor.Bk

/-
  The document's own Turned, Mix, Digit, Start.
-/
namespace Go.Proofs.YtemfnckaehjhcaaDoor.Bk
open Go.RowKit

theorem turned_any (x : BitVec 32) (n : Nat) (N : Int) (hN : N = (n : Int)) (h0 : 0 < n) (h1 : n < 32) (w : World) :
    Calls Tryd.prog 122 #[.int .u32 (tn x : Int), .int .i64 N] w fun e w' => e = .returned (.int .u32 (tn (rr x n) : Int)) ∧ ∃ k, w' = w.drewN k := by
  subst hN
  have hx := tn_lt x
  have hs : Hid (bits .or .u32 ((tn x : Int) / 2 ^ n) (((tn x : Int) * 2 ^ (32 - n)) % 4294967296) = (tn (rr x n) : Int)) := by
    show _ = _
    rw [tn_shr, tn_shl, tn_or]
    rfl
  go_enter Tryd.func122, Tryd.ntmps122
  go_wp2
  go_quiet (fail)
  go_wp2
  go_ret
  exact ⟨ret_int hs.out, _, rfl⟩
theorem turned_xor {w W : World} {g : Nat} (h : MW w g W) (x y : Int) (n : Nat) (N : Int) (hN : N = (n : Int)) (h0 : 0 < n) (h1 : n < 32) :
    Calls Tryd.prog 122 #[.int .u32 (bits .xor .u32 x y), .int .i64 N] W fun e w' => e = .returned (.int .u32 (tn (rr (bv x ^^^ bv y) n) : Int)) ∧ MW w g w' := by
  rw [xor_bv]
  exact (turned_any _ n N hN h0 h1 W).mono fun e w' ⟨he, k, hw⟩ => ⟨he, by rw [hw]; exact h.drewN k⟩
theorem turned_tn {w W : World} {g : Nat} (h : MW w g W) (x : BitVec 32) (n : Nat) (N : Int) (hN : N = (n : Int)) (h0 : 0 < n) (h1 : n < 32) :
    Calls Tryd.prog 122 #[.int .u32 (tn x : Int), .int .i64 N] W fun e w' => e = .returned (.int .u32 (tn (rr x n) : Int)) ∧ MW w g w' :=
  (turned_any _ n N hN h0 h1 W).mono fun e w' ⟨he, k, hw⟩ => ⟨he, by rw [hw]; exact h.drewN k⟩

set_option maxRecDepth 100000 in
set_option maxHeartbeats 2000000 in
theorem refmix_any (q : Q) (x y : BitVec 32) (w : World) :
    Calls Tryd.prog 118 #[q.v, .int .u32 (tn x : Int), .int .u32 (tn y : Int)] w (Mixes w (mixQ q x y)) := by
  obtain ⟨a, b, c, d⟩ := q
  unfold Q.v
  dsimp only
  have m0 := (MW.mk0 w #[.int .u32 (tn a), .int .u32 (tn b), .int .u32 (tn c), .int .u32 (tn d)])
  go_enter Tryd.func118, Tryd.ntmps118
  go_wp2
  go_quiet (fail)
  go_wp2_with fail
  replace m0 := m0.drewN nq
  generalize (((w.alloc (.cells #[.int .u32 (tn a), .int .u32 (tn b), .int .u32 (tn c), .int .u32 (tn d)] 148)).alloc (.cells #[.int .u32 0, .int .u32 0, .int .u32 0, .int .u32 0] 148)).drewN nq) = W at *
  ((with_reducible first | refine (turned_xor m0 _ _ 16 16 rfl (by omega) (by omega)).mono ?_ | refine (turned_tn m0 _ 16 16 rfl (by omega) (by omega)).mono ?_))
  rintro e w1 ⟨rfl, m1⟩
  clear m0
  go_wp2_with fail
  ((with_reducible first | refine (turned_xor m1 _ _ 12 12 rfl (by omega) (by omega)).mono ?_ | refine (turned_tn m1 _ 12 12 rfl (by omega) (by omega)).mono ?_))
  rintro e w2 ⟨rfl, m2⟩
  clear m1
  go_wp2_with fail
  ((with_reducible first | refine (turned_xor m2 _ _ 8 8 rfl (by omega) (by omega)).mono ?_ | refine (turned_tn m2 _ 8 8 rfl (by omega) (by omega)).mono ?_))
  rintro e w3 ⟨rfl, m3⟩
  clear m2
  go_wp2_with fail
  ((with_reducible first | refine (turned_xor m3 _ _ 7 7 rfl (by omega) (by omega)).mono ?_ | refine (turned_tn m3 _ 7 7 rfl (by omega) (by omega)).mono ?_))
  rintro e w4 ⟨rfl, m4⟩
  clear m3
  obtain ⟨c0, hb0, hs0⟩ := m4.blk
  have HM := Lib.hid m4
  have HB0 := Lib.hid hb0
  have HS0 := Lib.hid hs0
  clear m4 hb0 hs0
  go_wp2_with ((with_reducible refine at_store (t := 148) ?_); refine wpList_store_blk _ rfl 148 _ _ rfl _ c0 148 [.int .u32 _, .int .u32 _, .int .u32 _, .int .u32 _] rfl rfl HB0.out (by rw [HS0.out]; rfl) Tryd.i33 (Q.one _ _ _ _) ?_; intro w9 hb9 ho9)
  refine bodyPost_ret (results_cell_row (p := 6) (ty := 148) rfl _ _ (w.heap.size + 1) 148 _ (0, 0) _ rfl hb9 Tryd.underlying148 rfl Tryd.i33) rfl ?_
  refine Mixes.mk' HM.out ho9 ?_ ?_ ?_ ?_
  all_goals
    (try rw [mod_tn])
    simp only [bv_mod, bv_add, bv_tn, mixQ, half, BitVec.add_assoc]

/-- The document's Digit. -/
def dgF (c : Int) : Int := if 48 ≤ c ∧ c ≤ 57 then c - 48 else if 97 ≤ c ∧ c ≤ 102 then c - 97 + 10 else -1
set_option linter.unusedSimpArgs false in
set_option maxHeartbeats 1000000 in
theorem digit_any (c : Int) (h0 : 0 ≤ c) (h1 : c ≤ 255) (w : World) : Calls Tryd.prog 105 #[.int .u8 c] w fun e w' => e = .returned (.int .i64 (dgF c)) ∧ w = w' := by
  unfold dgF
  by_cases a0 : 48 ≤ c <;> by_cases a1 : c ≤ 57 <;> by_cases a2 : 97 ≤ c <;> by_cases a3 : c ≤ 102 <;>
    first
    | omega
    | (simp only [a0, a1, a2, a3, and_true, and_false, and_self, if_true, if_false]
       go_enter Tryd.func105, Tryd.ntmps105
       go_wp2
       go_ret
       exact ⟨rfl, rfl⟩)

set_option maxRecDepth 100000 in
theorem refstart_any (w : World) : Calls Tryd.prog 82 #[] w fun e w' => e = .returned (.agg (UL startL).toArray) ∧ Below w.heap.size w w' := by
  have hu : (UL startL).toArray = #[.int .u32 1779033703, .int .u32 3144134277, .int .u32 1013904242, .int .u32 2773480762, .int .u32 1359893119, .int .u32 2600822924, .int .u32 528734635, .int .u32 1541459225] := by kernel_rfl
  have HU := Lib.hid hu
  clear hu
  go_enter Tryd.func82, Tryd.ntmps82
  go_wp2_with fail
  rw [HU.out]
  exact bodyPost_ret (results_cell_row (p := 0) (ty := 107) rfl _ _ w.heap.size 107 _ (0, 0) _ rfl (Blk.new w 107 _) Tryd.underlying107 rfl Tryd.i42) rfl ⟨rfl, (Below.refl _ w).alloc (Nat.le_refl _) _⟩

end Go.Proofs.YtemfnckaehjhcaaDoor.Bk
