/-
  Several texts in one: P42, P43, P44.
-/
import Derived.Test.YtiipglmbfgmbbaaGreatDoorP41
import Derived.Defers
import Derived.Recover
namespace Go.Proofs.YtiipglmbfgmbbaaGreatDoor
open Go.RowKit Go.Shelf
attribute [local go_sem] Oper.semAt_some

set_option maxRecDepth 100000 in
set_option maxHeartbeats 8000000 in
theorem stmt_err (w : World) (base q : Nat) (A : Option Addr) (c : Nat) (L : List Tk) (E m r o : Nat) (B : Option Addr) (n nc : Nat) (h : Sx w base q A c L E m r o B n nc) (hG : Gp w) (h2 : 2 ≤ base) (hq2 : 2 ≤ q) (a : Nat) (er : Int) (i : Nat) (hk : kindF L E r = .error (er, i)) :
    Calls Tryz.prog 48 #[.pointer (some ⟨q, 0, none⟩), .int .i64 (a : Int)] w (Stx w base q A c L E m r o a) := by
  have h0 : Below w.heap.size w (w.alloc (.cells #[.int .i64 0, .string ⟨#[]⟩, .string ⟨#[]⟩, .slice none 0 0, .slice none 0 0, .bool false, .slice none 0 0, .slice none 0 0, .slice none 0 0, .string ⟨#[]⟩, .string ⟨#[]⟩, .string ⟨#[]⟩, .string ⟨#[]⟩, .bool false, .int .i64 0] 38)) := (Below.refl _ _).alloc (Nat.le_refl _) _
  have hb0 := h.pt.le
  have P1 := Lib.hid (h.pt.on h0)
  have F1 := Lib.hid (Fq.of (q := q) h0 (Nat.le_refl _))
  have G1 := Lib.hid (hG.fq F1.out (by omega) hq2)
  have KA := kind_any _ base q c E r o A L _ _ P1.out G1.out
  rw [hk] at KA
  have KH := Lib.hid KA
  have ST : Hid (stF L E o 0 a r = some (.error (er, i))) := Lib.hid (by unfold stF; rw [rb_err (congrArg some hk)])
  clear KA h hG hk
  go_enter Tryz.func48, Tryz.ntmps48
  go_upto_region 1 with fail
  generalize w.alloc (.cells #[.int .i64 0, .string ⟨#[]⟩, .string ⟨#[]⟩, .slice none 0 0, .slice none 0 0, .bool false, .slice none 0 0, .slice none 0 0, .slice none 0 0, .string ⟨#[]⟩, .string ⟨#[]⟩, .string ⟨#[]⟩, .string ⟨#[]⟩, .bool false, .int .i64 0] 38) = w1 at *
  go_wp2_with (go_at_call 74; refine KH.out.mono ?_; rintro e w2 hR; obtain ⟨rfl, hF⟩ := Rd.err hR; have F2 := Lib.hid (F1.out.trans (hF.mono F1.out.size)); clear hR hF)
  exact ⟨rfl, 0, .error (er, i), ST.out, F2.out, rfl⟩
set_option maxRecDepth 100000 in
set_option maxHeartbeats 8000000 in
theorem stmt_many (w : World) (base q : Nat) (A : Option Addr) (c : Nat) (L : List Tk) (E m r o : Nat) (B : Option Addr) (n nc : Nat) (h : Sx w base q A c L E m r o B n nc) (hG : Gp w) (h2 : 2 ≤ base) (hq2 : 2 ≤ q) (k : Nat) (hk : kindF L E r = .ok (k, r)) :
    Calls Tryz.prog 48 #[.pointer (some ⟨q, 0, none⟩), .int .i64 8] w (Stx w base q A c L E m r o 8) := by
  have h0 : Below w.heap.size w (w.alloc (.cells #[.int .i64 0, .string ⟨#[]⟩, .string ⟨#[]⟩, .slice none 0 0, .slice none 0 0, .bool false, .slice none 0 0, .slice none 0 0, .slice none 0 0, .string ⟨#[]⟩, .string ⟨#[]⟩, .string ⟨#[]⟩, .string ⟨#[]⟩, .bool false, .int .i64 0] 38)) := (Below.refl _ _).alloc (Nat.le_refl _) _
  have hb0 := h.pt.le
  have P1 := Lib.hid (h.pt.on h0)
  have F1 := Lib.hid (Fq.of (q := q) h0 (Nat.le_refl _))
  have G1 := Lib.hid (hG.fq F1.out (by omega) hq2)
  have KA := kind_any _ base q c E r o A L _ _ P1.out G1.out
  rw [hk] at KA
  have KH : Hid (Calls Tryz.prog 74 #[.pointer (some ⟨q, 0, none⟩)] (w.alloc (.cells #[.int .i64 0, .string ⟨#[]⟩, .string ⟨#[]⟩, .slice none 0 0, .slice none 0 0, .bool false, .slice none 0 0, .slice none 0 0, .slice none 0 0, .string ⟨#[]⟩, .string ⟨#[]⟩, .string ⟨#[]⟩, .string ⟨#[]⟩, .bool false, .int .i64 0] 38)) fun e w' => e = .returned (.int .i64 (k : Int)) ∧ Pt w' base q A c L E (.map (some m)) (.slice B n nc) r o ∧ Fq (w.alloc (.cells #[.int .i64 0, .string ⟨#[]⟩, .string ⟨#[]⟩, .slice none 0 0, .slice none 0 0, .bool false, .slice none 0 0, .slice none 0 0, .slice none 0 0, .string ⟨#[]⟩, .string ⟨#[]⟩, .string ⟨#[]⟩, .string ⟨#[]⟩, .bool false, .int .i64 0] 38)).heap.size q (w.alloc (.cells #[.int .i64 0, .string ⟨#[]⟩, .string ⟨#[]⟩, .slice none 0 0, .slice none 0 0, .bool false, .slice none 0 0, .slice none 0 0, .slice none 0 0, .string ⟨#[]⟩, .string ⟨#[]⟩, .string ⟨#[]⟩, .string ⟨#[]⟩, .bool false, .int .i64 0] 38)) w') := Lib.hid KA
  have ST : Hid (stF L E o 0 8 r = some (.error (212, r))) := Lib.hid (by unfold stF; rw [rb_ok (congrArg some hk)]; rfl)
  have SP := Lib.hid (fun W (hP : Pt W base q A c L E (.map (some m)) (.slice B n nc) r o) => spot_any 212 W base q c E r o A L _ _ hP)
  clear KA h hG hk
  go_enter Tryz.func48, Tryz.ntmps48
  go_upto_region 1 with fail
  generalize w.alloc (.cells #[.int .i64 0, .string ⟨#[]⟩, .string ⟨#[]⟩, .slice none 0 0, .slice none 0 0, .bool false, .slice none 0 0, .slice none 0 0, .slice none 0 0, .string ⟨#[]⟩, .string ⟨#[]⟩, .string ⟨#[]⟩, .string ⟨#[]⟩, .bool false, .int .i64 0] 38) = w1 at *
  go_upto_region 3 with (first
    | (go_at_call 74; refine KH.out.mono ?_; rintro e w2 ⟨rfl, hP, hF⟩; have P2 := Lib.hid hP; have F2 := Lib.hid (F1.out.trans (hF.mono F1.out.size)); have hs2 := F2.out.size; clear hP hF)
    | ((with_reducible refine at_store (t := 38) ?_); have AL3 : Below w2.heap.size w2 (w2.alloc (.cells #[.int .i64 0, .string ⟨#[]⟩, .string ⟨#[]⟩, .slice none 0 0, .slice none 0 0, .bool false, .slice none 0 0, .slice none 0 0, .slice none 0 0, .string ⟨#[]⟩, .string ⟨#[]⟩, .string ⟨#[]⟩, .string ⟨#[]⟩, .bool false, .int .i64 0] 38)) := (Below.refl _ _).alloc (Nat.le_refl _) _; have K3 : Blk (w2.alloc (.cells #[.int .i64 0, .string ⟨#[]⟩, .string ⟨#[]⟩, .slice none 0 0, .slice none 0 0, .bool false, .slice none 0 0, .slice none 0 0, .slice none 0 0, .string ⟨#[]⟩, .string ⟨#[]⟩, .string ⟨#[]⟩, .string ⟨#[]⟩, .bool false, .int .i64 0] 38)) w2.heap.size 38 #[.int .i64 0, .string ⟨#[]⟩, .string ⟨#[]⟩, .slice none 0 0, .slice none 0 0, .bool false, .slice none 0 0, .slice none 0 0, .slice none 0 0, .string ⟨#[]⟩, .string ⟨#[]⟩, .string ⟨#[]⟩, .string ⟨#[]⟩, .bool false, .int .i64 0] := Blk.new _ _ _; refine wpList_store_blk _ rfl 38 _ _ rfl w2.heap.size _ 38 [.int .i64 (k : Int), .string ⟨#[]⟩, .string ⟨#[]⟩, .slice none 0 0, .slice none 0 0, .bool false, .slice none 0 0, .slice none 0 0, .slice none 0 0, .string ⟨#[]⟩, .string ⟨#[]⟩, .string ⟨#[]⟩, .string ⟨#[]⟩, .bool false, .int .i64 (-1)] rfl rfl K3 rfl Tryz.i38 (by simp [Value.oneCell']) ?_; intro w3 hb3 ho3; have B3 := Lib.hid (AL3.trans (ho3.below (Nat.le_refl _))); clear hb3 ho3 AL3 K3))
  have P3 := Lib.hid (P2.out.on B3.out)
  have F3 := Lib.hid (F2.out.trans (Fq.of (q := q) B3.out hs2))
  go_wp2_with (go_at_call 75; refine (SP.out _ P3.out).mono ?_; rintro e w4 ⟨rfl, hb4⟩; have F4 := Lib.hid (F3.out.trans ((Fq.of (q := q) hb4 (Nat.le_refl _)).mono F3.out.size)); clear hb4)
  exact ⟨rfl, 0, .error (212, r), ST.out, F4.out, rfl⟩
theorem stmt_any (w : World) (base q : Nat) (A : Option Addr) (c : Nat) (L : List Tk) (E m r o : Nat) (B : Option Addr) (n nc : Nat) (h : Sx w base q A c L E m r o B n nc) (hG : Gp w) (h2 : 2 ≤ base) (hq2 : 2 ≤ q) (ho : o ≤ 16) (a : Nat) (ha : a ≤ 8) :
    Calls Tryz.prog 48 #[.pointer (some ⟨q, 0, none⟩), .int .i64 (a : Int)] w (Stx w base q A c L E m r o a) := by
  cases hk : kindF L E r with
  | error ei =>
    obtain ⟨er, i⟩ := ei
    exact stmt_err w base q A c L E m r o B n nc h hG h2 hq2 a er i hk
  | ok kr =>
    obtain ⟨k, r'⟩ := kr
    obtain ⟨rfl, hk7⟩ := kindF_ok hk
    by_cases h8 : a = 8
    · subst h8
      exact stmt_many w base q A c L E m _ o B n nc h hG h2 hq2 k hk
    · have ha : a < 8 := by omega
      match k, hk7, hk with
      | 0, _, hk => exact stmt_0 w base q A c L E m _ o B n nc h hG h2 hq2 ho a ha hk
      | 1, _, hk => exact stmt_1 w base q A c L E m _ o B n nc h hG h2 hq2 ho a ha hk
      | 2, _, hk => exact stmt_2 w base q A c L E m _ o B n nc h hG h2 hq2 ho a ha hk
      | 3, _, hk => exact stmt_3 w base q A c L E m _ o B n nc h hG h2 hq2 ho a ha hk
      | 4, _, hk => exact stmt_4 w base q A c L E m _ o B n nc h hG h2 hq2 ho a ha hk
      | 5, _, hk => exact stmt_5 w base q A c L E m _ o B n nc h hG h2 hq2 ho a ha hk
      | 6, _, hk => exact stmt_6 w base q A c L E m _ o B n nc h hG h2 hq2 ho a ha hk
      | k + 7, h, _ => exact absurd h (by omega)
end Go.Proofs.YtiipglmbfgmbbaaGreatDoor

namespace Go.Proofs.YtiipglmbfgmbbaaGreatDoor
open Go.RowKit Go.Shelf
attribute [local go_sem] Oper.semAt_some

theorem setCell_only (w : World) (g k : Nat) (v : Value) : Only g w (w.setCell ⟨g, k, none⟩ v) := ⟨rfl, rfl, rfl, by simp, fun j hj => Below.heap_setCell _ _ _ _ hj⟩
theorem ta_nil (w : World) : (Instr.typeAssert .nilIface 20 26 true).run Tryz.prog w = .ok (.tuple #[.agg #[.int .i64 0, .int .i64 0], .bool false]) w := by kernel_rfl
theorem ta_spot (a b : Int) (w : World) : (Instr.typeAssert (.iface 26 (.agg #[.int .i64 a, .int .i64 b])) 20 26 true).run Tryz.prog w = .ok (.tuple #[.agg #[.int .i64 a, .int .i64 b], .bool true]) w := by kernel_rfl
set_option maxRecDepth 100000 in
theorem catch_idle (p s : Addr) (w : World) :
    CallsD Tryz.prog 47 #[.pointer (some p), .pointer (some s)] .returning w fun e u' w' => e = .returned (.tuple #[]) ∧ u' = .returning ∧ Below w.heap.size w w' := by
  refine callsD_of_wpS Tryz.func47 rfl fun c₀ cs hu => ?_
  apply wpS_seq
  apply wpS_region
  simp [wpOpsS, go_sem, recoverD, hu, Tryz.ntmps47, Exit.thenS, ta_nil]
  apply wpS_seq
  apply wpS_region
  simp [wpOpsS, go_sem, Exit.thenS]
  refine wpS_cond (t := false) (by simp [Act.eval, Array.replicate]) ?_
  simp only [Bool.false_eq_true, if_false]
  refine wpS_of_wp (wp_skip ?_)
  cases c₀
  simp_all [bodyPostS, results, Tryz.results47, Exit.thenS]
  exact (Below.refl _ _).alloc (Nat.le_refl _) _
/-- Where a panic was, the answer tells its spot, and nothing else. -/
structure Ct (bl bs : Nat) (w w' : World) (er : Int) (at' : Int) : Prop where
  l : Blk w' bl 23 #[.slice none 0 0]
  s : Blk w' bs 26 #[.int .i64 er, .int .i64 at']
  os : w'.os = w.os
  tape : w'.tape = w.tape
  output : w'.output = w.output
  size : w.heap.size ≤ w'.heap.size
  block : ∀ j, j < w.heap.size → j ≠ bl → j ≠ bs → w'.heap[j]? = w.heap[j]?
theorem wp_act {P : Program} {c : Code} {Q : Exit → Act → World → Prop} {a a' : Act} {w : World} (h : a = a') (k : c.wp P Q a' w) : c.wp P Q a w := h ▸ k
set_option maxRecDepth 100000 in
set_option maxHeartbeats 1000000 in
theorem catch_panic (bl bs : Nat) (er at' : Int) (w : World) (hne : bl ≠ bs) (v1 v2 v3 : Value) (hl : Blk w bl 23 #[v1]) (hs : Blk w bs 26 #[v2, v3]) :
    CallsD Tryz.prog 47 #[.pointer (some ⟨bl, 0, none⟩), .pointer (some ⟨bs, 0, none⟩)] (.panicking [{ v := .iface 26 (.agg #[.int .i64 er, .int .i64 at']), recovered := false }]) w fun e u' w' =>
      e = .returned (.tuple #[]) ∧ u' = .panicking [{ v := .iface 26 (.agg #[.int .i64 er, .int .i64 at']), recovered := true }] ∧ Ct bl bs w w' er at' := by
  refine callsD_of_wpS Tryz.func47 rfl fun c₀ cs hu => ?_
  apply wpS_seq
  apply wpS_region
  simp [wpOpsS, go_sem, recoverD, hu, Tryz.ntmps47, Exit.thenS, ta_spot]
  apply wpS_seq
  apply wpS_region
  simp [wpOpsS, go_sem, Exit.thenS]
  refine wpS_cond (t := true) (by simp [Act.eval, Array.replicate]) ?_
  simp only [if_true]
  refine wpS_of_wp ?_
  have hbl := hl.lt
  have hbs := hs.lt
  have AL : Below w.heap.size w (w.alloc (.cells #[.int .i64 er, .int .i64 at'] 26)).drew := ((Below.refl _ _).alloc (Nat.le_refl _) _).trans (below_drewN' _ _ 1)
  have K0 : Hid (Blk (w.alloc (.cells #[.int .i64 er, .int .i64 at'] 26)).drew w.heap.size 26 #[.int .i64 er, .int .i64 at']) := Lib.hid (Blk.new _ _ _)
  have L0 := Lib.hid (hl.below AL hbl)
  have S0 := Lib.hid (hs.below AL hbs)
  obtain ⟨k, hk⟩ : ∃ k, w.heap.size = k := ⟨_, rfl⟩
  rw [hk] at K0
  simp only [hk]
  refine wp_act (a' := { tmps := #[.pointer (some ⟨bl, 0, none⟩), .pointer (some ⟨bs, 0, none⟩), .pointer (some ⟨k, 0, none⟩), .bool true, .tuple #[.agg #[.int .i64 er, .int .i64 at'], .bool true], .iface 26 (.agg #[.int .i64 er, .int .i64 at']), .tuple #[.agg #[.int .i64 er, .int .i64 at'], .bool true], .agg #[.int .i64 er, .int .i64 at'], .bool true, .bool true, undef], defers := [] }) (by simp [Array.replicate]) ?_
  refine wp_region_held_drew (S := fun w' => w'.cell? ⟨k, 0, none⟩ = some (.int .i64 er) ∧ w'.cell? ⟨k, 1, none⟩ = some (.int .i64 at')) (by kernel_rfl) ⟨K0.out.cell 0, K0.out.cell 1⟩ (fun hHeld => ?_)
  have AL1 := Lib.hid AL
  clear AL
  generalize (w.alloc (.cells #[.int .i64 er, .int .i64 at'] 26)).drew = w1 at *
  refine take_d (i := 0) (d := 10) (v := ?vv) rfl rfl (by kernel_rfl) (by kernel_rfl) (by kernel_rfl) (fun _ _ _ h => h) (Or.inl ⟨by kernel_rfl, ?vvh⟩) hHeld ?vvn
  case vvh => (intro w hSw; (try dsimp only at hSw); go_split_ands; go_simp; (try exact rfl))
  try simp only [Act.put, List.setIfInBounds_toArray, List.set_cons_zero, List.set_cons_succ]
  refine wpAnyH_ready (rs := [1]) (by kernel_rfl) (by simp) ?_
  refine AllReadyH.cons rfl (fun K' hK => ?_) AllReadyH.nil
  have f1 : w1.frozen? ⟨bl, 0, none⟩ = false := L0.out.frozen 0
  have f2 : w1.cell? ⟨bl, 0, none⟩ = some v1 := L0.out.cell 0
  go_simp
  clear f1 f2
  have L1 : Hid (Blk (w1.setCell ⟨bl, 0, none⟩ (.slice none 0 0)) bl 23 #[.slice none 0 0]) := Lib.hid (L0.out.set_ 0 _)
  have S1 : Hid (Blk (w1.setCell ⟨bl, 0, none⟩ (.slice none 0 0)) bs 26 #[v2, v3]) := Lib.hid (Blk.far S0.out (p := ⟨bl, 0, none⟩) (Ne.symm hne) _)
  have K1 : Hid (Blk (w1.setCell ⟨bl, 0, none⟩ (.slice none 0 0)) k 26 #[.int .i64 er, .int .i64 at']) := Lib.hid (Blk.far K0.out (p := ⟨bl, 0, none⟩) (by show k ≠ bl; omega) _)
  have O1 := Lib.hid (setCell_only w1 bl 0 (.slice none 0 0))
  generalize w1.setCell ⟨bl, 0, none⟩ (.slice none 0 0) = w2 at *
  refine hK.out _ _ ⟨K1.out.cell 0, K1.out.cell 1⟩ (fun hHeld => ?_)
  clear hK K'
  try simp only [Act.put, List.setIfInBounds_toArray, List.set_cons_zero, List.set_cons_succ]
  refine wpAnyH_ready (rs := [2]) (by kernel_rfl) (by simp) ?_
  refine AllReadyH.cons rfl (fun K' hK => ?_) AllReadyH.nil
  refine wp_store_none rfl 26 _ _ rfl bs #[v2, v3] 26 [.int .i64 er, .int .i64 at'] rfl rfl S1.out rfl Tryz.i26' (by simp [Value.oneCell']) ?_
  intro w3 hb3 ho3
  have L3 := ho3.keep L1.out hne
  have K3 := ho3.keep K1.out (by show k ≠ bs; omega)
  refine hK.out _ _ ⟨K3.cell 0, K3.cell 1⟩ (fun hHeld => ?_)
  clear hK K'
  try simp only [Act.put, List.setIfInBounds_toArray, List.set_cons_zero, List.set_cons_succ]
  refine wpAnyH_done (by kernel_rfl) ?_ _
  have a1 := AL1.out
  have o1 := O1.out
  have hsz : w3.heap.size = w2.heap.size := ho3.size
  have hsz2 : w2.heap.size = w1.heap.size := o1.size
  have b1 := o1.below (base := 0) (Nat.zero_le _)
  have b3 := ho3.below (base := 0) (Nat.zero_le _)
  simp [bodyPostS, results, Tryz.results47]
  exact ⟨L3, hb3, by rw [b3.os, b1.os, a1.os], by rw [b3.tape, b1.tape, a1.tape], by rw [b3.output, b1.output, a1.output], by rw [hsz, hsz2]; exact a1.size, fun j hj h1 h2 => by rw [ho3.block j h2, o1.block j h1, a1.block j hj]⟩
end Go.Proofs.YtiipglmbfgmbbaaGreatDoor

namespace Go.Proofs.YtiipglmbfgmbbaaGreatDoor
open Go.RowKit Go.Shelf
attribute [local go_sem] Oper.semAt_some

/-- The cells of statements. -/
def SlC (w : World) (D : Nat) : List Value → List Sm → Prop
  | vs, [] => vs = []
  | vs, s :: l => ∃ x rest, vs = smC s x ++ rest ∧ Ox w D s x ∧ SlC w D rest l
section
variable {w w' : World} {D D' : Nat}
theorem SlC.k4 : ∀ {vs : List Value} {l : List Sm}, SlC w D vs l → K4 w w' → SlC w' D vs l
  | _, [], h, _ => h
  | _, x :: l, ⟨y, rest, e, hO, h⟩, hk => ⟨y, rest, e, hO.k4 hk, SlC.k4 h hk⟩
theorem SlC.low (hD : D' ≤ D) : ∀ {vs : List Value} {l : List Sm}, SlC w D vs l → SlC w D' vs l
  | _, [], h => h
  | _, x :: l, ⟨y, rest, e, hO, h⟩ => ⟨y, rest, e, hO.low hD, SlC.low hD h⟩
theorem SlC.snoc {s : Sm} {x : Cx} (hO : Ox w D s x) : ∀ {vs : List Value} {l : List Sm}, SlC w D vs l → SlC w D (vs ++ smC s x) (l ++ [s])
  | vs, [], h => by
    have : vs = [] := h
    subst this
    exact ⟨x, [], by simp, hO, rfl⟩
  | _, y :: l, ⟨x', rest, e, hO', h⟩ => by
    subst e
    exact ⟨x', rest ++ smC s x, by simp, hO', SlC.snoc hO h⟩
end
def Sls (w : World) (D : Nat) (A : Option Addr) (n c : Nat) (l : List Sm) : Prop := ∃ vs, w.ownsRow D 38 15 (.slice A n c) n vs ∧ SlC w D vs l
theorem Sls.kt {w w' : World} {D n c : Nat} {A : Option Addr} {l : List Sm} (h : Sls w D A n c l) (k : Kt 38 w w') (k4 : K4 w w') : Sls w' D A n c l := by
  obtain ⟨vs, h1, h2⟩ := h
  exact ⟨vs, owns_kt h1 k, h2.k4 k4⟩
/-- Where reading statements stands. -/
structure Lx (w0 w : World) (base q : Nat) (A : Option Addr) (c : Nat) (L : List Tk) (E m r o bl bs : Nat) (l : List Sm) (A9 : Option Addr) (c9 : Nat) : Prop where
  sx : ∃ B n nc, Sx w base q A c L E m r o B n nc
  gp : Gp w
  lb : Blk w bl 23 #[.slice A9 l.length c9]
  sb : Blk w bs 26 #[.int .i64 0, .int .i64 0]
  own : Sls w w0.heap.size A9 l.length c9 l
  fr : Fq w0.heap.size q w0 w
  hbl : w0.heap.size ≤ bl
  hbs : w0.heap.size ≤ bs
  ne : bl ≠ bs
  hb0 : base ≤ w0.heap.size
  two : 2 ≤ base
  tq : 2 ≤ q
section
variable {w0 w w' : World} {base q c E m r o bl bs c9 : Nat} {A A9 : Option Addr} {L : List Tk} {l : List Sm}
theorem Lx.par (h : Lx w0 w base q A c L E m r o bl bs l A9 c9) : ∃ cq, Blk w q 75 cq := by
  obtain ⟨B, n, nc, hs⟩ := h.sx
  exact ⟨_, hs.pt.blk⟩
theorem Lx.bq (h : Lx w0 w base q A c L E m r o bl bs l A9 c9) : bl ≠ q ∧ bs ≠ q := by
  obtain ⟨cq, hq⟩ := h.par
  refine ⟨?_, ?_⟩ <;> intro e <;> subst e
  · exact absurd (h.lb.same hq) (by decide)
  · exact absurd (h.sb.same hq) (by decide)
theorem Lx.size (h : Lx w0 w base q A c L E m r o bl bs l A9 c9) : w0.heap.size ≤ w.heap.size := h.fr.size
/-- Tokens were read. -/
theorem Lx.read {r' : Nat} (h : Lx w0 w base q A c L E m r o bl bs l A9 c9) (hS : ∃ B n nc, Sx w' base q A c L E m r' o B n nc) (hF : Fq w.heap.size q w w') : Lx w0 w' base q A c L E m r' o bl bs l A9 c9 := by
  obtain ⟨cq, hq⟩ := h.par
  have h1 := h.hb0
  have h2 := h.size
  have h3 := h.two
  exact ⟨hS, h.gp.fq hF (by omega) h.tq, (hF.block bl h.lb.lt h.bq.1).trans h.lb, (hF.block bs h.sb.lt h.bq.2).trans h.sb, h.own.kt (Kt.fq hF hq (by decide)) (K4.fq hF hq), h.fr.trans (hF.mono h2), h.hbl, h.hbs, h.ne, h1, h3, h.tq⟩
theorem Lx.below (h : Lx w0 w base q A c L E m r o bl bs l A9 c9) (hb : Below w.heap.size w w') : Lx w0 w' base q A c L E m r o bl bs l A9 c9 := by
  obtain ⟨B, n, nc, hs⟩ := h.sx
  have h1 := hs.hm
  have h2 := hs.pt.le
  exact h.read ⟨B, n, nc, hs.pt.on hb, (hb.block m (by omega)).trans hs.mo, hs.hm, hs.hq⟩ (Fq.of hb (Nat.le_refl _))
theorem Lx.rd (h : Lx w0 w base q A c L E m r o bl bs l A9 c9) : r ≤ L.length ∧ L.length ≤ 300 := by
  obtain ⟨B, n, nc, hs⟩ := h.sx
  exact ⟨hs.pt.rd, hs.pt.many⟩
/-- Where a panic is caught. -/
def Lz (w0 : World) (q bl bs : Nat) (w' : World) : Prop := (∃ v, Blk w' bl 23 #[v]) ∧ (∃ v2 v3, Blk w' bs 26 #[v2, v3]) ∧ Fq w0.heap.size q w0 w' ∧ w0.heap.size ≤ bl ∧ w0.heap.size ≤ bs ∧ bl ≠ bs
theorem Lx.lz (h : Lx w0 w base q A c L E m r o bl bs l A9 c9) (hF : Fq w.heap.size q w w') : Lz w0 q bl bs w' :=
  ⟨⟨_, (hF.block bl h.lb.lt h.bq.1).trans h.lb⟩, ⟨_, _, (hF.block bs h.sb.lt h.bq.2).trans h.sb⟩, h.fr.trans (hF.mono h.size), h.hbl, h.hbs, h.ne⟩
/-- One statement more. -/
theorem Lx.put {A2 : Option Addr} {c2 : Nat} {s : Sm} {x : Cx} {vs : List Value} (h : Lx w0 w base q A c L E m r o bl bs l A9 c9) (hv : w.ownsRow w0.heap.size 38 15 (.slice A9 l.length c9) l.length vs) (hR : SlC w w0.heap.size vs l) (hO : Ox w w0.heap.size s x) (hg : w.grownBy w' (Value.slice A9 l.length c9).ownBlock) (ho : w'.ownsRow w0.heap.size 38 15 (.slice A2 (l.length + 1) c2) (l.length + 1) (vs ++ smC s x)) :
    Lx w0 (w'.setCell ⟨bl, 0, none⟩ (.slice A2 (l.length + 1) c2)) base q A c L E m r o bl bs (l ++ [s]) A2 c2 ∧ w'.cell? ⟨bl, 0, none⟩ = some (.slice A9 l.length c9) ∧ w'.frozen? ⟨bl, 0, none⟩ = false := by
  obtain ⟨B, n, nc, hs⟩ := h.sx
  have h0 := h.hb0
  have hsz := h.size
  have kt : ∀ t : TypeId, t ≠ 38 → Kt t w w' := fun t ht => Kt.grown hv hg ht
  have k4 : K4 w w' := ⟨kt 62 (by decide), kt 65 (by decide), kt 53 (by decide), kt 109 (by decide)⟩
  have hF : Fq w0.heap.size q w w' := ⟨hg.os, hg.tape, hg.output, hg.size, fun i hi _ => hg.block i (by omega) (fun e => by
    rcases hv.2 with ⟨hn, _⟩ | ⟨g', cap, cur, hn, hbs, hh, r⟩
    · rw [hn] at e; cases e
    · have e2 : some i = some g' := by rw [hn] at e; exact e
      injection e2 with e2
      omega)⟩
  have hb : Below base w w' := ⟨hg.os, hg.tape, hg.output, hg.size, fun i hi => hg.block i (by omega) (fun e => by
    rcases hv.2 with ⟨hn, _⟩ | ⟨g', cap, cur, hn, hbs, hh, r⟩
    · rw [hn] at e; cases e
    · have e2 : some i = some g' := by rw [hn] at e; exact e
      injection e2 with e2
      omega)⟩
  have hl := kt 23 (by decide) bl _ h.lb
  have hss := kt 26 (by decide) bs _ h.sb
  have hb2 : Below base w' (w'.setCell ⟨bl, 0, none⟩ (.slice A2 (l.length + 1) c2)) := (Below.refl base w').setCell (p := ⟨bl, 0, none⟩) (by have := h.hbl; show base ≤ bl; omega) _
  have hbb := hb.trans hb2
  have kl : ∀ t : TypeId, t ≠ 23 → Kt t w' (w'.setCell ⟨bl, 0, none⟩ (.slice A2 (l.length + 1) c2)) := fun t ht => Kt.set hl ht _
  have k42 : K4 w' (w'.setCell ⟨bl, 0, none⟩ (.slice A2 (l.length + 1) c2)) := ⟨kl 62 (by decide), kl 65 (by decide), kl 53 (by decide), kl 109 (by decide)⟩
  refine ⟨⟨⟨B, n, nc, hs.pt.keep hbb, (hbb.block m hs.hm).trans hs.mo, hs.hm, hs.hq⟩, h.gp.fq (Fq.of (q := q) hbb (Nat.le_refl _)) h.two h.tq, ?_, Blk.far hss (p := ⟨bl, 0, none⟩) (Ne.symm h.ne) _, ⟨vs ++ smC s x, ?_, ((hR.k4 k4).snoc (hO.k4 k4)).k4 k42⟩, (h.fr.trans hF).trans (Fq.of (q := q) ((Below.refl w0.heap.size w').setCell (p := ⟨bl, 0, none⟩) h.hbl _) (Nat.le_refl _)), h.hbl, h.hbs, h.ne, h0, h.two, h.tq⟩, hl.cell 0, hl.frozen 0⟩
  · have := hl.set_ 0 (.slice A2 (l.length + 1) c2)
    simpa using this
  · rw [List.length_append]
    exact owns_kt ho (kl 38 (by decide))
theorem Lx.words (h : Lx w0 w base q A c L E m r o bl bs l A9 c9) (us : List (List UInt8)) (n : Nat) (hn : us.length = n) (hn2 : n ≤ 100) :
    Calls Tryz.prog 49 #[.pointer (some ⟨q, 0, none⟩), .slice (some ⟨w.heap.size, 0, none⟩) n n] (w.alloc (.cells (us.map tx).toArray 9)) (Aw (rwd L E r us) (fun _ r' e w' => e = .returned (.tuple #[]) ∧ r ≤ r' ∧ Lx w0 w' base q A c L E m r' o bl bs l A9 c9) (Lz w0 q bl bs) L E) := by
  have AL : Below w.heap.size w (w.alloc (.cells (us.map tx).toArray 9)) := (Below.refl _ _).alloc (Nat.le_refl _) _
  have J := h.below AL
  obtain ⟨B, n', nc, hs⟩ := J.sx
  have hq : q < w.heap.size := by obtain ⟨cq, hq⟩ := h.par; exact hq.lt
  have h1 := hs.hm
  have h2 := hs.pt.le
  refine (words_any us n w.heap.size _ base q c E r o A L _ _ hs.pt hn hn2 (sb_new w us) (by omega)).mono ?_
  intro e w' hR
  cases hw : wordsF L E r us with
  | error ei =>
    obtain ⟨er, i⟩ := ei
    rw [hw] at hR
    obtain ⟨h1, h2⟩ := Rd.err hR
    exact ⟨.error (er, i), by unfold rwd; rw [hw], h1, J.lz h2⟩
  | ok r' =>
    rw [hw] at hR
    obtain ⟨h3, h4, h5⟩ := hR
    exact ⟨.ok ((), r'), by unfold rwd; rw [hw], h3, wordsF_ge L E _ _ _ hw, J.read ⟨_, _, _, h4, (h5.block m (by omega) hs.hq).trans hs.mo, hs.hm, hs.hq⟩ h5⟩
/-- A statement, read. -/
theorem Lx.stmt (ho : o ≤ 16) (h : Lx w0 w base q A c L E m r o bl bs l A9 c9) (ha : l.length ≤ 8) :
    Calls Tryz.prog 48 #[.pointer (some ⟨q, 0, none⟩), .int .i64 (l.length : Int)] w (An (fun n => stF L E o n l.length r) (fun s r' e w' => ∃ x, e = .returned (.agg (smC s x).toArray) ∧ r ≤ r' ∧ Ox w' w0.heap.size s x ∧ Lx w0 w' base q A c L E m r' o bl bs l A9 c9) (Lz w0 q bl bs) L E) := by
  obtain ⟨B, n, nc, hs⟩ := h.sx
  refine (stmt_any w base q A c L E m r o B n nc hs h.gp h.two h.tq ho l.length ha).mono ?_
  rintro e w' ⟨n, y, hx, hF, hy⟩
  rcases y with ⟨er, i⟩ | ⟨s, r'⟩
  · exact ⟨n, .error (er, i), hx, hy, h.lz hF⟩
  · obtain ⟨x, he, hr, hO, hS, hG⟩ := hy
    exact ⟨n, .ok (s, r'), hx, x, he, hr, hO.low h.size, h.read hS hF⟩
/-- The same list is stored once more. -/
theorem Lx.again (h : Lx w0 w base q A c L E m r o bl bs l A9 c9) : Lx w0 (w.setCell ⟨bl, 0, none⟩ (.slice A9 l.length c9)) base q A c L E m r o bl bs l A9 c9 := by
  obtain ⟨B, n, nc, hs⟩ := h.sx
  have h0 := h.hb0
  have hbl := h.hbl
  have hb : Below base w (w.setCell ⟨bl, 0, none⟩ (.slice A9 l.length c9)) := (Below.refl base w).setCell (p := ⟨bl, 0, none⟩) (by show base ≤ bl; omega) _
  have kl : ∀ t : TypeId, t ≠ 23 → Kt t w (w.setCell ⟨bl, 0, none⟩ (.slice A9 l.length c9)) := fun t ht => Kt.set h.lb ht _
  refine ⟨⟨B, n, nc, hs.pt.keep hb, (hb.block m hs.hm).trans hs.mo, hs.hm, hs.hq⟩, h.gp.fq (Fq.of (q := q) hb (Nat.le_refl _)) h.two h.tq, ?_, Blk.far h.sb (p := ⟨bl, 0, none⟩) (Ne.symm h.ne) _, h.own.kt (kl 38 (by decide)) ⟨kl 62 (by decide), kl 65 (by decide), kl 53 (by decide), kl 109 (by decide)⟩, h.fr.trans (Fq.of (q := q) ((Below.refl w0.heap.size w).setCell (p := ⟨bl, 0, none⟩) h.hbl _) (Nat.le_refl _)), h.hbl, h.hbs, h.ne, h0, h.two, h.tq⟩
  have := h.lb.set_ 0 (.slice A9 l.length c9)
  simpa using this
theorem Lx.fin {w8 w9 : World} (h : Lx w0 w base q A c L E m r o bl bs l A9 c9) (hb8 : Blk w8 bs 26 #[.int .i64 0, .int .i64 0]) (ho : Only bs w w8) (hB : Below w8.heap.size w8 w9) :
    Blk w9 bl 23 #[.slice A9 l.length c9] ∧ Blk w9 bs 26 #[.int .i64 0, .int .i64 0] ∧ Fq w0.heap.size q w0 w9 ∧ Sls w9 w0.heap.size A9 l.length c9 l := by
  have hl := ho.keep h.lb h.ne
  have ks : ∀ t : TypeId, t ≠ 26 → Kt t w w8 := fun t ht => Kt.only ho h.sb ht
  have hsz := h.size
  have hz : w8.heap.size = w.heap.size := ho.size
  exact ⟨hl.below hB hl.lt, hb8.below hB hb8.lt, (h.fr.trans (Fq.of (q := q) (ho.below h.hbs) (Nat.le_refl _))).trans (Fq.of hB (by omega)), (h.own.kt (ks 38 (by decide)) ⟨ks 62 (by decide), ks 65 (by decide), ks 53 (by decide), ks 109 (by decide)⟩).kt (Kt.below hB) (K4.below hB)⟩
/-- How many statements there are. -/
def lenAt (w : World) (bl : Nat) : Nat := match w.cell? ⟨bl, 0, none⟩ with
  | some (.slice _ n _) => n
  | _ => 0
theorem Lx.lenAt (h : Lx w0 w base q A c L E m r o bl bs l A9 c9) : Go.Proofs.YtiipglmbfgmbbaaGreatDoor.lenAt w bl = l.length := by
  have : w.cell? ⟨bl, 0, none⟩ = some (.slice A9 l.length c9) := h.lb.cell 0
  unfold Go.Proofs.YtiipglmbfgmbbaaGreatDoor.lenAt
  rw [this]
/-- The two answers' places are made. -/
theorem Lx.start {B : Option Addr} {n nc : Nat} (h : Sx w base q A c L E m r o B n nc) (hG : Gp w) (h2 : 2 ≤ base) (hq2 : 2 ≤ q) :
    Lx w ((w.alloc (.cells #[.slice none 0 0] 23)).alloc (.cells #[.int .i64 0, .int .i64 0] 26)) base q A c L E m r o w.heap.size (w.heap.size + 1) [] none 0 := by
  have h1 : Below w.heap.size w (w.alloc (.cells #[.slice none 0 0] 23)) := (Below.refl _ _).alloc (Nat.le_refl _) _
  have hb : Below w.heap.size w ((w.alloc (.cells #[.slice none 0 0] 23)).alloc (.cells #[.int .i64 0, .int .i64 0] 26)) := h1.alloc (by simp) _
  have e1 : (w.alloc (.cells #[.slice none 0 0] 23)).heap.size = w.heap.size + 1 := by simp
  have hm := h.hm
  have hle := h.pt.le
  refine ⟨⟨B, n, nc, h.pt.on hb, (hb.block m (by omega)).trans h.mo, h.hm, h.hq⟩, hG.fq (Fq.of (q := q) hb (Nat.le_refl _)) (by omega) hq2, (Blk.new w 23 _).alloc _, ?_, ⟨[], ⟨rfl, .inl ⟨rfl, rfl⟩⟩, rfl⟩, Fq.of hb (Nat.le_refl _), Nat.le_refl _, by omega, by omega, hle, h2, hq2⟩
  rw [← e1]
  exact Blk.new _ _ _
theorem smC_form (s : Sm) (x : Cx) : ∃ (k : Int) (T1 T2 : ByteArray) (A1 : Option Addr) (n1 c1 : Nat) (A2 : Option Addr) (n2 c2 : Nat) (st : Bool) (A3 : Option Addr) (n3 c3 : Nat) (A4 : Option Addr) (n4 c4 : Nat) (A5 : Option Addr) (n5 c5 : Nat) (T3 T4 T5 T6 : ByteArray) (de : Bool) (li : Int), smC s x = [.int .i64 k, .string T1, .string T2, .slice A1 n1 c1, .slice A2 n2 c2, .bool st, .slice A3 n3 c3, .slice A4 n4 c4, .slice A5 n5 c5, .string T3, .string T4, .string T5, .string T6, .bool de, .int .i64 li] :=
  ⟨_, _, _, _, _, _, _, _, _, _, _, _, _, _, _, _, _, _, _, _, _, _, _, _, _, rfl⟩
end
/-- What is answered by the reader of statements. -/
def Sts (w : World) (q : Nat) (L : List Tk) (E r o : Nat) (e : Ending) (w' : World) : Prop :=
  ∃ n y, stsF L E o n r [] = some y ∧ Fq w.heap.size q w w' ∧ match y with
    | .ok l => ∃ A9 c9, e = .returned (.tuple #[.slice A9 l.length c9, .agg #[.int .i64 0, .int .i64 0]]) ∧ Sls w' w.heap.size A9 l.length c9 l
    | .error (er, i) => e = .returned (.tuple #[.slice none 0 0, .agg #[.int .i64 er, .int .i64 ((tokAt L E i).at_ : Int)]])
theorem stsF_mono (L : List Tk) (E o : Nat) : ∀ (n m r : Nat) (l : List Sm) (y : Except (Int × Nat) (List Sm)), n ≤ m → stsF L E o n r l = some y → stsF L E o m r l = some y
  | 0, _, _, _, _, _, h => by cases h
  | n + 1, 0, _, _, _, hm, _ => by omega
  | n + 1, m + 1, r, l, y, hm, h => by
    unfold stsF at h ⊢
    by_cases hc : l.length = 0 ∨ r < L.length
    · rw [if_pos hc] at h ⊢
      cases hs : stF L E o n l.length r with
      | none => rw [hs] at h; cases h
      | some z =>
        have hs' : stF L E o m l.length r = some z := stF_mono L E o l.length r n m z (by omega) hs
        rw [hs] at h
        rw [hs']
        rcases z with ei | ⟨s, r'⟩
        · exact h
        · simp only at h ⊢
          by_cases hl : r' < L.length
          · rw [if_pos hl] at h ⊢
            cases hw : wordsF L E r' [[59]] with
            | error e => rw [hw] at h; exact h
            | ok r2 =>
              rw [hw] at h
              exact stsF_mono L E o n m r2 (l ++ [s]) y (by omega) h
          · rw [if_neg hl] at h ⊢
            exact stsF_mono L E o n m r' (l ++ [s]) y (by omega) h
    · rw [if_neg hc] at h ⊢
      exact h
end Go.Proofs.YtiipglmbfgmbbaaGreatDoor
