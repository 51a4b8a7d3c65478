/-
  The document's mixed: four of sixteen numbers.
-/
import Derived.Test.YtemfnckaehjhcaaDoorBkB8
import Derived.Test.YtemfnckaehjhcaaDoorBkBm
import Derived.Test.YtemfnckaehjhcaaDoorBkK0
import Derived.Deep.RegionHeld3
namespace Go.Proofs.YtemfnckaehjhcaaDoor.Bk
open Go.RowKit
attribute [local go_sem ↓] Tryd.z42 Tryd.z70 Tryd.z27 Tryd.z45 Tryd.z37 Tryd.z38

/-- Number j of four. -/
def qf (q : Q) : Nat → BitVec 32
  | 0 => q.a
  | 1 => q.b
  | 2 => q.c
  | _ => q.d
/-- Sixteen numbers behind the first j stores. -/
def setD (v : List (BitVec 32)) (d : Nat → Nat) (q : Q) : Nat → List (BitVec 32)
  | 0 => v
  | j + 1 => (setD v d q j).set (d j) (qf q j)
theorem setD_len (v : List (BitVec 32)) (d : Nat → Nat) (q : Q) : ∀ j, (setD v d q j).length = v.length
  | 0 => rfl
  | j + 1 => by rw [setD, List.length_set, setD_len v d q j]

/-- Where one stands. -/
structure KW (w0 : World) (v : List (BitVec 32)) (w : World) : Prop where
  below : Below w0.heap.size w0 w
  vb : Blk w w0.heap.size 125 (UL v).toArray
  res : Blk w (w0.heap.size + 1) 125 (ZU 16).toArray
section
variable {w0 w w' : World} {v : List (BitVec 32)}
theorem KW.low (s : KW w0 v w) (hb : Below w.heap.size w w') : KW w0 v w' := ⟨s.below.trans (hb.mono s.below.size), s.vb.below hb s.vb.lt, s.res.below hb s.res.lt⟩
theorem KW.drew (s : KW w0 v w) : KW w0 v w.drew := ⟨s.below.drew, s.vb, s.res⟩
theorem KW.alloc (s : KW w0 v w) (o : Obj) : KW w0 v (w.alloc o) := s.low ((Below.refl _ w).alloc (Nat.le_refl _) o)
theorem KW.far (s : KW w0 v w) (g i : Nat) (u : Value) (hg : w0.heap.size + 1 < g) : KW w0 v (w.setCell ⟨g, i, none⟩ u) :=
  ⟨s.below.setCell (by show _ ≤ g; omega) _, s.vb.far (by show _ ≠ g; omega) _, s.res.far (by show _ ≠ g; omega) _⟩
theorem KW.set (s : KW w0 v w) (i : Nat) (x : BitVec 32) : KW w0 (v.set i x) (w.setCell ⟨w0.heap.size, i, none⟩ (.int .u32 (tn x : Int))) := by
  refine ⟨s.below.setCell (p := ⟨w0.heap.size, i, none⟩) (Nat.le_refl _) _, ?_, s.res.far (by show _ ≠ w0.heap.size; omega) _⟩
  have := s.vb.set_ i (.int .u32 (tn x : Int))
  rwa [UL.set] at this
theorem KW.vcell (s : KW w0 v w) (i : Nat) (hi : i < v.length) : w.cell? ⟨w0.heap.size, i, none⟩ = some (.int .u32 (tn (gt v i) : Int)) := (s.vb.cell i).trans (UL.gt hi)
theorem KW.vcells (s : KW w0 v w) (a b c d : Nat) (ha : a < v.length) (hb : b < v.length) (hc : c < v.length) (hd : d < v.length) :
    w.cell? ⟨w0.heap.size, a, none⟩ = some (.int .u32 (tn (gt v a) : Int)) ∧ w.cell? ⟨w0.heap.size, b, none⟩ = some (.int .u32 (tn (gt v b) : Int)) ∧ w.cell? ⟨w0.heap.size, c, none⟩ = some (.int .u32 (tn (gt v c) : Int)) ∧ w.cell? ⟨w0.heap.size, d, none⟩ = some (.int .u32 (tn (gt v d) : Int)) :=
  ⟨s.vcell a ha, s.vcell b hb, s.vcell c hc, s.vcell d hd⟩
end
theorem refmix_agg (a b c d x y : BitVec 32) (w : World) : Calls Tryd.prog 118 #[.agg #[.int .u32 (tn a), .int .u32 (tn b), .int .u32 (tn c), .int .u32 (tn d)], .int .u32 (tn x), .int .u32 (tn y)] w fun e w' =>
    e = .returned (.agg #[.int .u32 (tn (mixQ ⟨a, b, c, d⟩ x y).a), .int .u32 (tn (mixQ ⟨a, b, c, d⟩ x y).b), .int .u32 (tn (mixQ ⟨a, b, c, d⟩ x y).c), .int .u32 (tn (mixQ ⟨a, b, c, d⟩ x y).d)]) ∧ Below w.heap.size w w' :=
  refmix_any ⟨a, b, c, d⟩ x y w
/-- The block of the four, and where one stands. -/
structure JW (w0 : World) (g : Nat) (q : Q) (v : List (BitVec 32)) (w : World) : Prop where
  kw : KW w0 v w
  mb : Blk w g 148 #[.int .u32 (tn q.a), .int .u32 (tn q.b), .int .u32 (tn q.c), .int .u32 (tn q.d)]
  lo : w0.heap.size + 1 < g
theorem JW.mcell {w0 w : World} {g : Nat} {q : Q} {v : List (BitVec 32)} (s : JW w0 g q v w) (j : Nat) (hj : j < 4) : w.cell? ⟨g, j, none⟩ = some (.int .u32 (tn (qf q j) : Int)) := by
  match j, hj with
  | 0, _ => exact s.mb.cell 0
  | 1, _ => exact s.mb.cell 1
  | 2, _ => exact s.mb.cell 2
  | 3, _ => exact s.mb.cell 3
theorem JW.step {w0 w : World} {g : Nat} {q : Q} {v : List (BitVec 32)} (s : JW w0 g q v w) (i : Nat) (x : BitVec 32) : JW w0 g q (v.set i x) (w.setCell ⟨w0.heap.size, i, none⟩ (.int .u32 (tn x : Int))) :=
  ⟨s.kw.set i x, s.mb.far (by have := s.lo; show _ ≠ w0.heap.size; omega) _, s.lo⟩
theorem JW.drew {w0 w : World} {g : Nat} {q : Q} {v : List (BitVec 32)} (s : JW w0 g q v w) : JW w0 g q v w.drew := ⟨s.kw.drew, s.mb, s.lo⟩

theorem four_set {w : World} {g : Nat} (h : Blk w g 148 #[.int .u32 0, .int .u32 0, .int .u32 0, .int .u32 0]) (a b c d : Value) :
    Blk ((((w.setCell ⟨g, 0, none⟩ a).setCell ⟨g, 1, none⟩ b).setCell ⟨g, 2, none⟩ c).setCell ⟨g, 3, none⟩ d) g 148 #[a, b, c, d] := (((h.set_ 0 a).set_ 1 b).set_ 2 c).set_ 3 d

set_option linter.unusedSimpArgs false in
set_option maxRecDepth 100000 in
set_option maxHeartbeats 4000000 in
theorem refmixed_any (v : List (BitVec 32)) (hv : v.length = 16) (A : ByteArray) (cs : Nat → Int) (d : Nat → Nat) (hd : ∀ j, d j < 16)
    (ix : ∀ (j : Nat), j < 4 → ∀ w, (Instr.index 9 (.string A) (.int .i64 (j : Int))).run Tryd.prog w = .ok (.int .u8 (cs j)) w)
    (dg : ∀ (j : Nat), j < 4 → ∀ w, Calls Tryd.prog 105 #[.int .u8 (cs j)] w fun e w' => e = .returned (.int .i64 (d j : Int)) ∧ w = w') (x y : BitVec 32) (w : World) :
    Calls Tryd.prog 104 #[.agg (UL v).toArray, .string A, .int .u32 (tn x), .int .u32 (tn y)] w fun e w' => e = .returned (.agg (UL (setD v d (mixQ ⟨gt v (d 0), gt v (d 1), gt v (d 2), gt v (d 3)⟩ x y) 4)).toArray) ∧ Below w.heap.size w w' := by
  have K0 : Hid (KW w v ((w.alloc (.cells (UL v).toArray 125)).alloc (.cells (ZU 16).toArray 125))) :=
    ⟨((Below.refl _ w).alloc (Nat.le_refl _) _).alloc (by simp) _, (Blk.new w 125 _).alloc _, Blk.new' _ 125 _ (by simp)⟩
  have HVC : Hid (∀ w2, KW w v w2 → w2.cell? ⟨w.heap.size, d 0, none⟩ = some (.int .u32 (tn (gt v (d 0)) : Int)) ∧ w2.cell? ⟨w.heap.size, d 1, none⟩ = some (.int .u32 (tn (gt v (d 1)) : Int)) ∧ w2.cell? ⟨w.heap.size, d 2, none⟩ = some (.int .u32 (tn (gt v (d 2)) : Int)) ∧ w2.cell? ⟨w.heap.size, d 3, none⟩ = some (.int .u32 (tn (gt v (d 3)) : Int))) :=
    fun w2 h => h.vcells (d 0) (d 1) (d 2) (d 3) (by rw [hv]; exact hd 0) (by rw [hv]; exact hd 1) (by rw [hv]; exact hd 2) (by rw [hv]; exact hd 3)
  have ix0 : ∀ w, (Instr.index 9 (.string A) (.int .i64 0)).run Tryd.prog w = .ok (.int .u8 (cs 0)) w := ix 0 (by omega)
  have ix1 : ∀ w, (Instr.index 9 (.string A) (.int .i64 1)).run Tryd.prog w = .ok (.int .u8 (cs 1)) w := ix 1 (by omega)
  have ix2 : ∀ w, (Instr.index 9 (.string A) (.int .i64 2)).run Tryd.prog w = .ok (.int .u8 (cs 2)) w := ix 2 (by omega)
  have ix3 : ∀ w, (Instr.index 9 (.string A) (.int .i64 3)).run Tryd.prog w = .ok (.int .u8 (cs 3)) w := ix 3 (by omega)
  have D0 := Lib.hid (dg 0 (by omega))
  have D1 := Lib.hid (dg 1 (by omega))
  have D2 := Lib.hid (dg 2 (by omega))
  have D3 := Lib.hid (dg 3 (by omega))
  have IX := Lib.hid ix
  have DG := Lib.hid dg
  have HD := Lib.hid hd
  have j0 := hd 0
  have j1 := hd 1
  have j2 := hd 2
  have j3 := hd 3
  have HL := Lib.hid hv
  have MX := Lib.hid (refmix_agg (gt v (d 0)) (gt v (d 1)) (gt v (d 2)) (gt v (d 3)) x y)
  generalize mixQ ⟨gt v (d 0), gt v (d 1), gt v (d 2), gt v (d 3)⟩ x y = q at *
  clear ix dg hd hv
  have i0 : (0 : Int) ≤ (d 0 : Nat) := by omega
  have i1 : (0 : Int) ≤ (d 1 : Nat) := by omega
  have i2 : (0 : Int) ≤ (d 2 : Nat) := by omega
  have i3 : (0 : Int) ≤ (d 3 : Nat) := by omega
  have k0 : ((d 0 : Nat) : Int) < 16 := by omega
  have k1 : ((d 1 : Nat) : Int) < 16 := by omega
  have k2 : ((d 2 : Nat) : Int) < 16 := by omega
  have k3 : ((d 3 : Nat) : Int) < 16 := by omega
  go_enter Tryd.func104, Tryd.ntmps104
  go_wp2_with fail
  generalize (w.alloc (.cells (UL v).toArray 125)).alloc (.cells (ZU 16).toArray 125) = W2 at *
  have MXB := Lib.hid ((MX.out (W2.alloc (.cells #[.int .u32 0, .int .u32 0, .int .u32 0, .int .u32 0] 148)).drew).mono fun e w' h => show _ ∧ _ ∧ _ ∧ _ from ⟨h.1, h.2, fresh4 h.2 (show Blk (W2.alloc (.cells #[.int .u32 0, .int .u32 0, .int .u32 0, .int .u32 0] 148)).drew W2.heap.size 148 _ from Blk.new W2 148 _)⟩)
  have GS : Hid (w.heap.size + 1 < W2.heap.size) := K0.out.res.lt
  have NBK : Hid (∀ w', Below (W2.alloc (.cells #[.int .u32 0, .int .u32 0, .int .u32 0, .int .u32 0] 148)).drew.heap.size (W2.alloc (.cells #[.int .u32 0, .int .u32 0, .int .u32 0, .int .u32 0] 148)).drew w' → Blk w' W2.heap.size 148 #[.int .u32 0, .int .u32 0, .int .u32 0, .int .u32 0]) := fun w' hb =>
    have h : Blk (W2.alloc (.cells #[.int .u32 0, .int .u32 0, .int .u32 0, .int .u32 0] 148)).drew W2.heap.size 148 #[.int .u32 0, .int .u32 0, .int .u32 0, .int .u32 0] := Blk.new W2 148 _
    h.below hb h.lt
  obtain ⟨v0, v1, v2, v3⟩ := HVC.out _ K0.out
  have hS0 : W2.drew.cell? ⟨w.heap.size, d 0, none⟩ = some (.int .u32 (tn (gt v (d 0)) : Int)) ∧ W2.drew.cell? ⟨w.heap.size, d 1, none⟩ = some (.int .u32 (tn (gt v (d 1)) : Int)) ∧ W2.drew.cell? ⟨w.heap.size, d 2, none⟩ = some (.int .u32 (tn (gt v (d 2)) : Int)) ∧ W2.drew.cell? ⟨w.heap.size, d 3, none⟩ = some (.int .u32 (tn (gt v (d 3)) : Int)) := HVC.out _ K0.out.drew
  refine wp_region_noPanic ?_
  refine wp_region_held_drew (S := fun w' => w'.cell? ⟨w.heap.size, d 0, none⟩ = some (.int .u32 (tn (gt v (d 0)) : Int)) ∧ w'.cell? ⟨w.heap.size, d 1, none⟩ = some (.int .u32 (tn (gt v (d 1)) : Int)) ∧ w'.cell? ⟨w.heap.size, d 2, none⟩ = some (.int .u32 (tn (gt v (d 2)) : Int)) ∧ w'.cell? ⟨w.heap.size, d 3, none⟩ = some (.int .u32 (tn (gt v (d 3)) : Int))) (by kernel_rfl) hS0 (fun hHeld => ?_)
  refine take_d (i := 0) (d := 11) (v := .string A) rfl rfl (by kernel_rfl) (by kernel_rfl) (by kernel_rfl) (fun _ _ _ h => h) (Or.inl ⟨by kernel_rfl, fun w hSw => by go_simp⟩) hHeld ?_
  try simp only [Act.put, List.setIfInBounds_toArray, List.set_cons_zero, List.set_cons_succ]
  refine take_d (i := 1) (d := 12) (v := .int .u8 (cs 0)) rfl rfl (by kernel_rfl) (by kernel_rfl) (by kernel_rfl) (fun _ _ _ h => h) (Or.inl ⟨by kernel_rfl, fun w hSw => by go_simp⟩) hHeld ?_
  try simp only [Act.put, List.setIfInBounds_toArray, List.set_cons_zero, List.set_cons_succ]
  refine take_d (i := 5) (d := 16) (v := .string A) rfl rfl (by kernel_rfl) (by kernel_rfl) (by kernel_rfl) (fun _ _ _ h => h) (Or.inl ⟨by kernel_rfl, fun w hSw => by go_simp⟩) hHeld ?_
  try simp only [Act.put, List.setIfInBounds_toArray, List.set_cons_zero, List.set_cons_succ]
  refine take_d (i := 6) (d := 17) (v := .int .u8 (cs 1)) rfl rfl (by kernel_rfl) (by kernel_rfl) (by kernel_rfl) (fun _ _ _ h => h) (Or.inl ⟨by kernel_rfl, fun w hSw => by go_simp⟩) hHeld ?_
  try simp only [Act.put, List.setIfInBounds_toArray, List.set_cons_zero, List.set_cons_succ]
  refine take_d (i := 10) (d := 21) (v := .string A) rfl rfl (by kernel_rfl) (by kernel_rfl) (by kernel_rfl) (fun _ _ _ h => h) (Or.inl ⟨by kernel_rfl, fun w hSw => by go_simp⟩) hHeld ?_
  try simp only [Act.put, List.setIfInBounds_toArray, List.set_cons_zero, List.set_cons_succ]
  refine take_d (i := 11) (d := 22) (v := .int .u8 (cs 2)) rfl rfl (by kernel_rfl) (by kernel_rfl) (by kernel_rfl) (fun _ _ _ h => h) (Or.inl ⟨by kernel_rfl, fun w hSw => by go_simp⟩) hHeld ?_
  try simp only [Act.put, List.setIfInBounds_toArray, List.set_cons_zero, List.set_cons_succ]
  refine take_d (i := 15) (d := 26) (v := .string A) rfl rfl (by kernel_rfl) (by kernel_rfl) (by kernel_rfl) (fun _ _ _ h => h) (Or.inl ⟨by kernel_rfl, fun w hSw => by go_simp⟩) hHeld ?_
  try simp only [Act.put, List.setIfInBounds_toArray, List.set_cons_zero, List.set_cons_succ]
  refine take_d (i := 16) (d := 27) (v := .int .u8 (cs 3)) rfl rfl (by kernel_rfl) (by kernel_rfl) (by kernel_rfl) (fun _ _ _ h => h) (Or.inl ⟨by kernel_rfl, fun w hSw => by go_simp⟩) hHeld ?_
  try simp only [Act.put, List.setIfInBounds_toArray, List.set_cons_zero, List.set_cons_succ]
  refine take_d (i := 21) (d := 32) (v := .int .u32 (tn x : Int)) rfl rfl (by kernel_rfl) (by kernel_rfl) (by kernel_rfl) (fun _ _ _ h => h) (Or.inl ⟨by kernel_rfl, fun w hSw => by go_simp⟩) hHeld ?_
  try simp only [Act.put, List.setIfInBounds_toArray, List.set_cons_zero, List.set_cons_succ]
  refine take_d (i := 22) (d := 33) (v := .int .u32 (tn y : Int)) rfl rfl (by kernel_rfl) (by kernel_rfl) (by kernel_rfl) (fun _ _ _ h => h) (Or.inl ⟨by kernel_rfl, fun w hSw => by go_simp⟩) hHeld ?_
  try simp only [Act.put, List.setIfInBounds_toArray, List.set_cons_zero, List.set_cons_succ]
  refine wpAnyH_ready (rs := [2, 24]) (by kernel_rfl) (by simp) ?_
  refine AllReadyH.cons rfl (fun K hK => ?_) (AllReadyH.cons rfl (fun K hK => ?_) AllReadyH.nil)
  · skip
    go_simp
    with_reducible refine (D0.out _).mono ?_
    rintro e w3 ⟨rfl, rfl⟩
    refine hK.out _ _ (HVC.out _ K0.out.drew) (fun hHeld => ?_)
    clear hK K
    try simp only [Act.put, List.setIfInBounds_toArray, List.set_cons_zero, List.set_cons_succ]
    refine take_d (i := 3) (d := 14) (v := .pointer (some ⟨w.heap.size, d 0, none⟩)) rfl rfl (by kernel_rfl) (by kernel_rfl) (by kernel_rfl) (fun _ _ _ h => h) (Or.inl ⟨by kernel_rfl, fun w hSw => by go_simp⟩) hHeld ?_
    try simp only [Act.put, List.setIfInBounds_toArray, List.set_cons_zero, List.set_cons_succ]
    refine take_d (i := 4) (d := 15) (v := .int .u32 (tn (gt v (d 0)) : Int)) rfl rfl (by kernel_rfl) (by kernel_rfl) (by kernel_rfl) (fun _ _ _ h => h) (Or.inl ⟨by kernel_rfl, fun w hSw => by obtain ⟨s0, s1, s2, s3⟩ := hSw; go_simp⟩) hHeld ?_
    try simp only [Act.put, List.setIfInBounds_toArray, List.set_cons_zero, List.set_cons_succ]
    refine wpAnyH_ready (rs := [7, 24]) (by kernel_rfl) (by simp) ?_
    refine AllReadyH.cons rfl (fun K hK => ?_) (AllReadyH.cons rfl (fun K hK => ?_) AllReadyH.nil)
    · skip
      go_simp
      with_reducible refine (D1.out _).mono ?_
      rintro e w3 ⟨rfl, rfl⟩
      refine hK.out _ _ (HVC.out _ K0.out.drew) (fun hHeld => ?_)
      clear hK K
      try simp only [Act.put, List.setIfInBounds_toArray, List.set_cons_zero, List.set_cons_succ]
      refine take_d (i := 8) (d := 19) (v := .pointer (some ⟨w.heap.size, d 1, none⟩)) rfl rfl (by kernel_rfl) (by kernel_rfl) (by kernel_rfl) (fun _ _ _ h => h) (Or.inl ⟨by kernel_rfl, fun w hSw => by go_simp⟩) hHeld ?_
      try simp only [Act.put, List.setIfInBounds_toArray, List.set_cons_zero, List.set_cons_succ]
      refine take_d (i := 9) (d := 20) (v := .int .u32 (tn (gt v (d 1)) : Int)) rfl rfl (by kernel_rfl) (by kernel_rfl) (by kernel_rfl) (fun _ _ _ h => h) (Or.inl ⟨by kernel_rfl, fun w hSw => by obtain ⟨s0, s1, s2, s3⟩ := hSw; go_simp⟩) hHeld ?_
      try simp only [Act.put, List.setIfInBounds_toArray, List.set_cons_zero, List.set_cons_succ]
      refine wpAnyH_ready (rs := [12, 24]) (by kernel_rfl) (by simp) ?_
      refine AllReadyH.cons rfl (fun K hK => ?_) (AllReadyH.cons rfl (fun K hK => ?_) AllReadyH.nil)
      · skip
        go_simp
        with_reducible refine (D2.out _).mono ?_
        rintro e w3 ⟨rfl, rfl⟩
        refine hK.out _ _ (HVC.out _ K0.out.drew) (fun hHeld => ?_)
        clear hK K
        try simp only [Act.put, List.setIfInBounds_toArray, List.set_cons_zero, List.set_cons_succ]
        refine take_d (i := 13) (d := 24) (v := .pointer (some ⟨w.heap.size, d 2, none⟩)) rfl rfl (by kernel_rfl) (by kernel_rfl) (by kernel_rfl) (fun _ _ _ h => h) (Or.inl ⟨by kernel_rfl, fun w hSw => by go_simp⟩) hHeld ?_
        try simp only [Act.put, List.setIfInBounds_toArray, List.set_cons_zero, List.set_cons_succ]
        refine take_d (i := 14) (d := 25) (v := .int .u32 (tn (gt v (d 2)) : Int)) rfl rfl (by kernel_rfl) (by kernel_rfl) (by kernel_rfl) (fun _ _ _ h => h) (Or.inl ⟨by kernel_rfl, fun w hSw => by obtain ⟨s0, s1, s2, s3⟩ := hSw; go_simp⟩) hHeld ?_
        try simp only [Act.put, List.setIfInBounds_toArray, List.set_cons_zero, List.set_cons_succ]
        refine wpAnyH_ready (rs := [17, 24]) (by kernel_rfl) (by simp) ?_
        refine AllReadyH.cons rfl (fun K hK => ?_) (AllReadyH.cons rfl (fun K hK => ?_) AllReadyH.nil)
        · skip
          go_simp
          with_reducible refine (D3.out _).mono ?_
          rintro e w3 ⟨rfl, rfl⟩
          refine hK.out _ _ (HVC.out _ K0.out.drew) (fun hHeld => ?_)
          clear hK K
          try simp only [Act.put, List.setIfInBounds_toArray, List.set_cons_zero, List.set_cons_succ]
          refine take_d (i := 18) (d := 29) (v := .pointer (some ⟨w.heap.size, d 3, none⟩)) rfl rfl (by kernel_rfl) (by kernel_rfl) (by kernel_rfl) (fun _ _ _ h => h) (Or.inl ⟨by kernel_rfl, fun w hSw => by go_simp⟩) hHeld ?_
          try simp only [Act.put, List.setIfInBounds_toArray, List.set_cons_zero, List.set_cons_succ]
          refine take_d (i := 19) (d := 30) (v := .int .u32 (tn (gt v (d 3)) : Int)) rfl rfl (by kernel_rfl) (by kernel_rfl) (by kernel_rfl) (fun _ _ _ h => h) (Or.inl ⟨by kernel_rfl, fun w hSw => by obtain ⟨s0, s1, s2, s3⟩ := hSw; go_simp⟩) hHeld ?_
          try simp only [Act.put, List.setIfInBounds_toArray, List.set_cons_zero, List.set_cons_succ]
          refine take_d (i := 20) (d := 31) (v := .agg #[.int .u32 (tn (gt v (d 0))), .int .u32 (tn (gt v (d 1))), .int .u32 (tn (gt v (d 2))), .int .u32 (tn (gt v (d 3)))]) rfl rfl (by kernel_rfl) (by kernel_rfl) (by kernel_rfl) (fun _ _ _ h => h) (Or.inl ⟨by kernel_rfl, fun w hSw => by go_simp⟩) hHeld ?_
          try simp only [Act.put, List.setIfInBounds_toArray, List.set_cons_zero, List.set_cons_succ]
          refine wpAnyH_ready (rs := [23, 24]) (by kernel_rfl) (by simp) ?_
          refine AllReadyH.cons rfl (fun K hK => ?_) (AllReadyH.cons rfl (fun K hK => ?_) AllReadyH.nil)
          · skip
            go_simp
            with_reducible refine (MX.out _).mono ?_
            rintro e w3 ⟨rfl, hb⟩
            refine hK.out _ _ (HVC.out _ (K0.out.drew.low hb)) (fun hHeld => ?_)
            clear hK K
            try simp only [Act.put, List.setIfInBounds_toArray, List.set_cons_zero, List.set_cons_succ]
            refine wpAnyH_ready (rs := [24]) (by kernel_rfl) (by simp) ?_
            refine AllReadyH.cons rfl (fun K hK => ?_) AllReadyH.nil
            go_simp
            refine hK.out _ _ (HVC.out _ ((K0.out.drew.low hb).alloc (.cells #[.int .u32 0, .int .u32 0, .int .u32 0, .int .u32 0] 148))) (fun hHeld => ?_)
            clear hK K
            try simp only [Act.put, List.setIfInBounds_toArray, List.set_cons_zero, List.set_cons_succ]
            refine wpAnyH_ready (rs := [25]) (by kernel_rfl) (by simp) ?_
            refine AllReadyH.cons rfl (fun K hK => ?_) AllReadyH.nil
            go_simp
            refine hK.out _ _ (HVC.out _ ((K0.out.drew.low hb).alloc _)) (fun hHeld => ?_)
            clear hK K
            try simp only [Act.put, List.setIfInBounds_toArray, List.set_cons_zero, List.set_cons_succ]
            refine wpAnyH_done (by kernel_rfl) ?_ _
            refine NoPanic.normal ?_
            have J0 : Hid (JW w w3.heap.size q v (w3.alloc (.cells #[.int .u32 (tn q.a), .int .u32 (tn q.b), .int .u32 (tn q.c), .int .u32 (tn q.d)] 148))) := ⟨(K0.out.drew.low hb).alloc _, Blk.new w3 148 _, (K0.out.drew.low hb).res.lt⟩
            clear hHeld
            generalize w3.alloc (.cells #[.int .u32 (tn q.a), .int .u32 (tn q.b), .int .u32 (tn q.c), .int .u32 (tn q.d)] 148) = W3 at *
            generalize w3.heap.size = g at *
            clear K0 MXB hb MX GS NBK v0 v1 v2 v3 D0 D1 D2 D3 ix0 ix1 ix2 ix3 HVC
            clear i0 i1 i2 i3 k0 k1 k2 k3 j0 j1 j2 j3 hS0
            go_wp2_with fail
            go_loopw [35] (fun i wr => ∃ j : Nat, j ≤ 4 ∧ i = .int .i64 j ∧ JW w g q (setD v d q j) wr) (fun i _ => 4 - (intOf i).toNat)
            case atStart => exact ⟨0, Nat.zero_le _, rfl, J0.out⟩
            case round =>
              obtain ⟨j, hj, rfl, hx⟩ := hrel
              have X := Lib.hid hx
              clear J0 hx
              by_cases hlt : j < 4
              · have ixj := fun w => IX.out j hlt w
                have DJ := Lib.hid (DG.out j hlt)
                have dj := HD.out j
                have dI0 : (0 : Int) ≤ (d j : Nat) := by omega
                have dI1 : ((d j : Nat) : Int) < 16 := by omega
                have jI0 : (0 : Int) ≤ (j : Nat) := by omega
                have jI1 : ((j : Nat) : Int) < 4 := by omega
                have vc := X.out.kw.vcell (d j) (by rw [setD_len, HL.out]; exact dj)
                have vf := X.out.kw.vb.frozen (d j)
                have mc := X.out.mcell j hlt
                have NX : Hid (JW w g q (setD v d q (j + 1)) (wr.setCell ⟨w.heap.size, d j, none⟩ (.int .u32 (tn (qf q j) : Int))).drew) := (X.out.step (d j) (qf q j)).drew
                have MC : Hid ((wr.setCell ⟨w.heap.size, d j, none⟩ (.int .u32 (tn (qf q j) : Int))).drew.cell? ⟨g, j, none⟩ = some (.int .u32 (tn (qf q j) : Int))) := NX.out.mcell j hlt
                have mcd : Hid (wr.drew.cell? ⟨g, j, none⟩ = some (.int .u32 (tn (qf q j) : Int))) := mc
                generalize setD v d q j = V at *
                generalize d j = dd at *
                generalize cs j = cc at *
                generalize qf q j = qq at *
                go_wp2_with fail
                go_region_held3 (fun w' => w'.cell? ⟨g, j, none⟩ = some (.int .u32 (tn qq : Int)))
                  (first | with_reducible exact mcd.out | with_reducible exact MC.out)
                  (first
                    | (go_at_call 105; with_reducible refine (DJ.out _).mono ?_; rintro e w4 ⟨rfl, rfl⟩))
                go_wp2_with fail
                exact ⟨⟨j + 1, by omega, by go_num, NX.out⟩, by simp [intOf]; omega⟩
              · obtain rfl : j = 4 := by omega
                have HMv := Lib.hid X.out.kw.vb
                have HR := Lib.hid X.out.kw.res
                have HB := Lib.hid X.out.kw.below
                have hlen : (UL (setD v d q 4)).length = 16 := by rw [UL.len, setD_len, HL.out]
                have HZ2 : Hid ((ZU 16).toArray.size = (UL (setD v d q 4)).length) := show _ = _ by rw [hlen]; rfl
                have H2 : Hid ((Tryd.prog.info? 125).map (·.size) = some (UL (setD v d q 4)).length) := show _ = _ by rw [hlen]; exact Tryd.i70
                have H2A : Hid ((Tryd.prog.info? 125).map (·.size) = some (UL (setD v d q 4)).toArray.size) := show _ = _ by rw [List.size_toArray, hlen]; exact Tryd.i70
                have H1 := Lib.hid (UL.one (setD v d q 4))
                clear X hlen
                generalize hV : UL (setD v d q 4) = V at *
                have HV := Lib.hid hV
                clear hV
                go_wp2_with (first
                  | ((with_reducible refine at_load (t := 125) ?_); refine wpList_load_mid rfl 125 _ rfl w.heap.size 0 rfl V _ HMv.out.rng Tryd.underlying125 rfl H2.out ?_)
                  | ((with_reducible refine at_store (t := 125) ?_); refine wpList_store_blk _ rfl 125 _ _ rfl (w.heap.size + 1) (ZU 16).toArray 125 V rfl rfl HR.out HZ2.out H2.out H1.out ?_; intro w9 hb9 ho9))
                refine bodyPost_ret (results_cell_row (p := 8) (ty := 125) rfl _ _ (w.heap.size + 1) 125 _ (0, 0) _ rfl hb9 Tryd.underlying125 rfl H2A.out) rfl ?_
                rw [HV.out]
                exact ⟨rfl, HB.out.trans (ho9.below (by omega))⟩
          · skip
            go_simp
            refine hK.out _ _ (HVC.out _ (K0.out.alloc (.cells #[.int .u32 0, .int .u32 0, .int .u32 0, .int .u32 0] 148)).drew) (fun hHeld => ?_)
            clear hK K
            try simp only [Act.put, List.setIfInBounds_toArray, List.set_cons_zero, List.set_cons_succ]
            refine wpAnyH_ready (rs := [23]) (by kernel_rfl) (by simp) ?_
            refine AllReadyH.cons rfl (fun K hK => ?_) AllReadyH.nil
            go_simp
            with_reducible refine MXB.out.mono ?_
            rintro e w3 ⟨rfl, hb, ⟨x0, x1, x2, x3⟩, y0, y1, y2, y3⟩
            refine hK.out _ _ (HVC.out _ ((K0.out.alloc (.cells #[.int .u32 0, .int .u32 0, .int .u32 0, .int .u32 0] 148)).drew.low hb)) (fun hHeld => ?_)
            clear hK K
            try simp only [Act.put, List.setIfInBounds_toArray, List.set_cons_zero, List.set_cons_succ]
            refine wpAnyH_ready (rs := [25]) (by kernel_rfl) (by simp) ?_
            refine AllReadyH.cons rfl (fun K hK => ?_) AllReadyH.nil
            go_simp
            refine hK.out _ _ (HVC.out _ (((((K0.out.alloc (.cells #[.int .u32 0, .int .u32 0, .int .u32 0, .int .u32 0] 148)).drew.low hb).far _ _ _ GS.out).far _ _ _ GS.out).far _ _ _ GS.out |>.far _ _ _ GS.out)) (fun hHeld => ?_)
            clear hK K
            try simp only [Act.put, List.setIfInBounds_toArray, List.set_cons_zero, List.set_cons_succ]
            refine wpAnyH_done (by kernel_rfl) ?_ _
            refine NoPanic.normal ?_
            have J0 : Hid (JW w W2.heap.size q v ((((w3.setCell ⟨W2.heap.size, 0, none⟩ (.int .u32 (tn q.a))).setCell ⟨W2.heap.size, 1, none⟩ (.int .u32 (tn q.b))).setCell ⟨W2.heap.size, 2, none⟩ (.int .u32 (tn q.c))).setCell ⟨W2.heap.size, 3, none⟩ (.int .u32 (tn q.d)))) :=
              ⟨((((K0.out.alloc (.cells #[.int .u32 0, .int .u32 0, .int .u32 0, .int .u32 0] 148)).drew.low hb).far _ _ _ GS.out).far _ _ _ GS.out).far _ _ _ GS.out |>.far _ _ _ GS.out, four_set (NBK.out _ hb) _ _ _ _, GS.out⟩
            clear x0 x1 x2 x3 y0 y1 y2 y3 hHeld
            generalize (((w3.setCell ⟨W2.heap.size, 0, none⟩ (.int .u32 (tn q.a))).setCell ⟨W2.heap.size, 1, none⟩ (.int .u32 (tn q.b))).setCell ⟨W2.heap.size, 2, none⟩ (.int .u32 (tn q.c))).setCell ⟨W2.heap.size, 3, none⟩ (.int .u32 (tn q.d)) = W3 at *
            generalize W2.heap.size = g at *
            clear K0 MXB hb MX GS NBK v0 v1 v2 v3 D0 D1 D2 D3 ix0 ix1 ix2 ix3 HVC
            clear i0 i1 i2 i3 k0 k1 k2 k3 j0 j1 j2 j3 hS0
            go_wp2_with fail
            go_loopw [35] (fun i wr => ∃ j : Nat, j ≤ 4 ∧ i = .int .i64 j ∧ JW w g q (setD v d q j) wr) (fun i _ => 4 - (intOf i).toNat)
            case atStart => exact ⟨0, Nat.zero_le _, rfl, J0.out⟩
            case round =>
              obtain ⟨j, hj, rfl, hx⟩ := hrel
              have X := Lib.hid hx
              clear J0 hx
              by_cases hlt : j < 4
              · have ixj := fun w => IX.out j hlt w
                have DJ := Lib.hid (DG.out j hlt)
                have dj := HD.out j
                have dI0 : (0 : Int) ≤ (d j : Nat) := by omega
                have dI1 : ((d j : Nat) : Int) < 16 := by omega
                have jI0 : (0 : Int) ≤ (j : Nat) := by omega
                have jI1 : ((j : Nat) : Int) < 4 := by omega
                have vc := X.out.kw.vcell (d j) (by rw [setD_len, HL.out]; exact dj)
                have vf := X.out.kw.vb.frozen (d j)
                have mc := X.out.mcell j hlt
                have NX : Hid (JW w g q (setD v d q (j + 1)) (wr.setCell ⟨w.heap.size, d j, none⟩ (.int .u32 (tn (qf q j) : Int))).drew) := (X.out.step (d j) (qf q j)).drew
                have MC : Hid ((wr.setCell ⟨w.heap.size, d j, none⟩ (.int .u32 (tn (qf q j) : Int))).drew.cell? ⟨g, j, none⟩ = some (.int .u32 (tn (qf q j) : Int))) := NX.out.mcell j hlt
                have mcd : Hid (wr.drew.cell? ⟨g, j, none⟩ = some (.int .u32 (tn (qf q j) : Int))) := mc
                generalize setD v d q j = V at *
                generalize d j = dd at *
                generalize cs j = cc at *
                generalize qf q j = qq at *
                go_wp2_with fail
                go_region_held3 (fun w' => w'.cell? ⟨g, j, none⟩ = some (.int .u32 (tn qq : Int)))
                  (first | with_reducible exact mcd.out | with_reducible exact MC.out)
                  (first
                    | (go_at_call 105; with_reducible refine (DJ.out _).mono ?_; rintro e w4 ⟨rfl, rfl⟩))
                go_wp2_with fail
                exact ⟨⟨j + 1, by omega, by go_num, NX.out⟩, by simp [intOf]; omega⟩
              · obtain rfl : j = 4 := by omega
                have HMv := Lib.hid X.out.kw.vb
                have HR := Lib.hid X.out.kw.res
                have HB := Lib.hid X.out.kw.below
                have hlen : (UL (setD v d q 4)).length = 16 := by rw [UL.len, setD_len, HL.out]
                have HZ2 : Hid ((ZU 16).toArray.size = (UL (setD v d q 4)).length) := show _ = _ by rw [hlen]; rfl
                have H2 : Hid ((Tryd.prog.info? 125).map (·.size) = some (UL (setD v d q 4)).length) := show _ = _ by rw [hlen]; exact Tryd.i70
                have H2A : Hid ((Tryd.prog.info? 125).map (·.size) = some (UL (setD v d q 4)).toArray.size) := show _ = _ by rw [List.size_toArray, hlen]; exact Tryd.i70
                have H1 := Lib.hid (UL.one (setD v d q 4))
                clear X hlen
                generalize hV : UL (setD v d q 4) = V at *
                have HV := Lib.hid hV
                clear hV
                go_wp2_with (first
                  | ((with_reducible refine at_load (t := 125) ?_); refine wpList_load_mid rfl 125 _ rfl w.heap.size 0 rfl V _ HMv.out.rng Tryd.underlying125 rfl H2.out ?_)
                  | ((with_reducible refine at_store (t := 125) ?_); refine wpList_store_blk _ rfl 125 _ _ rfl (w.heap.size + 1) (ZU 16).toArray 125 V rfl rfl HR.out HZ2.out H2.out H1.out ?_; intro w9 hb9 ho9))
                refine bodyPost_ret (results_cell_row (p := 8) (ty := 125) rfl _ _ (w.heap.size + 1) 125 _ (0, 0) _ rfl hb9 Tryd.underlying125 rfl H2A.out) rfl ?_
                rw [HV.out]
                exact ⟨rfl, HB.out.trans (ho9.below (by omega))⟩
        · skip
          go_simp
          refine hK.out _ _ (HVC.out _ (K0.out.alloc (.cells #[.int .u32 0, .int .u32 0, .int .u32 0, .int .u32 0] 148)).drew) (fun hHeld => ?_)
          clear hK K
          try simp only [Act.put, List.setIfInBounds_toArray, List.set_cons_zero, List.set_cons_succ]
          refine wpAnyH_ready (rs := [17]) (by kernel_rfl) (by simp) ?_
          refine AllReadyH.cons rfl (fun K hK => ?_) AllReadyH.nil
          go_simp
          with_reducible refine (D3.out _).mono ?_
          rintro e w3 ⟨rfl, rfl⟩
          refine hK.out _ _ (HVC.out _ (K0.out.alloc (.cells #[.int .u32 0, .int .u32 0, .int .u32 0, .int .u32 0] 148)).drew) (fun hHeld => ?_)
          clear hK K
          try simp only [Act.put, List.setIfInBounds_toArray, List.set_cons_zero, List.set_cons_succ]
          refine take_d (i := 18) (d := 29) (v := .pointer (some ⟨w.heap.size, d 3, none⟩)) rfl rfl (by kernel_rfl) (by kernel_rfl) (by kernel_rfl) (fun _ _ _ h => h) (Or.inl ⟨by kernel_rfl, fun w hSw => by go_simp⟩) hHeld ?_
          try simp only [Act.put, List.setIfInBounds_toArray, List.set_cons_zero, List.set_cons_succ]
          refine take_d (i := 19) (d := 30) (v := .int .u32 (tn (gt v (d 3)) : Int)) rfl rfl (by kernel_rfl) (by kernel_rfl) (by kernel_rfl) (fun _ _ _ h => h) (Or.inl ⟨by kernel_rfl, fun w hSw => by obtain ⟨s0, s1, s2, s3⟩ := hSw; go_simp⟩) hHeld ?_
          try simp only [Act.put, List.setIfInBounds_toArray, List.set_cons_zero, List.set_cons_succ]
          refine take_d (i := 20) (d := 31) (v := .agg #[.int .u32 (tn (gt v (d 0))), .int .u32 (tn (gt v (d 1))), .int .u32 (tn (gt v (d 2))), .int .u32 (tn (gt v (d 3)))]) rfl rfl (by kernel_rfl) (by kernel_rfl) (by kernel_rfl) (fun _ _ _ h => h) (Or.inl ⟨by kernel_rfl, fun w hSw => by go_simp⟩) hHeld ?_
          try simp only [Act.put, List.setIfInBounds_toArray, List.set_cons_zero, List.set_cons_succ]
          refine wpAnyH_ready (rs := [23]) (by kernel_rfl) (by simp) ?_
          refine AllReadyH.cons rfl (fun K hK => ?_) AllReadyH.nil
          go_simp
          with_reducible refine MXB.out.mono ?_
          rintro e w3 ⟨rfl, hb, ⟨x0, x1, x2, x3⟩, y0, y1, y2, y3⟩
          refine hK.out _ _ (HVC.out _ ((K0.out.alloc (.cells #[.int .u32 0, .int .u32 0, .int .u32 0, .int .u32 0] 148)).drew.low hb)) (fun hHeld => ?_)
          clear hK K
          try simp only [Act.put, List.setIfInBounds_toArray, List.set_cons_zero, List.set_cons_succ]
          refine wpAnyH_ready (rs := [25]) (by kernel_rfl) (by simp) ?_
          refine AllReadyH.cons rfl (fun K hK => ?_) AllReadyH.nil
          go_simp
          refine hK.out _ _ (HVC.out _ (((((K0.out.alloc (.cells #[.int .u32 0, .int .u32 0, .int .u32 0, .int .u32 0] 148)).drew.low hb).far _ _ _ GS.out).far _ _ _ GS.out).far _ _ _ GS.out |>.far _ _ _ GS.out)) (fun hHeld => ?_)
          clear hK K
          try simp only [Act.put, List.setIfInBounds_toArray, List.set_cons_zero, List.set_cons_succ]
          refine wpAnyH_done (by kernel_rfl) ?_ _
          refine NoPanic.normal ?_
          have J0 : Hid (JW w W2.heap.size q v ((((w3.setCell ⟨W2.heap.size, 0, none⟩ (.int .u32 (tn q.a))).setCell ⟨W2.heap.size, 1, none⟩ (.int .u32 (tn q.b))).setCell ⟨W2.heap.size, 2, none⟩ (.int .u32 (tn q.c))).setCell ⟨W2.heap.size, 3, none⟩ (.int .u32 (tn q.d)))) :=
            ⟨((((K0.out.alloc (.cells #[.int .u32 0, .int .u32 0, .int .u32 0, .int .u32 0] 148)).drew.low hb).far _ _ _ GS.out).far _ _ _ GS.out).far _ _ _ GS.out |>.far _ _ _ GS.out, four_set (NBK.out _ hb) _ _ _ _, GS.out⟩
          clear x0 x1 x2 x3 y0 y1 y2 y3 hHeld
          generalize (((w3.setCell ⟨W2.heap.size, 0, none⟩ (.int .u32 (tn q.a))).setCell ⟨W2.heap.size, 1, none⟩ (.int .u32 (tn q.b))).setCell ⟨W2.heap.size, 2, none⟩ (.int .u32 (tn q.c))).setCell ⟨W2.heap.size, 3, none⟩ (.int .u32 (tn q.d)) = W3 at *
          generalize W2.heap.size = g at *
          clear K0 MXB hb MX GS NBK v0 v1 v2 v3 D0 D1 D2 D3 ix0 ix1 ix2 ix3 HVC
          clear i0 i1 i2 i3 k0 k1 k2 k3 j0 j1 j2 j3 hS0
          go_wp2_with fail
          go_loopw [35] (fun i wr => ∃ j : Nat, j ≤ 4 ∧ i = .int .i64 j ∧ JW w g q (setD v d q j) wr) (fun i _ => 4 - (intOf i).toNat)
          case atStart => exact ⟨0, Nat.zero_le _, rfl, J0.out⟩
          case round =>
            obtain ⟨j, hj, rfl, hx⟩ := hrel
            have X := Lib.hid hx
            clear J0 hx
            by_cases hlt : j < 4
            · have ixj := fun w => IX.out j hlt w
              have DJ := Lib.hid (DG.out j hlt)
              have dj := HD.out j
              have dI0 : (0 : Int) ≤ (d j : Nat) := by omega
              have dI1 : ((d j : Nat) : Int) < 16 := by omega
              have jI0 : (0 : Int) ≤ (j : Nat) := by omega
              have jI1 : ((j : Nat) : Int) < 4 := by omega
              have vc := X.out.kw.vcell (d j) (by rw [setD_len, HL.out]; exact dj)
              have vf := X.out.kw.vb.frozen (d j)
              have mc := X.out.mcell j hlt
              have NX : Hid (JW w g q (setD v d q (j + 1)) (wr.setCell ⟨w.heap.size, d j, none⟩ (.int .u32 (tn (qf q j) : Int))).drew) := (X.out.step (d j) (qf q j)).drew
              have MC : Hid ((wr.setCell ⟨w.heap.size, d j, none⟩ (.int .u32 (tn (qf q j) : Int))).drew.cell? ⟨g, j, none⟩ = some (.int .u32 (tn (qf q j) : Int))) := NX.out.mcell j hlt
              have mcd : Hid (wr.drew.cell? ⟨g, j, none⟩ = some (.int .u32 (tn (qf q j) : Int))) := mc
              generalize setD v d q j = V at *
              generalize d j = dd at *
              generalize cs j = cc at *
              generalize qf q j = qq at *
              go_wp2_with fail
              go_region_held3 (fun w' => w'.cell? ⟨g, j, none⟩ = some (.int .u32 (tn qq : Int)))
                (first | with_reducible exact mcd.out | with_reducible exact MC.out)
                (first
                  | (go_at_call 105; with_reducible refine (DJ.out _).mono ?_; rintro e w4 ⟨rfl, rfl⟩))
              go_wp2_with fail
              exact ⟨⟨j + 1, by omega, by go_num, NX.out⟩, by simp [intOf]; omega⟩
            · obtain rfl : j = 4 := by omega
              have HMv := Lib.hid X.out.kw.vb
              have HR := Lib.hid X.out.kw.res
              have HB := Lib.hid X.out.kw.below
              have hlen : (UL (setD v d q 4)).length = 16 := by rw [UL.len, setD_len, HL.out]
              have HZ2 : Hid ((ZU 16).toArray.size = (UL (setD v d q 4)).length) := show _ = _ by rw [hlen]; rfl
              have H2 : Hid ((Tryd.prog.info? 125).map (·.size) = some (UL (setD v d q 4)).length) := show _ = _ by rw [hlen]; exact Tryd.i70
              have H2A : Hid ((Tryd.prog.info? 125).map (·.size) = some (UL (setD v d q 4)).toArray.size) := show _ = _ by rw [List.size_toArray, hlen]; exact Tryd.i70
              have H1 := Lib.hid (UL.one (setD v d q 4))
              clear X hlen
              generalize hV : UL (setD v d q 4) = V at *
              have HV := Lib.hid hV
              clear hV
              go_wp2_with (first
                | ((with_reducible refine at_load (t := 125) ?_); refine wpList_load_mid rfl 125 _ rfl w.heap.size 0 rfl V _ HMv.out.rng Tryd.underlying125 rfl H2.out ?_)
                | ((with_reducible refine at_store (t := 125) ?_); refine wpList_store_blk _ rfl 125 _ _ rfl (w.heap.size + 1) (ZU 16).toArray 125 V rfl rfl HR.out HZ2.out H2.out H1.out ?_; intro w9 hb9 ho9))
              refine bodyPost_ret (results_cell_row (p := 8) (ty := 125) rfl _ _ (w.heap.size + 1) 125 _ (0, 0) _ rfl hb9 Tryd.underlying125 rfl H2A.out) rfl ?_
              rw [HV.out]
              exact ⟨rfl, HB.out.trans (ho9.below (by omega))⟩
      · skip
        go_simp
        refine hK.out _ _ (HVC.out _ (K0.out.alloc (.cells #[.int .u32 0, .int .u32 0, .int .u32 0, .int .u32 0] 148)).drew) (fun hHeld => ?_)
        clear hK K
        try simp only [Act.put, List.setIfInBounds_toArray, List.set_cons_zero, List.set_cons_succ]
        refine wpAnyH_ready (rs := [12]) (by kernel_rfl) (by simp) ?_
        refine AllReadyH.cons rfl (fun K hK => ?_) AllReadyH.nil
        go_simp
        with_reducible refine (D2.out _).mono ?_
        rintro e w3 ⟨rfl, rfl⟩
        refine hK.out _ _ (HVC.out _ (K0.out.alloc (.cells #[.int .u32 0, .int .u32 0, .int .u32 0, .int .u32 0] 148)).drew) (fun hHeld => ?_)
        clear hK K
        try simp only [Act.put, List.setIfInBounds_toArray, List.set_cons_zero, List.set_cons_succ]
        refine take_d (i := 13) (d := 24) (v := .pointer (some ⟨w.heap.size, d 2, none⟩)) rfl rfl (by kernel_rfl) (by kernel_rfl) (by kernel_rfl) (fun _ _ _ h => h) (Or.inl ⟨by kernel_rfl, fun w hSw => by go_simp⟩) hHeld ?_
        try simp only [Act.put, List.setIfInBounds_toArray, List.set_cons_zero, List.set_cons_succ]
        refine take_d (i := 14) (d := 25) (v := .int .u32 (tn (gt v (d 2)) : Int)) rfl rfl (by kernel_rfl) (by kernel_rfl) (by kernel_rfl) (fun _ _ _ h => h) (Or.inl ⟨by kernel_rfl, fun w hSw => by obtain ⟨s0, s1, s2, s3⟩ := hSw; go_simp⟩) hHeld ?_
        try simp only [Act.put, List.setIfInBounds_toArray, List.set_cons_zero, List.set_cons_succ]
        refine wpAnyH_ready (rs := [17]) (by kernel_rfl) (by simp) ?_
        refine AllReadyH.cons rfl (fun K hK => ?_) AllReadyH.nil
        go_simp
        with_reducible refine (D3.out _).mono ?_
        rintro e w3 ⟨rfl, rfl⟩
        refine hK.out _ _ (HVC.out _ (K0.out.alloc (.cells #[.int .u32 0, .int .u32 0, .int .u32 0, .int .u32 0] 148)).drew) (fun hHeld => ?_)
        clear hK K
        try simp only [Act.put, List.setIfInBounds_toArray, List.set_cons_zero, List.set_cons_succ]
        refine take_d (i := 18) (d := 29) (v := .pointer (some ⟨w.heap.size, d 3, none⟩)) rfl rfl (by kernel_rfl) (by kernel_rfl) (by kernel_rfl) (fun _ _ _ h => h) (Or.inl ⟨by kernel_rfl, fun w hSw => by go_simp⟩) hHeld ?_
        try simp only [Act.put, List.setIfInBounds_toArray, List.set_cons_zero, List.set_cons_succ]
        refine take_d (i := 19) (d := 30) (v := .int .u32 (tn (gt v (d 3)) : Int)) rfl rfl (by kernel_rfl) (by kernel_rfl) (by kernel_rfl) (fun _ _ _ h => h) (Or.inl ⟨by kernel_rfl, fun w hSw => by obtain ⟨s0, s1, s2, s3⟩ := hSw; go_simp⟩) hHeld ?_
        try simp only [Act.put, List.setIfInBounds_toArray, List.set_cons_zero, List.set_cons_succ]
        refine take_d (i := 20) (d := 31) (v := .agg #[.int .u32 (tn (gt v (d 0))), .int .u32 (tn (gt v (d 1))), .int .u32 (tn (gt v (d 2))), .int .u32 (tn (gt v (d 3)))]) rfl rfl (by kernel_rfl) (by kernel_rfl) (by kernel_rfl) (fun _ _ _ h => h) (Or.inl ⟨by kernel_rfl, fun w hSw => by go_simp⟩) hHeld ?_
        try simp only [Act.put, List.setIfInBounds_toArray, List.set_cons_zero, List.set_cons_succ]
        refine wpAnyH_ready (rs := [23]) (by kernel_rfl) (by simp) ?_
        refine AllReadyH.cons rfl (fun K hK => ?_) AllReadyH.nil
        go_simp
        with_reducible refine MXB.out.mono ?_
        rintro e w3 ⟨rfl, hb, ⟨x0, x1, x2, x3⟩, y0, y1, y2, y3⟩
        refine hK.out _ _ (HVC.out _ ((K0.out.alloc (.cells #[.int .u32 0, .int .u32 0, .int .u32 0, .int .u32 0] 148)).drew.low hb)) (fun hHeld => ?_)
        clear hK K
        try simp only [Act.put, List.setIfInBounds_toArray, List.set_cons_zero, List.set_cons_succ]
        refine wpAnyH_ready (rs := [25]) (by kernel_rfl) (by simp) ?_
        refine AllReadyH.cons rfl (fun K hK => ?_) AllReadyH.nil
        go_simp
        refine hK.out _ _ (HVC.out _ (((((K0.out.alloc (.cells #[.int .u32 0, .int .u32 0, .int .u32 0, .int .u32 0] 148)).drew.low hb).far _ _ _ GS.out).far _ _ _ GS.out).far _ _ _ GS.out |>.far _ _ _ GS.out)) (fun hHeld => ?_)
        clear hK K
        try simp only [Act.put, List.setIfInBounds_toArray, List.set_cons_zero, List.set_cons_succ]
        refine wpAnyH_done (by kernel_rfl) ?_ _
        refine NoPanic.normal ?_
        have J0 : Hid (JW w W2.heap.size q v ((((w3.setCell ⟨W2.heap.size, 0, none⟩ (.int .u32 (tn q.a))).setCell ⟨W2.heap.size, 1, none⟩ (.int .u32 (tn q.b))).setCell ⟨W2.heap.size, 2, none⟩ (.int .u32 (tn q.c))).setCell ⟨W2.heap.size, 3, none⟩ (.int .u32 (tn q.d)))) :=
          ⟨((((K0.out.alloc (.cells #[.int .u32 0, .int .u32 0, .int .u32 0, .int .u32 0] 148)).drew.low hb).far _ _ _ GS.out).far _ _ _ GS.out).far _ _ _ GS.out |>.far _ _ _ GS.out, four_set (NBK.out _ hb) _ _ _ _, GS.out⟩
        clear x0 x1 x2 x3 y0 y1 y2 y3 hHeld
        generalize (((w3.setCell ⟨W2.heap.size, 0, none⟩ (.int .u32 (tn q.a))).setCell ⟨W2.heap.size, 1, none⟩ (.int .u32 (tn q.b))).setCell ⟨W2.heap.size, 2, none⟩ (.int .u32 (tn q.c))).setCell ⟨W2.heap.size, 3, none⟩ (.int .u32 (tn q.d)) = W3 at *
        generalize W2.heap.size = g at *
        clear K0 MXB hb MX GS NBK v0 v1 v2 v3 D0 D1 D2 D3 ix0 ix1 ix2 ix3 HVC
        clear i0 i1 i2 i3 k0 k1 k2 k3 j0 j1 j2 j3 hS0
        go_wp2_with fail
        go_loopw [35] (fun i wr => ∃ j : Nat, j ≤ 4 ∧ i = .int .i64 j ∧ JW w g q (setD v d q j) wr) (fun i _ => 4 - (intOf i).toNat)
        case atStart => exact ⟨0, Nat.zero_le _, rfl, J0.out⟩
        case round =>
          obtain ⟨j, hj, rfl, hx⟩ := hrel
          have X := Lib.hid hx
          clear J0 hx
          by_cases hlt : j < 4
          · have ixj := fun w => IX.out j hlt w
            have DJ := Lib.hid (DG.out j hlt)
            have dj := HD.out j
            have dI0 : (0 : Int) ≤ (d j : Nat) := by omega
            have dI1 : ((d j : Nat) : Int) < 16 := by omega
            have jI0 : (0 : Int) ≤ (j : Nat) := by omega
            have jI1 : ((j : Nat) : Int) < 4 := by omega
            have vc := X.out.kw.vcell (d j) (by rw [setD_len, HL.out]; exact dj)
            have vf := X.out.kw.vb.frozen (d j)
            have mc := X.out.mcell j hlt
            have NX : Hid (JW w g q (setD v d q (j + 1)) (wr.setCell ⟨w.heap.size, d j, none⟩ (.int .u32 (tn (qf q j) : Int))).drew) := (X.out.step (d j) (qf q j)).drew
            have MC : Hid ((wr.setCell ⟨w.heap.size, d j, none⟩ (.int .u32 (tn (qf q j) : Int))).drew.cell? ⟨g, j, none⟩ = some (.int .u32 (tn (qf q j) : Int))) := NX.out.mcell j hlt
            have mcd : Hid (wr.drew.cell? ⟨g, j, none⟩ = some (.int .u32 (tn (qf q j) : Int))) := mc
            generalize setD v d q j = V at *
            generalize d j = dd at *
            generalize cs j = cc at *
            generalize qf q j = qq at *
            go_wp2_with fail
            go_region_held3 (fun w' => w'.cell? ⟨g, j, none⟩ = some (.int .u32 (tn qq : Int)))
              (first | with_reducible exact mcd.out | with_reducible exact MC.out)
              (first
                | (go_at_call 105; with_reducible refine (DJ.out _).mono ?_; rintro e w4 ⟨rfl, rfl⟩))
            go_wp2_with fail
            exact ⟨⟨j + 1, by omega, by go_num, NX.out⟩, by simp [intOf]; omega⟩
          · obtain rfl : j = 4 := by omega
            have HMv := Lib.hid X.out.kw.vb
            have HR := Lib.hid X.out.kw.res
            have HB := Lib.hid X.out.kw.below
            have hlen : (UL (setD v d q 4)).length = 16 := by rw [UL.len, setD_len, HL.out]
            have HZ2 : Hid ((ZU 16).toArray.size = (UL (setD v d q 4)).length) := show _ = _ by rw [hlen]; rfl
            have H2 : Hid ((Tryd.prog.info? 125).map (·.size) = some (UL (setD v d q 4)).length) := show _ = _ by rw [hlen]; exact Tryd.i70
            have H2A : Hid ((Tryd.prog.info? 125).map (·.size) = some (UL (setD v d q 4)).toArray.size) := show _ = _ by rw [List.size_toArray, hlen]; exact Tryd.i70
            have H1 := Lib.hid (UL.one (setD v d q 4))
            clear X hlen
            generalize hV : UL (setD v d q 4) = V at *
            have HV := Lib.hid hV
            clear hV
            go_wp2_with (first
              | ((with_reducible refine at_load (t := 125) ?_); refine wpList_load_mid rfl 125 _ rfl w.heap.size 0 rfl V _ HMv.out.rng Tryd.underlying125 rfl H2.out ?_)
              | ((with_reducible refine at_store (t := 125) ?_); refine wpList_store_blk _ rfl 125 _ _ rfl (w.heap.size + 1) (ZU 16).toArray 125 V rfl rfl HR.out HZ2.out H2.out H1.out ?_; intro w9 hb9 ho9))
            refine bodyPost_ret (results_cell_row (p := 8) (ty := 125) rfl _ _ (w.heap.size + 1) 125 _ (0, 0) _ rfl hb9 Tryd.underlying125 rfl H2A.out) rfl ?_
            rw [HV.out]
            exact ⟨rfl, HB.out.trans (ho9.below (by omega))⟩
    · skip
      go_simp
      refine hK.out _ _ (HVC.out _ (K0.out.alloc (.cells #[.int .u32 0, .int .u32 0, .int .u32 0, .int .u32 0] 148)).drew) (fun hHeld => ?_)
      clear hK K
      try simp only [Act.put, List.setIfInBounds_toArray, List.set_cons_zero, List.set_cons_succ]
      refine wpAnyH_ready (rs := [7]) (by kernel_rfl) (by simp) ?_
      refine AllReadyH.cons rfl (fun K hK => ?_) AllReadyH.nil
      go_simp
      with_reducible refine (D1.out _).mono ?_
      rintro e w3 ⟨rfl, rfl⟩
      refine hK.out _ _ (HVC.out _ (K0.out.alloc (.cells #[.int .u32 0, .int .u32 0, .int .u32 0, .int .u32 0] 148)).drew) (fun hHeld => ?_)
      clear hK K
      try simp only [Act.put, List.setIfInBounds_toArray, List.set_cons_zero, List.set_cons_succ]
      refine take_d (i := 8) (d := 19) (v := .pointer (some ⟨w.heap.size, d 1, none⟩)) rfl rfl (by kernel_rfl) (by kernel_rfl) (by kernel_rfl) (fun _ _ _ h => h) (Or.inl ⟨by kernel_rfl, fun w hSw => by go_simp⟩) hHeld ?_
      try simp only [Act.put, List.setIfInBounds_toArray, List.set_cons_zero, List.set_cons_succ]
      refine take_d (i := 9) (d := 20) (v := .int .u32 (tn (gt v (d 1)) : Int)) rfl rfl (by kernel_rfl) (by kernel_rfl) (by kernel_rfl) (fun _ _ _ h => h) (Or.inl ⟨by kernel_rfl, fun w hSw => by obtain ⟨s0, s1, s2, s3⟩ := hSw; go_simp⟩) hHeld ?_
      try simp only [Act.put, List.setIfInBounds_toArray, List.set_cons_zero, List.set_cons_succ]
      refine wpAnyH_ready (rs := [12]) (by kernel_rfl) (by simp) ?_
      refine AllReadyH.cons rfl (fun K hK => ?_) AllReadyH.nil
      go_simp
      with_reducible refine (D2.out _).mono ?_
      rintro e w3 ⟨rfl, rfl⟩
      refine hK.out _ _ (HVC.out _ (K0.out.alloc (.cells #[.int .u32 0, .int .u32 0, .int .u32 0, .int .u32 0] 148)).drew) (fun hHeld => ?_)
      clear hK K
      try simp only [Act.put, List.setIfInBounds_toArray, List.set_cons_zero, List.set_cons_succ]
      refine take_d (i := 13) (d := 24) (v := .pointer (some ⟨w.heap.size, d 2, none⟩)) rfl rfl (by kernel_rfl) (by kernel_rfl) (by kernel_rfl) (fun _ _ _ h => h) (Or.inl ⟨by kernel_rfl, fun w hSw => by go_simp⟩) hHeld ?_
      try simp only [Act.put, List.setIfInBounds_toArray, List.set_cons_zero, List.set_cons_succ]
      refine take_d (i := 14) (d := 25) (v := .int .u32 (tn (gt v (d 2)) : Int)) rfl rfl (by kernel_rfl) (by kernel_rfl) (by kernel_rfl) (fun _ _ _ h => h) (Or.inl ⟨by kernel_rfl, fun w hSw => by obtain ⟨s0, s1, s2, s3⟩ := hSw; go_simp⟩) hHeld ?_
      try simp only [Act.put, List.setIfInBounds_toArray, List.set_cons_zero, List.set_cons_succ]
      refine wpAnyH_ready (rs := [17]) (by kernel_rfl) (by simp) ?_
      refine AllReadyH.cons rfl (fun K hK => ?_) AllReadyH.nil
      go_simp
      with_reducible refine (D3.out _).mono ?_
      rintro e w3 ⟨rfl, rfl⟩
      refine hK.out _ _ (HVC.out _ (K0.out.alloc (.cells #[.int .u32 0, .int .u32 0, .int .u32 0, .int .u32 0] 148)).drew) (fun hHeld => ?_)
      clear hK K
      try simp only [Act.put, List.setIfInBounds_toArray, List.set_cons_zero, List.set_cons_succ]
      refine take_d (i := 18) (d := 29) (v := .pointer (some ⟨w.heap.size, d 3, none⟩)) rfl rfl (by kernel_rfl) (by kernel_rfl) (by kernel_rfl) (fun _ _ _ h => h) (Or.inl ⟨by kernel_rfl, fun w hSw => by go_simp⟩) hHeld ?_
      try simp only [Act.put, List.setIfInBounds_toArray, List.set_cons_zero, List.set_cons_succ]
      refine take_d (i := 19) (d := 30) (v := .int .u32 (tn (gt v (d 3)) : Int)) rfl rfl (by kernel_rfl) (by kernel_rfl) (by kernel_rfl) (fun _ _ _ h => h) (Or.inl ⟨by kernel_rfl, fun w hSw => by obtain ⟨s0, s1, s2, s3⟩ := hSw; go_simp⟩) hHeld ?_
      try simp only [Act.put, List.setIfInBounds_toArray, List.set_cons_zero, List.set_cons_succ]
      refine take_d (i := 20) (d := 31) (v := .agg #[.int .u32 (tn (gt v (d 0))), .int .u32 (tn (gt v (d 1))), .int .u32 (tn (gt v (d 2))), .int .u32 (tn (gt v (d 3)))]) rfl rfl (by kernel_rfl) (by kernel_rfl) (by kernel_rfl) (fun _ _ _ h => h) (Or.inl ⟨by kernel_rfl, fun w hSw => by go_simp⟩) hHeld ?_
      try simp only [Act.put, List.setIfInBounds_toArray, List.set_cons_zero, List.set_cons_succ]
      refine wpAnyH_ready (rs := [23]) (by kernel_rfl) (by simp) ?_
      refine AllReadyH.cons rfl (fun K hK => ?_) AllReadyH.nil
      go_simp
      with_reducible refine MXB.out.mono ?_
      rintro e w3 ⟨rfl, hb, ⟨x0, x1, x2, x3⟩, y0, y1, y2, y3⟩
      refine hK.out _ _ (HVC.out _ ((K0.out.alloc (.cells #[.int .u32 0, .int .u32 0, .int .u32 0, .int .u32 0] 148)).drew.low hb)) (fun hHeld => ?_)
      clear hK K
      try simp only [Act.put, List.setIfInBounds_toArray, List.set_cons_zero, List.set_cons_succ]
      refine wpAnyH_ready (rs := [25]) (by kernel_rfl) (by simp) ?_
      refine AllReadyH.cons rfl (fun K hK => ?_) AllReadyH.nil
      go_simp
      refine hK.out _ _ (HVC.out _ (((((K0.out.alloc (.cells #[.int .u32 0, .int .u32 0, .int .u32 0, .int .u32 0] 148)).drew.low hb).far _ _ _ GS.out).far _ _ _ GS.out).far _ _ _ GS.out |>.far _ _ _ GS.out)) (fun hHeld => ?_)
      clear hK K
      try simp only [Act.put, List.setIfInBounds_toArray, List.set_cons_zero, List.set_cons_succ]
      refine wpAnyH_done (by kernel_rfl) ?_ _
      refine NoPanic.normal ?_
      have J0 : Hid (JW w W2.heap.size q v ((((w3.setCell ⟨W2.heap.size, 0, none⟩ (.int .u32 (tn q.a))).setCell ⟨W2.heap.size, 1, none⟩ (.int .u32 (tn q.b))).setCell ⟨W2.heap.size, 2, none⟩ (.int .u32 (tn q.c))).setCell ⟨W2.heap.size, 3, none⟩ (.int .u32 (tn q.d)))) :=
        ⟨((((K0.out.alloc (.cells #[.int .u32 0, .int .u32 0, .int .u32 0, .int .u32 0] 148)).drew.low hb).far _ _ _ GS.out).far _ _ _ GS.out).far _ _ _ GS.out |>.far _ _ _ GS.out, four_set (NBK.out _ hb) _ _ _ _, GS.out⟩
      clear x0 x1 x2 x3 y0 y1 y2 y3 hHeld
      generalize (((w3.setCell ⟨W2.heap.size, 0, none⟩ (.int .u32 (tn q.a))).setCell ⟨W2.heap.size, 1, none⟩ (.int .u32 (tn q.b))).setCell ⟨W2.heap.size, 2, none⟩ (.int .u32 (tn q.c))).setCell ⟨W2.heap.size, 3, none⟩ (.int .u32 (tn q.d)) = W3 at *
      generalize W2.heap.size = g at *
      clear K0 MXB hb MX GS NBK v0 v1 v2 v3 D0 D1 D2 D3 ix0 ix1 ix2 ix3 HVC
      clear i0 i1 i2 i3 k0 k1 k2 k3 j0 j1 j2 j3 hS0
      go_wp2_with fail
      go_loopw [35] (fun i wr => ∃ j : Nat, j ≤ 4 ∧ i = .int .i64 j ∧ JW w g q (setD v d q j) wr) (fun i _ => 4 - (intOf i).toNat)
      case atStart => exact ⟨0, Nat.zero_le _, rfl, J0.out⟩
      case round =>
        obtain ⟨j, hj, rfl, hx⟩ := hrel
        have X := Lib.hid hx
        clear J0 hx
        by_cases hlt : j < 4
        · have ixj := fun w => IX.out j hlt w
          have DJ := Lib.hid (DG.out j hlt)
          have dj := HD.out j
          have dI0 : (0 : Int) ≤ (d j : Nat) := by omega
          have dI1 : ((d j : Nat) : Int) < 16 := by omega
          have jI0 : (0 : Int) ≤ (j : Nat) := by omega
          have jI1 : ((j : Nat) : Int) < 4 := by omega
          have vc := X.out.kw.vcell (d j) (by rw [setD_len, HL.out]; exact dj)
          have vf := X.out.kw.vb.frozen (d j)
          have mc := X.out.mcell j hlt
          have NX : Hid (JW w g q (setD v d q (j + 1)) (wr.setCell ⟨w.heap.size, d j, none⟩ (.int .u32 (tn (qf q j) : Int))).drew) := (X.out.step (d j) (qf q j)).drew
          have MC : Hid ((wr.setCell ⟨w.heap.size, d j, none⟩ (.int .u32 (tn (qf q j) : Int))).drew.cell? ⟨g, j, none⟩ = some (.int .u32 (tn (qf q j) : Int))) := NX.out.mcell j hlt
          have mcd : Hid (wr.drew.cell? ⟨g, j, none⟩ = some (.int .u32 (tn (qf q j) : Int))) := mc
          generalize setD v d q j = V at *
          generalize d j = dd at *
          generalize cs j = cc at *
          generalize qf q j = qq at *
          go_wp2_with fail
          go_region_held3 (fun w' => w'.cell? ⟨g, j, none⟩ = some (.int .u32 (tn qq : Int)))
            (first | with_reducible exact mcd.out | with_reducible exact MC.out)
            (first
              | (go_at_call 105; with_reducible refine (DJ.out _).mono ?_; rintro e w4 ⟨rfl, rfl⟩))
          go_wp2_with fail
          exact ⟨⟨j + 1, by omega, by go_num, NX.out⟩, by simp [intOf]; omega⟩
        · obtain rfl : j = 4 := by omega
          have HMv := Lib.hid X.out.kw.vb
          have HR := Lib.hid X.out.kw.res
          have HB := Lib.hid X.out.kw.below
          have hlen : (UL (setD v d q 4)).length = 16 := by rw [UL.len, setD_len, HL.out]
          have HZ2 : Hid ((ZU 16).toArray.size = (UL (setD v d q 4)).length) := show _ = _ by rw [hlen]; rfl
          have H2 : Hid ((Tryd.prog.info? 125).map (·.size) = some (UL (setD v d q 4)).length) := show _ = _ by rw [hlen]; exact Tryd.i70
          have H2A : Hid ((Tryd.prog.info? 125).map (·.size) = some (UL (setD v d q 4)).toArray.size) := show _ = _ by rw [List.size_toArray, hlen]; exact Tryd.i70
          have H1 := Lib.hid (UL.one (setD v d q 4))
          clear X hlen
          generalize hV : UL (setD v d q 4) = V at *
          have HV := Lib.hid hV
          clear hV
          go_wp2_with (first
            | ((with_reducible refine at_load (t := 125) ?_); refine wpList_load_mid rfl 125 _ rfl w.heap.size 0 rfl V _ HMv.out.rng Tryd.underlying125 rfl H2.out ?_)
            | ((with_reducible refine at_store (t := 125) ?_); refine wpList_store_blk _ rfl 125 _ _ rfl (w.heap.size + 1) (ZU 16).toArray 125 V rfl rfl HR.out HZ2.out H2.out H1.out ?_; intro w9 hb9 ho9))
          refine bodyPost_ret (results_cell_row (p := 8) (ty := 125) rfl _ _ (w.heap.size + 1) 125 _ (0, 0) _ rfl hb9 Tryd.underlying125 rfl H2A.out) rfl ?_
          rw [HV.out]
          exact ⟨rfl, HB.out.trans (ho9.below (by omega))⟩
  · skip
    go_simp
    refine hK.out _ _ (HVC.out _ (K0.out.alloc (.cells #[.int .u32 0, .int .u32 0, .int .u32 0, .int .u32 0] 148)).drew) (fun hHeld => ?_)
    clear hK K
    try simp only [Act.put, List.setIfInBounds_toArray, List.set_cons_zero, List.set_cons_succ]
    refine wpAnyH_ready (rs := [2]) (by kernel_rfl) (by simp) ?_
    refine AllReadyH.cons rfl (fun K hK => ?_) AllReadyH.nil
    go_simp
    with_reducible refine (D0.out _).mono ?_
    rintro e w3 ⟨rfl, rfl⟩
    refine hK.out _ _ (HVC.out _ (K0.out.alloc (.cells #[.int .u32 0, .int .u32 0, .int .u32 0, .int .u32 0] 148)).drew) (fun hHeld => ?_)
    clear hK K
    try simp only [Act.put, List.setIfInBounds_toArray, List.set_cons_zero, List.set_cons_succ]
    refine take_d (i := 3) (d := 14) (v := .pointer (some ⟨w.heap.size, d 0, none⟩)) rfl rfl (by kernel_rfl) (by kernel_rfl) (by kernel_rfl) (fun _ _ _ h => h) (Or.inl ⟨by kernel_rfl, fun w hSw => by go_simp⟩) hHeld ?_
    try simp only [Act.put, List.setIfInBounds_toArray, List.set_cons_zero, List.set_cons_succ]
    refine take_d (i := 4) (d := 15) (v := .int .u32 (tn (gt v (d 0)) : Int)) rfl rfl (by kernel_rfl) (by kernel_rfl) (by kernel_rfl) (fun _ _ _ h => h) (Or.inl ⟨by kernel_rfl, fun w hSw => by obtain ⟨s0, s1, s2, s3⟩ := hSw; go_simp⟩) hHeld ?_
    try simp only [Act.put, List.setIfInBounds_toArray, List.set_cons_zero, List.set_cons_succ]
    refine wpAnyH_ready (rs := [7]) (by kernel_rfl) (by simp) ?_
    refine AllReadyH.cons rfl (fun K hK => ?_) AllReadyH.nil
    go_simp
    with_reducible refine (D1.out _).mono ?_
    rintro e w3 ⟨rfl, rfl⟩
    refine hK.out _ _ (HVC.out _ (K0.out.alloc (.cells #[.int .u32 0, .int .u32 0, .int .u32 0, .int .u32 0] 148)).drew) (fun hHeld => ?_)
    clear hK K
    try simp only [Act.put, List.setIfInBounds_toArray, List.set_cons_zero, List.set_cons_succ]
    refine take_d (i := 8) (d := 19) (v := .pointer (some ⟨w.heap.size, d 1, none⟩)) rfl rfl (by kernel_rfl) (by kernel_rfl) (by kernel_rfl) (fun _ _ _ h => h) (Or.inl ⟨by kernel_rfl, fun w hSw => by go_simp⟩) hHeld ?_
    try simp only [Act.put, List.setIfInBounds_toArray, List.set_cons_zero, List.set_cons_succ]
    refine take_d (i := 9) (d := 20) (v := .int .u32 (tn (gt v (d 1)) : Int)) rfl rfl (by kernel_rfl) (by kernel_rfl) (by kernel_rfl) (fun _ _ _ h => h) (Or.inl ⟨by kernel_rfl, fun w hSw => by obtain ⟨s0, s1, s2, s3⟩ := hSw; go_simp⟩) hHeld ?_
    try simp only [Act.put, List.setIfInBounds_toArray, List.set_cons_zero, List.set_cons_succ]
    refine wpAnyH_ready (rs := [12]) (by kernel_rfl) (by simp) ?_
    refine AllReadyH.cons rfl (fun K hK => ?_) AllReadyH.nil
    go_simp
    with_reducible refine (D2.out _).mono ?_
    rintro e w3 ⟨rfl, rfl⟩
    refine hK.out _ _ (HVC.out _ (K0.out.alloc (.cells #[.int .u32 0, .int .u32 0, .int .u32 0, .int .u32 0] 148)).drew) (fun hHeld => ?_)
    clear hK K
    try simp only [Act.put, List.setIfInBounds_toArray, List.set_cons_zero, List.set_cons_succ]
    refine take_d (i := 13) (d := 24) (v := .pointer (some ⟨w.heap.size, d 2, none⟩)) rfl rfl (by kernel_rfl) (by kernel_rfl) (by kernel_rfl) (fun _ _ _ h => h) (Or.inl ⟨by kernel_rfl, fun w hSw => by go_simp⟩) hHeld ?_
    try simp only [Act.put, List.setIfInBounds_toArray, List.set_cons_zero, List.set_cons_succ]
    refine take_d (i := 14) (d := 25) (v := .int .u32 (tn (gt v (d 2)) : Int)) rfl rfl (by kernel_rfl) (by kernel_rfl) (by kernel_rfl) (fun _ _ _ h => h) (Or.inl ⟨by kernel_rfl, fun w hSw => by obtain ⟨s0, s1, s2, s3⟩ := hSw; go_simp⟩) hHeld ?_
    try simp only [Act.put, List.setIfInBounds_toArray, List.set_cons_zero, List.set_cons_succ]
    refine wpAnyH_ready (rs := [17]) (by kernel_rfl) (by simp) ?_
    refine AllReadyH.cons rfl (fun K hK => ?_) AllReadyH.nil
    go_simp
    with_reducible refine (D3.out _).mono ?_
    rintro e w3 ⟨rfl, rfl⟩
    refine hK.out _ _ (HVC.out _ (K0.out.alloc (.cells #[.int .u32 0, .int .u32 0, .int .u32 0, .int .u32 0] 148)).drew) (fun hHeld => ?_)
    clear hK K
    try simp only [Act.put, List.setIfInBounds_toArray, List.set_cons_zero, List.set_cons_succ]
    refine take_d (i := 18) (d := 29) (v := .pointer (some ⟨w.heap.size, d 3, none⟩)) rfl rfl (by kernel_rfl) (by kernel_rfl) (by kernel_rfl) (fun _ _ _ h => h) (Or.inl ⟨by kernel_rfl, fun w hSw => by go_simp⟩) hHeld ?_
    try simp only [Act.put, List.setIfInBounds_toArray, List.set_cons_zero, List.set_cons_succ]
    refine take_d (i := 19) (d := 30) (v := .int .u32 (tn (gt v (d 3)) : Int)) rfl rfl (by kernel_rfl) (by kernel_rfl) (by kernel_rfl) (fun _ _ _ h => h) (Or.inl ⟨by kernel_rfl, fun w hSw => by obtain ⟨s0, s1, s2, s3⟩ := hSw; go_simp⟩) hHeld ?_
    try simp only [Act.put, List.setIfInBounds_toArray, List.set_cons_zero, List.set_cons_succ]
    refine take_d (i := 20) (d := 31) (v := .agg #[.int .u32 (tn (gt v (d 0))), .int .u32 (tn (gt v (d 1))), .int .u32 (tn (gt v (d 2))), .int .u32 (tn (gt v (d 3)))]) rfl rfl (by kernel_rfl) (by kernel_rfl) (by kernel_rfl) (fun _ _ _ h => h) (Or.inl ⟨by kernel_rfl, fun w hSw => by go_simp⟩) hHeld ?_
    try simp only [Act.put, List.setIfInBounds_toArray, List.set_cons_zero, List.set_cons_succ]
    refine wpAnyH_ready (rs := [23]) (by kernel_rfl) (by simp) ?_
    refine AllReadyH.cons rfl (fun K hK => ?_) AllReadyH.nil
    go_simp
    with_reducible refine MXB.out.mono ?_
    rintro e w3 ⟨rfl, hb, ⟨x0, x1, x2, x3⟩, y0, y1, y2, y3⟩
    refine hK.out _ _ (HVC.out _ ((K0.out.alloc (.cells #[.int .u32 0, .int .u32 0, .int .u32 0, .int .u32 0] 148)).drew.low hb)) (fun hHeld => ?_)
    clear hK K
    try simp only [Act.put, List.setIfInBounds_toArray, List.set_cons_zero, List.set_cons_succ]
    refine wpAnyH_ready (rs := [25]) (by kernel_rfl) (by simp) ?_
    refine AllReadyH.cons rfl (fun K hK => ?_) AllReadyH.nil
    go_simp
    refine hK.out _ _ (HVC.out _ (((((K0.out.alloc (.cells #[.int .u32 0, .int .u32 0, .int .u32 0, .int .u32 0] 148)).drew.low hb).far _ _ _ GS.out).far _ _ _ GS.out).far _ _ _ GS.out |>.far _ _ _ GS.out)) (fun hHeld => ?_)
    clear hK K
    try simp only [Act.put, List.setIfInBounds_toArray, List.set_cons_zero, List.set_cons_succ]
    refine wpAnyH_done (by kernel_rfl) ?_ _
    refine NoPanic.normal ?_
    have J0 : Hid (JW w W2.heap.size q v ((((w3.setCell ⟨W2.heap.size, 0, none⟩ (.int .u32 (tn q.a))).setCell ⟨W2.heap.size, 1, none⟩ (.int .u32 (tn q.b))).setCell ⟨W2.heap.size, 2, none⟩ (.int .u32 (tn q.c))).setCell ⟨W2.heap.size, 3, none⟩ (.int .u32 (tn q.d)))) :=
      ⟨((((K0.out.alloc (.cells #[.int .u32 0, .int .u32 0, .int .u32 0, .int .u32 0] 148)).drew.low hb).far _ _ _ GS.out).far _ _ _ GS.out).far _ _ _ GS.out |>.far _ _ _ GS.out, four_set (NBK.out _ hb) _ _ _ _, GS.out⟩
    clear x0 x1 x2 x3 y0 y1 y2 y3 hHeld
    generalize (((w3.setCell ⟨W2.heap.size, 0, none⟩ (.int .u32 (tn q.a))).setCell ⟨W2.heap.size, 1, none⟩ (.int .u32 (tn q.b))).setCell ⟨W2.heap.size, 2, none⟩ (.int .u32 (tn q.c))).setCell ⟨W2.heap.size, 3, none⟩ (.int .u32 (tn q.d)) = W3 at *
    generalize W2.heap.size = g at *
    clear K0 MXB hb MX GS NBK v0 v1 v2 v3 D0 D1 D2 D3 ix0 ix1 ix2 ix3 HVC
    clear i0 i1 i2 i3 k0 k1 k2 k3 j0 j1 j2 j3 hS0
    go_wp2_with fail
    go_loopw [35] (fun i wr => ∃ j : Nat, j ≤ 4 ∧ i = .int .i64 j ∧ JW w g q (setD v d q j) wr) (fun i _ => 4 - (intOf i).toNat)
    case atStart => exact ⟨0, Nat.zero_le _, rfl, J0.out⟩
    case round =>
      obtain ⟨j, hj, rfl, hx⟩ := hrel
      have X := Lib.hid hx
      clear J0 hx
      by_cases hlt : j < 4
      · have ixj := fun w => IX.out j hlt w
        have DJ := Lib.hid (DG.out j hlt)
        have dj := HD.out j
        have dI0 : (0 : Int) ≤ (d j : Nat) := by omega
        have dI1 : ((d j : Nat) : Int) < 16 := by omega
        have jI0 : (0 : Int) ≤ (j : Nat) := by omega
        have jI1 : ((j : Nat) : Int) < 4 := by omega
        have vc := X.out.kw.vcell (d j) (by rw [setD_len, HL.out]; exact dj)
        have vf := X.out.kw.vb.frozen (d j)
        have mc := X.out.mcell j hlt
        have NX : Hid (JW w g q (setD v d q (j + 1)) (wr.setCell ⟨w.heap.size, d j, none⟩ (.int .u32 (tn (qf q j) : Int))).drew) := (X.out.step (d j) (qf q j)).drew
        have MC : Hid ((wr.setCell ⟨w.heap.size, d j, none⟩ (.int .u32 (tn (qf q j) : Int))).drew.cell? ⟨g, j, none⟩ = some (.int .u32 (tn (qf q j) : Int))) := NX.out.mcell j hlt
        have mcd : Hid (wr.drew.cell? ⟨g, j, none⟩ = some (.int .u32 (tn (qf q j) : Int))) := mc
        generalize setD v d q j = V at *
        generalize d j = dd at *
        generalize cs j = cc at *
        generalize qf q j = qq at *
        go_wp2_with fail
        go_region_held3 (fun w' => w'.cell? ⟨g, j, none⟩ = some (.int .u32 (tn qq : Int)))
          (first | with_reducible exact mcd.out | with_reducible exact MC.out)
          (first
            | (go_at_call 105; with_reducible refine (DJ.out _).mono ?_; rintro e w4 ⟨rfl, rfl⟩))
        go_wp2_with fail
        exact ⟨⟨j + 1, by omega, by go_num, NX.out⟩, by simp [intOf]; omega⟩
      · obtain rfl : j = 4 := by omega
        have HMv := Lib.hid X.out.kw.vb
        have HR := Lib.hid X.out.kw.res
        have HB := Lib.hid X.out.kw.below
        have hlen : (UL (setD v d q 4)).length = 16 := by rw [UL.len, setD_len, HL.out]
        have HZ2 : Hid ((ZU 16).toArray.size = (UL (setD v d q 4)).length) := show _ = _ by rw [hlen]; rfl
        have H2 : Hid ((Tryd.prog.info? 125).map (·.size) = some (UL (setD v d q 4)).length) := show _ = _ by rw [hlen]; exact Tryd.i70
        have H2A : Hid ((Tryd.prog.info? 125).map (·.size) = some (UL (setD v d q 4)).toArray.size) := show _ = _ by rw [List.size_toArray, hlen]; exact Tryd.i70
        have H1 := Lib.hid (UL.one (setD v d q 4))
        clear X hlen
        generalize hV : UL (setD v d q 4) = V at *
        have HV := Lib.hid hV
        clear hV
        go_wp2_with (first
          | ((with_reducible refine at_load (t := 125) ?_); refine wpList_load_mid rfl 125 _ rfl w.heap.size 0 rfl V _ HMv.out.rng Tryd.underlying125 rfl H2.out ?_)
          | ((with_reducible refine at_store (t := 125) ?_); refine wpList_store_blk _ rfl 125 _ _ rfl (w.heap.size + 1) (ZU 16).toArray 125 V rfl rfl HR.out HZ2.out H2.out H1.out ?_; intro w9 hb9 ho9))
        refine bodyPost_ret (results_cell_row (p := 8) (ty := 125) rfl _ _ (w.heap.size + 1) 125 _ (0, 0) _ rfl hb9 Tryd.underlying125 rfl H2A.out) rfl ?_
        rw [HV.out]
        exact ⟨rfl, HB.out.trans (ho9.below (by omega))⟩

end Go.Proofs.YtemfnckaehjhcaaDoor.Bk
