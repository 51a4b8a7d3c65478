/-
  round.
-/
import Derived.Test.YtemfnckaehjhcaaDoorBkA
import Derived.Test.YtemfnckaehjhcaaDoorBkBm
namespace Go.Proofs.YtemfnckaehjhcaaDoor.Bk
open Go.RowKit
attribute [local go_sem ↓] Tryd.z42 Tryd.z70 Tryd.z27 Tryd.z45 Tryd.z37 Tryd.z38

/-- Place j of four number k. -/
def fo (k j : Nat) : Nat := (foursL.getD k []).getD j 0
theorem fo_lt (k j : Nat) : fo k j < 16 := by
  have all : ∀ k : Fin 8, ∀ j : Fin 4, fo k.val j.val < 16 := by decide
  by_cases hk : k < 8
  · by_cases hj : j < 4
    · exact all ⟨k, hk⟩ ⟨j, hj⟩
    · have : fo k j = 0 := by
        have hl : (foursL.getD k []).length = 4 := by
          have al : ∀ k : Fin 8, (foursL.getD k.val []).length = 4 := by decide
          exact al ⟨k, hk⟩
        unfold fo
        rw [List.getD_eq_getElem?_getD, List.getElem?_eq_none (by omega)]
        rfl
      omega
  · have : fo k j = 0 := by
      unfold fo
      have : foursL.getD k [] = [] := by rw [List.getD_eq_getElem?_getD, List.getElem?_eq_none (by show foursL.length ≤ k; have : foursL.length = 8 := rfl; omega)]; rfl
      rw [this]
      rfl
    omega
theorem fo_ne (k : Nat) (hk : k < 8) : (¬ fo k 1 = fo k 0) ∧ (¬ fo k 2 = fo k 0) ∧ (¬ fo k 2 = fo k 1) ∧ (¬ fo k 3 = fo k 0) ∧ (¬ fo k 3 = fo k 1) ∧ (¬ fo k 3 = fo k 2) := by
  have all : ∀ k : Fin 8, (¬ fo k.val 1 = fo k.val 0) ∧ (¬ fo k.val 2 = fo k.val 0) ∧ (¬ fo k.val 2 = fo k.val 1) ∧ (¬ fo k.val 3 = fo k.val 0) ∧ (¬ fo k.val 3 = fo k.val 1) ∧ (¬ fo k.val 3 = fo k.val 2) := by decide
  exact all ⟨k, hk⟩
theorem fours_at (k j : Nat) (hk : k < 8) (hj : j < 4) : (IL foursL.flatten)[k * 4 + j]? = some (.int .i64 (fo k j : Int)) := by
  have all : ∀ k : Fin 8, ∀ j : Fin 4, foursL.flatten[k.val * 4 + j.val]? = some (fo k.val j.val) := by decide
  have := all ⟨k, hk⟩ ⟨j, hj⟩
  unfold IL
  rw [List.getElem?_map, this]
  rfl

/-- Four numbers of sixteen are mixed. -/
def four (v m : List (BitVec 32)) (o : List Nat) (k : Nat) : Q :=
  mixQ ⟨gt v (fo k 0), gt v (fo k 1), gt v (fo k 2), gt v (fo k 3)⟩ (gt m (o.getD (2 * k) 0)) (gt m (o.getD (2 * k + 1) 0))
def putQ (v : List (BitVec 32)) (k : Nat) (q : Q) : List (BitVec 32) := (((v.set (fo k 0) q.a).set (fo k 1) q.b).set (fo k 2) q.c).set (fo k 3) q.d
def roundL (v m : List (BitVec 32)) (o : List Nat) : Nat → List (BitVec 32)
  | 0 => v
  | k + 1 => putQ (roundL v m o k) k (four (roundL v m o k) m o k)
def roundF (v m : List (BitVec 32)) (o : List Nat) : List (BitVec 32) := roundL v m o 8
theorem roundL_len (v m : List (BitVec 32)) (o : List Nat) : ∀ k, (roundL v m o k).length = v.length
  | 0 => rfl
  | k + 1 => by simp only [roundL, putQ, List.length_set, roundL_len v m o k]

/-- Where one stands. -/
structure RW (w0 : World) (v m : List (BitVec 32)) (o : List Nat) (w : World) : Prop where
  below : Below w0.heap.size w0 w
  gl : Gl w
  g3 : 3 ≤ w0.heap.size
  vb : Blk w w0.heap.size 125 (UL v).toArray
  mb : Blk w (w0.heap.size + 1) 125 (UL m).toArray
  ob : Blk w (w0.heap.size + 1 + 1) 129 (IL o).toArray
  res : Blk w (w0.heap.size + 1 + 1 + 1) 125 (ZU 16).toArray
section
variable {w0 w w' : World} {v m : List (BitVec 32)} {o : List Nat}
theorem RW.low (h : RW w0 v m o w) (hb : Below w.heap.size w w') : RW w0 v m o w' :=
  ⟨h.below.trans (hb.mono h.below.size), h.gl.low hb, h.g3, h.vb.below hb h.vb.lt, h.mb.below hb h.mb.lt, h.ob.below hb h.ob.lt, h.res.below hb h.res.lt⟩
theorem RW.drew (h : RW w0 v m o w) : RW w0 v m o w.drew := ⟨h.below.drew, ⟨h.gl.s, h.gl.o, h.gl.f, h.gl.lt⟩, h.g3, h.vb, h.mb, h.ob, h.res⟩
theorem RW.drewN (h : RW w0 v m o w) (n : Nat) : RW w0 v m o (w.drewN n) := ⟨below_drewN h.below n, ⟨h.gl.s, h.gl.o, h.gl.f, h.gl.lt⟩, h.g3, h.vb, h.mb, h.ob, h.res⟩
theorem RW.alloc (h : RW w0 v m o w) (x : Obj) : RW w0 v m o (w.alloc x) := h.low ((Below.refl _ w).alloc (Nat.le_refl _) x)
theorem RW.set (h : RW w0 v m o w) (i : Nat) (x : BitVec 32) : RW w0 (v.set i x) m o (w.setCell ⟨w0.heap.size, i, none⟩ (.int .u32 (tn x : Int))) := by
  have b := h.below.setCell (p := ⟨w0.heap.size, i, none⟩) (Nat.le_refl _) (.int .u32 (tn x : Int))
  refine ⟨b, h.gl.below ((Below.refl _ w).setCell (B := w0.heap.size) (p := ⟨w0.heap.size, i, none⟩) (Nat.le_refl _) _) h.g3, h.g3, ?_, h.mb.far (by show _ ≠ w0.heap.size; omega) _, h.ob.far (by show _ ≠ w0.heap.size; omega) _, h.res.far (by show _ ≠ w0.heap.size; omega) _⟩
  have := h.vb.set_ i (.int .u32 (tn x : Int))
  rwa [UL.set] at this
theorem RW.far (h : RW w0 v m o w) (g i : Nat) (u : Value) (hg : w0.heap.size + 1 + 1 + 1 < g) : RW w0 v m o (w.setCell ⟨g, i, none⟩ u) :=
  ⟨h.below.setCell (by show _ ≤ g; omega) _, h.gl.below ((Below.refl _ w).setCell (B := w0.heap.size) (p := ⟨g, i, none⟩) (by show _ ≤ g; omega) _) h.g3, h.g3, h.vb.far (by show _ ≠ g; omega) _, h.mb.far (by show _ ≠ g; omega) _, h.ob.far (by show _ ≠ g; omega) _, h.res.far (by show _ ≠ g; omega) _⟩
theorem RW.vcell (h : RW w0 v m o w) (i : Nat) (hi : i < v.length) : w.cell? ⟨w0.heap.size, i, none⟩ = some (.int .u32 (tn (gt v i) : Int)) := (h.vb.cell i).trans (UL.gt hi)
theorem RW.mcell (h : RW w0 v m o w) (i : Nat) (hi : i < m.length) : w.cell? ⟨w0.heap.size + 1, i, none⟩ = some (.int .u32 (tn (gt m i) : Int)) := (h.mb.cell i).trans (UL.gt hi)
theorem RW.ocell (h : RW w0 v m o w) (i : Nat) (hi : i < o.length) : w.cell? ⟨w0.heap.size + 1 + 1, i, none⟩ = some (.int .i64 (o.getD i 0 : Int)) := (h.ob.cell i).trans (by rw [List.getElem?_toArray]; exact IL.get o i hi)
theorem RW.fcell (h : RW w0 v m o w) (k j : Nat) (hk : k < 8) (hj : j < 4) : w.cell? ⟨2, k * 4 + j, none⟩ = some (.int .i64 (fo k j : Int)) := by
  have := h.gl.f _ _ (fours_at k j hk hj)
  rwa [Nat.zero_add] at this
theorem RW.vcells (h : RW w0 v m o w) (a b c d : Nat) (ha : a < v.length) (hb : b < v.length) (hc : c < v.length) (hd : d < v.length) :
    w.cell? ⟨w0.heap.size, a, none⟩ = some (.int .u32 (tn (gt v a) : Int)) ∧ w.cell? ⟨w0.heap.size, b, none⟩ = some (.int .u32 (tn (gt v b) : Int)) ∧ w.cell? ⟨w0.heap.size, c, none⟩ = some (.int .u32 (tn (gt v c) : Int)) ∧ w.cell? ⟨w0.heap.size, d, none⟩ = some (.int .u32 (tn (gt v d) : Int)) :=
  ⟨h.vcell a ha, h.vcell b hb, h.vcell c hc, h.vcell d hd⟩
end

theorem fresh4s (w3 : World) (g : Nat) (u0 u1 u2 u3 : Value) (x0 : w3.cell? ⟨g, 0, none⟩ = some (.int .u32 0)) (x1 : w3.cell? ⟨g, 1, none⟩ = some (.int .u32 0)) (x2 : w3.cell? ⟨g, 2, none⟩ = some (.int .u32 0)) (x3 : w3.cell? ⟨g, 3, none⟩ = some (.int .u32 0)) :
    let W := (((w3.setCell ⟨g, 0, none⟩ u0).setCell ⟨g, 1, none⟩ u1).setCell ⟨g, 2, none⟩ u2).setCell ⟨g, 3, none⟩ u3
    W.cell? ⟨g, 0, none⟩ = some u0 ∧ W.cell? ⟨g, 1, none⟩ = some u1 ∧ W.cell? ⟨g, 2, none⟩ = some u2 ∧ W.cell? ⟨g, 3, none⟩ = some u3 := by
  refine ⟨?_, ?_, ?_, ?_⟩ <;> simp [x0, x1, x2, x3, World.cell?_setCell_other, World.cell?_setCell_same']
theorem mix_agg (a b c d x y : BitVec 32) (w : World) : Calls Tryd.prog 113 #[.agg #[.int .u32 (tn a), .int .u32 (tn b), .int .u32 (tn c), .int .u32 (tn d)], .int .u32 (tn x), .int .u32 (tn y)] w fun e w' =>
    e = .returned (.agg #[.int .u32 (tn (mixQ ⟨a, b, c, d⟩ x y).a), .int .u32 (tn (mixQ ⟨a, b, c, d⟩ x y).b), .int .u32 (tn (mixQ ⟨a, b, c, d⟩ x y).c), .int .u32 (tn (mixQ ⟨a, b, c, d⟩ x y).d)]) ∧ Below w.heap.size w w' :=
  mix_any ⟨a, b, c, d⟩ x y w

theorem fresh4 {Wa w3 : World} {g : Nat} (hb : Below Wa.heap.size Wa w3) (hg : Blk Wa g 148 #[.int .u32 0, .int .u32 0, .int .u32 0, .int .u32 0]) :
    (w3.cell? ⟨g, 0, none⟩ = some (.int .u32 0) ∧ w3.cell? ⟨g, 1, none⟩ = some (.int .u32 0) ∧ w3.cell? ⟨g, 2, none⟩ = some (.int .u32 0) ∧ w3.cell? ⟨g, 3, none⟩ = some (.int .u32 0)) ∧
    (w3.frozen? ⟨g, 0, none⟩ = false ∧ w3.frozen? ⟨g, 1, none⟩ = false ∧ w3.frozen? ⟨g, 2, none⟩ = false ∧ w3.frozen? ⟨g, 3, none⟩ = false) := by
  have h := hg.below hb hg.lt
  exact ⟨⟨h.cell 0, h.cell 1, h.cell 2, h.cell 3⟩, h.frozen 0, h.frozen 1, h.frozen 2, h.frozen 3⟩

set_option maxRecDepth 100000 in
set_option maxHeartbeats 4000000 in
theorem round_any (v m : List (BitVec 32)) (o : List Nat) (hv : v.length = 16) (hm : m.length = 16) (ho : o.length = 16) (h16 : ∀ i, o.getD i 0 < 16) (w : World) (hG : Gl w) :
    Calls Tryd.prog 96 #[.agg (UL v).toArray, .agg (UL m).toArray, .agg (IL o).toArray] w fun e w' => e = .returned (.agg (UL (roundF v m o)).toArray) ∧ Below w.heap.size w w' := by
  have r0 : Hid (RW w v m o ((((w.alloc (.cells (UL v).toArray 125)).alloc (.cells (UL m).toArray 125)).alloc (.cells (IL o).toArray 129)).alloc (.cells (ZU 16).toArray 125))) :=
    have b := ((((Below.refl _ w).alloc (Nat.le_refl _) (.cells (UL v).toArray 125)).alloc (by simp) (.cells (UL m).toArray 125)).alloc (by simp; omega) (.cells (IL o).toArray 129)).alloc (by simp; omega) (.cells (ZU 16).toArray 125)
    ⟨b, hG.low b, hG.lt, (((Blk.new w 125 _).alloc _).alloc _).alloc _, ((Blk.new' _ 125 _ (by simp)).alloc _).alloc _, (Blk.new' _ 129 _ (by simp)).alloc _, Blk.new' _ 125 _ (by simp)⟩
  have HL := Lib.hid hv
  have HM := Lib.hid hm
  have HO := Lib.hid ho
  have H16 := Lib.hid h16
  clear hG hv hm ho h16
  generalize hX : UL v = X at *
  generalize hY : UL m = Y at *
  generalize hZ : IL o = Z at *
  have HX := Lib.hid hX
  clear hX hY hZ
  go_enter Tryd.func96, Tryd.ntmps96
  go_wp2_with fail
  generalize (((w.alloc (.cells X.toArray 125)).alloc (.cells Y.toArray 125)).alloc (.cells Z.toArray 129)).alloc (.cells (ZU 16).toArray 125) = W at *
  go_loopw [15] (fun i wr => ∃ k : Nat, k ≤ 8 ∧ i = .int .i64 k ∧ RW w (roundL v m o k) m o wr) (fun i _ => 8 - (intOf i).toNat)
  case atStart => exact ⟨0, Nat.zero_le _, rfl, r0.out⟩
  case round =>
    obtain ⟨k, hk, rfl, hr⟩ := hrel
    have R := Lib.hid hr
    clear r0 hr
    by_cases hlt : k < 8
    · have hl : (roundL v m o k).length = 16 := by rw [roundL_len, HL.out]
      have p0 := R.out.fcell k 0 hlt (by omega)
      have p1 := R.out.fcell k 1 hlt (by omega)
      have p2 := R.out.fcell k 2 hlt (by omega)
      have p3 := R.out.fcell k 3 hlt (by omega)
      rw [Nat.add_zero] at p0
      have a0 := fo_lt k 0
      have a1 := fo_lt k 1
      have a2 := fo_lt k 2
      have a3 := fo_lt k 3
      have NE := Lib.hid (fo_ne k hlt)
      have b0 := H16.out (2 * k)
      have b1 := H16.out (2 * k + 1)
      have RN : Hid (roundL v m o (k + 1) = ((((roundL v m o k).set (fo k 0) (mixQ ⟨gt (roundL v m o k) (fo k 0), gt (roundL v m o k) (fo k 1), gt (roundL v m o k) (fo k 2), gt (roundL v m o k) (fo k 3)⟩ (gt m (o.getD (2 * k) 0)) (gt m (o.getD (2 * k + 1) 0))).a).set (fo k 1) (mixQ ⟨gt (roundL v m o k) (fo k 0), gt (roundL v m o k) (fo k 1), gt (roundL v m o k) (fo k 2), gt (roundL v m o k) (fo k 3)⟩ (gt m (o.getD (2 * k) 0)) (gt m (o.getD (2 * k + 1) 0))).b).set (fo k 2) (mixQ ⟨gt (roundL v m o k) (fo k 0), gt (roundL v m o k) (fo k 1), gt (roundL v m o k) (fo k 2), gt (roundL v m o k) (fo k 3)⟩ (gt m (o.getD (2 * k) 0)) (gt m (o.getD (2 * k + 1) 0))).c).set (fo k 3) (mixQ ⟨gt (roundL v m o k) (fo k 0), gt (roundL v m o k) (fo k 1), gt (roundL v m o k) (fo k 2), gt (roundL v m o k) (fo k 3)⟩ (gt m (o.getD (2 * k) 0)) (gt m (o.getD (2 * k + 1) 0))).d) := show _ = _ from rfl
      generalize roundL v m o k = V at *
      generalize fo k 0 = fa at *
      generalize fo k 1 = fb at *
      generalize fo k 2 = fc at *
      generalize fo k 3 = fd at *
      have HOA : Hid (o.getD (2 * k) 0 = o.getD (2 * k) 0) := show _ = _ from rfl
      have HOB : Hid (o.getD (2 * k + 1) 0 = o.getD (2 * k + 1) 0) := show _ = _ from rfl
      have HKO : Hid (2 * k + 1 < o.length) := show _ < _ by rw [HO.out]; omega
      have OC : Hid (∀ w2, RW w V m o w2 → w2.cell? ⟨w.heap.size + 1 + 1, 2 * k, none⟩ = some (.int .i64 (o.getD (2 * k) 0 : Int)) ∧ w2.cell? ⟨w.heap.size + 1 + 1, 2 * k + 1, none⟩ = some (.int .i64 (o.getD (2 * k + 1) 0 : Int))) := fun w2 h => ⟨h.ocell _ (by have := HKO.out; omega), h.ocell _ HKO.out⟩
      clear HOA HOB HKO
      generalize o.getD (2 * k) 0 = oa at *
      generalize o.getD (2 * k + 1) 0 = ob at *
      have HV := Lib.hid hl
      clear hl
      go_wp2_with fail
      go_quiet (fail)
      go_wp2_with fail
      have R1 := Lib.hid (R.out.drewN nq)
      clear R p0 p1 p2 p3
      generalize wr.drewN nq = W1 at *
      obtain ⟨q0, q1⟩ := OC.out _ R1.out
      have m0 := R1.out.mcell oa (by rw [HM.out]; exact b0)
      have m1 := R1.out.mcell ob (by rw [HM.out]; exact b1)
      have e1 : IntKind.i64.wrap (2 * (k : Int)) = 2 * (k : Int) := IntWalk.i64_in _ (by omega)
      have e2 : IntKind.i64.wrap (2 * (k : Int) + 1) = 2 * (k : Int) + 1 := IntWalk.i64_in _ (by omega)
      have e3 : 0 ≤ 2 * (k : Int) := by omega
      have e4 : 0 ≤ 2 * (k : Int) + 1 := by omega
      have e5 : 2 * (k : Int) < 16 := by omega
      have e6 : 2 * (k : Int) + 1 < 16 := by omega
      have e7 : (2 * (k : Int)).toNat = 2 * k := by omega
      have e8 : (2 * (k : Int) + 1).toNat = 2 * k + 1 := by omega
      go_quiet (fail)
      clear e1 e2 e3 e4 e5 e6 e7 e8
      go_wp2_with fail
      have R2 := Lib.hid (R1.out.drewN nq)
      clear R1 q0 q1 m0 m1
      generalize W1.drewN nq = W2 at *
      have HVC : Hid (∀ w2, RW w V m o w2 → w2.cell? ⟨w.heap.size, fa, none⟩ = some (.int .u32 (tn (gt V fa) : Int)) ∧ w2.cell? ⟨w.heap.size, fb, none⟩ = some (.int .u32 (tn (gt V fb) : Int)) ∧ w2.cell? ⟨w.heap.size, fc, none⟩ = some (.int .u32 (tn (gt V fc) : Int)) ∧ w2.cell? ⟨w.heap.size, fd, none⟩ = some (.int .u32 (tn (gt V fd) : Int))) :=
        fun w2 h => h.vcells fa fb fc fd (by rw [HV.out]; exact a0) (by rw [HV.out]; exact a1) (by rw [HV.out]; exact a2) (by rw [HV.out]; exact a3)
      have MX := Lib.hid (mix_agg (gt V fa) (gt V fb) (gt V fc) (gt V fd) (gt m oa) (gt m ob))
      generalize mixQ ⟨gt V fa, gt V fb, gt V fc, gt V fd⟩ (gt m oa) (gt m ob) = q at *
      have i0 : (0 : Int) ≤ fa := by omega
      have i1 : (0 : Int) ≤ fb := by omega
      have i2 : (0 : Int) ≤ fc := by omega
      have i3 : (0 : Int) ≤ fd := by omega
      have j0 : (fa : Int) < 16 := by omega
      have j1 : (fb : Int) < 16 := by omega
      have j2 : (fc : Int) < 16 := by omega
      have j3 : (fd : Int) < 16 := by omega
      have MXB := Lib.hid ((MX.out (W2.alloc (.cells #[.int .u32 0, .int .u32 0, .int .u32 0, .int .u32 0] 148)).drew).mono fun e w' h => show _ ∧ _ ∧ _ ∧ _ from ⟨h.1, h.2, fresh4 h.2 (show Blk (W2.alloc (.cells #[.int .u32 0, .int .u32 0, .int .u32 0, .int .u32 0] 148)).drew W2.heap.size 148 _ from Blk.new W2 148 _)⟩)
      obtain ⟨v0, v1, v2, v3⟩ := HVC.out _ R2.out
      have GS : Hid (w.heap.size + 1 + 1 + 1 < W2.heap.size) := R2.out.res.lt
      go_region_held3 (fun w' => w'.cell? ⟨w.heap.size, fa, none⟩ = some (.int .u32 (tn (gt V fa) : Int)) ∧ w'.cell? ⟨w.heap.size, fb, none⟩ = some (.int .u32 (tn (gt V fb) : Int)) ∧ w'.cell? ⟨w.heap.size, fc, none⟩ = some (.int .u32 (tn (gt V fc) : Int)) ∧ w'.cell? ⟨w.heap.size, fd, none⟩ = some (.int .u32 (tn (gt V fd) : Int)))
        (first | with_reducible exact HVC.out _ R2.out.drew | with_reducible exact HVC.out _ (R2.out.alloc (.cells #[.int .u32 0, .int .u32 0, .int .u32 0, .int .u32 0] 148)).drew | with_reducible exact HVC.out _ ((R2.out.alloc (.cells #[.int .u32 0, .int .u32 0, .int .u32 0, .int .u32 0] 148)).drew.low hb) | with_reducible exact HVC.out _ (((((R2.out.alloc (.cells #[.int .u32 0, .int .u32 0, .int .u32 0, .int .u32 0] 148)).drew.low hb).far _ _ _ GS.out).far _ _ _ GS.out).far _ _ _ GS.out |>.far _ _ _ GS.out) | with_reducible exact HVC.out _ (R2.out.drew.low hb) | with_reducible exact HVC.out _ ((R2.out.drew.low hb).alloc _))
        (first
          | (go_at_call 113; with_reducible refine MXB.out.mono ?_; rintro e w3 ⟨rfl, hb, ⟨x0, x1, x2, x3⟩, y0, y1, y2, y3⟩)
          | (go_at_call 113; with_reducible refine (MX.out _).mono ?_; rintro e w3 ⟨rfl, hb⟩))
      · have R3 : Hid (RW w V m o (w3.alloc (.cells #[.int .u32 (tn q.a), .int .u32 (tn q.b), .int .u32 (tn q.c), .int .u32 (tn q.d)] 148))) := (R2.out.drew.low hb).alloc _
        have C3 : Hid ((w3.alloc (.cells #[.int .u32 (tn q.a), .int .u32 (tn q.b), .int .u32 (tn q.c), .int .u32 (tn q.d)] 148)).cell? ⟨w3.heap.size, 0, none⟩ = some (.int .u32 (tn q.a)) ∧ (w3.alloc (.cells #[.int .u32 (tn q.a), .int .u32 (tn q.b), .int .u32 (tn q.c), .int .u32 (tn q.d)] 148)).cell? ⟨w3.heap.size, 1, none⟩ = some (.int .u32 (tn q.b)) ∧ (w3.alloc (.cells #[.int .u32 (tn q.a), .int .u32 (tn q.b), .int .u32 (tn q.c), .int .u32 (tn q.d)] 148)).cell? ⟨w3.heap.size, 2, none⟩ = some (.int .u32 (tn q.c)) ∧ (w3.alloc (.cells #[.int .u32 (tn q.a), .int .u32 (tn q.b), .int .u32 (tn q.c), .int .u32 (tn q.d)] 148)).cell? ⟨w3.heap.size, 3, none⟩ = some (.int .u32 (tn q.d))) :=
          have b := Blk.new w3 148 #[.int .u32 (tn q.a), .int .u32 (tn q.b), .int .u32 (tn q.c), .int .u32 (tn q.d)]
          ⟨b.cell 0, b.cell 1, b.cell 2, b.cell 3⟩
        have hg1 : ¬ w3.heap.size = w.heap.size := by have := (R2.out.drew.low hb).vb.lt; omega
        clear R2 MX MXB hb v0 v1 v2 v3
        go_wp2_with fail
        generalize w3.alloc (.cells #[.int .u32 (tn q.a), .int .u32 (tn q.b), .int .u32 (tn q.c), .int .u32 (tn q.d)] 148) = W3 at *
        generalize w3.heap.size = g3 at *
        obtain ⟨v0, v1, v2, v3⟩ := HVC.out _ R3.out
        have f0 := R3.out.vb.frozen fa
        have f1 := R3.out.vb.frozen fb
        have f2 := R3.out.vb.frozen fc
        have f3 := R3.out.vb.frozen fd
        obtain ⟨c0, c1, c2, c3⟩ := C3.out
        have hg2 : ¬ w.heap.size = g3 := fun h => hg1 h.symm
        obtain ⟨n1, n2, n3, n4, n5, n6⟩ := NE.out
        go_region
        go_wp2_with fail
        refine ⟨⟨k + 1, by omega, by go_num, ?_⟩, by simp [intOf]; omega⟩
        rw [RN.out]
        exact ((((R3.out.set fa q.a).set fb q.b).set fc q.c).set fd q.d).drew
      · have R3 : Hid (RW w V m o ((((w3.setCell ⟨W2.heap.size, 0, none⟩ (.int .u32 (tn q.a))).setCell ⟨W2.heap.size, 1, none⟩ (.int .u32 (tn q.b))).setCell ⟨W2.heap.size, 2, none⟩ (.int .u32 (tn q.c))).setCell ⟨W2.heap.size, 3, none⟩ (.int .u32 (tn q.d)))) := (((((R2.out.alloc (.cells #[.int .u32 0, .int .u32 0, .int .u32 0, .int .u32 0] 148)).drew.low hb).far _ _ _ GS.out).far _ _ _ GS.out).far _ _ _ GS.out).far _ _ _ GS.out
        have C3 := Lib.hid (fresh4s w3 W2.heap.size (.int .u32 (tn q.a)) (.int .u32 (tn q.b)) (.int .u32 (tn q.c)) (.int .u32 (tn q.d)) x0 x1 x2 x3)
        dsimp only at C3
        have hg1 : ¬ W2.heap.size = w.heap.size := by have := GS.out; omega
        clear R2 MX MXB hb GS v0 v1 v2 v3 x0 x1 x2 x3 y0 y1 y2 y3
        go_wp2_with fail
        generalize (((w3.setCell ⟨W2.heap.size, 0, none⟩ (.int .u32 (tn q.a))).setCell ⟨W2.heap.size, 1, none⟩ (.int .u32 (tn q.b))).setCell ⟨W2.heap.size, 2, none⟩ (.int .u32 (tn q.c))).setCell ⟨W2.heap.size, 3, none⟩ (.int .u32 (tn q.d)) = W3 at *
        generalize W2.heap.size = g3 at *
        obtain ⟨v0, v1, v2, v3⟩ := HVC.out _ R3.out
        have f0 := R3.out.vb.frozen fa
        have f1 := R3.out.vb.frozen fb
        have f2 := R3.out.vb.frozen fc
        have f3 := R3.out.vb.frozen fd
        obtain ⟨c0, c1, c2, c3⟩ := C3.out
        have hg2 : ¬ w.heap.size = g3 := fun h => hg1 h.symm
        obtain ⟨n1, n2, n3, n4, n5, n6⟩ := NE.out
        go_region
        go_wp2_with fail
        refine ⟨⟨k + 1, by omega, by go_num, ?_⟩, by simp [intOf]; omega⟩
        rw [RN.out]
        exact ((((R3.out.set fa q.a).set fb q.b).set fc q.c).set fd q.d).drew
    · obtain rfl : k = 8 := by omega
      have HMv := Lib.hid R.out.vb
      have HR := Lib.hid R.out.res
      have HB := Lib.hid R.out.below
      have hlen : (UL (roundL v m o 8)).length = 16 := by rw [UL.len, roundL_len, HL.out]
      have HZ2 : Hid ((ZU 16).toArray.size = (UL (roundL v m o 8)).length) := show _ = _ by rw [hlen]; rfl
      have H2 : Hid ((Tryd.prog.info? 125).map (·.size) = some (UL (roundL v m o 8)).length) := show _ = _ by rw [hlen]; exact Tryd.i70
      have H2A : Hid ((Tryd.prog.info? 125).map (·.size) = some (UL (roundL v m o 8)).toArray.size) := show _ = _ by rw [List.size_toArray, hlen]; exact Tryd.i70
      have H1 := Lib.hid (UL.one (roundL v m o 8))
      clear R hlen
      generalize hV : UL (roundL v m o 8) = V at *
      have HV : Hid (UL (roundF v m o) = V) := hV
      clear hV
      go_wp2_with (first
        | ((with_reducible refine at_load (t := 125) ?_); refine wpList_load_mid rfl 125 _ rfl w.heap.size 0 rfl V _ HMv.out.rng Tryd.underlying125 rfl H2.out ?_)
        | ((with_reducible refine at_store (t := 125) ?_); refine wpList_store_blk _ rfl 125 _ _ rfl (w.heap.size + 1 + 1 + 1) (ZU 16).toArray 125 V rfl rfl HR.out HZ2.out H2.out H1.out ?_; intro w9 hb9 ho9))
      refine bodyPost_ret (results_cell_row (p := 6) (ty := 125) rfl _ _ (w.heap.size + 1 + 1 + 1) 125 _ (0, 0) _ rfl hb9 Tryd.underlying125 rfl H2A.out) rfl ?_
      rw [HV.out]
      exact ⟨rfl, HB.out.trans (ho9.below (by omega))⟩

end Go.Proofs.YtemfnckaehjhcaaDoor.Bk
