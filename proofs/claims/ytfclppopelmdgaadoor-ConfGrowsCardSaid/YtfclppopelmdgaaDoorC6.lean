/-
  Members: the program's Check, Has, Same, Majority, Step.
-/
import Derived.Test.YtfclppopelmdgaaDoorC5
namespace Go.Proofs.YtfclppopelmdgaaDoor
open Go.RowKit
attribute [local go_sem ↓] field27

def chkE (xs : List Int) : Int := if grp xs = 0 then 180 else 0
theorem check_any (A : Option Addr) (n c B : Nat) (xs : List Int) (w : World) (h : Is w B A n xs) (hn : n ≤ 1000000) (hB : B ≤ w.heap.size) (hG : Gl w) :
    Calls Tryd.prog 14 #[.agg #[.slice A n c]] w fun e w' => e = .returned (.int .i64 (chkE xs)) ∧ Below w.heap.size w w' := by
  have GO := Lib.hid (fun W (hW : Below w.heap.size w W) => groupof_any A n c B xs W (h.below (hW.mono hB)) hn (Nat.le_trans hB hW.size) (hG.low hW))
  have HB1 : Hid (Below w.heap.size w (w.alloc (.cells #[.slice A n c] 27))) := Lib.hid ((Below.refl _ _).alloc (Nat.le_refl _) _)
  clear h hG
  unfold chkE
  generalize grp xs = gr at *
  by_cases h0 : gr = 0
  · rw [if_pos h0]
    subst h0
    go_enter Tryd.func14, Tryd.ntmps14
    go_wp2_with (go_at_call 40; refine (GO.out _ HB1.out).mono ?_; rintro e w2 ⟨rfl, hb2⟩; have HB2 := Lib.hid (HB1.out.trans (hb2.mono HB1.out.size)); clear hb2)
    go_ret
    exact ⟨rfl, HB2.out⟩
  · rw [if_neg h0]
    have h1 : ((gr : Int) == 0) = false := by simp; omega
    clear h0
    go_enter Tryd.func14, Tryd.ntmps14
    go_wp2_with (go_at_call 40; refine (GO.out _ HB1.out).mono ?_; rintro e w2 ⟨rfl, hb2⟩; have HB2 := Lib.hid (HB1.out.trans (hb2.mono HB1.out.size)); clear hb2)
    go_ret
    exact ⟨rfl, HB2.out⟩

theorem hasc_any (m : Int) (A : Option Addr) (n c B : Nat) (xs : List Int) (w : World) (h : Is w B A n xs) (hn : n ≤ 1000000) (hB : B ≤ w.heap.size) (hG : Gl w) :
    Calls Tryd.prog 15 #[.agg #[.slice A n c], .int .i64 m] w fun e w' => e = .returned (.bool (inG (grp xs) m)) ∧ Below w.heap.size w w' := by
  have GO := Lib.hid (fun W (hW : Below w.heap.size w W) => groupof_any A n c B xs W (h.below (hW.mono hB)) hn (Nat.le_trans hB hW.size) (hG.low hW))
  have HB1 : Hid (Below w.heap.size w (w.alloc (.cells #[.slice A n c] 27))) := Lib.hid ((Below.refl _ _).alloc (Nat.le_refl _) _)
  have HA := Lib.hid (fun W => has_any (grp xs) (grp_lt xs) m W)
  clear h hG
  generalize grp xs = gr at *
  go_enter Tryd.func15, Tryd.ntmps15
  go_wp2_with (first | (go_at_call 40; refine (GO.out _ HB1.out).mono ?_; rintro e w2 ⟨rfl, hb2⟩; have HB2 := Lib.hid (HB1.out.trans (hb2.mono HB1.out.size)); clear hb2) | (go_at_call 41; refine (HA.out _).mono ?_; rintro e w3 ⟨rfl, rfl⟩))
  go_ret
  exact ⟨rfl, HB2.out⟩

theorem same_any (A A2 : Option Addr) (n c n2 c2 B B2 : Nat) (xs ys : List Int) (w : World) (h : Is w B A n xs) (h2 : Is w B2 A2 n2 ys) (hn : n ≤ 1000000) (hn2 : n2 ≤ 1000000) (hB : B ≤ w.heap.size) (hB2 : B2 ≤ w.heap.size) :
    Calls Tryd.prog 17 #[.agg #[.slice A n c], .agg #[.slice A2 n2 c2]] w fun e w' => e = .returned (.bool (xs == ys)) ∧ Below w.heap.size w w' := by
  have HB1 : Hid (Below w.heap.size w ((w.alloc (.cells #[.slice A n c] 27)).alloc (.cells #[.slice A2 n2 c2] 27))) := Lib.hid (((Below.refl _ _).alloc (Nat.le_refl _) _).alloc (by simp) _)
  have EQ := Lib.hid (fun W (hW : Below w.heap.size w W) => equal_ints A A2 n c n2 c2 B B2 xs ys W (h.below (hW.mono hB)) (h2.below (hW.mono hB2)) hn hn2)
  clear h h2
  go_enter Tryd.func17, Tryd.ntmps17
  go_wp2_with (go_at_call 21; refine (EQ.out _ HB1.out).mono ?_; rintro e w2 ⟨rfl, hb2⟩)
  go_ret
  exact ⟨rfl, HB1.out.trans (hb2.mono HB1.out.size)⟩

theorem majority_any (A2 : Option Addr) (n2 c2 B2 : Nat) (set : List Int) (A : Option Addr) (n c B : Nat) (xs : List Int) (w : World) (h : Is w B A n xs) (hn : n ≤ 1000000) (hB : B ≤ w.heap.size) (hG : Gl w) (h2 : Is w B2 A2 n2 set) (hn2 : n2 ≤ 1000000) (hB2 : B2 ≤ w.heap.size) :
    Calls Tryd.prog 19 #[.agg #[.slice A n c], .slice A2 n2 c2] w fun e w' => e = .returned (.bool (majB xs set)) ∧ Below w.heap.size w w' := by
  have GO := Lib.hid (fun W (hW : Below w.heap.size w W) => groupof_any A n c B xs W (h.below (hW.mono hB)) hn (Nat.le_trans hB hW.size) (hG.low hW))
  have HB1 : Hid (Below w.heap.size w (w.alloc (.cells #[.slice A n c] 27))) := Lib.hid ((Below.refl _ _).alloc (Nat.le_refl _) _)
  have AM := Lib.hid (fun W (hW : Below w.heap.size w W) => among_any A2 n2 c2 B2 set W (h2.below (hW.mono hB2)) hn2)
  have MO := Lib.hid (fun W => most_has (grp xs) (amg set) (grp_lt xs) (amg_lt set) W)
  clear h h2 hG
  unfold majB
  generalize grp xs = gr at *
  generalize amg set = X at *
  go_enter Tryd.func19, Tryd.ntmps19
  go_wp2_with (first | (go_at_call 40; refine (GO.out _ HB1.out).mono ?_; rintro e w2 ⟨rfl, hb2⟩; have HB2 := Lib.hid (HB1.out.trans (hb2.mono HB1.out.size)); clear hb2) | (go_at_call 43; refine (AM.out _ HB2.out).mono ?_; rintro e w3 ⟨rfl, rfl⟩) | (go_at_call 42; refine (MO.out _).mono ?_; rintro e w4 ⟨rfl, hb4⟩))
  go_ret
  exact ⟨rfl, HB2.out.trans (hb4.mono HB2.out.size)⟩

theorem xor_bits : ∀ a b : Fin 32, bits .xor .u8 (a.val : Int) (b.val : Int) = (Nat.xor a.val b.val : Nat) := by decide +kernel
theorem xor_lt : ∀ a b : Fin 32, Nat.xor a.val b.val < 32 := by decide +kernel
def stepE (xs ys : List Int) : Int := if grp xs = 0 ∨ grp ys = 0 then 180 else if 1 < pop (Nat.xor (grp xs) (grp ys)) then 181 else 0
set_option maxRecDepth 100000 in
set_option maxHeartbeats 2000000 in
theorem step_any (A2 : Option Addr) (n2 c2 B2 : Nat) (ys : List Int) (A : Option Addr) (n c B : Nat) (xs : List Int) (w : World) (h : Is w B A n xs) (hn : n ≤ 1000000) (hB : B ≤ w.heap.size) (hG : Gl w) (h2 : Is w B2 A2 n2 ys) (hn2 : n2 ≤ 1000000) (hB2 : B2 ≤ w.heap.size) :
    Calls Tryd.prog 25 #[.agg #[.slice A n c], .agg #[.slice A2 n2 c2]] w fun e w' => e = .returned (.int .i64 (stepE xs ys)) ∧ Below w.heap.size w w' := by
  obtain ⟨W1, hW1⟩ : ∃ W1, (w.alloc (.cells #[.slice A n c] 27)).alloc (.cells #[.slice A2 n2 c2] 27) = W1 := ⟨_, rfl⟩
  obtain ⟨g, hg⟩ : ∃ g, w.heap.size = g := ⟨_, rfl⟩
  have GO := Lib.hid (fun W (hW : Below g w W) => groupof_any A n c B xs W (h.below (hW.mono (by omega))) hn (Nat.le_trans hB hW.size) (hG.below hW (by have := hG.lt; omega)))
  have GP := Lib.hid (fun W (hW : Below g w W) => groupof_any A2 n2 c2 B2 ys W (h2.below (hW.mono (by omega))) hn2 (Nat.le_trans hB2 hW.size) (hG.below hW (by have := hG.lt; omega)))
  have B00 : Hid (Blk W1 g 27 #[.slice A n c]) := Lib.hid (by rw [← hW1, ← hg]; exact (Blk.new _ _ _).alloc _)
  have B10 : Hid (Blk W1 (g + 1) 27 #[.slice A2 n2 c2]) := Lib.hid (by rw [← hW1, ← hg]; exact Blk.fresh (by simp))
  have HB0 : Hid (Below g w W1) := Lib.hid (by rw [← hW1, ← hg]; exact ((Below.refl _ _).alloc (Nat.le_refl _) _).alloc (by simp) _)
  have HD : Hid (∀ W, Blk W g 27 #[.slice A n c] → Blk W (g + 1) 27 #[.slice A2 n2 c2] → W.cell? ⟨g, 0, none⟩ = some (.slice A n c) ∧ W.cell? ⟨g + 1, 0, none⟩ = some (.slice A2 n2 c2)) := Lib.hid (fun W h1 h2 => ⟨h1.cell 0, h2.cell 0⟩)
  have XB : Hid (bits .xor .u8 (grp xs : Int) (grp ys : Int) = (Nat.xor (grp xs) (grp ys) : Nat)) := Lib.hid (xor_bits ⟨grp xs, grp_lt xs⟩ ⟨grp ys, grp_lt ys⟩)
  have SZ := Lib.hid (fun W => size_any (Nat.xor (grp xs) (grp ys)) (xor_lt ⟨grp xs, grp_lt xs⟩ ⟨grp ys, grp_lt ys⟩) W)
  have PX : Hid (pop (Nat.xor (grp xs) (grp ys)) ≤ 5) := Lib.hid (pop_le _)
  have GS := Lib.hid hg
  clear h h2 hG
  unfold stepE
  generalize grp xs = X at *
  generalize grp ys = Y at *
  obtain ⟨E, hE⟩ : ∃ E : Int, (if X = 0 ∨ Y = 0 then 180 else if 1 < pop (Nat.xor X Y) then 181 else 0) = E := ⟨_, rfl⟩
  rw [hE]
  have HE := Lib.hid hE
  clear hE
  subst hW1
  go_enter Tryd.func25, Tryd.ntmps25
  go_upto_region 1 with (fail)
  generalize (w.alloc (.cells #[.slice A n c] 27)).alloc (.cells #[.slice A2 n2 c2] 27) = v0 at *
  have B01 := Lib.hid (B00.out.drewN 1)
  have B11 := Lib.hid (B10.out.drewN 1)
  have HB1 := Lib.hid HB0.out.drew
  clear hg
  refine wp_region_noPanic ?_
  refine wp_region_held_drew (S := fun w' => w'.cell? ⟨g, 0, none⟩ = some (.slice A n c) ∧ w'.cell? ⟨g + 1, 0, none⟩ = some (.slice A2 n2 c2)) (by kernel_rfl) (HD.out _ B01.out B11.out) (fun hHeld => ?_)
  refine take_d (i := 0) (d := 7) (v := ?z1) rfl rfl (by kernel_rfl) (by kernel_rfl) (by kernel_rfl) (fun _ _ _ h => h) (Or.inl ⟨by kernel_rfl, ?z1h⟩) hHeld ?z1n
  case z1h => (intro w hSw; (try dsimp only at hSw); go_split_ands; go_simp; (try exact rfl))
  try simp only [Act.put, List.setIfInBounds_toArray, List.set_cons_zero, List.set_cons_succ]
  refine take_d (i := 2) (d := 9) (v := ?z2) rfl rfl (by kernel_rfl) (by kernel_rfl) (by kernel_rfl) (fun _ _ _ h => h) (Or.inl ⟨by kernel_rfl, ?z2h⟩) hHeld ?z2n
  case z2h => (intro w hSw; (try dsimp only at hSw); go_split_ands; go_simp; (try exact rfl))
  try simp only [Act.put, List.setIfInBounds_toArray, List.set_cons_zero, List.set_cons_succ]
  refine wpAnyH_ready (rs := [1]) (by kernel_rfl) (by simp) ?_
  refine AllReadyH.cons rfl (fun K hK => ?_) AllReadyH.nil
  go_simp
  refine (GO.out _ HB1.out).mono ?_
  rintro e v2 ⟨rfl, hb⟩
  have HB2 := Lib.hid (HB1.out.trans (hb.mono (by rw [← GS.out]; exact HB1.out.size)))
  have B02 := Lib.hid (B01.out.below hb B01.out.lt)
  have B12 := Lib.hid (B11.out.below hb B11.out.lt)
  clear hb
  refine hK.out _ _ (HD.out _ B02.out B12.out) (fun hHeld => ?_)
  clear hK K
  try simp only [Act.put, List.setIfInBounds_toArray, List.set_cons_zero, List.set_cons_succ]
  refine wpAnyH_ready (rs := [3]) (by kernel_rfl) (by simp) ?_
  refine AllReadyH.cons rfl (fun K hK => ?_) AllReadyH.nil
  go_simp
  refine (GP.out _ HB2.out).mono ?_
  rintro e v3 ⟨rfl, hb⟩
  have HB3 := Lib.hid (HB2.out.trans (hb.mono (by rw [← GS.out]; exact HB2.out.size)))
  have B03 := Lib.hid (B02.out.below hb B02.out.lt)
  have B13 := Lib.hid (B12.out.below hb B12.out.lt)
  clear hb
  refine hK.out _ _ (HD.out _ B03.out B13.out) (fun hHeld => ?_)
  clear hK K
  try simp only [Act.put, List.setIfInBounds_toArray, List.set_cons_zero, List.set_cons_succ]
  refine take_d (i := 4) (d := 5) (v := ?z3) rfl rfl (by kernel_rfl) (by kernel_rfl) (by kernel_rfl) (fun _ _ _ h => h) (Or.inl ⟨by kernel_rfl, ?z3h⟩) hHeld ?z3n
  case z3h => (intro w hSw; (try dsimp only at hSw); go_split_ands; go_simp; (try exact rfl))
  try simp only [Act.put, List.setIfInBounds_toArray, List.set_cons_zero, List.set_cons_succ]
  refine take_d (i := 5) (d := 6) (v := ?z4) rfl rfl (by kernel_rfl) (by kernel_rfl) (by kernel_rfl) (fun _ _ _ h => h) (Or.inl ⟨by kernel_rfl, ?z4h⟩) hHeld ?z4n
  case z4h => (intro w hSw; (try dsimp only at hSw); go_split_ands; go_simp; (try exact rfl))
  try simp only [Act.put, List.setIfInBounds_toArray, List.set_cons_zero, List.set_cons_succ]
  refine wpAnyH_done (by kernel_rfl) ?_ _
  refine NoPanic.normal ?_
  have HEE := HE.out
  clear HE
  by_cases hx : X = 0
  · subst hx
    rw [if_pos (.inl rfl)] at HEE
    have HF := Lib.hid HEE
    clear HEE
    go_wp2
    go_ret
    exact ⟨ret_int HF.out, by rw [GS.out]; exact HB3.out⟩
  have x1 : ((X : Int) == 0) = false := by simp; omega
  by_cases hy : Y = 0
  · subst hy
    rw [if_pos (.inr rfl)] at HEE
    have HF := Lib.hid HEE
    clear HEE
    clear hx
    go_wp2
    go_ret
    exact ⟨ret_int HF.out, by rw [GS.out]; exact HB3.out⟩
  have y1 : ((Y : Int) == 0) = false := by simp; omega
  rw [if_neg (by omega)] at HEE
  clear hx hy
  have XB := XB.out
  generalize Nat.xor X Y = Z at *
  have PX := PX.out
  by_cases hz : 1 < pop Z
  · rw [if_pos hz] at HEE
    have HF := Lib.hid HEE
    clear HEE
    go_wp2_with (go_at_call 48; (try rw [XB]); refine (SZ.out _).mono ?_; rintro e w7 ⟨rfl, rfl⟩)
    go_ret
    exact ⟨ret_int HF.out, by rw [GS.out]; exact HB3.out⟩
  · rw [if_neg hz] at HEE
    have HF := Lib.hid HEE
    clear HEE
    go_wp2_with (go_at_call 48; (try rw [XB]); refine (SZ.out _).mono ?_; rintro e w7 ⟨rfl, rfl⟩)
    go_ret
    exact ⟨ret_int HF.out, by rw [GS.out]; exact HB3.out⟩
end Go.Proofs.YtfclppopelmdgaaDoor
