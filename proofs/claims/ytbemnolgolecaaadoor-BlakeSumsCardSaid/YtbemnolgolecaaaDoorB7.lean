/-
  numbers.
-/
import Derived.Test.YtbemnolgolecaaaDoorB6
import Derived.Test.YtbemnolgolecaaaDoorB2
import Derived.Test.YtbemnolgolecaaaDoorRead5
namespace Go.Proofs.YtbemnolgolecaaaDoor
open Go.RowKit
attribute [local go_sem ↓] Tryd.z42 Tryd.z70 Tryd.z27 Tryd.z45 Tryd.z37 Tryd.z38

/-- Number j of a block, its bytes the highest first. -/
def numw (b : List Int) (j : Nat) : BitVec 32 := bv (num ((b.drop (4 * j)).take 4))
def numbersL (b : List Int) (j : Nat) : List (BitVec 32) := (List.range j).map fun i => rev (numw b i)
def numbersF (b : List Int) : List (BitVec 32) := numbersL b 16
theorem numbersL_len (b : List Int) (j : Nat) : (numbersL b j).length = j := by simp [numbersL]
theorem numbersL_succ (b : List Int) (j : Nat) : numbersL b (j + 1) = numbersL b j ++ [rev (numw b j)] := by simp [numbersL, List.range_succ]

/-- Where one stands. -/
structure NW (w0 : World) (b : List Int) (j : Nat) (w : World) : Prop where
  below : Below w0.heap.size w0 w
  rd : Rd w (w0.heap.size + 1 + 1 + 1) ((4 * j : Nat) : Int) 0 (some ⟨w0.heap.size, 0, none⟩) 64 64
  bb : Blk w w0.heap.size 45 (BL b).toArray
  res : Blk w (w0.heap.size + 1) 70 (ZU 16).toArray
  mb : Blk w (w0.heap.size + 1 + 1) 70 (UL (numbersL b j ++ List.replicate (16 - j) 0)).toArray
  len : b.length = 64
  bs : Bs b

theorem NW.by_ {w0 w : World} {b : List Int} {j : Nat} (h : NW w0 b j w) : By w (w0.heap.size + 1 + 1 + 1) (some ⟨w0.heap.size, 0, none⟩) 64 b :=
  ⟨h.len, h.bs, fun _ => ⟨w0.heap.size, 0, rfl, by omega, fun i hi => by
    rw [Nat.zero_add, h.bb.cell, List.getElem?_toArray]
    exact BL.get b i (by rw [h.len]; exact hi)⟩⟩
theorem NW.word {w0 w : World} {b : List Int} {j : Nat} (h : NW w0 b j w) (hj : j < 16) :
    Calls Tryd.prog 47 #[.pointer (some ⟨w0.heap.size + 1 + 1 + 1, 0, none⟩)] w fun e w' => e = .returned (.int .u32 (tn (numw b j) : Int)) ∧ Rd w' (w0.heap.size + 1 + 1 + 1) ((4 * (j + 1) : Nat) : Int) 0 (some ⟨w0.heap.size, 0, none⟩) 64 64 ∧ w.grownBy w' (some (w0.heap.size + 1 + 1 + 1)) := by
  refine (u32_any (w0.heap.size + 1 + 1 + 1) (4 * j) 0 _ 64 64 b w h.rd h.by_ (by omega) (by omega) (by omega)).mono fun e w' ⟨he, hm⟩ => ?_
  have h1 : okN 64 (4 * j) 0 4 = true := by simp [okN]; omega
  have h2 : nAt 64 (4 * j) 0 4 = 4 * (j + 1) := by simp [nAt, h1]; omega
  have h3 : nErr 64 (4 * j) 0 4 = 0 := by simp only [nErr]; rw [if_pos (by decide), if_neg (by omega), if_neg (by omega)]
  have h4 : nBytes b (4 * j) 0 4 = (b.drop (4 * j)).take 4 := by simp [nBytes, h.len, h1]
  have hr : 0 ≤ num (nBytes b (4 * j) 0 4) ∧ num (nBytes b (4 * j) 0 4) < ((256 ^ 4 : Nat) : Int) := num_nBytes h.bs (4 * j) 0 4 (by omega)
  rw [h2, h3] at hm
  rw [h4] at he hr
  refine ⟨?_, hm.1, hm.2⟩
  rw [he]
  unfold numw
  have := mod_tn (num ((b.drop (4 * j)).take 4))
  rw [← this]
  exact ret_int (Int.emod_eq_of_lt hr.1 (by simpa using hr.2)).symm
theorem NW.step {w0 w w' : World} {b : List Int} {j : Nat} (h : NW w0 b j w) (hj : j < 16) (hr : Rd w' (w0.heap.size + 1 + 1 + 1) ((4 * (j + 1) : Nat) : Int) 0 (some ⟨w0.heap.size, 0, none⟩) 64 64) (hg : w.grownBy w' (some (w0.heap.size + 1 + 1 + 1))) :
    NW w0 b (j + 1) (w'.setCell ⟨w0.heap.size + 1 + 1, j, none⟩ (.int .u32 (tn (rev (numw b j)) : Int))) := by
  have hk : ∀ g t cs, g ≠ w0.heap.size + 1 + 1 + 1 → Blk w g t cs → Blk w' g t cs := fun g t cs hn hb => (hg.block g hb.lt (fun e => by injection e with e; exact hn e)).trans hb
  have b1 := hk _ _ _ (by omega) h.bb
  have b2 := hk _ _ _ (by omega) h.res
  have b3 := hk _ _ _ (by omega) h.mb
  refine ⟨?_, Blk.far hr (by show _ ≠ w0.heap.size + 1 + 1; omega) _, b1.far (by show _ ≠ w0.heap.size + 1 + 1; omega) _, b2.far (by show _ ≠ w0.heap.size + 1 + 1; omega) _, ?_, h.len, h.bs⟩
  · exact (h.below.grown hg h.below.size (fun k hk => by injection hk with hk; omega)).setCell (by show _ ≤ w0.heap.size + 1 + 1; omega) _
  · have := b3.set_ j (.int .u32 (tn (rev (numw b j)) : Int))
    rw [UL.set] at this
    have e : (numbersL b j ++ List.replicate (16 - j) 0).set j (rev (numw b j)) = numbersL b (j + 1) ++ List.replicate (16 - (j + 1)) 0 := by
      rw [List.set_append_right _ _ (by rw [numbersL_len]; exact Nat.le_refl _), numbersL_len, Nat.sub_self, numbersL_succ, List.append_assoc]
      congr 1
      rw [show 16 - j = (16 - (j + 1)) + 1 by omega, List.replicate_succ]
      rfl
    rw [e] at this
    exact this
theorem NW.cell {w0 w w' : World} {b : List Int} {j : Nat} (h : NW w0 b j w) (hj : j < 16) (hg : w.grownBy w' (some (w0.heap.size + 1 + 1 + 1))) :
    w'.cell? ⟨w0.heap.size + 1 + 1, j, none⟩ = some (.int .u32 (tn (gt (numbersL b j ++ List.replicate (16 - j) 0) j) : Int)) ∧ w'.frozen? ⟨w0.heap.size + 1 + 1, j, none⟩ = false := by
  have b3 : Blk w' (w0.heap.size + 1 + 1) 70 _ := (hg.block _ h.mb.lt (fun e => by injection e with e; omega)).trans h.mb
  exact ⟨(b3.cell j).trans (UL.gt (by rw [List.length_append, numbersL_len, List.length_replicate]; omega)), b3.frozen j⟩

set_option maxRecDepth 100000 in
set_option maxHeartbeats 1000000 in
theorem numbers_any (b : List Int) (hb : b.length = 64) (bs : Bs b) (w : World) :
    Calls Tryd.prog 36 #[.agg (BL b).toArray] w fun e w' => e = .returned (.agg (UL (numbersF b)).toArray) ∧ Below w.heap.size w w' := by
  have n0 : Hid (NW w b 0 ((((w.alloc (.cells (BL b).toArray 45)).alloc (.cells (ZU 16).toArray 70)).alloc (.cells (ZU 16).toArray 70)).alloc (.cells #[.int .i64 0, .int .i64 0, .slice (some ⟨w.heap.size, 0, none⟩) 64 64] 89))) :=
    ⟨((((Below.refl _ w).alloc (Nat.le_refl _) _).alloc (by simp) _).alloc (by simp; omega) _).alloc (by simp; omega) _, Blk.new' _ 89 _ (by simp), (((Blk.new w 45 _).alloc _).alloc _).alloc _, ((Blk.new' _ 70 _ (by simp)).alloc _).alloc _, (Blk.new' _ 70 _ (by simp)).alloc _, hb, bs⟩
  clear hb bs
  generalize hX : BL b = X at *
  have HX := Lib.hid hX
  clear hX
  go_enter Tryd.func36, Tryd.ntmps36
  go_wp2_with (go_at_call 46; refine (read_any _ _ _ _).mono ?_; rintro e w' ⟨rfl, rfl⟩)
  go_loopw [8] (fun i wr => ∃ k : Nat, k ≤ 16 ∧ i = .int .i64 k ∧ NW w b k wr) (fun i _ => 16 - (intOf i).toNat)
  case atStart => exact ⟨0, Nat.zero_le _, rfl, n0.out⟩
  case round =>
    obtain ⟨k, hk, rfl, hn⟩ := hrel
    have N := Lib.hid hn
    clear n0 hn
    by_cases hlt : k < 16
    · go_wp2_with fail
      refine (N.out.word hlt).mono ?_
      rintro e w1 ⟨rfl, hr, hg⟩
      obtain ⟨c3, f3⟩ := N.out.cell hlt hg
      have NS := Lib.hid (N.out.step hlt hr hg)
      clear N hr hg
      generalize numw b k = x at *
      go_wp2_with (go_at_call 43; refine (rev_any _ _).mono ?_; rintro e w2 ⟨rfl, rfl⟩)
      exact ⟨⟨k + 1, by omega, by go_num, NS.out⟩, by simp [intOf]; omega⟩
    · obtain rfl : k = 16 := by omega
      have hm := N.out.mb
      rw [show List.replicate (16 - 16) (0 : BitVec 32) = [] from rfl, List.append_nil] at hm
      have HM := Lib.hid hm
      have HR := Lib.hid N.out.res
      have HB := Lib.hid N.out.below
      have hlen : (UL (numbersL b 16)).length = 16 := by rw [UL.len, numbersL_len]
      have HZ : Hid ((ZU 16).toArray.size = (UL (numbersL b 16)).length) := show _ = _ by rw [hlen]; rfl
      have H2 : Hid ((Tryd.prog.info? 70).map (·.size) = some (UL (numbersL b 16)).length) := show _ = _ by rw [hlen]; exact Tryd.i70
      have H2A : Hid ((Tryd.prog.info? 70).map (·.size) = some (UL (numbersL b 16)).toArray.size) := show _ = _ by rw [List.size_toArray, hlen]; exact Tryd.i70
      have H1 := Lib.hid (UL.one (numbersL b 16))
      clear N hm hlen
      generalize hV : UL (numbersL b 16) = V at *
      have HV : Hid (UL (numbersF b) = V) := hV
      clear hV
      go_wp2_with (first
        | ((with_reducible refine at_load (t := 70) ?_); refine wpList_load_mid rfl 70 _ rfl (w.heap.size + 1 + 1) 0 rfl V _ HM.out.rng Tryd.underlying70 rfl H2.out ?_)
        | ((with_reducible refine at_store (t := 70) ?_); refine wpList_store_blk _ rfl 70 _ _ rfl (w.heap.size + 1) (ZU 16).toArray 70 V rfl rfl HR.out HZ.out H2.out H1.out ?_; intro w9 hb9 ho9))
      refine bodyPost_ret (results_cell_row (p := 2) (ty := 70) rfl _ _ (w.heap.size + 1) 70 _ (0, 0) _ rfl hb9 Tryd.underlying70 rfl H2A.out) rfl ?_
      rw [HV.out]
      exact ⟨rfl, HB.out.trans (ho9.below (by omega))⟩

end Go.Proofs.YtbemnolgolecaaaDoor
