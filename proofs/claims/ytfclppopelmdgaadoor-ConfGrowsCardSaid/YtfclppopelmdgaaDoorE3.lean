/-
  How far each is: the program's howFar.
-/
import Derived.Test.YtfclppopelmdgaaDoorE2
import Derived.Shelf.RegionOpen
namespace Go.Proofs.YtfclppopelmdgaaDoor
open Go.RowKit

theorem Tryd.i71 : (Tryd.prog.info? 71).map (·.size) = some 6 := by kernel_rfl
def farC (f : Nat → Int) : Array Value := #[.int .u64 0, .int .u64 (f 1), .int .u64 (f 2), .int .u64 (f 3), .int .u64 (f 4), .int .u64 (f 5)]
set_option maxRecDepth 100000 in
set_option maxHeartbeats 8000000 in
theorem howfar_any (A : Option Addr) (n c B : Nat) (l : List (Int × Int)) (w : World) (h : Mt w B A n l) (hn : n ≤ 1000000) (hB : B ≤ w.heap.size) :
    Calls Tryd.prog 45 #[.slice A n c] w fun e w' => e = .returned (.agg (farC fun i => comeF l (i : Int))) ∧ Below w.heap.size w w' := by
  have HL := Lib.hid h.1
  have HB2 := Lib.hid h.2.1
  have H := Lib.hid (fun W (hW : Below w.heap.size w W) => (h.below (hW.mono hB)).2.2)
  have E : Hid (∀ i : Nat, comeF (l.take n) (i : Int) = comeF l (i : Int)) := Lib.hid (fun i => by rw [List.take_of_length_le (by rw [h.1]; omega)])
  have S := Lib.hid (fun (i : Nat) k (hk : k < l.length) => come_take hk (i : Int))
  obtain ⟨CK, hCK⟩ : ∃ CK : Nat → Nat → Int, CK = fun (i k : Nat) => comeF (l.take k) (i : Int) := ⟨_, rfl⟩
  have E' : Hid (farC (fun i => comeF l (i : Int)) = farC (fun i => CK i n)) := Lib.hid (by rw [hCK]; unfold farC; simp only [E.out])
  have Z' : Hid (∀ i, CK i 0 = 0) := Lib.hid (fun i => by rw [hCK]; rfl)
  have S' : Hid (∀ k, k < n → ∀ i : Nat, CK i (k + 1) = if (l.getD k (0, 0)).1 = (i : Int) ∧ CK i k < (l.getD k (0, 0)).2 then (l.getD k (0, 0)).2 else CK i k) := Lib.hid (fun k hk i => by rw [hCK]; exact S.out i k (by rw [HL.out]; exact hk))
  have I00 : Hid (Blk ((w.alloc (.cells #[.int .u64 0, .int .u64 0, .int .u64 0, .int .u64 0, .int .u64 0, .int .u64 0] 71)).alloc (.cells #[.int .u64 0, .int .u64 0, .int .u64 0, .int .u64 0, .int .u64 0, .int .u64 0] 71)) w.heap.size 71 #[.int .u64 0, .int .u64 0, .int .u64 0, .int .u64 0, .int .u64 0, .int .u64 0]) := Lib.hid ((Blk.new _ _ _).alloc _)
  have I10 : Hid (Blk ((w.alloc (.cells #[.int .u64 0, .int .u64 0, .int .u64 0, .int .u64 0, .int .u64 0, .int .u64 0] 71)).alloc (.cells #[.int .u64 0, .int .u64 0, .int .u64 0, .int .u64 0, .int .u64 0, .int .u64 0] 71)) (w.heap.size + 1) 71 (farC fun i => CK i 0)) := Lib.hid (by unfold farC; simp only [Z'.out]; exact Blk.fresh (by simp))
  have IB0 : Hid (Below w.heap.size w ((w.alloc (.cells #[.int .u64 0, .int .u64 0, .int .u64 0, .int .u64 0, .int .u64 0, .int .u64 0] 71)).alloc (.cells #[.int .u64 0, .int .u64 0, .int .u64 0, .int .u64 0, .int .u64 0, .int .u64 0] 71))) := Lib.hid (((Below.refl _ _).alloc (Nat.le_refl _) _).alloc (by simp) _)
  clear h E S hCK
  rw [E'.out]
  go_enter Tryd.func45, Tryd.ntmps45
  go_wp2
  go_loopw [8] (fun i wr => ∃ k : Nat, k ≤ n ∧ i = .int .i64 (k : Int) ∧ Hid (Blk wr w.heap.size 71 #[.int .u64 0, .int .u64 0, .int .u64 0, .int .u64 0, .int .u64 0, .int .u64 0]) ∧ Hid (Blk wr (w.heap.size + 1) 71 (farC fun i => CK i k)) ∧ Hid (Below w.heap.size w wr)) (fun i _ => n - (intOf i).toNat)
  case atStart => exact ⟨0, Nat.zero_le _, rfl, I00, I10, IB0⟩
  case round =>
    obtain ⟨k, hk, rfl, I0, I1, IB⟩ := hrel
    by_cases hlt : k < n
    · obtain ⟨b, o, rfl, hb, hc⟩ := H.out _ IB.out (by omega)
      obtain ⟨c1, c2⟩ := hc k hlt
      have k0 : (0 : Int) ≤ (k : Int) := by omega
      have SU := S'.out k hlt
      obtain ⟨y0, y1⟩ := HB2.out k
      clear hc
      generalize (l.getD k (0, 0)).1 = x at *
      generalize (l.getD k (0, 0)).2 = y at *
      rcases alo_cases x with ⟨rfl, ha⟩ | ⟨rfl, ha⟩ | ⟨rfl, ha⟩ | ⟨rfl, ha⟩ | ⟨rfl, ha⟩ | ⟨hr, ha⟩
      · have SI : Hid (CK 1 (k + 1) = max (CK 1 k) y) := Lib.hid (by rw [SU 1]; split <;> omega)
        have S2 : Hid (CK 2 (k + 1) = CK 2 k) := Lib.hid (by rw [SU 2, if_neg (fun e => by have := e.1; omega)])
        have S3 : Hid (CK 3 (k + 1) = CK 3 k) := Lib.hid (by rw [SU 3, if_neg (fun e => by have := e.1; omega)])
        have S4 : Hid (CK 4 (k + 1) = CK 4 k) := Lib.hid (by rw [SU 4, if_neg (fun e => by have := e.1; omega)])
        have S5 : Hid (CK 5 (k + 1) = CK 5 k) := Lib.hid (by rw [SU 5, if_neg (fun e => by have := e.1; omega)])
        clear SU
        go_upto_region 6 with (go_at_call 49; refine (alone_any _ _).mono ?_; rintro e w5 ⟨rfl, rfl⟩)
        have X0 := Blk.new wr 59 #[.int .i64 1, .int .u64 y]
        have q0 : (wr.alloc (.cells #[.int .i64 1, .int .u64 y] 59)).cell? ⟨wr.heap.size, 0, none⟩ = some (.int .i64 1) := X0.cell 0
        have q1 : (wr.alloc (.cells #[.int .i64 1, .int .u64 y] 59)).cell? ⟨wr.heap.size, 1, none⟩ = some (.int .u64 y) := X0.cell 1
        have Y1 := I1.out.alloc (.cells #[.int .i64 1, .int .u64 y] 59)
        have Y0 := I0.out.alloc (.cells #[.int .i64 1, .int .u64 y] 59)
        have YB := IB.out.alloc (by have := IB.out.size; omega) (.cells #[.int .i64 1, .int .u64 y] 59)
        have q2 : (wr.alloc (.cells #[.int .i64 1, .int .u64 y] 59)).cell? ⟨w.heap.size + 1, 1, none⟩ = some (.int .u64 (CK 1 k)) := Y1.cell 1
        have q3 : (wr.alloc (.cells #[.int .i64 1, .int .u64 y] 59)).frozen? ⟨w.heap.size + 1, 1, none⟩ = false := Y1.frozen 1
        have Y1' := Lib.hid Y1
        have Y0' := Lib.hid Y0
        have YB' := Lib.hid YB
        clear X0 Y1 Y0 YB
        generalize wr.alloc (.cells #[.int .i64 1, .int .u64 y] 59) = V at *
        go_region
        go_wp2
        refine ⟨⟨k + 1, by omega, by go_num, Lib.hid ((Y0'.out.far (by simp) _).drewN 1), Lib.hid ?_, Lib.hid (YB'.out.setCell (p := ⟨w.heap.size + 1, 1, none⟩) (by simp) _).drew⟩, by simp [intOf]; omega⟩
        have hs := Y1'.out.set_ 1 (.int .u64 (max (CK 1 k) y))
        have e : (farC fun i => CK i k).setIfInBounds 1 (.int .u64 (max (CK 1 k) y)) = farC fun i => CK i (k + 1) := by
          unfold farC
          dsimp only
          rw [SI.out, S2.out, S3.out, S4.out, S5.out]
          rfl
        rw [← e]
        exact hs.drewN 1
      · have SI : Hid (CK 2 (k + 1) = max (CK 2 k) y) := Lib.hid (by rw [SU 2]; split <;> omega)
        have S1 : Hid (CK 1 (k + 1) = CK 1 k) := Lib.hid (by rw [SU 1, if_neg (fun e => by have := e.1; omega)])
        have S3 : Hid (CK 3 (k + 1) = CK 3 k) := Lib.hid (by rw [SU 3, if_neg (fun e => by have := e.1; omega)])
        have S4 : Hid (CK 4 (k + 1) = CK 4 k) := Lib.hid (by rw [SU 4, if_neg (fun e => by have := e.1; omega)])
        have S5 : Hid (CK 5 (k + 1) = CK 5 k) := Lib.hid (by rw [SU 5, if_neg (fun e => by have := e.1; omega)])
        clear SU
        go_upto_region 6 with (go_at_call 49; refine (alone_any _ _).mono ?_; rintro e w5 ⟨rfl, rfl⟩)
        have X0 := Blk.new wr 59 #[.int .i64 2, .int .u64 y]
        have q0 : (wr.alloc (.cells #[.int .i64 2, .int .u64 y] 59)).cell? ⟨wr.heap.size, 0, none⟩ = some (.int .i64 2) := X0.cell 0
        have q1 : (wr.alloc (.cells #[.int .i64 2, .int .u64 y] 59)).cell? ⟨wr.heap.size, 1, none⟩ = some (.int .u64 y) := X0.cell 1
        have Y1 := I1.out.alloc (.cells #[.int .i64 2, .int .u64 y] 59)
        have Y0 := I0.out.alloc (.cells #[.int .i64 2, .int .u64 y] 59)
        have YB := IB.out.alloc (by have := IB.out.size; omega) (.cells #[.int .i64 2, .int .u64 y] 59)
        have q2 : (wr.alloc (.cells #[.int .i64 2, .int .u64 y] 59)).cell? ⟨w.heap.size + 1, 2, none⟩ = some (.int .u64 (CK 2 k)) := Y1.cell 2
        have q3 : (wr.alloc (.cells #[.int .i64 2, .int .u64 y] 59)).frozen? ⟨w.heap.size + 1, 2, none⟩ = false := Y1.frozen 2
        have Y1' := Lib.hid Y1
        have Y0' := Lib.hid Y0
        have YB' := Lib.hid YB
        clear X0 Y1 Y0 YB
        generalize wr.alloc (.cells #[.int .i64 2, .int .u64 y] 59) = V at *
        go_region
        go_wp2
        refine ⟨⟨k + 1, by omega, by go_num, Lib.hid ((Y0'.out.far (by simp) _).drewN 1), Lib.hid ?_, Lib.hid (YB'.out.setCell (p := ⟨w.heap.size + 1, 2, none⟩) (by simp) _).drew⟩, by simp [intOf]; omega⟩
        have hs := Y1'.out.set_ 2 (.int .u64 (max (CK 2 k) y))
        have e : (farC fun i => CK i k).setIfInBounds 2 (.int .u64 (max (CK 2 k) y)) = farC fun i => CK i (k + 1) := by
          unfold farC
          dsimp only
          rw [SI.out, S1.out, S3.out, S4.out, S5.out]
          rfl
        rw [← e]
        exact hs.drewN 1
      · have SI : Hid (CK 3 (k + 1) = max (CK 3 k) y) := Lib.hid (by rw [SU 3]; split <;> omega)
        have S1 : Hid (CK 1 (k + 1) = CK 1 k) := Lib.hid (by rw [SU 1, if_neg (fun e => by have := e.1; omega)])
        have S2 : Hid (CK 2 (k + 1) = CK 2 k) := Lib.hid (by rw [SU 2, if_neg (fun e => by have := e.1; omega)])
        have S4 : Hid (CK 4 (k + 1) = CK 4 k) := Lib.hid (by rw [SU 4, if_neg (fun e => by have := e.1; omega)])
        have S5 : Hid (CK 5 (k + 1) = CK 5 k) := Lib.hid (by rw [SU 5, if_neg (fun e => by have := e.1; omega)])
        clear SU
        go_upto_region 6 with (go_at_call 49; refine (alone_any _ _).mono ?_; rintro e w5 ⟨rfl, rfl⟩)
        have X0 := Blk.new wr 59 #[.int .i64 3, .int .u64 y]
        have q0 : (wr.alloc (.cells #[.int .i64 3, .int .u64 y] 59)).cell? ⟨wr.heap.size, 0, none⟩ = some (.int .i64 3) := X0.cell 0
        have q1 : (wr.alloc (.cells #[.int .i64 3, .int .u64 y] 59)).cell? ⟨wr.heap.size, 1, none⟩ = some (.int .u64 y) := X0.cell 1
        have Y1 := I1.out.alloc (.cells #[.int .i64 3, .int .u64 y] 59)
        have Y0 := I0.out.alloc (.cells #[.int .i64 3, .int .u64 y] 59)
        have YB := IB.out.alloc (by have := IB.out.size; omega) (.cells #[.int .i64 3, .int .u64 y] 59)
        have q2 : (wr.alloc (.cells #[.int .i64 3, .int .u64 y] 59)).cell? ⟨w.heap.size + 1, 3, none⟩ = some (.int .u64 (CK 3 k)) := Y1.cell 3
        have q3 : (wr.alloc (.cells #[.int .i64 3, .int .u64 y] 59)).frozen? ⟨w.heap.size + 1, 3, none⟩ = false := Y1.frozen 3
        have Y1' := Lib.hid Y1
        have Y0' := Lib.hid Y0
        have YB' := Lib.hid YB
        clear X0 Y1 Y0 YB
        generalize wr.alloc (.cells #[.int .i64 3, .int .u64 y] 59) = V at *
        go_region
        go_wp2
        refine ⟨⟨k + 1, by omega, by go_num, Lib.hid ((Y0'.out.far (by simp) _).drewN 1), Lib.hid ?_, Lib.hid (YB'.out.setCell (p := ⟨w.heap.size + 1, 3, none⟩) (by simp) _).drew⟩, by simp [intOf]; omega⟩
        have hs := Y1'.out.set_ 3 (.int .u64 (max (CK 3 k) y))
        have e : (farC fun i => CK i k).setIfInBounds 3 (.int .u64 (max (CK 3 k) y)) = farC fun i => CK i (k + 1) := by
          unfold farC
          dsimp only
          rw [SI.out, S1.out, S2.out, S4.out, S5.out]
          rfl
        rw [← e]
        exact hs.drewN 1
      · have SI : Hid (CK 4 (k + 1) = max (CK 4 k) y) := Lib.hid (by rw [SU 4]; split <;> omega)
        have S1 : Hid (CK 1 (k + 1) = CK 1 k) := Lib.hid (by rw [SU 1, if_neg (fun e => by have := e.1; omega)])
        have S2 : Hid (CK 2 (k + 1) = CK 2 k) := Lib.hid (by rw [SU 2, if_neg (fun e => by have := e.1; omega)])
        have S3 : Hid (CK 3 (k + 1) = CK 3 k) := Lib.hid (by rw [SU 3, if_neg (fun e => by have := e.1; omega)])
        have S5 : Hid (CK 5 (k + 1) = CK 5 k) := Lib.hid (by rw [SU 5, if_neg (fun e => by have := e.1; omega)])
        clear SU
        go_upto_region 6 with (go_at_call 49; refine (alone_any _ _).mono ?_; rintro e w5 ⟨rfl, rfl⟩)
        have X0 := Blk.new wr 59 #[.int .i64 4, .int .u64 y]
        have q0 : (wr.alloc (.cells #[.int .i64 4, .int .u64 y] 59)).cell? ⟨wr.heap.size, 0, none⟩ = some (.int .i64 4) := X0.cell 0
        have q1 : (wr.alloc (.cells #[.int .i64 4, .int .u64 y] 59)).cell? ⟨wr.heap.size, 1, none⟩ = some (.int .u64 y) := X0.cell 1
        have Y1 := I1.out.alloc (.cells #[.int .i64 4, .int .u64 y] 59)
        have Y0 := I0.out.alloc (.cells #[.int .i64 4, .int .u64 y] 59)
        have YB := IB.out.alloc (by have := IB.out.size; omega) (.cells #[.int .i64 4, .int .u64 y] 59)
        have q2 : (wr.alloc (.cells #[.int .i64 4, .int .u64 y] 59)).cell? ⟨w.heap.size + 1, 4, none⟩ = some (.int .u64 (CK 4 k)) := Y1.cell 4
        have q3 : (wr.alloc (.cells #[.int .i64 4, .int .u64 y] 59)).frozen? ⟨w.heap.size + 1, 4, none⟩ = false := Y1.frozen 4
        have Y1' := Lib.hid Y1
        have Y0' := Lib.hid Y0
        have YB' := Lib.hid YB
        clear X0 Y1 Y0 YB
        generalize wr.alloc (.cells #[.int .i64 4, .int .u64 y] 59) = V at *
        go_region
        go_wp2
        refine ⟨⟨k + 1, by omega, by go_num, Lib.hid ((Y0'.out.far (by simp) _).drewN 1), Lib.hid ?_, Lib.hid (YB'.out.setCell (p := ⟨w.heap.size + 1, 4, none⟩) (by simp) _).drew⟩, by simp [intOf]; omega⟩
        have hs := Y1'.out.set_ 4 (.int .u64 (max (CK 4 k) y))
        have e : (farC fun i => CK i k).setIfInBounds 4 (.int .u64 (max (CK 4 k) y)) = farC fun i => CK i (k + 1) := by
          unfold farC
          dsimp only
          rw [SI.out, S1.out, S2.out, S3.out, S5.out]
          rfl
        rw [← e]
        exact hs.drewN 1
      · have SI : Hid (CK 5 (k + 1) = max (CK 5 k) y) := Lib.hid (by rw [SU 5]; split <;> omega)
        have S1 : Hid (CK 1 (k + 1) = CK 1 k) := Lib.hid (by rw [SU 1, if_neg (fun e => by have := e.1; omega)])
        have S2 : Hid (CK 2 (k + 1) = CK 2 k) := Lib.hid (by rw [SU 2, if_neg (fun e => by have := e.1; omega)])
        have S3 : Hid (CK 3 (k + 1) = CK 3 k) := Lib.hid (by rw [SU 3, if_neg (fun e => by have := e.1; omega)])
        have S4 : Hid (CK 4 (k + 1) = CK 4 k) := Lib.hid (by rw [SU 4, if_neg (fun e => by have := e.1; omega)])
        clear SU
        go_upto_region 6 with (go_at_call 49; refine (alone_any _ _).mono ?_; rintro e w5 ⟨rfl, rfl⟩)
        have X0 := Blk.new wr 59 #[.int .i64 5, .int .u64 y]
        have q0 : (wr.alloc (.cells #[.int .i64 5, .int .u64 y] 59)).cell? ⟨wr.heap.size, 0, none⟩ = some (.int .i64 5) := X0.cell 0
        have q1 : (wr.alloc (.cells #[.int .i64 5, .int .u64 y] 59)).cell? ⟨wr.heap.size, 1, none⟩ = some (.int .u64 y) := X0.cell 1
        have Y1 := I1.out.alloc (.cells #[.int .i64 5, .int .u64 y] 59)
        have Y0 := I0.out.alloc (.cells #[.int .i64 5, .int .u64 y] 59)
        have YB := IB.out.alloc (by have := IB.out.size; omega) (.cells #[.int .i64 5, .int .u64 y] 59)
        have q2 : (wr.alloc (.cells #[.int .i64 5, .int .u64 y] 59)).cell? ⟨w.heap.size + 1, 5, none⟩ = some (.int .u64 (CK 5 k)) := Y1.cell 5
        have q3 : (wr.alloc (.cells #[.int .i64 5, .int .u64 y] 59)).frozen? ⟨w.heap.size + 1, 5, none⟩ = false := Y1.frozen 5
        have Y1' := Lib.hid Y1
        have Y0' := Lib.hid Y0
        have YB' := Lib.hid YB
        clear X0 Y1 Y0 YB
        generalize wr.alloc (.cells #[.int .i64 5, .int .u64 y] 59) = V at *
        go_region
        go_wp2
        refine ⟨⟨k + 1, by omega, by go_num, Lib.hid ((Y0'.out.far (by simp) _).drewN 1), Lib.hid ?_, Lib.hid (YB'.out.setCell (p := ⟨w.heap.size + 1, 5, none⟩) (by simp) _).drew⟩, by simp [intOf]; omega⟩
        have hs := Y1'.out.set_ 5 (.int .u64 (max (CK 5 k) y))
        have e : (farC fun i => CK i k).setIfInBounds 5 (.int .u64 (max (CK 5 k) y)) = farC fun i => CK i (k + 1) := by
          unfold farC
          dsimp only
          rw [SI.out, S1.out, S2.out, S3.out, S4.out]
          rfl
        rw [← e]
        exact hs.drewN 1
      · have S6 : Hid ((farC fun i => CK i (k + 1)) = farC fun i => CK i k) := Lib.hid (by
          unfold farC
          dsimp only
          rw [SU 1, SU 2, SU 3, SU 4, SU 5, if_neg (fun e => by have := e.1; omega), if_neg (fun e => by have := e.1; omega), if_neg (fun e => by have := e.1; omega), if_neg (fun e => by have := e.1; omega), if_neg (fun e => by have := e.1; omega)])
        have HR := Lib.hid hr
        have HA : Hid (∀ W, Calls Tryd.prog 49 #[.int .i64 x] W fun e w' => e = .returned (.int .u8 ((0 : Nat) : Int)) ∧ W = w') := Lib.hid (fun W => by have := alone_any x W; rw [ha] at this; exact this)
        have WS : Hid (w.heap.size ≤ wr.heap.size) := Lib.hid IB.out.size
        clear SU hr ha
        go_wp2_with (go_at_call 49; refine (HA.out _).mono ?_; rintro e w5 ⟨rfl, rfl⟩)
        go_roundw
        case rel => exact ⟨k + 1, by omega, by go_num, Lib.hid (I0.out.alloc _), Lib.hid (by rw [S6.out]; exact I1.out.alloc _), Lib.hid (IB.out.alloc WS.out _)⟩
        case measure => simp [intOf]; omega
    · obtain rfl : k = n := by omega
      have a0 : wr.cell? ⟨w.heap.size + 1, 0, none⟩ = some (.int .u64 0) := I1.out.cell 0
      have a1 : wr.cell? ⟨w.heap.size + 1, 1, none⟩ = some (.int .u64 (CK 1 k)) := I1.out.cell 1
      have a2 : wr.cell? ⟨w.heap.size + 1, 2, none⟩ = some (.int .u64 (CK 2 k)) := I1.out.cell 2
      have a3 : wr.cell? ⟨w.heap.size + 1, 3, none⟩ = some (.int .u64 (CK 3 k)) := I1.out.cell 3
      have a4 : wr.cell? ⟨w.heap.size + 1, 4, none⟩ = some (.int .u64 (CK 4 k)) := I1.out.cell 4
      have a5 : wr.cell? ⟨w.heap.size + 1, 5, none⟩ = some (.int .u64 (CK 5 k)) := I1.out.cell 5
      go_wp2_with (first
        | ((with_reducible refine at_load (t := 71) ?_); refine wpList_load_mid rfl 71 _ rfl (w.heap.size + 1) 0 rfl [.int .u64 0, .int .u64 (CK 1 k), .int .u64 (CK 2 k), .int .u64 (CK 3 k), .int .u64 (CK 4 k), .int .u64 (CK 5 k)] _ (Blk.rng I1.out) Tryd.underlying71 rfl Tryd.i71 ?_)
        | ((with_reducible refine at_store (t := 71) ?_); refine wpList_store_blk _ rfl 71 _ _ rfl w.heap.size _ 71 [.int .u64 0, .int .u64 (CK 1 k), .int .u64 (CK 2 k), .int .u64 (CK 3 k), .int .u64 (CK 4 k), .int .u64 (CK 5 k)] rfl rfl I0.out rfl Tryd.i71 (by simp [Value.oneCell']) ?_; intro w9 hb9 ho9))
      exact bodyPost_ret (results_cell_row (p := 2) (ty := 71) rfl _ _ w.heap.size 71 _ (0, 0) _ rfl hb9 Tryd.underlying71 rfl Tryd.i71) rfl ⟨rfl, IB.out.trans (ho9.below (Nat.le_refl _))⟩
end Go.Proofs.YtfclppopelmdgaaDoor
