/-
  The layer does something: 'wakes' answers true, and turns nothing that was there.
-/
import Derived.Test.YtbjillkdhjndpaaRead5
import Derived.Test.YtbjillkdhjndpaaPut
import Derived.Test.YtbjillkdhjndpaaCount
namespace Go.Proofs.Ytbjillkdhjndpaa
open Go.RowKit

theorem By.of_blk {w : World} {g n : Nat} {zs : List Int} (h : Blk w g 5 (zs.map (Value.int .u8)).toArray) (hb : Bs zs) (hn : zs.length = n) : By w (g + 1) (some ⟨g, 0, none⟩) n zs := by
  refine ⟨hn, hb, fun _ => ⟨g, 0, rfl, by omega, fun j hj => ?_⟩⟩
  rw [Nat.zero_add, h.cell j]
  simp [List.getD, List.getElem?_eq_getElem (show j < zs.length by omega)]

/-- A new Reader. -/
theorem read_new (A : Option Addr) (n c : Nat) (w : World) :
    Calls Try.prog 22 #[.slice A n c] w fun e w' => e = .returned (.pointer (some ⟨w.heap.size, 0, none⟩)) ∧ Rd w' w.heap.size (0 : Nat) 0 A n c ∧ Below w.heap.size w w' := by
  refine (read_any A n c w).mono ?_
  rintro e w' ⟨rfl, rfl⟩
  exact ⟨rfl, Blk.new w 76 _, (Below.refl _ _).alloc (Nat.le_refl _) _⟩

theorem Moved.low {w w' : World} {p n c B : Nat} {k er : Int} {A : Option Addr} (h : Moved w p k er A n c w') (hp : p < w.heap.size) (hB : B ≤ p) : Below B w w' :=
  ⟨h.2.os, h.2.tape, h.2.output, h.2.size, fun i hi => h.2.block i (by omega) (fun e => by injection e with e; omega)⟩

set_option maxHeartbeats 1000000 in
theorem wakes_any (w : World) : Calls Try.prog 11 #[] w fun e w' => e = .returned (.bool true) ∧ Below w.heap.size w w' := by
  have b9 : Bs [9] := fun j => by
    match j with
    | 0 => simp
    | j + 1 => simp
  have hby : By (w.alloc (.cells #[.int .u8 9] 5)) (w.heap.size + 1) (some ⟨w.heap.size, 0, none⟩) 1 [9] := By.of_blk (Blk.new w 5 #[.int .u8 9]) b9 rfl
  have hb0 : Below w.heap.size w (w.alloc (.cells #[.int .u8 9] 5)) := (Below.refl _ _).alloc (Nat.le_refl _) _
  have hs0 : (w.alloc (.cells #[.int .u8 9] 5)).heap.size = w.heap.size + 1 := by simp
  go_enter Try.func11, Try.ntmps11
  go_wp2_with fail
  refine (Put32_any _ 1 1 [9] 16777218 _ _ hby (by omega) (by omega)).mono ?_
  rintro e w1 ⟨rfl, hb1, hbel1⟩
  rw [hs0] at hb1 hbel1 ⊢
  have hB1 : Below w.heap.size w w1 := hb0.trans (hbel1.mono (by omega))
  have hy1 := By.of_blk hb1 (b9.append (be_bs _ _)) rfl
  have hs1 := hbel1.size
  rw [hs0] at hs1
  clear hbel1 hb0 hby hb1 hs0
  go_wp2_with fail
  refine (Put16_any _ 5 5 _ 258 _ _ hy1 (by omega) (by omega)).mono ?_
  rintro e w2 ⟨rfl, hb2, hbel2⟩
  rw [show ([9] ++ be 4 16777218) ++ be 2 258 = [9, 1, 0, 0, 2, 1, 2] by decide] at hb2
  have hs2 := hb2.lt
  have hB2 : Below w.heap.size w w2 := hB1.trans (hbel2.mono (by omega))
  have b7 : Bs [9, 1, 0, 0, 2, 1, 2] := by
    have := (b9.append (be_bs 4 16777218)).append (be_bs 2 258)
    rwa [show ([9] ++ be 4 16777218) ++ be 2 258 = [9, 1, 0, 0, 2, 1, 2] by decide] at this
  have hy2 := By.of_blk hb2 b7 rfl
  clear hbel2 hB1 hy1 b9
  generalize hg2 : w1.heap.size = g at *
  clear hg2
  go_wp2_with fail
  refine (read_new _ _ _ _).mono ?_
  rintro e w3 ⟨rfl, hr3, hbel3⟩
  have hy3 : By w3 w2.heap.size (some ⟨g, 0, none⟩) 7 [9, 1, 0, 0, 2, 1, 2] := (hy2.more hs2).below hbel3
  have hB3 : Below w.heap.size w w3 := hB2.trans (hbel3.mono hB2.size)
  clear hbel3 hy2 hb2
  generalize hp : w2.heap.size = p at *
  clear hp
  go_wp2_with fail
  refine (go_any p 0 0 3 _ 7 7 w3 hr3 (by omega) (by omega)).mono ?_
  rintro e w4 ⟨rfl, hm4⟩
  have hp3 := Blk.lt hr3
  have hy4 := hy3.moved hp3 hm4
  have hr4 : Rd w4 p (3 : Nat) 0 (some ⟨g, 0, none⟩) 7 7 := hm4.1
  have hB4 : Below w.heap.size w w4 := hB3.trans (hm4.low hp3 (by omega))
  have hp4 := Blk.lt hr4
  clear hm4 hy3 hr3 hB3 hp3
  go_wp2_with fail
  refine (u32_any p 3 0 _ 7 7 _ w4 hr4 hy4 (by omega) (by omega) (by omega)).mono ?_
  rintro e w5 ⟨rfl, hm5⟩
  have hy5 := hy4.moved hp4 hm5
  have hr5 : Rd w5 p (7 : Nat) 0 (some ⟨g, 0, none⟩) 7 7 := hm5.1
  have hB5 : Below w.heap.size w w5 := hB4.trans (hm5.low hp4 (by omega))
  clear hm5 hy4 hr4 hB4 hp4
  rw [show num (nBytes [9, 1, 0, 0, 2, 1, 2] 3 0 4) = 131330 by decide]
  obtain ⟨b, o, hA, _, hc⟩ := hy5.2.2 (by omega)
  injection hA with hA
  injection hA with h1 h2
  subst h1 h2
  have c1 : w5.cell? ⟨g, 1, none⟩ = some (.int .u8 1) := hc 1 (by omega)
  have c6 : w5.cell? ⟨g, 6, none⟩ = some (.int .u8 2) := hc 6 (by omega)
  clear hc
  go_wp2_with (first | (go_at_call 26; refine (left_any p 7 0 _ 7 7 w5 hr5 (by omega) (by omega)).mono ?_; rintro e w' ⟨rfl, q, rfl⟩) | (go_at_call 25; refine (at_any p (7 : Nat) 0 _ 7 7 _ (by exact hr5)).mono ?_; rintro e w' ⟨rfl, rfl⟩) | (go_at_call 19; refine (count_any _ 7 7 [9, 1, 0, 0, 2, 1, 2] 1 _ p (by exact hy5) (by omega)).mono ?_; rintro e w' ⟨rfl, rfl⟩))
  go_ret
  exact ⟨rfl, ⟨hB5.os, hB5.tape, hB5.output, hB5.size, hB5.block⟩⟩

end Go.Proofs.Ytbjillkdhjndpaa
