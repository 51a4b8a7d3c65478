/-
  The law's over: it writes over a log's entries.
-/
import Derived.Test.YtmgaihdepglahaaOV
namespace Go.Proofs.Ytmgaihdepglahaa
open Go.RowKit

theorem Outs.alloc_left {base s : Nat} {w W : World} (BX : Array Value) (h : Outs base s (w.alloc (.cells BX 27)) W) : Outs base s w W :=
  have hb : Below w.heap.size w (w.alloc (.cells BX 27)) := (Below.refl _ _).alloc (Nat.le_refl _) _
  ⟨h.os.trans hb.os, h.tape.trans hb.tape, h.output.trans hb.output, Nat.le_trans hb.size h.size, fun k hk hl => (h.block k hk (by have := hb.size; omega)).trans (hb.block k hl)⟩

theorem wrap64_e (n : Int) : wrap64 n = (n + 9223372036854775808) % 18446744073709551616 - 9223372036854775808 := by
  unfold wrap64
  omega

set_option linter.unusedSimpArgs false in
set_option maxRecDepth 100000 in
set_option maxHeartbeats 8000000 in
theorem over_any (bi bt : Int) (A : Option Addr) (n c base s : Nat) (es : List En) (w : World) (h : EoT w base s A n c es) (hn : n ≤ 1000) :
    Calls Try.prog 19 #[.agg #[.int .u64 bi, .int .u64 bt, .slice A n c]] w fun e w' => e = .returned (.tuple #[]) ∧ Outs base s w w' := by
  have hs := h.1
  by_cases h0 : n = 0
  · subst h0
    clear h
    go_enter Try.func19, Try.ntmps19
    go_wp2
    go_loopw [7] (fun i W => i = .int .i64 0 ∧ W = w.alloc (.cells #[.int .u64 bi, .int .u64 bt, .slice A 0 c] 27)) (fun _ _ => 0)
    case atStart => exact ⟨rfl, rfl⟩
    case round =>
      obtain ⟨rfl, rfl⟩ := hrel
      go_wp2
      exact bodyPost_end (results_none rfl _ _ _) rfl ⟨rfl, Outs.alloc_left _ (Outs.refl _ _ _)⟩
  · obtain ⟨g, xs, rfl, hb1, hb2, hxl, hfew, hI⟩ := h.ovi (by omega) #[.int .u64 bi, .int .u64 bt, .slice A n c]
    have HI := Lib.hid hI
    have HS := Lib.hid hs
    clear h hI
    go_enter Try.func19, Try.ntmps19
    go_wp2
    go_loopw [7] (fun i W => ∃ k : Nat, k ≤ n ∧ i = .int .i64 k ∧ OvI (w.alloc (.cells #[.int .u64 bi, .int .u64 bt, .slice (some ⟨g, 0, none⟩) n c] 27)) base s w.heap.size #[.int .u64 bi, .int .u64 bt, .slice (some ⟨g, 0, none⟩) n c] g xs W) (fun i _ => n - (intOf i).toNat)
    case atStart => exact ⟨0, Nat.zero_le _, rfl, HI.out⟩
    case round =>
      obtain ⟨k, hk, rfl, hW⟩ := hrel
      by_cases hlt : k < n
      · have hkI : ((k : Int) < (n : Int)) := by omega
        have hk0 : (0 : Int) ≤ (k : Int) := by omega
        have hx : xs[k]? = some (xs[k]'(by omega)) := List.getElem?_eq_getElem _
        generalize xs[k]'(by omega) = x at hx
        obtain ⟨cur, c1, c2⟩ := hW.row
        have z0 : wr.cell? ⟨w.heap.size, 2, none⟩ = some (.slice (some ⟨g, 0, none⟩) n c) := hW.box.cell 2
        have z1 : wr.cell? ⟨g, k * 3 + 2, none⟩ = some (.slice x.A x.n x.c) := (c1.cell _).trans (c2 k x hx).1
        have HX := Lib.hid hx
        have HF := Lib.hid (hfew x (List.mem_of_getElem? hx))
        have HW := Lib.hid hW
        have HK := Lib.hid hk
        clear c1 c2 hW hx
        clear cur
        go_wp2
        go_loopw [17] (fun i W => ∃ j : Nat, j ≤ x.n ∧ i = .int .i64 j ∧ OvI (w.alloc (.cells #[.int .u64 bi, .int .u64 bt, .slice (some ⟨g, 0, none⟩) n c] 27)) base s w.heap.size #[.int .u64 bi, .int .u64 bt, .slice (some ⟨g, 0, none⟩) n c] g xs W) (fun i _ => x.n - (intOf i).toNat)
        case atStart => exact ⟨0, Nat.zero_le _, rfl, HW.out⟩
        case round =>
          obtain ⟨j, hj, rfl, hV⟩ := hrel
          by_cases hjt : j < x.n
          · obtain ⟨b, zs, hxa, e2, e3, e4, e5⟩ := hV.dat x (List.mem_of_getElem? HX.out) (by omega)
            obtain ⟨z, hz⟩ := e5 j hjt
            obtain ⟨cur, c1, c2⟩ := hV.row
            have z0 : wr.cell? ⟨w.heap.size, 2, none⟩ = some (.slice (some ⟨g, 0, none⟩) n c) := hV.box.cell 2
            have z1 : wr.cell? ⟨g, k * 3 + 2, none⟩ = some (.slice (some ⟨b, 0, none⟩) x.n x.c) := by rw [← hxa]; exact (c1.cell _).trans (c2 k x HX.out).1
            have z2 : wr.cell? ⟨b, j, none⟩ = some (.int .u8 z) := (e4.cell _).trans hz
            have z3 : wr.frozen? ⟨b, j, none⟩ = false := e4.frozen _
            have HV := Lib.hid (fun v => hV.set5 HS.out e4 e2 e3 j v)
            have HJ := Lib.hid hjt
            have jI : ((j : Int) < (x.n : Int)) := by omega
            have j0 : (0 : Int) ≤ (j : Int) := by omega
            clear c1 c2 hV e2 e3 e4 e5 hz hj
            clear cur zs
            have j64 : wrap64 ((j : Int) + 1) = (j : Int) + 1 := by rw [wrap64_e]; have := HF.out; omega
            go_wp2
            go_roundw
            case rel => exact ⟨j + 1, HJ.out, (by first | (rw [j64]; rfl) | go_num), HV.out _⟩
            case measure => (try rw [j64]); clear j64; simp [intOf]; omega
          · have jI : ¬ ((j : Int) < (x.n : Int)) := by omega
            obtain ⟨cur, c1, c2⟩ := hV.row
            obtain ⟨t, ht⟩ := (c2 k x HX.out).2
            have z0 : wr.cell? ⟨w.heap.size, 2, none⟩ = some (.slice (some ⟨g, 0, none⟩) n c) := hV.box.cell 2
            have z1 : wr.cell? ⟨g, k * 3, none⟩ = some (.int .u64 t) := (c1.cell _).trans ht
            have z3 : wr.frozen? ⟨g, k * 3, none⟩ = false := c1.frozen _
            have HV := Lib.hid (fun v => hV.set54 HS.out hb1 hb2 k v)
            have HK2 := Lib.hid hlt
            clear c1 c2 hV ht hj
            clear cur
            go_wp2
            go_roundw
            case rel => exact ⟨k + 1, HK2.out, by go_num, HV.out _⟩
            case measure => simp [intOf]; omega
      · have hkI : ¬ ((k : Int) < (n : Int)) := by omega
        have HW := Lib.hid hW
        clear hW
        go_wp2
        exact bodyPost_end (results_none rfl _ _ _) rfl ⟨rfl, Outs.alloc_left _ HW.out.out⟩

end Go.Proofs.Ytmgaihdepglahaa
