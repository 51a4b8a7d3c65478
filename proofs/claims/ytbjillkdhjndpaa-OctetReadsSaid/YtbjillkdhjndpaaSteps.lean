/-
  What a step of the program's Reader does, and what the document says of it.
-/
import Derived.Test.YtbjillkdhjndpaaNoneLaw
import Derived.Test.YtbjillkdhjndpaaGoesLaw
namespace Go.Proofs.Ytbjillkdhjndpaa
open Go.RowKit

/-- The document's step of kind d (0 to 7): the number, the bytes, the place, the error. -/
def sX (zs : List Int) (k : Nat) (er : Int) (d : Int) : Int := if d < 4 then num (nBytes zs k er (2 ^ d.toNat)) else 0
def sB (zs : List Int) (k : Nat) (er : Int) (d m : Int) : List Int := if d < 4 then [] else if d < 6 then nBytes zs k er m else []
def sAt (L k : Nat) (er : Int) (d m : Int) : Nat := if d < 4 then nAt L k er (2 ^ d.toNat) else if d < 6 then nAt L k er m else gAt L k er m
def sErr (L k : Nat) (er : Int) (d m : Int) : Int := if d < 4 then nErr L k er (2 ^ d.toNat) else if d < 6 then nErr L k er m else gErr L k er m

theorem sAt_le (L k : Nat) (er d m : Int) (h : k ≤ L) : sAt L k er d m ≤ L := by
  unfold sAt
  split
  · exact nAt_le _ _ _ _ h
  · split
    · exact nAt_le _ _ _ _ h
    · exact gAt_le _ _ _ _ h

theorem Moved.boxed {w w' : World} {p n c : Nat} {k er : Int} {A : Option Addr} {o : Obj} (h : Moved (w.alloc o) p k er A n c w') : Moved w p k er A n c w' :=
  ⟨h.1, ⟨h.2.os, h.2.tape, h.2.output, Nat.le_trans (by simp) h.2.size, fun i hi hne => (h.2.block i (by simp; omega) hne).trans (Below.heap_alloc w o i hi)⟩⟩

/-- What 'reads' leaves. -/
def Readed (w : World) (p k : Nat) (er d m : Int) (A : Option Addr) (n c : Nat) (zs : List Int) (e : Ending) (w' : World) : Prop :=
  ∃ A' c', e = .returned (.tuple #[.int .u64 (sX zs k er d), .slice A' (sB zs k er d m).length c']) ∧ Own w' w.heap.size A' (sB zs k er d m).length c' (sB zs k er d m) ∧ Moved w p (sAt n k er d m) (sErr n k er d m) A n c w'

theorem kind_cases (kind : Int) : ∃ d : Int, (IntKind.u64.wrap kind).tmod 8 = d ∧ (d = 0 ∨ d = 1 ∨ d = 2 ∨ d = 3 ∨ d = 4 ∨ d = 5 ∨ d = 6 ∨ d = 7) := by
  have h0 : 0 ≤ IntKind.u64.wrap kind := by rw [IntKind.wrap_u64]; omega
  refine ⟨_, rfl, ?_⟩
  rw [Int.tmod_eq_emod_of_nonneg h0]
  omega

theorem wrap_num (zs : List Int) : IntKind.u64.wrap (num zs) = num zs := by
  rw [IntKind.wrap_u64]
  exact Int.emod_eq_of_lt (num_range zs).1 (num_range zs).2
theorem ret_two {k : IntKind} {a b : Int} {u v : Value} (h : a = b) (h' : u = v) : Ending.returned (.tuple #[.int k a, u]) = .returned (.tuple #[.int k b, v]) := by rw [h, h']

set_option maxHeartbeats 4000000 in
theorem reads_any (kind m d : Int) (p k : Nat) (er : Int) (A : Option Addr) (n c : Nat) (zs : List Int) (w : World) (h : Rd w p k er A n c) (hb : By w p A n zs) (hk : k ≤ n) (hnc : n ≤ c) (hn : n ≤ 140737488355328) (hd : (IntKind.u64.wrap kind).tmod 8 = d) :
    Calls Try.prog 23 #[.agg #[.int .i64 kind, .int .i64 m], .pointer (some ⟨p, 0, none⟩)] w (Readed w p k er d m A n c zs) := by
  have hp := Blk.lt h
  have h1 : Rd (w.alloc (.cells #[.int .i64 kind, .int .i64 m] 47)) p k er A n c := Blk.alloc h _
  have hb1 : By (w.alloc (.cells #[.int .i64 kind, .int .i64 m] 47)) p A n zs := hb.alloc (Nat.le_of_lt hp) _
  obtain ⟨d', hd', hcases⟩ := kind_cases kind
  rw [hd] at hd'
  subst hd'
  clear h hb
  rcases hcases with rfl | rfl | rfl | rfl | rfl | rfl | rfl | rfl
  · have eX : sX zs k er 0 = num (nBytes zs k er 1) := by simp [sX]
    have eB : sB zs k er 0 m = [] := by simp [sB]
    have eA : sAt n k er 0 m = nAt n k er 1 := by simp [sAt]
    have eE : sErr n k er 0 m = nErr n k er 1 := by simp [sErr]
    unfold Readed
    rw [eX, eB, eA, eE]
    have hwn := Lib.hid (wrap_num (nBytes zs k er 1))
    clear eX eB eA eE
    go_enter Try.func23, Try.ntmps23
    go_wp2_with (go_at_call 28; refine (u8_any p k er A n c zs _ h1 hb1 hk hnc hn).mono ?_; rintro e w' ⟨rfl, hm⟩)
    go_ret2
    exact ⟨none, 0, ret_two hwn.out rfl, nothing _ _, hm.boxed⟩
  · have eX : sX zs k er 1 = num (nBytes zs k er 2) := by simp [sX]
    have eB : sB zs k er 1 m = [] := by simp [sB]
    have eA : sAt n k er 1 m = nAt n k er 2 := by simp [sAt]
    have eE : sErr n k er 1 m = nErr n k er 2 := by simp [sErr]
    unfold Readed
    rw [eX, eB, eA, eE]
    have hwn := Lib.hid (wrap_num (nBytes zs k er 2))
    clear eX eB eA eE
    go_enter Try.func23, Try.ntmps23
    go_wp2_with (go_at_call 29; refine (u16_any p k er A n c zs _ h1 hb1 hk hnc hn).mono ?_; rintro e w' ⟨rfl, hm⟩)
    go_ret2
    exact ⟨none, 0, ret_two hwn.out rfl, nothing _ _, hm.boxed⟩
  · have eX : sX zs k er 2 = num (nBytes zs k er 4) := by simp [sX]
    have eB : sB zs k er 2 m = [] := by simp [sB]
    have eA : sAt n k er 2 m = nAt n k er 4 := by simp [sAt]
    have eE : sErr n k er 2 m = nErr n k er 4 := by simp [sErr]
    unfold Readed
    rw [eX, eB, eA, eE]
    have hwn := Lib.hid (wrap_num (nBytes zs k er 4))
    clear eX eB eA eE
    go_enter Try.func23, Try.ntmps23
    go_wp2_with (go_at_call 30; refine (u32_any p k er A n c zs _ h1 hb1 hk hnc hn).mono ?_; rintro e w' ⟨rfl, hm⟩)
    go_ret2
    exact ⟨none, 0, ret_two hwn.out rfl, nothing _ _, hm.boxed⟩
  · have eX : sX zs k er 3 = num (nBytes zs k er 8) := by simp [sX]
    have eB : sB zs k er 3 m = [] := by simp [sB]
    have eA : sAt n k er 3 m = nAt n k er 8 := by simp [sAt]
    have eE : sErr n k er 3 m = nErr n k er 8 := by simp [sErr]
    unfold Readed
    rw [eX, eB, eA, eE]
    have hwn := Lib.hid (wrap_num (nBytes zs k er 8))
    clear eX eB eA eE
    go_enter Try.func23, Try.ntmps23
    go_wp2_with (go_at_call 31; refine (u64_any p k er A n c zs _ h1 hb1 hk hnc hn).mono ?_; rintro e w' ⟨rfl, hm⟩)
    go_ret2
    exact ⟨none, 0, ret_two rfl rfl, nothing _ _, hm.boxed⟩
  · have eX : sX zs k er 4 = 0 := by simp [sX]
    have eB : sB zs k er 4 m = nBytes zs k er m := by simp [sB]
    have eA : sAt n k er 4 m = nAt n k er m := by simp [sAt]
    have eE : sErr n k er 4 m = nErr n k er m := by simp [sErr]
    unfold Readed
    rw [eX, eB, eA, eE]
    clear eX eB eA eE
    go_enter Try.func23, Try.ntmps23
    go_wp2_with (go_at_call 32; refine (raw_any p k er m A n c zs _ h1 hb1 hk hnc hn).mono ?_; rintro e w' ⟨A', c', rfl, ho, hm⟩)
    go_ret2
    exact ⟨A', c', rfl, ho.down (by simp), hm.boxed⟩
  · have eX : sX zs k er 5 = 0 := by simp [sX]
    have eB : sB zs k er 5 m = nBytes zs k er m := by simp [sB]
    have eA : sAt n k er 5 m = nAt n k er m := by simp [sAt]
    have eE : sErr n k er 5 m = nErr n k er m := by simp [sErr]
    unfold Readed
    rw [eX, eB, eA, eE]
    clear eX eB eA eE
    go_enter Try.func23, Try.ntmps23
    go_wp2_with (go_at_call 32; refine (raw_any p k er m A n c zs _ h1 hb1 hk hnc hn).mono ?_; rintro e w' ⟨A', c', rfl, ho, hm⟩)
    go_ret2
    exact ⟨A', c', rfl, ho.down (by simp), hm.boxed⟩
  · have eX : sX zs k er 6 = 0 := by simp [sX]
    have eB : sB zs k er 6 m = [] := by simp [sB]
    have eA : sAt n k er 6 m = gAt n k er m := by simp [sAt]
    have eE : sErr n k er 6 m = gErr n k er m := by simp [sErr]
    unfold Readed
    rw [eX, eB, eA, eE]
    clear eX eB eA eE
    go_enter Try.func23, Try.ntmps23
    go_wp2_with (go_at_call 34; refine (go_any p k er m A n c _ h1 hk hn).mono ?_; rintro e w' ⟨rfl, hm⟩)
    go_ret2
    exact ⟨none, 0, rfl, nothing _ _, hm.boxed⟩
  · have eX : sX zs k er 7 = 0 := by simp [sX]
    have eB : sB zs k er 7 m = [] := by simp [sB]
    have eA : sAt n k er 7 m = gAt n k er m := by simp [sAt]
    have eE : sErr n k er 7 m = gErr n k er m := by simp [sErr]
    unfold Readed
    rw [eX, eB, eA, eE]
    clear eX eB eA eE
    go_enter Try.func23, Try.ntmps23
    go_wp2_with (go_at_call 34; refine (go_any p k er m A n c _ h1 hk hn).mono ?_; rintro e w' ⟨rfl, hm⟩)
    go_ret2
    exact ⟨none, 0, rfl, nothing _ _, hm.boxed⟩

end Go.Proofs.Ytbjillkdhjndpaa
