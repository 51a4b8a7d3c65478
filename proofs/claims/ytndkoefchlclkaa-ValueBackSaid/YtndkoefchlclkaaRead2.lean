/-
  What a Reader's next, number and Raw answer.
-/
import Derived.Test.YtndkoefchlclkaaRead1
namespace Go.Proofs.Ytndkoefchlclkaa
open Go.RowKit

theorem set_drewN (w : World) (a : Addr) (v : Value) (q r : Nat) : ((w.drewN q).setCell a v).drewN r = (w.setCell a v).drewN (q + r) := by
  rw [← World.drewN_drewN]; rfl

theorem next_nil (m : Int) (w : World) : Calls Try.prog 86 #[.pointer none, .int .i64 m] w fun e w' => e = .returned (.slice none 0 0) ∧ w = w' := by
  go_enter Try.func86, Try.ntmps86
  go_wp2_with (go_at_call 87; refine (sound_nil _).mono ?_; rintro e w' ⟨rfl, rfl⟩)
  go_ret
  exact ⟨rfl, rfl⟩

theorem next_bad (p : Nat) (a er m : Int) (A : Option Addr) (n c : Nat) (w : World) (h : Rd w p a er A n c) (he : (er == 0) = false) :
    Calls Try.prog 86 #[.pointer (some ⟨p, 0, none⟩), .int .i64 m] w fun e w' => e = .returned (.slice none 0 0) ∧ w = w' := by
  go_enter Try.func86, Try.ntmps86
  go_wp2_with (go_at_call 87; refine (sound_any _ _ _ _ _ _ _ h).mono ?_; rintro e w' ⟨rfl, rfl⟩)
  go_ret
  exact ⟨rfl, rfl⟩

theorem next_neg (p : Nat) (a m : Int) (A : Option Addr) (n c : Nat) (w : World) (h : Rd w p a 0 A n c) (hm : m < 0) :
    Calls Try.prog 86 #[.pointer (some ⟨p, 0, none⟩), .int .i64 m] w fun e w' => e = .returned (.slice none 0 0) ∧ w' = w.setCell ⟨p, 1, none⟩ (.int .i64 2) := by
  have h1 := h.c1
  have f1 : w.frozen? ⟨p, 1, none⟩ = false := Blk.frozen h 1
  go_enter Try.func86, Try.ntmps86
  go_wp2_with (go_at_call 87; refine (sound_any _ _ _ _ _ _ _ h).mono ?_; rintro e w' ⟨rfl, rfl⟩)
  go_ret
  exact ⟨rfl, rfl⟩

theorem next_short (p k : Nat) (m : Int) (A : Option Addr) (n c : Nat) (w : World) (h : Rd w p k 0 A n c) (hk : k ≤ n) (hn : n ≤ 140737488355328) (hm : (n : Int) - k < m) :
    Calls Try.prog 86 #[.pointer (some ⟨p, 0, none⟩), .int .i64 m] w fun e w' => e = .returned (.slice none 0 0) ∧ ∃ q, w' = (w.setCell ⟨p, 1, none⟩ (.int .i64 7)).drewN q := by
  have h1 := h.c1
  have f1 : w.frozen? ⟨p, 1, none⟩ = false := Blk.frozen h 1
  have hm0 : ¬ m < 0 := by omega
  go_enter Try.func86, Try.ntmps86
  go_wp2_with (first | (go_at_call 87; refine (sound_any _ _ _ _ _ _ _ h).mono ?_; rintro e w' ⟨rfl, rfl⟩) | (go_at_call 88; refine (left_any _ _ _ _ _ _ _ h hk hn).mono ?_; rintro e w' ⟨rfl, q, rfl⟩))
  go_ret
  exact ⟨rfl, _, rfl⟩

def NextOk (p k m : Nat) (A : Option Addr) (c : Nat) (w : World) (e : Ending) (w' : World) : Prop :=
  e = .returned (.slice (if c = k then A else A.map (·.add k)) m (c - k)) ∧ ∃ q, w' = (w.setCell ⟨p, 0, none⟩ (.int .i64 (k + m))).drewN q

theorem next_ok (p k m : Nat) (A : Option Addr) (n c : Nat) (w : World) (h : Rd w p k 0 A n c) (hk : k ≤ n) (hnc : n ≤ c) (hn : n ≤ 140737488355328) (hm : m ≤ n - k) :
    Calls Try.prog 86 #[.pointer (some ⟨p, 0, none⟩), .int .i64 m] w (NextOk p k m A c w) := by
  have h0 := h.c0
  have h2 := h.c2
  have f0 : w.frozen? ⟨p, 0, none⟩ = false := Blk.frozen h 0
  have hm0 : ¬ (m : Int) < 0 := by omega
  have hm1 : ¬ ((n : Int) - k < m) := by omega
  go_enter Try.func86, Try.ntmps86
  go_wp2_with (first | (go_at_call 87; refine (sound_any _ _ _ _ _ _ _ h).mono ?_; rintro e w' ⟨rfl, rfl⟩) | (go_at_call 88; refine (left_any _ _ _ _ _ _ _ h hk hn).mono ?_; rintro e w' ⟨rfl, q, rfl⟩))
  go_quiet (fail)
  go_wp2
  all_goals go_ret
  · exact ⟨by simp [*], _, set_drewN _ _ _ _ _⟩
  · exact ⟨by simp [*], _, set_drewN _ _ _ _ _⟩

/-- The bytes behind a cut. -/
theorem By.cut {w : World} {B : Nat} {A : Option Addr} {n : Nat} {zs : List Int} (h : By w B A n zs) {k m c : Nat} (hm : m ≤ n - k) (hk : k ≤ n) (hc : n ≤ c) :
    By w B (if c = k then A else A.map (·.add k)) m ((zs.drop k).take m) := by
  refine ⟨by rw [List.length_take, List.length_drop, h.1]; omega, fun j => ?_, fun hp => ?_⟩
  · have := h.2.1 (k + j)
    by_cases hj : j < m
    · simpa [List.getD, List.getElem?_take, hj] using this
    · simp [List.getD, List.getElem?_take, hj]
  · obtain ⟨b, o, rfl, hb, hcell⟩ := h.2.2 (by omega)
    rw [if_neg (by omega)]
    refine ⟨b, o + k, ?_, hb, fun j hj => ?_⟩
    · by_cases h0 : k = 0 <;> simp [Addr.add, h0]
    · rw [Nat.add_assoc, hcell (k + j) (by omega)]
      simp [List.getD, hj]

/-- The number that bytes are, the highest first. -/
def num (zs : List Int) : Int := zs.foldl (fun x z => (x * 256 + z) % 18446744073709551616) 0

theorem num_snoc (zs : List Int) (k : Nat) (hk : k < zs.length) : num (zs.take (k + 1)) = (num (zs.take k) * 256 + zs.getD k 0) % 18446744073709551616 := by
  rw [List.take_succ_eq_append_getElem hk]
  have e : zs.getD k 0 = zs[k] := by simp [List.getD, hk]
  rw [e]
  unfold num
  rw [List.foldl_append]
  rfl
theorem num_range (zs : List Int) : 0 ≤ num zs ∧ num zs < 18446744073709551616 := by
  rcases List.eq_nil_or_concat zs with rfl | ⟨l, a, rfl⟩
  · simp [num]
  · simp only [num, List.concat_eq_append, List.foldl_append, List.foldl_cons, List.foldl_nil]
    omega

end Go.Proofs.Ytndkoefchlclkaa
