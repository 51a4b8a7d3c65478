/-
  Which entries may stand behind a Term: the program's mayStand.
-/
import Derived.Test.YtmgaihdepglahaaL2
namespace Go.Proofs.Ytmgaihdepglahaa
open Go.RowKit

theorem drop_en (es : List En) (k : Nat) (h : k < es.length) : es.drop k = es.getD k e0 :: es.drop (k + 1) := by
  rw [List.drop_eq_getElem_cons h]
  congr 1
  simp [List.getD, h]
theorem behind_step (t : Int) (es : List En) (k : Nat) (h : k < es.length) : behind t (es.drop k) = (rightE (es.getD k e0) && (decide (t ≤ (es.getD k e0).t) && behind (es.getD k e0).t (es.drop (k + 1)))) := by
  rw [drop_en es k h, behind]

/-- The three cells of an entry. -/
theorem rng3 {w : World} {b o : Nat} {x : Ec} (h : w.rangeAt b o x.cs) : w.cell? ⟨b, o, none⟩ = some (.int .u64 x.t) ∧ w.cell? ⟨b, o + 1, none⟩ = some (.int .i64 x.k) ∧ w.cell? ⟨b, o + 2, none⟩ = some (.slice x.A x.n x.c) :=
  ⟨h 0 _ rfl, h 1 _ rfl, h 2 _ rfl⟩

set_option maxHeartbeats 1000000 in
theorem maystand_any (t : Int) (A : Option Addr) (n c : Nat) (es : List En) (B : Nat) (w : World) (h0 : 0 ≤ t) (hn : n ≤ 1000000) (h : Es w B A n es) (hB : B ≤ w.heap.size) :
    Calls Try.prog 71 #[.int .u64 t, .slice A n c] w fun e w' => e = .returned (.bool (behind t es)) ∧ Below w.heap.size w w' := by
  have HL := Lib.hid h.len
  have H := Lib.hid h
  clear h
  go_enter Try.func71, Try.ntmps71
  go_wp2
  go_loopw [0, 9] (fun tv i wr => ∃ (k : Nat) (u : Int), k ≤ n ∧ i = .int .i64 k ∧ tv = .int .u64 u ∧ 0 ≤ u ∧ Hid (behind t es = behind u (es.drop k)) ∧ Below w.heap.size w wr) (fun _ i _ => n - (intOf i).toNat)
  case atStart => exact ⟨0, t, Nat.zero_le _, rfl, rfl, h0, Lib.hid (by rw [List.drop_zero]), Below.refl _ _⟩
  case round =>
    obtain ⟨k, u, hk, rfl, rfl, hu, hbe, hb⟩ := hrel
    by_cases hlt : k < n
    · obtain ⟨b, o, x, rfl, hbB, hx, hok, hr⟩ := (H.out.below (hb.mono hB)).at_ hlt
      have hst := behind_step u es k (by rw [HL.out]; exact hlt)
      obtain ⟨c0, c1, c2⟩ := rng3 hr
      rw [← hx] at hst
      have ht0 := hok.t0
      have HN := Lib.hid hok.by_.1
      obtain ⟨xt, xk, xA, xn, xc, xd⟩ := x
      simp only [Ec.en] at hst c0 c1 c2 ht0 HN
      have EM := Lib.hid (fun w => entrymaybe_any xt xk xA xn xc xd HN.out ht0 w)
      have HST := Lib.hid (hbe.out.trans hst)
      clear hst hr hok hx hbe
      go_wp2_with fail
      refine (EM.out _).mono ?_
      rintro e w1 ⟨rfl, hb1⟩
      have bx := (Blk.new wr 54 #[.int .u64 xt, .int .i64 xk, .slice xA xn xc]).below hb1 (by simp)
      have d0 : w1.cell? ⟨wr.heap.size, 0, none⟩ = some (.int .u64 xt) := bx.cell 0
      have hB1 : Below w.heap.size w w1 := (hb.alloc hb.size _).trans (hb1.mono (by have := hb.size; simp; omega))
      have HB1 := Lib.hid hB1
      clear hb1 bx hB1 c0 c1 c2
      cases hre : rightE ⟨xt, xk, xd⟩ with
      | false =>
        rw [hre] at HST
        clear hre
        go_wp2
        go_ret
        exact ⟨ret_bool (by rw [HST.out]; rfl), HB1.out⟩
      | true =>
        rw [hre] at HST
        clear hre
        by_cases hle : u ≤ xt
        · have hle' : decide (xt < u) = false := decide_eq_false (by omega)
          have HS2 : Hid (behind t es = behind xt (es.drop (k + 1))) := Lib.hid (HST.out.trans (by simp [hle]))
          clear HST
          go_wp2
          go_roundw
          case rel => exact ⟨k + 1, xt, by omega, by go_num, rfl, ht0, HS2, HB1.out⟩
          case measure => simp [intOf]; omega
        · have hle' : decide (xt < u) = true := decide_eq_true (by omega)
          have HS2 : Hid (behind t es = false) := Lib.hid (HST.out.trans (by simp [hle]))
          clear HST hle
          go_wp2
          go_ret
          exact ⟨ret_bool HS2.out.symm, HB1.out⟩
    · obtain rfl : k = n := by omega
      have ht : Hid (behind t es = true) := by
        rw [hbe.out, List.drop_of_length_le (by rw [HL.out]; omega)]
        exact Lib.hid rfl
      go_wp2
      go_ret
      exact ⟨ret_bool ht.out.symm, hb⟩

end Go.Proofs.Ytmgaihdepglahaa
