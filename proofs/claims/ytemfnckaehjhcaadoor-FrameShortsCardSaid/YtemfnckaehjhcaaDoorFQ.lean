/-
  The law FrameShorts' walk: short numbers, and what bytes begin with, are the document's.
-/
import Derived.Test.YtemfnckaehjhcaaDoorFS
import Derived.Deep.CutBlock
namespace Go.Proofs.YtemfnckaehjhcaaDoor
open Go.RowKit

/-- The slice '.slice A n _' holds numbers of 64 bits. -/
def Nus (w : World) (B : Nat) (A : Option Addr) (n : Nat) : Prop := 0 < n → ∃ b o, A = some ⟨b, o, none⟩ ∧ b < B ∧ ∀ i, i < n → ∃ x : Nat, x < 2 ^ 64 ∧ w.cell? ⟨b, o + i, none⟩ = some (.int .u64 (x : Int))
/-- The slice holds rows of bytes. -/
def Rws (w : World) (B : Nat) (A : Option Addr) (n : Nat) : Prop := 0 < n → ∃ b o, A = some ⟨b, o, none⟩ ∧ b < B ∧ ∀ i, i < n → ∃ A' m c zs, w.cell? ⟨b, o + i, none⟩ = some (.slice A' m c) ∧ By w B A' m zs ∧ m ≤ c ∧ (A' = none → c = 0) ∧ c ≤ 9223372036854775807
theorem Nus.below {w w' : World} {B n : Nat} {A : Option Addr} (h : Nus w B A n) (hb : Below B w w') : Nus w' B A n := fun hn => by
  obtain ⟨b, o, e, hbl, hc⟩ := h hn
  refine ⟨b, o, e, hbl, fun i hi => ?_⟩
  obtain ⟨x, hx, hcl⟩ := hc i hi
  exact ⟨x, hx, (hb.cell (p := ⟨b, o + i, none⟩) hbl).trans hcl⟩
theorem Rws.below {w w' : World} {B n : Nat} {A : Option Addr} (h : Rws w B A n) (hb : Below B w w') : Rws w' B A n := fun hn => by
  obtain ⟨b, o, e, hbl, hc⟩ := h hn
  refine ⟨b, o, e, hbl, fun i hi => ?_⟩
  obtain ⟨A', m, c, zs, hcl, hy, r⟩ := hc i hi
  exact ⟨A', m, c, zs, (hb.cell (p := ⟨b, o + i, none⟩) hbl).trans hcl, hy.below hb, r⟩

set_option maxRecDepth 100000 in
set_option maxHeartbeats 8000000 in
theorem shorts_walk (A : Option Addr) (n c : Nat) (A1 : Option Addr) (n1 c1 : Nat) (w : World) (h : Nus w w.heap.size A n) (h1 : Rws w w.heap.size A1 n1) (hG : Bk.Gl w) :
    Calls Tryd.prog 4 #[.slice A n c, .slice A1 n1 c1] w fun e w' => e = .returned (.bool true) ∧ Below w.heap.size w w' := by
  have WK := Lib.hid (wakes_any w hG)
  have H := Lib.hid h
  have H1 := Lib.hid h1
  clear h h1 hG
  go_enter Tryd.func4, Tryd.ntmps4
  go_upto_region 3 with (go_at_call 8; refine WK.out.mono ?_; rintro e w1 ⟨rfl, hb⟩; have B1 := Lib.hid hb; clear WK hb)
  go_upto_block 0 with fail
  go_cut [5, 6] from 19 to 32 (fun v5 v6 wx => Below w.heap.size w wx)
  case first =>
    go_wp2_with fail
    go_loopw [19] (fun iv wr => ∃ k : Nat, k ≤ n ∧ k ≤ 20 ∧ iv = .int .i64 k ∧ Below w.heap.size w wr) (fun iv _ => n - (intOf iv).toNat)
    case atStart => exact ⟨0, Nat.zero_le _, by omega, rfl, B1.out⟩
    case round =>
      obtain ⟨k, hk, hk20, rfl, hb⟩ := hrel
      have HB := Lib.hid hb
      clear hb B1
      by_cases hlt : k < n
      · obtain ⟨b, o, rfl, hbB, hc⟩ := (H.out.below HB.out) (by omega)
        obtain ⟨x, hx, hcl⟩ := hc k hlt
        have k0 : (0 : Int) ≤ (k : Int) := by omega
        clear hc
        by_cases h20 : k = 20
        · subst h20
          go_wp2_with fail
          go_meet
          case rel => exact HB.out
        · have h20' : ((k : Int) == 20) = false := by simp; omega
          have S1 := Lib.hid (short_own x wr hx)
          have S2 := Lib.hid (fun W => refshort_any x hx W)
          have lx := shB_len10 hx
          generalize shB x = X at *
          go_wp2_with (first
            | (go_at_call 17; refine S1.out.mono ?_; rintro e w2 ⟨A2, c2, rfl, o2, hb2⟩; have O2 := Lib.hid o2; have B2 := Lib.hid (HB.out.trans (hb2.mono HB.out.size)); clear o2 hb2 S1)
            | (go_at_call 18; refine (S2.out _).mono ?_; rintro e w3 ⟨A3, c3, rfl, o3, hb3⟩; have O3 := Lib.hid o3; have O2' := Lib.hid (O2.out.below hb3); have B3 := Lib.hid (B2.out.trans (hb3.mono B2.out.size)); clear o3 hb3 O2 B2 S2)
            | (go_at_call 13; refine (same_any A2 A3 X.length c2 X.length c3 X X w3 _ _ O2'.out.by O3.out.by (by omega) (by omega)).mono ?_; rw [beq_self_eq_true]; rintro e w4 ⟨rfl, q, rfl⟩; have B4 := Lib.hid (below_drewN B3.out q); clear B3 O3 O2'))
          go_roundw
          case rel => exact ⟨k + 1, by omega, by omega, by go_num, B4.out⟩
          case measure => simp [intOf]; omega
      · go_wp2_with fail
        go_meet
        case rel => exact HB.out
  case rest =>
    have B2 := Lib.hid hcut
    clear hcut B1
    go_wp2_with fail
    go_loopw [35] (fun iv wr => ∃ k : Nat, k ≤ n1 ∧ k ≤ 20 ∧ iv = .int .i64 k ∧ Below w.heap.size w wr) (fun iv _ => n1 - (intOf iv).toNat)
    case atStart => exact ⟨0, Nat.zero_le _, by omega, rfl, B2.out⟩
    case round =>
      obtain ⟨k, hk, hk20, rfl, hb⟩ := hrel
      have HB := Lib.hid hb
      clear hb B2
      by_cases hlt : k < n1
      · obtain ⟨b, o, rfl, hbB, hc⟩ := (H1.out.below HB.out) (by omega)
        obtain ⟨A2, m, c2, zs, hcl, hy, hmc, hnil, hcm⟩ := hc k hlt
        have k0 : (0 : Int) ≤ (k : Int) := by omega
        clear hc
        by_cases h20 : k = 20
        · subst h20
          clear hy
          go_wp2_with fail
          go_ret
          exact ⟨rfl, HB.out⟩
        · have h20' : ((k : Int) == 20) = false := by simp; omega
          obtain ⟨mm, hmm⟩ : ∃ mm : Nat, min (m : Int) 30 = (mm : Int) := ⟨min m 30, by omega⟩
          have m1 : mm ≤ m := by omega
          have m2 : mm ≤ 30 := by omega
          have m0 : (0 : Int) ≤ (mm : Int) := by omega
          have m3 : (mm : Int) ≤ (c2 : Int) := by omega
          have BY : Hid (By wr w.heap.size A2 mm (zs.take mm)) := Lib.hid (by
            refine ⟨by rw [List.length_take, hy.1]; omega, Bs.take hy.bs mm, fun hp => ?_⟩
            obtain ⟨b', o', hA, hb', hcl'⟩ := hy.2.2 (by omega)
            refine ⟨b', o', hA, hb', fun j hj => ?_⟩
            rw [hcl' j (by omega)]
            simp [List.getD, List.getElem?_take, hj])
          generalize zs.take mm = T at *
          have L1 := Lib.hid (long_any A2 mm c2 _ T wr BY.out (by omega))
          have L2 := Lib.hid (reflong_any A2 mm c2 _ T wr BY.out HB.out.size (by omega) hcm (by omega))
          clear hy
          rcases hlo : loB T with _ | ⟨x, kk⟩
          · rw [hlo, show loR none = .tuple #[.int .u64 0, .int .i64 0, .bool false] from rfl] at L1 L2
            clear hlo
            go_wp2_with (first
              | (go_at_call 19; refine L1.out.mono ?_; rintro e w2 ⟨rfl, rfl⟩)
              | (go_at_call 20; refine L2.out.mono ?_; rintro e w3 ⟨rfl, hb3⟩; have B3 := Lib.hid (HB.out.trans (hb3.mono HB.out.size)); clear hb3))
            go_roundw
            case rel => exact ⟨k + 1, by omega, by omega, by go_num, B3.out⟩
            case measure => simp [intOf]; omega
          · rw [hlo, show loR (some (x, kk)) = .tuple #[.int .u64 (x : Int), .int .i64 (kk : Int), .bool true] from rfl] at L1 L2
            have q1 : ((x : Int) != (x : Int)) = false := by simp
            have q2 : ((kk : Int) != (kk : Int)) = false := by simp
            clear hlo
            go_wp2_with (first
              | (go_at_call 19; refine L1.out.mono ?_; rintro e w2 ⟨rfl, rfl⟩)
              | (go_at_call 20; refine L2.out.mono ?_; rintro e w3 ⟨rfl, hb3⟩; have B3 := Lib.hid (HB.out.trans (hb3.mono HB.out.size)); clear hb3))
            go_roundw
            case rel => exact ⟨k + 1, by omega, by omega, by go_num, B3.out⟩
            case measure => simp [intOf]; omega
      · go_wp2_with fail
        go_ret
        exact ⟨rfl, HB.out⟩

end Go.Proofs.YtemfnckaehjhcaaDoor
