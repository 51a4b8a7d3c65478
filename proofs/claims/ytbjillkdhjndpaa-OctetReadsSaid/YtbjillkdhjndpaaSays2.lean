/-
  What the document's Go and 'says' answer.
-/
import Derived.Test.YtbjillkdhjndpaaSays
namespace Go.Proofs.Ytbjillkdhjndpaa
open Go.RowKit

/-- What the document's Go leaves. -/
def Goed (w : World) (A : Option Addr) (n c k : Nat) (er m : Int) (e : Ending) (w' : World) : Prop :=
  e = .returned (.agg #[.slice A n c, .int .i64 (gAt n k er m), .int .i64 (gErr n k er m)]) ∧ Below w.heap.size w w'
theorem Goed.mk {w w' : World} {A : Option Addr} {n c k : Nat} {er m a b : Int} (h2 : (gAt n k er m : Int) = a) (h3 : gErr n k er m = b) (hb : Below w.heap.size w w') : Goed w A n c k er m (.returned (.agg #[.slice A n c, .int .i64 a, .int .i64 b])) w' := by
  subst h2 h3
  exact ⟨rfl, hb⟩

set_option maxHeartbeats 4000000 in
theorem refgo_any (A : Option Addr) (n c k : Nat) (er m : Int) (w : World) (hk : k ≤ n) (hn : n ≤ 140737488355328) :
    Calls Try.prog 45 #[.agg #[.slice A n c, .int .i64 k, .int .i64 er], .int .i64 m] w (Goed w A n c k er m) := by
  by_cases he : (er == 0) = true
  · obtain rfl : er = 0 := by simpa using he
    by_cases hlo : m < -(k : Int)
    · have h1 : okG n k 0 m = false := by simp [okG]; omega
      have F2 := Lib.hid (show (gAt n k 0 m : Int) = k by simp [gAt, h1])
      have F3 := Lib.hid (show gErr n k 0 m = 2 by simp [gErr, h1])
      clear h1 he
      go_enter Try.func45, Try.ntmps45
      go_wp2
      exact bodyPost_ret (v := .agg #[.slice A n c, .int .i64 k, .int .i64 2]) (by simp [results, Try.results45, go_sem]) rfl (Goed.mk F2.out F3.out (((Below.refl _ _).alloc (Nat.le_refl _) _).alloc (by simp) _))
    · by_cases hhi : (n : Int) - k < m
      · have h1 : okG n k 0 m = false := by simp [okG]; omega
        have F2 := Lib.hid (show (gAt n k 0 m : Int) = k by simp [gAt, h1])
        have F3 := Lib.hid (show gErr n k 0 m = 2 by simp [gErr, h1])
        clear h1 he
        go_enter Try.func45, Try.ntmps45
        go_wp2
        exact bodyPost_ret (v := .agg #[.slice A n c, .int .i64 k, .int .i64 2]) (by simp [results, Try.results45, go_sem]) rfl (Goed.mk F2.out F3.out (((Below.refl _ _).alloc (Nat.le_refl _) _).alloc (by simp) _))
      · have h1 : okG n k 0 m = true := by simp [okG]; omega
        have F2 := Lib.hid (show (gAt n k 0 m : Int) = (k : Int) + m by simp [gAt, h1]; omega)
        have F3 := Lib.hid (show gErr n k 0 m = 0 by simp [gErr, h1])
        clear h1 he
        go_enter Try.func45, Try.ntmps45
        go_wp2
        exact bodyPost_ret (v := .agg #[.slice A n c, .int .i64 ((k : Int) + m), .int .i64 0]) (by simp [results, Try.results45, go_sem]) rfl (Goed.mk F2.out F3.out (((Below.refl _ _).alloc (Nat.le_refl _) _).alloc (by simp) _))
  · have he' : (er == 0) = false := by simpa using he
    have he2 : (er != 0) = true := by simpa using he
    have F2 := Lib.hid (show (gAt n k er m : Int) = k by simp [gAt, okG, he'])
    have F3 := Lib.hid (show gErr n k er m = er by simp [gErr, he'])
    clear he
    go_enter Try.func45, Try.ntmps45
    go_wp2
    exact bodyPost_ret (v := .agg #[.slice A n c, .int .i64 k, .int .i64 er]) (by simp [results, Try.results45, go_sem]) rfl (Goed.mk F2.out F3.out (((Below.refl _ _).alloc (Nat.le_refl _) _).alloc (by simp) _))

theorem Blk.set3 {w : World} {g : Nat} {t : TypeId} {a b c : Value} (h : Blk w g t #[a, b, c]) (x y z : Value) : Blk (((w.setCell ⟨g, 0, none⟩ x).setCell ⟨g, 1, none⟩ y).setCell ⟨g, 2, none⟩ z) g t #[x, y, z] :=
  ((h.set_ 0 x).set_ 1 y).set_ 2 z

/-- What 'says' leaves. -/
def Said (w : World) (B : Nat) (A : Option Addr) (n c : Nat) (zs : List Int) (k : Nat) (er d m : Int) (e : Ending) (w' : World) : Prop :=
  ∃ A' c', e = .returned (.tuple #[.agg #[.slice A n c, .int .i64 (sAt n k er d m), .int .i64 (sErr n k er d m)], .int .u64 (sX zs k er d), .slice A' (sB zs k er d m).length c']) ∧ By w' B A' (sB zs k er d m).length (sB zs k er d m) ∧ Below w.heap.size w w'

set_option maxHeartbeats 16000000 in
theorem says_any (kind m d : Int) (A : Option Addr) (n c : Nat) (zs : List Int) (k : Nat) (er : Int) (w : World) (B : Nat) (hb : By w B A n zs) (hB : B ≤ w.heap.size) (hk : k ≤ n) (hnc : n ≤ c) (hn : n ≤ 140737488355328) (hd : (IntKind.u64.wrap kind).tmod 8 = d) :
    Calls Try.prog 24 #[.agg #[.int .i64 kind, .int .i64 m], .agg #[.slice A n c, .int .i64 k, .int .i64 er]] w (Said w B A n c zs k er d m) := by
  obtain ⟨d', hd', hcases⟩ := kind_cases kind
  rw [hd] at hd'
  subst hd'
  have hs0 : (((w.alloc (.cells #[.int .i64 kind, .int .i64 m] 47)).alloc (.cells #[.slice A n c, .int .i64 k, .int .i64 er] 45)).alloc (.cells #[.slice none 0 0, .int .i64 0, .int .i64 0] 45)).heap.size = w.heap.size + 3 := by simp
  have hb0 : By (((w.alloc (.cells #[.int .i64 kind, .int .i64 m] 47)).alloc (.cells #[.slice A n c, .int .i64 k, .int .i64 er] 45)).alloc (.cells #[.slice none 0 0, .int .i64 0, .int .i64 0] 45)) B A n zs := ((hb.alloc hB _).alloc (by simp; omega) _).alloc (by simp; omega) _
  have hB0 : Below w.heap.size w (((w.alloc (.cells #[.int .i64 kind, .int .i64 m] 47)).alloc (.cells #[.slice A n c, .int .i64 k, .int .i64 er] 45)).alloc (.cells #[.slice none 0 0, .int .i64 0, .int .i64 0] 45)) := (((Below.refl _ _).alloc (Nat.le_refl _) _).alloc (by simp) _).alloc (by simp; omega) _
  have hk4 : Blk (((w.alloc (.cells #[.int .i64 kind, .int .i64 m] 47)).alloc (.cells #[.slice A n c, .int .i64 k, .int .i64 er] 45)).alloc (.cells #[.slice none 0 0, .int .i64 0, .int .i64 0] 45)) (w.heap.size + 1 + 1) 45 #[.slice none 0 0, .int .i64 0, .int .i64 0] := by
    have := Blk.new ((w.alloc (.cells #[.int .i64 kind, .int .i64 m] 47)).alloc (.cells #[.slice A n c, .int .i64 k, .int .i64 er] 45)) 45 #[.slice none 0 0, .int .i64 0, .int .i64 0]
    simpa using this
  have K0 := Lib.hid hk4
  have S0 := Lib.hid hs0
  have B0 := Lib.hid hB0
  clear hk4 hs0 hB0
  rcases hcases with rfl | rfl | rfl | rfl | rfl | rfl | rfl | rfl
  · have eX : Hid (sX zs k er 0 = num (nBytes zs k er 1)) := show _ = _ by simp [sX]
    have eB : Hid (sB zs k er 0 m = []) := show _ = _ by simp [sB]
    have eA : Hid (sAt n k er 0 m = nAt n k er 1) := show _ = _ by simp [sAt]
    have eE : Hid (sErr n k er 0 m = nErr n k er 1) := show _ = _ by simp [sErr]
    go_enter Try.func24, Try.ntmps24
    go_wp2_with fail
    refine (refnext_any A n c zs k er 1 _ B hb0 (by rw [S0.out]; omega) hk hnc hn).mono ?_
    rintro e w3 ⟨A', c', rfl, hy3, hb3⟩
    have k3 := K0.out.below hb3 (by rw [S0.out]; omega)
    have s3 := hb3.size
    rw [S0.out] at s3
    have hB3 : Below w.heap.size w w3 := B0.out.trans (hb3.mono (by rw [S0.out]; omega))
    have c0 : w3.cell? ⟨w.heap.size + 1 + 1, 0, none⟩ = some (.slice none 0 0) := k3.cell 0
    have c1 : w3.cell? ⟨w.heap.size + 1 + 1, 1, none⟩ = some (.int .i64 0) := k3.cell 1
    have c2 : w3.cell? ⟨w.heap.size + 1 + 1, 2, none⟩ = some (.int .i64 0) := k3.cell 2
    have f0 := k3.frozen 0
    have f1 := k3.frozen 1
    have f2 := k3.frozen 2
    have K3 := Lib.hid k3
    clear k3 hb3 hb0 hb
    have s3' : w.heap.size + 1 + 1 < w3.heap.size := by omega
    go_wp2_with fail
    have hy4 : By (w3.alloc (.cells #[.slice A n c, .int .i64 (nAt n k er 1), .int .i64 (nErr n k er 1)] 45)) B A' (nBytes zs k er 1).length (nBytes zs k er 1) := hy3.alloc (by omega) _
    have hl4 : (nBytes zs k er 1).length ≤ 140737488355328 := by have := nBytes_len zs k er 1; omega
    have hBq : B ≤ w.heap.size + 1 + 1 := by omega
    have HY4 := Lib.hid hy4
    clear hy4 hy3
    go_region_with (go_at_call 44; refine (refnum_any A' (nBytes zs k er 1).length c' (nBytes zs k er 1) _ B ?_ hl4).mono ?_; (first | (exact HY4.out) | (exact ((HY4.out.setCell (p := ⟨w.heap.size + 1 + 1, 0, none⟩) hBq _).setCell (p := ⟨w.heap.size + 1 + 1, 1, none⟩) hBq _).setCell (p := ⟨w.heap.size + 1 + 1, 2, none⟩) hBq _)); rintro e w' ⟨rfl, rfl⟩)
    all_goals
      go_wp2
      have hk := (K3.out.set3 (.slice A n c) (.int .i64 (nAt n k er 1)) (.int .i64 (nErr n k er 1))).alloc (.cells #[.slice A n c, .int .i64 (nAt n k er 1), .int .i64 (nErr n k er 1)] 45)
      have e0 := hk.cell 0
      have e1 := hk.cell 1
      have e2 := hk.cell 2
      simp only [List.getElem?_toArray, List.getElem?_cons_zero, List.getElem?_cons_succ] at e0 e1 e2
      clear hk
      refine bodyPost_ret (v := .tuple #[.agg #[.slice A n c, .int .i64 (nAt n k er 1), .int .i64 (nErr n k er 1)], .int .u64 (num (nBytes zs k er 1)), .slice none 0 0]) ?_ rfl ?_
      · simp [results, Try.results24, go_sem, e0, e1, e2]
      · exact ⟨none, 0, by rw [eX.out, eB.out, eA.out, eE.out]; rfl, by rw [eB.out]; exact By.none_, ((((hB3.setCell (p := ⟨w.heap.size + 1 + 1, 0, none⟩) (by simp; omega) _).setCell (p := ⟨w.heap.size + 1 + 1, 1, none⟩) (by simp; omega) _).setCell (p := ⟨w.heap.size + 1 + 1, 2, none⟩) (by simp; omega) _).alloc (by simp [World.setCell]; omega) _).drew⟩
  · have eX : Hid (sX zs k er 1 = num (nBytes zs k er 2)) := show _ = _ by simp [sX]
    have eB : Hid (sB zs k er 1 m = []) := show _ = _ by simp [sB]
    have eA : Hid (sAt n k er 1 m = nAt n k er 2) := show _ = _ by simp [sAt]
    have eE : Hid (sErr n k er 1 m = nErr n k er 2) := show _ = _ by simp [sErr]
    go_enter Try.func24, Try.ntmps24
    go_wp2_with fail
    refine (refnext_any A n c zs k er 2 _ B hb0 (by rw [S0.out]; omega) hk hnc hn).mono ?_
    rintro e w3 ⟨A', c', rfl, hy3, hb3⟩
    have k3 := K0.out.below hb3 (by rw [S0.out]; omega)
    have s3 := hb3.size
    rw [S0.out] at s3
    have hB3 : Below w.heap.size w w3 := B0.out.trans (hb3.mono (by rw [S0.out]; omega))
    have c0 : w3.cell? ⟨w.heap.size + 1 + 1, 0, none⟩ = some (.slice none 0 0) := k3.cell 0
    have c1 : w3.cell? ⟨w.heap.size + 1 + 1, 1, none⟩ = some (.int .i64 0) := k3.cell 1
    have c2 : w3.cell? ⟨w.heap.size + 1 + 1, 2, none⟩ = some (.int .i64 0) := k3.cell 2
    have f0 := k3.frozen 0
    have f1 := k3.frozen 1
    have f2 := k3.frozen 2
    have K3 := Lib.hid k3
    clear k3 hb3 hb0 hb
    have s3' : w.heap.size + 1 + 1 < w3.heap.size := by omega
    go_wp2_with fail
    have hy4 : By (w3.alloc (.cells #[.slice A n c, .int .i64 (nAt n k er 2), .int .i64 (nErr n k er 2)] 45)) B A' (nBytes zs k er 2).length (nBytes zs k er 2) := hy3.alloc (by omega) _
    have hl4 : (nBytes zs k er 2).length ≤ 140737488355328 := by have := nBytes_len zs k er 2; omega
    have hBq : B ≤ w.heap.size + 1 + 1 := by omega
    have HY4 := Lib.hid hy4
    clear hy4 hy3
    go_region_with (go_at_call 44; refine (refnum_any A' (nBytes zs k er 2).length c' (nBytes zs k er 2) _ B ?_ hl4).mono ?_; (first | (exact HY4.out) | (exact ((HY4.out.setCell (p := ⟨w.heap.size + 1 + 1, 0, none⟩) hBq _).setCell (p := ⟨w.heap.size + 1 + 1, 1, none⟩) hBq _).setCell (p := ⟨w.heap.size + 1 + 1, 2, none⟩) hBq _)); rintro e w' ⟨rfl, rfl⟩)
    all_goals
      go_wp2
      have hk := (K3.out.set3 (.slice A n c) (.int .i64 (nAt n k er 2)) (.int .i64 (nErr n k er 2))).alloc (.cells #[.slice A n c, .int .i64 (nAt n k er 2), .int .i64 (nErr n k er 2)] 45)
      have e0 := hk.cell 0
      have e1 := hk.cell 1
      have e2 := hk.cell 2
      simp only [List.getElem?_toArray, List.getElem?_cons_zero, List.getElem?_cons_succ] at e0 e1 e2
      clear hk
      refine bodyPost_ret (v := .tuple #[.agg #[.slice A n c, .int .i64 (nAt n k er 2), .int .i64 (nErr n k er 2)], .int .u64 (num (nBytes zs k er 2)), .slice none 0 0]) ?_ rfl ?_
      · simp [results, Try.results24, go_sem, e0, e1, e2]
      · exact ⟨none, 0, by rw [eX.out, eB.out, eA.out, eE.out]; rfl, by rw [eB.out]; exact By.none_, ((((hB3.setCell (p := ⟨w.heap.size + 1 + 1, 0, none⟩) (by simp; omega) _).setCell (p := ⟨w.heap.size + 1 + 1, 1, none⟩) (by simp; omega) _).setCell (p := ⟨w.heap.size + 1 + 1, 2, none⟩) (by simp; omega) _).alloc (by simp [World.setCell]; omega) _).drew⟩
  · have eX : Hid (sX zs k er 2 = num (nBytes zs k er 4)) := show _ = _ by simp [sX]
    have eB : Hid (sB zs k er 2 m = []) := show _ = _ by simp [sB]
    have eA : Hid (sAt n k er 2 m = nAt n k er 4) := show _ = _ by simp [sAt]
    have eE : Hid (sErr n k er 2 m = nErr n k er 4) := show _ = _ by simp [sErr]
    go_enter Try.func24, Try.ntmps24
    go_wp2_with fail
    refine (refnext_any A n c zs k er 4 _ B hb0 (by rw [S0.out]; omega) hk hnc hn).mono ?_
    rintro e w3 ⟨A', c', rfl, hy3, hb3⟩
    have k3 := K0.out.below hb3 (by rw [S0.out]; omega)
    have s3 := hb3.size
    rw [S0.out] at s3
    have hB3 : Below w.heap.size w w3 := B0.out.trans (hb3.mono (by rw [S0.out]; omega))
    have c0 : w3.cell? ⟨w.heap.size + 1 + 1, 0, none⟩ = some (.slice none 0 0) := k3.cell 0
    have c1 : w3.cell? ⟨w.heap.size + 1 + 1, 1, none⟩ = some (.int .i64 0) := k3.cell 1
    have c2 : w3.cell? ⟨w.heap.size + 1 + 1, 2, none⟩ = some (.int .i64 0) := k3.cell 2
    have f0 := k3.frozen 0
    have f1 := k3.frozen 1
    have f2 := k3.frozen 2
    have K3 := Lib.hid k3
    clear k3 hb3 hb0 hb
    have s3' : w.heap.size + 1 + 1 < w3.heap.size := by omega
    go_wp2_with fail
    have hy4 : By (w3.alloc (.cells #[.slice A n c, .int .i64 (nAt n k er 4), .int .i64 (nErr n k er 4)] 45)) B A' (nBytes zs k er 4).length (nBytes zs k er 4) := hy3.alloc (by omega) _
    have hl4 : (nBytes zs k er 4).length ≤ 140737488355328 := by have := nBytes_len zs k er 4; omega
    have hBq : B ≤ w.heap.size + 1 + 1 := by omega
    have HY4 := Lib.hid hy4
    clear hy4 hy3
    go_region_with (go_at_call 44; refine (refnum_any A' (nBytes zs k er 4).length c' (nBytes zs k er 4) _ B ?_ hl4).mono ?_; (first | (exact HY4.out) | (exact ((HY4.out.setCell (p := ⟨w.heap.size + 1 + 1, 0, none⟩) hBq _).setCell (p := ⟨w.heap.size + 1 + 1, 1, none⟩) hBq _).setCell (p := ⟨w.heap.size + 1 + 1, 2, none⟩) hBq _)); rintro e w' ⟨rfl, rfl⟩)
    all_goals
      go_wp2
      have hk := (K3.out.set3 (.slice A n c) (.int .i64 (nAt n k er 4)) (.int .i64 (nErr n k er 4))).alloc (.cells #[.slice A n c, .int .i64 (nAt n k er 4), .int .i64 (nErr n k er 4)] 45)
      have e0 := hk.cell 0
      have e1 := hk.cell 1
      have e2 := hk.cell 2
      simp only [List.getElem?_toArray, List.getElem?_cons_zero, List.getElem?_cons_succ] at e0 e1 e2
      clear hk
      refine bodyPost_ret (v := .tuple #[.agg #[.slice A n c, .int .i64 (nAt n k er 4), .int .i64 (nErr n k er 4)], .int .u64 (num (nBytes zs k er 4)), .slice none 0 0]) ?_ rfl ?_
      · simp [results, Try.results24, go_sem, e0, e1, e2]
      · exact ⟨none, 0, by rw [eX.out, eB.out, eA.out, eE.out]; rfl, by rw [eB.out]; exact By.none_, ((((hB3.setCell (p := ⟨w.heap.size + 1 + 1, 0, none⟩) (by simp; omega) _).setCell (p := ⟨w.heap.size + 1 + 1, 1, none⟩) (by simp; omega) _).setCell (p := ⟨w.heap.size + 1 + 1, 2, none⟩) (by simp; omega) _).alloc (by simp [World.setCell]; omega) _).drew⟩
  · have eX : Hid (sX zs k er 3 = num (nBytes zs k er 8)) := show _ = _ by simp [sX]
    have eB : Hid (sB zs k er 3 m = []) := show _ = _ by simp [sB]
    have eA : Hid (sAt n k er 3 m = nAt n k er 8) := show _ = _ by simp [sAt]
    have eE : Hid (sErr n k er 3 m = nErr n k er 8) := show _ = _ by simp [sErr]
    go_enter Try.func24, Try.ntmps24
    go_wp2_with fail
    refine (refnext_any A n c zs k er 8 _ B hb0 (by rw [S0.out]; omega) hk hnc hn).mono ?_
    rintro e w3 ⟨A', c', rfl, hy3, hb3⟩
    have k3 := K0.out.below hb3 (by rw [S0.out]; omega)
    have s3 := hb3.size
    rw [S0.out] at s3
    have hB3 : Below w.heap.size w w3 := B0.out.trans (hb3.mono (by rw [S0.out]; omega))
    have c0 : w3.cell? ⟨w.heap.size + 1 + 1, 0, none⟩ = some (.slice none 0 0) := k3.cell 0
    have c1 : w3.cell? ⟨w.heap.size + 1 + 1, 1, none⟩ = some (.int .i64 0) := k3.cell 1
    have c2 : w3.cell? ⟨w.heap.size + 1 + 1, 2, none⟩ = some (.int .i64 0) := k3.cell 2
    have f0 := k3.frozen 0
    have f1 := k3.frozen 1
    have f2 := k3.frozen 2
    have K3 := Lib.hid k3
    clear k3 hb3 hb0 hb
    have s3' : w.heap.size + 1 + 1 < w3.heap.size := by omega
    go_wp2_with fail
    have hy4 : By (w3.alloc (.cells #[.slice A n c, .int .i64 (nAt n k er 8), .int .i64 (nErr n k er 8)] 45)) B A' (nBytes zs k er 8).length (nBytes zs k er 8) := hy3.alloc (by omega) _
    have hl4 : (nBytes zs k er 8).length ≤ 140737488355328 := by have := nBytes_len zs k er 8; omega
    have hBq : B ≤ w.heap.size + 1 + 1 := by omega
    have HY4 := Lib.hid hy4
    clear hy4 hy3
    go_region_with (go_at_call 44; refine (refnum_any A' (nBytes zs k er 8).length c' (nBytes zs k er 8) _ B ?_ hl4).mono ?_; (first | (exact HY4.out) | (exact ((HY4.out.setCell (p := ⟨w.heap.size + 1 + 1, 0, none⟩) hBq _).setCell (p := ⟨w.heap.size + 1 + 1, 1, none⟩) hBq _).setCell (p := ⟨w.heap.size + 1 + 1, 2, none⟩) hBq _)); rintro e w' ⟨rfl, rfl⟩)
    all_goals
      go_wp2
      have hk := (K3.out.set3 (.slice A n c) (.int .i64 (nAt n k er 8)) (.int .i64 (nErr n k er 8))).alloc (.cells #[.slice A n c, .int .i64 (nAt n k er 8), .int .i64 (nErr n k er 8)] 45)
      have e0 := hk.cell 0
      have e1 := hk.cell 1
      have e2 := hk.cell 2
      simp only [List.getElem?_toArray, List.getElem?_cons_zero, List.getElem?_cons_succ] at e0 e1 e2
      clear hk
      refine bodyPost_ret (v := .tuple #[.agg #[.slice A n c, .int .i64 (nAt n k er 8), .int .i64 (nErr n k er 8)], .int .u64 (num (nBytes zs k er 8)), .slice none 0 0]) ?_ rfl ?_
      · simp [results, Try.results24, go_sem, e0, e1, e2]
      · exact ⟨none, 0, by rw [eX.out, eB.out, eA.out, eE.out]; rfl, by rw [eB.out]; exact By.none_, ((((hB3.setCell (p := ⟨w.heap.size + 1 + 1, 0, none⟩) (by simp; omega) _).setCell (p := ⟨w.heap.size + 1 + 1, 1, none⟩) (by simp; omega) _).setCell (p := ⟨w.heap.size + 1 + 1, 2, none⟩) (by simp; omega) _).alloc (by simp [World.setCell]; omega) _).drew⟩
  · have eX : Hid (sX zs k er 4 = 0) := show _ = _ by simp [sX]
    have eB : Hid (sB zs k er 4 m = nBytes zs k er m) := show _ = _ by simp [sB]
    have eA : Hid (sAt n k er 4 m = nAt n k er m) := show _ = _ by simp [sAt]
    have eE : Hid (sErr n k er 4 m = nErr n k er m) := show _ = _ by simp [sErr]
    go_enter Try.func24, Try.ntmps24
    go_wp2_with fail
    refine (refnext_any A n c zs k er m _ B hb0 (by rw [S0.out]; omega) hk hnc hn).mono ?_
    rintro e w3 ⟨A', c', rfl, hy3, hb3⟩
    have k3 := K0.out.below hb3 (by rw [S0.out]; omega)
    have s3 := hb3.size
    rw [S0.out] at s3
    have hB3 : Below w.heap.size w w3 := B0.out.trans (hb3.mono (by rw [S0.out]; omega))
    have c0 : w3.cell? ⟨w.heap.size + 1 + 1, 0, none⟩ = some (.slice none 0 0) := k3.cell 0
    have c1 : w3.cell? ⟨w.heap.size + 1 + 1, 1, none⟩ = some (.int .i64 0) := k3.cell 1
    have c2 : w3.cell? ⟨w.heap.size + 1 + 1, 2, none⟩ = some (.int .i64 0) := k3.cell 2
    have f0 := k3.frozen 0
    have f1 := k3.frozen 1
    have f2 := k3.frozen 2
    have K3 := Lib.hid k3
    clear k3 hb3 hb0 hb
    have s3' : w.heap.size + 1 + 1 < w3.heap.size := by omega
    have HY3 := Lib.hid hy3
    clear hy3
    have hBq : B ≤ w.heap.size + 1 + 1 := by omega
    go_wp2
    have hk := (K3.out.set3 (.slice A n c) (.int .i64 (nAt n k er m)) (.int .i64 (nErr n k er m))).alloc (.cells #[.slice A n c, .int .i64 (nAt n k er m), .int .i64 (nErr n k er m)] 45)
    have e0 := hk.cell 0
    have e1 := hk.cell 1
    have e2 := hk.cell 2
    simp only [List.getElem?_toArray, List.getElem?_cons_zero, List.getElem?_cons_succ] at e0 e1 e2
    clear hk
    refine bodyPost_ret (v := .tuple #[.agg #[.slice A n c, .int .i64 (nAt n k er m), .int .i64 (nErr n k er m)], .int .u64 0, .slice A' (nBytes zs k er m).length c']) ?_ rfl ?_
    · simp [results, Try.results24, go_sem, e0, e1, e2]
    · exact ⟨A', c', by rw [eX.out, eB.out, eA.out, eE.out], by rw [eB.out]; exact (((HY3.out.setCell (p := ⟨w.heap.size + 1 + 1, 0, none⟩) hBq _).setCell (p := ⟨w.heap.size + 1 + 1, 1, none⟩) hBq _).setCell (p := ⟨w.heap.size + 1 + 1, 2, none⟩) hBq _).alloc (by simp [World.setCell]; omega) _, (((hB3.setCell (p := ⟨w.heap.size + 1 + 1, 0, none⟩) (by simp; omega) _).setCell (p := ⟨w.heap.size + 1 + 1, 1, none⟩) (by simp; omega) _).setCell (p := ⟨w.heap.size + 1 + 1, 2, none⟩) (by simp; omega) _).alloc (by simp [World.setCell]; omega) _⟩
  · have eX : Hid (sX zs k er 5 = 0) := show _ = _ by simp [sX]
    have eB : Hid (sB zs k er 5 m = nBytes zs k er m) := show _ = _ by simp [sB]
    have eA : Hid (sAt n k er 5 m = nAt n k er m) := show _ = _ by simp [sAt]
    have eE : Hid (sErr n k er 5 m = nErr n k er m) := show _ = _ by simp [sErr]
    go_enter Try.func24, Try.ntmps24
    go_wp2_with fail
    refine (refnext_any A n c zs k er m _ B hb0 (by rw [S0.out]; omega) hk hnc hn).mono ?_
    rintro e w3 ⟨A', c', rfl, hy3, hb3⟩
    have k3 := K0.out.below hb3 (by rw [S0.out]; omega)
    have s3 := hb3.size
    rw [S0.out] at s3
    have hB3 : Below w.heap.size w w3 := B0.out.trans (hb3.mono (by rw [S0.out]; omega))
    have c0 : w3.cell? ⟨w.heap.size + 1 + 1, 0, none⟩ = some (.slice none 0 0) := k3.cell 0
    have c1 : w3.cell? ⟨w.heap.size + 1 + 1, 1, none⟩ = some (.int .i64 0) := k3.cell 1
    have c2 : w3.cell? ⟨w.heap.size + 1 + 1, 2, none⟩ = some (.int .i64 0) := k3.cell 2
    have f0 := k3.frozen 0
    have f1 := k3.frozen 1
    have f2 := k3.frozen 2
    have K3 := Lib.hid k3
    clear k3 hb3 hb0 hb
    have s3' : w.heap.size + 1 + 1 < w3.heap.size := by omega
    have HY3 := Lib.hid hy3
    clear hy3
    have hBq : B ≤ w.heap.size + 1 + 1 := by omega
    go_wp2
    have hk := (K3.out.set3 (.slice A n c) (.int .i64 (nAt n k er m)) (.int .i64 (nErr n k er m))).alloc (.cells #[.slice A n c, .int .i64 (nAt n k er m), .int .i64 (nErr n k er m)] 45)
    have e0 := hk.cell 0
    have e1 := hk.cell 1
    have e2 := hk.cell 2
    simp only [List.getElem?_toArray, List.getElem?_cons_zero, List.getElem?_cons_succ] at e0 e1 e2
    clear hk
    refine bodyPost_ret (v := .tuple #[.agg #[.slice A n c, .int .i64 (nAt n k er m), .int .i64 (nErr n k er m)], .int .u64 0, .slice A' (nBytes zs k er m).length c']) ?_ rfl ?_
    · simp [results, Try.results24, go_sem, e0, e1, e2]
    · exact ⟨A', c', by rw [eX.out, eB.out, eA.out, eE.out], by rw [eB.out]; exact (((HY3.out.setCell (p := ⟨w.heap.size + 1 + 1, 0, none⟩) hBq _).setCell (p := ⟨w.heap.size + 1 + 1, 1, none⟩) hBq _).setCell (p := ⟨w.heap.size + 1 + 1, 2, none⟩) hBq _).alloc (by simp [World.setCell]; omega) _, (((hB3.setCell (p := ⟨w.heap.size + 1 + 1, 0, none⟩) (by simp; omega) _).setCell (p := ⟨w.heap.size + 1 + 1, 1, none⟩) (by simp; omega) _).setCell (p := ⟨w.heap.size + 1 + 1, 2, none⟩) (by simp; omega) _).alloc (by simp [World.setCell]; omega) _⟩
  · have eX : Hid (sX zs k er 6 = 0) := show _ = _ by simp [sX]
    have eB : Hid (sB zs k er 6 m = []) := show _ = _ by simp [sB]
    have eA : Hid (sAt n k er 6 m = gAt n k er m) := show _ = _ by simp [sAt]
    have eE : Hid (sErr n k er 6 m = gErr n k er m) := show _ = _ by simp [sErr]
    go_enter Try.func24, Try.ntmps24
    go_wp2_with fail
    refine (refgo_any A n c k er m _ hk hn).mono ?_
    rintro e w3 ⟨rfl, hb3⟩
    have k3 := K0.out.below hb3 (by rw [S0.out]; omega)
    have s3 := hb3.size
    rw [S0.out] at s3
    have hB3 : Below w.heap.size w w3 := B0.out.trans (hb3.mono (by rw [S0.out]; omega))
    have c0 : w3.cell? ⟨w.heap.size + 1 + 1, 0, none⟩ = some (.slice none 0 0) := k3.cell 0
    have c1 : w3.cell? ⟨w.heap.size + 1 + 1, 1, none⟩ = some (.int .i64 0) := k3.cell 1
    have c2 : w3.cell? ⟨w.heap.size + 1 + 1, 2, none⟩ = some (.int .i64 0) := k3.cell 2
    have f0 := k3.frozen 0
    have f1 := k3.frozen 1
    have f2 := k3.frozen 2
    have K3 := Lib.hid k3
    clear k3 hb3 hb0 hb
    have s3' : w.heap.size + 1 + 1 < w3.heap.size := by omega
    go_wp2
    have hk := K3.out.set3 (.slice A n c) (.int .i64 (gAt n k er m)) (.int .i64 (gErr n k er m))
    have e0 := hk.cell 0
    have e1 := hk.cell 1
    have e2 := hk.cell 2
    simp only [List.getElem?_toArray, List.getElem?_cons_zero, List.getElem?_cons_succ] at e0 e1 e2
    clear hk
    refine bodyPost_ret (v := .tuple #[.agg #[.slice A n c, .int .i64 (gAt n k er m), .int .i64 (gErr n k er m)], .int .u64 0, .slice none 0 0]) ?_ rfl ?_
    · simp [results, Try.results24, go_sem, e0, e1, e2]
    · exact ⟨none, 0, by rw [eX.out, eB.out, eA.out, eE.out]; rfl, by rw [eB.out]; exact By.none_, ((hB3.setCell (p := ⟨w.heap.size + 1 + 1, 0, none⟩) (by simp; omega) _).setCell (p := ⟨w.heap.size + 1 + 1, 1, none⟩) (by simp; omega) _).setCell (p := ⟨w.heap.size + 1 + 1, 2, none⟩) (by simp; omega) _⟩
  · have eX : Hid (sX zs k er 7 = 0) := show _ = _ by simp [sX]
    have eB : Hid (sB zs k er 7 m = []) := show _ = _ by simp [sB]
    have eA : Hid (sAt n k er 7 m = gAt n k er m) := show _ = _ by simp [sAt]
    have eE : Hid (sErr n k er 7 m = gErr n k er m) := show _ = _ by simp [sErr]
    go_enter Try.func24, Try.ntmps24
    go_wp2_with fail
    refine (refgo_any A n c k er m _ hk hn).mono ?_
    rintro e w3 ⟨rfl, hb3⟩
    have k3 := K0.out.below hb3 (by rw [S0.out]; omega)
    have s3 := hb3.size
    rw [S0.out] at s3
    have hB3 : Below w.heap.size w w3 := B0.out.trans (hb3.mono (by rw [S0.out]; omega))
    have c0 : w3.cell? ⟨w.heap.size + 1 + 1, 0, none⟩ = some (.slice none 0 0) := k3.cell 0
    have c1 : w3.cell? ⟨w.heap.size + 1 + 1, 1, none⟩ = some (.int .i64 0) := k3.cell 1
    have c2 : w3.cell? ⟨w.heap.size + 1 + 1, 2, none⟩ = some (.int .i64 0) := k3.cell 2
    have f0 := k3.frozen 0
    have f1 := k3.frozen 1
    have f2 := k3.frozen 2
    have K3 := Lib.hid k3
    clear k3 hb3 hb0 hb
    have s3' : w.heap.size + 1 + 1 < w3.heap.size := by omega
    go_wp2
    have hk := K3.out.set3 (.slice A n c) (.int .i64 (gAt n k er m)) (.int .i64 (gErr n k er m))
    have e0 := hk.cell 0
    have e1 := hk.cell 1
    have e2 := hk.cell 2
    simp only [List.getElem?_toArray, List.getElem?_cons_zero, List.getElem?_cons_succ] at e0 e1 e2
    clear hk
    refine bodyPost_ret (v := .tuple #[.agg #[.slice A n c, .int .i64 (gAt n k er m), .int .i64 (gErr n k er m)], .int .u64 0, .slice none 0 0]) ?_ rfl ?_
    · simp [results, Try.results24, go_sem, e0, e1, e2]
    · exact ⟨none, 0, by rw [eX.out, eB.out, eA.out, eE.out]; rfl, by rw [eB.out]; exact By.none_, ((hB3.setCell (p := ⟨w.heap.size + 1 + 1, 0, none⟩) (by simp; omega) _).setCell (p := ⟨w.heap.size + 1 + 1, 1, none⟩) (by simp; omega) _).setCell (p := ⟨w.heap.size + 1 + 1, 2, none⟩) (by simp; omega) _⟩

end Go.Proofs.Ytbjillkdhjndpaa
