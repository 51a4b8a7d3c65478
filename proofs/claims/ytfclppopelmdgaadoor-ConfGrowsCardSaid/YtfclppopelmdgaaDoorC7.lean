/-
  Members that come and go: the program's Add, Drop.
-/
import Derived.Test.YtfclppopelmdgaaDoorC6
namespace Go.Proofs.YtfclppopelmdgaaDoor
open Go.RowKit
attribute [local go_sem ↓] field27

theorem or_new : ∀ G : Fin 32, ∀ k : Fin 5, inG G.val ((k.val : Int) + 1) = false → bits .or .u8 (G.val : Int) ((2 ^ k.val : Nat) : Int) = ((G.val + 2 ^ k.val : Nat) : Int) ∧ G.val + 2 ^ k.val < 32 := by decide +kernel
theorem andnot_old : ∀ G : Fin 32, ∀ k : Fin 5, inG G.val ((k.val : Int) + 1) = true → bits .andNot .u8 (G.val : Int) ((2 ^ k.val : Nat) : Int) = ((G.val - 2 ^ k.val : Nat) : Int) := by decide +kernel
theorem alo_pow {m : Int} (h : alo m ≠ 0) : ∃ k : Fin 5, m = (k.val : Int) + 1 ∧ alo m = 2 ^ k.val := by
  rcases alo_cases m with ⟨rfl, e⟩ | ⟨rfl, e⟩ | ⟨rfl, e⟩ | ⟨rfl, e⟩ | ⟨rfl, e⟩ | ⟨_, e⟩
  · exact ⟨0, rfl, e⟩
  · exact ⟨1, rfl, e⟩
  · exact ⟨2, rfl, e⟩
  · exact ⟨3, rfl, e⟩
  · exact ⟨4, rfl, e⟩
  · exact absurd e h
theorem or_alo {G : Nat} (hG : G < 32) {m : Int} (h : alo m ≠ 0) (hi : inG G m = false) : bits .or .u8 (G : Int) (alo m : Nat) = ((G + alo m : Nat) : Int) ∧ G + alo m < 32 := by
  obtain ⟨k, rfl, e⟩ := alo_pow h
  rw [e]
  exact or_new ⟨G, hG⟩ k hi
theorem in_alo {G : Nat} {m : Int} (h : inG G m = true) : alo m ≠ 0 := by
  obtain ⟨h1, h5⟩ := inG_range h
  rcases five h1 h5 with rfl | rfl | rfl | rfl | rfl <;> decide
theorem andnot_alo {G : Nat} (hG : G < 32) {m : Int} (hi : inG G m = true) : bits .andNot .u8 (G : Int) (alo m : Nat) = ((G - alo m : Nat) : Int) := by
  obtain ⟨k, rfl, e⟩ := alo_pow (in_alo hi)
  rw [e]
  exact andnot_old ⟨G, hG⟩ k hi

/-- What Add, Drop answer: the error, the members. -/
def addE (xs : List Int) (m : Int) : Int := if grp xs = 0 then 180 else if alo m = 0 then 2 else if inG (grp xs) m = true then 5 else 0
def addL (xs : List Int) (m : Int) : List Int := if addE xs m = 0 then row (grp xs + alo m) else []
def dropE (xs : List Int) (m : Int) : Int := if grp xs = 0 then 180 else if inG (grp xs) m = false then 4 else if grp xs = alo m then 180 else 0
def dropL (xs : List Int) (m : Int) : List Int := if dropE xs m = 0 then row (grp xs - alo m) else []
def Cfx (w : World) (xs : List Int) (er : Int) (e : Ending) (w' : World) : Prop := ∃ A n c, e = .returned (.tuple #[.agg #[.slice A n c], .int .i64 er]) ∧ Mi w' w.heap.size A n c xs ∧ n ≤ 5 ∧ Below w.heap.size w w'

set_option maxRecDepth 100000 in
set_option maxHeartbeats 2000000 in
theorem add_any (m : Int) (A : Option Addr) (n c B : Nat) (xs : List Int) (w : World) (h : Is w B A n xs) (hn : n ≤ 1000000) (hB : B ≤ w.heap.size) (hG : Gl w) :
    Calls Tryd.prog 26 #[.agg #[.slice A n c], .int .i64 m] w (Cfx w (addL xs m) (addE xs m)) := by
  have GO := Lib.hid (fun W (hW : Below w.heap.size w W) => groupof_any A n c B xs W (h.below (hW.mono hB)) hn (Nat.le_trans hB hW.size) (hG.low hW))
  have CF := Lib.hid (fun G (hg : G < 32) W (hW : Below w.heap.size w W) => conf_any G hg W (hG.low hW))
  have HB1 : Hid (Below w.heap.size w ((w.alloc (.cells #[.slice A n c] 27)).alloc (.cells #[.slice none 0 0] 27))) := Lib.hid (((Below.refl _ _).alloc (Nat.le_refl _) _).alloc (by simp) _)
  have B1 : Hid (Blk ((w.alloc (.cells #[.slice A n c] 27)).alloc (.cells #[.slice none 0 0] 27)) (w.heap.size + 1) 27 #[.slice none 0 0]) := Lib.hid (Blk.fresh (by simp))
  have GL := Lib.hid (grp_lt xs)
  have AO := Lib.hid (fun W => alone_any m W)
  clear h hG
  obtain ⟨E, hE⟩ : ∃ E, addE xs m = E := ⟨_, rfl⟩
  unfold addL
  rw [hE]
  unfold addE at hE
  generalize grp xs = gr at *
  have HA := Lib.hid (fun W => has_any gr GL.out m W)
  by_cases h0 : gr = 0
  · rw [if_pos h0] at hE
    subst hE
    subst h0
    rw [if_neg (by decide)]
    go_enter Tryd.func26, Tryd.ntmps26
    go_wp2_with (first | (go_at_call 40; refine (GO.out _ HB1.out).mono ?_; rintro e w2 ⟨rfl, hb2⟩; have B2 := Lib.hid (B1.out.below hb2 B1.out.lt); have HB2 := Lib.hid (HB1.out.trans (hb2.mono HB1.out.size)); have d0 : w2.cell? ⟨w.heap.size + 1, 0, none⟩ = some (.slice none 0 0) := B2.out.cell 0; have f0 : w2.frozen? ⟨w.heap.size + 1, 0, none⟩ = false := B2.out.frozen 0; clear hb2) | (go_at_call 49; refine (AO.out _).mono ?_; rintro e w3 ⟨rfl, rfl⟩))
    exact bodyPost_ret (ret27x rfl _ _ (w.heap.size + 1) _ _ rfl (B2.out.set_ 0 _) rfl) rfl ⟨none, 0, 0, rfl, Mi.none_ _ _, by omega, HB2.out.setCell (p := ⟨w.heap.size + 1, 0, none⟩) (by simp) _⟩
  rw [if_neg h0] at hE
  have h1 : ((gr : Int) == 0) = false := by simp; omega
  by_cases ha : alo m = 0
  · rw [if_pos ha] at hE
    subst hE
    rw [if_neg (by decide)]
    rw [ha] at AO
    clear h0 ha
    go_enter Tryd.func26, Tryd.ntmps26
    go_wp2_with (first | (go_at_call 40; refine (GO.out _ HB1.out).mono ?_; rintro e w2 ⟨rfl, hb2⟩; have B2 := Lib.hid (B1.out.below hb2 B1.out.lt); have HB2 := Lib.hid (HB1.out.trans (hb2.mono HB1.out.size)); have d0 : w2.cell? ⟨w.heap.size + 1, 0, none⟩ = some (.slice none 0 0) := B2.out.cell 0; have f0 : w2.frozen? ⟨w.heap.size + 1, 0, none⟩ = false := B2.out.frozen 0; clear hb2) | (go_at_call 49; refine (AO.out _).mono ?_; rintro e w3 ⟨rfl, rfl⟩))
    exact bodyPost_ret (ret27x rfl _ _ (w.heap.size + 1) _ _ rfl (B2.out.set_ 0 _) rfl) rfl ⟨none, 0, 0, rfl, Mi.none_ _ _, by omega, HB2.out.setCell (p := ⟨w.heap.size + 1, 0, none⟩) (by simp) _⟩
  rw [if_neg ha] at hE
  have h2 : ((alo m : Int) == 0) = false := by simp; omega
  cases hi : inG gr m with
  | true =>
    rw [hi, if_pos rfl] at hE
    subst hE
    rw [if_neg (by decide)]
    rw [hi] at HA
    clear h0 ha hi
    go_enter Tryd.func26, Tryd.ntmps26
    go_wp2_with (first | (go_at_call 40; refine (GO.out _ HB1.out).mono ?_; rintro e w2 ⟨rfl, hb2⟩; have B2 := Lib.hid (B1.out.below hb2 B1.out.lt); have HB2 := Lib.hid (HB1.out.trans (hb2.mono HB1.out.size)); have d0 : w2.cell? ⟨w.heap.size + 1, 0, none⟩ = some (.slice none 0 0) := B2.out.cell 0; have f0 : w2.frozen? ⟨w.heap.size + 1, 0, none⟩ = false := B2.out.frozen 0; clear hb2) | (go_at_call 49; refine (AO.out _).mono ?_; rintro e w3 ⟨rfl, rfl⟩) | (go_at_call 41; refine (HA.out _).mono ?_; rintro e w4 ⟨rfl, rfl⟩))
    exact bodyPost_ret (ret27x rfl _ _ (w.heap.size + 1) _ _ rfl (B2.out.set_ 0 _) rfl) rfl ⟨none, 0, 0, rfl, Mi.none_ _ _, by omega, HB2.out.setCell (p := ⟨w.heap.size + 1, 0, none⟩) (by simp) _⟩
  | false =>
    rw [hi, if_neg (by decide)] at hE
    subst hE
    rw [if_pos rfl]
    obtain ⟨ho, hl⟩ := or_alo GL.out ha hi
    rw [hi] at HA
    have OB := Lib.hid ho
    have CFX := Lib.hid (fun W hW => CF.out (gr + alo m) hl W hW)
    clear h0 ha hi hl CF
    generalize alo m = al at *
    generalize gr + al = sm at *
    go_enter Tryd.func26, Tryd.ntmps26
    go_wp2_with (first | (go_at_call 40; refine (GO.out _ HB1.out).mono ?_; rintro e w2 ⟨rfl, hb2⟩; have B2 := Lib.hid (B1.out.below hb2 B1.out.lt); have HB2 := Lib.hid (HB1.out.trans (hb2.mono HB1.out.size)); have d0 : w2.cell? ⟨w.heap.size + 1, 0, none⟩ = some (.slice none 0 0) := B2.out.cell 0; have f0 : w2.frozen? ⟨w.heap.size + 1, 0, none⟩ = false := B2.out.frozen 0; clear hb2) | (go_at_call 49; refine (AO.out _).mono ?_; rintro e w3 ⟨rfl, rfl⟩) | (go_at_call 41; refine (HA.out _).mono ?_; rintro e w4 ⟨rfl, rfl⟩) | (go_at_call 50; (try rw [OB.out]); refine (CFX.out _ HB2.out).mono ?_; rintro e w5 ⟨A5, n5, c5, rfl, hm, hn5, hb5⟩; have B5 := Lib.hid (B2.out.below hb5 B2.out.lt); have HB5 := Lib.hid (HB2.out.trans (hb5.mono HB2.out.size)); have M5 := Lib.hid hm; have N5 := Lib.hid hn5; have d1 : w5.cell? ⟨w.heap.size + 1, 0, none⟩ = some (.slice none 0 0) := B5.out.cell 0; have f1 : w5.frozen? ⟨w.heap.size + 1, 0, none⟩ = false := B5.out.frozen 0; clear hb5 hm hn5))
    exact bodyPost_ret (ret27x rfl _ _ (w.heap.size + 1) _ _ rfl (B5.out.set_ 0 _) rfl) rfl ⟨A5, n5, c5, rfl, (M5.out.setCell (p := ⟨w.heap.size + 1, 0, none⟩) B2.out.lt _).down HB2.out.size, N5.out, HB5.out.setCell (p := ⟨w.heap.size + 1, 0, none⟩) (by simp) _⟩

set_option maxRecDepth 100000 in
set_option maxHeartbeats 2000000 in
theorem drop_any (m : Int) (A : Option Addr) (n c B : Nat) (xs : List Int) (w : World) (h : Is w B A n xs) (hn : n ≤ 1000000) (hB : B ≤ w.heap.size) (hG : Gl w) :
    Calls Tryd.prog 27 #[.agg #[.slice A n c], .int .i64 m] w (Cfx w (dropL xs m) (dropE xs m)) := by
  have GO := Lib.hid (fun W (hW : Below w.heap.size w W) => groupof_any A n c B xs W (h.below (hW.mono hB)) hn (Nat.le_trans hB hW.size) (hG.low hW))
  have CF := Lib.hid (fun G (hg : G < 32) W (hW : Below w.heap.size w W) => conf_any G hg W (hG.low hW))
  have HB1 : Hid (Below w.heap.size w ((w.alloc (.cells #[.slice A n c] 27)).alloc (.cells #[.slice none 0 0] 27))) := Lib.hid (((Below.refl _ _).alloc (Nat.le_refl _) _).alloc (by simp) _)
  have B1 : Hid (Blk ((w.alloc (.cells #[.slice A n c] 27)).alloc (.cells #[.slice none 0 0] 27)) (w.heap.size + 1) 27 #[.slice none 0 0]) := Lib.hid (Blk.fresh (by simp))
  have GL := Lib.hid (grp_lt xs)
  have AO := Lib.hid (fun W => alone_any m W)
  clear h hG
  obtain ⟨E, hE⟩ : ∃ E, dropE xs m = E := ⟨_, rfl⟩
  unfold dropL
  rw [hE]
  unfold dropE at hE
  generalize grp xs = gr at *
  have HA := Lib.hid (fun W => has_any gr GL.out m W)
  by_cases h0 : gr = 0
  · rw [if_pos h0] at hE
    subst hE
    subst h0
    rw [if_neg (by decide)]
    go_enter Tryd.func27, Tryd.ntmps27
    go_wp2_with (first | (go_at_call 40; refine (GO.out _ HB1.out).mono ?_; rintro e w2 ⟨rfl, hb2⟩; have B2 := Lib.hid (B1.out.below hb2 B1.out.lt); have HB2 := Lib.hid (HB1.out.trans (hb2.mono HB1.out.size)); have d0 : w2.cell? ⟨w.heap.size + 1, 0, none⟩ = some (.slice none 0 0) := B2.out.cell 0; have f0 : w2.frozen? ⟨w.heap.size + 1, 0, none⟩ = false := B2.out.frozen 0; clear hb2) | (go_at_call 49; refine (AO.out _).mono ?_; rintro e w3 ⟨rfl, rfl⟩))
    exact bodyPost_ret (ret27x rfl _ _ (w.heap.size + 1) _ _ rfl (B2.out.set_ 0 _) rfl) rfl ⟨none, 0, 0, rfl, Mi.none_ _ _, by omega, HB2.out.setCell (p := ⟨w.heap.size + 1, 0, none⟩) (by simp) _⟩
  rw [if_neg h0] at hE
  have h1 : ((gr : Int) == 0) = false := by simp; omega
  cases hi : inG gr m with
  | false =>
    rw [hi, if_pos rfl] at hE
    subst hE
    rw [if_neg (by decide)]
    rw [hi] at HA
    clear h0 hi
    go_enter Tryd.func27, Tryd.ntmps27
    go_wp2_with (first | (go_at_call 40; refine (GO.out _ HB1.out).mono ?_; rintro e w2 ⟨rfl, hb2⟩; have B2 := Lib.hid (B1.out.below hb2 B1.out.lt); have HB2 := Lib.hid (HB1.out.trans (hb2.mono HB1.out.size)); have d0 : w2.cell? ⟨w.heap.size + 1, 0, none⟩ = some (.slice none 0 0) := B2.out.cell 0; have f0 : w2.frozen? ⟨w.heap.size + 1, 0, none⟩ = false := B2.out.frozen 0; clear hb2) | (go_at_call 49; refine (AO.out _).mono ?_; rintro e w3 ⟨rfl, rfl⟩) | (go_at_call 41; refine (HA.out _).mono ?_; rintro e w4 ⟨rfl, rfl⟩))
    exact bodyPost_ret (ret27x rfl _ _ (w.heap.size + 1) _ _ rfl (B2.out.set_ 0 _) rfl) rfl ⟨none, 0, 0, rfl, Mi.none_ _ _, by omega, HB2.out.setCell (p := ⟨w.heap.size + 1, 0, none⟩) (by simp) _⟩
  | true =>
    rw [hi, if_neg (by decide)] at hE
    by_cases ha : gr = alo m
    · rw [if_pos ha] at hE
      subst hE
      rw [if_neg (by decide)]
      rw [hi] at HA
      have h3 : ((gr : Int) == (alo m : Int)) = true := by rw [ha]; simp
      clear h0 hi ha
      go_enter Tryd.func27, Tryd.ntmps27
      go_wp2_with (first | (go_at_call 40; refine (GO.out _ HB1.out).mono ?_; rintro e w2 ⟨rfl, hb2⟩; have B2 := Lib.hid (B1.out.below hb2 B1.out.lt); have HB2 := Lib.hid (HB1.out.trans (hb2.mono HB1.out.size)); have d0 : w2.cell? ⟨w.heap.size + 1, 0, none⟩ = some (.slice none 0 0) := B2.out.cell 0; have f0 : w2.frozen? ⟨w.heap.size + 1, 0, none⟩ = false := B2.out.frozen 0; clear hb2) | (go_at_call 49; refine (AO.out _).mono ?_; rintro e w3 ⟨rfl, rfl⟩) | (go_at_call 41; refine (HA.out _).mono ?_; rintro e w4 ⟨rfl, rfl⟩))
      exact bodyPost_ret (ret27x rfl _ _ (w.heap.size + 1) _ _ rfl (B2.out.set_ 0 _) rfl) rfl ⟨none, 0, 0, rfl, Mi.none_ _ _, by omega, HB2.out.setCell (p := ⟨w.heap.size + 1, 0, none⟩) (by simp) _⟩
    · rw [if_neg ha] at hE
      subst hE
      rw [if_pos rfl]
      have ho := andnot_alo GL.out hi
      rw [hi] at HA
      have OB := Lib.hid ho
      have h3 : ((gr : Int) == (alo m : Int)) = false := by simp; omega
      have CFX := Lib.hid (fun W hW => CF.out (gr - alo m) (Nat.lt_of_le_of_lt (Nat.sub_le _ _) GL.out) W hW)
      clear h0 ha hi CF
      generalize alo m = al at *
      generalize gr - al = sm at *
      go_enter Tryd.func27, Tryd.ntmps27
      go_wp2_with (first | (go_at_call 40; refine (GO.out _ HB1.out).mono ?_; rintro e w2 ⟨rfl, hb2⟩; have B2 := Lib.hid (B1.out.below hb2 B1.out.lt); have HB2 := Lib.hid (HB1.out.trans (hb2.mono HB1.out.size)); have d0 : w2.cell? ⟨w.heap.size + 1, 0, none⟩ = some (.slice none 0 0) := B2.out.cell 0; have f0 : w2.frozen? ⟨w.heap.size + 1, 0, none⟩ = false := B2.out.frozen 0; clear hb2) | (go_at_call 49; refine (AO.out _).mono ?_; rintro e w3 ⟨rfl, rfl⟩) | (go_at_call 41; refine (HA.out _).mono ?_; rintro e w4 ⟨rfl, rfl⟩) | (go_at_call 50; (try rw [OB.out]); refine (CFX.out _ HB2.out).mono ?_; rintro e w5 ⟨A5, n5, c5, rfl, hm, hn5, hb5⟩; have B5 := Lib.hid (B2.out.below hb5 B2.out.lt); have HB5 := Lib.hid (HB2.out.trans (hb5.mono HB2.out.size)); have M5 := Lib.hid hm; have N5 := Lib.hid hn5; have d1 : w5.cell? ⟨w.heap.size + 1, 0, none⟩ = some (.slice none 0 0) := B5.out.cell 0; have f1 : w5.frozen? ⟨w.heap.size + 1, 0, none⟩ = false := B5.out.frozen 0; clear hb5 hm hn5))
      exact bodyPost_ret (ret27x rfl _ _ (w.heap.size + 1) _ _ rfl (B5.out.set_ 0 _) rfl) rfl ⟨A5, n5, c5, rfl, (M5.out.setCell (p := ⟨w.heap.size + 1, 0, none⟩) B2.out.lt _).down HB2.out.size, N5.out, HB5.out.setCell (p := ⟨w.heap.size + 1, 0, none⟩) (by simp) _⟩
end Go.Proofs.YtfclppopelmdgaaDoor
