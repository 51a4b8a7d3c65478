/-
  The layer does something: the law's wakes.
-/
import Derived.Test.YtblcfjliabeaiaaDoorL17
namespace Go.Proofs.YtblcfjliabeaiaaDoor
open Go.RowKit Go.Shelf

def wT : List UInt8 := [115, 101, 108, 101, 99, 116, 32, 39, 105, 116, 39, 39, 115, 39, 32, 45, 45, 32, 120, 10, 60, 61, 32, 55]
def wO : List UInt8 := [83, 69, 76, 69, 67, 84, 32, 39, 105, 116, 39, 39, 115, 39, 32, 60, 61, 32, 55]
def wT4 : List Tk := [⟨1, [83, 69, 76, 69, 67, 84], 0, 0, 6⟩, ⟨4, [105, 116, 39, 115], 0, 7, 14⟩, ⟨5, [60, 61], 0, 20, 22⟩, ⟨3, [], 7, 23, 24⟩]
def wK : List Tq := [⟨1, [83, 69, 76, 69, 67, 84], 0, 0, 6⟩, ⟨4, [105, 116, 39, 115], 0, 7, 14⟩, ⟨5, [60, 61], 0, 20, 22⟩, ⟨3, [], 7, 23, 24⟩]
theorem wK_map : wT4.map Tk.q = wK := rfl
set_option maxRecDepth 100000 in
theorem lex_w : lexF wT = (wT4, 0, 0) := by kernel_rfl
theorem itoa_7 : Lib.itoa 7 = [55] := by
  unfold Lib.itoa
  simp [Lib.decDigits]
set_option maxRecDepth 100000 in
theorem prn_w : prnF wK = (wO, 0) := by
  have e : jnR 0 wK = wO := by
    have e4 : txtF ⟨3, [], 7, 23, 24⟩ = [55] := itoa_7
    have e5 : jnR 0 wK = txtF ⟨1, [83, 69, 76, 69, 67, 84], 0, 0, 6⟩ ++ ([32] ++ txtF ⟨4, [105, 116, 39, 115], 0, 7, 14⟩ ++ ([32] ++ txtF ⟨5, [60, 61], 0, 20, 22⟩ ++ ([32] ++ txtF ⟨3, [], 7, 23, 24⟩ ++ []))) := rfl
    rw [e5, e4]
    rfl
  have c : chkF wK = 0 := by kernel_rfl
  unfold prnF
  rw [if_pos c, e, if_neg (by decide)]
theorem name_x : nameB [120] = true := by kernel_rfl
theorem name_by : nameB [66, 121] = false := by kernel_rfl
theorem wK_ok : ∀ t ∈ wK, TkOk t := by
  intro t ht
  simp only [wK, List.mem_cons, List.not_mem_nil, or_false] at ht
  rcases ht with rfl | rfl | rfl | rfl <;> exact ⟨by simp, by simp, by simp⟩

set_option maxRecDepth 100000 in
set_option maxHeartbeats 8000000 in
theorem wakes_any (w : World) (hG : Gl w) : Calls Tryd.prog 8 #[] w fun e w' => e = .returned (.bool true) ∧ Below w.heap.size w w' := by
  have LX := Lib.hid (lex_any wT (by decide) w hG)
  unfold Lexd at LX
  rw [lex_w] at LX
  have GH := Lib.hid hG
  have NX := Lib.hid (fun W hW => name_any [120] (by decide) W hW)
  have NB := Lib.hid (fun W hW => name_any [66, 121] (by decide) W hW)
  rw [name_x] at NX
  rw [name_by] at NB
  have PR := Lib.hid (fun A n c W (h : Trd W W.heap.size A n wK) (hn : n ≤ 1000000) hW => print_any A n c W.heap.size wK W h wK_ok hn (Nat.le_refl _) hW)
  rw [prn_w] at PR
  have s1 : ((⟨#[83, 69, 76, 69, 67, 84]⟩ : ByteArray) == ⟨#[83, 69, 76, 69, 67, 84]⟩) = true := by kernel_rfl
  have s2 : ((⟨#[105, 116, 39, 115]⟩ : ByteArray) == ⟨#[105, 116, 39, 115]⟩) = true := by kernel_rfl
  have s3 : ((⟨#[83, 69, 76, 69, 67, 84, 32, 39, 105, 116, 39, 39, 115, 39, 32, 60, 61, 32, 55]⟩ : ByteArray) == ⟨#[83, 69, 76, 69, 67, 84, 32, 39, 105, 116, 39, 39, 115, 39, 32, 60, 61, 32, 55]⟩) = true := by kernel_rfl
  clear hG
  unfold wT at LX
  go_enter Tryd.func8, Tryd.ntmps8
  go_upto_region 2 with (go_at_call 25; refine LX.out.mono ?_; rintro e w1 ⟨A, n, c, rfl, ht, hb⟩; have T1 := Lib.hid ht; have H1 := Lib.hid hb; clear ht hb LX)
  obtain rfl : n = 4 := T1.out.len.symm
  obtain ⟨g, rfl⟩ : ∃ g, A = some ⟨g, 0, none⟩ := by
    rcases T1.out.form with ⟨_, h, _⟩ | ⟨g, h, _⟩
    · omega
    · exact ⟨g, h⟩
  have T2 := Lib.hid (T1.out.below (w' := w1.alloc (.cells #[.int .i64 0, .int .i64 0] 42)) ((Below.refl _ _).alloc (Nat.le_refl _) _))
  have H2 : Hid (Below w.heap.size w (w1.alloc (.cells #[.int .i64 0, .int .i64 0] 42))) := Lib.hid (H1.out.alloc H1.out.size _)
  have B2 : Hid (Blk (w1.alloc (.cells #[.int .i64 0, .int .i64 0] 42)) w1.heap.size 42 #[.int .i64 0, .int .i64 0]) := Lib.hid (Blk.new _ _ _)
  have B3 := B2
  generalize w1.heap.size = q at *
  generalize w1.alloc (.cells #[.int .i64 0, .int .i64 0] 42) = w2 at *
  have P3 := Lib.hid (PR.out (some ⟨g, 0, none⟩) 4 c w2 (by have h9 := T2.out.trd; rw [wK_map] at h9; exact h9) (by omega) (GH.out.on H2.out))
  clear PR T1 H1
  go_upto_region 3 with (go_at_call 11; refine P3.out.mono ?_; rintro e w3 ⟨rfl, hb⟩; have T3 := Lib.hid (T2.out.below hb); have C3 := Lib.hid (B3.out.below hb B3.out.lt); have H3 := Lib.hid (H2.out.trans (hb.mono H2.out.size)); clear hb P3)
  have D : ∀ j, j < 20 → w3.cell? ⟨g, j, none⟩ = (tkRow wT4)[j]? := fun j hj => World.ownsRow.cellAt (w := w3) (g := g) T3.out j hj
  have x1 : w3.cell? ⟨g, 1, none⟩ = some (.string ⟨#[83, 69, 76, 69, 67, 84]⟩) := D 1 (by omega)
  have x6 : w3.cell? ⟨g, 6, none⟩ = some (.string ⟨#[105, 116, 39, 115]⟩) := D 6 (by omega)
  have x14 : w3.cell? ⟨g, 14, none⟩ = some (.int .i64 22) := D 14 (by omega)
  have x17 : w3.cell? ⟨g, 17, none⟩ = some (.int .i64 7) := D 17 (by omega)
  have q0 : w3.cell? ⟨q, 0, none⟩ = some (.int .i64 0) := C3.out.cell 0
  have q1 : w3.cell? ⟨q, 1, none⟩ = some (.int .i64 0) := C3.out.cell 1
  have N1 := Lib.hid (NX.out w3 (GH.out.on H3.out))
  clear D T2 T3 B2 B3 C3 H2 NX
  go_wp2_with (first
    | (go_at_call 21; refine N1.out.mono ?_; clear N1; rintro e w4 ⟨rfl, hb⟩; have H4 := Lib.hid (H3.out.trans (hb.mono H3.out.size)); have N2 := Lib.hid (NB.out w4 (GH.out.on H4.out)); clear hb)
    | (go_at_call 21; refine N2.out.mono ?_; rintro e w5 ⟨rfl, hb⟩; have H5 := Lib.hid (H4.out.trans (hb.mono H4.out.size)); clear hb))
  go_ret
  exact ⟨rfl, H5.out⟩
end Go.Proofs.YtblcfjliabeaiaaDoor
