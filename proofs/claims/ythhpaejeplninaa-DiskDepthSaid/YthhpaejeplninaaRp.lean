/-
  slices.Repeat of one true, and yes.
-/
import Derived.Test.YthhpaejeplninaaO3
import Derived.Test.YthhpaejeplninaaLa
import Derived.Test.YthhpaejeplninaaR1
import Derived.Laws.CopyOwn
import Derived.Shelf.Bits.Mul64
namespace Go.Proofs.Ythhpaejeplninaa
open Go.RowKit

theorem mul68 (n : Nat) (hn : n ≤ 70) (w : World) : Calls Try.prog 68 #[.int .u64 1, .int .u64 n] w fun e w' => e = .returned (.tuple #[.int .u64 0, .int .u64 n]) ∧ w = w' := by
  have h1 : bits .and .u64 (n : Int) 4294967295 = n := by rw [Mul64.maskN n (by omega)]; omega
  have h2 : bits .and .u64 1 4294967295 = 1 := by rw [show (1 : Int) = ((1 : Nat) : Int) from rfl, Mul64.maskN 1 (by omega)]
  have h3 : (n : Int) / 4294967296 = 0 := by omega
  have h4 : bits .and .u64 0 4294967295 = 0 := by rw [show (0 : Int) = ((0 : Nat) : Int) from rfl, Mul64.maskN 0 (by omega)]
  go_enter Try.func68, Try.ntmps68
  go_wp2
  go_ret2
  exact ⟨rfl, rfl⟩

theorem mul60 (n : Nat) (hn : n ≤ 70) (w : World) : Calls Try.prog 60 #[.int .u64 1, .int .u64 n] w fun e w' => e = .returned (.tuple #[.int .u64 0, .int .u64 n]) ∧ w = w' := by
  go_enter Try.func60, Try.ntmps60
  go_wp2_with (go_at_call 68; refine (mul68 n hn _).mono ?_; rintro e w' ⟨rfl, rfl⟩)
  go_ret2
  exact ⟨rfl, rfl⟩

/-- The first j cells of a row are true. -/
def Ts (w : World) (g n j : Nat) : Prop := ∃ cur : List Value, Blk w g 4 cur.toArray ∧ cur.length = n ∧ ∀ i, i < j → cur[i]? = some (.bool true)

theorem Try.s4 : (Try.prog.info? 4).map (·.size) = some 1 := by kernel_rfl

theorem Ts.step {w' : World} {g n j k : Nat} {cur : List Value} (hl : cur.length = n) (hc : ∀ i, i < j → cur[i]? = some (.bool true)) (hk : j + k ≤ n) (h : w'.heap[g]? = some (.cells (splice cur j (List.replicate k (.bool true))).toArray 4 (0, 0))) : Ts w' g n (j + k) := by
  refine ⟨_, h, by rw [length_splice _ _ _ (by simp; omega)]; exact hl, fun i hi => ?_⟩
  unfold splice
  by_cases h1 : i < j
  · rw [List.getElem?_append_left (by simp; omega), List.getElem?_take_of_lt h1]
    exact hc i h1
  · rw [List.getElem?_append_right (by simp; omega), List.getElem?_append_left (by simp; omega), List.getElem?_replicate]
    simp
    omega

set_option maxRecDepth 100000 in
set_option maxHeartbeats 2000000 in
theorem repeat_any (b n : Nat) (hn : n ≤ 70) (w : World) (hb : w.cell? ⟨b, 0, none⟩ = some (.bool true)) :
    Calls Try.prog 44 #[.slice (some ⟨b, 0, none⟩) 1 1, .int .i64 n] w fun e w' => e = .returned (.slice (some ⟨w.heap.size, 0, none⟩) n n) ∧ Ts w' w.heap.size n n ∧ Below w.heap.size w w' := by
  have hmk := makeBools n (by omega)
  obtain ⟨cur, hcur⟩ : ∃ cur : List Value, madeCells #[.bool false] n = cur.toArray := ⟨(madeCells #[.bool false] n).toList, by simp⟩
  have hcl : cur.length = n := by have := size_madeCells #[.bool false] n; rw [hcur] at this; simpa using this
  rw [hcur] at hmk
  have HCL := Lib.hid hcl
  have hlt : b < w.heap.size := World.block_lt_of_cell? w _ hb
  have HM := Lib.hid (mul60 n hn w)
  have hb2 : Hid ((w.alloc (.cells cur.toArray 4)).cell? ⟨b, 0, none⟩ = some (.bool true)) := Lib.cell?_alloc_some _ hb
  have hblk := Lib.hid (Blk.new w 4 cur.toArray)
  have HB := Lib.hid ((Below.refl _ w).alloc (Nat.le_refl _) (.cells cur.toArray 4))
  obtain ⟨k, hk⟩ : ∃ k, k = Nat.min 1 n := ⟨_, rfl⟩
  obtain ⟨cs, hcs⟩ : ∃ cs : List Value, cs = List.replicate k (.bool true) := ⟨_, rfl⟩
  have hkl : cs.length = k := by rw [hcs]; simp
  have HK := Lib.hid hk
  have hk1 : k ≤ 1 := by rw [hk]; exact Nat.min_le_left _ _
  have hkn : k ≤ n := by rw [hk]; exact Nat.min_le_right _ _
  have hkp : 0 < n → 0 < k := fun h => by rw [hk]; show 0 < min 1 n; omega
  have HKP := Lib.hid hkp
  have HCN := Lib.hid (show cs.length = Nat.min 1 n by rw [hkl]; exact hk)
  have HKL := Lib.hid hkl
  have HSRC : Hid (∀ j v, cs[j]? = some v → (w.alloc (.cells cur.toArray 4)).cell? ((⟨b, 0, none⟩ : Addr).add j) = some v) := fun j v hj => by
    obtain ⟨hj1, hj2⟩ := List.getElem?_eq_some_iff.1 hj
    have : j = 0 := by omega
    subst this
    have : v = .bool true := by rw [← hj2]; subst hcs; simp
    subst this
    exact hb2.out
  have HFIT := Lib.hid (show 0 + cs.length ≤ cur.length by omega)
  have HONE : Hid (∀ v ∈ cs, v.oneCell' = true) := fun v hv => by rw [hcs] at hv; rw [(List.mem_replicate.1 hv).2]; rfl
  have HCS := Lib.hid hcs
  clear hk hcs hkp hcl hcur hb hkl
  go_enter Try.func44, Try.ntmps44
  go_wp2_with fail
  refine HM.out.mono ?_
  rintro e w' ⟨rfl, rfl⟩
  clear HM
  go_wp2_with ((with_reducible show wpList _ _ _ _ _ _); refine wpList_copy_splice (o := ⟨some 33, _, _, _, _, _⟩) rfl (.tmp 31) (.tmp 32) 35 35 rfl 4 Try.underlying35 Try.s4 _ _ n n 1 1 rfl rfl w.heap.size 0 cur 4 hblk.out cs HCN.out (fun _ => ⟨rfl, ⟨b, 0, none⟩, rfl, HSRC.out⟩) HFIT.out HONE.out w.heap.size w HB.out (Nat.le_refl _) ?_; intro w3 hg3 hb3)
  have ST : Hid (Ts w3 w.heap.size n k ∧ Below w.heap.size w w3) := ⟨by
    have := Ts.step (w' := w3) (g := w.heap.size) (n := n) (j := 0) (k := k) HCL.out (fun i hi => absurd hi (by omega)) (by omega) (by rw [← HCS.out]; exact hg3.out)
    simpa using this, hb3⟩
  clear hg3 hb3 hblk HB HSRC HFIT HONE HCN hmk hb2
  go_loopw [8] (fun i wr => ∃ j : Nat, j ≤ n ∧ i = .int .i64 j ∧ (0 < n → 0 < j) ∧ Ts wr w.heap.size n j ∧ Below w.heap.size w wr) (fun i _ => n - (intOf i).toNat)
  case atStart =>
    rw [HKL.out]
    exact ⟨k, by omega, rfl, HKP.out, ST.out.1, ST.out.2⟩
  case round =>
    clear ST
    obtain ⟨j, hj, rfl, hj0, ⟨cur, hbl, hcl, hcc⟩, hB⟩ := hrel
    by_cases hlt : j < n
    · have hlt' : (j : Int) < n := by omega
      have hj0' : 0 < j := hj0 (by omega)
      obtain ⟨k2, hk2⟩ : ∃ k2, k2 = Nat.min j (n - j) := ⟨_, rfl⟩
      obtain ⟨cs2, hcs2⟩ : ∃ cs2 : List Value, cs2 = List.replicate k2 (.bool true) := ⟨_, rfl⟩
      have hl2 : cs2.length = k2 := by rw [hcs2]; simp
      have hka : k2 ≤ j := by rw [hk2]; exact Nat.min_le_left _ _
      have hkb : k2 ≤ n - j := by rw [hk2]; exact Nat.min_le_right _ _
      have hkc : 0 < k2 := by rw [hk2]; show 0 < min j (n - j); omega
      have HN2 := Lib.hid (show cs2.length = Nat.min j (n - j) by rw [hl2]; exact hk2)
      have HG2 : Hid (wr.heap[w.heap.size]? = some (.cells cur.toArray 4 (0, 0))) := hbl
      have HFIT2 := Lib.hid (show j + cs2.length ≤ cur.length by omega)
      have HONE2 : Hid (∀ v ∈ cs2, v.oneCell' = true) := fun v hv => by rw [hcs2] at hv; rw [(List.mem_replicate.1 hv).2]; rfl
      have HSRC2 : Hid (∀ i v, cs2[i]? = some v → wr.cell? ((⟨w.heap.size, 0, none⟩ : Addr).add i) = some v) := fun i v hi => by
        obtain ⟨hi1, hi2⟩ := List.getElem?_eq_some_iff.1 hi
        have : v = .bool true := by rw [← hi2]; subst hcs2; simp
        subst this
        have e : (⟨w.heap.size, 0, none⟩ : Addr).add i = ⟨w.heap.size, i, none⟩ := by by_cases h0 : i = 0 <;> simp [Addr.add, h0]
        rw [e, hbl.cell, List.getElem?_toArray]
        exact hcc i (by omega)
      have HSTEP : Hid (∀ w' : World, w'.heap[w.heap.size]? = some (.cells (splice cur j cs2).toArray 4 (0, 0)) → Ts w' w.heap.size n (j + k2)) := fun w' h => Ts.step hcl hcc (by omega) (by rw [← hcs2]; exact h)
      have HB := Lib.hid hB
      have HL2 := Lib.hid hl2
      clear hk2 hcs2 hl2 hB hbl hcc hcl HCL HK HKP HKL HCS hkn hk1
      go_wp2_with fail
      go_region_law (refine step_copy_splice rfl (.tmp 41) (.tmp 44) 35 35 rfl 4 Try.underlying35 Try.s4 (some ⟨w.heap.size, j, none⟩) (some ⟨w.heap.size, 0, none⟩) (n - j) (n - j) j n (by simp [Act.eval, Act.put]; omega) (by simp [Act.eval, Act.put]) w.heap.size j cur 4 HG2.out cs2 HN2.out (fun _ => ⟨rfl, ⟨w.heap.size, 0, none⟩, rfl, HSRC2.out⟩) HFIT2.out HONE2.out w.heap.size w (below_drewN HB.out _) (Nat.le_refl _) ?_; intro w4 hg4 hb4)
      have T4 := Lib.hid (HSTEP.out w4 hg4.out)
      have B4 := Lib.hid hb4
      clear hg4 hb4 HSTEP HB HSRC2 HONE2 HFIT2 HG2 HN2
      have hl2 := HL2.out
      generalize cs2.length = L2 at *
      subst hl2
      go_wp2
      have hwr : IntKind.i64.wrap ((j : Int) + L2) = ((j + L2 : Nat) : Int) := by rw [IntKind.wrap_i64]; omega
      rw [hwr]
      exact ⟨⟨j + L2, by omega, rfl, by omega, T4.out, B4.out⟩, by simp [intOf]; omega⟩
    · have hjn : j = n := by omega
      subst hjn
      go_wp2_with fail
      go_ret
      exact ⟨rfl, ⟨cur, hbl, hcl, hcc⟩, hB⟩

theorem buildT (w : World) : (Instr.buildSlice 35 1 #[(0, .bool true)]).run Try.prog w = .ok (.slice (some ⟨w.heap.size, 0, none⟩) 1 1) (w.alloc (.cells #[.bool true] 4)) := by
  simp [go_sem]

/-- What yes leaves. -/
def Yesd (w : World) (n : Nat) (e : Ending) (w' : World) : Prop := ∃ g, e = .returned (.slice (some ⟨g, 0, none⟩) n n) ∧ Bs w' w'.heap.size (some ⟨g, 0, none⟩) (List.replicate n true) ∧ Below w.heap.size w w'

theorem yes_any (n : Nat) (hn : n ≤ 70) (w : World) : Calls Try.prog 25 #[.int .i64 n] w (Yesd w n) := by
  have hbt := buildT
  have hr := repeat_any w.heap.size n hn (w.alloc (.cells #[.bool true] 4)) ((Blk.new w 4 #[.bool true]).cell 0)
  have HR := Lib.hid hr
  clear hr
  go_enter Try.func25, Try.ntmps25
  go_wp2_with fail
  refine HR.out.mono ?_
  rintro e w' ⟨rfl, ⟨cur, h1, h2, h3⟩, hB⟩
  clear HR
  have hB' : Below w.heap.size w w' := ((Below.refl _ w).alloc (Nat.le_refl _) (.cells #[.bool true] 4)).trans (hB.mono (by simp))
  have hbs : Bs w' w'.heap.size (some ⟨(w.alloc (.cells #[.bool true] 4)).heap.size, 0, none⟩) (List.replicate n true) := fun hp => ⟨_, 0, rfl, h1.lt, fun i hi => by
    have hi' : i < n := by simpa using hi
    rw [Nat.zero_add, h1.cell, List.getElem?_toArray, h3 i hi']
    simp [List.getD, hi']⟩
  rw [show (w.alloc (.cells #[.bool true] 4)).heap.size = w.heap.size + 1 by simp] at hbs
  have HX : Hid (Yesd w n (.returned (.slice (some ⟨w.heap.size + 1, 0, none⟩) n n)) w') := ⟨_, rfl, hbs, hB'⟩
  clear hB hB' hbs h1 h2 h3 hbt
  go_wp2_with fail
  go_ret
  exact HX.out

end Go.Proofs.Ythhpaejeplninaa
