/-
  What the law DiskFails asks of disks as values.
-/
import Derived.Test.YthhpaejeplninaaO2
import Derived.Test.YthhpaejeplninaaO3
import Derived.Test.YthhpaejeplninaaVw
namespace Go.Proofs.Ythhpaejeplninaa
open Go.RowKit

theorem low (z m : Int) (hm : 0 < m) (hm' : m < 100) : 0 ≤ wrap64 ((IntKind.u64.wrap z).tmod m) ∧ wrap64 ((IntKind.u64.wrap z).tmod m) < m := by
  have h0 : 0 ≤ IntKind.u64.wrap z := by
    simp only [IntKind.wrap, IntKind.bits, IntKind.signed]
    simp
    omega
  have h1 := Int.tmod_nonneg m h0
  have h2 := Int.tmod_lt_of_pos (IntKind.u64.wrap z) hm
  generalize (IntKind.u64.wrap z).tmod m = x at *
  rw [show wrap64 x = x by unfold wrap64; omega]
  exact ⟨h1, h2⟩

/-- A disk with nothing waiting, that fails behind dm requests. -/
def fs (H : List (List Value)) (dm o : Int) : DSt := { has := H, q := [], armed := -1, doomed := dm, dead := false, ops := o }
section
variable {H : List (List Value)} {dm o : Int} (hH : H.length = 9)
include hH
theorem fs_err (ch : Bool) (i : Int) (h0 : 0 ≤ i) (h1 : i < 9) : askErr (fs H dm o) ch i = if dm = 0 then 8 else 0 := by
  by_cases hd : dm = 0
  · simp [askErr, fs, hH, h0, h1, hd]
  · simp [askErr, fs, hH, h0, h1, hd]
theorem fs_ask (ch : Bool) (i : Int) (h0 : 0 ≤ i) (h1 : i < 9) : askSt (fs H dm o) ch i = if dm = 0 then fs H (-1) o else fs H (less dm) (wrap64 (o + 1)) := by
  by_cases hd : dm = 0
  · simp [askSt, fs, hH, h0, h1, hd]
  · by_cases hp : 0 < dm
    · simp [askSt, fs, hH, h0, h1, hd, less, hp]
    · simp [askSt, fs, hH, h0, h1, hd, less, hp]
theorem fs_of_err (kd at_ : Int) (hk : 3 ≤ kd) (h0 : 0 ≤ at_) (h1 : at_ < 9) : ofE (fs H dm o) kd at_ = if dm = 0 then 8 else 0 := by
  unfold ofE
  rw [if_neg (by omega), if_neg (by omega), if_neg (by omega), fs_err hH true 0 (by omega) (by omega), fs_err hH false at_ h0 h1, fs_err hH true at_ h0 h1]
  simp
theorem fs_of (kd at_ n : Int) (ks : List Bool) (hk : 3 ≤ kd) (h0 : 0 ≤ at_) (h1 : at_ < 9) : ofS (fs H 0 o) kd at_ n ks = fs H (-1) o := by
  unfold ofS syncSt writeSt
  rw [if_neg (by omega), if_neg (by omega), if_neg (by omega), fs_err hH true 0 (by omega) (by omega), fs_err hH true at_ h0 h1, fs_ask hH true 0 (by omega) (by omega), fs_ask hH true at_ h0 h1, fs_ask hH false at_ h0 h1]
  simp
end

/-- A disk that has power, that fails nothing, with ar requests left and at most k writes waiting. -/
structure Fp (S : DSt) (ar : Int) (k : Nat) : Prop where
  has : S.has.length = 9
  dead : S.dead = false
  doomed : S.doomed = -1
  armed : S.armed = ar
  q : S.q.length ≤ k
section
variable {S : DSt} {ar : Int} {k : Nat}
theorem Fp.err (h : Fp S ar k) (ch : Bool) (i : Int) (h0 : 0 ≤ i) (h1 : i < 9) : askErr S ch i = if ch = true ∧ ar = 0 then 9 else 0 := by
  unfold askErr
  rw [h.dead, h.has, h.armed, h.doomed, if_neg (by simp), if_pos ⟨h0, by omega⟩]
  split
  · rfl
  · simp
theorem Fp.read (h : Fp S ar k) (i : Int) (h0 : 0 ≤ i) (h1 : i < 9) : Fp (askSt S false i) ar k := by
  refine ⟨by rw [askSt_has]; exact h.has, ?_, ?_, ?_, by rw [askSt_q]; exact h.q⟩
  all_goals
    unfold askSt
    rw [h.dead, h.has, h.doomed, if_neg (by simp), if_pos ⟨h0, by omega⟩]
    simp [h.armed, less]
theorem Fp.ask (h : Fp S ar k) (i : Int) (h0 : 0 ≤ i) (h1 : i < 9) (ha : ar ≠ 0) : Fp (askSt S true i) (less ar) k := by
  refine ⟨by rw [askSt_has]; exact h.has, ?_, ?_, ?_, by rw [askSt_q]; exact h.q⟩
  all_goals
    unfold askSt
    rw [h.dead, h.has, h.doomed, h.armed, if_neg (by simp), if_pos ⟨h0, by omega⟩, if_neg (c := true = true ∧ ar = 0) (by simp [ha])]
    simp [less]
theorem Fp.write (h : Fp S ar k) (i : Int) (B : List Value) (h0 : 0 ≤ i) (h1 : i < 9) (ha : ar ≠ 0) : Fp (writeSt S i B) (less ar) (k + 1) := by
  have hk := h.ask i h0 h1 ha
  unfold writeSt
  rw [if_pos (show askErr S true i = 0 by rw [h.err true i h0 h1]; simp [ha])]
  exact ⟨hk.has, hk.dead, hk.doomed, hk.armed, by have := hk.q; simp [wrote]; omega⟩
theorem Fp.sync (h : Fp S ar k) (ha : ar ≠ 0) : Fp (syncSt S) (less ar) 0 := by
  have hk := h.ask 0 (by omega) (by omega) ha
  unfold syncSt
  rw [if_pos (show askErr S true 0 = 0 by rw [h.err true 0 (by omega) (by omega)]; simp [ha])]
  exact ⟨by rw [synced_len]; exact hk.has, hk.dead, hk.doomed, hk.armed, by simp [synced]⟩
theorem Fp.arm (h : Fp S ar k) (n : Int) (hn : 0 ≤ n) : Fp (armSt S n) n k := by
  unfold armSt
  rw [h.dead, if_neg (by simp)]
  exact ⟨h.has, rfl, h.doomed, by simp only [atl]; rw [if_neg (by omega)], h.q⟩
theorem Fp.set (h : Fp S ar k) : setErr S = 0 := by unfold setErr; rw [h.dead]; simp
theorem Fp.out (h : Fp S 0 k) (B : List Value) : writeSt S 0 B = { S with dead := true } := by
  unfold writeSt
  rw [if_neg (show ¬ askErr S true 0 = 0 by rw [h.err true 0 (by omega) (by omega)]; simp)]
  unfold askSt
  rw [h.dead, h.has, h.armed, if_neg (by simp), if_pos (by simp), if_pos (by simp)]
end
theorem fs_fail (H : List (List Value)) (dm o : Int) (m : Nat) : failSt (fs H dm o) m = fs H m o := by
  have h : ¬ (m : Int) < -1 := by omega
  simp [failSt, fs, atl, h]
theorem fs_fp {H : List (List Value)} {o : Int} (hH : H.length = 9) : Fp (fs H (-1) o) (-1) 0 := ⟨hH, rfl, rfl, rfl, by simp [fs]⟩
theorem fs_next {H : List (List Value)} {o : Int} (hH : H.length = 9) (kd at_ n : Int) (ks : List Bool) (hk : 3 ≤ kd) (h0 : 0 ≤ at_) (h1 : at_ < 9) : Fp (ofS (fs H (-1) o) kd at_ n ks) (-1) 1 := by
  have h := fs_fp (o := o) hH
  unfold ofS
  rw [if_neg (by omega), if_neg (by omega), if_neg (by omega)]
  split
  · have := h.sync (by omega)
    exact ⟨this.has, this.dead, this.doomed, this.armed, by have := this.q; omega⟩
  · split
    · have := h.read at_ h0 h1
      exact ⟨this.has, this.dead, this.doomed, this.armed, by have := this.q; omega⟩
    · exact h.write at_ (bk n) h0 h1 (by omega)
section
variable {S : DSt} (h : S.dead = true)
include h
theorem dead_err (ch : Bool) (i : Int) : askErr S ch i = 9 := by unfold askErr; rw [h]; simp
theorem dead_ask (ch : Bool) (i : Int) : askSt S ch i = S := by unfold askSt; rw [h]; simp
theorem dead_sync : syncSt S = S := by unfold syncSt; rw [dead_err h, if_neg (by omega), dead_ask h]
theorem dead_arm (n : Int) : armSt S n = S := by unfold armSt; rw [h]; simp
theorem dead_fail (n : Int) : failSt S n = S := by unfold failSt; rw [h]; simp
theorem dead_set : setErr S = 9 := by unfold setErr; rw [h]; simp
end

/-- What lies in memory on the way. -/
structure Fx (w0 : World) (base p gs : Nat) (box : Array Value) (S : DSt) (wr : World) : Prop where
  dk : Dk wr base p gs S
  box : Blk wr w0.heap.size 37 box
  below : Below w0.heap.size w0 wr
  lt : w0.heap.size < base
  le : base ≤ wr.heap.size
section
variable {w0 wr wr' : World} {base p gs : Nat} {box : Array Value} {S S' : DSt}
theorem Fx.fr (h : Fx w0 base p gs box S wr) (hd : Dk wr' base p gs S') (hf : Fr base p gs wr wr') : Fx w0 base p gs box S' wr' := by
  have hb := hf.below h.le
  exact ⟨hd, h.box.below hb h.lt, h.below.trans (hb.mono (Nat.le_of_lt h.lt)), h.lt, Nat.le_trans h.le hb.size⟩
theorem Fx.low (h : Fx w0 base p gs box S wr) (hb : Below wr.heap.size wr wr') : Fx w0 base p gs box S wr' :=
  ⟨h.dk.below hb, h.box.below hb h.box.lt, h.below.trans (hb.mono h.below.size), h.lt, Nat.le_trans h.le hb.size⟩
theorem Fx.alloc (h : Fx w0 base p gs box S wr) (o : Obj) : Fx w0 base p gs box S (wr.alloc o) := h.low ((Below.refl _ wr).alloc (Nat.le_refl _) o)
end

end Go.Proofs.Ythhpaejeplninaa
