/-
  The last change of members up to an Index: the document's Conf.
-/
import Derived.Test.YtmgaihdepglahaaM7
import Derived.BigQuiet
namespace Go.Proofs.Ytmgaihdepglahaa
open Go.RowKit

/-- What Conf has found among the first k entries. -/
def cfI (l : Lg) (i : Int) (k : Nat) : Int := match confN l i k with | some n => l.I (n + 1) | none => 0
def cfD (l : Lg) (i : Int) (k : Nat) : List Int := match confN l i k with | some n => (l.es.getD n e0).d | none => []
def cfB (l : Lg) (i : Int) (k : Nat) : Bool := (confN l i k).isSome
theorem cf_hit {l : Lg} {i : Int} {k : Nat} (h3 : (l.es.getD k e0).k = 3) (hI : l.I (k + 1) ≤ i) : cfI l i (k + 1) = l.I (k + 1) ∧ cfD l i (k + 1) = (l.es.getD k e0).d ∧ cfB l i (k + 1) = true := by
  unfold cfI cfD cfB
  rw [confN, if_pos ⟨h3, hI⟩]
  exact ⟨rfl, rfl, rfl⟩
theorem cf_miss {l : Lg} {i : Int} {k : Nat} (h : ¬((l.es.getD k e0).k = 3 ∧ l.I (k + 1) ≤ i)) : cfI l i (k + 1) = cfI l i k ∧ cfD l i (k + 1) = cfD l i k ∧ cfB l i (k + 1) = cfB l i k := by
  unfold cfI cfD cfB
  rw [confN, if_neg h]
  exact ⟨rfl, rfl, rfl⟩
theorem resTTT {fn : Func} {p q r : Tmp} (h : fn.results = #[.tmp p, .tmp q, .tmp r]) (tmps : Array Value) (w : World) (x y z : Value) (hp : tmps.getD p undef = x) (hq : tmps.getD q undef = y) (hr : tmps.getD r undef = z) : (results fn tmps).run Try.prog w = .ok (.tuple #[x, y, z]) w := by
  subst hp hq hr
  simp [results, h, go_sem]
def Cfd (w : World) (I : Int) (D : List Int) (b : Bool) (e : Ending) (w' : World) : Prop := ∃ A m c, e = .returned (.tuple #[.int .u64 I, .slice A m c, .bool b]) ∧ By w' w'.heap.size A m D ∧ Below w.heap.size w w'

set_option linter.unusedSimpArgs false in
set_option maxRecDepth 100000 in
set_option maxHeartbeats 2000000 in
theorem refconf_any (l : Lg) (A : Option Addr) (n c B : Nat) (w : World) (h : Lr w B A n c l) (hB : B ≤ w.heap.size) (i : Int) :
    Calls Try.prog 35 #[.agg #[.int .u64 l.bi, .int .u64 l.bt, .slice A n c], .int .u64 i] w (Cfd w (rConfI l i) (rConfD l i) (rConfB l i)) := by
  have e1 : rConfI l i = cfI l i n := by rw [← h.len]; rfl
  have e2 : rConfD l i = cfD l i n := by rw [← h.len]; rfl
  have e3 : rConfB l i = cfB l i n := by rw [← h.len]; rfl
  rw [e1, e2, e3]
  clear e1 e2 e3
  have z1 : cfI l i 0 = 0 := rfl
  have z2 : cfD l i 0 = [] := rfl
  have z3 : cfB l i 0 = false := rfl
  have HIT : Hid (∀ k, (l.es.getD k e0).k = 3 → spI l.bi (k + 1) ≤ i → cfI l i (k + 1) = spI l.bi (k + 1) ∧ cfD l i (k + 1) = (l.es.getD k e0).d ∧ cfB l i (k + 1) = true) := Lib.hid (fun k h3 hI => cf_hit h3 hI)
  have MISS : Hid (∀ k, ¬((l.es.getD k e0).k = 3 ∧ spI l.bi (k + 1) ≤ i) → cfI l i (k + 1) = cfI l i k ∧ cfD l i (k + 1) = cfD l i k ∧ cfB l i (k + 1) = cfB l i k) := Lib.hid (fun k hk => cf_miss hk)
  obtain ⟨bi, bt, es⟩ := l
  obtain ⟨hes, hnc, hnil, hn, hbi0, hbi1, hbt0, hbt1⟩ := h
  simp only at hes hbi0 hbi1 hbt0 hbt1 HIT MISS ⊢
  generalize cfI ⟨bi, bt, es⟩ i = CI at *
  generalize cfD ⟨bi, bt, es⟩ i = CD at *
  generalize cfB ⟨bi, bt, es⟩ i = CB at *
  have SP := Lib.hid (fun W (hW : Below B w W) => refspots_any bi bt A n c B es W (hes.below hW) (by omega) (Nat.le_trans hB hW.size) hbi0 hbi1)
  have EN := Lib.hid (fun W (hW : Below B w W) => refentries_any A n c B es W (hes.below hW) (by omega) (Nat.le_trans hB hW.size))
  have HB := Lib.hid (show Below w.heap.size w (w.alloc (.cells #[.int .u64 bi, .int .u64 bt, .slice A n c] 27)) from (Below.refl _ _).alloc (Nat.le_refl _) _)
  have b0 := Lib.hid (Blk.new w 27 #[.int .u64 bi, .int .u64 bt, .slice A n c])
  have C3 : Hid (∀ W, Blk W w.heap.size 27 #[.int .u64 bi, .int .u64 bt, .slice A n c] → W.cell? ⟨w.heap.size, 0, none⟩ = some (.int .u64 bi) ∧ W.cell? ⟨w.heap.size, 1, none⟩ = some (.int .u64 bt) ∧ W.cell? ⟨w.heap.size, 2, none⟩ = some (.slice A n c)) := fun W hb => ⟨hb.cell 0, hb.cell 1, hb.cell 2⟩
  clear hes
  obtain ⟨y0, y1, y2⟩ := C3.out _ b0.out
  go_enter Try.func35, Try.ntmps35
  go_wp2_with (first | (go_at_call 49; refine (SP.out _ (HB.out.mono hB)).mono ?_; rintro e w1 ⟨A1, c1, rfl, ho, hb⟩; clear y0 y1 y2; have B01 := Lib.hid (b0.out.below hb b0.out.lt); have HB1 := Lib.hid (HB.out.trans (hb.mono HB.out.size)); have HO1 := Lib.hid ho; obtain ⟨y0, y1, y2⟩ := C3.out _ B01.out; clear hb ho) | (go_at_call 60; refine (EN.out _ (HB1.out.mono hB)).mono ?_; rintro e w2 ⟨A2, c2, rfl, ho, hb⟩; clear y0 y1 y2; have HB2 := Lib.hid (HB1.out.trans (hb.mono HB1.out.size)); have HO2 := Lib.hid (HO1.out.below hb); have HE2 := Lib.hid ho.read; clear hb ho))
  clear SP EN C3 B01 HB1 HO1 b0 HB
  go_loopw [7, 8, 9, 22] (fun v7 v8 v9 ix wr => ∃ k : Nat, k ≤ n ∧ ix = .int .i64 k ∧ v7 = .int .u64 (CI k) ∧ v9 = .bool (CB k) ∧ (∃ Ad nd cd, v8 = .slice Ad nd cd ∧ By wr wr.heap.size Ad nd (CD k)) ∧ Below w2.heap.size w2 wr) (fun _ _ _ ix _ => n - (intOf ix).toNat)
  case atStart => exact ⟨0, Nat.zero_le _, rfl, by rw [z1], by rw [z3], ⟨none, 0, 0, rfl, by rw [z2]; exact By.none_⟩, Below.refl _ _⟩
  case round =>
    obtain ⟨k, hk, rfl, rfl, rfl, ⟨Ad, nd, cd, rfl, hby⟩, hb⟩ := hrel
    have HBW := Lib.hid hb
    have HY := Lib.hid hby
    clear hby hb
    by_cases hlt : k < n
    · obtain ⟨b, o, x, rfl, hbl, hx, hxo, hxc⟩ := (HE2.out.below HBW.out).at_ hlt
      obtain ⟨g, rfl, hgb, hgl, d0, d1⟩ := (HO2.out.below HBW.out).at_ (show k + 1 < n + 1 by omega)
      obtain ⟨c0, c1, c2⟩ := rng3 hxc
      have k0 : (0 : Int) ≤ (k : Int) := by omega
      have k1 : (k : Int) < (n : Int) := by omega
      have k2 : (k : Int) + 1 < (n : Int) + 1 := by omega
      have hsz := HBW.out.size
      have hbr : b < wr.heap.size := by omega
      have hgr : g < wr.heap.size := hgl
      have hnw : wr.heap.size ≠ b := by omega
      have hng : wr.heap.size ≠ g := by omega
      have HX := Lib.hid (show By wr w2.heap.size x.A x.n x.d from hxo.by_)
      have hit := HIT.out k
      have miss := MISS.out k
      rw [← hx] at hit miss
      obtain ⟨xt, xk, xA, xn, xc, xd⟩ := x
      simp only [Ec.en] at c0 c1 c2 hit miss HX
      generalize spI bi (k + 1) = I at *
      have HIT1 := Lib.hid hit
      have MISS1 := Lib.hid miss
      have HW1 : Hid (Below w2.heap.size w2 (wr.alloc (.cells #[.int .u64 xt, .int .i64 xk, .slice xA xn xc] 54))) := Lib.hid (HBW.out.alloc hsz _)
      have HX1 : Hid (By (wr.alloc (.cells #[.int .u64 xt, .int .i64 xk, .slice xA xn xc] 54)) (wr.alloc (.cells #[.int .u64 xt, .int .i64 xk, .slice xA xn xc] 54)).heap.size xA xn xd) := Lib.hid ((HX.out.alloc hsz _).more (by simp; omega))
      have HY1 : Hid (By (wr.alloc (.cells #[.int .u64 xt, .int .i64 xk, .slice xA xn xc] 54)) (wr.alloc (.cells #[.int .u64 xt, .int .i64 xk, .slice xA xn xc] 54)).heap.size Ad nd (CD k)) := Lib.hid ((HY.out.alloc (Nat.le_refl _) _).more (by simp))
      have HKN := Lib.hid (show k + 1 ≤ n from hlt)
      clear hx hxo hxc hit miss hbl hgb hgl hsz hlt hk HX HY HBW HIT MISS
      by_cases h3 : xk = 3
      · subst h3
        by_cases hI : I ≤ i
        · have hI' : decide (I ≤ i) = true := decide_eq_true hI
          obtain ⟨q1, q2, q3⟩ := HIT1.out rfl hI
          have Q := Lib.hid (And.intro q1 (And.intro q2 q3))
          clear hI q1 q2 q3 HIT1 MISS1
          go_wp2_with fail
          go_quiet (fail)
          go_wp2
          go_roundw
          case rel => exact ⟨k + 1, HKN.out, by go_num, by rw [Q.out.1], by rw [Q.out.2.2], ⟨_, _, _, rfl, by rw [Q.out.2.1]; exact HX1.out⟩, ⟨HW1.out.os, HW1.out.tape, HW1.out.output, HW1.out.size, HW1.out.block⟩⟩
          case measure => have := HKN.out; simp [intOf]; omega
        · have hI' : decide (I ≤ i) = false := decide_eq_false hI
          obtain ⟨q1, q2, q3⟩ := MISS1.out (fun e => hI e.2)
          have Q := Lib.hid (And.intro q1 (And.intro q2 q3))
          clear hI q1 q2 q3 HIT1 MISS1
          go_wp2
          go_roundw
          case rel => exact ⟨k + 1, HKN.out, by go_num, by rw [Q.out.1], by rw [Q.out.2.2], ⟨_, _, _, rfl, by rw [Q.out.2.1]; exact HY1.out⟩, HW1.out⟩
          case measure => have := HKN.out; simp [intOf]; omega
      · have h3' : (xk == 3) = false := by simp [h3]
        obtain ⟨q1, q2, q3⟩ := MISS1.out (fun e => h3 e.1)
        have Q := Lib.hid (And.intro q1 (And.intro q2 q3))
        clear h3 q1 q2 q3 HIT1 MISS1
        go_wp2
        go_roundw
        case rel => exact ⟨k + 1, HKN.out, by go_num, by rw [Q.out.1], by rw [Q.out.2.2], ⟨_, _, _, rfl, by rw [Q.out.2.1]; exact HY1.out⟩, HW1.out⟩
        case measure => have := HKN.out; simp [intOf]; omega
    · obtain rfl : k = n := by omega
      have k1 : ¬ ((k : Int) < (k : Int)) := by omega
      go_wp2
      exact bodyPost_ret (resTTT rfl _ _ _ _ _ rfl rfl rfl) rfl ⟨Ad, nd, cd, rfl, HY.out, HB2.out.trans (HBW.out.mono HB2.out.size)⟩

end Go.Proofs.Ytmgaihdepglahaa
