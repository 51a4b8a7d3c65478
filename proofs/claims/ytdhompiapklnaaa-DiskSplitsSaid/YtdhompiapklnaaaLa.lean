/-
  What a crash does: which writes outlast it.
-/
import Derived.Test.YtdhompiapklnaaaRd
namespace Go.Proofs.Ytdhompiapklnaaa
open Go.RowKit Go.Shelf
attribute [local go_sem] Oper.semAt_some
attribute [local go_sem ↓] Try.z39 Try.z86 Go.wp_at_zero Go.wp_at_succ

/-- A slice holds the answers ks, below block B. -/
def Bs (w : World) (B : Nat) (A : Option Addr) (ks : List Bool) : Prop := 0 < ks.length → ∃ b o, A = some ⟨b, o, none⟩ ∧ b < B ∧ ∀ j, j < ks.length → w.cell? ⟨b, o + j, none⟩ = some (.bool (ks.getD j false))
theorem Bs.below {w w' : World} {B : Nat} {A : Option Addr} {ks : List Bool} (h : Bs w B A ks) (hb : Below B w w') : Bs w' B A ks := fun hn => by
  obtain ⟨b, o, e, hbB, hc⟩ := h hn
  exact ⟨b, o, e, hbB, fun j hj => (hb.cell (p := ⟨b, o + j, none⟩) hbB).trans (hc j hj)⟩
theorem Bs.more {w : World} {B B' : Nat} {A : Option Addr} {ks : List Bool} (h : Bs w B A ks) (hb : B ≤ B') : Bs w B' A ks := fun hn => by
  obtain ⟨b, o, e, hbB, hc⟩ := h hn
  exact ⟨b, o, e, by omega, hc⟩

theorem kept_any (A : Option Addr) (c : Nat) (ks : List Bool) (w : World) (B kb k : Nat) (h : Bs w B A ks) (hc : w.cell? ⟨kb, 0, none⟩ = some (.slice A ks.length c)) (hl : ks.length ≤ 9223372036854775807) (hk : k ≤ 10000000) :
    Calls Try.prog 63 #[.int .i64 (k : Int), .pointer (some ⟨kb, 0, none⟩)] w fun e w' => e = .returned (.bool (kept ks k)) ∧ w = w' := by
  by_cases hlt : k < ks.length
  · obtain ⟨b, o, rfl, _, hcell⟩ := h (by omega)
    have h1 := hcell k hlt
    have hd : ((k : Int) < (ks.length : Int)) := by omega
    show Calls Try.prog 63 _ w fun e w' => e = .returned (.bool (ks.getD k false)) ∧ w = w'
    clear h hcell
    generalize ks.getD k false = z at *
    generalize ks.length = n at *
    go_enter Try.func63, Try.ntmps63
    go_wp2
    go_ret
    exact ⟨rfl, rfl⟩
  · have e : kept ks k = false := by simp [kept, List.getD, List.getElem?_eq_none (show ks.length ≤ k by omega)]
    have hd : ¬ ((k : Int) < (ks.length : Int)) := by omega
    rw [e]
    clear h e
    generalize ks.length = n at *
    go_enter Try.func63, Try.ntmps63
    go_wp2
    go_ret
    exact ⟨rfl, rfl⟩

/-- The last place that is kept, or -1. -/
def lastK (ks : List Bool) : Nat → Int
  | 0 => -1
  | n + 1 => if kept ks n = true then n else lastK ks n
theorem lastK_hit {ks : List Bool} : ∀ (n k : Nat), k < n → kept ks k = true → (∀ j, k < j → j < n → kept ks j = false) → lastK ks n = k
  | 0, _, h, _, _ => absurd h (by omega)
  | n + 1, k, h, he, hn => by
    rw [lastK]
    by_cases e : k = n
    · subst e; rw [if_pos he]
    · rw [if_neg (by rw [hn n (by omega) (by omega)]; simp)]
      exact lastK_hit n k (by omega) he fun j h1 h2 => hn j h1 (by omega)
theorem lastK_miss {ks : List Bool} : ∀ (n : Nat), (∀ j, j < n → kept ks j = false) → lastK ks n = -1
  | 0, _ => rfl
  | n + 1, h => by
    rw [lastK, if_neg (by rw [h n (by omega)]; simp)]
    exact lastK_miss n fun j hj => h j (by omega)
theorem lastK_le (ks : List Bool) : ∀ n, -1 ≤ lastK ks n ∧ lastK ks n < n
  | 0 => by simp [lastK]
  | n + 1 => by
    have := lastK_le ks n
    rw [lastK]
    split <;> omega
theorem dn_last (ks : List Bool) : ∀ (n k : Nat), (decide ((k : Int) ≤ lastK ks n - 4)) = decide (∃ p, p < n ∧ kept ks p = true ∧ k + 4 ≤ p)
  | 0, k => by
    rw [lastK, decide_eq_decide]
    constructor
    · intro h; omega
    · rintro ⟨p, hp, _⟩; omega
  | n + 1, k => by
    have ih := dn_last ks n k
    have hl := lastK_le ks n
    rw [lastK]
    by_cases hk : kept ks n = true
    · rw [if_pos hk, decide_eq_decide]
      constructor
      · intro h; exact ⟨n, by omega, hk, by omega⟩
      · rintro ⟨p, hp, _, h4⟩; omega
    · rw [if_neg hk, ih, decide_eq_decide]
      constructor
      · rintro ⟨p, hp, h1, h2⟩; exact ⟨p, by omega, h1, h2⟩
      · rintro ⟨p, hp, h1, h2⟩
        have : p ≠ n := fun e => hk (by rw [← e]; exact h1)
        exact ⟨p, by omega, h1, h2⟩

theorem Qs.of {w W0 : World} {base c n₀ : Nat} {Aq : Option Addr} {q : List (Int × List Value)} (hw : Own w base 86 65 (.slice Aq q.length c) (q.map put1)) (hb : ∀ e ∈ q, B64 e.2) (hB0 : Below w.heap.size w W0) (hn : w.heap.size ≤ n₀) : Qs n₀ W0 Aq q := fun hq' => by
  obtain ⟨g, hA, hr, _⟩ := qAt hw hb (j := 0) hq' hB0
  refine ⟨g, hA, ?_, fun j hj => ?_⟩
  · rcases hw.form with ⟨hv, _⟩ | ⟨g', c', cur, hv, _, hbl, _⟩
    · subst hA; cases hv
    · subst hA
      injection hv with hv
      injection hv with hv
      injection hv with hv
      have := hbl.lt
      omega
  · obtain ⟨g', hA', hr', _⟩ := qAt hw hb hj hB0
    rw [hA] at hA'
    injection hA' with hA'
    injection hA' with hA'
    subst hA'
    exact hr'

set_option maxRecDepth 100000 in
set_option maxHeartbeats 4000000 in
theorem last_any (Aq : Option Addr) (cq : Nat) (q : List (Int × List Value)) (base : Nat) (A : Option Addr) (c : Nat) (ks : List Bool) (w : World) (kb : Nat) (hw : Own w base 86 65 (.slice Aq q.length cq) (q.map put1)) (hq : q.length ≤ 1000000) (hqb : ∀ e ∈ q, B64 e.2)
    (h : Bs w w.heap.size A ks) (hkb : kb < w.heap.size) (hc : w.cell? ⟨kb, 0, none⟩ = some (.slice A ks.length c)) (hl : ks.length ≤ 9223372036854775807) :
    Calls Try.prog 64 #[.slice Aq q.length cq, .func (.func 63) #[] #[.pointer (some ⟨kb, 0, none⟩)]] w fun e w' => e = .returned (.int .i64 (lastK ks q.length)) ∧ Below w.heap.size w w' := by
  have HB := Lib.hid hqb
  have HW := Lib.hid hw
  have HBs := Lib.hid h
  have HC := Lib.hid hc
  clear h hqb hw hc
  refine (callsIn_wide (n := 6)).1 (callsIn_of_wp_marks Try.func64 rfl trivial (wpIn_wide.2 ?_) rfl)
  simp only [Try.ntmps64, List.size_toArray, List.length_cons, List.length_nil, Nat.reduceAdd, Nat.reduceSub, Array.replicate_succ, Array.replicate_zero, List.push_toArray, List.append_toArray, List.nil_append, List.cons_append]
  go_wp2_with (go_at_call 66; refine (fromEnd_any _ _ _ _).mono ?_; rintro e w' ⟨rfl, rfl⟩)
  have b0 : Blk (((w.alloc (.cells #[.func (.func 63) #[] #[.pointer (some ⟨kb, 0, none⟩)]] 95)).alloc (.cells #[.int .i64 0] 3)).alloc (.cells #[.slice Aq q.length cq] 71)) w.heap.size 95 #[.func (.func 63) #[] #[.pointer (some ⟨kb, 0, none⟩)]] := ((Blk.new w 95 _).alloc _).alloc _
  have b1 : Blk (((w.alloc (.cells #[.func (.func 63) #[] #[.pointer (some ⟨kb, 0, none⟩)]] 95)).alloc (.cells #[.int .i64 0] 3)).alloc (.cells #[.slice Aq q.length cq] 71)) (w.heap.size + 1) 3 #[.int .i64 0] := (Blk.new' (w.alloc _) 3 _ (by simp)).alloc _
  have b2 : Blk (((w.alloc (.cells #[.func (.func 63) #[] #[.pointer (some ⟨kb, 0, none⟩)]] 95)).alloc (.cells #[.int .i64 0] 3)).alloc (.cells #[.slice Aq q.length cq] 71)) (w.heap.size + 1 + 1) 71 #[.slice Aq q.length cq] := Blk.new' ((w.alloc _).alloc _) 71 _ (by simp)
  have hB0 : Below w.heap.size w (((w.alloc (.cells #[.func (.func 63) #[] #[.pointer (some ⟨kb, 0, none⟩)]] 95)).alloc (.cells #[.int .i64 0] 3)).alloc (.cells #[.slice Aq q.length cq] 71)) := (((Below.refl _ w).alloc (Nat.le_refl _) _).alloc (by simp) _).alloc (by simp; omega) _
  have hsz : (((w.alloc (.cells #[.func (.func 63) #[] #[.pointer (some ⟨kb, 0, none⟩)]] 95)).alloc (.cells #[.int .i64 0] 3)).alloc (.cells #[.slice Aq q.length cq] 71)).heap.size = w.heap.size + 3 := by simp
  generalize ((w.alloc (.cells #[.func (.func 63) #[] #[.pointer (some ⟨kb, 0, none⟩)]] 95)).alloc (.cells #[.int .i64 0] 3)).alloc (.cells #[.slice Aq q.length cq] 71) = W0 at *
  have HSZ := Lib.hid hsz
  have HQ := Lib.hid (Qs.of HW.out HB.out hB0 (show w.heap.size ≤ w.heap.size + 3 by omega))
  clear hsz
  refine wpIn_wide.1 (wpIn_rangeFunc_ownG (n := 6) rfl (by omega) (gf := 70) (lb := #[.pointer (some ⟨w.heap.size + 1 + 1, 0, none⟩)]) rfl trivial (enters_of Try.func70 (by kernel_rfl) rfl)
    (iter_stops (w.heap.size + 1 + 1) (w.heap.size + 3) Aq cq q hq HB.out (by omega) W0 (by rw [HSZ.out]; exact Nat.le_refl _) (b2.cell 0) HQ.out) belowK_t (belowK_b (by rw [HSZ.out]; exact Nat.le_refl _)) (Below.refl _ _) (fun _ => rfl)
    (fun pre W => ((∀ x ∈ pre, kept ks x.1 = false) ∧ Blk W w.heap.size 95 #[.func (.func 63) #[] #[.pointer (some ⟨kb, 0, none⟩)]] ∧ Blk W (w.heap.size + 1) 3 #[.int .i64 0]) ∧ Below w.heap.size w W)
    (fun c pre W => (c = .ret ∧ ∃ ini x, pre = ini ++ [x] ∧ (∀ y ∈ ini, kept ks y.1 = false) ∧ kept ks x.1 = true ∧ Blk W (w.heap.size + 1) 3 #[.int .i64 (x.1 : Int)]) ∧ Below w.heap.size w W)
    (OwnFrom.and (Go.Own.from (fun s A B row hs hg hr => ⟨hs.1, hs.2.1.kept hg hr, hs.2.2.kept hg hr⟩) _) (ownFrom_below (Nat.le_refl _) (by rw [HSZ.out]; omega)))
    (fun c => OwnFrom.and (Go.Own.from (fun s A B row hs hg hr => by obtain ⟨hc, ini, x, e1, e2, e3, e4⟩ := hs; exact ⟨hc, ini, x, e1, e2, e3, e4.kept hg hr⟩) _) (ownFrom_below (Nat.le_refl _) (by rw [HSZ.out]; omega)))
    ⟨⟨by simp, b0, b1⟩, hB0⟩
    (fun x => { tmps := #[.slice Aq q.length cq, .func (.func 63) #[] #[.pointer (some ⟨kb, 0, none⟩)], undef, .pointer (some ⟨w.heap.size, 0, none⟩), .pointer (some ⟨w.heap.size + 1, 0, none⟩), .int .i64 (x.1 : Int), .slice Aq q.length cq, .func (.func 70) #[] #[.pointer (some ⟨w.heap.size + 1 + 1, 0, none⟩)], .int .i64 (x.1 : Int), .agg (put1 (q.getD x.1 (0, []))).toArray, undef, undef, undef, undef], defers := [] })
    ?assign ?body ?done ?stop)
  case assign =>
    rintro l x W K hK
    have HK := Lib.hid hK
    clear hK
    simp only [encQ] at *
    generalize put1 (q.getD x.1 (0, [])) = P at *
    gi_wp2
    exact HK.out
  case body =>
    rintro l pre x W ⟨⟨hi1, hi2, hi3⟩, hB⟩ hlen
    have H1 := Lib.hid hi1
    have c0 : W.cell? ⟨w.heap.size, 0, none⟩ = some (.func (.func 63) #[] #[.pointer (some ⟨kb, 0, none⟩)]) := hi2.cell 0
    have c1 : W.cell? ⟨w.heap.size + 1, 0, none⟩ = some (.int .i64 0) := hi3.cell 0
    have f1 := hi3.frozen 0
    have hkc : Calls Try.prog 63 #[.int .i64 (x.1 : Int), .pointer (some ⟨kb, 0, none⟩)] W fun e w' => e = .returned (.bool (kept ks x.1)) ∧ W = w' :=
      kept_any A c ks W w.heap.size kb x.1 (HBs.out.below hB) ((hB.cell (p := ⟨kb, 0, none⟩) hkb).trans HC.out) hl (by have := x.2; omega)
    have HKC := Lib.hid hkc
    clear hi1 hkc hlen
    generalize put1 (q.getD x.1 (0, [])) = P at *
    generalize hz : kept ks x.1 = z at *
    have HZ := Lib.hid hz
    clear hz
    cases z with
    | true =>
      gi_wp2_with fail
      refine ⟨trivial, ?_⟩
      refine (CallsIn.inRound l (callsIn_wide.2 HKC.out)).mono ?_
      rintro e w' ⟨rfl, rfl⟩
      gi_wp2
      exact ⟨(KeepsOthers.setCell _ _ _).from _, ⟨rfl, pre, x, rfl, H1.out, HZ.out, hi3.set_ 0 _⟩, hB.setCell (by simp) _⟩
    | false =>
      gi_wp2_with fail
      refine ⟨trivial, ?_⟩
      refine (CallsIn.inRound l (callsIn_wide.2 HKC.out)).mono ?_
      rintro e w' ⟨rfl, rfl⟩
      gi_wp2
      refine ⟨KeepsFrom.refl _ _, Below.refl _ _, ⟨fun y hy => ?_, hi2, hi3⟩, hB⟩
      rcases List.mem_append.1 hy with hy | hy
      · exact H1.out y hy
      · rw [List.mem_singleton.1 hy]; exact HZ.out
  case done =>
    rintro D ys W hD hys ⟨⟨hi1, hi2, hi3⟩, hB⟩ hK
    have HR := Lib.hid (show lastK ks q.length = -1 from lastK_miss _ fun j hj => hi1 ⟨j, hj⟩ (hys ⟨j, hj⟩))
    have c1 : W.cell? ⟨w.heap.size + 1, 0, none⟩ = some (.int .i64 0) := hi3.cell 0
    have f1 := hi3.frozen 0
    clear hi1 hys
    go_wp2
    have hK' := (KeepsOthers.setCell W ⟨w.heap.size + 1, 0, none⟩ (.int .i64 (-1))).same D _ hK rfl
    refine ⟨by simp, .inl ⟨_, _, rfl, run_takeDeferred hK', ?_⟩⟩
    have hX' := (hi3.set_ 0 (.int .i64 (-1))).kept (grownBy_putObj' _ D (.deferred none)) (fun r e => by cases e; exact ⟨_, hK', rfl⟩)
    have hc5 := hX'.cell 0
    simp at hc5
    refine ⟨.int .i64 (-1), ?_, by rw [HR.out], (hB.setCell (p := ⟨w.heap.size + 1, 0, none⟩) (by simp) _).trans (belowK_b (w := w) (Nat.le_refl _) _ D _ _ (by rw [HSZ.out] at hD; omega) hK' rfl rfl)⟩
    simp [results, Try.f64, go_sem, hc5]
  case stop =>
    rintro D c pre W hD hpre ⟨⟨rfl, ini, x, e1, e2, e3, hX⟩, hB⟩ hK
    have HR := Lib.hid (show lastK ks q.length = x.1 from lastK_hit _ x.1 x.2 e3 fun j h1 h2 => e2 ⟨j, h2⟩ (hpre ini x e1 ⟨j, h2⟩ h1))
    clear e1 e2 e3 hpre
    refine wpIn_wide.2 ?_
    go_wp2
    refine ⟨by simp, .inl ⟨_, _, rfl, run_takeDeferred hK, ?_⟩⟩
    have hX' := hX.kept (grownBy_putObj' _ D (.deferred none)) (fun r e => by cases e; exact ⟨_, hK, rfl⟩)
    have hc5 := hX'.cell 0
    simp only [List.getElem?_toArray, List.getElem?_cons_zero] at hc5
    refine ⟨.int .i64 (x.1 : Int), ?_, by rw [HR.out], hB.trans (belowK_b (w := w) (Nat.le_refl _) W D _ _ (by rw [HSZ.out] at hD; omega) hK rfl rfl)⟩
    simp [results, Try.f64, go_sem, hc5]

end Go.Proofs.Ytdhompiapklnaaa
