/-
  The document's Extend.
-/
import Derived.Test.YtmgaihdepglahaaM7
import Derived.Test.YtmgaihdepglahaaMH
namespace Go.Proofs.Ytmgaihdepglahaa
open Go.RowKit

/-- The four blocks of Extend: the log, both results, the end. -/
structure ExB (w0 : World) (bi bt : Int) (A : Option Addr) (n c : Nat) (w : World) : Prop where
  p0 : Blk w w0.heap.size 27 #[.int .u64 bi, .int .u64 bt, .slice A n c]
  p4 : Blk w (w0.heap.size + 1) 27 #[.int .u64 0, .int .u64 0, .slice none 0 0]
  p5 : Blk w (w0.heap.size + 2) 24 #[.int .u64 0, .int .u64 0]
  bel : Below w0.heap.size w0 w
theorem ExB.on {w0 w w' : World} {bi bt : Int} {A : Option Addr} {n c : Nat} (h : ExB w0 bi bt A n c w) (hb : Below w.heap.size w w') : ExB w0 bi bt A n c w' := ⟨h.p0.below hb h.p0.lt, h.p4.below hb h.p4.lt, h.p5.below hb h.p5.lt, h.bel.trans (hb.mono h.bel.size)⟩
theorem ExB.cells {w0 w : World} {bi bt : Int} {A : Option Addr} {n c : Nat} (h : ExB w0 bi bt A n c w) :
    w.cell? ⟨w0.heap.size, 0, none⟩ = some (.int .u64 bi) ∧ w.cell? ⟨w0.heap.size, 1, none⟩ = some (.int .u64 bt) ∧ w.cell? ⟨w0.heap.size, 2, none⟩ = some (.slice A n c) := ⟨h.p0.cell 0, h.p0.cell 1, h.p0.cell 2⟩
theorem ExB.out5 {w0 w : World} {bi bt : Int} {A : Option Addr} {n c : Nat} (h : ExB w0 bi bt A n c w) :
    (w.cell? ⟨w0.heap.size + 1, 0, none⟩ = some (.int .u64 0) ∧ w.cell? ⟨w0.heap.size + 1, 1, none⟩ = some (.int .u64 0) ∧ w.cell? ⟨w0.heap.size + 1, 2, none⟩ = some (.slice none 0 0) ∧ w.cell? ⟨w0.heap.size + 2, 0, none⟩ = some (.int .u64 0) ∧ w.cell? ⟨w0.heap.size + 2, 1, none⟩ = some (.int .u64 0)) ∧
    (w.frozen? ⟨w0.heap.size + 1, 0, none⟩ = false ∧ w.frozen? ⟨w0.heap.size + 1, 1, none⟩ = false ∧ w.frozen? ⟨w0.heap.size + 1, 2, none⟩ = false ∧ w.frozen? ⟨w0.heap.size + 2, 0, none⟩ = false ∧ w.frozen? ⟨w0.heap.size + 2, 1, none⟩ = false) :=
  ⟨⟨h.p4.cell 0, h.p4.cell 1, h.p4.cell 2, h.p5.cell 0, h.p5.cell 1⟩, h.p4.frozen 0, h.p4.frozen 1, h.p4.frozen 2, h.p5.frozen 0, h.p5.frozen 1⟩

theorem ne_lies {w : World} {b1 g6 m c6 g9 N cap : Nat} {v : Value} {xs : List Value} (r : w.ownsRow b1 54 3 (.slice (some ⟨g6, 0, none⟩) m c6) m xs)
    (hne : (Value.slice (some ⟨g6, 0, none⟩) m c6).ownBlock = none ∨ (Value.slice (some ⟨g6, 0, none⟩) m c6).ownBlock ≠ v.ownBlock) (hat : v.ownBlock = some g9 ∨ g9 = w.heap.size) :
    (Value.slice (some ⟨g6, 0, none⟩) m c6).ownBlock = none ∨ (Value.slice (some ⟨g6, 0, none⟩) m c6).ownBlock ≠ (Value.slice (some ⟨g9, 0, none⟩) N cap).ownBlock := by
  refine .inr fun e => ?_
  have e' : g6 = g9 := Option.some.inj e
  subst e'
  rcases hat with h | h
  · rcases hne with h' | h'
    · cases h'
    · exact h' (by rw [h]; rfl)
  · have := (r.lt g6 rfl).2
    omega

/-- Where the loop of Extend stands. -/
def ExI (w0 : World) (bi bt : Int) (A : Option Addr) (n c p8 : Nat) (A4 : Option Addr) (m c4 : Nat) (xs ys : List Ec) (k : Nat) (w : World) : Prop :=
  ∃ A3 c3, w.ownsRow w0.heap.size 54 3 (.slice A4 m c4) m (rowE ys) ∧ w.ownsRow w0.heap.size 54 3 (.slice A3 (n + k) c3) (n + k) (rowE (xs ++ ys.take k)) ∧
    ((Value.slice A4 m c4).ownBlock = none ∨ (Value.slice A4 m c4).ownBlock ≠ (Value.slice A3 (n + k) c3).ownBlock) ∧ (∀ x ∈ xs, x.own w w0.heap.size) ∧ (∀ x ∈ ys, x.own w w0.heap.size) ∧
    Blk w p8 27 #[.int .u64 bi, .int .u64 bt, .slice A3 (n + k) c3] ∧ ExB w0 bi bt A n c w

set_option linter.unusedSimpArgs false in
set_option linter.unusedVariables false in
set_option maxRecDepth 100000 in
set_option maxHeartbeats 4000000 in
theorem refextend_any (l : Lg) (A : Option Addr) (n c B : Nat) (w : World) (h : Lr w B A n c l) (hB : B ≤ w.heap.size) (A' : Option Addr) (m c' : Nat) (more : List En) (h' : Es w B A' m more) (hm : m ≤ 1000) (hmc : m ≤ c') :
    Calls Try.prog 24 #[.agg #[.int .u64 l.bi, .int .u64 l.bt, .slice A n c], .slice A' m c'] w (Lgx w (rExtL l more) (rExtI l more) (rExtT l more) (rExtE l more)) := by
  have LA := Lib.hid (fun W (hW : Below B w W) => reflast_any l A n c B W (h.below hW) (Nat.le_trans hB hW.size))
  have CP := Lib.hid (fun W (hW : Below B w W) => refcopy_any l A n c B W (h.below hW) (Nat.le_trans hB hW.size))
  have EN := Lib.hid (fun W (hW : Below B w W) => refentries_any A' m c' B more W (h'.below hW) (by omega) (Nat.le_trans hB hW.size))
  have hT := h.T01 (k := n) (Nat.le_refl _)
  have hTT : l.lastT = l.T n := by unfold Lg.lastT; rw [h.len]
  have hII := spI_lt l.bi l.es.length
  have BE := Lib.hid (fun W (hW : Below B w W) => refbehind_any more l.lastT A' m c' B W (by rw [hTT]; exact hT.1) (by omega) hmc (h'.below hW) (Nat.le_trans hB hW.size))
  have RO := Lib.hid (fun W => room_any l.lastI m hII.1 hII.2 (by omega) W)
  have HL := Lib.hid h.len
  have HML := Lib.hid h'.len
  have H := Lib.hid h
  have hE : rExtE l more = if behind l.lastT more = false then 2 else if 16 < n + m ∨ room l.lastI m = false then 6 else 0 := by unfold rExtE; rw [h.len, h'.len]
  have HE := Lib.hid hE
  clear hE hT hTT hII h h'
  obtain ⟨bi, bt, es⟩ := l
  simp only at *
  have hn : n ≤ 1000 := H.out.n
  generalize hlt : (⟨bi, bt, es⟩ : Lg).lastT = LT at *
  generalize hli : (⟨bi, bt, es⟩ : Lg).lastI = LI at *
  have X0 : Hid (ExB w bi bt A n c (((w.alloc (.cells #[.int .u64 bi, .int .u64 bt, .slice A n c] 27)).alloc (.cells #[.int .u64 0, .int .u64 0, .slice none 0 0] 27)).alloc (.cells #[.int .u64 0, .int .u64 0] 24))) := ⟨((Blk.new w 27 _).alloc _).alloc _, (Blk.fresh (by simp)).alloc _, Blk.fresh (by simp), (((Below.refl _ w).alloc (Nat.le_refl _) _).alloc (by simp) _).alloc (by simp; omega) _⟩
  cases hbe : behind LT more with
  | false =>
    rw [hbe] at BE
    have e2 : rExtE ⟨bi, bt, es⟩ more = 2 := by rw [HE.out, hbe]; rfl
    unfold rExtL rExtI rExtT
    rw [e2]
    clear hbe e2 HE
    go_enter Try.func24, Try.ntmps24
    go_wp2_with fail
    refine (LA.out _ (X0.out.bel.mono hB)).mono ?_
    rintro e w1 ⟨rfl, hb⟩
    have X1 := Lib.hid (X0.out.on hb)
    clear hb
    go_wp2_with fail
    have X2 : Hid (ExB w bi bt A n c (w1.alloc (.cells #[.int .u64 LI, .int .u64 LT] 24))) := Lib.hid (X1.out.on ((Below.refl _ _).alloc (Nat.le_refl _) _))
    have q0' : (w1.alloc (.cells #[.int .u64 LI, .int .u64 LT] 24)).cell? ⟨w1.heap.size, 0, none⟩ = some (.int .u64 LI) := (Blk.new w1 24 _).cell 0
    have HP : Hid (w1.heap.size < (w1.alloc (.cells #[.int .u64 LI, .int .u64 LT] 24)).heap.size) := Lib.hid (by simp)
    generalize w1.alloc (.cells #[.int .u64 LI, .int .u64 LT] 24) = w2 at *
    generalize w1.heap.size = p7 at *
    refine (BE.out _ (X2.out.bel.mono hB)).mono ?_
    rintro e w3 ⟨rfl, hb⟩
    have X3 := Lib.hid (X2.out.on hb)
    have q0 : w3.cell? ⟨p7, 0, none⟩ = some (.int .u64 LI) := (hb.cell (p := ⟨p7, 0, none⟩) HP.out).trans q0'
    obtain ⟨d0, d1, d2⟩ := X3.out.cells
    obtain ⟨⟨z0, z1, z2, z3, z4⟩, f0, f1, f2, f3, f4⟩ := X3.out.out5
    clear hb q0' HP X0 X1 X2 LA BE
    go_wp2
    obtain ⟨k4, k5, kb⟩ := set5 X3.out.p4 X3.out.p5 X3.out.bel (Nat.le_succ _) (by omega) (by omega) (a := .int .u64 0) (b := .int .u64 0) (c := .slice none 0 0) (d := .int .u64 0) (e := .int .u64 0)
    exact bodyPost_ret (ret27x rfl _ _ (w.heap.size + 1) (w.heap.size + 2) _ _ _ _ _ _ rfl rfl rfl k4 k5) rfl ⟨none, 0, 0, rfl, Eo.nothing _ _, kb⟩
  | true =>
    rw [hbe] at BE
    by_cases h16 : 16 < n + m
    · have e2 : rExtE ⟨bi, bt, es⟩ more = 6 := by rw [HE.out, hbe]; simp [h16]
      have h16' : decide ((16 : Int) < (n : Int) + (m : Int)) = true := decide_eq_true (by omega)
      unfold rExtL rExtI rExtT
      rw [e2]
      clear hbe e2 HE h16
      go_enter Try.func24, Try.ntmps24
      go_wp2_with fail
      refine (LA.out _ (X0.out.bel.mono hB)).mono ?_
      rintro e w1 ⟨rfl, hb⟩
      have X1 := Lib.hid (X0.out.on hb)
      clear hb
      go_wp2_with fail
      have X2 : Hid (ExB w bi bt A n c (w1.alloc (.cells #[.int .u64 LI, .int .u64 LT] 24))) := Lib.hid (X1.out.on ((Below.refl _ _).alloc (Nat.le_refl _) _))
      have q0' : (w1.alloc (.cells #[.int .u64 LI, .int .u64 LT] 24)).cell? ⟨w1.heap.size, 0, none⟩ = some (.int .u64 LI) := (Blk.new w1 24 _).cell 0
      have HP : Hid (w1.heap.size < (w1.alloc (.cells #[.int .u64 LI, .int .u64 LT] 24)).heap.size) := Lib.hid (by simp)
      generalize w1.alloc (.cells #[.int .u64 LI, .int .u64 LT] 24) = w2 at *
      generalize w1.heap.size = p7 at *
      refine (BE.out _ (X2.out.bel.mono hB)).mono ?_
      rintro e w3 ⟨rfl, hb⟩
      have X3 := Lib.hid (X2.out.on hb)
      have q0 : w3.cell? ⟨p7, 0, none⟩ = some (.int .u64 LI) := (hb.cell (p := ⟨p7, 0, none⟩) HP.out).trans q0'
      obtain ⟨d0, d1, d2⟩ := X3.out.cells
      obtain ⟨⟨z0, z1, z2, z3, z4⟩, f0, f1, f2, f3, f4⟩ := X3.out.out5
      clear hb q0' HP X0 X1 X2 LA BE
      go_wp2
      obtain ⟨k4, k5, kb⟩ := set5 X3.out.p4 X3.out.p5 X3.out.bel (Nat.le_succ _) (by omega) (by omega) (a := .int .u64 0) (b := .int .u64 0) (c := .slice none 0 0) (d := .int .u64 0) (e := .int .u64 0)
      exact bodyPost_ret (ret27x rfl _ _ (w.heap.size + 1) (w.heap.size + 2) _ _ _ _ _ _ rfl rfl rfl k4 k5) rfl ⟨none, 0, 0, rfl, Eo.nothing _ _, kb⟩
    · have h16' : decide ((16 : Int) < (n : Int) + (m : Int)) = false := decide_eq_false (by omega)
      cases hro : room LI m with
      | false =>
        have e2 : rExtE ⟨bi, bt, es⟩ more = 6 := by rw [HE.out, hbe, hro]; simp
        rw [hro] at RO
        unfold rExtL rExtI rExtT
        rw [e2]
        clear hbe e2 HE h16 hro
        go_enter Try.func24, Try.ntmps24
        go_wp2_with fail
        refine (LA.out _ (X0.out.bel.mono hB)).mono ?_
        rintro e w1 ⟨rfl, hb⟩
        have X1 := Lib.hid (X0.out.on hb)
        clear hb
        go_wp2_with fail
        have X2 : Hid (ExB w bi bt A n c (w1.alloc (.cells #[.int .u64 LI, .int .u64 LT] 24))) := Lib.hid (X1.out.on ((Below.refl _ _).alloc (Nat.le_refl _) _))
        have q0' : (w1.alloc (.cells #[.int .u64 LI, .int .u64 LT] 24)).cell? ⟨w1.heap.size, 0, none⟩ = some (.int .u64 LI) := (Blk.new w1 24 _).cell 0
        have HP : Hid (w1.heap.size < (w1.alloc (.cells #[.int .u64 LI, .int .u64 LT] 24)).heap.size) := Lib.hid (by simp)
        generalize w1.alloc (.cells #[.int .u64 LI, .int .u64 LT] 24) = w2 at *
        generalize w1.heap.size = p7 at *
        refine (BE.out _ (X2.out.bel.mono hB)).mono ?_
        rintro e w3 ⟨rfl, hb⟩
        have X3 := Lib.hid (X2.out.on hb)
        have q0 : w3.cell? ⟨p7, 0, none⟩ = some (.int .u64 LI) := (hb.cell (p := ⟨p7, 0, none⟩) HP.out).trans q0'
        obtain ⟨d0, d1, d2⟩ := X3.out.cells
        obtain ⟨⟨z0, z1, z2, z3, z4⟩, f0, f1, f2, f3, f4⟩ := X3.out.out5
        clear hb q0' HP X0 X1 X2 LA BE
        go_wp2_with (go_at_call 46; refine (RO.out _).mono ?_; rintro e w4 ⟨rfl, rfl⟩)
        obtain ⟨k4, k5, kb⟩ := set5 X3.out.p4 X3.out.p5 X3.out.bel (Nat.le_succ _) (by omega) (by omega) (a := .int .u64 0) (b := .int .u64 0) (c := .slice none 0 0) (d := .int .u64 0) (e := .int .u64 0)
        exact bodyPost_ret (ret27x rfl _ _ (w.heap.size + 1) (w.heap.size + 2) _ _ _ _ _ _ rfl rfl rfl k4 k5) rfl ⟨none, 0, 0, rfl, Eo.nothing _ _, kb⟩
      | true =>
        have e2 : rExtE ⟨bi, bt, es⟩ more = 0 := by rw [HE.out, hbe, hro]; simp; omega
        rw [hro] at RO
        unfold rExtL rExtI rExtT
        rw [e2, if_pos rfl, if_pos rfl, if_pos rfl]
        clear hbe e2 HE hro
        go_enter Try.func24, Try.ntmps24
        go_wp2_with fail
        refine (LA.out _ (X0.out.bel.mono hB)).mono ?_
        rintro e w1 ⟨rfl, hb⟩
        have X1 := Lib.hid (X0.out.on hb)
        clear hb
        go_wp2_with fail
        have X2 : Hid (ExB w bi bt A n c (w1.alloc (.cells #[.int .u64 LI, .int .u64 LT] 24))) := Lib.hid (X1.out.on ((Below.refl _ _).alloc (Nat.le_refl _) _))
        have q0' : (w1.alloc (.cells #[.int .u64 LI, .int .u64 LT] 24)).cell? ⟨w1.heap.size, 0, none⟩ = some (.int .u64 LI) := (Blk.new w1 24 _).cell 0
        have HP : Hid (w1.heap.size < (w1.alloc (.cells #[.int .u64 LI, .int .u64 LT] 24)).heap.size) := Lib.hid (by simp)
        generalize w1.alloc (.cells #[.int .u64 LI, .int .u64 LT] 24) = w2 at *
        generalize w1.heap.size = p7 at *
        refine (BE.out _ (X2.out.bel.mono hB)).mono ?_
        rintro e w3 ⟨rfl, hb⟩
        have X3 := Lib.hid (X2.out.on hb)
        have q0 : w3.cell? ⟨p7, 0, none⟩ = some (.int .u64 LI) := (hb.cell (p := ⟨p7, 0, none⟩) HP.out).trans q0'
        obtain ⟨d0, d1, d2⟩ := X3.out.cells
        obtain ⟨⟨z0, z1, z2, z3, z4⟩, f0, f1, f2, f3, f4⟩ := X3.out.out5
        clear hb q0' HP X0 X1 X2 LA BE
        go_wp2_with (first | (go_at_call 46; refine (RO.out _).mono ?_; rintro e w4 ⟨rfl, rfl⟩) | (go_at_call 54; refine (CP.out _ (X3.out.bel.mono hB)).mono ?_; rintro e w4 ⟨A4, n4, c4, rfl, ho, hb⟩; have X4 := Lib.hid (X3.out.on hb); have HO4 := Lib.hid ho; have HX := Lib.hid X3.out.bel.size; clear hb ho z0 z1 z2 z3 z4 f0 f1 f2 f3 f4 d0 d1 d2 q0))
        obtain rfl : n = n4 := by have := HO4.out.len; rw [HL.out] at this; exact this
        have X5 : Hid (ExB w bi bt A n c (w4.alloc (.cells #[.int .u64 bi, .int .u64 bt, .slice A4 n c4] 27))) := Lib.hid (X4.out.on ((Below.refl _ _).alloc (Nat.le_refl _) _))
        have B8 : Hid (Blk (w4.alloc (.cells #[.int .u64 bi, .int .u64 bt, .slice A4 n c4] 27)) w4.heap.size 27 #[.int .u64 bi, .int .u64 bt, .slice A4 n c4]) := Blk.new w4 27 _
        have E5 : Hid (Eo (w4.alloc (.cells #[.int .u64 bi, .int .u64 bt, .slice A4 n c4] 27)) w.heap.size A4 n c4 es) := Lib.hid ((HO4.out.down HX.out).below ((Below.refl _ _).alloc (Nat.le_refl _) _))
        have P8 : Hid (w.heap.size + 3 ≤ w4.heap.size) := Lib.hid (by have h1 := X3.out.p5.lt; have h2 := X4.out.p5.lt; omega)
        clear X4 HO4 HX X3
        generalize w4.alloc (.cells #[.int .u64 bi, .int .u64 bt, .slice A4 n c4] 27) = w5 at *
        generalize w4.heap.size = p8 at *
        refine (EN.out _ (X5.out.bel.mono hB)).mono ?_
        rintro e w6 ⟨A6, c6, rfl, ho6, hb6⟩
        obtain ⟨xs, hx1, hx2, hx3⟩ := E5.out
        obtain ⟨ys, hy1, hy2, hy3⟩ := ho6
        have I0 : ExI w bi bt A n c p8 A6 m c6 xs ys 0 w6 := by
          refine ⟨A4, c4, World.ownsRow.down hy2 X5.out.bel.size, by simpa using World.ownsRow.below hx2 hb6, ?_, fun x hx => ⟨(hx3 x hx).1.below hb6, (hx3 x hx).2.1, (hx3 x hx).2.2.1, (hx3 x hx).2.2.2⟩, fun x hx => ⟨(hy3 x hx).1.down X5.out.bel.size, (hy3 x hx).2.1, (hy3 x hx).2.2.1, (hy3 x hx).2.2.2⟩, B8.out.below hb6 B8.out.lt, X5.out.on hb6⟩
          by_cases e : (Value.slice A6 m c6).ownBlock = none
          · exact .inl e
          · refine .inr fun e2 => ?_
            obtain ⟨gg, hgg⟩ := Option.ne_none_iff_exists'.1 e
            have h1 := (hy2.lt gg hgg).1
            rw [hgg] at e2
            have h2 := (hx2.lt gg e2.symm).2
            omega
        have II0 := Lib.hid I0
        have HY := Lib.hid hy1
        have HXS := Lib.hid hx1
        have HYL : Hid (ys.length = m) := by have := HML.out; rw [← hy1, List.length_map] at this; exact Lib.hid this
        have HBB := Lib.hid (And.intro H.out.bi0 (And.intro H.out.bi1 (And.intro H.out.bt0 H.out.bt1)))
        clear I0 hx1 hx2 hx3 hy1 hy2 hy3 hb6 E5 B8 X5 EN CP RO H
        obtain ⟨i0, hi, hz0, hz1, hz2⟩ := info_parts Try.info54
        have HI := Lib.hid hi
        have HZ := Lib.hid hz0
        have H1 := Lib.hid hz1
        have H2 := Lib.hid hz2
        clear hi hz0 hz1 hz2
        go_wp2_with fail
        go_loopw [42] (fun v wr => ∃ k : Nat, k ≤ m ∧ v = .int .i64 k ∧ ExI w bi bt A n c p8 A6 m c6 xs ys k wr) (fun v _ => m - (intOf v).toNat)
        case atStart => exact ⟨0, Nat.zero_le _, rfl, II0.out⟩
        case round =>
          obtain ⟨k, hk, rfl, A3, c3, r6, r3, hne, hox, hoy, b8, X⟩ := hrel
          clear II0
          by_cases hlt : k < m
          · obtain ⟨g6, cp6, hv6, hgb6, hgl6⟩ := r6.form (by omega)
            injection hv6 with hA6 _ hc6
            subst hA6 hc6
            have hyk : ys[k]? = some (ys[k]'(by rw [HYL.out]; exact hlt)) := List.getElem?_eq_getElem _
            generalize ys[k]'(by rw [HYL.out]; exact hlt) = y at hyk
            have hym := List.mem_of_getElem? hyk
            have hyo := hoy y hym
            have htk : ys.take (k + 1) = ys.take k ++ [y] := by rw [List.take_add_one, hyk]; rfl
            have a0 := rowE_at ys k 0 y hyk (by omega)
            have a1 := rowE_at ys k 1 y hyk (by omega)
            have a2 := rowE_at ys k 2 y hyk (by omega)
            have c0 : wr.cell? ⟨g6, k * 3, none⟩ = some (.int .u64 y.t) := (r6.cellAt _ (by omega)).trans a0
            have c1 : wr.cell? ⟨g6, k * 3 + 1, none⟩ = some (.int .i64 y.k) := (r6.cellAt _ (by omega)).trans a1
            have c2 : wr.cell? ⟨g6, k * 3 + 2, none⟩ = some (.slice y.A y.n y.c) := (r6.cellAt _ (by omega)).trans a2
            have s2 : wr.cell? ⟨p8, 2, none⟩ = some (.slice A3 (n + k) c3) := b8.cell 2
            have TK := Lib.hid htk
            have YO := Lib.hid hyo
            have R6 := Lib.hid r6
            have R3 := Lib.hid r3
            have NE := Lib.hid hne
            have OX := Lib.hid hox
            have OY := Lib.hid hoy
            have B8 := Lib.hid b8
            have XX := Lib.hid X
            have k0 : (0 : Int) ≤ (k : Int) := by omega
            have PL : Hid (p8 < wr.heap.size) := Lib.hid b8.lt
            clear hyk hym hyo htk a0 a1 a2 r6 r3 hne hox hoy b8 X hgb6 hgl6
            obtain ⟨yt, yk, yA, yn, yc, yd⟩ := y
            simp only at c0 c1 c2
            have pl : p8 < wr.heap.size := PL.out
            go_wp2_with (
              at_builtin
              have hb7 : Below wr.heap.size wr ((wr.alloc (.cells #[.int .u64 yt, .int .i64 yk, .slice yA yn yc] 54)).alloc (.cells #[.int .u64 yt, .int .i64 yk, .slice yA yn yc] 54)) := ((Below.refl _ wr).alloc (Nat.le_refl _) _).alloc (by simp) _
              have B7 : Hid (Blk ((wr.alloc (.cells #[.int .u64 yt, .int .i64 yk, .slice yA yn yc] 54)).alloc (.cells #[.int .u64 yt, .int .i64 yk, .slice yA yn yc] 54)) (wr.heap.size + 1) 54 #[.int .u64 yt, .int .i64 yk, .slice yA yn yc]) := Lib.hid (Blk.fresh (by simp))
              have R67 := Lib.hid (World.ownsRow.below R6.out hb7)
              have R37 := Lib.hid (World.ownsRow.below R3.out hb7)
              have B87 := Lib.hid (B8.out.below hb7 B8.out.lt)
              have X7 := Lib.hid (XX.out.on hb7)
              have OX7 : Hid (∀ x ∈ xs, x.own _ w.heap.size) := Lib.hid (fun x hx => (OX.out x hx).below hb7)
              have OY7 : Hid (∀ x ∈ ys, x.own _ w.heap.size) := Lib.hid (fun x hx => (OY.out x hx).below hb7)
              clear c0 c1 c2 s2 hb7 R6 R3 OX OY B8 XX YO
              generalize (wr.alloc (.cells #[.int .u64 yt, .int .i64 yk, .slice yA yn yc] 54)).alloc (.cells #[.int .u64 yt, .int .i64 yk, .slice yA yn yc] 54) = w7 at *
              generalize wr.heap.size + 1 = g7 at *
              refine wpList_append_lies w7 rfl (.tmp 47) (.tmp 49) 25 rfl w.heap.size 54 i0 _ 3 40 Try.underlying25 HI.out HZ.out H1.out H2.out rfl (by decide) _ (n + k) (rowE (xs ++ ys.take k)) rfl R37.out ⟨g7, 0, none⟩ 1 1 [.int .u64 yt, .int .i64 yk, .slice yA yn yc] rfl rfl (fun j u hu => by rw [add_at, Nat.zero_add, B7.out.cell, List.getElem?_toArray]; exact hu) (by simp [Value.oneCell']) (by decide) (by unfold maxLen; omega) (by omega) X7.out.bel.size _ rfl ?_
              intro g9 cap9 w8 hown8 hgrow8 hat8 hlt8
              have B88 := Lib.hid (B87.out.row R37.out (by decide) hgrow8)
              have X8 : Hid (ExB w bi bt A n c w8) := Lib.hid ⟨X7.out.p0.row R37.out (by decide) hgrow8, X7.out.p4.row R37.out (by decide) hgrow8, X7.out.p5.row R37.out (by decide) hgrow8, X7.out.bel.grown hgrow8 X7.out.bel.size (fun kk hk => (R37.out.lt kk hk).1)⟩
              have R68 := Lib.hid (R67.out.kept hgrow8 NE.out)
              have NE8 := Lib.hid (ne_lies (N := n + k + 1) (cap := cap9) R67.out NE.out hat8)
              have OX8 : Hid (∀ x ∈ xs, x.own w8 w.heap.size) := Lib.hid (fun x hx => (OX7.out x hx).row R37.out hgrow8)
              have OY8 : Hid (∀ x ∈ ys, x.own w8 w.heap.size) := Lib.hid (fun x hx => (OY7.out x hx).row R37.out hgrow8)
              have R38 : Hid (w8.ownsRow w.heap.size 54 3 (.slice (some ⟨g9, 0, none⟩) (n + k + 1) cap9) (n + k + 1) (rowE (xs ++ ys.take (k + 1)))) := by
                rw [TK.out, ← List.append_assoc, rowE_append]
                exact Lib.hid hown8
              have s28 : w8.cell? ⟨p8, 2, none⟩ = some (.slice A3 (n + k) c3) := B88.out.cell 2
              have f28 : w8.frozen? ⟨p8, 2, none⟩ = false := B88.out.frozen 2
              clear hown8 hgrow8 hat8 hlt8 R67 R37 OX7 OY7 B87 X7 NE B7)
            go_roundw
            case rel =>
              have hon := setCell_only w8 p8 2 (.slice (some ⟨g9, 0, none⟩) (n + k + 1) cap9)
              refine ⟨k + 1, by omega, by go_num, some ⟨g9, 0, none⟩, cap9, World.ownsRow.only R68.out B88.out (by decide) hon, World.ownsRow.only R38.out B88.out (by decide) hon, NE8.out, fun x hx => (OX8.out x hx).only B88.out (by decide) hon, fun x hx => (OY8.out x hx).only B88.out (by decide) hon, B88.out.set_ 2 _, ?_⟩
              have := P8.out
              exact ⟨hon.keep X8.out.p0 (by omega), hon.keep X8.out.p4 (by omega), hon.keep X8.out.p5 (by omega), X8.out.bel.trans (hon.below (by omega))⟩
            case measure => simp [intOf]; omega
          · obtain rfl : k = m := by omega
            rw [List.take_of_length_le (by rw [HYL.out]; exact Nat.le_refl _)] at r3
            have HO0 : Hid (Eo wr w.heap.size A3 (n + k) c3 (es ++ more)) := Lib.hid ⟨xs ++ ys, by rw [List.map_append, HXS.out, HY.out], r3, fun x hx => by
              rcases List.mem_append.1 hx with hx | hx
              · exact ⟨(hox x hx).d, (hox x hx).n, (hox x hx).t0, (hox x hx).t1⟩
              · exact ⟨(hoy x hx).d, (hoy x hx).n, (hoy x hx).t0, (hoy x hx).t1⟩⟩
            have B80 := Lib.hid b8
            have X0 := Lib.hid X
            have LA : Hid (∀ W, Eo W w.heap.size A3 (n + k) c3 (es ++ more) → Calls Try.prog 29 #[.agg #[.int .u64 bi, .int .u64 bt, .slice A3 (n + k) c3]] W fun e w' => e = .returned (.agg #[.int .u64 (⟨bi, bt, es ++ more⟩ : Lg).lastI, .int .u64 (⟨bi, bt, es ++ more⟩ : Lg).lastT]) ∧ Below W.heap.size W w') := Lib.hid (fun W ho => reflast_any ⟨bi, bt, es ++ more⟩ A3 (n + k) c3 W.heap.size W ⟨ho.read, ho.cap, ho.nil, by omega, HBB.out.1, HBB.out.2.1, HBB.out.2.2.1, HBB.out.2.2.2⟩ (Nat.le_refl _))
            clear r6 r3 hne hox hoy b8 X HXS HY HYL HBB
            generalize (⟨bi, bt, es ++ more⟩ : Lg).lastI = EI at *
            generalize (⟨bi, bt, es ++ more⟩ : Lg).lastT = ET at *
            go_wp2
            have hb : Below wr.heap.size wr wr.drew := (Below.refl _ _).drew
            have B81 := Lib.hid (B80.out.below hb B80.out.lt)
            have X1 := Lib.hid (X0.out.on hb)
            have HO1 := Lib.hid (Eo.below HO0.out hb)
            clear hb B80 X0 HO0
            have hS0 := (show _ ∧ _ ∧ _ from ⟨B81.out.cell 0, B81.out.cell 1, B81.out.cell 2⟩)
            refine wp_region_noPanic ?_
            refine wp_region_held_drew (S := fun w' => w'.cell? ⟨p8, 0, none⟩ = some (.int .u64 bi) ∧ w'.cell? ⟨p8, 1, none⟩ = some (.int .u64 bt) ∧ w'.cell? ⟨p8, 2, none⟩ = some (.slice A3 (n + k) c3)) (by kernel_rfl) hS0 (fun hHeld => ?_)
            generalize wr.drew = w1 at *
            refine take_d (i := 0) (d := 53) (v := ?z53) rfl rfl (by kernel_rfl) (by kernel_rfl) (by kernel_rfl) (fun _ _ _ h => h) (Or.inl ⟨by kernel_rfl, ?z53h⟩) hHeld ?z53n
            case z53h => (intro w hSw; (try dsimp only at hSw); go_split_ands; go_simp; (try exact rfl))
            try simp only [Act.put, List.setIfInBounds_toArray, List.set_cons_zero, List.set_cons_succ]
            refine take_d (i := 1) (d := 54) (v := ?z54) rfl rfl (by kernel_rfl) (by kernel_rfl) (by kernel_rfl) (fun _ _ _ h => h) (Or.inl ⟨by kernel_rfl, ?z54h⟩) hHeld ?z54n
            case z54h => (intro w hSw; (try dsimp only at hSw); go_split_ands; go_simp; (try exact rfl))
            try simp only [Act.put, List.setIfInBounds_toArray, List.set_cons_zero, List.set_cons_succ]
            refine wpAnyH_ready (rs := [2]) (by kernel_rfl) (by simp) ?_
            refine AllReadyH.cons rfl (fun K hK => ?_) AllReadyH.nil
            go_simp
            refine (LA.out w1 HO1.out).mono ?_
            rintro e w2 ⟨rfl, hb⟩
            have B82 := Lib.hid (B81.out.below hb B81.out.lt)
            have X2 := Lib.hid (X1.out.on hb)
            have HO2 := Lib.hid (Eo.below HO1.out hb)
            clear hb
            refine hK.out _ _ (⟨B82.out.cell 0, B82.out.cell 1, B82.out.cell 2⟩) (fun hHeld => ?_)
            clear hK K
            try simp only [Act.put, List.setIfInBounds_toArray, List.set_cons_zero, List.set_cons_succ]
            refine wpAnyH_ready (rs := [3]) (by kernel_rfl) (by simp) ?_
            refine AllReadyH.cons rfl (fun K hK => ?_) AllReadyH.nil
            refine wp_store_blk 27 _ _ rfl (w.heap.size + 1) #[.int .u64 0, .int .u64 0, .slice none 0 0] 27 [.int .u64 bi, .int .u64 bt, .slice A3 (n + k) c3] rfl rfl X2.out.p4 rfl Try.i27 (by simp [Value.oneCell']) ?_
            intro w3 hb ho
            have B43 := Lib.hid hb
            have B83 := Lib.hid (ho.keep B82.out (by have := P8.out; omega))
            have B53 := Lib.hid (ho.keep X2.out.p5 (by omega))
            have HO3 := Lib.hid (HO2.out.only27 X2.out.p4 ho)
            have HB3 := Lib.hid (X2.out.bel.trans (ho.below (Nat.le_succ _)))
            clear hb ho
            refine hK.out _ _ (⟨B83.out.cell 0, B83.out.cell 1, B83.out.cell 2⟩) (fun hHeld => ?_)
            clear hK K
            try simp only [Act.put, List.setIfInBounds_toArray, List.set_cons_zero, List.set_cons_succ]
            refine wpAnyH_ready (rs := [4]) (by kernel_rfl) (by simp) ?_
            refine AllReadyH.cons rfl (fun K hK => ?_) AllReadyH.nil
            refine wp_store_blk 24 _ _ rfl (w.heap.size + 2) #[.int .u64 0, .int .u64 0] 24 [.int .u64 EI, .int .u64 ET] rfl rfl B53.out rfl Try.i24 (by simp [Value.oneCell']) ?_
            intro w4 hb ho
            have B54 := Lib.hid hb
            have B84 := Lib.hid (ho.keep B83.out (by have := P8.out; omega))
            have B44 := Lib.hid (ho.keep B43.out (by omega))
            have HO4 := Lib.hid (HO3.out.only B53.out (by decide) (by decide) ho)
            have HB4 := Lib.hid (HB3.out.trans (ho.below (by omega)))
            clear hb ho
            refine hK.out _ _ (⟨B84.out.cell 0, B84.out.cell 1, B84.out.cell 2⟩) (fun hHeld => ?_)
            clear hK K
            try simp only [Act.put, List.setIfInBounds_toArray, List.set_cons_zero, List.set_cons_succ]
            refine take_d (i := 5) (d := 6) (v := ?z6) rfl rfl (by kernel_rfl) (by kernel_rfl) (by kernel_rfl) (fun _ _ _ h => h) (Or.inl ⟨by kernel_rfl, ?z6h⟩) hHeld ?z6n
            case z6h => (intro w hSw; (try dsimp only at hSw); go_split_ands; go_simp; (try exact rfl))
            try simp only [Act.put, List.setIfInBounds_toArray, List.set_cons_zero, List.set_cons_succ]
            refine wpAnyH_done (by kernel_rfl) ?_ _
            refine NoPanic.normal ?_
            go_wp2
            exact bodyPost_ret (ret27x rfl _ _ (w.heap.size + 1) (w.heap.size + 2) _ _ _ _ _ _ rfl rfl rfl B44.out B54.out) rfl ⟨A3, n + k, c3, rfl, HO4.out, HB4.out⟩

end Go.Proofs.Ytmgaihdepglahaa
