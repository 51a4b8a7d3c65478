/-
  A reader of messages in memory: counts, and the fields that are numbers.
-/
import Derived.Test.YtemfnckaehjhcaaDoorFR
namespace Go.Proofs.YtemfnckaehjhcaaDoor
open Go.RowKit
attribute [local go_sem ↓] eqA neA eqGA field1

section
variable {w w' : World} {base p q : Nat} {A : Option Addr} {n c : Nat} {zs : List Int} {k : Nat} {r : Rq} {eA : Option Addr} {en ec : Nat} {iA : Option Addr} {im ic : Nat} {dA : Option Addr} {dm dc : Nat}
theorem fx_sh_lt (h : Fx w base p q A n c zs k r eA en ec iA im ic dA dm dc) : (rdSh r.s).1 < 2 ^ 64 := by
  have hlb : ∀ x ∈ r.s.l, 0 ≤ x ∧ x ≤ 255 := by
    have h1 := h.cut.bs
    intro x hx
    obtain ⟨j, hj, rfl⟩ := List.getElem_of_mem hx
    have := h1 j
    simpa [List.getD, hj] using this
  unfold rdSh
  rcases hlo : loB r.s.l with _ | ⟨x, m⟩
  · simp
  · exact (loB_back hlb hlo).1
theorem fx_u8_in (h : Fx w base p q A n c zs k r eA en ec iA im ic dA dm dc) : 0 ≤ (rdU8 r.s).1 ∧ (rdU8 r.s).1 ≤ 255 := by
  have h1 := h.cut.bs 0
  unfold rdU8
  by_cases he : r.s.e ≠ 0
  · rw [if_pos he]; simp
  · rw [if_neg he]
    rcases hl : r.s.l with _ | ⟨x, l⟩
    · simp
    · rw [hl] at h1
      simpa [List.getD] using h1
set_option maxRecDepth 100000 in
theorem Fx.count (h : Fx w base p q A n c zs k r eA en ec iA im ic dA dm dc) (lim : Nat) (hlim : lim ≤ 100000) :
    Calls Tryd.prog 110 #[.pointer (some ⟨q, 0, none⟩), .int .u64 (lim : Int)] w fun e w' => e = .returned (.int .i64 ((rdCn lim r.s).1 : Int)) ∧ (∃ k', Fx w' base p q A n c zs k' ⟨r.m, (rdCn lim r.s).2⟩ eA en ec iA im ic dA dm dc) ∧ Below base w w' := by
  have HS := Lib.hid h.short
  have hlt := fx_sh_lt h
  clear h
  unfold rdCn
  generalize rdSh r.s = xs at *
  obtain ⟨x, s⟩ := xs
  have hd : decide ((x : Int) ≤ (lim : Int)) = decide (x ≤ lim) := by rw [decide_eq_decide]; omega
  by_cases hw : (rdHold s (decide (x ≤ lim))).wr = true
  · rw [if_pos hw]
    go_enter Tryd.func110, Tryd.ntmps110
    go_wp2_with (first
      | (go_at_call 85; refine HS.out.mono ?_; rintro e w1 ⟨rfl, ⟨k1, hx1⟩, hb1⟩)
      | (go_at_call 108; (try rw [hd]); refine (hx1.hold _).mono ?_; rintro e w2 ⟨rfl, hx2, hb2⟩; have q1 := hx2.q1; rw [hw] at q1))
    go_ret
    exact ⟨rfl, ⟨_, hx2⟩, hb1.trans hb2⟩
  · rw [if_neg hw]
    have hw' : (rdHold s (decide (x ≤ lim))).wr = false := by simpa using hw
    have hxl : x ≤ lim := by
      have := hw'
      unfold rdHold at this
      simp at this
      exact this.2
    have hd' : decide (x ≤ lim) = true := by simpa using hxl
    rw [hd'] at hw' ⊢
    go_enter Tryd.func110, Tryd.ntmps110
    go_wp2_with (first
      | (go_at_call 85; refine HS.out.mono ?_; rintro e w1 ⟨rfl, ⟨k1, hx1⟩, hb1⟩)
      | (go_at_call 108; refine (hx1.hold true).mono ?_; rintro e w2 ⟨rfl, hx2, hb2⟩; have q1 := hx2.q1; rw [hw'] at q1))
    go_ret
    exact ⟨rfl, ⟨_, hx2⟩, hb1.trans hb2⟩
end

/-- Each method leaves the reader as the plain words say. -/
def Meth (f : Nat) (g : Rq → Rq) : Prop :=
  ∀ (base p q : Nat) (A : Option Addr) (n c : Nat) (zs : List Int) (r : Rq) (w : World), Fq base p q A n c zs r w →
    Calls Tryd.prog f #[.pointer (some ⟨q, 0, none⟩)] w fun e w' => e = .returned (.tuple #[]) ∧ Fq base p q A n c zs (g r) w' ∧ Below base w w'

set_option maxRecDepth 100000 in
theorem ok_meth : Meth 86 rdOk := by
  rintro base p q A n c zs r w ⟨k, eA, en, ec, iA, im, ic, dA, dm, dc, h⟩
  have q0 := h.q0
  have hb8 := fx_u8_in h
  have HU := Lib.hid h.u8
  have hle : ∀ x : Int, 0 ≤ x → decide (x ≤ 1) = decide (x ≤ (1 : Int)) := fun _ _ => rfl
  clear h
  unfold rdOk
  generalize rdU8 r.s = xs at *
  obtain ⟨x, s⟩ := xs
  go_enter Tryd.func86, Tryd.ntmps86
  go_wp2_with (first
    | (go_at_call 84; refine HU.out.mono ?_; rintro e w1 ⟨rfl, ⟨k1, hx1⟩, hb1⟩)
    | (go_at_call 108; refine (hx1.hold _).mono ?_; rintro e w2 ⟨rfl, hx2, hb2⟩; have f2 : w2.frozen? ⟨q, 11, none⟩ = false := hx2.bx.frozen 11; have d2 := hx2.bx.cell 11))
  refine bodyPost_end (results_none rfl _ _ _) rfl ?_
  obtain ⟨hx3, hb3⟩ := hx2.put 11 (.bool (x == 1)) ⟨{ r.m with ok := x == 1 }, rdHold s (decide (x ≤ 1))⟩ rfl rfl rfl rfl rfl rfl
  exact ⟨rfl, ⟨_, _, _, _, _, _, _, _, _, _, hx3⟩, (hb1.trans hb2).trans hb3⟩
set_option maxRecDepth 100000 in
theorem commit_meth : Meth 88 rdCo := by
  rintro base p q A n c zs r w ⟨k, eA, en, ec, iA, im, ic, dA, dm, dc, h⟩
  have HS := Lib.hid h.short
  clear h
  unfold rdCo
  generalize rdSh r.s = xs at *
  obtain ⟨x, s⟩ := xs
  go_enter Tryd.func88, Tryd.ntmps88
  go_wp2_with (go_at_call 85; refine HS.out.mono ?_; rintro e w1 ⟨rfl, ⟨k1, hx1⟩, hb1⟩; have f1 : w1.frozen? ⟨q, 10, none⟩ = false := hx1.bx.frozen 10; have d1 := hx1.bx.cell 10)
  refine bodyPost_end (results_none rfl _ _ _) rfl ?_
  obtain ⟨hx3, hb3⟩ := hx1.put 10 (.int .u64 (x : Int)) ⟨{ r.m with co := x }, s⟩ rfl rfl rfl rfl rfl rfl
  exact ⟨rfl, ⟨_, _, _, _, _, _, _, _, _, _, hx3⟩, hb1.trans hb3⟩
set_option maxRecDepth 100000 in
theorem place_meth : Meth 87 rdPl := by
  rintro base p q A n c zs r w ⟨k, eA, en, ec, iA, im, ic, dA, dm, dc, h⟩
  have HS := Lib.hid h.short
  clear h
  unfold rdPl
  generalize rdSh r.s = xs at *
  obtain ⟨x, s⟩ := xs
  dsimp only
  generalize hys : rdSh s = ys
  obtain ⟨y, s2⟩ := ys
  go_enter Tryd.func87, Tryd.ntmps87
  go_upto_region 1 with (go_at_call 85; refine HS.out.mono ?_; rintro e w1 ⟨rfl, ⟨k1, hx1⟩, hb1⟩; have f1 : w1.frozen? ⟨q, 7, none⟩ = false := hx1.bx.frozen 7; have d1 := hx1.bx.cell 7)
  obtain ⟨hx2, hb2⟩ := hx1.put 7 (.int .u64 (x : Int)) ⟨{ r.m with pi := x }, s⟩ rfl rfl rfl rfl rfl rfl
  generalize w1.setCell ⟨q, 7, none⟩ (.int .u64 (x : Int)) = w2 at *
  have HS2 := Lib.hid hx2.short
  dsimp only at HS2
  rw [hys] at HS2
  go_wp2_with (go_at_call 85; refine HS2.out.mono ?_; rintro e w3 ⟨rfl, ⟨k3, hx3⟩, hb3⟩; have f3 : w3.frozen? ⟨q, 8, none⟩ = false := hx3.bx.frozen 8; have d3 := hx3.bx.cell 8)
  refine bodyPost_end (results_none rfl _ _ _) rfl ?_
  obtain ⟨hx4, hb4⟩ := hx3.put 8 (.int .u64 (y : Int)) ⟨{ r.m with pi := x, pt := y }, s2⟩ rfl rfl rfl rfl rfl rfl
  exact ⟨rfl, ⟨_, _, _, _, _, _, _, _, _, _, hx4⟩, ((hb1.trans hb2).trans hb3).trans hb4⟩

theorem shr4 (x : Int) : x / 16 = x / 2 ^ 4 := by rfl
set_option maxRecDepth 100000 in
theorem head_meth : Meth 62 rdHead := by
  rintro base p q A n c zs r w ⟨k, eA, en, ec, iA, im, ic, dA, dm, dc, h⟩
  have q0 := h.q0
  have hb8 := fx_u8_in h
  have HU := Lib.hid h.u8
  clear h
  unfold rdHead
  generalize rdU8 r.s = xs at *
  obtain ⟨x, s⟩ := xs
  dsimp only at hb8 ⊢
  generalize hys : rdU8 s = ys
  obtain ⟨y, s2⟩ := ys
  dsimp only
  generalize hzs : rdSh s2 = us
  obtain ⟨z, s3⟩ := us
  go_enter Tryd.func62, Tryd.ntmps62
  go_upto_region 1 with (go_at_call 84; refine HU.out.mono ?_; rintro e w1 ⟨rfl, ⟨k1, hx1⟩, hb1⟩; have f1 : w1.frozen? ⟨q, 3, none⟩ = false := hx1.bx.frozen 3; have d1 := hx1.bx.cell 3)
  obtain ⟨hx2, hb2⟩ := hx1.put 3 (.int .i64 x) ⟨{ r.m with kind := x }, s⟩ rfl rfl rfl rfl rfl rfl
  generalize w1.setCell ⟨q, 3, none⟩ (.int .i64 x) = w2 at *
  have HU2 := Lib.hid hx2.u8
  have hc8 := fx_u8_in hx2
  dsimp only at HU2 hc8
  rw [hys] at HU2 hc8
  have q02 := hx2.q0
  go_upto_region 2 with (go_at_call 84; refine HU2.out.mono ?_; rintro e w3 ⟨rfl, ⟨k3, hx3⟩, hb3⟩)
  have f3 : w3.frozen? ⟨q, 4, none⟩ = false := hx3.bx.frozen 4
  have d3 := hx3.bx.cell 4
  have f4 : w3.frozen? ⟨q, 5, none⟩ = false := hx3.bx.frozen 5
  have d4 := hx3.bx.cell 5
  go_upto_region 3 with (fail)
  clear d3 d4 f3 f4
  obtain ⟨hx4, hb4⟩ := hx3.put 4 (.int .i64 (y / 16)) ⟨{ r.m with kind := x, fr := y / 16 }, s2⟩ rfl rfl rfl rfl rfl rfl
  obtain ⟨hx5, hb5⟩ := hx4.put 5 (.int .i64 (y % 16)) ⟨{ r.m with kind := x, fr := y / 16, to := y % 16 }, s2⟩ rfl rfl rfl rfl rfl rfl
  generalize (w3.setCell ⟨q, 4, none⟩ (.int .i64 (y / 16))).setCell ⟨q, 5, none⟩ (.int .i64 (y % 16)) = w5 at *
  have HS := Lib.hid hx5.short
  dsimp only at HS
  rw [hzs] at HS
  go_wp2_with (go_at_call 85; refine HS.out.mono ?_; rintro e w6 ⟨rfl, ⟨k6, hx6⟩, hb6⟩; have f6 : w6.frozen? ⟨q, 6, none⟩ = false := hx6.bx.frozen 6; have d6 := hx6.bx.cell 6)
  refine bodyPost_end (results_none rfl _ _ _) rfl ?_
  obtain ⟨hx7, hb7⟩ := hx6.put 6 (.int .u64 (z : Int)) ⟨{ r.m with kind := x, fr := y / 16, to := y % 16, t := z }, s3⟩ rfl rfl rfl rfl rfl rfl
  exact ⟨rfl, ⟨_, _, _, _, _, _, _, _, _, _, hx7⟩, (((((hb1.trans hb2).trans hb3).trans hb4).trans hb5).trans hb6).trans hb7⟩

end Go.Proofs.YtemfnckaehjhcaaDoor
