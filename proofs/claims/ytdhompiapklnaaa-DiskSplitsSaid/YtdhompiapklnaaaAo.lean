/-
  A request that goes well.
-/
import Derived.Test.YtdhompiapklnaaaAk
namespace Go.Proofs.Ytdhompiapklnaaa
open Go.RowKit

theorem askErr_zero {S : DSt} {ch : Bool} {i : Int} (h : askErr S ch i = 0) : S.dead = false ∧ 0 ≤ i ∧ i < S.has.length ∧ (ch = true → (S.armed == 0) = false) ∧ (S.doomed == 0) = false ∧ askSt S ch i = { S with armed := if ch then less S.armed else S.armed, doomed := less S.doomed, ops := wrap64 (S.ops + 1) } := by
  obtain ⟨hd, h0, h1⟩ := askErr_ok h
  simp only [askErr] at h
  rw [if_neg (by simp [hd]), if_pos ⟨h0, h1⟩] at h
  by_cases ha : ch = true ∧ S.armed = 0
  · rw [if_pos ha] at h; omega
  · rw [if_neg ha] at h
    by_cases hz : S.doomed = 0
    · rw [if_pos hz] at h; omega
    · refine ⟨hd, h0, h1, fun hc => by simpa [hc] using ha, by simpa using hz, ?_⟩
      simp only [askSt]
      rw [if_neg (by simp [hd]), if_pos ⟨h0, h1⟩, if_neg ha, if_neg hz]

/-- A disk as its act finds it. -/
def ahead (S : DSt) (ch : Bool) (i : Int) : DSt := { askSt S ch i with ops := S.ops }
theorem ahead_ok {S : DSt} (h : S.ok) (ch : Bool) (i : Int) : (ahead S ch i).ok := by
  have := askSt_ok h ch i
  exact ⟨this.has, this.q, this.armed, this.doomed, this.armed', this.doomed'⟩

set_option maxHeartbeats 2000000 in
theorem ask_sync (a1 : Value) (i : Int) (w : World) (base p gs : Nat) (S : DSt) (H : List (List Value)) (Q : List (Int × List Value)) (X : World → Prop) (h : Dk w base p gs S) (he : askErr S true i = 0)
    (hact : ∀ w1, Dk w1 base p gs (ahead S true i) → Fr base p gs w w1 → Calls Try.prog 50 #[a1] w1 fun e w2 => (∃ v, e = .returned v) ∧ Dk w2 base p gs { ahead S true i with has := H, q := Q } ∧ X w2)
    (hX : ∀ w2 u, X w2 → X (w2.setCell ⟨p, 5, none⟩ u)) :
    Calls Try.prog 49 #[.pointer (some ⟨p, 0, none⟩), .bool true, .int .i64 i, .func (.func 50) #[] #[a1]] w fun e w' => e = .returned (.int .i64 0) ∧ Dk w' base p gs { askSt S true i with has := H, q := Q } ∧ X w' := by
  obtain ⟨hd, hr0, hr1, ha, hz, hst⟩ := askErr_zero he
  have hbase := h.base
  have ok := h.ok
  obtain ⟨cs, vq, hb, _⟩ := h.own
  have hp := hb.lt
  have f2 := hb.frozen 2
  have f3 := hb.frozen 3
  have h0 : w.cell? ⟨p, 0, none⟩ = some (.slice (some ⟨gs, 0, none⟩) S.has.length cs) := hb.cell 0
  have h2 : w.cell? ⟨p, 2, none⟩ = some (.int .i64 S.armed) := hb.cell 2
  have h3 : w.cell? ⟨p, 3, none⟩ = some (.int .i64 S.doomed) := hb.cell 3
  have h4 : w.cell? ⟨p, 4, none⟩ = some (.bool S.dead) := hb.cell 4
  rw [hd] at h4
  have hn0 : ¬ (i < 0) := by omega
  have hn1 : ¬ ((S.has.length : Int) ≤ i) := by omega
  have haa := ha rfl
  have HM := Lib.hid (meet_write p S.armed S.doomed w haa hz ok.armed ok.armed' ok.doomed ok.doomed' h2 h3 f2 f3)
  have f1 : Fr base p gs w ((w.setCell ⟨p, 2, none⟩ (.int .i64 (less S.armed))).setCell ⟨p, 3, none⟩ (.int .i64 (less S.doomed))) := ((Fr.refl _ _ _ _).set hbase _ _).set hbase _ _
  have d1 : Dk ((w.setCell ⟨p, 2, none⟩ (.int .i64 (less S.armed))).setCell ⟨p, 3, none⟩ (.int .i64 (less S.doomed))) base p gs (ahead S true i) := by
    have ok1 := ahead_ok ok true i
    have e1 : ahead S true i = { S with armed := less S.armed, doomed := less S.doomed } := by unfold ahead; rw [hst]; rfl
    rw [e1] at ok1 ⊢
    refine h.turn (fun cs vq hb => (hb.set_ 2 _).set_ 3 _) (fun k hk => ?_) rfl rfl ok1
    rw [Below.heap_setCell _ _ _ k hk, Below.heap_setCell _ _ _ k hk]
  clear ha haa
  have hcall := hact _ d1 f1
  have HC := Lib.hid hcall
  have HX := Lib.hid hX
  have HST := Lib.hid hst
  clear hcall hact hX d1 f1 h hb hst he
  go_enter Try.func49, Try.ntmps49
  go_wp2_with (first | (go_at_call 61; refine (power_ok _ _ h4).mono ?_; rintro e w' ⟨rfl, rfl⟩) | (go_at_call 62; refine HM.out.mono ?_; rintro e w' ⟨rfl, rfl⟩))
  refine HC.out.mono ?_
  rintro e w2 ⟨⟨v, rfl⟩, d2, hx⟩
  clear HC HM h0 h2 h3 h4 f2 f3
  obtain ⟨cs2, vq2, hb2, _⟩ := d2.own
  have hp2 := hb2.lt
  have p5 : w2.cell? ⟨p, 5, none⟩ = some (.int .i64 S.ops) := hb2.cell 5
  have f5 := hb2.frozen 5
  have fin : Dk (w2.setCell ⟨p, 5, none⟩ (.int .i64 (wrap64 (S.ops + 1)))) base p gs { askSt S true i with has := H, q := Q } := by
    have okS := d2.ok
    have ho : (askSt S true i).ops = wrap64 (S.ops + 1) := by rw [HST.out]
    refine d2.turn (fun cs vq hb => ?_) (fun k hk => Below.heap_setCell _ _ _ k hk) rfl rfl ⟨okS.has, okS.q, okS.armed, okS.doomed, okS.armed', okS.doomed'⟩
    rw [← ho]
    exact hb.set_ 5 _
  have FIN := Lib.hid fin
  clear fin d2 hb2
  go_wp2
  go_ret
  exact ⟨rfl, FIN.out, HX.out _ _ hx⟩

set_option maxHeartbeats 2000000 in
theorem ask_write (a1 a2 a3 : Value) (i : Int) (w : World) (base p gs : Nat) (S : DSt) (H : List (List Value)) (Q : List (Int × List Value)) (X : World → Prop) (h : Dk w base p gs S) (he : askErr S true i = 0)
    (hact : ∀ w1, Dk w1 base p gs (ahead S true i) → Fr base p gs w w1 → Calls Try.prog 56 #[a1, a2, a3] w1 fun e w2 => (∃ v, e = .returned v) ∧ Dk w2 base p gs { ahead S true i with has := H, q := Q } ∧ X w2)
    (hX : ∀ w2 u, X w2 → X (w2.setCell ⟨p, 5, none⟩ u)) :
    Calls Try.prog 49 #[.pointer (some ⟨p, 0, none⟩), .bool true, .int .i64 i, .func (.func 56) #[] #[a1, a2, a3]] w fun e w' => e = .returned (.int .i64 0) ∧ Dk w' base p gs { askSt S true i with has := H, q := Q } ∧ X w' := by
  obtain ⟨hd, hr0, hr1, ha, hz, hst⟩ := askErr_zero he
  have hbase := h.base
  have ok := h.ok
  obtain ⟨cs, vq, hb, _⟩ := h.own
  have hp := hb.lt
  have f2 := hb.frozen 2
  have f3 := hb.frozen 3
  have h0 : w.cell? ⟨p, 0, none⟩ = some (.slice (some ⟨gs, 0, none⟩) S.has.length cs) := hb.cell 0
  have h2 : w.cell? ⟨p, 2, none⟩ = some (.int .i64 S.armed) := hb.cell 2
  have h3 : w.cell? ⟨p, 3, none⟩ = some (.int .i64 S.doomed) := hb.cell 3
  have h4 : w.cell? ⟨p, 4, none⟩ = some (.bool S.dead) := hb.cell 4
  rw [hd] at h4
  have hn0 : ¬ (i < 0) := by omega
  have hn1 : ¬ ((S.has.length : Int) ≤ i) := by omega
  have haa := ha rfl
  have HM := Lib.hid (meet_write p S.armed S.doomed w haa hz ok.armed ok.armed' ok.doomed ok.doomed' h2 h3 f2 f3)
  have f1 : Fr base p gs w ((w.setCell ⟨p, 2, none⟩ (.int .i64 (less S.armed))).setCell ⟨p, 3, none⟩ (.int .i64 (less S.doomed))) := ((Fr.refl _ _ _ _).set hbase _ _).set hbase _ _
  have d1 : Dk ((w.setCell ⟨p, 2, none⟩ (.int .i64 (less S.armed))).setCell ⟨p, 3, none⟩ (.int .i64 (less S.doomed))) base p gs (ahead S true i) := by
    have ok1 := ahead_ok ok true i
    have e1 : ahead S true i = { S with armed := less S.armed, doomed := less S.doomed } := by unfold ahead; rw [hst]; rfl
    rw [e1] at ok1 ⊢
    refine h.turn (fun cs vq hb => (hb.set_ 2 _).set_ 3 _) (fun k hk => ?_) rfl rfl ok1
    rw [Below.heap_setCell _ _ _ k hk, Below.heap_setCell _ _ _ k hk]
  clear ha haa
  have hcall := hact _ d1 f1
  have HC := Lib.hid hcall
  have HX := Lib.hid hX
  have HST := Lib.hid hst
  clear hcall hact hX d1 f1 h hb hst he
  go_enter Try.func49, Try.ntmps49
  go_wp2_with (first | (go_at_call 61; refine (power_ok _ _ h4).mono ?_; rintro e w' ⟨rfl, rfl⟩) | (go_at_call 62; refine HM.out.mono ?_; rintro e w' ⟨rfl, rfl⟩))
  refine HC.out.mono ?_
  rintro e w2 ⟨⟨v, rfl⟩, d2, hx⟩
  clear HC HM h0 h2 h3 h4 f2 f3
  obtain ⟨cs2, vq2, hb2, _⟩ := d2.own
  have hp2 := hb2.lt
  have p5 : w2.cell? ⟨p, 5, none⟩ = some (.int .i64 S.ops) := hb2.cell 5
  have f5 := hb2.frozen 5
  have fin : Dk (w2.setCell ⟨p, 5, none⟩ (.int .i64 (wrap64 (S.ops + 1)))) base p gs { askSt S true i with has := H, q := Q } := by
    have okS := d2.ok
    have ho : (askSt S true i).ops = wrap64 (S.ops + 1) := by rw [HST.out]
    refine d2.turn (fun cs vq hb => ?_) (fun k hk => Below.heap_setCell _ _ _ k hk) rfl rfl ⟨okS.has, okS.q, okS.armed, okS.doomed, okS.armed', okS.doomed'⟩
    rw [← ho]
    exact hb.set_ 5 _
  have FIN := Lib.hid fin
  clear fin d2 hb2
  go_wp2
  go_ret
  exact ⟨rfl, FIN.out, HX.out _ _ hx⟩

set_option maxHeartbeats 2000000 in
theorem ask_read (a1 a2 a3 : Value) (i : Int) (w : World) (base p gs : Nat) (S : DSt) (H : List (List Value)) (Q : List (Int × List Value)) (X : World → Prop) (h : Dk w base p gs S) (he : askErr S false i = 0)
    (hact : ∀ w1, Dk w1 base p gs (ahead S false i) → Fr base p gs w w1 → Calls Try.prog 54 #[a1, a2, a3] w1 fun e w2 => (∃ v, e = .returned v) ∧ Dk w2 base p gs { ahead S false i with has := H, q := Q } ∧ X w2)
    (hX : ∀ w2 u, X w2 → X (w2.setCell ⟨p, 5, none⟩ u)) :
    Calls Try.prog 49 #[.pointer (some ⟨p, 0, none⟩), .bool false, .int .i64 i, .func (.func 54) #[] #[a1, a2, a3]] w fun e w' => e = .returned (.int .i64 0) ∧ Dk w' base p gs { askSt S false i with has := H, q := Q } ∧ X w' := by
  obtain ⟨hd, hr0, hr1, ha, hz, hst⟩ := askErr_zero he
  have hbase := h.base
  have ok := h.ok
  obtain ⟨cs, vq, hb, _⟩ := h.own
  have hp := hb.lt
  have f2 := hb.frozen 2
  have f3 := hb.frozen 3
  have h0 : w.cell? ⟨p, 0, none⟩ = some (.slice (some ⟨gs, 0, none⟩) S.has.length cs) := hb.cell 0
  have h2 : w.cell? ⟨p, 2, none⟩ = some (.int .i64 S.armed) := hb.cell 2
  have h3 : w.cell? ⟨p, 3, none⟩ = some (.int .i64 S.doomed) := hb.cell 3
  have h4 : w.cell? ⟨p, 4, none⟩ = some (.bool S.dead) := hb.cell 4
  rw [hd] at h4
  have hn0 : ¬ (i < 0) := by omega
  have hn1 : ¬ ((S.has.length : Int) ≤ i) := by omega
  have HM := Lib.hid (meet_read p S.doomed w hz ok.doomed ok.doomed' h3 f3)
  have f1 : Fr base p gs w (w.setCell ⟨p, 3, none⟩ (.int .i64 (less S.doomed))) := (Fr.refl _ _ _ _).set hbase _ _
  have d1 : Dk (w.setCell ⟨p, 3, none⟩ (.int .i64 (less S.doomed))) base p gs (ahead S false i) := by
    have ok1 := ahead_ok ok false i
    have e1 : ahead S false i = { S with doomed := less S.doomed } := by unfold ahead; rw [hst]; rfl
    rw [e1] at ok1 ⊢
    exact h.turn (fun cs vq hb => hb.set_ 3 _) (fun k hk => Below.heap_setCell _ _ _ k hk) rfl rfl ok1
  clear ha
  have hcall := hact _ d1 f1
  have HC := Lib.hid hcall
  have HX := Lib.hid hX
  have HST := Lib.hid hst
  clear hcall hact hX d1 f1 h hb hst he
  go_enter Try.func49, Try.ntmps49
  go_wp2_with (first | (go_at_call 61; refine (power_ok _ _ h4).mono ?_; rintro e w' ⟨rfl, rfl⟩) | (go_at_call 62; refine HM.out.mono ?_; rintro e w' ⟨rfl, rfl⟩))
  refine HC.out.mono ?_
  rintro e w2 ⟨⟨v, rfl⟩, d2, hx⟩
  clear HC HM h0 h2 h3 h4 f2 f3
  obtain ⟨cs2, vq2, hb2, _⟩ := d2.own
  have hp2 := hb2.lt
  have p5 : w2.cell? ⟨p, 5, none⟩ = some (.int .i64 S.ops) := hb2.cell 5
  have f5 := hb2.frozen 5
  have fin : Dk (w2.setCell ⟨p, 5, none⟩ (.int .i64 (wrap64 (S.ops + 1)))) base p gs { askSt S false i with has := H, q := Q } := by
    have okS := d2.ok
    have ho : (askSt S false i).ops = wrap64 (S.ops + 1) := by rw [HST.out]
    refine d2.turn (fun cs vq hb => ?_) (fun k hk => Below.heap_setCell _ _ _ k hk) rfl rfl ⟨okS.has, okS.q, okS.armed, okS.doomed, okS.armed', okS.doomed'⟩
    rw [← ho]
    exact hb.set_ 5 _
  have FIN := Lib.hid fin
  clear fin d2 hb2
  go_wp2
  go_ret
  exact ⟨rfl, FIN.out, HX.out _ _ hx⟩

end Go.Proofs.Ytdhompiapklnaaa
