/-
  The law ValueLeads, walked.
-/
import Derived.Test.YtndkoefchlclkaaW7
import Derived.Test.YtndkoefchlclkaaLC
import Derived.Test.YtndkoefchlclkaaY3
import Derived.BigQuiet
namespace Go.Proofs.Ytndkoefchlclkaa
open Go.RowKit
attribute [local go_sem ↓] eqV neV eqG

/-- Values in blocks, and what lies below. -/
structure BL (w0 : World) (l : List (Nat × Int × Int × ByteArray)) (w : World) : Prop where
  all : ∀ x ∈ l, Blk w x.1 23 #[.int .i64 x.2.1, .int .i64 x.2.2.1, .string x.2.2.2]
  bel : Below w0.heap.size w0 w
section
variable {w0 w w' : World} {l : List (Nat × Int × Int × ByteArray)}
theorem BL.on (h : BL w0 l w) (hb : Below w.heap.size w w') : BL w0 l w' := ⟨fun x hx => (h.all x hx).below hb (h.all x hx).lt, h.bel.trans (hb.mono h.bel.size)⟩
theorem BL.new (h : BL w0 l w) (k n : Int) (s : ByteArray) : BL w0 ((w.heap.size, k, n, s) :: l) (w.alloc (.cells #[.int .i64 k, .int .i64 n, .string s] 23)) :=
  ⟨fun x hx => by
    rcases List.mem_cons.1 hx with rfl | hx
    · exact Blk.new _ _ _
    · exact (h.all x hx).alloc _, h.bel.alloc h.bel.size _⟩
theorem BL.cells {g : Nat} {k n : Int} {s : ByteArray} (h : BL w0 l w) (hx : (g, k, n, s) ∈ l) : w.cell? ⟨g, 0, none⟩ = some (.int .i64 k) ∧ w.cell? ⟨g, 1, none⟩ = some (.int .i64 n) ∧ w.cell? ⟨g, 2, none⟩ = some (.string s) :=
  ⟨(h.all _ hx).cell 0, (h.all _ hx).cell 1, (h.all _ hx).cell 2⟩
end

theorem askd3 (op a b : Int) (o1 : 1 ≤ op) (o2 : op < 6) : askd op 6 3 a E0 3 b E0 = 0 := by
  have r1 : Rt 3 a E0 = true := decide_eq_true (.inr (.inr (.inl ⟨rfl, rfl⟩)))
  have r2 : Rt 3 b E0 = true := decide_eq_true (.inr (.inr (.inl ⟨rfl, rfl⟩)))
  unfold askd chk
  rw [if_neg (by omega), if_pos r1, if_pos r2]
theorem reck3 (op a b : Int) (w : World) (o1 : 1 ≤ op) (o2 : op < 6) (ha : I64 a) (hb : I64 b) :
    Calls Try.prog 23 #[.int .i64 op, .agg #[.int .i64 3, .int .i64 a, .string E0], .agg #[.int .i64 3, .int .i64 b, .string E0]] w (Told3 w (if rkE op a b = 0 then 3 else 0) (if rkE op a b = 0 then rkV op a b else 0) (rkE op a b)) := by
  have h := reckon_any op 3 a E0 3 b E0 w ha hb
  have h0 := askd3 op a b o1 o2
  have h0' : ¬ (askd op 6 3 a E0 3 b E0 ≠ 0) := fun h => h h0
  have q : ¬ (¬ ((3 : Int) = 1 ∨ (3 : Int) = 3) ∨ ¬ ((3 : Int) = 1 ∨ (3 : Int) = 3)) := by omega
  have q2 : ¬ ((3 : Int) = 1 ∨ (3 : Int) = 1) := by omega
  unfold recK recN recE at h
  rw [if_neg h0', if_neg h0', if_neg h0', if_neg q, if_neg q, if_neg q, if_neg q2, if_neg q2, if_neg q2] at h
  exact h
theorem reck_yes (op a b m : Int) (o1 : 1 ≤ op) (o2 : op < 6) (ha : I64 a) (hb : I64 b) (he : rkE op a b = 0) (hv : rkV op a b = m) (w : World) :
    Calls Try.prog 23 #[.int .i64 op, .agg #[.int .i64 3, .int .i64 a, .string E0], .agg #[.int .i64 3, .int .i64 b, .string E0]] w (Told3 w 3 m 0) := by
  have h := reck3 op a b w o1 o2 ha hb
  rw [he, hv] at h
  exact h
theorem reck_no (op a b er : Int) (o1 : 1 ≤ op) (o2 : op < 6) (ha : I64 a) (hb : I64 b) (he : rkE op a b = er) (h0 : er ≠ 0) (w : World) :
    Calls Try.prog 23 #[.int .i64 op, .agg #[.int .i64 3, .int .i64 a, .string E0], .agg #[.int .i64 3, .int .i64 b, .string E0]] w (Told3 w 0 0 er) := by
  have h := reck3 op a b w o1 o2 ha hb
  rw [he, if_neg h0, if_neg h0] at h
  exact h

theorem de_morgan (t u : Int) : tnot (tand t u) = tor (tnot t) (tnot u) ∧ tnot (tor t u) = tand (tnot t) (tnot u) := by
  unfold tnot tand tor
  by_cases h0 : t = 0 <;> by_cases h1 : t = 1 <;> by_cases g0 : u = 0 <;> by_cases g1 : u = 1 <;> simp_all

theorem lead_add (a b : Int) (ha : I64 a) (hb : I64 b) :
    (Hid (∀ w, Calls Try.prog 23 #[.int .i64 1, .agg #[.int .i64 3, .int .i64 a, .string E0], .agg #[.int .i64 3, .int .i64 b, .string E0]] w (Told3 w 3 (a + b) 0)) ∧
      Hid (∀ w, Calls Try.prog 23 #[.int .i64 2, .agg #[.int .i64 3, .int .i64 (a + b), .string E0], .agg #[.int .i64 3, .int .i64 b, .string E0]] w (Told3 w 3 a 0))) ∨
    Hid (∀ w, Calls Try.prog 23 #[.int .i64 1, .agg #[.int .i64 3, .int .i64 a, .string E0], .agg #[.int .i64 3, .int .i64 b, .string E0]] w (Told3 w 0 0 151)) := by
  by_cases h : I64 (a + b)
  · refine .inl ⟨fun w => reck_yes 1 a b (a + b) (by omega) (by omega) ha hb (if_pos h) (if_pos h) w, fun w => reck_yes 2 (a + b) b a (by omega) (by omega) h hb ?_ ?_ w⟩
    · show ovE (a + b - b) = 0
      rw [Int.add_sub_cancel]
      exact if_pos ha
    · show ovN (a + b - b) = a
      rw [Int.add_sub_cancel]
      exact if_pos ha
  · exact .inr fun w => reck_no 1 a b 151 (by omega) (by omega) ha hb (if_neg h) (by omega) w

theorem lead_ways (a b : Int) (ha : I64 a) (hb : I64 b) :
    (b = 0 ∧ Hid (∀ w, Calls Try.prog 23 #[.int .i64 4, .agg #[.int .i64 3, .int .i64 a, .string E0], .agg #[.int .i64 3, .int .i64 b, .string E0]] w (Told3 w 0 0 152)) ∧
      Hid (∀ w, Calls Try.prog 23 #[.int .i64 5, .agg #[.int .i64 3, .int .i64 a, .string E0], .agg #[.int .i64 3, .int .i64 b, .string E0]] w (Told3 w 0 0 152))) ∨
    (b ≠ 0 ∧ b = -1 ∧ Hid (∀ w, Calls Try.prog 23 #[.int .i64 4, .agg #[.int .i64 3, .int .i64 a, .string E0], .agg #[.int .i64 3, .int .i64 b, .string E0]] w (Told3 w 0 0 151)) ∧
      Hid (∀ w, Calls Try.prog 23 #[.int .i64 5, .agg #[.int .i64 3, .int .i64 a, .string E0], .agg #[.int .i64 3, .int .i64 b, .string E0]] w (Told3 w 3 (a.tmod b) 0))) ∨
    (b ≠ 0 ∧ Hid (∀ w, Calls Try.prog 23 #[.int .i64 4, .agg #[.int .i64 3, .int .i64 a, .string E0], .agg #[.int .i64 3, .int .i64 b, .string E0]] w (Told3 w 3 (a.tdiv b) 0)) ∧
      Hid (∀ w, Calls Try.prog 23 #[.int .i64 5, .agg #[.int .i64 3, .int .i64 a, .string E0], .agg #[.int .i64 3, .int .i64 b, .string E0]] w (Told3 w 3 (a.tmod b) 0)) ∧
      Hid (∀ w, Calls Try.prog 23 #[.int .i64 3, .agg #[.int .i64 3, .int .i64 (a.tdiv b), .string E0], .agg #[.int .i64 3, .int .i64 b, .string E0]] w (Told3 w 3 (a.tdiv b * b) 0)) ∧
      Hid (∀ w, Calls Try.prog 23 #[.int .i64 1, .agg #[.int .i64 3, .int .i64 (a.tdiv b * b), .string E0], .agg #[.int .i64 3, .int .i64 (a.tmod b), .string E0]] w (Told3 w 3 a 0)) ∧
      Hid ((a.tmod b < 0 ∧ ¬ 0 < a.tmod b ∧ ¬ 0 ≤ a) ∨ (¬ a.tmod b < 0 ∧ ¬ 0 < a.tmod b) ∨ (¬ a.tmod b < 0 ∧ 0 < a.tmod b ∧ ¬ a ≤ 0))) := by
  have hab : Hid (I64 a ∧ I64 b) := ⟨ha, hb⟩
  unfold I64 at ha hb
  by_cases h0 : b = 0
  · subst h0
    exact .inl ⟨rfl, fun w => reck_no 4 a 0 152 (by omega) (by omega) hab.out.1 hab.out.2 rfl (by omega) w, fun w => reck_no 5 a 0 152 (by omega) (by omega) hab.out.1 hab.out.2 rfl (by omega) w⟩
  have hm := tmod_sz a b
  have hlt : a.natAbs % b.natAbs < b.natAbs := Nat.mod_lt _ (by omega)
  have hle : a.natAbs % b.natAbs ≤ a.natAbs := Nat.mod_le _ _
  have he := Int.tdiv_mul_add_tmod a b
  generalize a.natAbs % b.natAbs = q at *
  have hsg : Hid ((a.tmod b < 0 ∧ ¬ 0 < a.tmod b ∧ ¬ 0 ≤ a) ∨ (¬ a.tmod b < 0 ∧ ¬ 0 < a.tmod b) ∨ (¬ a.tmod b < 0 ∧ 0 < a.tmod b ∧ ¬ a ≤ 0)) := show _ ∨ _ ∨ _ by
    by_cases h3 : a < 0
    · rw [if_pos h3] at hm
      omega
    · rw [if_neg h3] at hm
      omega
  have hmI : I64 (a.tmod b) := by
    unfold I64
    split at hm <;> omega
  have hqb : I64 (a.tdiv b * b) := by
    unfold I64
    generalize a.tdiv b * b = P at *
    split at hm <;> omega
  have hrem := Lib.hid (fun w => reck_yes 5 a b (a.tmod b) (by omega) (by omega) hab.out.1 hab.out.2 (by show (if b = 0 then _ else 0) = _; rw [if_neg h0]) (by show (if b = 0 then _ else if (5 : Int) = 4 then _ else _) = _; rw [if_neg h0]; rfl) w)
  by_cases hI : I64 (a.tdiv b)
  · refine .inr (.inr ⟨h0, fun w => reck_yes 4 a b (a.tdiv b) (by omega) (by omega) hab.out.1 hab.out.2 ?_ ?_ w, hrem, fun w => reck_yes 3 (a.tdiv b) b (a.tdiv b * b) (by omega) (by omega) hI hab.out.2 ?_ ?_ w, fun w => reck_yes 1 (a.tdiv b * b) (a.tmod b) a (by omega) (by omega) ?_ hmI ?_ ?_ w, hsg⟩)
    · show (if b = 0 then _ else ovE (a.tdiv b)) = _
      rw [if_neg h0]; exact if_pos hI
    · show (if b = 0 then _ else ovN (a.tdiv b)) = _
      rw [if_neg h0]; exact if_pos hI
    · exact if_pos hqb
    · exact if_pos hqb
    · exact hqb
    · show ovE (a.tdiv b * b + a.tmod b) = 0
      rw [he]; exact if_pos hab.out.1
    · show ovN (a.tdiv b * b + a.tmod b) = a
      rw [he]; exact if_pos hab.out.1
  · refine .inr (.inl ⟨h0, ?_, fun w => reck_no 4 a b 151 (by omega) (by omega) hab.out.1 hab.out.2 ?_ (by omega) w, hrem⟩)
    · obtain ⟨q', hq0, hq1, hq⟩ := tdiv_cases a b h0
      by_cases h1 : b = -1
      · exact h1
      · exfalso
        apply hI
        unfold I64
        by_cases h2 : b = 1
        · subst h2
          rw [show (1 : Int).natAbs = 1 from rfl, Nat.div_one] at hq0
          omega
        · have h3 : q' ≤ a.natAbs / 2 := by rw [hq0]; exact Nat.div_le_div_left (by omega) (by omega)
          omega
    · show (if b = 0 then _ else ovE (a.tdiv b)) = _
      rw [if_neg h0]; exact if_neg hI

set_option maxRecDepth 100000 in
set_option maxHeartbeats 4000000 in
theorem leads_walk (a b t u : Int) (w : World) (ha : -9223372036854775808 ≤ a ∧ a ≤ 9223372036854775807) (hb : -9223372036854775808 ≤ b ∧ b ≤ 9223372036854775807) :
    Calls Try.prog 10 #[.int .i64 a, .int .i64 b, .agg #[.int .i64 t, .int .i64 u]] w fun e w' => e = .returned (.bool true) ∧ Below w.heap.size w w' := by
  have B0 : BL w [] (w.alloc (.cells #[.int .i64 t, .int .i64 u] 55)) := ⟨fun x hx => absurd hx (by simp), (Below.refl _ w).alloc (Nat.le_refl _) _⟩
  have X0 : Hid (Blk (w.alloc (.cells #[.int .i64 t, .int .i64 u] 55)) w.heap.size 55 #[.int .i64 t, .int .i64 u]) := Blk.new _ _ _
  have HA := Lib.hid ha
  have HB := Lib.hid hb
  clear ha hb
  go_enter Try.func10, Try.ntmps10
  go_upto_region 1 with (fail)
  generalize w.alloc (.cells #[.int .i64 t, .int .i64 u] 55) = W0 at *
  go_wp2_with fail
  refine (wakes_any _).mono ?_
  rintro e w1 ⟨rfl, hb⟩
  have B1 := B0.on hb
  have X1 := Lib.hid (X0.out.below hb X0.out.lt)
  clear hb B0 X0
  have c0 := X1.out.cell 0
  have c1 := X1.out.cell 1
  go_wp2_with fail
  go_quiet (fail)
  generalize hq : w1.drewN _ = w2
  have B2 : BL w [] w2 := by subst hq; exact ⟨B1.all, B1.bel.trans ⟨rfl, rfl, rfl, Nat.le_refl _, fun _ _ => rfl⟩⟩
  clear hq B1 X1 c0 c1
  go_wp2_with fail
  refine (int_any _ _).mono ?_
  rintro e w3 ⟨rfl, hb⟩
  have B3 := B2.on hb
  clear hb B2
  go_wp2_with fail
  refine (int_any _ _).mono ?_
  rintro e w4 ⟨rfl, hb⟩
  have B4 := B3.on hb
  clear hb B3
  go_upto_region 5 with (fail)
  have B5 : BL w [(w4.heap.size + 1, 3, b, E0), (w4.heap.size, 3, a, E0)] ((w4.alloc (.cells #[.int .i64 3, .int .i64 a, .string E0] 23)).alloc (.cells #[.int .i64 3, .int .i64 b, .string E0] 23)) := by
    have := (B4.new 3 a E0).new 3 b E0
    simpa using this
  clear B4
  generalize (w4.alloc (.cells #[.int .i64 3, .int .i64 a, .string E0] 23)).alloc (.cells #[.int .i64 3, .int .i64 b, .string E0] 23) = w5 at *
  generalize w4.heap.size = g at *
  obtain ⟨x0, x1, x2⟩ := B5.cells (g := g) (k := 3) (n := a) (s := E0) (by simp)
  obtain ⟨y0, y1, y2⟩ := B5.cells (g := g + 1) (k := 3) (n := b) (s := E0) (by simp)
  have HW := Lib.hid (lead_ways a b HA.out HB.out)
  have hdm := de_morgan t u
  have dm1 : (tnot (tand t u) == tor (tnot t) (tnot u)) = true := by rw [hdm.1]; simp
  have dm2 : (tnot (tor t u) == tand (tnot t) (tnot u)) = true := by rw [hdm.2]; simp
  have ea := eqv_self 3 a E0
  clear hdm
  rcases (Lib.hid (lead_add a b HA.out HB.out)).out with ⟨HP, HQ⟩ | HP
  · go_wp2_with fail
    refine (HP.out _).mono ?_
    rintro e w6 ⟨rfl, hb⟩
    have B6 := B5.on hb
    clear hb B5 x0 x1 x2 y0 y1 y2
    go_upto_region 6 with (fail)
    have B7 := B6.new 3 (a + b) E0
    clear B6
    generalize w6.alloc (.cells #[.int .i64 3, .int .i64 (a + b), .string E0] 23) = w7 at *
    generalize w6.heap.size = gp at *
    obtain ⟨x0, x1, x2⟩ := B7.cells (g := g) (k := 3) (n := a) (s := E0) (by simp)
    obtain ⟨y0, y1, y2⟩ := B7.cells (g := g + 1) (k := 3) (n := b) (s := E0) (by simp)
    obtain ⟨p0, p1, p2⟩ := B7.cells (g := gp) (k := 3) (n := (a + b)) (s := E0) (by simp)
    go_wp2_with fail
    refine (HQ.out _).mono ?_
    rintro e w8 ⟨rfl, hb⟩
    have B8 := B7.on hb
    clear hb B7 x0 x1 x2 y0 y1 y2 p0 p1 p2
    go_upto_region 8 with (fail)
    have B9 := B8.new 3 a E0
    clear B8
    generalize w8.alloc (.cells #[.int .i64 3, .int .i64 a, .string E0] 23) = w9 at *
    generalize w8.heap.size = gd at *
    obtain ⟨x0, x1, x2⟩ := B9.cells (g := g) (k := 3) (n := a) (s := E0) (by simp)
    obtain ⟨d0, d1, d2⟩ := B9.cells (g := gd) (k := 3) (n := a) (s := E0) (by simp)
    go_upto_region 10 with (fail)
    clear x0 x1 x2 d0 d1 d2
    rcases HW.out with ⟨hz, HD, HR⟩ | ⟨hz, hn1, HD, HR⟩ | ⟨hz, HD, HR, HM, HS, hs⟩
    · have hz0 : (b != 0) = false := by rw [hz]; rfl
      clear hz
      clear HW
      obtain ⟨x0, x1, x2⟩ := B9.cells (g := g) (k := 3) (n := a) (s := E0) (by simp)
      obtain ⟨y0, y1, y2⟩ := B9.cells (g := g + 1) (k := 3) (n := b) (s := E0) (by simp)
      go_wp2_with fail
      refine (HD.out _).mono ?_
      rintro e w10 ⟨rfl, hb⟩
      have B10 := B9.on hb
      clear hb B9 x0 x1 x2 y0 y1 y2
      go_upto_region 11 with (fail)
      have B11 := B10.new 0 0 E0
      clear B10
      generalize w10.alloc (.cells #[.int .i64 0, .int .i64 0, .string E0] 23) = w11 at *
      generalize w10.heap.size = gq at *
      obtain ⟨x0, x1, x2⟩ := B11.cells (g := g) (k := 3) (n := a) (s := E0) (by simp)
      obtain ⟨y0, y1, y2⟩ := B11.cells (g := g + 1) (k := 3) (n := b) (s := E0) (by simp)
      go_wp2_with fail
      refine (HR.out _).mono ?_
      rintro e w12 ⟨rfl, hb⟩
      have B12 := B11.on hb
      clear hb B11 x0 x1 x2 y0 y1 y2
      go_upto_region 12 with (fail)
      have B13 := B12.new 0 0 E0
      clear B12
      generalize w12.alloc (.cells #[.int .i64 0, .int .i64 0, .string E0] 23) = w13 at *
      generalize w12.heap.size = gr at *
      obtain ⟨x0, x1, x2⟩ := B13.cells (g := g) (k := 3) (n := a) (s := E0) (by simp)
      obtain ⟨y0, y1, y2⟩ := B13.cells (g := g + 1) (k := 3) (n := b) (s := E0) (by simp)
      go_wp2_with (first
        | (go_at_call 25; refine (And_any _ _ _).mono ?_; rintro e w' ⟨rfl, rfl⟩)
        | (go_at_call 27; refine (Or_any _ _ _).mono ?_; rintro e w' ⟨rfl, rfl⟩)
        | (go_at_call 29; refine (Not_any _ _).mono ?_; rintro e w' ⟨rfl, rfl⟩))
      go_ret
      exact ⟨rfl, B13.bel⟩
    · have hz0 : (b != 0) = true := by simp [hz]
      have hn2 : (b != (-1)) = false := by rw [hn1]; rfl
      clear hz hn1
      clear HW
      obtain ⟨x0, x1, x2⟩ := B9.cells (g := g) (k := 3) (n := a) (s := E0) (by simp)
      obtain ⟨y0, y1, y2⟩ := B9.cells (g := g + 1) (k := 3) (n := b) (s := E0) (by simp)
      go_wp2_with fail
      refine (HD.out _).mono ?_
      rintro e w10 ⟨rfl, hb⟩
      have B10 := B9.on hb
      clear hb B9 x0 x1 x2 y0 y1 y2
      go_upto_region 11 with (fail)
      have B11 := B10.new 0 0 E0
      clear B10
      generalize w10.alloc (.cells #[.int .i64 0, .int .i64 0, .string E0] 23) = w11 at *
      generalize w10.heap.size = gq at *
      obtain ⟨x0, x1, x2⟩ := B11.cells (g := g) (k := 3) (n := a) (s := E0) (by simp)
      obtain ⟨y0, y1, y2⟩ := B11.cells (g := g + 1) (k := 3) (n := b) (s := E0) (by simp)
      go_wp2_with fail
      refine (HR.out _).mono ?_
      rintro e w12 ⟨rfl, hb⟩
      have B12 := B11.on hb
      clear hb B11 x0 x1 x2 y0 y1 y2
      go_upto_region 12 with (fail)
      have B13 := B12.new 3 (a.tmod b) E0
      clear B12
      generalize w12.alloc (.cells #[.int .i64 3, .int .i64 (a.tmod b), .string E0] 23) = w13 at *
      generalize w12.heap.size = gr at *
      obtain ⟨x0, x1, x2⟩ := B13.cells (g := g) (k := 3) (n := a) (s := E0) (by simp)
      obtain ⟨y0, y1, y2⟩ := B13.cells (g := g + 1) (k := 3) (n := b) (s := E0) (by simp)
      go_wp2_with (first
        | (go_at_call 25; refine (And_any _ _ _).mono ?_; rintro e w' ⟨rfl, rfl⟩)
        | (go_at_call 27; refine (Or_any _ _ _).mono ?_; rintro e w' ⟨rfl, rfl⟩)
        | (go_at_call 29; refine (Not_any _ _).mono ?_; rintro e w' ⟨rfl, rfl⟩))
      go_ret
      exact ⟨rfl, B13.bel⟩
    · clear hz
      clear HW
      obtain ⟨x0, x1, x2⟩ := B9.cells (g := g) (k := 3) (n := a) (s := E0) (by simp)
      obtain ⟨y0, y1, y2⟩ := B9.cells (g := g + 1) (k := 3) (n := b) (s := E0) (by simp)
      go_wp2_with fail
      refine (HD.out _).mono ?_
      rintro e w10 ⟨rfl, hb⟩
      have B10 := B9.on hb
      clear hb B9 x0 x1 x2 y0 y1 y2
      go_upto_region 11 with (fail)
      have B11 := B10.new 3 (a.tdiv b) E0
      clear B10
      generalize w10.alloc (.cells #[.int .i64 3, .int .i64 (a.tdiv b), .string E0] 23) = w11 at *
      generalize w10.heap.size = gq at *
      obtain ⟨x0, x1, x2⟩ := B11.cells (g := g) (k := 3) (n := a) (s := E0) (by simp)
      obtain ⟨y0, y1, y2⟩ := B11.cells (g := g + 1) (k := 3) (n := b) (s := E0) (by simp)
      go_wp2_with fail
      refine (HR.out _).mono ?_
      rintro e w12 ⟨rfl, hb⟩
      have B12 := B11.on hb
      clear hb B11 x0 x1 x2 y0 y1 y2
      go_upto_region 12 with (fail)
      have B13 := B12.new 3 (a.tmod b) E0
      clear B12
      generalize w12.alloc (.cells #[.int .i64 3, .int .i64 (a.tmod b), .string E0] 23) = w13 at *
      generalize w12.heap.size = gr at *
      obtain ⟨x0, x1, x2⟩ := B13.cells (g := g) (k := 3) (n := a) (s := E0) (by simp)
      obtain ⟨y0, y1, y2⟩ := B13.cells (g := g + 1) (k := 3) (n := b) (s := E0) (by simp)
      obtain ⟨q0, q1, q2⟩ := B13.cells (g := gq) (k := 3) (n := (a.tdiv b)) (s := E0) (by simp)
      go_wp2_with fail
      refine (HM.out _).mono ?_
      rintro e w14 ⟨rfl, hb⟩
      have B14 := B13.on hb
      clear hb B13 x0 x1 x2 y0 y1 y2 q0 q1 q2
      go_upto_region 14 with (fail)
      have B15 := B14.new 3 (a.tdiv b * b) E0
      clear B14
      generalize w14.alloc (.cells #[.int .i64 3, .int .i64 (a.tdiv b * b), .string E0] 23) = w15 at *
      generalize w14.heap.size = gm at *
      obtain ⟨x0, x1, x2⟩ := B15.cells (g := g) (k := 3) (n := a) (s := E0) (by simp)
      obtain ⟨y0, y1, y2⟩ := B15.cells (g := g + 1) (k := 3) (n := b) (s := E0) (by simp)
      obtain ⟨m0, m1, m2⟩ := B15.cells (g := gm) (k := 3) (n := (a.tdiv b * b)) (s := E0) (by simp)
      obtain ⟨r0, r1, r2⟩ := B15.cells (g := gr) (k := 3) (n := (a.tmod b)) (s := E0) (by simp)
      go_wp2_with fail
      refine (HS.out _).mono ?_
      rintro e w16 ⟨rfl, hb⟩
      have B16 := B15.on hb
      clear hb B15 x0 x1 x2 y0 y1 y2 m0 m1 m2 r0 r1 r2
      go_upto_region 15 with (fail)
      have B17 := B16.new 3 a E0
      clear B16
      generalize w16.alloc (.cells #[.int .i64 3, .int .i64 a, .string E0] 23) = w17 at *
      generalize w16.heap.size = gs at *
      obtain ⟨x0, x1, x2⟩ := B17.cells (g := g) (k := 3) (n := a) (s := E0) (by simp)
      obtain ⟨y0, y1, y2⟩ := B17.cells (g := g + 1) (k := 3) (n := b) (s := E0) (by simp)
      obtain ⟨r0, r1, r2⟩ := B17.cells (g := gr) (k := 3) (n := (a.tmod b)) (s := E0) (by simp)
      obtain ⟨s0, s1, s2⟩ := B17.cells (g := gs) (k := 3) (n := a) (s := E0) (by simp)
      have es := eqv_self 3 a E0
      rcases hs.out with ⟨p1, p2, p3⟩ | ⟨p1, p2⟩ | ⟨p1, p2, p3⟩
      · clear hs
        go_wp2_with (first
          | (go_at_call 25; refine (And_any _ _ _).mono ?_; rintro e w' ⟨rfl, rfl⟩)
          | (go_at_call 27; refine (Or_any _ _ _).mono ?_; rintro e w' ⟨rfl, rfl⟩)
          | (go_at_call 29; refine (Not_any _ _).mono ?_; rintro e w' ⟨rfl, rfl⟩))
        go_ret
        exact ⟨rfl, B17.bel⟩
      · clear hs
        go_wp2_with (first
          | (go_at_call 25; refine (And_any _ _ _).mono ?_; rintro e w' ⟨rfl, rfl⟩)
          | (go_at_call 27; refine (Or_any _ _ _).mono ?_; rintro e w' ⟨rfl, rfl⟩)
          | (go_at_call 29; refine (Not_any _ _).mono ?_; rintro e w' ⟨rfl, rfl⟩))
        go_ret
        exact ⟨rfl, B17.bel⟩
      · have p4 : decide (a ≤ 0) = false := decide_eq_false (by omega)
        clear hs p3
        go_wp2_with (first
          | (go_at_call 25; refine (And_any _ _ _).mono ?_; rintro e w' ⟨rfl, rfl⟩)
          | (go_at_call 27; refine (Or_any _ _ _).mono ?_; rintro e w' ⟨rfl, rfl⟩)
          | (go_at_call 29; refine (Not_any _ _).mono ?_; rintro e w' ⟨rfl, rfl⟩))
        go_ret
        exact ⟨rfl, B17.bel⟩
  · go_wp2_with fail
    refine (HP.out _).mono ?_
    rintro e w6 ⟨rfl, hb⟩
    have B6 := B5.on hb
    clear hb B5 x0 x1 x2 y0 y1 y2
    go_upto_region 6 with (fail)
    have B7 := B6.new 0 0 E0
    clear B6
    generalize w6.alloc (.cells #[.int .i64 0, .int .i64 0, .string E0] 23) = w7 at *
    generalize w6.heap.size = gp at *
    go_upto_region 10 with (fail)
    rcases HW.out with ⟨hz, HD, HR⟩ | ⟨hz, hn1, HD, HR⟩ | ⟨hz, HD, HR, HM, HS, hs⟩
    · have hz0 : (b != 0) = false := by rw [hz]; rfl
      clear hz
      clear HW
      obtain ⟨x0, x1, x2⟩ := B7.cells (g := g) (k := 3) (n := a) (s := E0) (by simp)
      obtain ⟨y0, y1, y2⟩ := B7.cells (g := g + 1) (k := 3) (n := b) (s := E0) (by simp)
      go_wp2_with fail
      refine (HD.out _).mono ?_
      rintro e w8 ⟨rfl, hb⟩
      have B8 := B7.on hb
      clear hb B7 x0 x1 x2 y0 y1 y2
      go_upto_region 11 with (fail)
      have B9 := B8.new 0 0 E0
      clear B8
      generalize w8.alloc (.cells #[.int .i64 0, .int .i64 0, .string E0] 23) = w9 at *
      generalize w8.heap.size = gq at *
      obtain ⟨x0, x1, x2⟩ := B9.cells (g := g) (k := 3) (n := a) (s := E0) (by simp)
      obtain ⟨y0, y1, y2⟩ := B9.cells (g := g + 1) (k := 3) (n := b) (s := E0) (by simp)
      go_wp2_with fail
      refine (HR.out _).mono ?_
      rintro e w10 ⟨rfl, hb⟩
      have B10 := B9.on hb
      clear hb B9 x0 x1 x2 y0 y1 y2
      go_upto_region 12 with (fail)
      have B11 := B10.new 0 0 E0
      clear B10
      generalize w10.alloc (.cells #[.int .i64 0, .int .i64 0, .string E0] 23) = w11 at *
      generalize w10.heap.size = gr at *
      obtain ⟨x0, x1, x2⟩ := B11.cells (g := g) (k := 3) (n := a) (s := E0) (by simp)
      obtain ⟨y0, y1, y2⟩ := B11.cells (g := g + 1) (k := 3) (n := b) (s := E0) (by simp)
      go_wp2_with (first
        | (go_at_call 25; refine (And_any _ _ _).mono ?_; rintro e w' ⟨rfl, rfl⟩)
        | (go_at_call 27; refine (Or_any _ _ _).mono ?_; rintro e w' ⟨rfl, rfl⟩)
        | (go_at_call 29; refine (Not_any _ _).mono ?_; rintro e w' ⟨rfl, rfl⟩))
      go_ret
      exact ⟨rfl, B11.bel⟩
    · have hz0 : (b != 0) = true := by simp [hz]
      have hn2 : (b != (-1)) = false := by rw [hn1]; rfl
      clear hz hn1
      clear HW
      obtain ⟨x0, x1, x2⟩ := B7.cells (g := g) (k := 3) (n := a) (s := E0) (by simp)
      obtain ⟨y0, y1, y2⟩ := B7.cells (g := g + 1) (k := 3) (n := b) (s := E0) (by simp)
      go_wp2_with fail
      refine (HD.out _).mono ?_
      rintro e w8 ⟨rfl, hb⟩
      have B8 := B7.on hb
      clear hb B7 x0 x1 x2 y0 y1 y2
      go_upto_region 11 with (fail)
      have B9 := B8.new 0 0 E0
      clear B8
      generalize w8.alloc (.cells #[.int .i64 0, .int .i64 0, .string E0] 23) = w9 at *
      generalize w8.heap.size = gq at *
      obtain ⟨x0, x1, x2⟩ := B9.cells (g := g) (k := 3) (n := a) (s := E0) (by simp)
      obtain ⟨y0, y1, y2⟩ := B9.cells (g := g + 1) (k := 3) (n := b) (s := E0) (by simp)
      go_wp2_with fail
      refine (HR.out _).mono ?_
      rintro e w10 ⟨rfl, hb⟩
      have B10 := B9.on hb
      clear hb B9 x0 x1 x2 y0 y1 y2
      go_upto_region 12 with (fail)
      have B11 := B10.new 3 (a.tmod b) E0
      clear B10
      generalize w10.alloc (.cells #[.int .i64 3, .int .i64 (a.tmod b), .string E0] 23) = w11 at *
      generalize w10.heap.size = gr at *
      obtain ⟨x0, x1, x2⟩ := B11.cells (g := g) (k := 3) (n := a) (s := E0) (by simp)
      obtain ⟨y0, y1, y2⟩ := B11.cells (g := g + 1) (k := 3) (n := b) (s := E0) (by simp)
      go_wp2_with (first
        | (go_at_call 25; refine (And_any _ _ _).mono ?_; rintro e w' ⟨rfl, rfl⟩)
        | (go_at_call 27; refine (Or_any _ _ _).mono ?_; rintro e w' ⟨rfl, rfl⟩)
        | (go_at_call 29; refine (Not_any _ _).mono ?_; rintro e w' ⟨rfl, rfl⟩))
      go_ret
      exact ⟨rfl, B11.bel⟩
    · clear hz
      clear HW
      obtain ⟨x0, x1, x2⟩ := B7.cells (g := g) (k := 3) (n := a) (s := E0) (by simp)
      obtain ⟨y0, y1, y2⟩ := B7.cells (g := g + 1) (k := 3) (n := b) (s := E0) (by simp)
      go_wp2_with fail
      refine (HD.out _).mono ?_
      rintro e w8 ⟨rfl, hb⟩
      have B8 := B7.on hb
      clear hb B7 x0 x1 x2 y0 y1 y2
      go_upto_region 11 with (fail)
      have B9 := B8.new 3 (a.tdiv b) E0
      clear B8
      generalize w8.alloc (.cells #[.int .i64 3, .int .i64 (a.tdiv b), .string E0] 23) = w9 at *
      generalize w8.heap.size = gq at *
      obtain ⟨x0, x1, x2⟩ := B9.cells (g := g) (k := 3) (n := a) (s := E0) (by simp)
      obtain ⟨y0, y1, y2⟩ := B9.cells (g := g + 1) (k := 3) (n := b) (s := E0) (by simp)
      go_wp2_with fail
      refine (HR.out _).mono ?_
      rintro e w10 ⟨rfl, hb⟩
      have B10 := B9.on hb
      clear hb B9 x0 x1 x2 y0 y1 y2
      go_upto_region 12 with (fail)
      have B11 := B10.new 3 (a.tmod b) E0
      clear B10
      generalize w10.alloc (.cells #[.int .i64 3, .int .i64 (a.tmod b), .string E0] 23) = w11 at *
      generalize w10.heap.size = gr at *
      obtain ⟨x0, x1, x2⟩ := B11.cells (g := g) (k := 3) (n := a) (s := E0) (by simp)
      obtain ⟨y0, y1, y2⟩ := B11.cells (g := g + 1) (k := 3) (n := b) (s := E0) (by simp)
      obtain ⟨q0, q1, q2⟩ := B11.cells (g := gq) (k := 3) (n := (a.tdiv b)) (s := E0) (by simp)
      go_wp2_with fail
      refine (HM.out _).mono ?_
      rintro e w12 ⟨rfl, hb⟩
      have B12 := B11.on hb
      clear hb B11 x0 x1 x2 y0 y1 y2 q0 q1 q2
      go_upto_region 14 with (fail)
      have B13 := B12.new 3 (a.tdiv b * b) E0
      clear B12
      generalize w12.alloc (.cells #[.int .i64 3, .int .i64 (a.tdiv b * b), .string E0] 23) = w13 at *
      generalize w12.heap.size = gm at *
      obtain ⟨x0, x1, x2⟩ := B13.cells (g := g) (k := 3) (n := a) (s := E0) (by simp)
      obtain ⟨y0, y1, y2⟩ := B13.cells (g := g + 1) (k := 3) (n := b) (s := E0) (by simp)
      obtain ⟨m0, m1, m2⟩ := B13.cells (g := gm) (k := 3) (n := (a.tdiv b * b)) (s := E0) (by simp)
      obtain ⟨r0, r1, r2⟩ := B13.cells (g := gr) (k := 3) (n := (a.tmod b)) (s := E0) (by simp)
      go_wp2_with fail
      refine (HS.out _).mono ?_
      rintro e w14 ⟨rfl, hb⟩
      have B14 := B13.on hb
      clear hb B13 x0 x1 x2 y0 y1 y2 m0 m1 m2 r0 r1 r2
      go_upto_region 15 with (fail)
      have B15 := B14.new 3 a E0
      clear B14
      generalize w14.alloc (.cells #[.int .i64 3, .int .i64 a, .string E0] 23) = w15 at *
      generalize w14.heap.size = gs at *
      obtain ⟨x0, x1, x2⟩ := B15.cells (g := g) (k := 3) (n := a) (s := E0) (by simp)
      obtain ⟨y0, y1, y2⟩ := B15.cells (g := g + 1) (k := 3) (n := b) (s := E0) (by simp)
      obtain ⟨r0, r1, r2⟩ := B15.cells (g := gr) (k := 3) (n := (a.tmod b)) (s := E0) (by simp)
      obtain ⟨s0, s1, s2⟩ := B15.cells (g := gs) (k := 3) (n := a) (s := E0) (by simp)
      have es := eqv_self 3 a E0
      rcases hs.out with ⟨p1, p2, p3⟩ | ⟨p1, p2⟩ | ⟨p1, p2, p3⟩
      · clear hs
        go_wp2_with (first
          | (go_at_call 25; refine (And_any _ _ _).mono ?_; rintro e w' ⟨rfl, rfl⟩)
          | (go_at_call 27; refine (Or_any _ _ _).mono ?_; rintro e w' ⟨rfl, rfl⟩)
          | (go_at_call 29; refine (Not_any _ _).mono ?_; rintro e w' ⟨rfl, rfl⟩))
        go_ret
        exact ⟨rfl, B15.bel⟩
      · clear hs
        go_wp2_with (first
          | (go_at_call 25; refine (And_any _ _ _).mono ?_; rintro e w' ⟨rfl, rfl⟩)
          | (go_at_call 27; refine (Or_any _ _ _).mono ?_; rintro e w' ⟨rfl, rfl⟩)
          | (go_at_call 29; refine (Not_any _ _).mono ?_; rintro e w' ⟨rfl, rfl⟩))
        go_ret
        exact ⟨rfl, B15.bel⟩
      · have p4 : decide (a ≤ 0) = false := decide_eq_false (by omega)
        clear hs p3
        go_wp2_with (first
          | (go_at_call 25; refine (And_any _ _ _).mono ?_; rintro e w' ⟨rfl, rfl⟩)
          | (go_at_call 27; refine (Or_any _ _ _).mono ?_; rintro e w' ⟨rfl, rfl⟩)
          | (go_at_call 29; refine (Not_any _ _).mono ?_; rintro e w' ⟨rfl, rfl⟩))
        go_ret
        exact ⟨rfl, B15.bel⟩

end Go.Proofs.Ytndkoefchlclkaa
