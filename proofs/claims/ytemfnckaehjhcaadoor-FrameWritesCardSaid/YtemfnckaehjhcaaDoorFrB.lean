/-
  Several texts in one: F6, F7a, F7b, F7c.
-/
import Derived.Test.YtemfnckaehjhcaaDoorFrA
import Derived.Test.YtemfnckaehjhcaaDoorLgB
import Derived.BigQuiet
/-
  Messages in memory; which may be: the parts of the program's Check.
-/
namespace Go.Proofs.YtemfnckaehjhcaaDoor
open Go.RowKit
attribute [local go_sem ↓] eqA neA eqGA field1

/-- The slice '.slice A n _' holds these ints, below block B. -/
def Is (w : World) (B : Nat) (A : Option Addr) (n : Nat) (xs : List Int) : Prop :=
  xs.length = n ∧ (0 < n → ∃ b o, A = some ⟨b, o, none⟩ ∧ b < B ∧ ∀ j, j < n → w.cell? ⟨b, o + j, none⟩ = some (.int .i64 (xs.getD j 0)))
section
variable {w w' : World} {B B' n : Nat} {A : Option Addr} {xs : List Int}
theorem Is.keep (h : Is w B A n xs) (hk : ∀ p : Addr, p.block < B → w'.cell? p = w.cell? p) : Is w' B A n xs :=
  ⟨h.1, fun hn => by
    obtain ⟨b, o, e, hb, hc⟩ := h.2 hn
    exact ⟨b, o, e, hb, fun j hj => (hk ⟨b, o + j, none⟩ hb).trans (hc j hj)⟩⟩
theorem Is.below (h : Is w B A n xs) (hb : Below B w w') : Is w' B A n xs := h.keep fun _ hp => hb.cell hp
theorem Is.more (h : Is w B A n xs) (hB : B ≤ B') : Is w B' A n xs := ⟨h.1, fun hn => by
    obtain ⟨b, o, e, hb, hc⟩ := h.2 hn
    exact ⟨b, o, e, by omega, hc⟩⟩
theorem Is.none_ : Is w B A 0 [] := ⟨rfl, fun h => absurd h (by omega)⟩
end

/-- A message's value: its lists below block B, its numbers in their bounds. -/
structure Mr (w : World) (B : Nat) (m : Ms) (A : Option Addr) (n c : Nat) (A1 : Option Addr) (n1 c1 : Nat) (A2 : Option Addr) (n2 c2 : Nat) : Prop where
  es : Es w B A n m.es
  nc : n ≤ c
  nil : A = none → c = 0
  n : n ≤ 1000
  mem : Is w B A1 n1 m.mem
  nc1 : n1 ≤ c1
  nil1 : A1 = none → c1 = 0
  n1 : n1 ≤ 1000
  da : By w B A2 n2 m.da
  nc2 : n2 ≤ c2
  nil2 : A2 = none → c2 = 0
  n2 : n2 ≤ 100000
  t0 : 0 ≤ m.t
  t1 : m.t < 18446744073709551616
  pi0 : 0 ≤ m.pi
  pi1 : m.pi < 18446744073709551616
  pt0 : 0 ≤ m.pt
  pt1 : m.pt < 18446744073709551616
  co0 : 0 ≤ m.co
  co1 : m.co < 18446744073709551616
theorem Es.tlt {w : World} {B n : Nat} {A : Option Addr} {es : List En} (h : Es w B A n es) : ∀ e ∈ es, 0 ≤ e.t ∧ e.t < 18446744073709551616 := by
  obtain ⟨xs, rfl, _, h3, _⟩ := h
  intro e he
  obtain ⟨x, hx, rfl⟩ := List.mem_map.1 he
  exact ⟨(h3 x hx).t0, (h3 x hx).t1⟩
section
variable {w w' : World} {B B' n c n1 c1 n2 c2 : Nat} {A A1 A2 : Option Addr} {m : Ms}
theorem Mr.below (h : Mr w B m A n c A1 n1 c1 A2 n2 c2) (hb : Below B w w') : Mr w' B m A n c A1 n1 c1 A2 n2 c2 :=
  { h with es := h.es.below hb, mem := h.mem.below hb, da := h.da.below hb }
theorem Mr.more (h : Mr w B m A n c A1 n1 c1 A2 n2 c2) (hb : B ≤ B') : Mr w B' m A n c A1 n1 c1 A2 n2 c2 :=
  { h with es := h.es.more hb, mem := h.mem.more hb, da := h.da.more hb }
theorem Mr.in_ (h : Mr w B m A n c A1 n1 c1 A2 n2 c2) : m.In :=
  ⟨h.t0, h.t1, h.pi0, h.pi1, h.pt0, h.pt1, h.co0, h.co1, fun e he => (h.es.tlt e he).2⟩
theorem Mr.lr (h : Mr w B m A n c A1 n1 c1 A2 n2 c2) : Lr w B A n c m.log := ⟨h.es, h.nc, h.nil, h.n, h.pi0, h.pi1, h.pt0, h.pt1⟩
end

theorem counting_any (k : Int) (w : World) : Calls Tryd.prog 45 #[.int .i64 k] w fun e w' => e = .returned (.int .u8 (cntg k : Int)) ∧ w = w' := by
  obtain ⟨C, hC⟩ : ∃ C, C = cntg k := ⟨_, rfl⟩
  rw [← hC]
  unfold cntg at hC
  by_cases h1 : k = 1
  · subst h1
    rw [if_pos rfl] at hC; subst hC
    go_enter Tryd.func45, Tryd.ntmps45
    go_wp2
    go_ret
    exact ⟨rfl, rfl⟩
  by_cases h2 : k = 2
  · subst h2
    rw [if_neg (by decide), if_pos rfl] at hC; subst hC
    go_enter Tryd.func45, Tryd.ntmps45
    go_wp2
    go_ret
    exact ⟨rfl, rfl⟩
  by_cases h3 : k = 3
  · subst h3
    rw [if_neg (by decide), if_neg (by decide), if_pos rfl] at hC; subst hC
    go_enter Tryd.func45, Tryd.ntmps45
    go_wp2
    go_ret
    exact ⟨rfl, rfl⟩
  by_cases h4 : k = 4
  · subst h4
    rw [if_neg (by decide), if_neg (by decide), if_neg (by decide), if_pos rfl] at hC; subst hC
    go_enter Tryd.func45, Tryd.ntmps45
    go_wp2
    go_ret
    exact ⟨rfl, rfl⟩
  by_cases h5 : k = 5
  · subst h5
    rw [if_neg (by decide), if_neg (by decide), if_neg (by decide), if_neg (by decide), if_pos rfl] at hC; subst hC
    go_enter Tryd.func45, Tryd.ntmps45
    go_wp2
    go_ret
    exact ⟨rfl, rfl⟩
  rw [if_neg h1, if_neg h2, if_neg h3, if_neg h4, if_neg h5] at hC; subst hC
  have b1 : (k == 1) = false := by simpa using h1
  have b2 : (k == 2) = false := by simpa using h2
  have b3 : (k == 3) = false := by simpa using h3
  have b4 : (k == 4) = false := by simpa using h4
  have b5 : (k == 5) = false := by simpa using h5
  clear h1 h2 h3 h4 h5
  go_enter Tryd.func45, Tryd.ntmps45
  go_wp2
  go_ret
  exact ⟨rfl, rfl⟩
theorem cntg_lt (k : Int) : cntg k < 64 := by
  rcases cntg_cases k with h | h | h | h | h | h <;> omega

theorem server_any (k : Int) (w : World) : Calls Tryd.prog 50 #[.int .i64 k] w fun e w' => e = .returned (.bool (decide (1 ≤ k) && decide (k ≤ 5))) ∧ w = w' := by
  cases h : decide (1 ≤ k) with
  | true =>
    go_enter Tryd.func50, Tryd.ntmps50
    go_wp2
    go_ret
    exact ⟨rfl, rfl⟩
  | false =>
    go_enter Tryd.func50, Tryd.ntmps50
    go_wp2
    go_ret
    exact ⟨rfl, rfl⟩

/-- The bit of a field's number. -/
theorem has_bits : ∀ c : Fin 64, ∀ k : Fin 6, (bits .and .u8 ((c.val : Int) / 2 ^ k.val) 1 == 1) = decide (c.val / 2 ^ k.val % 2 = 1) := by decide +kernel
theorem has_any (C k : Nat) (hC : C < 64) (hk : k < 6) (w : World) : Calls Tryd.prog 47 #[.int .u8 (C : Int), .int .i64 (k : Int)] w fun e w' => e = .returned (.bool (decide (C / 2 ^ k % 2 = 1))) ∧ w = w' := by
  have HB := Lib.hid (has_bits ⟨C, hC⟩ ⟨k, hk⟩)
  go_enter Tryd.func47, Tryd.ntmps47
  go_wp2
  go_ret
  exact ⟨ret_bool HB.out, rfl⟩

end Go.Proofs.YtemfnckaehjhcaaDoor

/-
  A message's box, its offer: the program's offer, offerMayBe.
-/
namespace Go.Proofs.YtemfnckaehjhcaaDoor
open Go.RowKit
attribute [local go_sem ↓] eqA neA eqGA field1

/-- A message's box: its cells at block g; all below w0's end as it was. -/
structure Bx (w0 : World) (g : Nat) (kind fr to t pi pt co : Int) (ok : Bool) (A : Option Addr) (n c : Nat) (A1 : Option Addr) (n1 c1 : Nat) (A2 : Option Addr) (n2 c2 : Nat) (w : World) : Prop where
  blk : Blk w g 31 #[.int .i64 kind, .int .i64 fr, .int .i64 to, .int .u64 t, .int .u64 pi, .int .u64 pt, .slice A n c, .int .u64 co, .bool ok, .slice A1 n1 c1, .slice A2 n2 c2]
  bel : Below w0.heap.size w0 w
  low : w0.heap.size ≤ g
theorem Bx.new_ (kind fr to t pi pt co : Int) (ok : Bool) (A : Option Addr) (n c : Nat) (A1 : Option Addr) (n1 c1 : Nat) (A2 : Option Addr) (n2 c2 : Nat) (w : World) : Bx w w.heap.size kind fr to t pi pt co ok A n c A1 n1 c1 A2 n2 c2 (w.alloc (.cells #[.int .i64 kind, .int .i64 fr, .int .i64 to, .int .u64 t, .int .u64 pi, .int .u64 pt, .slice A n c, .int .u64 co, .bool ok, .slice A1 n1 c1, .slice A2 n2 c2] 31)) := ⟨Blk.new w 31 _, (Below.refl _ _).alloc (Nat.le_refl _) _, Nat.le_refl _⟩
section
variable {kind fr to t pi pt co : Int} {ok : Bool} {A : Option Addr} {n c : Nat} {A1 : Option Addr} {n1 c1 : Nat} {A2 : Option Addr} {n2 c2 : Nat} {w0 w w' : World} {g : Nat}
theorem Bx.on (h : Bx w0 g kind fr to t pi pt co ok A n c A1 n1 c1 A2 n2 c2 w) (hb : Below w.heap.size w w') : Bx w0 g kind fr to t pi pt co ok A n c A1 n1 c1 A2 n2 c2 w' := ⟨h.blk.below hb h.blk.lt, h.bel.trans (hb.mono h.bel.size), h.low⟩
theorem Bx.drew (h : Bx w0 g kind fr to t pi pt co ok A n c A1 n1 c1 A2 n2 c2 w) : Bx w0 g kind fr to t pi pt co ok A n c A1 n1 c1 A2 n2 c2 w.drew := ⟨h.blk.drewN 1, h.bel.drew, h.low⟩
theorem Bx.alloc (h : Bx w0 g kind fr to t pi pt co ok A n c A1 n1 c1 A2 n2 c2 w) (o : Obj) : Bx w0 g kind fr to t pi pt co ok A n c A1 n1 c1 A2 n2 c2 (w.alloc o) := ⟨h.blk.alloc o, h.bel.alloc h.bel.size o, h.low⟩
theorem Bx.cells (h : Bx w0 g kind fr to t pi pt co ok A n c A1 n1 c1 A2 n2 c2 w) : w.cell? ⟨g, 0, none⟩ = some (.int .i64 kind) ∧ w.cell? ⟨g, 1, none⟩ = some (.int .i64 fr) ∧ w.cell? ⟨g, 2, none⟩ = some (.int .i64 to) ∧ w.cell? ⟨g, 3, none⟩ = some (.int .u64 t) ∧ w.cell? ⟨g, 4, none⟩ = some (.int .u64 pi) ∧ w.cell? ⟨g, 5, none⟩ = some (.int .u64 pt) ∧ w.cell? ⟨g, 6, none⟩ = some (.slice A n c) ∧ w.cell? ⟨g, 7, none⟩ = some (.int .u64 co) ∧ w.cell? ⟨g, 8, none⟩ = some (.bool ok) ∧ w.cell? ⟨g, 9, none⟩ = some (.slice A1 n1 c1) ∧ w.cell? ⟨g, 10, none⟩ = some (.slice A2 n2 c2) := ⟨h.blk.cell 0, h.blk.cell 1, h.blk.cell 2, h.blk.cell 3, h.blk.cell 4, h.blk.cell 5, h.blk.cell 6, h.blk.cell 7, h.blk.cell 8, h.blk.cell 9, h.blk.cell 10⟩
end

theorem Tryd.i65 : (Tryd.prog.info? 65).map (·.size) = some 3 := by kernel_rfl
theorem ret65 {fn : Func} {p : Tmp} (h : fn.results = #[.cell p 65]) (tmps : Array Value) (w : World) (g : Nat) (a b c : Value)
    (hp : tmps.getD p undef = .pointer (some ⟨g, 0, none⟩)) (hg : Blk w g 65 #[a, b, c]) : (results fn tmps).run Tryd.prog w = .ok (.agg #[a, b, c]) w :=
  results_cell_row h tmps w g 65 #[a, b, c] (0, 0) _ hp hg Tryd.underlying65 rfl Tryd.i65

set_option maxRecDepth 100000 in
set_option maxHeartbeats 4000000 in
theorem offer_any (kind fr to t pi pt co : Int) (ok : Bool) (A : Option Addr) (n c : Nat) (A1 : Option Addr) (n1 c1 : Nat) (A2 : Option Addr) (n2 c2 : Nat) (w : World) :
    Calls Tryd.prog 40 #[.agg #[.int .i64 kind, .int .i64 fr, .int .i64 to, .int .u64 t, .int .u64 pi, .int .u64 pt, .slice A n c, .int .u64 co, .bool ok, .slice A1 n1 c1, .slice A2 n2 c2]] w fun e w' => e = .returned (.agg #[.int .u64 pi, .int .u64 pt, .slice A n c]) ∧ Below w.heap.size w w' := by
  have X := Lib.hid ((Bx.new_ kind fr to t pi pt co ok A n c A1 n1 c1 A2 n2 c2 w).alloc (.cells #[.int .u64 0, .int .u64 0, .slice none 0 0] 65))
  have y := Blk.new (w.alloc (.cells #[.int .i64 kind, .int .i64 fr, .int .i64 to, .int .u64 t, .int .u64 pi, .int .u64 pt, .slice A n c, .int .u64 co, .bool ok, .slice A1 n1 c1, .slice A2 n2 c2] 31)) 65 #[.int .u64 0, .int .u64 0, .slice none 0 0]
  rw [show (w.alloc (.cells #[.int .i64 kind, .int .i64 fr, .int .i64 to, .int .u64 t, .int .u64 pi, .int .u64 pt, .slice A n c, .int .u64 co, .bool ok, .slice A1 n1 c1, .slice A2 n2 c2] 31)).heap.size = w.heap.size + 1 by simp] at y
  have Y := Lib.hid y
  clear y
  go_enter Tryd.func40, Tryd.ntmps40
  go_upto_region 1 with (fail)
  generalize (w.alloc (.cells #[.int .i64 kind, .int .i64 fr, .int .i64 to, .int .u64 t, .int .u64 pi, .int .u64 pt, .slice A n c, .int .u64 co, .bool ok, .slice A1 n1 c1, .slice A2 n2 c2] 31)).alloc (.cells #[.int .u64 0, .int .u64 0, .slice none 0 0] 65) = W at *
  obtain ⟨d0, d1, d2, d3, d4, d5, d6, d7, d8, d9, d10⟩ := X.out.cells
  have e0 : W.cell? ⟨w.heap.size + 1, 0, none⟩ = some (.int .u64 0) := Y.out.cell 0
  have e1 : W.cell? ⟨w.heap.size + 1, 1, none⟩ = some (.int .u64 0) := Y.out.cell 1
  have e2 : W.cell? ⟨w.heap.size + 1, 2, none⟩ = some (.slice none 0 0) := Y.out.cell 2
  have f0 := Y.out.frozen 0
  have f1 := Y.out.frozen 1
  have f2 := Y.out.frozen 2
  go_wp2_with (fail)
  exact bodyPost_ret (ret65 rfl _ _ (w.heap.size + 1) _ _ _ rfl (((Y.out.set_ 0 _).set_ 1 _).set_ 2 _)) rfl ⟨rfl, ((X.out.bel.setCell (p := ⟨w.heap.size + 1, 0, none⟩) (by simp) _).setCell (p := ⟨w.heap.size + 1, 1, none⟩) (by simp) _).setCell (p := ⟨w.heap.size + 1, 2, none⟩) (by simp) _⟩

set_option maxRecDepth 100000 in
set_option maxHeartbeats 8000000 in
theorem offermaybe_any (m : Ms) (A : Option Addr) (n c : Nat) (A1 : Option Addr) (n1 c1 : Nat) (A2 : Option Addr) (n2 c2 B : Nat) (w : World) (h : Mr w B m A n c A1 n1 c1 A2 n2 c2) (hB : B ≤ w.heap.size) :
    Calls Tryd.prog 31 #[.agg #[.int .i64 m.kind, .int .i64 m.fr, .int .i64 m.to, .int .u64 m.t, .int .u64 m.pi, .int .u64 m.pt, .slice A n c, .int .u64 m.co, .bool m.ok, .slice A1 n1 c1, .slice A2 n2 c2]] w
      fun e w' => e = .returned (.bool (offerR m)) ∧ Below w.heap.size w w' := by
  have CK := Lib.hid (fun W (hW : Below B w W) => Check_any m.log A n c B W (h.lr.below hW) (Nat.le_trans hB hW.size) m.t)
  have hR : offerR m = (decide (n ≤ 8) && (checkE m.log m.t == 0)) := by
    unfold offerR checkE
    rw [h.es.len]
    cases right m.log with
    | false => simp
    | true =>
      by_cases hl : m.t < m.log.lastT
      · simp [hl]
      · simp [hl]; intro _; omega
  rw [hR]
  clear hR h
  generalize checkE m.log m.t = E at *
  obtain ⟨kind, fr, to, t, pi, pt, es, co, ok, mem, da⟩ := m
  simp only [Ms.log] at CK ⊢
  have X := Lib.hid (Bx.new_ kind fr to t pi pt co ok A n c A1 n1 c1 A2 n2 c2 w)
  by_cases hn : n ≤ 8
  · have hd : decide (n ≤ 8) = true := decide_eq_true hn
    have hd' : decide ((n : Int) ≤ 8) = true := decide_eq_true (by omega)
    rw [hd]
    clear hd
    go_enter Tryd.func31, Tryd.ntmps31
    go_upto_region 1 with (fail)
    generalize w.alloc (.cells #[.int .i64 kind, .int .i64 fr, .int .i64 to, .int .u64 t, .int .u64 pi, .int .u64 pt, .slice A n c, .int .u64 co, .bool ok, .slice A1 n1 c1, .slice A2 n2 c2] 31) = W at *
    obtain ⟨d0, d1, d2, d3, d4, d5, d6, d7, d8, d9, d10⟩ := X.out.cells
    have D0 := X.out.drew
    go_region_held3 (fun w' => w'.cell? ⟨w.heap.size, 0, none⟩ = some (.int .i64 kind) ∧ w'.cell? ⟨w.heap.size, 1, none⟩ = some (.int .i64 fr) ∧ w'.cell? ⟨w.heap.size, 2, none⟩ = some (.int .i64 to) ∧ w'.cell? ⟨w.heap.size, 3, none⟩ = some (.int .u64 t) ∧ w'.cell? ⟨w.heap.size, 4, none⟩ = some (.int .u64 pi) ∧ w'.cell? ⟨w.heap.size, 5, none⟩ = some (.int .u64 pt) ∧ w'.cell? ⟨w.heap.size, 6, none⟩ = some (.slice A n c) ∧ w'.cell? ⟨w.heap.size, 7, none⟩ = some (.int .u64 co) ∧ w'.cell? ⟨w.heap.size, 8, none⟩ = some (.bool ok) ∧ w'.cell? ⟨w.heap.size, 9, none⟩ = some (.slice A1 n1 c1) ∧ w'.cell? ⟨w.heap.size, 10, none⟩ = some (.slice A2 n2 c2))
      (first | with_reducible exact Bx.cells D0 | with_reducible exact Bx.cells D1 | with_reducible exact Bx.cells D2)
      (first | (go_at_call 40; refine (offer_any _ _ _ _ _ _ _ _ _ _ _ _ _ _ _ _ _ _).mono ?_; rintro e u1 ⟨rfl, hb⟩; have D1 := D0.on hb; clear hb) | (go_at_call 52; refine (CK.out _ (D1.bel.mono hB)).mono ?_; rintro e u2 ⟨rfl, hb⟩; have D2 := D1.on hb; clear hb))
    go_wp2
    go_ret
    exact ⟨rfl, D2.bel⟩
  · have hd : decide (n ≤ 8) = false := decide_eq_false hn
    have hd' : decide ((n : Int) ≤ 8) = false := decide_eq_false (by omega)
    rw [hd]
    clear hd
    go_enter Tryd.func31, Tryd.ntmps31
    go_upto_region 1 with (fail)
    generalize w.alloc (.cells #[.int .i64 kind, .int .i64 fr, .int .i64 to, .int .u64 t, .int .u64 pi, .int .u64 pt, .slice A n c, .int .u64 co, .bool ok, .slice A1 n1 c1, .slice A2 n2 c2] 31) = W at *
    obtain ⟨d0, d1, d2, d3, d4, d5, d6, d7, d8, d9, d10⟩ := X.out.cells
    go_quiet (fail)
    go_wp2
    go_ret
    exact ⟨rfl, below_drewN X.out.bel _⟩

end Go.Proofs.YtemfnckaehjhcaaDoor

/-
  Which members, which snapshots may be: the program's confMayBe, snapMayBe.
-/
namespace Go.Proofs.YtemfnckaehjhcaaDoor
open Go.RowKit
attribute [local go_sem ↓] eqA neA eqGA field1


/-- Is that no number of a member? -/
def outs (x : Int) : Bool := decide (x < 1) || decide (255 < x)
theorem outside_any (x : Int) (w : World) : Calls Tryd.prog 80 #[.int .i64 x] w fun e w' => e = .returned (.bool (outs x)) ∧ w = w' := by
  unfold outs
  cases h : decide (x < 1) with
  | true =>
    go_enter Tryd.func80, Tryd.ntmps80
    go_wp2
    go_ret
    exact ⟨rfl, rfl⟩
  | false =>
    go_enter Tryd.func80, Tryd.ntmps80
    go_wp2
    go_ret
    exact ⟨rfl, rfl⟩
theorem any_drop {xs : List Int} {k : Nat} (h : k < xs.length) : (xs.drop k).any outs = (outs (xs.getD k 0) || (xs.drop (k + 1)).any outs) := by
  have e : xs.getD k 0 = xs[k] := by simp [List.getD, h]
  rw [List.drop_eq_getElem_cons h, e, List.any_cons]

set_option maxHeartbeats 1000000 in
theorem indexfunc_any (A : Option Addr) (n c B : Nat) (xs : List Int) (w : World) (h : Is w B A n xs) (hn : n ≤ 1000000) :
    Calls Tryd.prog 102 #[.slice A n c, .func (.func 80) #[] #[]] w fun e w' => (∃ z : Int, e = .returned (.int .i64 z) ∧ decide (0 ≤ z) = xs.any outs) ∧ w = w' := by
  have HL := Lib.hid h.1
  have H := Lib.hid h.2
  have OA := Lib.hid outside_any
  clear h
  go_enter Tryd.func102, Tryd.ntmps102
  go_wp2
  go_loopw [8] (fun i wr => ∃ k : Nat, k ≤ n ∧ i = .int .i64 k ∧ Hid (xs.any outs = (xs.drop k).any outs) ∧ wr = w) (fun i _ => n - (intOf i).toNat)
  case atStart => exact ⟨0, Nat.zero_le _, rfl, rfl, rfl⟩
  case round =>
    obtain ⟨k, hk, rfl, hz, rfl⟩ := hrel
    by_cases hlt : k < n
    · obtain ⟨b, o, rfl, hb, hc⟩ := H.out (by omega)
      have c1 := hc k hlt
      have hz2 := hz.out.trans (any_drop (by rw [HL.out]; exact hlt))
      have k0 : (0 : Int) ≤ (k : Int) := by omega
      clear hc hz
      generalize xs.getD k 0 = z at c1 hz2
      generalize ho : outs z = ob at *
      have HO := Lib.hid ho
      clear ho
      have HZ := Lib.hid hz2
      clear hz2
      cases ob with
      | true =>
        go_wp2_with (go_at_call 80; refine (OA.out _ _).mono ?_; rw [HO.out]; rintro e w1 ⟨rfl, rfl⟩)
        go_ret
        exact ⟨⟨_, rfl, by rw [HZ.out]; simp⟩, rfl⟩
      | false =>
        go_wp2_with (go_at_call 80; refine (OA.out _ _).mono ?_; rw [HO.out]; rintro e w1 ⟨rfl, rfl⟩)
        go_roundw
        case rel => exact ⟨k + 1, by omega, by go_num, HZ, by first | rfl | trivial⟩
        case measure => simp [intOf]; omega
    · obtain rfl : k = n := by omega
      have hn0 : Hid (xs.any outs = false) := Lib.hid (by rw [hz.out, List.drop_of_length_le (by rw [HL.out]; omega)]; rfl)
      clear hz
      go_wp2
      go_ret
      exact ⟨⟨_, rfl, by rw [hn0.out]; rfl⟩, rfl⟩
theorem contains_any (A : Option Addr) (n c B : Nat) (xs : List Int) (w : World) (h : Is w B A n xs) (hn : n ≤ 1000000) :
    Calls Tryd.prog 81 #[.slice A n c, .func (.func 80) #[] #[]] w fun e w' => e = .returned (.bool (xs.any outs)) ∧ w = w' := by
  have IF := Lib.hid (indexfunc_any A n c B xs w h hn)
  clear h
  go_enter Tryd.func81, Tryd.ntmps81
  go_wp2_with (go_at_call 102; refine IF.out.mono ?_; rintro e w1 ⟨⟨z, rfl, hz⟩, rfl⟩; have HZ := Lib.hid hz; clear hz IF)
  go_ret
  exact ⟨ret_bool HZ.out, rfl⟩

theorem all_outs : ∀ xs : List Int, (xs.all fun x => decide (1 ≤ x) && decide (x ≤ 255)) = !(xs.any outs)
  | [] => rfl
  | x :: r => by
    rw [List.all_cons, List.any_cons, Bool.not_or, ← all_outs r]
    congr 1
    unfold outs
    by_cases h1 : 1 ≤ x
    · by_cases h2 : x ≤ 255
      · simp [h1, h2, show ¬ x < 1 by omega, show ¬ 255 < x by omega]
      · simp [h2, show 255 < x by omega]
    · simp [h1, show x < 1 by omega]
theorem memR_eq {xs : List Int} {n : Nat} (h : xs.length = n) : memR xs = (decide (n ≤ 5) && !(xs.any outs)) := by
  unfold memR
  rw [h, all_outs]

set_option maxRecDepth 100000 in
set_option maxHeartbeats 2000000 in
theorem confmaybe_any (A : Option Addr) (n c B : Nat) (xs : List Int) (w : World) (h : Is w B A n xs) (hn : n ≤ 1000000) (hB : B ≤ w.heap.size) :
    Calls Tryd.prog 53 #[.agg #[.slice A n c]] w fun e w' => e = .returned (.bool (memR xs)) ∧ Below w.heap.size w w' := by
  have CF := Lib.hid (fun W (hW : Below B w W) => contains_any A n c B xs W (h.below hW) hn)
  rw [memR_eq h.1]
  have HB := Lib.hid (show Below w.heap.size w (w.alloc (.cells #[.slice A n c] 28)) from (Below.refl _ _).alloc (Nat.le_refl _) _)
  generalize xs.any outs = R at *
  clear h
  by_cases hn5 : n ≤ 5
  · have hd : decide (n ≤ 5) = true := decide_eq_true hn5
    have hd' : decide ((n : Int) ≤ 5) = true := decide_eq_true (by omega)
    rw [hd]
    clear hd
    go_enter Tryd.func53, Tryd.ntmps53
    go_wp2_with (go_at_call 81; refine (CF.out _ (HB.out.mono hB)).mono ?_; rintro e w1 ⟨rfl, rfl⟩)
    go_ret
    exact ⟨rfl, HB.out⟩
  · have hd : decide (n ≤ 5) = false := decide_eq_false hn5
    have hd' : decide ((n : Int) ≤ 5) = false := decide_eq_false (by omega)
    rw [hd]
    clear hd
    go_enter Tryd.func53, Tryd.ntmps53
    go_wp2
    go_ret
    exact ⟨rfl, HB.out⟩

set_option maxRecDepth 100000 in
set_option maxHeartbeats 8000000 in
theorem snapmaybe_any (kind fr to t pi pt co : Int) (ok : Bool) (A : Option Addr) (n c : Nat) (A1 : Option Addr) (n1 c1 : Nat) (A2 : Option Addr) (n2 c2 : Nat) (B : Nat) (mem : List Int) (w : World) (h : Is w B A1 n1 mem) (hn : n1 ≤ 1000000) (hB : B ≤ w.heap.size) :
    Calls Tryd.prog 32 #[.agg #[.int .i64 kind, .int .i64 fr, .int .i64 to, .int .u64 t, .int .u64 pi, .int .u64 pt, .slice A n c, .int .u64 co, .bool ok, .slice A1 n1 c1, .slice A2 n2 c2]] w fun e w' => e = .returned (.bool (((kind != 5) || !(Eqa pi pt 0 0)) && (memR mem && decide (n2 ≤ 65536)))) ∧ Below w.heap.size w w' := by
  have CF := Lib.hid (fun W (hW : Below B w W) => confmaybe_any A1 n1 c1 B mem W (h.below hW) hn (Nat.le_trans hB hW.size))
  have X := Lib.hid (Bx.new_ kind fr to t pi pt co ok A n c A1 n1 c1 A2 n2 c2 w)
  have X1 := Lib.hid (fun W (hb : Below (w.alloc (.cells #[.int .i64 kind, .int .i64 fr, .int .i64 to, .int .u64 t, .int .u64 pi, .int .u64 pt, .slice A n c, .int .u64 co, .bool ok, .slice A1 n1 c1, .slice A2 n2 c2] 31)).heap.size (w.alloc (.cells #[.int .i64 kind, .int .i64 fr, .int .i64 to, .int .u64 t, .int .u64 pi, .int .u64 pt, .slice A n c, .int .u64 co, .bool ok, .slice A1 n1 c1, .slice A2 n2 c2] 31)) W) => X.out.on hb)
  clear h
  have hn2 : decide ((n2 : Int) ≤ 65536) = decide (n2 ≤ 65536) := decide_eq_decide.2 (by omega)
  generalize memR mem = R at *
  generalize decide (n2 ≤ 65536) = R2 at *
  generalize hE : Eqa pi pt 0 0 = E at *
  generalize hK : (kind != 5) = K at *
  have hcs : (K = true ∧ R = true) ∨ (K = true ∧ R = false) ∨ (K = false ∧ E = true) ∨ (K = false ∧ E = false ∧ R = true) ∨ (K = false ∧ E = false ∧ R = false) := by
    clear CF X X1 hn2 hE hK
    cases K <;> cases E <;> cases R <;> simp
  rcases hcs with ⟨rfl, rfl⟩ | ⟨rfl, rfl⟩ | ⟨rfl, rfl⟩ | ⟨rfl, rfl, rfl⟩ | ⟨rfl, rfl, rfl⟩
  all_goals
    go_enter Tryd.func32, Tryd.ntmps32
    go_upto_region 1 with (fail)
    generalize w.alloc (.cells #[.int .i64 kind, .int .i64 fr, .int .i64 to, .int .u64 t, .int .u64 pi, .int .u64 pt, .slice A n c, .int .u64 co, .bool ok, .slice A1 n1 c1, .slice A2 n2 c2] 31) = W at *
    obtain ⟨d0, d1, d2, d3, d4, d5, d6, d7, d8, d9, d10⟩ := X.out.cells
    go_wp2_with (go_at_call 53; refine (CF.out _ (X.out.bel.mono hB)).mono ?_; rintro e w1 ⟨rfl, hb⟩; have X2 := X1.out _ hb; clear hb d0 d1 d2 d3 d4 d5 d6 d7 d8 d9 d10; obtain ⟨d0, d1, d2, d3, d4, d5, d6, d7, d8, d9, d10⟩ := X2.cells)
    go_ret
    first | exact ⟨rfl, X2.bel⟩ | exact ⟨rfl, X.out.bel⟩

end Go.Proofs.YtemfnckaehjhcaaDoor

/-
  Which fields are not zero: the program's filled, justWhatCounts.
-/
namespace Go.Proofs.YtemfnckaehjhcaaDoor
open Go.RowKit
attribute [local go_sem ↓] eqA neA eqGA field1


def s6b (b0 b1 b2 b3 b4 b5 : Bool) : Nat → Bool
  | 0 => b0
  | 1 => b1
  | 2 => b2
  | 3 => b3
  | 4 => b4
  | _ => b5
/-- The bits of the first k flags. -/
def s6 (b0 b1 b2 b3 b4 b5 : Bool) : Nat → Nat
  | 0 => 0
  | k + 1 => s6 b0 b1 b2 b3 b4 b5 k + if s6b b0 b1 b2 b3 b4 b5 k = true then 2 ^ k else 0
theorem s6_succ (b0 b1 b2 b3 b4 b5 : Bool) (k : Nat) (_ : k < 6) : s6 b0 b1 b2 b3 b4 b5 (k + 1) = s6 b0 b1 b2 b3 b4 b5 k + if s6b b0 b1 b2 b3 b4 b5 k = true then 2 ^ k else 0 := rfl
theorem s6_lt (b0 b1 b2 b3 b4 b5 : Bool) : ∀ k, s6 b0 b1 b2 b3 b4 b5 k < 2 ^ k
  | 0 => Nat.zero_lt_one
  | k + 1 => by
    have := s6_lt b0 b1 b2 b3 b4 b5 k
    rw [s6, Nat.pow_succ]
    split <;> omega
/-- Are all flags false that do not count? -/
def zero6 (b0 b1 b2 b3 b4 b5 : Bool) (C : Nat) : Bool :=
  (decide (C % 2 = 1) || !b0) && (decide (C / 2 % 2 = 1) || !b1) && (decide (C / 4 % 2 = 1) || !b2) && (decide (C / 8 % 2 = 1) || !b3) && (decide (C / 16 % 2 = 1) || !b4) && (decide (C / 32 % 2 = 1) || !b5)
theorem zero6_bits : ∀ b0 b1 b2 b3 b4 b5 : Bool, ∀ C : Fin 64, (bits .andNot .u8 (s6 b0 b1 b2 b3 b4 b5 6 : Int) (C.val : Int) == 0) = zero6 b0 b1 b2 b3 b4 b5 C.val := by decide +kernel
theorem ix111_0 (b0 b1 b2 b3 b4 b5 : Bool) (w : World) : (Instr.index 111 (.agg #[.bool b0, .bool b1, .bool b2, .bool b3, .bool b4, .bool b5]) (.int .i64 0)).run Tryd.prog w = .ok (.bool b0) w := by kernel_rfl
theorem ix111_1 (b0 b1 b2 b3 b4 b5 : Bool) (w : World) : (Instr.index 111 (.agg #[.bool b0, .bool b1, .bool b2, .bool b3, .bool b4, .bool b5]) (.int .i64 1)).run Tryd.prog w = .ok (.bool b1) w := by kernel_rfl
theorem ix111_2 (b0 b1 b2 b3 b4 b5 : Bool) (w : World) : (Instr.index 111 (.agg #[.bool b0, .bool b1, .bool b2, .bool b3, .bool b4, .bool b5]) (.int .i64 2)).run Tryd.prog w = .ok (.bool b2) w := by kernel_rfl
theorem ix111_3 (b0 b1 b2 b3 b4 b5 : Bool) (w : World) : (Instr.index 111 (.agg #[.bool b0, .bool b1, .bool b2, .bool b3, .bool b4, .bool b5]) (.int .i64 3)).run Tryd.prog w = .ok (.bool b3) w := by kernel_rfl
theorem ix111_4 (b0 b1 b2 b3 b4 b5 : Bool) (w : World) : (Instr.index 111 (.agg #[.bool b0, .bool b1, .bool b2, .bool b3, .bool b4, .bool b5]) (.int .i64 4)).run Tryd.prog w = .ok (.bool b4) w := by kernel_rfl
theorem ix111_5 (b0 b1 b2 b3 b4 b5 : Bool) (w : World) : (Instr.index 111 (.agg #[.bool b0, .bool b1, .bool b2, .bool b3, .bool b4, .bool b5]) (.int .i64 5)).run Tryd.prog w = .ok (.bool b5) w := by kernel_rfl
theorem or_bit0 : ∀ F : Fin 1, bits .or .u8 (F.val : Int) 1 = ((F.val + 1 : Nat) : Int) := by decide +kernel
theorem or_bit1 : ∀ F : Fin 2, bits .or .u8 (F.val : Int) 2 = ((F.val + 2 : Nat) : Int) := by decide +kernel
theorem or_bit2 : ∀ F : Fin 4, bits .or .u8 (F.val : Int) 4 = ((F.val + 4 : Nat) : Int) := by decide +kernel
theorem or_bit3 : ∀ F : Fin 8, bits .or .u8 (F.val : Int) 8 = ((F.val + 8 : Nat) : Int) := by decide +kernel
theorem or_bit4 : ∀ F : Fin 16, bits .or .u8 (F.val : Int) 16 = ((F.val + 16 : Nat) : Int) := by decide +kernel
theorem or_bit5 : ∀ F : Fin 32, bits .or .u8 (F.val : Int) 32 = ((F.val + 32 : Nat) : Int) := by decide +kernel

theorem flag_pos (x : Nat) : decide ((0 : Int) < (x : Int)) = decide (0 < x) := decide_eq_decide.2 (by omega)

set_option maxRecDepth 100000 in
set_option maxHeartbeats 8000000 in
theorem filled_any (kind fr to t pi pt co : Int) (ok : Bool) (A : Option Addr) (n c : Nat) (A1 : Option Addr) (n1 c1 : Nat) (A2 : Option Addr) (n2 c2 : Nat) (w : World) :
    Calls Tryd.prog 51 #[.agg #[.int .i64 kind, .int .i64 fr, .int .i64 to, .int .u64 t, .int .u64 pi, .int .u64 pt, .slice A n c, .int .u64 co, .bool ok, .slice A1 n1 c1, .slice A2 n2 c2]] w fun e w' => e = .returned (.int .u8 (s6 ok (!(Eqa pi pt 0 0)) (decide (0 < co)) (decide (0 < n)) (decide (0 < n1)) (decide (0 < n2)) 6 : Int)) ∧ Below w.heap.size w w' := by
  have X := Lib.hid (Bx.new_ kind fr to t pi pt co ok A n c A1 n1 c1 A2 n2 c2 w)
  obtain ⟨b1, h1⟩ : ∃ b, b = !(Eqa pi pt 0 0) := ⟨_, rfl⟩
  obtain ⟨b2, h2⟩ : ∃ b, b = decide (0 < co) := ⟨_, rfl⟩
  obtain ⟨b3, h3⟩ : ∃ b, b = decide (0 < n) := ⟨_, rfl⟩
  obtain ⟨b4, h4⟩ : ∃ b, b = decide (0 < n1) := ⟨_, rfl⟩
  obtain ⟨b5, h5⟩ : ∃ b, b = decide (0 < n2) := ⟨_, rfl⟩
  rw [← h1, ← h2, ← h3, ← h4, ← h5]
  have h1' := h1.symm
  have h2' := h2.symm
  have h3' := h3.symm
  have h4' := h4.symm
  have h5' := h5.symm
  clear h1 h2 h3 h4 h5
  go_enter Tryd.func51, Tryd.ntmps51
  go_upto_region 1 with (fail)
  generalize w.alloc (.cells #[.int .i64 kind, .int .i64 fr, .int .i64 to, .int .u64 t, .int .u64 pi, .int .u64 pt, .slice A n c, .int .u64 co, .bool ok, .slice A1 n1 c1, .slice A2 n2 c2] 31) = W at *
  obtain ⟨d0, d1, d2, d3, d4, d5, d6, d7, d8, d9, d10⟩ := X.out.cells
  go_upto_region 2 with (fail)
  go_quiet (fail)
  have X2 : Hid (∀ q, Below w.heap.size w (W.drewN q)) := Lib.hid fun q => below_drewN X.out.bel q
  clear d0 d1 d2 d3 d4 d5 d6 d7 d8 d9 d10 X
  go_wp2_with (fail)
  obtain ⟨b0, hb0⟩ : ∃ b0, b0 = ok := ⟨_, rfl⟩
  subst hb0
  go_loopw [3, 29] (fun sv i wr => ∃ k : Nat, k ≤ 6 ∧ i = .int .i64 k ∧ sv = .int .u8 (s6 b0 b1 b2 b3 b4 b5 k : Int) ∧ Below w.heap.size w wr) (fun _ i _ => 6 - (intOf i).toNat)
  case atStart => exact ⟨0, by omega, rfl, rfl, X2.out _⟩
  case round =>
    obtain ⟨k, hk, rfl, rfl, hb⟩ := hrel
    have HB := Lib.hid hb
    clear hb X2
    rcases (show k = 0 ∨ k = 1 ∨ k = 2 ∨ k = 3 ∨ k = 4 ∨ k = 5 ∨ k = 6 by omega) with rfl | rfl | rfl | rfl | rfl | rfl | rfl
    · cases b0 with
      | true =>
        have ix := ix111_0 true b1 b2 b3 b4 b5
        have ob := or_bit0 ⟨s6 true b1 b2 b3 b4 b5 0, s6_lt true b1 b2 b3 b4 b5 0⟩
        have E1 : Hid (s6 true b1 b2 b3 b4 b5 1 = s6 true b1 b2 b3 b4 b5 0 + 1) := Lib.hid (congrArg (s6 true b1 b2 b3 b4 b5 0 + ·) (if_pos rfl))
        simp only at ob
        generalize s6 true b1 b2 b3 b4 b5 0 = F at *
        go_wp2
        go_roundw
        case rel => exact ⟨1, by omega, rfl, by rw [E1.out]; rfl, HB.out⟩
        case measure => simp [intOf]
      | false =>
        have ix := ix111_0 false b1 b2 b3 b4 b5
        have ob := or_bit0 ⟨s6 false b1 b2 b3 b4 b5 0, s6_lt false b1 b2 b3 b4 b5 0⟩
        have E1 : Hid (s6 false b1 b2 b3 b4 b5 1 = s6 false b1 b2 b3 b4 b5 0 + 0) := Lib.hid (congrArg (s6 false b1 b2 b3 b4 b5 0 + ·) (if_neg Bool.false_ne_true))
        simp only at ob
        generalize s6 false b1 b2 b3 b4 b5 0 = F at *
        go_wp2
        go_roundw
        case rel => exact ⟨1, by omega, rfl, by rw [E1.out]; rfl, HB.out⟩
        case measure => simp [intOf]
    · cases b1 with
      | true =>
        have ix := ix111_1 b0 true b2 b3 b4 b5
        have ob := or_bit1 ⟨s6 b0 true b2 b3 b4 b5 1, s6_lt b0 true b2 b3 b4 b5 1⟩
        have E1 : Hid (s6 b0 true b2 b3 b4 b5 2 = s6 b0 true b2 b3 b4 b5 1 + 2) := Lib.hid (congrArg (s6 b0 true b2 b3 b4 b5 1 + ·) (if_pos rfl))
        simp only at ob
        generalize s6 b0 true b2 b3 b4 b5 1 = F at *
        go_wp2
        go_roundw
        case rel => exact ⟨2, by omega, rfl, by rw [E1.out]; rfl, HB.out⟩
        case measure => simp [intOf]
      | false =>
        have ix := ix111_1 b0 false b2 b3 b4 b5
        have ob := or_bit1 ⟨s6 b0 false b2 b3 b4 b5 1, s6_lt b0 false b2 b3 b4 b5 1⟩
        have E1 : Hid (s6 b0 false b2 b3 b4 b5 2 = s6 b0 false b2 b3 b4 b5 1 + 0) := Lib.hid (congrArg (s6 b0 false b2 b3 b4 b5 1 + ·) (if_neg Bool.false_ne_true))
        simp only at ob
        generalize s6 b0 false b2 b3 b4 b5 1 = F at *
        go_wp2
        go_roundw
        case rel => exact ⟨2, by omega, rfl, by rw [E1.out]; rfl, HB.out⟩
        case measure => simp [intOf]
    · cases b2 with
      | true =>
        have ix := ix111_2 b0 b1 true b3 b4 b5
        have ob := or_bit2 ⟨s6 b0 b1 true b3 b4 b5 2, s6_lt b0 b1 true b3 b4 b5 2⟩
        have E1 : Hid (s6 b0 b1 true b3 b4 b5 3 = s6 b0 b1 true b3 b4 b5 2 + 4) := Lib.hid (congrArg (s6 b0 b1 true b3 b4 b5 2 + ·) (if_pos rfl))
        simp only at ob
        generalize s6 b0 b1 true b3 b4 b5 2 = F at *
        go_wp2
        go_roundw
        case rel => exact ⟨3, by omega, rfl, by rw [E1.out]; rfl, HB.out⟩
        case measure => simp [intOf]
      | false =>
        have ix := ix111_2 b0 b1 false b3 b4 b5
        have ob := or_bit2 ⟨s6 b0 b1 false b3 b4 b5 2, s6_lt b0 b1 false b3 b4 b5 2⟩
        have E1 : Hid (s6 b0 b1 false b3 b4 b5 3 = s6 b0 b1 false b3 b4 b5 2 + 0) := Lib.hid (congrArg (s6 b0 b1 false b3 b4 b5 2 + ·) (if_neg Bool.false_ne_true))
        simp only at ob
        generalize s6 b0 b1 false b3 b4 b5 2 = F at *
        go_wp2
        go_roundw
        case rel => exact ⟨3, by omega, rfl, by rw [E1.out]; rfl, HB.out⟩
        case measure => simp [intOf]
    · cases b3 with
      | true =>
        have ix := ix111_3 b0 b1 b2 true b4 b5
        have ob := or_bit3 ⟨s6 b0 b1 b2 true b4 b5 3, s6_lt b0 b1 b2 true b4 b5 3⟩
        have E1 : Hid (s6 b0 b1 b2 true b4 b5 4 = s6 b0 b1 b2 true b4 b5 3 + 8) := Lib.hid (congrArg (s6 b0 b1 b2 true b4 b5 3 + ·) (if_pos rfl))
        simp only at ob
        generalize s6 b0 b1 b2 true b4 b5 3 = F at *
        go_wp2
        go_roundw
        case rel => exact ⟨4, by omega, rfl, by rw [E1.out]; rfl, HB.out⟩
        case measure => simp [intOf]
      | false =>
        have ix := ix111_3 b0 b1 b2 false b4 b5
        have ob := or_bit3 ⟨s6 b0 b1 b2 false b4 b5 3, s6_lt b0 b1 b2 false b4 b5 3⟩
        have E1 : Hid (s6 b0 b1 b2 false b4 b5 4 = s6 b0 b1 b2 false b4 b5 3 + 0) := Lib.hid (congrArg (s6 b0 b1 b2 false b4 b5 3 + ·) (if_neg Bool.false_ne_true))
        simp only at ob
        generalize s6 b0 b1 b2 false b4 b5 3 = F at *
        go_wp2
        go_roundw
        case rel => exact ⟨4, by omega, rfl, by rw [E1.out]; rfl, HB.out⟩
        case measure => simp [intOf]
    · cases b4 with
      | true =>
        have ix := ix111_4 b0 b1 b2 b3 true b5
        have ob := or_bit4 ⟨s6 b0 b1 b2 b3 true b5 4, s6_lt b0 b1 b2 b3 true b5 4⟩
        have E1 : Hid (s6 b0 b1 b2 b3 true b5 5 = s6 b0 b1 b2 b3 true b5 4 + 16) := Lib.hid (congrArg (s6 b0 b1 b2 b3 true b5 4 + ·) (if_pos rfl))
        simp only at ob
        generalize s6 b0 b1 b2 b3 true b5 4 = F at *
        go_wp2
        go_roundw
        case rel => exact ⟨5, by omega, rfl, by rw [E1.out]; rfl, HB.out⟩
        case measure => simp [intOf]
      | false =>
        have ix := ix111_4 b0 b1 b2 b3 false b5
        have ob := or_bit4 ⟨s6 b0 b1 b2 b3 false b5 4, s6_lt b0 b1 b2 b3 false b5 4⟩
        have E1 : Hid (s6 b0 b1 b2 b3 false b5 5 = s6 b0 b1 b2 b3 false b5 4 + 0) := Lib.hid (congrArg (s6 b0 b1 b2 b3 false b5 4 + ·) (if_neg Bool.false_ne_true))
        simp only at ob
        generalize s6 b0 b1 b2 b3 false b5 4 = F at *
        go_wp2
        go_roundw
        case rel => exact ⟨5, by omega, rfl, by rw [E1.out]; rfl, HB.out⟩
        case measure => simp [intOf]
    · cases b5 with
      | true =>
        have ix := ix111_5 b0 b1 b2 b3 b4 true
        have ob := or_bit5 ⟨s6 b0 b1 b2 b3 b4 true 5, s6_lt b0 b1 b2 b3 b4 true 5⟩
        have E1 : Hid (s6 b0 b1 b2 b3 b4 true 6 = s6 b0 b1 b2 b3 b4 true 5 + 32) := Lib.hid (congrArg (s6 b0 b1 b2 b3 b4 true 5 + ·) (if_pos rfl))
        simp only at ob
        generalize s6 b0 b1 b2 b3 b4 true 5 = F at *
        go_wp2
        go_roundw
        case rel => exact ⟨6, by omega, rfl, by rw [E1.out]; rfl, HB.out⟩
        case measure => simp [intOf]
      | false =>
        have ix := ix111_5 b0 b1 b2 b3 b4 false
        have ob := or_bit5 ⟨s6 b0 b1 b2 b3 b4 false 5, s6_lt b0 b1 b2 b3 b4 false 5⟩
        have E1 : Hid (s6 b0 b1 b2 b3 b4 false 6 = s6 b0 b1 b2 b3 b4 false 5 + 0) := Lib.hid (congrArg (s6 b0 b1 b2 b3 b4 false 5 + ·) (if_neg Bool.false_ne_true))
        simp only at ob
        generalize s6 b0 b1 b2 b3 b4 false 5 = F at *
        go_wp2
        go_roundw
        case rel => exact ⟨6, by omega, rfl, by rw [E1.out]; rfl, HB.out⟩
        case measure => simp [intOf]
    · go_wp2
      go_ret
      exact ⟨rfl, HB.out⟩

set_option maxRecDepth 100000 in
set_option maxHeartbeats 8000000 in
theorem just_any (kind fr to t pi pt co : Int) (ok : Bool) (A : Option Addr) (n c : Nat) (A1 : Option Addr) (n1 c1 : Nat) (A2 : Option Addr) (n2 c2 : Nat) (w : World) :
    Calls Tryd.prog 30 #[.agg #[.int .i64 kind, .int .i64 fr, .int .i64 to, .int .u64 t, .int .u64 pi, .int .u64 pt, .slice A n c, .int .u64 co, .bool ok, .slice A1 n1 c1, .slice A2 n2 c2]] w fun e w' => e = .returned (.bool (zero6 ok (!(Eqa pi pt 0 0)) (decide (0 < co)) (decide (0 < n)) (decide (0 < n1)) (decide (0 < n2)) (cntg kind))) ∧ Below w.heap.size w w' := by
  have X := Lib.hid (Bx.new_ kind fr to t pi pt co ok A n c A1 n1 c1 A2 n2 c2 w)
  have FL := Lib.hid (fun W => filled_any kind fr to t pi pt co ok A n c A1 n1 c1 A2 n2 c2 W)
  have CT := Lib.hid (fun W => counting_any kind W)
  have ZB := Lib.hid (zero6_bits ok (!(Eqa pi pt 0 0)) (decide (0 < co)) (decide (0 < n)) (decide (0 < n1)) (decide (0 < n2)) ⟨cntg kind, cntg_lt kind⟩)
  simp only at ZB
  generalize zero6 ok (!(Eqa pi pt 0 0)) (decide (0 < co)) (decide (0 < n)) (decide (0 < n1)) (decide (0 < n2)) (cntg kind) = R at *
  generalize s6 ok (!(Eqa pi pt 0 0)) (decide (0 < co)) (decide (0 < n)) (decide (0 < n1)) (decide (0 < n2)) 6 = F at *
  generalize cntg kind = C at *
  go_enter Tryd.func30, Tryd.ntmps30
  go_upto_region 1 with (fail)
  generalize w.alloc (.cells #[.int .i64 kind, .int .i64 fr, .int .i64 to, .int .u64 t, .int .u64 pi, .int .u64 pt, .slice A n c, .int .u64 co, .bool ok, .slice A1 n1 c1, .slice A2 n2 c2] 31) = W at *
  obtain ⟨d0, d1, d2, d3, d4, d5, d6, d7, d8, d9, d10⟩ := X.out.cells
  have D0 := X.out.drew
  go_region_held3 (fun w' => w'.cell? ⟨w.heap.size, 0, none⟩ = some (.int .i64 kind) ∧ w'.cell? ⟨w.heap.size, 1, none⟩ = some (.int .i64 fr) ∧ w'.cell? ⟨w.heap.size, 2, none⟩ = some (.int .i64 to) ∧ w'.cell? ⟨w.heap.size, 3, none⟩ = some (.int .u64 t) ∧ w'.cell? ⟨w.heap.size, 4, none⟩ = some (.int .u64 pi) ∧ w'.cell? ⟨w.heap.size, 5, none⟩ = some (.int .u64 pt) ∧ w'.cell? ⟨w.heap.size, 6, none⟩ = some (.slice A n c) ∧ w'.cell? ⟨w.heap.size, 7, none⟩ = some (.int .u64 co) ∧ w'.cell? ⟨w.heap.size, 8, none⟩ = some (.bool ok) ∧ w'.cell? ⟨w.heap.size, 9, none⟩ = some (.slice A1 n1 c1) ∧ w'.cell? ⟨w.heap.size, 10, none⟩ = some (.slice A2 n2 c2))
    (first | with_reducible exact Bx.cells D0 | with_reducible exact Bx.cells D1)
    (first | (go_at_call 51; refine (FL.out _).mono ?_; rintro e u1 ⟨rfl, hb⟩; have D1 := D0.on hb; clear hb) | (go_at_call 45; refine (CT.out _).mono ?_; rintro e u2 ⟨rfl, rfl⟩))
  go_wp2
  go_ret
  exact ⟨ret_bool ZB.out, D1.bel⟩

end Go.Proofs.YtemfnckaehjhcaaDoor
