/-
  Several texts in one: P1, P2, P3, P4.
-/
import Derived.Test.YtiipglmbfgmbbaaGreatDoorL12
import Derived.WalkSmall
import Derived.WalkLawsBesides
namespace Go.Proofs.YtiipglmbfgmbbaaGreatDoor
open Go.RowKit Go.Shelf
attribute [local go_sem] Oper.semAt_some

/-- Behind the last token there is just the text's end. -/
def endT (E : Nat) : Tk := ⟨0, [], 0, E, 0⟩
def tokAt (L : List Tk) (E r : Nat) : Tk := L.getD r (endT E)
/-- Is the next token that word or sign? -/
def isB (t : Tk) (u : List UInt8) : Bool := (t.text == u) && ((t.kind == 1) || (t.kind == 5))

/-- All that lies below base lies as it lay, but for the block q. -/
structure Fq (base q : Nat) (w w' : World) : Prop where
  os : w'.os = w.os
  tape : w'.tape = w.tape
  output : w'.output = w.output
  size : w.heap.size ≤ w'.heap.size
  block : ∀ j, j < base → j ≠ q → w'.heap[j]? = w.heap[j]?
theorem Fq.refl (base q : Nat) (w : World) : Fq base q w w := ⟨rfl, rfl, rfl, Nat.le_refl _, fun _ _ _ => rfl⟩
theorem Fq.trans {base q : Nat} {a b c : World} (h : Fq base q a b) (k : Fq base q b c) : Fq base q a c :=
  ⟨k.os.trans h.os, k.tape.trans h.tape, k.output.trans h.output, Nat.le_trans h.size k.size, fun i hi hq => (k.block i hi hq).trans (h.block i hi hq)⟩
theorem Fq.mono {base base' q : Nat} {a b : World} (h : Fq base q a b) (hb : base' ≤ base) : Fq base' q a b :=
  ⟨h.os, h.tape, h.output, h.size, fun i hi hq => h.block i (by omega) hq⟩
theorem Fq.of {base q B : Nat} {a b : World} (h : Below B a b) (hb : base ≤ B) : Fq base q a b :=
  ⟨h.os, h.tape, h.output, h.size, fun i hi _ => h.block i (by omega)⟩
theorem Fq.set (base q k : Nat) (w : World) (v : Value) : Fq base q w (w.setCell ⟨q, k, none⟩ v) :=
  ⟨rfl, rfl, rfl, by simp, fun j _ hj => Below.heap_setCell _ _ _ _ hj⟩
theorem Fq.drew (base q n : Nat) (w : World) : Fq base q w (w.drewN n) := ⟨rfl, rfl, rfl, Nat.le_refl _, fun _ _ _ => rfl⟩

/-- The parser's block, and its tokens. -/
structure Pt (w : World) (base q : Nat) (A : Option Addr) (c : Nat) (L : List Tk) (E : Nat) (M V : Value) (r o : Nat) : Prop where
  blk : Blk w q 75 #[.slice A L.length c, .int .i64 (r : Int), .int .i64 (E : Int), M, V, .int .i64 (o : Int)]
  own : Tks w 0 A L.length c L
  low : ∀ k, (Value.slice A L.length c).ownBlock = some k → k < base
  lt : q < base
  le : base ≤ w.heap.size
  rd : r ≤ L.length
  many : L.length ≤ 300
section
variable {w w' : World} {base q c E r o : Nat} {A : Option Addr} {L : List Tk} {M V : Value}
theorem Pt.on (h : Pt w base q A c L E M V r o) (hb : Below w.heap.size w w') : Pt w' base q A c L E M V r o :=
  ⟨h.blk.below hb h.blk.lt, h.own.below hb, h.low, h.lt, Nat.le_trans h.le hb.size, h.rd, h.many⟩
end
theorem tkRow_at2 : ∀ (ts : List Tk) (j i : Nat), j < ts.length → i < 5 → (tkRow ts)[j * 5 + i]? = (ts.getD j (errT 0)).cells[i]?
  | [], j, i, h, _ => by simp at h
  | t :: r, 0, i, _, hi => by
    rw [tkRow, Nat.zero_mul, Nat.zero_add, List.getElem?_append_left (by show i < 5; exact hi)]
    rfl
  | t :: r, j + 1, i, h, hi => by
    rw [tkRow, List.getElem?_append_right (by show 5 ≤ _; omega), show (j + 1) * 5 + i - t.cells.length = j * 5 + i from by show (j + 1) * 5 + i - 5 = _; omega, tkRow_at2 r j i (by simpa using h) hi]
    rfl
theorem read_set {cs : Array Value} {w : World} {q k : Nat} {t : TypeId} (h : Blk w q t cs) (v : Value) : Blk (w.setCell ⟨q, k, none⟩ v) q t (cs.setIfInBounds k v) := h.set_ k v
section
variable {w w' : World} {base q c E r o : Nat} {A : Option Addr} {L : List Tk} {M V : Value}
/-- One token more is read. -/
theorem Pt.step (h : Pt w base q A c L E M V r o) (hr : r < L.length) : Pt (w.setCell ⟨q, 1, none⟩ (.int .i64 ((r : Int) + 1))) base q A c L E M V (r + 1) o :=
  ⟨by have := h.blk.set_ 1 (.int .i64 ((r : Int) + 1)); simpa using this, h.own.set h.blk (by decide) _, h.low, h.lt, by simpa using h.le, hr, h.many⟩
theorem Pt.drew (h : Pt w base q A c L E M V r o) (n : Nat) : Pt (w.drewN n) base q A c L E M V r o := h.on ⟨rfl, rfl, rfl, Nat.le_refl _, fun _ _ => rfl⟩
/-- The cells of a token. -/
theorem Pt.tok (h : Pt w base q A c L E M V r o) (hr : r < L.length) : ∃ g, A = some ⟨g, 0, none⟩ ∧ ∀ i, i < 5 → w.cell? ⟨g, r * 5 + i, none⟩ = (tokAt L E r).cells[i]? := by
  rcases h.own.form with ⟨_, h0, _⟩ | ⟨g, rfl, _, _, _⟩
  · omega
  · refine ⟨g, rfl, fun i hi => ?_⟩
    have := World.ownsRow.cellAt (w := w) (g := g) h.own (r * 5 + i) (by omega)
    rw [this, tkRow_at2 L r i hr hi]
    simp [tokAt, List.getD, hr]
end
theorem Pt.keep {w w' : World} {base q c E r o : Nat} {A : Option Addr} {L : List Tk} {M V : Value} (h : Pt w base q A c L E M V r o) (hb : Below base w w') : Pt w' base q A c L E M V r o :=
  ⟨(hb.block q h.lt).trans h.blk, ⟨h.own.1, by
    rcases h.own.2 with hv | ⟨g, cap, cur, hv, hbs, hh, r⟩
    · exact .inl hv
    · exact .inr ⟨g, cap, cur, hv, hbs, (hb.block g (h.low g (by rw [hv]; rfl))).trans hh, r⟩⟩, h.low, h.lt, Nat.le_trans h.le hb.size, h.rd, h.many⟩
theorem wp_store_none {P : Program} {o : Oper} {a : Act} {K : Act → World → Prop} {Q : Exit → Act → World → Prop} {w : World} (hd : o.dst = none) (ty : TypeId) (x y : Operand) (ho : o.op = .store ty x y)
    (g : Nat) (c : Array Value) (t : TypeId) (cells : List Value) (hx : a.eval x = .pointer (some ⟨g, 0, none⟩)) (hy : a.eval y = .agg cells.toArray) (hb : Blk w g t c)
    (hc : c.size = cells.length) (hi : (P.info? ty).map (·.size) = some cells.length) (h1 : ∀ v ∈ cells, v.oneCell' = true)
    (h : ∀ w', Blk w' g t cells.toArray → Only g w w' → K a w') : Oper.wp P o a w K Q :=
  wp_store_blk ty x y ho g c t cells hx hy hb hc hi h1 (fun w' hb ho => by rw [hd]; exact h w' hb ho)
theorem below_drewN' (B : Nat) (w : World) (q : Nat) : Below B w (w.drewN q) := ⟨rfl, rfl, rfl, Nat.le_refl _, fun _ _ => rfl⟩
theorem ret_cell1_tmp {P : Program} {fn : Func} {p : Tmp} {ty : TypeId} (h : fn.results = #[.cell p ty]) (tmps : Array Value) (w : World) (g : Nat) (t : TypeId) (cs : Array Value) (d : TypeDesc)
    (hp : tmps.getD p undef = .pointer (some ⟨g, 0, none⟩)) (hg : Blk w g t cs) (hu : P.underlying ty = some d) (hd : (match d with | .struct _ | .array _ _ => true | _ => false) = true) (hi : (P.info? ty).map (·.size) = some cs.size) :
    (results fn tmps).run P w = .ok (.agg cs) w := by
  have hp' : tmps[p]?.getD undef = .pointer (some ⟨g, 0, none⟩) := by simpa using hp
  simp [results, h, hp', asAddr, run_loadVar_row w g t ty cs (0, 0) d hg hu hd hi]
set_option maxRecDepth 100000 in
set_option maxHeartbeats 4000000 in
theorem next_any (w : World) (base q c E r o : Nat) (A : Option Addr) (L : List Tk) (M V : Value) (h : Pt w base q A c L E M V r o) :
    Calls Tryz.prog 110 #[.pointer (some ⟨q, 0, none⟩)] w fun e w' => e = .returned (tkV (tokAt L E r)) ∧ Below w.heap.size w w' := by
  obtain ⟨g, hg⟩ : ∃ g, w.heap.size = g := ⟨_, rfl⟩
  have b0 : Hid (Blk (w.alloc (.cells #[.int .i64 0, .string ⟨#[]⟩, .int .i64 0, .int .i64 0, .int .i64 0] 50)) g 50 #[.int .i64 0, .string ⟨#[]⟩, .int .i64 0, .int .i64 0, .int .i64 0]) := Lib.hid (by rw [← hg]; exact Blk.new _ _ _)
  have h0 : Hid (Below g w (w.alloc (.cells #[.int .i64 0, .string ⟨#[]⟩, .int .i64 0, .int .i64 0, .int .i64 0] 50))) := Lib.hid (by rw [← hg]; exact (Below.refl _ _).alloc (Nat.le_refl _) _)
  have BD : Hid (∀ n, Blk ((w.alloc (.cells #[.int .i64 0, .string ⟨#[]⟩, .int .i64 0, .int .i64 0, .int .i64 0] 50)).drewN n) g 50 #[.int .i64 0, .string ⟨#[]⟩, .int .i64 0, .int .i64 0, .int .i64 0]) := Lib.hid (fun n => b0.out)
  have P1 := h.on (h0.out.mono (by omega))
  have PH := Lib.hid P1
  have hle := h.le
  have hrd := h.rd
  have hmany := h.many
  clear h
  by_cases hr : r = L.length
  · have he : ((r : Int) == (L.length : Int)) = true := by simp; omega
    have hT : tokAt L E r = endT E := by unfold tokAt; simp [List.getD, hr]
    rw [hT]
    go_enter Tryz.func110, Tryz.ntmps110
    go_upto_region 1 with fail
    generalize w.alloc (.cells #[.int .i64 0, .string ⟨#[]⟩, .int .i64 0, .int .i64 0, .int .i64 0] 50) = w1 at *
    have x0 : w1.cell? ⟨q, 0, none⟩ = some (.slice A L.length c) := P1.blk.cell 0
    have x1 : w1.cell? ⟨q, 1, none⟩ = some (.int .i64 (r : Int)) := P1.blk.cell 1
    have x2 : w1.cell? ⟨q, 2, none⟩ = some (.int .i64 (E : Int)) := P1.blk.cell 2
    go_quiet (fail)
    go_wp2_with ((with_reducible refine at_store (t := 50) ?_); refine wpList_store_blk _ rfl 50 _ _ rfl g _ 50 [.int .i64 0, .string ⟨#[]⟩, .int .i64 0, .int .i64 (E : Int), .int .i64 0] rfl rfl (BD.out _) rfl Tryz.i47 (by simp [Value.oneCell']) ?_; intro w8 hb8 ho8; have X8 := Lib.hid hb8; have H8 := Lib.hid ((h0.out.trans (below_drewN' g w1 _)).trans (ho8.below (Nat.le_refl _))); clear hb8 ho8)
    exact bodyPost_ret (ret_cell1_tmp rfl _ _ g 50 _ _ rfl X8.out Tryz.underlying50 rfl Tryz.i47) rfl ⟨rfl, by rw [hg]; exact H8.out⟩
  · have he : ((r : Int) == (L.length : Int)) = false := by simp; omega
    have hlt : r < L.length := by omega
    have r0 : (0 : Int) ≤ (r : Int) := by omega
    have r1 : (r : Int) < (L.length : Int) := by omega
    obtain ⟨gb, rfl, -⟩ := P1.tok hlt
    obtain ⟨t, ht⟩ : ∃ t, tokAt L E r = t := ⟨_, rfl⟩
    obtain ⟨kind, text, num, aa, to_⟩ := t
    obtain ⟨T, hTT⟩ : ∃ T : ByteArray, (⟨text.toArray⟩ : ByteArray) = T := ⟨_, rfl⟩
    have HS : Hid (∀ w', Pt w' base q (some ⟨gb, 0, none⟩) c L E M V r o → w'.cell? ⟨q, 0, none⟩ = some (.slice (some ⟨gb, 0, none⟩) L.length c) ∧ w'.cell? ⟨q, 1, none⟩ = some (.int .i64 (r : Int)) ∧ w'.cell? ⟨gb, r * 5, none⟩ = some (.int .i64 kind) ∧ w'.cell? ⟨gb, r * 5 + 1, none⟩ = some (.string T) ∧ w'.cell? ⟨gb, r * 5 + 2, none⟩ = some (.int .i64 num) ∧ w'.cell? ⟨gb, r * 5 + 3, none⟩ = some (.int .i64 (aa : Int)) ∧ w'.cell? ⟨gb, r * 5 + 4, none⟩ = some (.int .i64 (to_ : Int))) := Lib.hid (fun W hP => by
      obtain ⟨gb', e, hz⟩ := hP.tok hlt
      injection e with e
      injection e with e _ _
      subst e
      rw [ht] at hz
      exact ⟨hP.blk.cell 0, hP.blk.cell 1, hz 0 (by omega), by rw [← hTT]; exact hz 1 (by omega), hz 2 (by omega), hz 3 (by omega), hz 4 (by omega)⟩)
    rw [ht]
    have HTT := Lib.hid hTT
    clear ht hTT
    go_enter Tryz.func110, Tryz.ntmps110
    go_upto_region 1 with fail
    generalize w.alloc (.cells #[.int .i64 0, .string ⟨#[]⟩, .int .i64 0, .int .i64 0, .int .i64 0] 50) = w1 at *
    obtain ⟨x0, x1, -⟩ := HS.out _ P1
    go_quiet (fail)
    clear x0 x1 P1 b0
    replace PH := Lib.hid (PH.out.drew nq)
    replace h0 := Lib.hid (h0.out.trans (below_drewN' g w1 nq))
    replace BD : Hid (∀ n, Blk ((w1.drewN nq).drewN n) g 50 #[.int .i64 0, .string ⟨#[]⟩, .int .i64 0, .int .i64 0, .int .i64 0]) := Lib.hid (fun n => BD.out 0)
    generalize w1.drewN nq = w2 at *
    go_upto_region 3 with fail
    replace PH : Hid (Pt w2.drew base q (some ⟨gb, 0, none⟩) c L E M V r o) := Lib.hid (PH.out.on ⟨rfl, rfl, rfl, Nat.le_refl _, fun _ _ => rfl⟩)
    replace h0 : Hid (Below g w w2.drew) := Lib.hid (h0.out.trans (below_drewN' g w2 1))
    replace BD : Hid (Blk w2.drew g 50 #[.int .i64 0, .string ⟨#[]⟩, .int .i64 0, .int .i64 0, .int .i64 0]) := Lib.hid (BD.out 0)
    refine wp_region_noPanic ?_
    refine wp_region_held_drew (S := fun w' => w'.cell? ⟨q, 0, none⟩ = some (.slice (some ⟨gb, 0, none⟩) L.length c) ∧ w'.cell? ⟨q, 1, none⟩ = some (.int .i64 (r : Int)) ∧ w'.cell? ⟨gb, r * 5, none⟩ = some (.int .i64 kind) ∧ w'.cell? ⟨gb, r * 5 + 1, none⟩ = some (.string T) ∧ w'.cell? ⟨gb, r * 5 + 2, none⟩ = some (.int .i64 num) ∧ w'.cell? ⟨gb, r * 5 + 3, none⟩ = some (.int .i64 (aa : Int)) ∧ w'.cell? ⟨gb, r * 5 + 4, none⟩ = some (.int .i64 (to_ : Int))) (by kernel_rfl) (HS.out _ PH.out) (fun hHeld => ?_)
    refine take_d (i := 0) (d := 18) (v := ?na18) rfl rfl (by kernel_rfl) (by kernel_rfl) (by kernel_rfl) (fun _ _ _ h => h) (Or.inl ⟨by kernel_rfl, ?na18h⟩) hHeld ?na18n
    case na18h => (intro w hSw; (try dsimp only at hSw); go_split_ands; go_simp; (try exact rfl))
    try simp only [Act.put, List.setIfInBounds_toArray, List.set_cons_zero, List.set_cons_succ]
    refine take_d (i := 1) (d := 19) (v := ?na19) rfl rfl (by kernel_rfl) (by kernel_rfl) (by kernel_rfl) (fun _ _ _ h => h) (Or.inl ⟨by kernel_rfl, ?na19h⟩) hHeld ?na19n
    case na19h => (intro w hSw; (try dsimp only at hSw); go_split_ands; go_simp; (try exact rfl))
    try simp only [Act.put, List.setIfInBounds_toArray, List.set_cons_zero, List.set_cons_succ]
    refine take_d (i := 2) (d := 20) (v := ?na20) rfl rfl (by kernel_rfl) (by kernel_rfl) (by kernel_rfl) (fun _ _ _ h => h) (Or.inl ⟨by kernel_rfl, ?na20h⟩) hHeld ?na20n
    case na20h => (intro w hSw; (try dsimp only at hSw); go_split_ands; go_simp; (try exact rfl))
    try simp only [Act.put, List.setIfInBounds_toArray, List.set_cons_zero, List.set_cons_succ]
    refine take_d (i := 3) (d := 21) (v := ?na21) rfl rfl (by kernel_rfl) (by kernel_rfl) (by kernel_rfl) (fun _ _ _ h => h) (Or.inl ⟨by kernel_rfl, ?na21h⟩) hHeld ?na21n
    case na21h => (intro w hSw; (try dsimp only at hSw); go_split_ands; go_simp; (try exact rfl))
    try simp only [Act.put, List.setIfInBounds_toArray, List.set_cons_zero, List.set_cons_succ]
    refine take_d (i := 4) (d := 22) (v := ?na22) rfl rfl (by kernel_rfl) (by kernel_rfl) (by kernel_rfl) (fun _ _ _ h => h) (Or.inl ⟨by kernel_rfl, ?na22h⟩) hHeld ?na22n
    case na22h => (intro w hSw; (try dsimp only at hSw); go_split_ands; go_simp; (try exact rfl))
    try simp only [Act.put, List.setIfInBounds_toArray, List.set_cons_zero, List.set_cons_succ]
    refine take_d (i := 5) (d := 23) (v := ?na23) rfl rfl (by kernel_rfl) (by kernel_rfl) (by kernel_rfl) (fun _ _ _ h => h) (Or.inl ⟨by kernel_rfl, ?na23h⟩) hHeld ?na23n
    case na23h => (intro w hSw; (try dsimp only at hSw); go_split_ands; go_simp; (try exact rfl))
    try simp only [Act.put, List.setIfInBounds_toArray, List.set_cons_zero, List.set_cons_succ]
    refine take_d (i := 6) (d := 24) (v := ?na24) rfl rfl (by kernel_rfl) (by kernel_rfl) (by kernel_rfl) (fun _ _ _ h => h) (Or.inl ⟨by kernel_rfl, ?na24h⟩) hHeld ?na24n
    case na24h => (intro w hSw; (try dsimp only at hSw); go_split_ands; go_simp; (try exact rfl))
    try simp only [Act.put, List.setIfInBounds_toArray, List.set_cons_zero, List.set_cons_succ]
    refine take_d (i := 7) (d := 25) (v := ?na25) rfl rfl (by kernel_rfl) (by kernel_rfl) (by kernel_rfl) (fun _ _ _ h => h) (Or.inl ⟨by kernel_rfl, ?na25h⟩) hHeld ?na25n
    case na25h => (intro w hSw; (try dsimp only at hSw); go_split_ands; go_simp; (try exact rfl))
    try simp only [Act.put, List.setIfInBounds_toArray, List.set_cons_zero, List.set_cons_succ]
    refine take_d (i := 8) (d := 26) (v := ?na26) rfl rfl (by kernel_rfl) (by kernel_rfl) (by kernel_rfl) (fun _ _ _ h => h) (Or.inl ⟨by kernel_rfl, ?na26h⟩) hHeld ?na26n
    case na26h => (intro w hSw; (try dsimp only at hSw); go_split_ands; go_simp; (try exact rfl))
    try simp only [Act.put, List.setIfInBounds_toArray, List.set_cons_zero, List.set_cons_succ]
    refine take_d (i := 9) (d := 27) (v := ?na27) rfl rfl (by kernel_rfl) (by kernel_rfl) (by kernel_rfl) (fun _ _ _ h => h) (Or.inl ⟨by kernel_rfl, ?na27h⟩) hHeld ?na27n
    case na27h => (intro w hSw; (try dsimp only at hSw); go_split_ands; go_simp; (try exact rfl))
    try simp only [Act.put, List.setIfInBounds_toArray, List.set_cons_zero, List.set_cons_succ]
    refine wpAnyH_ready (rs := [10]) (by kernel_rfl) (by simp) ?_
    refine AllReadyH.cons rfl (fun K hK => ?_) AllReadyH.nil
    refine wp_store_none rfl 50 _ _ rfl g #[.int .i64 0, .string ⟨#[]⟩, .int .i64 0, .int .i64 0, .int .i64 0] 50 [.int .i64 kind, .string T, .int .i64 num, .int .i64 (aa : Int), .int .i64 (to_ : Int)] rfl rfl BD.out rfl Tryz.i47 (by simp [Value.oneCell']) ?_
    intro w8 hb8 ho8
    have X8 := Lib.hid hb8
    have H8 := Lib.hid (h0.out.trans (ho8.below (Nat.le_refl _)))
    refine hK.out _ _ (HS.out _ (PH.out.keep (ho8.below (by have := PH.out.le; omega)))) (fun hHeld => ?_)
    clear hK K hb8 ho8
    try simp only [Act.put, List.setIfInBounds_toArray, List.set_cons_zero, List.set_cons_succ]
    refine wpAnyH_done (by kernel_rfl) ?_ _
    refine NoPanic.normal ?_
    go_wp2_with fail
    exact bodyPost_ret (ret_cell1_tmp rfl _ _ g 50 _ _ rfl X8.out Tryz.underlying50 rfl Tryz.i47) rfl ⟨by rw [← HTT.out]; rfl, by rw [hg]; exact H8.out⟩
end Go.Proofs.YtiipglmbfgmbbaaGreatDoor

namespace Go.Proofs.YtiipglmbfgmbbaaGreatDoor
open Go.RowKit Go.Shelf
attribute [local go_sem] Oper.semAt_some

theorem ba_beq2 (a b : List UInt8) : ((⟨a.toArray⟩ : ByteArray) == ⟨b.toArray⟩) = (a == b) := by
  show (a.toArray == b.toArray) = (a == b)
  simp
theorem Tryz.i26' : (Tryz.prog.info? 26).map (·.size) = some 2 := by kernel_rfl
theorem field50_3 (a b c d e : Value) (W : World) : (Instr.field 50 (.agg #[a, b, c, d, e]) 3).run Tryz.prog W = .ok d W := by kernel_rfl
theorem field50_1 (a b c d e : Value) (W : World) : (Instr.field 50 (.agg #[a, b, c, d, e]) 1).run Tryz.prog W = .ok b W := by kernel_rfl
set_option maxRecDepth 100000 in
set_option maxHeartbeats 4000000 in
theorem spot_any (er : Int) (w : World) (base q c E r o : Nat) (A : Option Addr) (L : List Tk) (M V : Value) (h : Pt w base q A c L E M V r o) :
    Calls Tryz.prog 75 #[.pointer (some ⟨q, 0, none⟩), .int .i64 er] w fun e w' => e = .returned (.agg #[.int .i64 er, .int .i64 ((tokAt L E r).at_ : Int)]) ∧ Below w.heap.size w w' := by
  obtain ⟨g, hg⟩ : ∃ g, w.heap.size = g := ⟨_, rfl⟩
  have b0 : Hid (Blk (w.alloc (.cells #[.int .i64 0, .int .i64 0] 26)) g 26 #[.int .i64 0, .int .i64 0]) := Lib.hid (by rw [← hg]; exact Blk.new _ _ _)
  have h0 : Hid (Below g w (w.alloc (.cells #[.int .i64 0, .int .i64 0] 26))) := Lib.hid (by rw [← hg]; exact (Below.refl _ _).alloc (Nat.le_refl _) _)
  have NX := next_any _ base q c E r o A L M V (h.on (h0.out.mono (by omega)))
  obtain ⟨t, ht⟩ : ∃ t, tokAt L E r = t := ⟨_, rfl⟩
  rw [ht] at NX ⊢
  obtain ⟨kind, text, num, aa, to_⟩ := t
  have NH : Hid (Calls Tryz.prog 110 #[.pointer (some ⟨q, 0, none⟩)] (w.alloc (.cells #[.int .i64 0, .int .i64 0] 26)) fun e w' => e = .returned (.agg #[.int .i64 kind, tx text, .int .i64 num, .int .i64 (aa : Int), .int .i64 (to_ : Int)]) ∧ Below (w.alloc (.cells #[.int .i64 0, .int .i64 0] 26)).heap.size (w.alloc (.cells #[.int .i64 0, .int .i64 0] 26)) w') := Lib.hid NX
  have hz : (w.alloc (.cells #[.int .i64 0, .int .i64 0] 26)).heap.size = g + 1 := by simp [hg]
  have FL := field50_3 (.int .i64 kind) (tx text) (.int .i64 num) (.int .i64 (aa : Int)) (.int .i64 (to_ : Int))
  clear NX h ht
  go_enter Tryz.func75, Tryz.ntmps75
  go_upto_region 1 with fail
  generalize w.alloc (.cells #[.int .i64 0, .int .i64 0] 26) = w1 at *
  go_wp2_with (first
    | (go_at_call 110; refine NH.out.mono ?_; rintro e w2 ⟨rfl, hb⟩; have B2 : Hid (Blk w2 g 26 #[.int .i64 0, .int .i64 0]) := Lib.hid (b0.out.below hb b0.out.lt); have H2 := Lib.hid (h0.out.trans (hb.mono (by omega))); clear hb)
    | ((with_reducible refine at_store (t := 26) ?_); refine wpList_store_blk _ rfl 26 _ _ rfl g _ 26 [.int .i64 er, .int .i64 (aa : Int)] rfl rfl B2.out rfl Tryz.i26' (by simp [Value.oneCell']) ?_; intro w8 hb8 ho8; have X8 := Lib.hid hb8; have H8 := Lib.hid (H2.out.trans (ho8.below (Nat.le_refl _))); clear hb8 ho8))
  exact bodyPost_ret (ret_cell1_tmp rfl _ _ g 26 _ _ rfl X8.out Tryz.underlying26 rfl Tryz.i26') rfl ⟨rfl, by rw [hg]; exact H8.out⟩

set_option maxRecDepth 100000 in
set_option maxHeartbeats 4000000 in
theorem is_any (u : List UInt8) (w : World) (base q c E r o : Nat) (A : Option Addr) (L : List Tk) (M V : Value) (h : Pt w base q A c L E M V r o) :
    Calls Tryz.prog 109 #[.pointer (some ⟨q, 0, none⟩), tx u] w fun e w' => e = .returned (.bool (isB (tokAt L E r) u)) ∧ Below w.heap.size w w' := by
  have NX := next_any w base q c E r o A L M V h
  obtain ⟨t, ht⟩ : ∃ t, tokAt L E r = t := ⟨_, rfl⟩
  rw [ht] at NX ⊢
  obtain ⟨kind, text, num, aa, to_⟩ := t
  have NH : Hid (Calls Tryz.prog 110 #[.pointer (some ⟨q, 0, none⟩)] w fun e w' => e = .returned (.agg #[.int .i64 kind, tx text, .int .i64 num, .int .i64 (aa : Int), .int .i64 (to_ : Int)]) ∧ Below w.heap.size w w') := Lib.hid NX
  have BE := ba_beq2 text u
  unfold isB
  simp only
  clear NX h ht
  cases hx : (text == u) with
  | false =>
    rw [hx] at BE
    go_enter Tryz.func109, Tryz.ntmps109
    go_wp2_with (go_at_call 110; refine NH.out.mono ?_; rintro e w2 ⟨rfl, hb⟩; have H2 := Lib.hid hb; have H3 := Lib.hid (H2.out.alloc H2.out.size (.cells #[.int .i64 kind, tx text, .int .i64 num, .int .i64 (aa : Int), .int .i64 (to_ : Int)] 50)); clear hb)
    go_ret
    exact ⟨rfl, H3.out⟩
  | true =>
    rw [hx] at BE
    cases h1 : (kind == 1) with
    | true =>
      go_enter Tryz.func109, Tryz.ntmps109
      go_wp2_with (go_at_call 110; refine NH.out.mono ?_; rintro e w2 ⟨rfl, hb⟩; have H2 := Lib.hid hb; have H3 := Lib.hid (H2.out.alloc H2.out.size (.cells #[.int .i64 kind, tx text, .int .i64 num, .int .i64 (aa : Int), .int .i64 (to_ : Int)] 50)); clear hb)
      go_ret
      exact ⟨rfl, H3.out⟩
    | false =>
      go_enter Tryz.func109, Tryz.ntmps109
      go_wp2_with (go_at_call 110; refine NH.out.mono ?_; rintro e w2 ⟨rfl, hb⟩; have H2 := Lib.hid hb; have H3 := Lib.hid (H2.out.alloc H2.out.size (.cells #[.int .i64 kind, tx text, .int .i64 num, .int .i64 (aa : Int), .int .i64 (to_ : Int)] 50)); clear hb)
      go_ret
      exact ⟨by simp, H3.out⟩
end Go.Proofs.YtiipglmbfgmbbaaGreatDoor

namespace Go.Proofs.YtiipglmbfgmbbaaGreatDoor
open Go.RowKit Go.Shelf
attribute [local go_sem] Oper.semAt_some

/-- The spot of what is wrong at a token. -/
def pnc (er : Int) (at_ : Nat) : Ending := .panicked [{ v := .iface 26 (.agg #[.int .i64 er, .int .i64 (at_ : Int)]), recovered := false }]
/-- What may be read is read. -/
theorem isB_lt {L : List Tk} {E r : Nat} {u : List UInt8} (h : isB (tokAt L E r) u = true) : r < L.length := by
  apply Classical.byContradiction
  intro hn
  have : tokAt L E r = endT E := by unfold tokAt; simp [List.getD, List.getElem?_eq_none (Nat.le_of_not_lt hn)]
  rw [this] at h
  unfold isB endT at h
  simp at h
set_option maxRecDepth 100000 in
set_option maxHeartbeats 4000000 in
theorem found_any (u : List UInt8) (w : World) (base q c E r o : Nat) (A : Option Addr) (L : List Tk) (M V : Value) (h : Pt w base q A c L E M V r o) :
    Calls Tryz.prog 82 #[.pointer (some ⟨q, 0, none⟩), tx u] w fun e w' => e = .returned (.bool (isB (tokAt L E r) u)) ∧ Pt w' base q A c L E M V (if isB (tokAt L E r) u = true then r + 1 else r) o ∧ Fq w.heap.size q w w' := by
  have IH := Lib.hid (is_any u w base q c E r o A L M V h)
  have PH := Lib.hid h
  have LT : isB (tokAt L E r) u = true → r < L.length := isB_lt
  have hm := h.many
  have hrd := h.rd
  clear h
  cases hb : isB (tokAt L E r) u with
  | false =>
    rw [hb] at IH
    go_enter Tryz.func82, Tryz.ntmps82
    go_wp2_with (go_at_call 109; refine IH.out.mono ?_; rintro e w2 ⟨rfl, hb⟩; have H2 := Lib.hid hb; clear hb)
    go_ret
    exact ⟨rfl, PH.out.on H2.out, Fq.of H2.out (Nat.le_refl _)⟩
  | true =>
    have hlt := LT hb
    rw [hb] at IH
    go_enter Tryz.func82, Tryz.ntmps82
    go_upto_region 3 with (go_at_call 109; refine IH.out.mono ?_; rintro e w2 ⟨rfl, hb⟩; have H2 := Lib.hid hb; clear hb)
    have P2 := Lib.hid (PH.out.on H2.out)
    have x1 : w2.cell? ⟨q, 1, none⟩ = some (.int .i64 (r : Int)) := P2.out.blk.cell 1
    have y1 : w2.frozen? ⟨q, 1, none⟩ = false := P2.out.blk.frozen 1
    go_wp2_with fail
    go_ret
    exact ⟨rfl, P2.out.step hlt, (Fq.of H2.out (Nat.le_refl _)).trans (Fq.set _ _ _ _ _)⟩
theorem kind_lt {L : List Tk} {E r : Nat} {k : Int} (hk : k ≠ 0) (h : ((tokAt L E r).kind == k) = true) : r < L.length := by
  apply Classical.byContradiction
  intro hn
  have : tokAt L E r = endT E := by unfold tokAt; simp [List.getD, List.getElem?_eq_none (Nat.le_of_not_lt hn)]
  rw [this] at h
  rw [beq_iff_eq] at h
  exact hk h.symm
/-- What is told, and where it stands, behind a call that reads; or what is wrong, and where. -/
def Rd (w : World) (base q : Nat) (A : Option Addr) (c : Nat) (L : List Tk) (E : Nat) (M V : Value) (o : Nat) (x : Except (Int × Nat) (Value × Nat)) (e : Ending) (w' : World) : Prop :=
  match x with
  | .ok (v, r') => e = .returned v ∧ Pt w' base q A c L E M V r' o ∧ Fq w.heap.size q w w'
  | .error (er, i) => e = pnc er (tokAt L E i).at_ ∧ Fq w.heap.size q w w'
def oneF (L : List Tk) (E r : Nat) (k : Int) : Except (Int × Nat) (Value × Nat) := if ((tokAt L E r).kind == k) = true then .ok (tkV (tokAt L E r), r + 1) else .error (210, r)
set_option maxRecDepth 100000 in
set_option maxHeartbeats 4000000 in
theorem one_any (k : Int) (hk : k ≠ 0) (w : World) (base q c E r o : Nat) (A : Option Addr) (L : List Tk) (M V : Value) (h : Pt w base q A c L E M V r o) :
    Calls Tryz.prog 114 #[.pointer (some ⟨q, 0, none⟩), .int .i64 k] w (Rd w base q A c L E M V o (oneF L E r k)) := by
  obtain ⟨g, hg⟩ : ∃ g, w.heap.size = g := ⟨_, rfl⟩
  have b0 : Hid (Blk (w.alloc (.cells #[.int .i64 0, .string ⟨#[]⟩, .int .i64 0, .int .i64 0, .int .i64 0] 50)) g 50 #[.int .i64 0, .string ⟨#[]⟩, .int .i64 0, .int .i64 0, .int .i64 0]) := Lib.hid (by rw [← hg]; exact Blk.new _ _ _)
  have h0 : Hid (Below g w (w.alloc (.cells #[.int .i64 0, .string ⟨#[]⟩, .int .i64 0, .int .i64 0, .int .i64 0] 50))) := Lib.hid (by rw [← hg]; exact (Below.refl _ _).alloc (Nat.le_refl _) _)
  have P1 := h.on (h0.out.mono (by omega))
  have NX := next_any _ base q c E r o A L M V P1
  have PH := Lib.hid P1
  have hle := h.le
  have hlt0 := h.lt
  have hrd := h.rd
  have hm := h.many
  have SP := Lib.hid (fun W (hP : Pt W base q A c L E M V r o) => spot_any 210 W base q c E r o A L M V hP)
  have KL : ((tokAt L E r).kind == k) = true → r < L.length := kind_lt hk
  unfold oneF
  obtain ⟨t, ht⟩ : ∃ t, tokAt L E r = t := ⟨_, rfl⟩
  have HT := Lib.hid ht
  rw [ht] at NX SP KL ⊢
  obtain ⟨kind, text, num, aa, to_⟩ := t
  obtain ⟨T, hTT⟩ : ∃ T : ByteArray, (⟨text.toArray⟩ : ByteArray) = T := ⟨_, rfl⟩
  have NH : Hid (Calls Tryz.prog 110 #[.pointer (some ⟨q, 0, none⟩)] (w.alloc (.cells #[.int .i64 0, .string ⟨#[]⟩, .int .i64 0, .int .i64 0, .int .i64 0] 50)) fun e w' => e = .returned (.agg #[.int .i64 kind, .string T, .int .i64 num, .int .i64 (aa : Int), .int .i64 (to_ : Int)]) ∧ Below (w.alloc (.cells #[.int .i64 0, .string ⟨#[]⟩, .int .i64 0, .int .i64 0, .int .i64 0] 50)).heap.size (w.alloc (.cells #[.int .i64 0, .string ⟨#[]⟩, .int .i64 0, .int .i64 0, .int .i64 0] 50)) w') := Lib.hid (by rw [← hTT]; exact NX)
  have HTT := Lib.hid hTT
  have hz : (w.alloc (.cells #[.int .i64 0, .string ⟨#[]⟩, .int .i64 0, .int .i64 0, .int .i64 0] 50)).heap.size = g + 1 := by simp [hg]
  clear NX h ht P1 hTT
  simp only at KL ⊢
  cases hkk : (kind == k) with
  | false =>
    have hn : (kind != k) = true := by rw [bne, hkk]; rfl
    go_enter Tryz.func114, Tryz.ntmps114
    go_upto_region 1 with fail
    generalize w.alloc (.cells #[.int .i64 0, .string ⟨#[]⟩, .int .i64 0, .int .i64 0, .int .i64 0] 50) = w1 at *
    go_upto_region 3 with (go_at_call 110; refine NH.out.mono ?_; rintro e w2 ⟨rfl, hb⟩; have P2 := Lib.hid (PH.out.on hb); have H2 := Lib.hid (h0.out.trans (hb.mono (by omega))); clear hb)
    have AL : Below w2.heap.size w2 (w2.alloc (.cells #[.int .i64 kind, .string T, .int .i64 num, .int .i64 (aa : Int), .int .i64 (to_ : Int)] 50)) := (Below.refl _ _).alloc (Nat.le_refl _) _
    have P3 := Lib.hid (P2.out.on AL)
    have H3 := Lib.hid (H2.out.trans (AL.mono (by have := H2.out.size; omega)))
    clear AL
    have SP2 := Lib.hid (SP.out _ P3.out)
    go_wp2_with (go_at_call 75; refine SP2.out.mono ?_; rintro e w4 ⟨rfl, hb⟩; have H4 := Lib.hid (H3.out.trans (hb.mono (by have := H3.out.size; omega))); clear hb)
    exact ⟨rfl, by rw [HT.out]; rfl, Fq.of H4.out (by omega)⟩
  | true =>
    have hn : (kind != k) = false := by rw [bne, hkk]; rfl
    have hlt := KL hkk
    go_enter Tryz.func114, Tryz.ntmps114
    go_upto_region 1 with fail
    generalize w.alloc (.cells #[.int .i64 0, .string ⟨#[]⟩, .int .i64 0, .int .i64 0, .int .i64 0] 50) = w1 at *
    go_upto_region 4 with (go_at_call 110; refine NH.out.mono ?_; rintro e w2 ⟨rfl, hb⟩; have P2 := Lib.hid (PH.out.on hb); have B2 : Hid (Blk w2 g 50 #[.int .i64 0, .string ⟨#[]⟩, .int .i64 0, .int .i64 0, .int .i64 0]) := Lib.hid (b0.out.below hb b0.out.lt); have H2 := Lib.hid (h0.out.trans (hb.mono (by omega))); clear hb)
    have AL : Below w2.heap.size w2 (w2.alloc (.cells #[.int .i64 kind, .string T, .int .i64 num, .int .i64 (aa : Int), .int .i64 (to_ : Int)] 50)) := (Below.refl _ _).alloc (Nat.le_refl _) _
    have P3 := Lib.hid (P2.out.on AL)
    have H3 := Lib.hid (H2.out.trans (AL.mono (by have := H2.out.size; omega)))
    have B3 : Hid (Blk (w2.alloc (.cells #[.int .i64 kind, .string T, .int .i64 num, .int .i64 (aa : Int), .int .i64 (to_ : Int)] 50)) g 50 #[.int .i64 0, .string ⟨#[]⟩, .int .i64 0, .int .i64 0, .int .i64 0]) := Lib.hid (B2.out.alloc _)
    have C3 : Hid (Blk (w2.alloc (.cells #[.int .i64 kind, .string T, .int .i64 num, .int .i64 (aa : Int), .int .i64 (to_ : Int)] 50)) w2.heap.size 50 #[.int .i64 kind, .string T, .int .i64 num, .int .i64 (aa : Int), .int .i64 (to_ : Int)]) := Lib.hid (Blk.new _ _ _)
    have hgk : g < w2.heap.size := B2.out.lt
    have hqk : q < w2.heap.size := P2.out.blk.lt
    clear AL P2 H2 B2
    generalize w2.heap.size = k2 at *
    generalize w2.alloc (.cells #[.int .i64 kind, .string T, .int .i64 num, .int .i64 (aa : Int), .int .i64 (to_ : Int)] 50) = w3 at *
    have x1 : w3.cell? ⟨q, 1, none⟩ = some (.int .i64 (r : Int)) := P3.out.blk.cell 1
    have y1 : w3.frozen? ⟨q, 1, none⟩ = false := P3.out.blk.frozen 1
    go_upto_region 5 with fail
    have P4 := Lib.hid (P3.out.step hlt)
    have H4 := Lib.hid ((Fq.of (q := q) H3.out (Nat.le_refl g)).trans (Fq.set g q 1 w3 (.int .i64 ((r : Int) + 1))))
    have B4 : Hid (Blk (w3.setCell ⟨q, 1, none⟩ (.int .i64 ((r : Int) + 1))) g 50 #[.int .i64 0, .string ⟨#[]⟩, .int .i64 0, .int .i64 0, .int .i64 0]) := Lib.hid (B3.out.far (by simp; omega) _)
    have C4 : Hid (Blk (w3.setCell ⟨q, 1, none⟩ (.int .i64 ((r : Int) + 1))) k2 50 #[.int .i64 kind, .string T, .int .i64 num, .int .i64 (aa : Int), .int .i64 (to_ : Int)]) := Lib.hid (C3.out.far (by simp; omega) _)
    clear P3 H3 B3 C3 x1 y1
    generalize w3.setCell ⟨q, 1, none⟩ (.int .i64 ((r : Int) + 1)) = w4 at *
    have z0 : w4.cell? ⟨k2, 0, none⟩ = some (.int .i64 kind) := C4.out.cell 0
    have z1 : w4.cell? ⟨k2, 1, none⟩ = some (.string T) := C4.out.cell 1
    have z2 : w4.cell? ⟨k2, 2, none⟩ = some (.int .i64 num) := C4.out.cell 2
    have z3 : w4.cell? ⟨k2, 3, none⟩ = some (.int .i64 (aa : Int)) := C4.out.cell 3
    have z4 : w4.cell? ⟨k2, 4, none⟩ = some (.int .i64 (to_ : Int)) := C4.out.cell 4
    go_wp2_with ((with_reducible refine at_store (t := 50) ?_); refine wpList_store_blk _ rfl 50 _ _ rfl g _ 50 [.int .i64 kind, .string T, .int .i64 num, .int .i64 (aa : Int), .int .i64 (to_ : Int)] rfl rfl B4.out rfl Tryz.i47 (by simp [Value.oneCell']) ?_; intro w8 hb8 ho8; have X8 := Lib.hid hb8; have P8 := Lib.hid (P4.out.keep (ho8.below (by omega))); have H8 := Lib.hid (H4.out.trans (Fq.of (q := q) (ho8.below (Nat.le_refl g)) (Nat.le_refl g))); clear hb8 ho8)
    exact bodyPost_ret (ret_cell1_tmp rfl _ _ g 50 _ _ rfl X8.out Tryz.underlying50 rfl Tryz.i47) rfl ⟨by rw [← HTT.out]; rfl, P8.out, by rw [hg]; exact H8.out⟩
end Go.Proofs.YtiipglmbfgmbbaaGreatDoor

namespace Go.Proofs.YtiipglmbfgmbbaaGreatDoor
open Go.RowKit Go.Shelf
attribute [local go_sem] Oper.semAt_some

def nameF (L : List Tk) (E r : Nat) : Except (Int × Nat) (List UInt8 × Nat) := if ((tokAt L E r).kind == 2) = true then .ok ((tokAt L E r).text, r + 1) else .error (210, r)
theorem field50_1t (t : Tk) (W : World) : (Instr.field 50 (.agg #[.int .i64 t.kind, tx t.text, .int .i64 t.num, .int .i64 (t.at_ : Int), .int .i64 (t.to_ : Int)]) 1).run Tryz.prog W = .ok (tx t.text) W := by kernel_rfl
set_option maxRecDepth 100000 in
set_option maxHeartbeats 4000000 in
theorem name_any (w : World) (base q c E r o : Nat) (A : Option Addr) (L : List Tk) (M V : Value) (h : Pt w base q A c L E M V r o) :
    Calls Tryz.prog 77 #[.pointer (some ⟨q, 0, none⟩)] w (Rd w base q A c L E M V o ((nameF L E r).map fun p => (tx p.1, p.2))) := by
  have OX := one_any 2 (by decide) w base q c E r o A L M V h
  unfold oneF at OX
  unfold nameF
  cases hk : ((tokAt L E r).kind == 2) with
  | false =>
    rw [hk] at OX
    have OH : Hid (Calls Tryz.prog 114 #[.pointer (some ⟨q, 0, none⟩), .int .i64 2] w fun e w' => e = .panicked [{ v := .iface 26 (.agg #[.int .i64 210, .int .i64 ((tokAt L E r).at_ : Int)]), recovered := false }] ∧ Fq w.heap.size q w w') := Lib.hid OX
    clear OX h
    go_enter Tryz.func77, Tryz.ntmps77
    go_wp2_with (go_at_call 114; refine OH.out.mono ?_; rintro e w2 ⟨rfl, hF⟩; have F2 := Lib.hid hF; clear hF)
    exact ⟨rfl, rfl, F2.out⟩
  | true =>
    rw [hk] at OX
    obtain ⟨t, ht⟩ : ∃ t, tokAt L E r = t := ⟨_, rfl⟩
    rw [ht] at OX ⊢
    have FL := field50_1t t
    have OH : Hid (Calls Tryz.prog 114 #[.pointer (some ⟨q, 0, none⟩), .int .i64 2] w fun e w' => e = .returned (.agg #[.int .i64 t.kind, tx t.text, .int .i64 t.num, .int .i64 (t.at_ : Int), .int .i64 (t.to_ : Int)]) ∧ Pt w' base q A c L E M V (r + 1) o ∧ Fq w.heap.size q w w') := Lib.hid OX
    clear OX h
    go_enter Tryz.func77, Tryz.ntmps77
    go_wp2_with (go_at_call 114; refine OH.out.mono ?_; rintro e w2 ⟨rfl, hP, hF⟩; have P2 := Lib.hid hP; have F2 := Lib.hid hF; clear hP hF)
    go_ret
    exact ⟨rfl, P2.out, F2.out⟩

def wordsF (L : List Tk) (E : Nat) : Nat → List (List UInt8) → Except (Int × Nat) Nat
  | r, [] => .ok r
  | r, u :: us => if isB (tokAt L E r) u = true then wordsF L E (r + 1) us else .error (210, r)
/-- Texts in a block. -/
def Sb (w : World) (b : Nat) (us : List (List UInt8)) : Prop := b < w.heap.size ∧ ∀ i, i < us.length → w.cell? ⟨b, i, none⟩ = some (tx (us.getD i []))
theorem Sb.fq {w w' : World} {b q : Nat} {us : List (List UInt8)} (h : Sb w b us) (hq : b ≠ q) (hF : Fq w.heap.size q w w') : Sb w' b us :=
  ⟨Nat.lt_of_lt_of_le h.1 hF.size, fun i hi => by rw [← h.2 i hi]; simp only [World.cell?, hF.block b h.1 hq]⟩
theorem Fq.up {q : Nat} {a b c : World} (h : Fq a.heap.size q a b) (k : Fq b.heap.size q b c) : Fq a.heap.size q a c := h.trans (k.mono h.size)
theorem wordsF_drop {L : List Tk} {E r : Nat} {us : List (List UInt8)} {i : Nat} (hi : i < us.length) : wordsF L E r (us.drop i) = if isB (tokAt L E r) (us.getD i []) = true then wordsF L E (r + 1) (us.drop (i + 1)) else .error (210, r) := by
  rw [List.drop_eq_getElem_cons hi]
  have : us.getD i [] = us[i] := by simp [List.getD, hi]
  rw [this]
  rfl
set_option maxRecDepth 100000 in
set_option maxHeartbeats 4000000 in
theorem words_any (us : List (List UInt8)) (n b : Nat) (w : World) (base q c E r o : Nat) (A : Option Addr) (L : List Tk) (M V : Value) (h : Pt w base q A c L E M V r o) (hn : us.length = n) (hn2 : n ≤ 100) (hS : Sb w b us) (hq : b ≠ q) :
    Calls Tryz.prog 49 #[.pointer (some ⟨q, 0, none⟩), .slice (some ⟨b, 0, none⟩) n n] w (Rd w base q A c L E M V o ((wordsF L E r us).map fun r' => (.tuple #[], r'))) := by
  have PH := Lib.hid h
  have SH := Lib.hid hS
  obtain ⟨X, hX⟩ : ∃ X, wordsF L E r us = X := ⟨_, rfl⟩
  have HX := Lib.hid hX
  rw [hX]
  clear h hS hX
  go_enter Tryz.func49, Tryz.ntmps49
  go_wp2
  go_loopw [8] (fun iv wr => ∃ i r2 : Nat, i ≤ n ∧ iv = .int .i64 (i : Int) ∧ Hid (wordsF L E r2 (us.drop i) = X) ∧ Hid (Pt wr base q A c L E M V r2 o) ∧ Hid (Fq w.heap.size q w wr)) (fun iv _ => n - (intOf iv).toNat)
  case atStart => exact ⟨0, r, Nat.zero_le _, rfl, Lib.hid (by rw [List.drop_zero]; exact HX.out), PH, Lib.hid (Fq.refl _ _ _)⟩
  case round =>
    obtain ⟨i, r2, hi, rfl, HW, HP, HF⟩ := hrel
    by_cases hlt : i < n
    · have i0 : (0 : Int) ≤ (i : Int) := by omega
      have i1 : (i : Int) < (n : Int) := by omega
      have S2 := SH.out.fq hq HF.out
      have x0 : wr.cell? ⟨b, i, none⟩ = some (tx (us.getD i [])) := S2.2 i (by omega)
      have HW2 := HW.out
      rw [wordsF_drop (by omega)] at HW2
      have FD := found_any (us.getD i []) wr base q c E r2 o A L M V HP.out
      have SP := Lib.hid (fun W (hP : Pt W base q A c L E M V r2 o) => spot_any 210 W base q c E r2 o A L M V hP)
      generalize us.getD i [] = u at *
      cases hb : isB (tokAt L E r2) u with
      | true =>
        rw [hb] at FD HW2
        rw [if_pos rfl] at HW2
        have FH : Hid (Calls Tryz.prog 82 #[.pointer (some ⟨q, 0, none⟩), tx u] wr fun e w' => e = .returned (.bool true) ∧ Pt w' base q A c L E M V (r2 + 1) o ∧ Fq wr.heap.size q wr w') := Lib.hid FD
        have HW3 := Lib.hid HW2
        clear FD HW2 HW S2 SP
        go_wp2_with (go_at_call 82; refine FH.out.mono ?_; rintro e w2 ⟨rfl, hP, hF⟩; have P2 := Lib.hid hP; have F2 := Lib.hid (HF.out.up hF); clear hP hF)
        go_roundw
        case rel => exact ⟨i + 1, r2 + 1, by omega, by go_num, HW3, P2, F2⟩
        case measure => simp [intOf]; omega
      | false =>
        rw [hb] at FD HW2
        rw [if_neg (by decide)] at HW2
        have FH : Hid (Calls Tryz.prog 82 #[.pointer (some ⟨q, 0, none⟩), tx u] wr fun e w' => e = .returned (.bool false) ∧ Pt w' base q A c L E M V r2 o ∧ Fq wr.heap.size q wr w') := Lib.hid FD
        subst HW2
        clear FD HW S2 HX
        go_wp2_with (first
          | (go_at_call 82; refine FH.out.mono ?_; rintro e w2 ⟨rfl, hP, hF⟩; have P2 := Lib.hid hP; have F2 := Lib.hid (HF.out.up hF); clear hP hF)
          | (go_at_call 75; refine (SP.out _ P2.out).mono ?_; rintro e w3 ⟨rfl, hb3⟩; have F3 := Lib.hid (F2.out.up (Fq.of hb3 (Nat.le_refl _))); clear hb3))
        exact ⟨rfl, rfl, F3.out⟩
    · obtain rfl : i = n := by omega
      have HW2 := HW.out
      rw [← hn, List.drop_length] at HW2
      have e : X = .ok r2 := HW2.symm
      subst e
      go_wp2_with fail
      go_end0
      exact ⟨rfl, HP.out, HF.out⟩
end Go.Proofs.YtiipglmbfgmbbaaGreatDoor
