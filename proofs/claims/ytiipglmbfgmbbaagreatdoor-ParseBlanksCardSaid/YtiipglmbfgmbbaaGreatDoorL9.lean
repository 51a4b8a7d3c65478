/-
  A quoted text that begins at a place: the program's quoted.
-/
import Derived.Test.YtiipglmbfgmbbaaGreatDoorPkD
import Derived.Test.YtiipglmbfgmbbaaGreatDoorPkB
namespace Go.Proofs.YtiipglmbfgmbbaaGreatDoor
open Go.RowKit Go.Shelf
attribute [local go_sem] Oper.semAt_some

/-- What a quoted text says, and where it ends: behind what came so far. -/
def quoN : Bool → List UInt8 → Nat → Nat → List UInt8 → Option (List UInt8 × Nat)
  | al, sd, _, to_, [] => if al = true then some (sd, to_) else none
  | al, sd, i, to_, b :: r =>
    if ((b.toNat : Int) == 39) = true then (if al = true then quoN false (sd ++ [b]) (i + 1) to_ r else quoN true sd (i + 1) (i + 1) r)
    else if al = true then some (sd, to_) else if plnB (b.toNat : Int) = true then quoN false (sd ++ [b]) (i + 1) to_ r else none
def quotedF (l : List UInt8) (p : Nat) : Tk × Int :=
  match quoN false [] (p + 1) p (l.drop (p + 1)) with
  | none => (errT p, 200)
  | some (sd, t) => if 64 < sd.length then (errT p, 200) else (⟨4, sd, 0, p, t⟩, 0)

theorem bstr_any (B b : Nat) (l : List UInt8) (w : World) (h : Lib.IsBuilder 80 5 B b (Lib.byteCells l) w) (hBw : B ≤ w.heap.size) :
    Calls Tryz.prog 30 #[.pointer (some ⟨b, 0, none⟩)] w fun e w' => e = .returned (tx l) ∧ Below B w w' ∧ Lib.OthersKept 5 (some b) w w' := by
  refine (show Calls Tryz.prog 30 #[.pointer (some ⟨b, 0, none⟩)] w _ from Any.Builder_String_any_k Tryz.lays169 Tryz.Builder_Extra_169 B b l w (by
    rcases h with h | h
    · exact .inl (Lib.BuilderAtF.of h)
    · exact .inr (Lib.BuilderAtF.of h)) hBw).mono ?_
  rintro e w' ⟨rfl, _, h1, h2⟩
  exact ⟨rfl, h1, h2⟩
theorem ownsRow_off {d base n : Nat} {w w' : World} {v : Value} {xs : List Value} (h : w.ownsRow base 5 1 v n xs) (hN : NoC d w) (ho : Off d w w') : w'.ownsRow base 5 1 v n xs := by
  refine ⟨h.1, ?_⟩
  rcases h.2 with h0 | ⟨g, cap, cur, hv, hb, hh, h1, h2, h3, h4⟩
  · exact .inl h0
  · exact .inr ⟨g, cap, cur, hv, hb, Off.blk (t := 5) (cs := cur) ho hN hh, h1, h2, h3, h4⟩
theorem builderAt_off {d B b : Nat} {w w' : World} {q : Value} {bs : List Value} (h : Lib.BuilderAt 80 5 B b q bs w) (hN : NoC d w) (ho : Off d w w') : Lib.BuilderAt 80 5 B b q bs w' := by
  obtain ⟨hB, v, hb, hown, hne⟩ := h
  exact ⟨hB, v, Off.blk (t := 80) ho hN hb, ownsRow_off hown hN ho, hne⟩
theorem builder_off {d B b : Nat} {w w' : World} {bs : List Value} (h : Lib.IsBuilder 80 5 B b bs w) (hN : NoC d w) (ho : Off d w w') : Lib.IsBuilder 80 5 B b bs w' := by
  rcases h with h | h
  · exact .inl (builderAt_off h hN ho)
  · exact .inr (builderAt_off h hN ho)
/-- A store into another block, of no bytes. -/
theorem ownsRow_set {base n : Nat} {w : World} {v : Value} {xs : List Value} (h : w.ownsRow base 5 1 v n xs) {q : Addr} {t : TypeId} {cs : Array Value} (hq : Blk w q.block t cs) (ht : t ≠ 5) (u : Value) : (w.setCell q u).ownsRow base 5 1 v n xs := by
  refine ⟨h.1, ?_⟩
  rcases h.2 with h0 | ⟨g, cap, cur, hv, hb, hh, h1, h2, h3, h4⟩
  · exact .inl h0
  · refine .inr ⟨g, cap, cur, hv, hb, Blk.far (t := 5) (cs := cur) hh (fun e => ?_) u, h1, h2, h3, h4⟩
    subst e
    unfold Blk at hq
    rw [hh] at hq
    injection hq with hq
    injection hq with _ hq _
    exact ht hq.symm
theorem builder_set {B b : Nat} {w : World} {bs : List Value} (h : Lib.IsBuilder 80 5 B b bs w) {q : Addr} {t : TypeId} {cs : Array Value} (hq : Blk w q.block t cs) (ht : t ≠ 5) (hb : b ≠ q.block) (u : Value) : Lib.IsBuilder 80 5 B b bs (w.setCell q u) := by
  rcases h with ⟨hB, v, hh, hown, hne⟩ | ⟨hB, v, hh, hown, hne⟩
  · exact .inl ⟨hB, v, Blk.far (t := 80) hh hb u, ownsRow_set hown hq ht u, hne⟩
  · exact .inr ⟨hB, v, Blk.far (t := 80) hh hb u, ownsRow_set hown hq ht u, hne⟩
theorem blk_others {b : Nat} {w w' : World} (h : Lib.OthersKept 5 (some b) w w') {g : Nat} {t : TypeId} {cs : Array Value} (hb : Blk w g t cs) (hg : g ≠ b) (ht : t ≠ 5) : Blk w' g t cs :=
  h g _ hb (fun e => hg (Option.some.inj e)) (fun c fz e => by injection e with _ e _; exact ht e)
theorem Tryz.i26 : (Tryz.prog.info? 24).map (·.size) = some 1 := by kernel_rfl

/-- What quoted keeps: its place, token, error, builder, end, whether the last sign stands alone, the text. -/
structure Qb (l : List UInt8) (g p to_ : Nat) (al : Bool) (sd : List UInt8) (W : World) : Prop where
  b0 : Blk W g 3 #[.int .i64 (p : Int)]
  b1 : Blk W (g + 1) 50 #[.int .i64 0, .string ⟨#[]⟩, .int .i64 0, .int .i64 0, .int .i64 0]
  b2 : Blk W (g + 2) 24 #[.int .i64 0]
  bd : Lib.IsBuilder 80 5 (g + 3) (g + 3) (Lib.byteCells sd) W
  b4 : Blk W (g + 4) 3 #[.int .i64 (to_ : Int)]
  b5 : Blk W (g + 5) 4 #[.bool al]
  b6 : Blk W (g + 6) 9 #[tx l]
section
variable {l : List UInt8} {g p to_ : Nat} {al : Bool} {sd : List UInt8} {W W' : World}
theorem Qb.off {d : Nat} (h : Qb l g p to_ al sd W) (hN : NoC d W) (ho : Off d W W') : Qb l g p to_ al sd W' :=
  ⟨ho.blk hN h.b0, ho.blk hN h.b1, ho.blk hN h.b2, builder_off h.bd hN ho, ho.blk hN h.b4, ho.blk hN h.b5, ho.blk hN h.b6⟩
theorem Qb.kept {sd' : List UInt8} (h : Qb l g p to_ al sd W) (ho : Lib.OthersKept 5 (some (g + 3)) W W') (hb : Lib.IsBuilder 80 5 (g + 3) (g + 3) (Lib.byteCells sd') W') : Qb l g p to_ al sd' W' :=
  ⟨blk_others ho h.b0 (by omega) (by decide), blk_others ho h.b1 (by omega) (by decide), blk_others ho h.b2 (by omega) (by decide), hb, blk_others ho h.b4 (by omega) (by decide), blk_others ho h.b5 (by omega) (by decide), blk_others ho h.b6 (by omega) (by decide)⟩
theorem Qb.set5 (h : Qb l g p to_ al sd W) (x : Bool) : Qb l g p to_ x sd (W.setCell ⟨g + 5, 0, none⟩ (.bool x)) :=
  ⟨h.b0.far (by simp <;> omega) _, h.b1.far (by simp) _, h.b2.far (by simp) _, builder_set h.bd (q := ⟨g + 5, 0, none⟩) h.b5 (by decide) (by simp) _, h.b4.far (by simp) _, h.b5.set_ 0 _, h.b6.far (by simp) _⟩
theorem Qb.set4 (h : Qb l g p to_ al sd W) (x : Nat) : Qb l g p x al sd (W.setCell ⟨g + 4, 0, none⟩ (.int .i64 (x : Int))) :=
  ⟨h.b0.far (by simp <;> omega) _, h.b1.far (by simp) _, h.b2.far (by simp) _, builder_set h.bd (q := ⟨g + 4, 0, none⟩) h.b4 (by decide) (by simp) _, h.b4.set_ 0 _, h.b5.far (by simp) _, h.b6.far (by simp) _⟩
end
theorem resTE {fn : Func} (h : fn.results = #[.cell 4 50, .cell 5 24]) (tmps : Array Value) (w : World) (g g2 : Nat) (c0 c1 c2 c3 c4 : Value) (i : Int)
    (hp : tmps.getD 4 undef = .pointer (some ⟨g, 0, none⟩)) (hg : Blk w g 50 #[c0, c1, c2, c3, c4]) (hp2 : tmps.getD 5 undef = .pointer (some ⟨g2, 0, none⟩)) (hg2 : Blk w g2 24 #[.int .i64 i]) :
    (results fn tmps).run Tryz.prog w = .ok (.tuple #[.agg #[c0, c1, c2, c3, c4], .int .i64 i]) w := by
  have hp' : tmps[4]?.getD undef = .pointer (some ⟨g, 0, none⟩) := by simpa using hp
  have hp2' : tmps[5]?.getD undef = .pointer (some ⟨g2, 0, none⟩) := by simpa using hp2
  have d0 : w.cell? ⟨g2, 0, none⟩ = some (.int .i64 i) := hg2.cell 0
  have e0 : w.cell? ⟨g, 0, none⟩ = some c0 := hg.cell 0
  have e1 : w.cell? ⟨g, 1, none⟩ = some c1 := hg.cell 1
  have e2 : w.cell? ⟨g, 2, none⟩ = some c2 := hg.cell 2
  have e3 : w.cell? ⟨g, 3, none⟩ = some c3 := hg.cell 3
  have e4 : w.cell? ⟨g, 4, none⟩ = some c4 := hg.cell 4
  simp [results, h, hp', hp2', go_sem, e0, e1, e2, e3, e4, d0]

set_option maxRecDepth 100000 in
set_option maxHeartbeats 8000000 in
theorem quoted_any (l : List UInt8) (p : Nat) (hl : l.length ≤ 1000000) (hp : p < l.length) (w : World) :
    Calls Tryz.prog 94 #[tx l, .int .i64 (p : Int)] w fun e w' => e = .returned (begR (quotedF l p)) ∧ Below w.heap.size w w' := by
  have QN : Hid (quoN false [] (p + 1) p (l.drop (p + 1)) = none → quotedF l p = (errT p, 200)) := Lib.hid (fun h => by unfold quotedF; rw [h])
  have QS : Hid (∀ sd t, quoN false [] (p + 1) p (l.drop (p + 1)) = some (sd, t) → quotedF l p = if 64 < sd.length then (errT p, 200) else (⟨4, sd, 0, p, t⟩, 0)) := Lib.hid (fun sd t h => by unfold quotedF; rw [h])
  have PL := Lib.hid (fun k W => plain_any (bt l k) (bt0 l k) (bt1 l k) W)
  generalize quotedF l p = QR at *
  obtain ⟨g, hg⟩ : ∃ g, w.heap.size = g := ⟨_, rfl⟩
  have p1 : (0 : Int) ≤ (p : Int) := by omega
  have p2 : (p : Int) + 1 ≤ 9000000 := by omega
  refine (callsIn_wide (n := 9)).1 ?_
  refine callsIn_of_wp_marks Tryz.func94 rfl trivial ?_ rfl
  simp only [Tryz.ntmps94, List.size_toArray, List.length_cons, List.length_nil, Nat.reduceAdd, Nat.reduceSub, Array.replicate_succ, Array.replicate_zero, List.push_toArray, List.append_toArray, List.nil_append, List.cons_append]
  refine wpIn_wide.2 ?_
  go_wp2
  refine wp_scope_jumps 0 (fun a W => ∃ sd to_ D v41 v42, Hid (quoN false [] (p + 1) p (l.drop (p + 1)) = some (sd, to_)) ∧ Hid (sd.length ≤ l.length) ∧ Qb l g p to_ true sd W ∧ Below g w W ∧ g + 8 ≤ D ∧ W.heap[D]? = some (.deferred (some [])) ∧ a = { tmps := #[tx l, .int .i64 (p : Int), undef, .pointer (some ⟨g, 0, none⟩), .pointer (some ⟨g + 1, 0, none⟩), .pointer (some ⟨g + 1 + 1, 0, none⟩), .pointer (some ⟨g + 1 + 1 + 1, 0, none⟩), .pointer (some ⟨g + 1 + 1 + 1 + 1, 0, none⟩), .pointer (some ⟨g + 1 + 1 + 1 + 1 + 1, 0, none⟩), undef, undef, .int .i64 (p : Int), tx l, .int .i64 (p : Int), .int .i64 ((p : Int) + 1), .func (.func 124) #[] #[.pointer (some ⟨g + 1 + 1 + 1 + 1 + 1 + 1 + 1, 0, none⟩), .pointer (some ⟨g + 1 + 1 + 1 + 1 + 1 + 1, 0, none⟩)], undef, undef, undef, undef, undef, undef, undef, undef, undef, undef, undef, undef, undef, undef, undef, undef, undef, undef, undef, undef, undef, undef, undef, undef, undef, v41, v42, undef, undef, undef, undef, undef, undef, undef, undef, undef, undef], defers := [{ target := .collected D, args := #[] }] }) (fun _ _ => 0) rfl ?first ?pass
  case first =>
    go_wp2_with (go_at_call 88; refine (from_any _ _ _).mono ?_; rintro e w' ⟨rfl, rfl⟩)
    obtain ⟨W0, hW0⟩ : ∃ W0, ((((((((w.alloc (.cells #[.int .i64 (p : Int)] 3)).alloc (.cells #[.int .i64 0, .string ⟨#[]⟩, .int .i64 0, .int .i64 0, .int .i64 0] 50)).alloc (.cells #[.int .i64 0] 24)).alloc (.cells #[.pointer none, .slice none 0 0] 80)).alloc (.cells #[.int .i64 (p : Int)] 3)).alloc (.cells #[.bool false] 4)).alloc (.cells #[tx l] 9)).alloc (.cells #[.int .i64 ((p : Int) + 1)] 3)) = W0 := ⟨_, rfl⟩
    have q0 : Qb l g p p false [] W0 := by
      rw [← hW0]
      refine ⟨?_, ?_, ?_, .inl ⟨Nat.le_refl _, .slice none 0 0, ?_, World.ownsRow_nil _ _ _ _, by simp [Value.ownBlock]⟩, ?_, ?_, ?_⟩
      · exact ((((((((Blk.fresh hg.symm).alloc _).alloc _).alloc _).alloc _).alloc _).alloc _).alloc _)
      · exact ((((((Blk.fresh (by simp [hg])).alloc _).alloc _).alloc _).alloc _).alloc _).alloc _
      · exact (((((Blk.fresh (by simp [hg])).alloc _).alloc _).alloc _).alloc _).alloc _
      · exact (((((Blk.fresh (t := 80) (by simp [hg])).alloc _).alloc _).alloc _).alloc _)
      · exact (((Blk.fresh (by simp [hg])).alloc _).alloc _).alloc _
      · exact ((Blk.fresh (by simp [hg])).alloc _).alloc _
      · exact (Blk.fresh (by simp [hg])).alloc _
    have b7 : Blk W0 (g + 6 + 1) 3 #[.int .i64 ((p + 1 : Nat) : Int)] := by rw [← hW0]; exact Blk.fresh (by simp [hg])
    have hb0 : Below g w W0 := by rw [← hW0, ← hg]; exact ((((((((Below.refl _ _).alloc (Nat.le_refl _) _).alloc (by simp) _).alloc (by simp; omega) _).alloc (by simp; omega) _).alloc (by simp; omega) _).alloc (by simp; omega) _).alloc (by simp; omega) _).alloc (by simp; omega) _
    have hs0 : W0.heap.size = g + 8 := by rw [← hW0, ← hg]; simp
    rw [hW0]
    clear hW0
    refine (wpIn_wide (n := 9)).1 ?_
    refine wpIn_rangeFunc_need rfl (by omega) (gf := 124) (lb := #[.pointer (some ⟨g + 6 + 1, 0, none⟩), .pointer (some ⟨g + 6, 0, none⟩)]) rfl trivial (enters_of Tryz.func124 (by kernel_rfl) rfl)
      (from1_need 8 (by omega) l (p + 1) hl (by omega) (g + 6) W0 b7) (fun _ => rfl)
      (fun k W => ∃ al sd to_, Hid (quoN false [] (p + 1) p (l.drop (p + 1)) = quoN al sd (p + 1 + k) to_ (l.drop (p + 1 + k))) ∧ Hid (sd.length ≤ k) ∧ Qb l g p to_ al sd W ∧ Below g w W)
      (fun c k W => (c = .ret ∧ Hid (quoN false [] (p + 1) p (l.drop (p + 1)) = none) ∧ Blk W (g + 1) 50 #[.int .i64 0, tx [], .int .i64 0, .int .i64 (p : Int), .int .i64 0] ∧ Blk W (g + 2) 24 #[.int .i64 200] ∧ Below g w W) ∨ (c = .goto 0 ∧ ∃ sd to_, Hid (quoN false [] (p + 1) p (l.drop (p + 1)) = some (sd, to_)) ∧ Hid (sd.length ≤ l.length) ∧ Qb l g p to_ true sd W ∧ Below g w W))
      (fun k A B hs hN ho => by
        obtain ⟨al, sd, to_, h0, h1, h2, h3⟩ := hs
        exact ⟨al, sd, to_, h0, h1, h2.off hN ho, h3.trans (ho.below (by omega) (by have := h2.b0.lt; omega))⟩)
      (fun c k A B hs hN ho => by
        rcases hs with ⟨h0, h1, h2, h3, h4⟩ | ⟨h0, sd, to_, h1, h2, h3, h4⟩
        · exact .inl ⟨h0, h1, ho.blk hN h2, ho.blk hN h3, h4.trans (ho.below (by omega) (by have := h2.lt; omega))⟩
        · exact .inr ⟨h0, sd, to_, h1, h2, h3.off hN ho, h4.trans (ho.below (by omega) (by have := h3.b0.lt; omega))⟩)
      ⟨false, [], p, Lib.hid rfl, Lib.hid (Nat.le_refl _), q0, hb0⟩ (fun k A hs => by obtain ⟨al, sd, to_, _, _, h2, _⟩ := hs; exact h2.b6)
      (fun k a _ => a = { tmps := #[tx l, .int .i64 (p : Int), undef, .pointer (some ⟨g, 0, none⟩), .pointer (some ⟨g + 1, 0, none⟩), .pointer (some ⟨g + 1 + 1, 0, none⟩), .pointer (some ⟨g + 1 + 1 + 1, 0, none⟩), .pointer (some ⟨g + 1 + 1 + 1 + 1, 0, none⟩), .pointer (some ⟨g + 1 + 1 + 1 + 1 + 1, 0, none⟩), .int .i64 ((p + 1 + k : Nat) : Int), .int .u8 (bt l (p + 1 + k)), .int .i64 (p : Int), tx l, .int .i64 (p : Int), .int .i64 ((p : Int) + 1), .func (.func 124) #[] #[.pointer (some ⟨g + 1 + 1 + 1 + 1 + 1 + 1 + 1, 0, none⟩), .pointer (some ⟨g + 1 + 1 + 1 + 1 + 1 + 1, 0, none⟩)], .int .i64 ((p + 1 + k : Nat) : Int), .int .u8 (bt l (p + 1 + k)), undef, undef, undef, undef, undef, undef, undef, undef, undef, undef, undef, undef, undef, undef, undef, undef, undef, undef, undef, undef, undef, undef, undef, undef, undef, undef, undef, undef, undef, undef, undef, undef, undef, undef, undef], defers := [] })
      (fun k a X r o o' hs hr ho => hs) ?assign ?body ?done ?stop
    case assign =>
      intro lb k W hI hsz hsh hk
      simp only [byE]
      gi_wp2
      exact ⟨Keeps.refl _ _, hI, rfl⟩
    case body =>
      rintro lb k a1 W ⟨al, sd, to_, i0, i1, QB, HB⟩ rfl hsz hsh hk
      rw [hs0] at hsz hsh ⊢
      have e0 : W.cell? ⟨g, 0, none⟩ = some (.int .i64 (p : Int)) := QB.b0.cell 0
      have z0 : W.cell? ⟨g + 1, 0, none⟩ = some (.int .i64 0) := QB.b1.cell 0
      have z1 : W.cell? ⟨g + 1, 1, none⟩ = some (.string ⟨#[]⟩) := QB.b1.cell 1
      have z2 : W.cell? ⟨g + 1, 2, none⟩ = some (.int .i64 0) := QB.b1.cell 2
      have z3 : W.cell? ⟨g + 1, 3, none⟩ = some (.int .i64 0) := QB.b1.cell 3
      have z4 : W.cell? ⟨g + 1, 4, none⟩ = some (.int .i64 0) := QB.b1.cell 4
      have y0 : W.frozen? ⟨g + 1, 0, none⟩ = false := QB.b1.frozen 0
      have y1 : W.frozen? ⟨g + 1, 1, none⟩ = false := QB.b1.frozen 1
      have y2 : W.frozen? ⟨g + 1, 2, none⟩ = false := QB.b1.frozen 2
      have y3 : W.frozen? ⟨g + 1, 3, none⟩ = false := QB.b1.frozen 3
      have y4 : W.frozen? ⟨g + 1, 4, none⟩ = false := QB.b1.frozen 4
      have e2 : W.cell? ⟨g + 1 + 1, 0, none⟩ = some (.int .i64 0) := QB.b2.cell 0
      have f2 : W.frozen? ⟨g + 1 + 1, 0, none⟩ = false := QB.b2.frozen 0
      have e4 : W.cell? ⟨g + 1 + 1 + 1 + 1, 0, none⟩ = some (.int .i64 (to_ : Int)) := QB.b4.cell 0
      have f4 : W.frozen? ⟨g + 1 + 1 + 1 + 1, 0, none⟩ = false := QB.b4.frozen 0
      have e5 : W.cell? ⟨g + 1 + 1 + 1 + 1 + 1, 0, none⟩ = some (.bool al) := QB.b5.cell 0
      have f5 : W.frozen? ⟨g + 1 + 1 + 1 + 1 + 1, 0, none⟩ = false := QB.b5.frozen 0
      obtain ⟨b, r, hd, hd1, hb⟩ := drop_at (l := l) (i := p + 1 + k) (by omega)
      have hpk : p + 1 + (k + 1) = p + 1 + k + 1 := by omega
      have PB := Lib.hid (PL.out (p + 1 + k))
      rw [hd] at i0
      have k0 : ((p + 1 + k : Nat) : Int) < 9000000 := by omega
      have k1 : (0 : Int) ≤ ((p + 1 + k : Nat) : Int) := by omega
      have kz : ∀ (j : Nat) (v : Value) (o : Nat), j < g + 8 → Keeps (g + 8) W (W.setCell ⟨j, o, none⟩ v) := fun j v o hj => ⟨Below.heap_setCell _ _ _ _ (by simp <;> omega), Below.heap_setCell _ _ _ _ (by simp <;> omega)⟩
      have WB : Hid (∀ W', Lib.IsBuilder 80 5 (g + 3) (g + 3) (Lib.byteCells sd) W' → g + 3 ≤ W'.heap.size → Calls Tryz.prog 33 #[.pointer (some ⟨g + 3, 0, none⟩), .int .u8 (bt l (p + 1 + k))] W' fun e w' => e = .returned .nilIface ∧ Lib.IsBuilder 80 5 (g + 3) (g + 3) (Lib.byteCells (sd ++ [b])) w' ∧ Below (g + 3) W' w' ∧ Lib.OthersKept 5 (some (g + 3)) W' w') := Lib.hid (fun W' h h' => by
        have := bbyte_any (g + 3) (g + 3) (Lib.byteCells sd) (bt l (p + 1 + k)) W' h (by rw [Lib.byteCells_length]; have := i1.out; omega) h'
        rw [Lib.byteCells_append, show Lib.byteCells [b] = [.int .u8 (bt l (p + 1 + k))] from by rw [← hb]; rfl]
        exact this)
      have QE := QB
      clear hd QE
      rw [← hb] at PB
      rw [← hb] at WB
      rw [← hb]
      have ko : ∀ w', Lib.OthersKept 5 (some (g + 3)) W w' → Keeps (g + 8) W w' := fun w' ho => by
        obtain ⟨⟨o, h1, h2⟩, o', h3, h4⟩ := hsh
        exact ⟨(ho _ o h1 (fun e => by injection e with e; omega) (fun c fz e => by subst e; cases h2)).trans h1.symm, (ho _ o' h3 (fun e => by injection e with e; omega) (fun c fz e => by subst e; cases h4)).trans h3.symm⟩
      clear hb
      generalize hz : (b.toNat : Int) = z at *
      by_cases h39 : z = 39
      · subst h39
        have t1 : ((39 : Int) == 39) = true := rfl
        have t2 : ((39 : Int) != 39) = false := rfl
        cases al with
        | false =>
          have st : Hid (quoN false [] (p + 1) p (l.drop (p + 1)) = quoN true sd (p + 1 + (k + 1)) (p + 1 + k + 1) (l.drop (p + 1 + (k + 1)))) := Lib.hid (by rw [i0.out, hpk, hd1]; simp only [quoN, hz, t1, if_true]; simp)
          clear i0 hz
          gi_wp2
          exact ⟨Keeps.trans (kz _ _ _ (by omega)) ⟨Below.heap_setCell _ _ _ _ (by simp <;> omega), Below.heap_setCell _ _ _ _ (by simp <;> omega)⟩, _, _, _, st, Lib.hid (by have := i1.out; omega), (QB.set4 (p + 1 + k + 1)).set5 true, (HB.setCell (p := ⟨g + 4, 0, none⟩) (by simp) _).setCell (p := ⟨g + 5, 0, none⟩) (by simp) _⟩
        | true =>
          have st : Hid (quoN false [] (p + 1) p (l.drop (p + 1)) = quoN false (sd ++ [b]) (p + 1 + (k + 1)) to_ (l.drop (p + 1 + (k + 1)))) := Lib.hid (by rw [i0.out, hpk, hd1]; simp only [quoN, hz, t1, if_true])
          rw [show plnB 39 = true from rfl] at PB
          clear i0 hz
          gi_wp2_with (refine ⟨trivial, ?_⟩; first | (gi_at_call 100; refine (callsIn_wide.2 (PB.out _)).mono ?_; rintro e w' ⟨rfl, rfl⟩) | (gi_at_call 33; refine (callsIn_wide.2 (WB.out _ QB.bd (by have := QB.b5.lt; omega))).mono ?_; rintro e w5 ⟨rfl, hbd, hb5, hk5⟩; have Q5 := QB.kept hk5 hbd; have K5 := ko _ hk5; have g5 : w5.cell? ⟨g + 1 + 1 + 1 + 1 + 1, 0, none⟩ = some (.bool true) := Q5.b5.cell 0; have h5 : w5.frozen? ⟨g + 1 + 1 + 1 + 1 + 1, 0, none⟩ = false := Q5.b5.frozen 0))
          exact ⟨K5.trans ⟨Below.heap_setCell _ _ _ _ (by simp <;> omega), Below.heap_setCell _ _ _ _ (by simp <;> omega)⟩, _, _, _, st, Lib.hid (by have := i1.out; simp; omega), Q5.set5 false, (HB.trans (hb5.mono (by omega))).setCell (p := ⟨g + 5, 0, none⟩) (by simp) _⟩
      · have t1 : (z == 39) = false := by simp [h39]
        have t2 : (z != 39) = true := by simp [h39]
        cases al with
        | true =>
          have st : Hid (quoN false [] (p + 1) p (l.drop (p + 1)) = some (sd, to_)) := Lib.hid (by rw [i0.out]; simp only [quoN, hz, t1, if_true]; simp)
          clear i0 hz
          gi_wp2
          refine wpIn_goto ?_
          exact ⟨Keeps.refl _ _, .inr ⟨rfl, _, _, st, Lib.hid (by have := i1.out; omega), QB, HB⟩⟩
        | false =>
          cases hp4 : plnB z with
          | true =>
            have st : Hid (quoN false [] (p + 1) p (l.drop (p + 1)) = quoN false (sd ++ [b]) (p + 1 + (k + 1)) to_ (l.drop (p + 1 + (k + 1)))) := Lib.hid (by rw [i0.out, hpk, hd1]; simp only [quoN, hz, t1, hp4, if_true]; simp)
            rw [hp4] at PB
            clear i0 hz
            gi_wp2_with (refine ⟨trivial, ?_⟩; first | (gi_at_call 100; refine (callsIn_wide.2 (PB.out _)).mono ?_; rintro e w' ⟨rfl, rfl⟩) | (gi_at_call 33; refine (callsIn_wide.2 (WB.out _ QB.bd (by have := QB.b5.lt; omega))).mono ?_; rintro e w5 ⟨rfl, hbd, hb5, hk5⟩; have Q5 := QB.kept hk5 hbd; have K5 := ko _ hk5; have g5 : w5.cell? ⟨g + 1 + 1 + 1 + 1 + 1, 0, none⟩ = some (.bool false) := Q5.b5.cell 0; have h5 : w5.frozen? ⟨g + 1 + 1 + 1 + 1 + 1, 0, none⟩ = false := Q5.b5.frozen 0))
            exact ⟨K5.trans ⟨Below.heap_setCell _ _ _ _ (by simp <;> omega), Below.heap_setCell _ _ _ _ (by simp <;> omega)⟩, _, _, _, st, Lib.hid (by have := i1.out; simp; omega), Q5.set5 false, (HB.trans (hb5.mono (by omega))).setCell (p := ⟨g + 5, 0, none⟩) (by simp) _⟩
          | false =>
            have st : Hid (quoN false [] (p + 1) p (l.drop (p + 1)) = none) := Lib.hid (by rw [i0.out]; simp only [quoN, hz, t1, hp4]; simp)
            rw [hp4] at PB
            clear i0 hz
            gi_wp2_with (refine ⟨trivial, ?_⟩; gi_at_call 100; refine (callsIn_wide.2 (PB.out _)).mono ?_; rintro e w' ⟨rfl, rfl⟩)
            refine ⟨?_, .inl ⟨rfl, st, ?_, ?_, ?_⟩⟩
            · exact ((((((Keeps.refl _ _).trans (kz _ _ _ (by omega))).trans ⟨Below.heap_setCell _ _ _ _ (by simp <;> omega), Below.heap_setCell _ _ _ _ (by simp <;> omega)⟩).trans ⟨Below.heap_setCell _ _ _ _ (by simp <;> omega), Below.heap_setCell _ _ _ _ (by simp <;> omega)⟩).trans ⟨Below.heap_setCell _ _ _ _ (by simp <;> omega), Below.heap_setCell _ _ _ _ (by simp <;> omega)⟩).trans ⟨Below.heap_setCell _ _ _ _ (by simp <;> omega), Below.heap_setCell _ _ _ _ (by simp <;> omega)⟩).trans ⟨Below.heap_setCell _ _ _ _ (by simp <;> omega), Below.heap_setCell _ _ _ _ (by simp <;> omega)⟩
            · exact (((((QB.b1.set_ 0 _).set_ 1 _).set_ 2 _).set_ 3 _).set_ 4 _).far (by simp) _
            · exact (((((QB.b2.far (by simp) _).far (by simp) _).far (by simp) _).far (by simp) _).far (by simp) _).set_ 0 _
            · exact (((((HB.setCell (p := ⟨g + 1, 0, none⟩) (by simp) _).setCell (p := ⟨g + 1, 1, none⟩) (by simp) _).setCell (p := ⟨g + 1, 2, none⟩) (by simp) _).setCell (p := ⟨g + 1, 3, none⟩) (by simp) _).setCell (p := ⟨g + 1, 4, none⟩) (by simp) _).setCell (p := ⟨g + 2, 0, none⟩) (by simp) _
    case done =>
      rintro D W hD ⟨al, sd, to_, i0, i1, QB, HB⟩ hDf
      rw [hs0] at hD
      rw [show l.drop (p + 1 + (l.length - (p + 1))) = [] by rw [List.drop_eq_nil_iff]; omega] at i0
      have e0 : W.cell? ⟨g, 0, none⟩ = some (.int .i64 (p : Int)) := QB.b0.cell 0
      have z0 : W.cell? ⟨g + 1, 0, none⟩ = some (.int .i64 0) := QB.b1.cell 0
      have z1 : W.cell? ⟨g + 1, 1, none⟩ = some (.string ⟨#[]⟩) := QB.b1.cell 1
      have z2 : W.cell? ⟨g + 1, 2, none⟩ = some (.int .i64 0) := QB.b1.cell 2
      have z3 : W.cell? ⟨g + 1, 3, none⟩ = some (.int .i64 0) := QB.b1.cell 3
      have z4 : W.cell? ⟨g + 1, 4, none⟩ = some (.int .i64 0) := QB.b1.cell 4
      have y0 : W.frozen? ⟨g + 1, 0, none⟩ = false := QB.b1.frozen 0
      have y1 : W.frozen? ⟨g + 1, 1, none⟩ = false := QB.b1.frozen 1
      have y2 : W.frozen? ⟨g + 1, 2, none⟩ = false := QB.b1.frozen 2
      have y3 : W.frozen? ⟨g + 1, 3, none⟩ = false := QB.b1.frozen 3
      have y4 : W.frozen? ⟨g + 1, 4, none⟩ = false := QB.b1.frozen 4
      have e2 : W.cell? ⟨g + 1 + 1, 0, none⟩ = some (.int .i64 0) := QB.b2.cell 0
      have f2 : W.frozen? ⟨g + 1 + 1, 0, none⟩ = false := QB.b2.frozen 0
      have e4 : W.cell? ⟨g + 1 + 1 + 1 + 1, 0, none⟩ = some (.int .i64 (to_ : Int)) := QB.b4.cell 0
      have e5 : W.cell? ⟨g + 1 + 1 + 1 + 1 + 1, 0, none⟩ = some (.bool al) := QB.b5.cell 0
      cases al with
      | false =>
        have HQ : Hid (quoN false [] (p + 1) p (l.drop (p + 1)) = none) := Lib.hid (by rw [i0.out]; rfl)
        have hQR := Lib.hid (QN.out HQ.out)
        clear i0
        go_wp2
        have r1 : Blk ((((((W.setCell ⟨g + 1, 0, none⟩ (.int .i64 0)).setCell ⟨g + 1, 1, none⟩ (tx [])).setCell ⟨g + 1, 2, none⟩ (.int .i64 0)).setCell ⟨g + 1, 3, none⟩ (.int .i64 (p : Int))).setCell ⟨g + 1, 4, none⟩ (.int .i64 0)).setCell ⟨g + 1 + 1, 0, none⟩ (.int .i64 200)) (g + 1) 50 #[.int .i64 0, tx [], .int .i64 0, .int .i64 (p : Int), .int .i64 0] := (((((QB.b1.set_ 0 _).set_ 1 _).set_ 2 _).set_ 3 _).set_ 4 _).far (by simp) _
        have r2 : Blk ((((((W.setCell ⟨g + 1, 0, none⟩ (.int .i64 0)).setCell ⟨g + 1, 1, none⟩ (tx [])).setCell ⟨g + 1, 2, none⟩ (.int .i64 0)).setCell ⟨g + 1, 3, none⟩ (.int .i64 (p : Int))).setCell ⟨g + 1, 4, none⟩ (.int .i64 0)).setCell ⟨g + 1 + 1, 0, none⟩ (.int .i64 200)) (g + 2) 24 #[.int .i64 200] := (((((QB.b2.far (by simp) _).far (by simp) _).far (by simp) _).far (by simp) _).far (by simp) _).set_ 0 _
        have r3 : Below g w ((((((W.setCell ⟨g + 1, 0, none⟩ (.int .i64 0)).setCell ⟨g + 1, 1, none⟩ (tx [])).setCell ⟨g + 1, 2, none⟩ (.int .i64 0)).setCell ⟨g + 1, 3, none⟩ (.int .i64 (p : Int))).setCell ⟨g + 1, 4, none⟩ (.int .i64 0)).setCell ⟨g + 1 + 1, 0, none⟩ (.int .i64 200)) := (((((HB.setCell (p := ⟨g + 1, 0, none⟩) (by simp) _).setCell (p := ⟨g + 1, 1, none⟩) (by simp) _).setCell (p := ⟨g + 1, 2, none⟩) (by simp) _).setCell (p := ⟨g + 1, 3, none⟩) (by simp) _).setCell (p := ⟨g + 1, 4, none⟩) (by simp) _).setCell (p := ⟨g + 2, 0, none⟩) (by simp) _
        have r4 : ((((((W.setCell ⟨g + 1, 0, none⟩ (.int .i64 0)).setCell ⟨g + 1, 1, none⟩ (tx [])).setCell ⟨g + 1, 2, none⟩ (.int .i64 0)).setCell ⟨g + 1, 3, none⟩ (.int .i64 (p : Int))).setCell ⟨g + 1, 4, none⟩ (.int .i64 0)).setCell ⟨g + 1 + 1, 0, none⟩ (.int .i64 200)).heap[D]? = some (.deferred (some [])) := by
          refine (Below.heap_setCell _ _ _ _ (by simp <;> omega)).trans ((Below.heap_setCell _ _ _ _ (by simp <;> omega)).trans ((Below.heap_setCell _ _ _ _ (by simp <;> omega)).trans ((Below.heap_setCell _ _ _ _ (by simp <;> omega)).trans ((Below.heap_setCell _ _ _ _ (by simp <;> omega)).trans ((Below.heap_setCell _ _ _ _ (by simp <;> omega)).trans hDf)))))
        generalize (((((W.setCell ⟨g + 1, 0, none⟩ (.int .i64 0)).setCell ⟨g + 1, 1, none⟩ (tx [])).setCell ⟨g + 1, 2, none⟩ (.int .i64 0)).setCell ⟨g + 1, 3, none⟩ (.int .i64 (p : Int))).setCell ⟨g + 1, 4, none⟩ (.int .i64 0)).setCell ⟨g + 1 + 1, 0, none⟩ (.int .i64 200) = W5 at *
        refine ⟨by simp, .inl ⟨_, _, rfl, run_takeDeferred r4, ?_⟩⟩
        exact ⟨_, resTE rfl _ _ (g + 1) (g + 2) _ _ _ _ _ _ rfl (r1.putR r4 rfl _) rfl (r2.putR r4 rfl _), by rw [hQR.out]; rfl, by rw [hg]; exact r3.trans (below_shut _ (.deferred none) (by omega))⟩
      | true =>
        have HQ : Hid (quoN false [] (p + 1) p (l.drop (p + 1)) = some (sd, to_)) := Lib.hid (by rw [i0.out]; rfl)
        have HL : Hid (sd.length ≤ l.length) := Lib.hid (by have := i1.out; omega)
        clear i0
        go_wp2
        go_step3
        have hQR0 := QS.out sd to_ HQ.out
        have LC : Hid (Calls Tryz.prog 36 #[.pointer (some ⟨g + 1 + 1 + 1, 0, none⟩)] W fun e w' => e = .returned (.int .i64 (sd.length : Int)) ∧ W = w') := Lib.hid (by have := Tryz.Builder_Len (g + 3) (g + 3) _ _ QB.bd; rw [Lib.byteCells_length] at this; exact this.mono (fun _ _ h => ⟨h.1, h.2.symm⟩))
        have GE : g + 3 ≤ W.heap.size := by have := QB.b5.lt; omega
        by_cases h64 : 64 < sd.length
        · have d64 : (64 : Int) < (sd.length : Int) := by omega
          have hQR := Lib.hid (show QR = (errT p, 200) by rw [hQR0, if_pos h64])
          clear hQR0
          go_wp2_with (go_at_call 36; refine LC.out.mono ?_; rintro e w' ⟨rfl, rfl⟩)
          have r1 : Blk ((((((W.setCell ⟨g + 1, 0, none⟩ (.int .i64 0)).setCell ⟨g + 1, 1, none⟩ (tx [])).setCell ⟨g + 1, 2, none⟩ (.int .i64 0)).setCell ⟨g + 1, 3, none⟩ (.int .i64 (p : Int))).setCell ⟨g + 1, 4, none⟩ (.int .i64 0)).setCell ⟨g + 1 + 1, 0, none⟩ (.int .i64 200)) (g + 1) 50 #[.int .i64 0, tx [], .int .i64 0, .int .i64 (p : Int), .int .i64 0] := (((((QB.b1.set_ 0 _).set_ 1 _).set_ 2 _).set_ 3 _).set_ 4 _).far (by simp) _
          have r2 : Blk ((((((W.setCell ⟨g + 1, 0, none⟩ (.int .i64 0)).setCell ⟨g + 1, 1, none⟩ (tx [])).setCell ⟨g + 1, 2, none⟩ (.int .i64 0)).setCell ⟨g + 1, 3, none⟩ (.int .i64 (p : Int))).setCell ⟨g + 1, 4, none⟩ (.int .i64 0)).setCell ⟨g + 1 + 1, 0, none⟩ (.int .i64 200)) (g + 2) 24 #[.int .i64 200] := (((((QB.b2.far (by simp) _).far (by simp) _).far (by simp) _).far (by simp) _).far (by simp) _).set_ 0 _
          have r3 : Below g w ((((((W.setCell ⟨g + 1, 0, none⟩ (.int .i64 0)).setCell ⟨g + 1, 1, none⟩ (tx [])).setCell ⟨g + 1, 2, none⟩ (.int .i64 0)).setCell ⟨g + 1, 3, none⟩ (.int .i64 (p : Int))).setCell ⟨g + 1, 4, none⟩ (.int .i64 0)).setCell ⟨g + 1 + 1, 0, none⟩ (.int .i64 200)) := (((((HB.setCell (p := ⟨g + 1, 0, none⟩) (by simp) _).setCell (p := ⟨g + 1, 1, none⟩) (by simp) _).setCell (p := ⟨g + 1, 2, none⟩) (by simp) _).setCell (p := ⟨g + 1, 3, none⟩) (by simp) _).setCell (p := ⟨g + 1, 4, none⟩) (by simp) _).setCell (p := ⟨g + 2, 0, none⟩) (by simp) _
          have r4 : ((((((W.setCell ⟨g + 1, 0, none⟩ (.int .i64 0)).setCell ⟨g + 1, 1, none⟩ (tx [])).setCell ⟨g + 1, 2, none⟩ (.int .i64 0)).setCell ⟨g + 1, 3, none⟩ (.int .i64 (p : Int))).setCell ⟨g + 1, 4, none⟩ (.int .i64 0)).setCell ⟨g + 1 + 1, 0, none⟩ (.int .i64 200)).heap[D]? = some (.deferred (some [])) := by
            refine (Below.heap_setCell _ _ _ _ (by simp <;> omega)).trans ((Below.heap_setCell _ _ _ _ (by simp <;> omega)).trans ((Below.heap_setCell _ _ _ _ (by simp <;> omega)).trans ((Below.heap_setCell _ _ _ _ (by simp <;> omega)).trans ((Below.heap_setCell _ _ _ _ (by simp <;> omega)).trans ((Below.heap_setCell _ _ _ _ (by simp <;> omega)).trans hDf)))))
          generalize (((((W.setCell ⟨g + 1, 0, none⟩ (.int .i64 0)).setCell ⟨g + 1, 1, none⟩ (tx [])).setCell ⟨g + 1, 2, none⟩ (.int .i64 0)).setCell ⟨g + 1, 3, none⟩ (.int .i64 (p : Int))).setCell ⟨g + 1, 4, none⟩ (.int .i64 0)).setCell ⟨g + 1 + 1, 0, none⟩ (.int .i64 200) = W5 at *
          refine ⟨by simp, .inl ⟨_, _, rfl, run_takeDeferred r4, ?_⟩⟩
          exact ⟨_, resTE rfl _ _ (g + 1) (g + 2) _ _ _ _ _ _ rfl (r1.putR r4 rfl _) rfl (r2.putR r4 rfl _), by rw [hQR.out]; rfl, by rw [hg]; exact r3.trans (below_shut _ (.deferred none) (by omega))⟩
        · have d64 : decide ((64 : Int) < (sd.length : Int)) = false := decide_eq_false (by omega)
          have hQR := Lib.hid (show QR = (⟨4, sd, 0, p, to_⟩, 0) by rw [hQR0, if_neg h64])
          clear hQR0
          have SC := Lib.hid (bstr_any (g + 3) (g + 3) sd W.drew (by rcases QB.bd with h | h; exact .inl h.drew; exact .inr h.drew) GE)
          go_upto_region 17 with (go_at_call 36; refine LC.out.mono ?_; rintro e w' ⟨rfl, rfl⟩)
          refine wp_region_noPanic ?_
          refine wp_region_held_drew (S := fun w' => w'.cell? ⟨g, 0, none⟩ = some (.int .i64 (p : Int)) ∧ w'.cell? ⟨g + 1 + 1 + 1 + 1, 0, none⟩ = some (.int .i64 (to_ : Int))) (by kernel_rfl) ⟨e0, e4⟩ (fun hHeld => ?_)
          refine take_d (i := 1) (d := 50) (v := .int .i64 (p : Int)) rfl rfl (by kernel_rfl) (by kernel_rfl) (by kernel_rfl) (fun _ _ _ h => h) (Or.inl ⟨by kernel_rfl, ?v50h⟩) hHeld ?_
          case v50h => (intro w hSw; (try dsimp only at hSw); go_split_ands; go_simp)
          try simp only [Act.put, List.setIfInBounds_toArray, List.set_cons_zero, List.set_cons_succ]
          refine take_d (i := 2) (d := 51) (v := .int .i64 (to_ : Int)) rfl rfl (by kernel_rfl) (by kernel_rfl) (by kernel_rfl) (fun _ _ _ h => h) (Or.inl ⟨by kernel_rfl, ?v51h⟩) hHeld ?_
          case v51h => (intro w hSw; (try dsimp only at hSw); go_split_ands; go_simp)
          try simp only [Act.put, List.setIfInBounds_toArray, List.set_cons_zero, List.set_cons_succ]
          refine wpAnyH_ready (rs := [0]) (by kernel_rfl) (by simp) ?_
          refine AllReadyH.cons rfl (fun K hK => ?_) AllReadyH.nil
          go_simp
          refine (SC.out).mono ?_
          rintro e w7 ⟨rfl, hb7, ho7⟩
          have Q7b0 := blk_others ho7 QB.b0 (by omega) (by decide)
          have Q7b1 := blk_others ho7 QB.b1 (by omega) (by decide)
          have Q7b2 := blk_others ho7 QB.b2 (by omega) (by decide)
          have Q7b4 := blk_others ho7 QB.b4 (by omega) (by decide)
          have K7 : w7.heap[D]? = some (.deferred (some [])) := ho7 _ _ hDf (fun e => by injection e with e; omega) (by simp)
          have B7 : Below g w w7 := HB.drew.trans (hb7.mono (by omega))
          refine hK.out _ _ (⟨Q7b0.cell 0, Q7b4.cell 0⟩) (fun hHeld => ?_)
          clear hK K
          try simp only [Act.put, List.setIfInBounds_toArray, List.set_cons_zero, List.set_cons_succ]
          refine take_d (i := 3) (d := 52) (v := .agg #[.int .i64 4, tx sd, .int .i64 0, .int .i64 (p : Int), .int .i64 (to_ : Int)]) rfl rfl (by kernel_rfl) (by kernel_rfl) (by kernel_rfl) (fun _ _ _ h => h) (Or.inl ⟨by kernel_rfl, ?v52h⟩) hHeld ?_
          case v52h => (intro w hSw; (try dsimp only at hSw); go_split_ands; go_simp)
          try simp only [Act.put, List.setIfInBounds_toArray, List.set_cons_zero, List.set_cons_succ]
          refine wpAnyH_ready (rs := [4]) (by kernel_rfl) (by simp) ?_
          refine AllReadyH.cons rfl (fun K hK => ?_) AllReadyH.nil
          refine wp_store_blk 50 _ _ rfl (g + 1) _ 50 [.int .i64 4, tx sd, .int .i64 0, .int .i64 (p : Int), .int .i64 (to_ : Int)] rfl rfl Q7b1 rfl Tryz.i47 (by simp [Value.oneCell']) ?_
          intro w8 hb8 ho8
          have Q8b2 := ho8.keep Q7b2 (by omega)
          have K8 : w8.heap[D]? = some (.deferred (some [])) := (ho8.block D (by omega)).trans K7
          have B8 : Below g w w8 := B7.trans (ho8.below (by omega))
          have Q8b0 := ho8.keep Q7b0 (by omega)
          have Q8b4 := ho8.keep Q7b4 (by omega)
          have c8 : w8.cell? ⟨g + 1 + 1, 0, none⟩ = some (.int .i64 0) := Q8b2.cell 0
          have f8 : w8.frozen? ⟨g + 1 + 1, 0, none⟩ = false := Q8b2.frozen 0
          refine hK.out _ _ ⟨Q8b0.cell 0, Q8b4.cell 0⟩ (fun hHeld => ?_)
          clear hK K
          try simp only [Act.put, List.setIfInBounds_toArray, List.set_cons_zero, List.set_cons_succ]
          refine wpAnyH_ready (rs := [5]) (by kernel_rfl) (by simp) ?_
          refine AllReadyH.cons rfl (fun K hK => ?_) AllReadyH.nil
          go_simp
          have r1 : Blk (w8.setCell ⟨g + 1 + 1, 0, none⟩ (.int .i64 0)) (g + 1) 50 #[.int .i64 4, tx sd, .int .i64 0, .int .i64 (p : Int), .int .i64 (to_ : Int)] := Blk.far (t := 50) (cs := #[.int .i64 4, tx sd, .int .i64 0, .int .i64 (p : Int), .int .i64 (to_ : Int)]) hb8 (by simp) _
          have r2 : Blk (w8.setCell ⟨g + 1 + 1, 0, none⟩ (.int .i64 0)) (g + 2) 24 #[.int .i64 0] := Q8b2.set_ 0 _
          have r3 : Below g w (w8.setCell ⟨g + 1 + 1, 0, none⟩ (.int .i64 0)) := B8.setCell (p := ⟨g + 2, 0, none⟩) (by simp) _
          have r4 : (w8.setCell ⟨g + 1 + 1, 0, none⟩ (.int .i64 0)).heap[D]? = some (.deferred (some [])) := (Below.heap_setCell _ _ _ _ (by simp <;> omega)).trans K8
          refine hK.out _ _ ⟨(Q8b0.far (by simp <;> omega) _).cell 0, (Q8b4.far (by simp <;> omega) _).cell 0⟩ (fun hHeld => ?_)
          clear hK K
          generalize w8.setCell ⟨g + 1 + 1, 0, none⟩ (.int .i64 0) = W5 at *
          try simp only [Act.put, List.setIfInBounds_toArray, List.set_cons_zero, List.set_cons_succ]
          refine wpAnyH_done (by kernel_rfl) ?_ _
          refine NoPanic.normal ?_
          go_wp2_with fail
          refine ⟨by simp, .inl ⟨_, _, rfl, run_takeDeferred r4, ?_⟩⟩
          exact ⟨_, resTE rfl _ _ (g + 1) (g + 2) _ _ _ _ _ _ rfl (r1.putR r4 rfl _) rfl (r2.putR r4 rfl _), by rw [hQR.out]; rfl, by rw [hg]; exact r3.trans (below_shut _ (.deferred none) (by omega))⟩
    case stop =>
      rintro D c k W hD hk hs hDf
      rw [hs0] at hD
      rcases hs with ⟨rfl, HQ, r1, r2, r3⟩ | ⟨rfl, sd, to_, HQ, HL, QB, HB⟩
      · have hQR := Lib.hid (QN.out HQ.out)
        gi_wp2
        refine ⟨by simp, .inl ⟨_, _, rfl, run_takeDeferred hDf, ?_⟩⟩
        exact ⟨_, resTE rfl _ _ (g + 1) (g + 2) _ _ _ _ _ _ rfl (r1.putR hDf rfl _) rfl (r2.putR hDf rfl _), by rw [hQR.out]; rfl, by rw [hg]; exact r3.trans (below_shut _ (.deferred none) (by omega))⟩
      · refine wpIn_goto ?_
        exact ⟨rfl, sd, to_, D, undef, undef, HQ, HL, QB, HB, hD, hDf, rfl⟩
  case pass =>
    rintro a W ⟨sd, to_, D, v41, v42, HQ, HL, QB, HB, hD, hDf, rfl⟩
    have e0 : W.cell? ⟨g, 0, none⟩ = some (.int .i64 (p : Int)) := QB.b0.cell 0
    have z0 : W.cell? ⟨g + 1, 0, none⟩ = some (.int .i64 0) := QB.b1.cell 0
    have z1 : W.cell? ⟨g + 1, 1, none⟩ = some (.string ⟨#[]⟩) := QB.b1.cell 1
    have z2 : W.cell? ⟨g + 1, 2, none⟩ = some (.int .i64 0) := QB.b1.cell 2
    have z3 : W.cell? ⟨g + 1, 3, none⟩ = some (.int .i64 0) := QB.b1.cell 3
    have z4 : W.cell? ⟨g + 1, 4, none⟩ = some (.int .i64 0) := QB.b1.cell 4
    have y0 : W.frozen? ⟨g + 1, 0, none⟩ = false := QB.b1.frozen 0
    have y1 : W.frozen? ⟨g + 1, 1, none⟩ = false := QB.b1.frozen 1
    have y2 : W.frozen? ⟨g + 1, 2, none⟩ = false := QB.b1.frozen 2
    have y3 : W.frozen? ⟨g + 1, 3, none⟩ = false := QB.b1.frozen 3
    have y4 : W.frozen? ⟨g + 1, 4, none⟩ = false := QB.b1.frozen 4
    have e2 : W.cell? ⟨g + 1 + 1, 0, none⟩ = some (.int .i64 0) := QB.b2.cell 0
    have f2 : W.frozen? ⟨g + 1 + 1, 0, none⟩ = false := QB.b2.frozen 0
    have e4 : W.cell? ⟨g + 1 + 1 + 1 + 1, 0, none⟩ = some (.int .i64 (to_ : Int)) := QB.b4.cell 0
    have e5 : W.cell? ⟨g + 1 + 1 + 1 + 1 + 1, 0, none⟩ = some (.bool true) := QB.b5.cell 0
    have hQR0 := QS.out sd to_ HQ.out
    have LC : Hid (Calls Tryz.prog 36 #[.pointer (some ⟨g + 1 + 1 + 1, 0, none⟩)] W fun e w' => e = .returned (.int .i64 (sd.length : Int)) ∧ W = w') := Lib.hid (by have := Tryz.Builder_Len (g + 3) (g + 3) _ _ QB.bd; rw [Lib.byteCells_length] at this; exact this.mono (fun _ _ h => ⟨h.1, h.2.symm⟩))
    have GE : g + 3 ≤ W.heap.size := by have := QB.b5.lt; omega
    by_cases h64 : 64 < sd.length
    · have d64 : (64 : Int) < (sd.length : Int) := by omega
      have hQR := Lib.hid (show QR = (errT p, 200) by rw [hQR0, if_pos h64])
      clear hQR0
      go_wp2_with (go_at_call 36; refine LC.out.mono ?_; rintro e w' ⟨rfl, rfl⟩)
      have r1 : Blk ((((((W.setCell ⟨g + 1, 0, none⟩ (.int .i64 0)).setCell ⟨g + 1, 1, none⟩ (tx [])).setCell ⟨g + 1, 2, none⟩ (.int .i64 0)).setCell ⟨g + 1, 3, none⟩ (.int .i64 (p : Int))).setCell ⟨g + 1, 4, none⟩ (.int .i64 0)).setCell ⟨g + 1 + 1, 0, none⟩ (.int .i64 200)) (g + 1) 50 #[.int .i64 0, tx [], .int .i64 0, .int .i64 (p : Int), .int .i64 0] := (((((QB.b1.set_ 0 _).set_ 1 _).set_ 2 _).set_ 3 _).set_ 4 _).far (by simp) _
      have r2 : Blk ((((((W.setCell ⟨g + 1, 0, none⟩ (.int .i64 0)).setCell ⟨g + 1, 1, none⟩ (tx [])).setCell ⟨g + 1, 2, none⟩ (.int .i64 0)).setCell ⟨g + 1, 3, none⟩ (.int .i64 (p : Int))).setCell ⟨g + 1, 4, none⟩ (.int .i64 0)).setCell ⟨g + 1 + 1, 0, none⟩ (.int .i64 200)) (g + 2) 24 #[.int .i64 200] := (((((QB.b2.far (by simp) _).far (by simp) _).far (by simp) _).far (by simp) _).far (by simp) _).set_ 0 _
      have r3 : Below g w ((((((W.setCell ⟨g + 1, 0, none⟩ (.int .i64 0)).setCell ⟨g + 1, 1, none⟩ (tx [])).setCell ⟨g + 1, 2, none⟩ (.int .i64 0)).setCell ⟨g + 1, 3, none⟩ (.int .i64 (p : Int))).setCell ⟨g + 1, 4, none⟩ (.int .i64 0)).setCell ⟨g + 1 + 1, 0, none⟩ (.int .i64 200)) := (((((HB.setCell (p := ⟨g + 1, 0, none⟩) (by simp) _).setCell (p := ⟨g + 1, 1, none⟩) (by simp) _).setCell (p := ⟨g + 1, 2, none⟩) (by simp) _).setCell (p := ⟨g + 1, 3, none⟩) (by simp) _).setCell (p := ⟨g + 1, 4, none⟩) (by simp) _).setCell (p := ⟨g + 2, 0, none⟩) (by simp) _
      have r4 : ((((((W.setCell ⟨g + 1, 0, none⟩ (.int .i64 0)).setCell ⟨g + 1, 1, none⟩ (tx [])).setCell ⟨g + 1, 2, none⟩ (.int .i64 0)).setCell ⟨g + 1, 3, none⟩ (.int .i64 (p : Int))).setCell ⟨g + 1, 4, none⟩ (.int .i64 0)).setCell ⟨g + 1 + 1, 0, none⟩ (.int .i64 200)).heap[D]? = some (.deferred (some [])) := by
        refine (Below.heap_setCell _ _ _ _ (by simp <;> omega)).trans ((Below.heap_setCell _ _ _ _ (by simp <;> omega)).trans ((Below.heap_setCell _ _ _ _ (by simp <;> omega)).trans ((Below.heap_setCell _ _ _ _ (by simp <;> omega)).trans ((Below.heap_setCell _ _ _ _ (by simp <;> omega)).trans ((Below.heap_setCell _ _ _ _ (by simp <;> omega)).trans hDf)))))
      generalize (((((W.setCell ⟨g + 1, 0, none⟩ (.int .i64 0)).setCell ⟨g + 1, 1, none⟩ (tx [])).setCell ⟨g + 1, 2, none⟩ (.int .i64 0)).setCell ⟨g + 1, 3, none⟩ (.int .i64 (p : Int))).setCell ⟨g + 1, 4, none⟩ (.int .i64 0)).setCell ⟨g + 1 + 1, 0, none⟩ (.int .i64 200) = W5 at *
      refine ⟨by simp, .inl ⟨_, _, rfl, run_takeDeferred r4, ?_⟩⟩
      exact ⟨_, resTE rfl _ _ (g + 1) (g + 2) _ _ _ _ _ _ rfl (r1.putR r4 rfl _) rfl (r2.putR r4 rfl _), by rw [hQR.out]; rfl, by rw [hg]; exact r3.trans (below_shut _ (.deferred none) (by omega))⟩
    · have d64 : decide ((64 : Int) < (sd.length : Int)) = false := decide_eq_false (by omega)
      have hQR := Lib.hid (show QR = (⟨4, sd, 0, p, to_⟩, 0) by rw [hQR0, if_neg h64])
      clear hQR0
      have SC := Lib.hid (bstr_any (g + 3) (g + 3) sd W.drew (by rcases QB.bd with h | h; exact .inl h.drew; exact .inr h.drew) GE)
      go_upto_region 17 with (go_at_call 36; refine LC.out.mono ?_; rintro e w' ⟨rfl, rfl⟩)
      refine wp_region_noPanic ?_
      refine wp_region_held_drew (S := fun w' => w'.cell? ⟨g, 0, none⟩ = some (.int .i64 (p : Int)) ∧ w'.cell? ⟨g + 1 + 1 + 1 + 1, 0, none⟩ = some (.int .i64 (to_ : Int))) (by kernel_rfl) ⟨e0, e4⟩ (fun hHeld => ?_)
      refine take_d (i := 1) (d := 50) (v := .int .i64 (p : Int)) rfl rfl (by kernel_rfl) (by kernel_rfl) (by kernel_rfl) (fun _ _ _ h => h) (Or.inl ⟨by kernel_rfl, ?u50h⟩) hHeld ?_
      case u50h => (intro w hSw; (try dsimp only at hSw); go_split_ands; go_simp)
      try simp only [Act.put, List.setIfInBounds_toArray, List.set_cons_zero, List.set_cons_succ]
      refine take_d (i := 2) (d := 51) (v := .int .i64 (to_ : Int)) rfl rfl (by kernel_rfl) (by kernel_rfl) (by kernel_rfl) (fun _ _ _ h => h) (Or.inl ⟨by kernel_rfl, ?u51h⟩) hHeld ?_
      case u51h => (intro w hSw; (try dsimp only at hSw); go_split_ands; go_simp)
      try simp only [Act.put, List.setIfInBounds_toArray, List.set_cons_zero, List.set_cons_succ]
      refine wpAnyH_ready (rs := [0]) (by kernel_rfl) (by simp) ?_
      refine AllReadyH.cons rfl (fun K hK => ?_) AllReadyH.nil
      go_simp
      refine (SC.out).mono ?_
      rintro e w7 ⟨rfl, hb7, ho7⟩
      have Q7b0 := blk_others ho7 QB.b0 (by omega) (by decide)
      have Q7b1 := blk_others ho7 QB.b1 (by omega) (by decide)
      have Q7b2 := blk_others ho7 QB.b2 (by omega) (by decide)
      have Q7b4 := blk_others ho7 QB.b4 (by omega) (by decide)
      have K7 : w7.heap[D]? = some (.deferred (some [])) := ho7 _ _ hDf (fun e => by injection e with e; omega) (by simp)
      have B7 : Below g w w7 := HB.drew.trans (hb7.mono (by omega))
      refine hK.out _ _ (⟨Q7b0.cell 0, Q7b4.cell 0⟩) (fun hHeld => ?_)
      clear hK K
      try simp only [Act.put, List.setIfInBounds_toArray, List.set_cons_zero, List.set_cons_succ]
      refine take_d (i := 3) (d := 52) (v := .agg #[.int .i64 4, tx sd, .int .i64 0, .int .i64 (p : Int), .int .i64 (to_ : Int)]) rfl rfl (by kernel_rfl) (by kernel_rfl) (by kernel_rfl) (fun _ _ _ h => h) (Or.inl ⟨by kernel_rfl, ?u52h⟩) hHeld ?_
      case u52h => (intro w hSw; (try dsimp only at hSw); go_split_ands; go_simp)
      try simp only [Act.put, List.setIfInBounds_toArray, List.set_cons_zero, List.set_cons_succ]
      refine wpAnyH_ready (rs := [4]) (by kernel_rfl) (by simp) ?_
      refine AllReadyH.cons rfl (fun K hK => ?_) AllReadyH.nil
      refine wp_store_blk 50 _ _ rfl (g + 1) _ 50 [.int .i64 4, tx sd, .int .i64 0, .int .i64 (p : Int), .int .i64 (to_ : Int)] rfl rfl Q7b1 rfl Tryz.i47 (by simp [Value.oneCell']) ?_
      intro w8 hb8 ho8
      have Q8b2 := ho8.keep Q7b2 (by omega)
      have K8 : w8.heap[D]? = some (.deferred (some [])) := (ho8.block D (by omega)).trans K7
      have B8 : Below g w w8 := B7.trans (ho8.below (by omega))
      have Q8b0 := ho8.keep Q7b0 (by omega)
      have Q8b4 := ho8.keep Q7b4 (by omega)
      have c8 : w8.cell? ⟨g + 1 + 1, 0, none⟩ = some (.int .i64 0) := Q8b2.cell 0
      have f8 : w8.frozen? ⟨g + 1 + 1, 0, none⟩ = false := Q8b2.frozen 0
      refine hK.out _ _ ⟨Q8b0.cell 0, Q8b4.cell 0⟩ (fun hHeld => ?_)
      clear hK K
      try simp only [Act.put, List.setIfInBounds_toArray, List.set_cons_zero, List.set_cons_succ]
      refine wpAnyH_ready (rs := [5]) (by kernel_rfl) (by simp) ?_
      refine AllReadyH.cons rfl (fun K hK => ?_) AllReadyH.nil
      go_simp
      have r1 : Blk (w8.setCell ⟨g + 1 + 1, 0, none⟩ (.int .i64 0)) (g + 1) 50 #[.int .i64 4, tx sd, .int .i64 0, .int .i64 (p : Int), .int .i64 (to_ : Int)] := Blk.far (t := 50) (cs := #[.int .i64 4, tx sd, .int .i64 0, .int .i64 (p : Int), .int .i64 (to_ : Int)]) hb8 (by simp) _
      have r2 : Blk (w8.setCell ⟨g + 1 + 1, 0, none⟩ (.int .i64 0)) (g + 2) 24 #[.int .i64 0] := Q8b2.set_ 0 _
      have r3 : Below g w (w8.setCell ⟨g + 1 + 1, 0, none⟩ (.int .i64 0)) := B8.setCell (p := ⟨g + 2, 0, none⟩) (by simp) _
      have r4 : (w8.setCell ⟨g + 1 + 1, 0, none⟩ (.int .i64 0)).heap[D]? = some (.deferred (some [])) := (Below.heap_setCell _ _ _ _ (by simp <;> omega)).trans K8
      refine hK.out _ _ ⟨(Q8b0.far (by simp <;> omega) _).cell 0, (Q8b4.far (by simp <;> omega) _).cell 0⟩ (fun hHeld => ?_)
      clear hK K
      generalize w8.setCell ⟨g + 1 + 1, 0, none⟩ (.int .i64 0) = W5 at *
      try simp only [Act.put, List.setIfInBounds_toArray, List.set_cons_zero, List.set_cons_succ]
      refine wpAnyH_done (by kernel_rfl) ?_ _
      refine NoPanic.normal ?_
      go_wp2_with fail
      refine ⟨by simp, .inl ⟨_, _, rfl, run_takeDeferred r4, ?_⟩⟩
      exact ⟨_, resTE rfl _ _ (g + 1) (g + 2) _ _ _ _ _ _ rfl (r1.putR r4 rfl _) rfl (r2.putR r4 rfl _), by rw [hQR.out]; rfl, by rw [hg]; exact r3.trans (below_shut _ (.deferred none) (by omega))⟩
end Go.Proofs.YtiipglmbfgmbbaaGreatDoor
