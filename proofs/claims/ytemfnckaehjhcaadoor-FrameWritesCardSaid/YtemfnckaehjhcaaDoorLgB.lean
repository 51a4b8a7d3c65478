/-
  Several texts in one: R0, R1, N1, N6, K4.
-/
import Derived.RangeFuncNested
import Derived.RangeFuncBound
import Derived.RangeFuncCalls
import Derived.RangeFuncLeaves
import Derived.Test.YtemfnckaehjhcaaDoorLgA
import Derived.Shelf.Abstract
import Derived.Shelf.RegionOpen
import Derived.WalkKit
import Derived.OwnWalkIn
import Derived.TacticsInMore
import Derived.LoopNIn
import Derived.LoopIn
import Derived.RegionIn
/-
  A range over a function whose iterator keeps cells of its own between two rounds: the law of the caller, over a counter of rounds.
-/
namespace Go.Proofs.YtemfnckaehjhcaaDoor
open Go.RowKit

/-- What lies below n₀, and what lies from m on, lies as it lay. -/
structure Fixed (n₀ m : Nat) (A B : World) : Prop where
  low : Below n₀ A B
  high : ∀ j, m ≤ j → j < A.heap.size → B.heap[j]? = A.heap[j]?
theorem Fixed.refl (n₀ m : Nat) (A : World) : Fixed n₀ m A A := ⟨Below.refl _ _, fun _ _ _ => rfl⟩
theorem Fixed.trans {n₀ m : Nat} {A B C : World} (h : Fixed n₀ m A B) (k : Fixed n₀ m B C) : Fixed n₀ m A C :=
  ⟨h.low.trans k.low, fun j hm hj => (k.high j hm (Nat.lt_of_lt_of_le hj h.low.size)).trans (h.high j hm hj)⟩
theorem Fixed.of_below {n₀ m : Nat} {A B : World} (h : Below A.heap.size A B) (hn : n₀ ≤ A.heap.size) : Fixed n₀ m A B :=
  ⟨h.mono hn, fun j _ hj => h.block j hj⟩

/-- An iterator's contract: it comes to N rounds, handing on 'encs k' in the round k; what a round does leaves what lies below n₀ and from m on; what the caller tells of its own cells abides whatever the iterator does behind them. -/
def SeqMem (F : Fence) (n : Nat) (P : Program) (g : Nat) (lb : Array Value) (encs : Nat → Array Value) (N n₀ m : Nat) (w : World) : Prop :=
  ∀ (l : Nat) (J Jx : Nat → World → Prop) (W : World), Below w.heap.size w W → (∀ k A B, J k A → Below W.heap.size A B → J k B) → (∀ k A B, Jx k A → Below W.heap.size A B → Jx k B) →
    (∀ k W1, J k W1 → k < N → YieldAt F (n - 1) P l (encs k) W1 fun e W' =>
      (e = .returned (.bool true) ∧ J (k + 1) W' ∧ Fixed n₀ m W1 W') ∨ (e = .returned (.bool false) ∧ Jx k W')) →
    J 0 W →
    CallsIn F n P g (#[.func (.yield l) #[] #[]] ++ lb) W fun e W' => (∃ v, e = .returned v) ∧ (J N W' ∨ ∃ k, k < N ∧ Jx k W')

/-- How a round may be left. -/
def memPost (n₀ m : Nat) (I : Nat → World → Prop) (Ix : Code → Nat → World → Prop) (k : Nat) (W : World) : Exit → Act → World → Prop
  | .normal, _, W' => Fixed n₀ m W W' ∧ I (k + 1) W'
  | .ret, _, W' => Fixed n₀ m W W' ∧ Ix .ret k W'
  | .exit id, _, W' => Fixed n₀ m W W' ∧ Ix (.exit id) k W'
  | .goto t, _, W' => Fixed n₀ m W W' ∧ Ix (.goto t) k W'
  | .panic _, _, _ => False
  | .outgrown, _, _ => False

theorem below_putObj {n₀ l : Nat} (W : World) (o : Obj) (h : n₀ ≤ l) : Below n₀ W (W.putObj l o) := ⟨rfl, rfl, rfl, by simp, fun k hk => World.putObj_heap_other (by omega)⟩

variable {F : Fence} {n : Nat} {P : Program}
/-- The statement 'for .. := range g { body }'. -/
theorem wpIn_rangeFunc_mem {g : Operand} {ps : Array Tmp} {assign body : Code} {Q : Exit → Act → World → Prop} {a : Act} {w : World}
    (hro : F.round = none) (h1 : 1 ≤ n) {gf : Nat} {lb : Array Value} (hg : a.eval g = .func (.func gf) #[] lb) (hFg : F.fn gf) (eg : ∀ args w, (callFunc gf args).run P w = .ok (.enter gf args) w)
    {encs : Nat → Array Value} {N n₀ m : Nat} (hseq : SeqMem F (n - 1) P gf lb encs N n₀ m w) (hn0 : n₀ ≤ w.heap.size) (hm : m ≤ w.heap.size) (hps : ∀ k, (encs k).size = ps.size)
    (I : Nat → World → Prop) (Ix : Code → Nat → World → Prop) (hI : ∀ k A B, I k A → Below w.heap.size A B → I k B) (hIx : ∀ c k A B, Ix c k A → Below w.heap.size A B → Ix c k B) (h0 : I 0 w)
    (Ax : Nat → Act → World → Prop) (hAx : ∀ k a A r o o', Ax k a A → A.heap[r]? = some o → o.isCells = false → Ax k a (A.putObj r o'))
    (hassign : ∀ (l k : Nat) (W : World), I k W → w.heap.size ≤ W.heap.size → k < N →
      assign.wpIn (F.inRound l) (n - 1 - 1) P (Exit.then (fun a1 W1 => Fixed n₀ m W W1 ∧ I k W1 ∧ Ax k a1 W1) (fun _ _ _ => False)) { tmps := (ps.zip (encs k)).foldl (fun t (p, v) => t.setIfInBounds p v) a.tmps, defers := [] } W)
    (hbody : ∀ (l k : Nat) (a1 : Act) (W : World), I k W → Ax k a1 W → w.heap.size ≤ W.heap.size → k < N → body.wpIn (F.inRound l) (n - 1 - 1) P (memPost n₀ m I Ix k W) a1 W)
    (hdone : ∀ (D : Nat) (W : World), w.heap.size ≤ D → I N W → W.heap[D]? = some (.deferred (some [])) → Q .normal { a with defers := { target := .collected D, args := #[] } :: a.defers } W)
    (hstop : ∀ (D : Nat) (c : Code) (k : Nat) (W : World), w.heap.size ≤ D → k < N → Ix c k W → W.heap[D]? = some (.deferred (some [])) → c.wpIn F n P Q { a with defers := { target := .collected D, args := #[] } :: a.defers } W) :
    (Code.rangeFunc g ps assign body).wpIn F n P Q a w := by
  refine wpIn_rangeFunc ?_
  intro fn hfn
  rw [hro]
  obtain ⟨rec, hrec⟩ : ∃ rec : LoopState → Option Code → Loop, rec = fun st pe => { state := st, pending := pe, fn, tmps := a.tmps, params := ps, assign, body, defers := w.heap.size } := ⟨_, rfl⟩
  obtain ⟨W1, hW1⟩ : ∃ W1, (w.alloc (.deferred (some []))).alloc (.loop (rec .ready none)) = W1 := ⟨_, rfl⟩
  have hL1 : W1.heap[w.heap.size + 1]? = some (.loop (rec .ready none)) := by
    rw [← hW1]; have := World.alloc_heap_new (w.alloc (.deferred (some []))) (.loop (rec .ready none)); rwa [World.size_alloc] at this
  have hK1 : W1.heap[w.heap.size]? = some (.deferred (some [])) := by
    rw [← hW1]; exact (Below.heap_alloc _ _ _ (by simp)).trans (World.alloc_heap_new w _)
  have hb1 : Below w.heap.size w W1 := by
    rw [← hW1]; exact (((Below.refl _ w).alloc (Nat.le_refl _) _).alloc (by simp) _)
  have hsz : W1.heap.size = w.heap.size + 2 := by rw [← hW1]; simp
  have hI1 : I 0 W1 := hI _ _ _ h0 hb1
  refine ⟨w.heap.size + 1, [{ target := .collected w.heap.size, args := #[] }], W1, { target := .fn (.func gf) lb, args := #[.func (.yield (w.heap.size + 1)) #[] #[]] }, W1, gf,
    #[.func (.yield (w.heap.size + 1)) #[] #[]] ++ lb, W1, ?_, ?_, ?_, ?_, fun _ => h1, ?_⟩
  · rw [← hW1, hrec]; exact run_enterLoop_outer _ _ _ _ _
  · simp only [resolve, hg]
    simp [go_sem]
  · intro f' hf'; simp [Target.leads] at hf'; subst hf'; exact hFg
  · simp [invoke, go_sem, eg]
  · refine (hseq (w.heap.size + 1)
      (fun k W => I k W ∧ W.heap[w.heap.size + 1]? = some (.loop (rec .ready none)) ∧ W.heap[w.heap.size]? = some (.deferred (some [])))
      (fun k W => ∃ c, Ix c k W ∧ W.heap[w.heap.size + 1]? = some (.loop (rec .done (some c))) ∧ W.heap[w.heap.size]? = some (.deferred (some [])))
      W1 hb1
      (fun k A B hs hb => ⟨hI k A B hs.1 (hb.mono (by omega)), (hb.block _ (by omega)).trans hs.2.1, (hb.block _ (by omega)).trans hs.2.2⟩)
      (fun k A B hs hb => by
        obtain ⟨c, hc, hl, hk⟩ := hs
        exact ⟨c, hIx c k A B hc (hb.mono (by omega)), (hb.block _ (by omega)).trans hl, (hb.block _ (by omega)).trans hk⟩)
      ?_ ⟨hI1, hL1, hK1⟩).mono ?_
    · -- one round
      rintro k W ⟨hi, hl, hk⟩ hlen
      have hlt : w.heap.size + 1 < W.heap.size := (Array.getElem?_eq_some_iff.1 hl).1
      have hy := run_yield (P := P) (args := encs k) hl (by rw [hrec]; exact hps k)
      rw [hrec] at hy
      refine ⟨fn, _, assign, body, hy, roundIn_of_wpIn hfn (wpIn_mono (hassign _ k W hi (by omega) hlen) ?_)⟩
      clear hy
      rintro e a' Wa hp
      cases e with
      | normal =>
        obtain ⟨hfa, hia, hax⟩ := hp
        have hla := (hfa.high _ (by omega) hlt).trans hl
        have hka := (hfa.high _ hm (by omega)).trans hk
        have hlta : w.heap.size + 1 < Wa.heap.size := (Array.getElem?_eq_some_iff.1 hla).1
        refine ⟨_, run_beginRound hla (by rw [hrec]), ?_⟩
        have hl2 : (Wa.putObj (w.heap.size + 1) (.loop { rec .ready none with state := .busy })).heap[w.heap.size + 1]? = some (.loop { rec .ready none with state := .busy }) := World.putObj_heap_same hlta
        have hk2 : (Wa.putObj (w.heap.size + 1) (.loop { rec .ready none with state := .busy })).heap[w.heap.size]? = some (.deferred (some [])) := (World.putObj_heap_other (by omega)).trans hka
        refine wpIn_mono (hbody _ k a' _ (hI _ _ _ hia (below_putObj _ _ (by omega))) (hAx _ _ _ _ _ _ hax hla rfl) (by simp; omega) hlen) ?_
        have fin : ∀ (jump : Option Code) (W3 : World), Fixed n₀ m (Wa.putObj (w.heap.size + 1) (.loop { rec .ready none with state := .busy })) W3 →
            (Instr.endRound (w.heap.size + 1) jump).run P W3 = .ok (.bool jump.isNone) (W3.putObj (w.heap.size + 1) (.loop (rec (if jump.isNone then .ready else .done) jump))) ∧
            W3.heap[w.heap.size + 1]? = some (.loop { rec .ready none with state := .busy }) ∧
            (W3.putObj (w.heap.size + 1) (.loop (rec (if jump.isNone then .ready else .done) jump))).heap[w.heap.size + 1]? = some (.loop (rec (if jump.isNone then .ready else .done) jump)) ∧
            (W3.putObj (w.heap.size + 1) (.loop (rec (if jump.isNone then .ready else .done) jump))).heap[w.heap.size]? = some (.deferred (some [])) := fun jump W3 hk3 => by
          have hl3 := (hk3.high (w.heap.size + 1) (by omega) (by simp; omega)).trans hl2
          have := run_endRound (P := P) jump hl3
          rw [hrec] at this ⊢
          exact ⟨this, by rw [hrec] at hl3; exact hl3, World.putObj_heap_same (Array.getElem?_eq_some_iff.1 hl3).1, (World.putObj_heap_other (by omega)).trans ((hk3.high (w.heap.size) hm (by simp; omega)).trans hk2)⟩
        rintro e a3 W3 hp
        cases e with
        | normal =>
          obtain ⟨hk3, hi3⟩ := hp
          obtain ⟨hr, hl3, hl4, hk4⟩ := fin none W3 hk3
          refine ⟨_, _, hr, .inl ⟨rfl, ⟨hI _ _ _ hi3 (below_putObj _ _ (by omega)), hl4, hk4⟩, ?_, fun j hj hjl => ?_⟩⟩
          · exact hfa.low.trans ((below_putObj Wa _ (by omega)).trans (hk3.low.trans (below_putObj _ _ (by omega))))
          · by_cases e : j = w.heap.size + 1
            · subst e
              rw [hl4]
              exact hl.symm
            · have hja : j < Wa.heap.size := Nat.lt_of_lt_of_le hjl hfa.low.size
              exact (World.putObj_heap_other e).trans ((hk3.high j hj (by simp; omega)).trans ((World.putObj_heap_other e).trans (hfa.high j hj hjl)))
        | ret =>
          obtain ⟨hk3, hi3⟩ := hp
          obtain ⟨hr, hl3, hl4, hk4⟩ := fin (some .ret) W3 hk3
          exact ⟨_, _, hr, .inr ⟨rfl, .ret, hIx _ _ _ _ hi3 (below_putObj _ _ (by omega)), hl4, hk4⟩⟩
        | exit id =>
          obtain ⟨hk3, hi3⟩ := hp
          obtain ⟨hr, hl3, hl4, hk4⟩ := fin (some (.exit id)) W3 hk3
          exact ⟨_, _, hr, .inr ⟨rfl, .exit id, hIx _ _ _ _ hi3 (below_putObj _ _ (by omega)), hl4, hk4⟩⟩
        | goto t =>
          obtain ⟨hk3, hi3⟩ := hp
          obtain ⟨hr, hl3, hl4, hk4⟩ := fin (some (.goto t)) W3 hk3
          exact ⟨_, _, hr, .inr ⟨rfl, .goto t, hIx _ _ _ _ hi3 (below_putObj _ _ (by omega)), hl4, hk4⟩⟩
        | panic ch => exact hp.elim
        | outgrown => exact hp.elim
      | exit id => exact hp.elim
      | goto t => exact hp.elim
      | ret => exact hp.elim
      | panic ch => exact hp.elim
      | outgrown => exact hp.elim
    · -- behind the iterator
      rintro e W2 ⟨⟨v, rfl⟩, (⟨hi, hl, hk⟩ | ⟨k, hkN, c, hi, hl, hk⟩)⟩
      · exact ⟨none, _, by have := run_endLoop (P := P) hl (by rw [hrec]; simp); rw [hrec] at this; exact this, hdone _ _ (Nat.le_refl _) (hI _ _ _ hi (below_putObj _ _ (by omega))) ((World.putObj_heap_other (by omega)).trans hk)⟩
      · exact ⟨some c, _, by have := run_endLoop (P := P) hl (by rw [hrec]; simp); rw [hrec] at this; exact this, hstop _ c k _ (Nat.le_refl _) hkN (hIx _ _ _ _ hi (below_putObj _ _ (by omega))) ((World.putObj_heap_other (by omega)).trans hk)⟩

end Go.Proofs.YtemfnckaehjhcaaDoor

/-
  The spots of a log, gone over by a function: what its iterator comes to.
-/
namespace Go.Proofs.YtemfnckaehjhcaaDoor
open Go.RowKit Go.Shelf
attribute [local go_sem] Oper.semAt_some

/-- What is handed on in the round k. -/
def spE (bi bt : Int) (es : List En) (k : Nat) : Array Value := #[.int .i64 (k : Int), .agg #[.int .u64 (spI bi k), .int .u64 (spT bt es k)]]

theorem spots_any (a b c : Value) (w : World) : Calls Tryd.prog 101 #[.agg #[a, b, c]] w fun e w' => e = .returned (.func (.func 117) #[] #[.pointer (some ⟨w.heap.size, 0, none⟩)]) ∧ w' = w.alloc (.cells #[a, b, c] 113) := by
  go_enter Tryd.func101, Tryd.ntmps101
  go_wp2
  go_ret
  exact ⟨rfl, rfl⟩

set_option maxRecDepth 100000 in
set_option maxHeartbeats 4000000 in
theorem spots1_mem (d : Nat) (hd : 1 ≤ d) (bi bt : Int) (A : Option Addr) (n c : Nat) (es : List En) (n₀ m : Nat) (w : World) (hn : n ≤ 1000000) (hn0 : n₀ ≤ m) (hi0 : 0 ≤ bi) (hi1 : bi < 18446744073709551616)
    (hm : Blk w m 113 #[.int .u64 bi, .int .u64 bt, .slice A n c]) (he : Es w n₀ A n es) :
    SeqMem Fence.wide d Tryd.prog 117 #[.pointer (some ⟨m, 0, none⟩)] (spE bi bt es) (n + 1) n₀ m w := fun l J Jx W hW hJ hJx hY h0 => by
  have hmlt : m < w.heap.size := hm.lt
  have hmW : Blk W m 113 #[.int .u64 bi, .int .u64 bt, .slice A n c] := hm.below hW hmlt
  have heW : Es W n₀ A n es := he.below (hW.mono (by omega))
  refine callsIn_of_wp Tryd.func117 rfl trivial ?_ rfl
  simp only [Tryd.ntmps117, List.size_toArray, List.length_cons, List.length_nil, Nat.reduceAdd, Nat.reduceSub, Array.replicate_succ, Array.replicate_zero, List.push_toArray, List.append_toArray, List.nil_append, List.cons_append]
  have c0 : W.cell? ⟨m, 0, none⟩ = some (.int .u64 bi) := hmW.cell 0
  have c1 : W.cell? ⟨m, 1, none⟩ = some (.int .u64 bt) := hmW.cell 1
  have c2 : W.cell? ⟨m, 2, none⟩ = some (.slice A n c) := hmW.cell 2
  obtain ⟨W1, hW1⟩ : ∃ W1, W.alloc (.cells #[.int .u64 bi, .int .u64 bt] 24) = W1 := ⟨_, rfl⟩
  have hb1 : Below W.heap.size W W1 := by rw [← hW1]; exact (Below.refl _ _).alloc (Nat.le_refl _) _
  have hs1 : W1.heap.size = W.heap.size + 1 := by rw [← hW1]; simp
  have hJ0 : J 0 W1 := hJ _ _ _ h0 hb1
  obtain ⟨fn, tmps, assign, body, hy, hR⟩ := hY 0 W1 hJ0 (by omega)
  rw [show spE bi bt es 0 = #[.int .i64 0, .agg #[.int .u64 bi, .int .u64 bt]] by unfold spE; rw [spI_zero bi hi0 hi1]; rfl] at hy
  subst hW1
  gi_wp2
  generalize hW1 : W.alloc (.cells #[.int .u64 bi, .int .u64 bt] 24) = W1 at *
  have hbp : Blk W1 W.heap.size 24 #[.int .u64 bi, .int .u64 bt] := by rw [← hW1]; exact Blk.new W 24 _
  have hm1 : Blk W1 m 113 #[.int .u64 bi, .int .u64 bt, .slice A n c] := hmW.below hb1 (by have := hW.size; omega)
  have he1 : Es W1 n₀ A n es := heW.below (hb1.mono (by have := hW.size; omega))
  have hmS : m < W.heap.size := hmW.lt
  generalize W.heap.size = p at *
  refine hR.mono ?_
  rintro e W2 (⟨rfl, hJ2, hk2⟩ | ⟨rfl, hJx2⟩)
  rotate_left
  · gi_wp2
    refine bodyPost_ret (results_none rfl _ _ _) rfl ?_
    exact ⟨⟨_, rfl⟩, .inr ⟨0, by omega, hJx2⟩⟩
  have hbp2 : Blk W2 p 24 #[.int .u64 (spI bi 0), .int .u64 (spT bt es 0)] := by rw [spI_zero bi hi0 hi1]; exact (hk2.high p (by omega) hbp.lt).trans hbp
  have hm2 : Blk W2 m 113 #[.int .u64 bi, .int .u64 bt, .slice A n c] := (hk2.high m (Nat.le_refl _) hm1.lt).trans hm1
  have he2 : Es W2 n₀ A n es := he1.below hk2.low
  have d2 : W2.cell? ⟨m, 2, none⟩ = some (.slice A n c) := hm2.cell 2
  clear hb1 hW1 hJ0 hy hR
  gi_wp2
  gi_loopw [17] (fun i wr => ∃ k : Nat, k ≤ n ∧ i = .int .i64 (k : Int) ∧ J (k + 1) wr ∧ Blk wr p 24 #[.int .u64 (spI bi k), .int .u64 (spT bt es k)] ∧ Es wr n₀ A n es) (fun i _ => n - (intOf i).toNat)
  case atStart => exact ⟨0, Nat.zero_le _, rfl, hJ2, hbp2, he2⟩
  case round =>
    obtain ⟨k, hk, rfl, hJk, hbk, hek⟩ := hrel
    by_cases hlt : k < n
    · obtain ⟨b, o, x, hA, hb, hx, hxo, hxc⟩ := hek.at_ hlt
      obtain ⟨x0, x1, x2⟩ := rng3 hxc
      have hxt : x.t = spT bt es (k + 1) := congrArg En.t hx
      subst hA
      obtain ⟨xt, xk, xA, xn, xc, xd⟩ := x
      simp only at x0 x1 x2 hxt
      have p0 : wr.cell? ⟨p, 0, none⟩ = some (.int .u64 (spI bi k)) := hbk.cell 0
      have p1 : wr.cell? ⟨p, 1, none⟩ = some (.int .u64 (spT bt es k)) := hbk.cell 1
      have f0 : wr.frozen? ⟨p, 0, none⟩ = false := hbk.frozen 0
      have f1 : wr.frozen? ⟨p, 1, none⟩ = false := hbk.frozen 1
      have k0 : (0 : Int) ≤ (k : Int) := by omega
      have hpl := hbk.lt
      gi_wp2_with fail
      gi_region
      have ew : IntKind.u64.wrap (spI bi k + 1) = spI bi (k + 1) := by rw [IntKind.wrap_u64]; exact spI_succ bi k
      rw [ew]
      have HB : Below p wr (((wr.setCell ⟨p, 0, none⟩ (.int .u64 (spI bi (k + 1)))).setCell ⟨p, 1, none⟩ (.int .u64 (spT bt es (k + 1)))).alloc (.cells #[.int .u64 (spT bt es (k + 1)), .int .i64 xk, .slice xA xn xc] 56)).drew :=
        ((((Below.refl _ _).setCell (p := ⟨p, 0, none⟩) (Nat.le_refl _) _).setCell (p := ⟨p, 1, none⟩) (Nat.le_refl _) _).alloc (by simp [World.setCell]; omega) _).drew
      have HP : Blk (((wr.setCell ⟨p, 0, none⟩ (.int .u64 (spI bi (k + 1)))).setCell ⟨p, 1, none⟩ (.int .u64 (spT bt es (k + 1)))).alloc (.cells #[.int .u64 (spT bt es (k + 1)), .int .i64 xk, .slice xA xn xc] 56)).drew p 24 #[.int .u64 (spI bi (k + 1)), .int .u64 (spT bt es (k + 1))] :=
        (((hbk.set_ 0 _).set_ 1 _).alloc _).drewN 1
      generalize (((wr.setCell ⟨p, 0, none⟩ (.int .u64 (spI bi (k + 1)))).setCell ⟨p, 1, none⟩ (.int .u64 (spT bt es (k + 1)))).alloc (.cells #[.int .u64 (spT bt es (k + 1)), .int .i64 xk, .slice xA xn xc] 56)).drew = wx at *
      have hJx1 : J (k + 1) wx := hJ _ _ _ hJk HB
      have hex : Es wx n₀ (some ⟨b, o, none⟩) n es := hek.below (HB.mono (by omega))
      obtain ⟨fn2, tmps2, assign2, body2, hy2, hR2⟩ := hY (k + 1) wx hJx1 (by omega)
      rw [show spE bi bt es (k + 1) = #[.int .i64 ((k : Int) + 1), .agg #[.int .u64 (spI bi (k + 1)), .int .u64 (spT bt es (k + 1))]] from rfl] at hy2
      have q0 : wx.cell? ⟨p, 0, none⟩ = some (.int .u64 (spI bi (k + 1))) := HP.cell 0
      have q1 : wx.cell? ⟨p, 1, none⟩ = some (.int .u64 (spT bt es (k + 1))) := HP.cell 1
      clear x0 x1 x2 p0 p1 f0 f1 hxc hek hbk hJk
      gi_wp2
      refine hR2.mono ?_
      rintro e W3 (⟨rfl, hJ3, hk3⟩ | ⟨rfl, hJx3⟩)
      · gi_wp2
        go_roundw
        case rel => exact ⟨k + 1, by omega, by go_num, hJ3, (hk3.high p (by omega) HP.lt).trans HP, hex.below hk3.low⟩
        case measure => simp [intOf]; omega
      · gi_wp2
        refine bodyPost_ret (results_none rfl _ _ _) rfl ?_
        exact ⟨⟨_, rfl⟩, .inr ⟨k + 1, by omega, hJx3⟩⟩
    · obtain rfl : k = n := by omega
      gi_wp2
      go_end0
      exact ⟨⟨_, rfl⟩, .inl hJk⟩

end Go.Proofs.YtemfnckaehjhcaaDoor

/-
  The end of a log: the program's last.
-/
namespace Go.Proofs.YtemfnckaehjhcaaDoor
open Go.RowKit Go.Shelf
attribute [local go_sem] Oper.semAt_some

/-- The end, so far as k spots have come. -/
def endI (bi : Int) : Nat → Int
  | 0 => 0
  | k + 1 => spI bi k
def endT (bt : Int) (es : List En) : Nat → Int
  | 0 => 0
  | k + 1 => spT bt es k

theorem results24 {fn : Func} {p : Tmp} (h : fn.results = #[.cell p 24]) (tmps : Array Value) (w : World) (g : Nat) (a b : Value)
    (hp : tmps.getD p undef = .pointer (some ⟨g, 0, none⟩)) (hg : Blk w g 24 #[a, b]) : (results fn tmps).run Tryd.prog w = .ok (.agg #[a, b]) w := by
  have d0 : w.cell? ⟨g, 0, none⟩ = some a := hg.cell 0
  have d1 : w.cell? ⟨g, 1, none⟩ = some b := hg.cell 1
  have hp' : tmps[p]?.getD undef = .pointer (some ⟨g, 0, none⟩) := by simpa using hp
  simp [results, h, hp', go_sem, d0, d1]
/-- The block for the rounds' deferred calls is shut. -/
theorem below_shut {B D : Nat} (W : World) (o : Obj) (h : B ≤ D) : Below B W (W.putObj D o) := below_putObj W o h
theorem Blk.put {W : World} {g D : Nat} {t : TypeId} {cs : Array Value} (h : Blk W g t cs) (o : Obj) (hne : g ≠ D) : Blk (W.putObj D o) g t cs := (World.putObj_heap_other hne).trans h
theorem Blk.putR {W : World} {g D : Nat} {t : TypeId} {cs : Array Value} {o : Obj} (h : Blk W g t cs) (hD : W.heap[D]? = some o) (ho : o.isCells = false) (o' : Obj) : Blk (W.putObj D o') g t cs := by
  refine h.put o' fun e => ?_
  subst e
  unfold Blk at h
  rw [h] at hD
  injection hD with hD
  subst hD
  cases ho

set_option maxRecDepth 100000 in
set_option maxHeartbeats 4000000 in
theorem last_any (l : Lg) (A : Option Addr) (n c B : Nat) (w : World) (h : Lr w B A n c l) (hB : B ≤ w.heap.size) :
    Calls Tryd.prog 79 #[.agg #[.int .u64 l.bi, .int .u64 l.bt, .slice A n c]] w fun e w' => e = .returned (.agg #[.int .u64 l.lastI, .int .u64 l.lastT]) ∧ Below w.heap.size w w' := by
  have hlen := h.len
  unfold Lg.lastI Lg.lastT Lg.I Lg.T
  rw [hlen]
  obtain ⟨bi, bt, es⟩ := l
  obtain ⟨hes, hnc, hnil, hn, hi0, hi1, ht0, ht1⟩ := h
  simp only at hes hi0 hi1 ht0 ht1 hlen ⊢
  refine (callsIn_wide (n := 9)).1 ?_
  refine callsIn_of_wp_marks Tryd.func79 rfl trivial ?_ rfl
  simp only [Tryd.ntmps79, List.size_toArray, List.length_cons, List.length_nil, Nat.reduceAdd, Nat.reduceSub, Array.replicate_succ, Array.replicate_zero, List.push_toArray, List.append_toArray, List.nil_append, List.cons_append]
  gi_wp2_with (refine ⟨trivial, ?_⟩; gi_at_call 101; refine (callsIn_wide.2 (spots_any _ _ _ _)).mono ?_; rintro e w' ⟨rfl, rfl⟩)
  obtain ⟨g, hg⟩ : ∃ g, w.heap.size = g := ⟨_, rfl⟩
  obtain ⟨W0, hW0⟩ : ∃ W0, ((((w.alloc (.cells #[.int .u64 bi, .int .u64 bt, .slice A n c] 113)).alloc (.cells #[.int .u64 0, .int .u64 0] 24)).alloc (.cells #[.int .u64 0, .int .u64 0] 24)).alloc (.cells #[.int .u64 bi, .int .u64 bt, .slice A n c] 113)) = W0 := ⟨_, rfl⟩
  have b1 : Blk W0 (g + 1) 24 #[.int .u64 0, .int .u64 0] := by rw [← hW0, ← hg]; exact ((Blk.fresh (by simp)).alloc _).alloc _
  have b2 : Blk W0 (g + 2) 24 #[.int .u64 0, .int .u64 0] := by rw [← hW0, ← hg]; exact (Blk.fresh (by simp)).alloc _
  have b3 : Blk W0 (g + 3) 113 #[.int .u64 bi, .int .u64 bt, .slice A n c] := by rw [← hW0, ← hg]; exact Blk.fresh (by simp)
  have hb0 : Below g w W0 := by rw [← hW0, ← hg]; exact ((((Below.refl _ _).alloc (Nat.le_refl _) _).alloc (by simp) _).alloc (by simp; omega) _).alloc (by simp; omega) _
  have hs0 : W0.heap.size = g + 4 := by rw [← hW0, ← hg]; simp
  rw [hW0]
  rw [hg] at hB ⊢
  clear hW0
  refine wpIn_rangeFunc_mem rfl (by omega) (gf := 117) (lb := #[.pointer (some ⟨g + 3, 0, none⟩)]) rfl trivial (enters_of Tryd.func117 (by kernel_rfl) rfl)
    (spots1_mem 8 (by omega) bi bt A n c es g (g + 3) W0 (by omega) (by omega) hi0 hi1 b3 ((hes.more hB).below hb0)) (by omega) (by omega) (fun _ => rfl)
    (fun k W => Blk W (g + 1) 24 #[.int .u64 0, .int .u64 0] ∧ Blk W (g + 2) 24 #[.int .u64 (endI bi k), .int .u64 (endT bt es k)] ∧ Below g w W)
    (fun _ _ _ => False)
    (fun k X Y hs hb => ⟨hs.1.below hb (by omega), hs.2.1.below hb (by omega), hs.2.2.trans (hb.mono (by omega))⟩)
    (fun _ _ _ _ hs _ => hs) ⟨b1, b2, hb0⟩
    (fun k a W => ∃ p, g + 4 ≤ p ∧ Blk W p 24 #[.int .u64 (spI bi k), .int .u64 (spT bt es k)] ∧ a = { tmps := #[.agg #[.int .u64 bi, .int .u64 bt, .slice A n c], .pointer (some ⟨g, 0, none⟩), .pointer (some ⟨g + 1, 0, none⟩), .pointer (some ⟨g + 1 + 1, 0, none⟩), undef, .pointer (some ⟨p, 0, none⟩), .agg #[.int .u64 bi, .int .u64 bt, .slice A n c], .func (.func 117) #[] #[.pointer (some ⟨g + 1 + 1 + 1, 0, none⟩)], .int .i64 (k : Int), .agg #[.int .u64 (spI bi k), .int .u64 (spT bt es k)], undef, undef], defers := [] })
    (fun k a X r o o' hs hr ho => by
      obtain ⟨p, hp, hbp, rfl⟩ := hs
      exact ⟨p, hp, hbp.putR hr ho o', rfl⟩) ?assign ?body ?done ?stop
  case assign =>
    intro l k W hI hsz hk
    simp only [spE]
    gi_wp2
    exact ⟨Fixed.of_below ((Below.refl _ _).alloc (Nat.le_refl _) _) (by omega), ⟨hI.1.alloc _, hI.2.1.alloc _, hI.2.2.alloc (by omega) _⟩, W.heap.size, by omega, Blk.new W 24 _, rfl⟩
  case body =>
    rintro l k a1 W ⟨i1, i2, i3⟩ ⟨p, hp, hbp, rfl⟩ hsz hk
    have p0 : W.cell? ⟨p, 0, none⟩ = some (.int .u64 (spI bi k)) := hbp.cell 0
    have p1 : W.cell? ⟨p, 1, none⟩ = some (.int .u64 (spT bt es k)) := hbp.cell 1
    have e0 : W.cell? ⟨g + 1 + 1, 0, none⟩ = some (.int .u64 (endI bi k)) := i2.cell 0
    have e1 : W.cell? ⟨g + 1 + 1, 1, none⟩ = some (.int .u64 (endT bt es k)) := i2.cell 1
    have f0 : W.frozen? ⟨g + 1 + 1, 0, none⟩ = false := i2.frozen 0
    have f1 : W.frozen? ⟨g + 1 + 1, 1, none⟩ = false := i2.frozen 1
    gi_wp2
    refine ⟨⟨((Below.refl _ _).setCell (p := ⟨g + 2, 0, none⟩) (by simp) _).setCell (p := ⟨g + 2, 1, none⟩) (by simp) _, fun j hj _ => ?_⟩, (i1.far (by simp) _).far (by simp) _, (i2.set_ 0 _).set_ 1 _, (i3.setCell (p := ⟨g + 2, 0, none⟩) (by simp) _).setCell (p := ⟨g + 2, 1, none⟩) (by simp) _⟩
    exact (Below.heap_setCell _ _ _ _ (by simp; omega)).trans (Below.heap_setCell _ _ _ _ (by simp; omega))
  case done =>
    rintro D W hD ⟨i1, i2, i3⟩ hK
    have e0 : W.cell? ⟨g + 1 + 1, 0, none⟩ = some (.int .u64 (spI bi n)) := i2.cell 0
    have e1 : W.cell? ⟨g + 1 + 1, 1, none⟩ = some (.int .u64 (spT bt es n)) := i2.cell 1
    have q0 : W.cell? ⟨g + 1, 0, none⟩ = some (.int .u64 0) := i1.cell 0
    have q1 : W.cell? ⟨g + 1, 1, none⟩ = some (.int .u64 0) := i1.cell 1
    have f0 : W.frozen? ⟨g + 1, 0, none⟩ = false := i1.frozen 0
    have f1 : W.frozen? ⟨g + 1, 1, none⟩ = false := i1.frozen 1
    gi_wp2
    have r1 : Blk ((W.setCell ⟨g + 1, 0, none⟩ (.int .u64 (spI bi n))).setCell ⟨g + 1, 1, none⟩ (.int .u64 (spT bt es n))) (g + 1) 24 #[.int .u64 (spI bi n), .int .u64 (spT bt es n)] := (i1.set_ 0 _).set_ 1 _
    have r2 : Below g w ((W.setCell ⟨g + 1, 0, none⟩ (.int .u64 (spI bi n))).setCell ⟨g + 1, 1, none⟩ (.int .u64 (spT bt es n))) := (i3.setCell (p := ⟨g + 1, 0, none⟩) (by simp) _).setCell (p := ⟨g + 1, 1, none⟩) (by simp) _
    have r3 : ((W.setCell ⟨g + 1, 0, none⟩ (.int .u64 (spI bi n))).setCell ⟨g + 1, 1, none⟩ (.int .u64 (spT bt es n))).heap[D]? = some (.deferred (some [])) := (Below.heap_setCell _ _ _ _ (by simp; omega)).trans ((Below.heap_setCell _ _ _ _ (by simp; omega)).trans hK)
    generalize (W.setCell ⟨g + 1, 0, none⟩ (.int .u64 (spI bi n))).setCell ⟨g + 1, 1, none⟩ (.int .u64 (spT bt es n)) = W5 at *
    refine ⟨by simp, .inl ⟨_, _, rfl, run_takeDeferred r3, ?_⟩⟩
    exact ⟨_, results24 rfl _ _ (g + 1) _ _ rfl (r1.putR r3 rfl _), rfl, by rw [hg]; exact r2.trans (below_shut _ (.deferred none) (by omega))⟩
  case stop =>
    rintro D c k W _ _ hf _
    exact hf.elim

end Go.Proofs.YtemfnckaehjhcaaDoor

/-
  What a log tells: the program's Last, Term, Has, Check, Cut.
-/
namespace Go.Proofs.YtemfnckaehjhcaaDoor
open Go.RowKit
theorem field1 (w : World) (a b : Int) : (Instr.field 24 (.agg #[.int .u64 a, .int .u64 b]) 1).run Tryd.prog w = .ok (.int .u64 b) w := by
  have e : (Tryd.prog.fieldsOf 24)[1]? = some ⟨"Term", 22, 1, false, "", "", 8⟩ := by rw [← Array.getElem?_toList, f24]; rfl
  unfold Instr.field
  simp only [Sem.run_bind, run_underlying u24, Result.andThen_ok, e]
  simp [asAgg, part_int w 22 .u64 Tryd.underlying22 #[.int .u64 a, .int .u64 b] 1 (.int .u64 b) rfl]
attribute [local go_sem ↓] field1

theorem resTT {fn : Func} {p q : Tmp} (h : fn.results = #[.tmp p, .tmp q]) (tmps : Array Value) (w : World) (x y : Value) (hp : tmps.getD p undef = x) (hq : tmps.getD q undef = y) : (results fn tmps).run Tryd.prog w = .ok (.tuple #[x, y]) w := by
  subst hp hq
  simp [results, h, go_sem]
/-- The end of a log that may be; else nothing. -/
def pLastI (l : Lg) : Int := if right l = true then l.lastI else 0
def pLastT (l : Lg) : Int := if right l = true then l.lastT else 0

/-- What Check answers. -/
def checkE (l : Lg) (top : Int) : Int := if right l = false then 160 else if top < l.lastT then 2 else 0
set_option maxHeartbeats 1000000 in
theorem Check_any (l : Lg) (A : Option Addr) (n c B : Nat) (w : World) (h : Lr w B A n c l) (hB : B ≤ w.heap.size) (top : Int) :
    Calls Tryd.prog 52 #[.agg #[.int .u64 l.bi, .int .u64 l.bt, .slice A n c], .int .u64 top] w fun e w' => e = .returned (.int .i64 (checkE l top)) ∧ Below w.heap.size w w' := by
  have MB := Lib.hid (fun W (hW : Below B w W) => maybe_any l A n c B W (h.below hW) (Nat.le_trans hB hW.size))
  have LA := Lib.hid (fun W (hW : Below B w W) => last_any l A n c B W (h.below hW) (Nat.le_trans hB hW.size))
  unfold checkE
  generalize right l = R at *
  generalize l.lastI = LI at *
  generalize l.lastT = LT at *
  obtain ⟨bi, bt, es⟩ := l
  simp only at MB LA ⊢
  have B1 := Lib.hid (show Blk ((w.alloc (.cells #[.int .u64 bi, .int .u64 bt, .slice A n c] 65)).alloc (.cells #[.int .u64 bi, .int .u64 bt, .slice A n c] 113)) (w.heap.size + 1) 113 #[.int .u64 bi, .int .u64 bt, .slice A n c] from Blk.fresh (by simp))
  have HB := Lib.hid (show Below w.heap.size w ((w.alloc (.cells #[.int .u64 bi, .int .u64 bt, .slice A n c] 65)).alloc (.cells #[.int .u64 bi, .int .u64 bt, .slice A n c] 113)) from ((Below.refl _ _).alloc (Nat.le_refl _) _).alloc (by simp) _)
  clear h
  cases R with
  | false =>
    rw [if_pos rfl]
    go_enter Tryd.func52, Tryd.ntmps52
    go_wp2_with (go_at_call 78; refine (MB.out _ (HB.out.mono hB)).mono ?_; rintro e w1 ⟨rfl, hb1⟩; have HQ := Lib.hid (HB.out.trans (hb1.mono HB.out.size)); clear hb1)
    go_ret
    exact ⟨rfl, HQ.out⟩
  | true =>
    rw [if_neg (by simp)]
    by_cases ht : top < LT
    · have ht' : decide (top < LT) = true := decide_eq_true ht
      rw [if_pos ht]
      clear ht
      go_enter Tryd.func52, Tryd.ntmps52
      go_wp2_with (first | (go_at_call 78; refine (MB.out _ (HB.out.mono hB)).mono ?_; rintro e w1 ⟨rfl, hb1⟩; have Q1 := B1.out.below hb1 B1.out.lt; have HQ := Lib.hid (HB.out.trans (hb1.mono HB.out.size)); have d0 : w1.cell? ⟨w.heap.size + 1, 0, none⟩ = some (.int .u64 bi) := Q1.cell 0; have d1 : w1.cell? ⟨w.heap.size + 1, 1, none⟩ = some (.int .u64 bt) := Q1.cell 1; have d2 : w1.cell? ⟨w.heap.size + 1, 2, none⟩ = some (.slice A n c) := Q1.cell 2; clear hb1 Q1) | (go_at_call 79; refine (LA.out _ (HQ.out.mono hB)).mono ?_; rintro e w2 ⟨rfl, hb2⟩; have HQ2 := Lib.hid (HQ.out.trans (hb2.mono HQ.out.size)); clear hb2))
      go_ret
      exact ⟨rfl, HQ2.out⟩
    · have ht' : decide (top < LT) = false := decide_eq_false ht
      rw [if_neg ht]
      clear ht
      go_enter Tryd.func52, Tryd.ntmps52
      go_wp2_with (first | (go_at_call 78; refine (MB.out _ (HB.out.mono hB)).mono ?_; rintro e w1 ⟨rfl, hb1⟩; have Q1 := B1.out.below hb1 B1.out.lt; have HQ := Lib.hid (HB.out.trans (hb1.mono HB.out.size)); have d0 : w1.cell? ⟨w.heap.size + 1, 0, none⟩ = some (.int .u64 bi) := Q1.cell 0; have d1 : w1.cell? ⟨w.heap.size + 1, 1, none⟩ = some (.int .u64 bt) := Q1.cell 1; have d2 : w1.cell? ⟨w.heap.size + 1, 2, none⟩ = some (.slice A n c) := Q1.cell 2; clear hb1 Q1) | (go_at_call 79; refine (LA.out _ (HQ.out.mono hB)).mono ?_; rintro e w2 ⟨rfl, hb2⟩; have HQ2 := Lib.hid (HQ.out.trans (hb2.mono HQ.out.size)); clear hb2))
      go_ret
      exact ⟨rfl, HQ2.out⟩

end Go.Proofs.YtemfnckaehjhcaaDoor

/-
  Whether entries, logs are the same: the program's Same, the document's.
-/
namespace Go.Proofs.YtemfnckaehjhcaaDoor
open Go.RowKit
attribute [local go_sem ↓] eqA neA eqGA

theorem en_eq (x y : Ec) : decide (x.en = y.en) = ((x.t == y.t) && ((x.k == y.k) && (x.d == y.d))) := by
  obtain ⟨a, b, c, d, e, f⟩ := x
  obtain ⟨a', b', c', d', e', f'⟩ := y
  show decide ((⟨a, b, f⟩ : En) = ⟨a', b', f'⟩) = ((a == a') && ((b == b') && (f == f')))
  by_cases h1 : a = a'
  · by_cases h2 : b = b'
    · by_cases h3 : f = f'
      · simp [h1, h2, h3]
      · simp [h1, h2, h3]
    · simp [h2]
  · simp [h1]

set_option linter.unusedSimpArgs false in
set_option maxHeartbeats 1000000 in
theorem sameentry_any (x y : Ec) (B : Nat) (w : World) (hx : x.ok w B) (hy : y.ok w B) (hB : B ≤ w.heap.size) :
    Calls Tryd.prog 59 #[.agg #[.int .u64 x.t, .int .i64 x.k, .slice x.A x.n x.c], .agg #[.int .u64 y.t, .int .i64 y.k, .slice y.A y.n y.c]] w fun e w' => e = .returned (.bool (decide (x.en = y.en))) ∧ Below w.heap.size w w' := by
  rw [en_eq]
  obtain ⟨xt, xk, xA, xn, xc, xd⟩ := x
  obtain ⟨yt, yk, yA, yn, yc, yd⟩ := y
  have BE := Lib.hid (fun W (hW : Below B w W) => bequal_any xA yA xn xc yn yc xd yd W B B (hx.by_.below hW) (hy.by_.below hW))
  simp only at BE ⊢
  have HB := Lib.hid (show Below w.heap.size w ((w.alloc (.cells #[.int .u64 xt, .int .i64 xk, .slice xA xn xc] 56)).alloc (.cells #[.int .u64 yt, .int .i64 yk, .slice yA yn yc] 56)) from ((Below.refl _ _).alloc (Nat.le_refl _) _).alloc (by simp) _)
  clear hx hy
  cases h1 : (xt == yt) with
  | false =>
    rw [Bool.false_and]
    go_enter Tryd.func59, Tryd.ntmps59
    go_wp2
    go_ret
    exact ⟨rfl, HB.out⟩
  | true =>
    cases h2 : (xk == yk) with
    | false =>
      rw [Bool.false_and, Bool.true_and]
      go_enter Tryd.func59, Tryd.ntmps59
      go_wp2
      go_ret
      exact ⟨rfl, HB.out⟩
    | true =>
      rw [Bool.true_and, Bool.true_and]
      go_enter Tryd.func59, Tryd.ntmps59
      go_wp2_with (go_at_call 22; refine (BE.out _ (HB.out.mono hB)).mono ?_; rintro e w1 ⟨rfl, rfl⟩)
      go_ret
      exact ⟨rfl, HB.out⟩

theorem take_same {es es' : List En} {k : Nat} (h : es.take k = es'.take k) (h1 : k < es.length) (h2 : k < es'.length) (he : es.getD k e0 = es'.getD k e0) : es.take (k + 1) = es'.take (k + 1) := by
  rw [List.take_add_one, List.take_add_one, h, List.getElem?_eq_getElem h1, List.getElem?_eq_getElem h2]
  simp only [List.getD, List.getElem?_eq_getElem h1, List.getElem?_eq_getElem h2, Option.getD_some] at he
  rw [he]
theorem take_diff {es es' : List En} {k : Nat} (he : es.getD k e0 ≠ es'.getD k e0) : es ≠ es' := fun e => he (by rw [e])


theorem below_drewN {B : Nat} {a w : World} (h : Below B a w) (q : Nat) : Below B a (w.drewN q) := ⟨h.os, h.tape, h.output, h.size, h.block⟩

set_option linter.unusedSimpArgs false in
set_option maxRecDepth 100000 in
set_option maxHeartbeats 2000000 in
theorem equalfunc_any (A A' : Option Addr) (n m c c' B : Nat) (es es' : List En) (w : World) (h : Es w B A n es) (h' : Es w B A' m es') (hB : B ≤ w.heap.size) (hn : n ≤ 1000000) :
    Calls Tryd.prog 58 #[.slice A n c, .slice A' m c', .func (.func 59) #[] #[]] w fun e w' => e = .returned (.bool (decide (es = es'))) ∧ Below w.heap.size w w' := by
  have H := Lib.hid h
  have H' := Lib.hid h'
  have HL := Lib.hid h.len
  have HL' := Lib.hid h'.len
  clear h h'
  by_cases hnm : n = m
  rotate_left
  · have hne : decide (es = es') = false := decide_eq_false (fun e => hnm (by rw [← HL.out, ← HL'.out, e]))
    have hnm' : ((n : Int) == (m : Int)) = false := by simp; omega
    have hnm2 : ¬ ((n : Int) = (m : Int)) := by omega
    rw [hne]
    go_enter Tryd.func58, Tryd.ntmps58
    go_wp2
    go_ret
    exact ⟨rfl, Below.refl _ _⟩
  subst hnm
  go_enter Tryd.func58, Tryd.ntmps58
  go_wp2
  go_loopw [17] (fun i wr => ∃ k : Nat, k ≤ n ∧ i = .int .i64 k ∧ es.take k = es'.take k ∧ Below w.heap.size w wr) (fun i _ => n - (intOf i).toNat)
  case atStart => exact ⟨0, Nat.zero_le _, rfl, rfl, Below.refl _ _⟩
  case round =>
    obtain ⟨k, hk, rfl, htk, hb⟩ := hrel
    by_cases hlt : k < n
    · obtain ⟨b1, o1, x, rfl, hb1, hx, hxo, hxc⟩ := (H.out.below (hb.mono hB)).at_ hlt
      obtain ⟨b2, o2, y, rfl, hb2, hy, hyo, hyc⟩ := (H'.out.below (hb.mono hB)).at_ hlt
      obtain ⟨c0, c1, c2⟩ := rng3 hxc
      obtain ⟨e0, e1, e2⟩ := rng3 hyc
      have HBW := Lib.hid hb
      have TK := Lib.hid htk
      have k0 : (0 : Int) ≤ (k : Int) := by omega
      have hs := hb.size
      have g1 : b1 < wr.heap.size := by omega
      have g2 : b2 < wr.heap.size := by omega
      have YES : Hid (x.en = y.en → es.take (k + 1) = es'.take (k + 1)) := Lib.hid (fun e => take_same TK.out (by rw [HL.out]; exact hlt) (by rw [HL'.out]; exact hlt) (by rw [← hx, ← hy]; exact e))
      have NO : Hid (x.en ≠ y.en → decide (es = es') = false) := Lib.hid (fun e => decide_eq_false (take_diff (k := k) (by rw [← hx, ← hy]; exact e)))
      have HXO := Lib.hid hxo
      have HYO := Lib.hid hyo
      have hen := en_eq x y
      clear hxc hyc hx hy hxo hyo hb htk hs
      obtain ⟨xt, xk, xA, xn, xc, xd⟩ := x
      obtain ⟨yt, yk, yA, yn, yc, yd⟩ := y
      simp only at c0 c1 c2 e0 e1 e2 hen
      have SE := Lib.hid (fun W (hW : Below wr.heap.size wr W) => sameentry_any ⟨xt, xk, xA, xn, xc, xd⟩ ⟨yt, yk, yA, yn, yc, yd⟩ B W (HXO.out.below (hW.mono (Nat.le_trans hB HBW.out.size))) (HYO.out.below (hW.mono (Nat.le_trans hB HBW.out.size))) (Nat.le_trans (Nat.le_trans hB HBW.out.size) hW.size))
      have F2 := Lib.hid (show Below wr.heap.size wr ((wr.alloc (.cells #[.int .u64 xt, .int .i64 xk, .slice xA xn xc] 56)).alloc (.cells #[.int .u64 yt, .int .i64 yk, .slice yA yn yc] 56)) from ((Below.refl _ _).alloc (Nat.le_refl _) _).alloc (by simp) _)
      cases hd : decide ((⟨xt, xk, xA, xn, xc, xd⟩ : Ec).en = (⟨yt, yk, yA, yn, yc, yd⟩ : Ec).en) with
      | true =>
        rw [hd] at SE
        have hYES := YES.out (of_decide_eq_true hd)
        clear YES NO hen hd
        have HY2 := Lib.hid hYES
        clear hYES
        go_wp2_with (go_at_call 59; go_loud (refine (SE.out _ F2.out).mono ?_; rintro e w1 ⟨rfl, hb1⟩; have HB1 := Lib.hid (HBW.out.trans ((F2.out.trans (hb1.mono F2.out.size)).mono HBW.out.size)); clear hb1))
        go_roundw
        case rel => exact ⟨k + 1, by omega, by go_num, HY2.out, HB1.out⟩
        case measure => simp [intOf]; omega
      | false =>
        rw [hd] at SE
        have hNO := NO.out (of_decide_eq_false hd)
        clear YES NO hen hd
        have HN2 := Lib.hid hNO
        clear hNO
        go_wp2_with (go_at_call 59; go_loud (refine (SE.out _ F2.out).mono ?_; rintro e w1 ⟨rfl, hb1⟩; have HB1 := Lib.hid (HBW.out.trans ((F2.out.trans (hb1.mono F2.out.size)).mono HBW.out.size)); clear hb1))
        go_ret
        exact ⟨by rw [HN2.out]; rfl, HB1.out⟩
    · obtain rfl : k = n := by omega
      have heq : es = es' := by rw [List.take_of_length_le (by rw [HL.out]; exact Nat.le_refl _), List.take_of_length_le (by rw [HL'.out]; exact Nat.le_refl _)] at htk; exact htk
      have HEQ := Lib.hid (decide_eq_true heq)
      have HBW := Lib.hid hb
      clear heq htk hb
      go_wp2
      go_ret
      exact ⟨by rw [HEQ.out]; rfl, HBW.out⟩

set_option linter.unusedSimpArgs false in
set_option maxRecDepth 100000 in
set_option maxHeartbeats 2000000 in
theorem sameentries_any (A A' : Option Addr) (n m c c' B : Nat) (es es' : List En) (w : World) (h : Es w B A n es) (h' : Es w B A' m es') (hB : B ≤ w.heap.size) (hn : n ≤ 1000000) :
    Calls Tryd.prog 38 #[.slice A n c, .slice A' m c'] w fun e w' => e = .returned (.bool (decide (es = es'))) ∧ Below w.heap.size w w' := by
  have H := Lib.hid h
  have H' := Lib.hid h'
  have HL := Lib.hid h.len
  have HL' := Lib.hid h'.len
  clear h h'
  by_cases hnm : n = m
  rotate_left
  · have hne : decide (es = es') = false := decide_eq_false (fun e => hnm (by rw [← HL.out, ← HL'.out, e]))
    have hnm' : ((n : Int) == (m : Int)) = false := by simp; omega
    have hnm2 : ¬ ((n : Int) = (m : Int)) := by omega
    rw [hne]
    go_enter Tryd.func38, Tryd.ntmps38
    go_wp2
    go_ret
    exact ⟨rfl, Below.refl _ _⟩
  subst hnm
  go_enter Tryd.func38, Tryd.ntmps38
  go_wp2
  go_loopw [15] (fun i wr => ∃ k : Nat, k ≤ n ∧ i = .int .i64 k ∧ es.take k = es'.take k ∧ Below w.heap.size w wr) (fun i _ => n - (intOf i).toNat)
  case atStart => exact ⟨0, Nat.zero_le _, rfl, rfl, Below.refl _ _⟩
  case round =>
    obtain ⟨k, hk, rfl, htk, hb⟩ := hrel
    by_cases hlt : k < n
    · obtain ⟨b1, o1, x, rfl, hb1, hx, hxo, hxc⟩ := (H.out.below (hb.mono hB)).at_ hlt
      obtain ⟨b2, o2, y, rfl, hb2, hy, hyo, hyc⟩ := (H'.out.below (hb.mono hB)).at_ hlt
      obtain ⟨c0, c1, c2⟩ := rng3 hxc
      obtain ⟨e0, e1, e2⟩ := rng3 hyc
      have HBW := Lib.hid hb
      have TK := Lib.hid htk
      have k0 : (0 : Int) ≤ (k : Int) := by omega
      have hs := hb.size
      have g1 : b1 < wr.heap.size := by omega
      have g2 : b2 < wr.heap.size := by omega
      have YES : Hid (x.en = y.en → es.take (k + 1) = es'.take (k + 1)) := Lib.hid (fun e => take_same TK.out (by rw [HL.out]; exact hlt) (by rw [HL'.out]; exact hlt) (by rw [← hx, ← hy]; exact e))
      have NO : Hid (x.en ≠ y.en → decide (es = es') = false) := Lib.hid (fun e => decide_eq_false (take_diff (k := k) (by rw [← hx, ← hy]; exact e)))
      have HXO := Lib.hid hxo
      have HYO := Lib.hid hyo
      have hen := en_eq x y
      clear hxc hyc hx hy hxo hyo hb htk hs
      obtain ⟨xt, xk, xA, xn, xc, xd⟩ := x
      obtain ⟨yt, yk, yA, yn, yc, yd⟩ := y
      simp only at c0 c1 c2 e0 e1 e2 hen
      have SE := Lib.hid (fun W (hW : Below wr.heap.size wr W) => same_any xA yA xn xc yn yc xd yd W B B (HXO.out.by_.below (hW.mono (Nat.le_trans hB HBW.out.size))) (HYO.out.by_.below (hW.mono (Nat.le_trans hB HBW.out.size))) (by have := HXO.out.n; simp only at this; omega) (by have := HYO.out.n; simp only at this; omega))
      have F2 := Lib.hid (show Below wr.heap.size wr ((wr.alloc (.cells #[.int .u64 xt, .int .i64 xk, .slice xA xn xc] 56)).alloc (.cells #[.int .u64 yt, .int .i64 yk, .slice yA yn yc] 56)) from ((Below.refl _ _).alloc (Nat.le_refl _) _).alloc (by simp) _)
      cases h1 : (xt == yt) with
      | false =>
        rw [h1, Bool.false_and] at hen
        have h1' : ¬ xt = yt := by simpa using h1
        have HN2 := Lib.hid (NO.out (of_decide_eq_false hen))
        clear YES NO hen
        go_wp2
        go_ret
        exact ⟨by rw [HN2.out]; rfl, HBW.out.trans (F2.out.mono HBW.out.size)⟩
      | true =>
        rw [h1, Bool.true_and] at hen
        obtain rfl : xt = yt := by simpa using h1
        cases h2 : (xk == yk) with
        | false =>
          rw [h2, Bool.false_and] at hen
          have h2' : ¬ xk = yk := by simpa using h2
          have HN2 := Lib.hid (NO.out (of_decide_eq_false hen))
          clear YES NO hen
          go_wp2
          go_ret
          exact ⟨by rw [HN2.out]; rfl, HBW.out.trans (F2.out.mono HBW.out.size)⟩
        | true =>
          rw [h2, Bool.true_and] at hen
          obtain rfl : xk = yk := by simpa using h2
          cases h3 : (xd == yd) with
          | false =>
            rw [h3] at hen SE
            have HN2 := Lib.hid (NO.out (of_decide_eq_false hen))
            clear YES NO hen
            go_wp2_with (go_at_call 13; go_loud (refine (SE.out _ F2.out).mono ?_; rintro e w1 ⟨rfl, q, rfl⟩))
            go_ret
            exact ⟨by rw [HN2.out]; rfl, below_drewN (HBW.out.trans (F2.out.mono HBW.out.size)) q⟩
          | true =>
            rw [h3] at hen SE
            have HY2 := Lib.hid (YES.out (of_decide_eq_true hen))
            clear YES NO hen
            go_wp2_with (go_at_call 13; go_loud (refine (SE.out _ F2.out).mono ?_; rintro e w1 ⟨rfl, q, rfl⟩))
            go_roundw
            case rel => exact ⟨k + 1, by omega, by go_num, HY2.out, below_drewN (HBW.out.trans (F2.out.mono HBW.out.size)) q⟩
            case measure => simp [intOf]; omega
    · obtain rfl : k = n := by omega
      have heq : es = es' := by rw [List.take_of_length_le (by rw [HL.out]; exact Nat.le_refl _), List.take_of_length_le (by rw [HL'.out]; exact Nat.le_refl _)] at htk; exact htk
      have HEQ := Lib.hid (decide_eq_true heq)
      have HBW := Lib.hid hb
      clear heq htk hb
      go_wp2
      go_ret
      exact ⟨by rw [HEQ.out]; rfl, HBW.out⟩

theorem lg_eq (a b : Lg) : decide (a = b) = (Eqa a.bi a.bt b.bi b.bt && decide (a.es = b.es)) := by
  obtain ⟨x, y, z⟩ := a
  obtain ⟨x', y', z'⟩ := b
  unfold Eqa
  by_cases h1 : x = x'
  · by_cases h2 : y = y'
    · by_cases h3 : z = z'
      · simp [h1, h2, h3]
      · simp [h1, h2, h3]
    · simp [h1, h2]
  · simp [h1]
set_option linter.unusedSimpArgs false in
set_option maxHeartbeats 1000000 in
theorem Same_any (a b : Lg) (A A' : Option Addr) (n m c c' B : Nat) (w : World) (h : Lr w B A n c a) (h' : Lr w B A' m c' b) (hB : B ≤ w.heap.size) :
    Calls Tryd.prog 39 #[.agg #[.int .u64 a.bi, .int .u64 a.bt, .slice A n c], .agg #[.int .u64 b.bi, .int .u64 b.bt, .slice A' m c']] w fun e w' => e = .returned (.bool (decide (a = b))) ∧ Below w.heap.size w w' := by
  rw [lg_eq]
  have EQ := Lib.hid (fun W (hW : Below B w W) => equalfunc_any A A' n m c c' B a.es b.es W (h.es.below hW) (h'.es.below hW) (Nat.le_trans hB hW.size) (by have := h.n; omega))
  generalize decide (a.es = b.es) = D at *
  obtain ⟨bi, bt, es⟩ := a
  obtain ⟨pi, pt, es'⟩ := b
  simp only at EQ ⊢
  clear h h'
  have HB := Lib.hid (show Below w.heap.size w ((w.alloc (.cells #[.int .u64 bi, .int .u64 bt, .slice A n c] 65)).alloc (.cells #[.int .u64 pi, .int .u64 pt, .slice A' m c'] 65)) from ((Below.refl _ _).alloc (Nat.le_refl _) _).alloc (by simp) _)
  cases hq : Eqa bi bt pi pt with
  | false =>
    rw [Bool.false_and]
    go_enter Tryd.func39, Tryd.ntmps39
    go_wp2
    go_ret
    exact ⟨rfl, HB.out⟩
  | true =>
    rw [Bool.true_and]
    go_enter Tryd.func39, Tryd.ntmps39
    go_wp2_with (go_at_call 58; refine (EQ.out _ (HB.out.mono hB)).mono ?_; rintro e w1 ⟨rfl, hb1⟩; have HB1 := Lib.hid (HB.out.trans (hb1.mono HB.out.size)); clear hb1)
    go_ret
    exact ⟨rfl, HB1.out⟩

end Go.Proofs.YtemfnckaehjhcaaDoor
