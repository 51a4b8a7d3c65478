/-
  The end of a log: the program's last.
-/
import Derived.Test.YtmgaihdepglahaaR1
namespace Go.Proofs.Ytmgaihdepglahaa
open Go.RowKit Go.Shelf
attribute [local go_sem] Oper.semAt_some

/-- The end, so far as k spots have come. -/
def endI (bi : Int) : Nat → Int
  | 0 => 0
  | k + 1 => spI bi k
def endT (bt : Int) (es : List En) : Nat → Int
  | 0 => 0
  | k + 1 => spT bt es k

theorem results24 {fn : Func} {p : Tmp} (h : fn.results = #[.cell p 24]) (tmps : Array Value) (w : World) (g : Nat) (a b : Value)
    (hp : tmps.getD p undef = .pointer (some ⟨g, 0, none⟩)) (hg : Blk w g 24 #[a, b]) : (results fn tmps).run Try.prog w = .ok (.agg #[a, b]) w := by
  have d0 : w.cell? ⟨g, 0, none⟩ = some a := hg.cell 0
  have d1 : w.cell? ⟨g, 1, none⟩ = some b := hg.cell 1
  have hp' : tmps[p]?.getD undef = .pointer (some ⟨g, 0, none⟩) := by simpa using hp
  simp [results, h, hp', go_sem, d0, d1]
/-- The block for the rounds' deferred calls is shut. -/
theorem below_shut {B D : Nat} (W : World) (o : Obj) (h : B ≤ D) : Below B W (W.putObj D o) := below_putObj W o h
theorem Blk.put {W : World} {g D : Nat} {t : TypeId} {cs : Array Value} (h : Blk W g t cs) (o : Obj) (hne : g ≠ D) : Blk (W.putObj D o) g t cs := (World.putObj_heap_other hne).trans h
theorem Blk.putR {W : World} {g D : Nat} {t : TypeId} {cs : Array Value} {o : Obj} (h : Blk W g t cs) (hD : W.heap[D]? = some o) (ho : o.isCells = false) (o' : Obj) : Blk (W.putObj D o') g t cs := by
  refine h.put o' fun e => ?_
  subst e
  unfold Blk at h
  rw [h] at hD
  injection hD with hD
  subst hD
  cases ho

set_option maxRecDepth 100000 in
set_option maxHeartbeats 4000000 in
theorem last_any (l : Lg) (A : Option Addr) (n c B : Nat) (w : World) (h : Lr w B A n c l) (hB : B ≤ w.heap.size) :
    Calls Try.prog 57 #[.agg #[.int .u64 l.bi, .int .u64 l.bt, .slice A n c]] w fun e w' => e = .returned (.agg #[.int .u64 l.lastI, .int .u64 l.lastT]) ∧ Below w.heap.size w w' := by
  have hlen := h.len
  unfold Lg.lastI Lg.lastT Lg.I Lg.T
  rw [hlen]
  obtain ⟨bi, bt, es⟩ := l
  obtain ⟨hes, hnc, hnil, hn, hi0, hi1, ht0, ht1⟩ := h
  simp only at hes hi0 hi1 ht0 ht1 hlen ⊢
  refine (callsIn_wide (n := 9)).1 ?_
  refine callsIn_of_wp_marks Try.func57 rfl trivial ?_ rfl
  simp only [Try.ntmps57, List.size_toArray, List.length_cons, List.length_nil, Nat.reduceAdd, Nat.reduceSub, Array.replicate_succ, Array.replicate_zero, List.push_toArray, List.append_toArray, List.nil_append, List.cons_append]
  gi_wp2_with (refine ⟨trivial, ?_⟩; gi_at_call 62; refine (callsIn_wide.2 (spots_any _ _ _ _)).mono ?_; rintro e w' ⟨rfl, rfl⟩)
  obtain ⟨g, hg⟩ : ∃ g, w.heap.size = g := ⟨_, rfl⟩
  obtain ⟨W0, hW0⟩ : ∃ W0, ((((w.alloc (.cells #[.int .u64 bi, .int .u64 bt, .slice A n c] 81)).alloc (.cells #[.int .u64 0, .int .u64 0] 24)).alloc (.cells #[.int .u64 0, .int .u64 0] 24)).alloc (.cells #[.int .u64 bi, .int .u64 bt, .slice A n c] 81)) = W0 := ⟨_, rfl⟩
  have b1 : Blk W0 (g + 1) 24 #[.int .u64 0, .int .u64 0] := by rw [← hW0, ← hg]; exact ((Blk.fresh (by simp)).alloc _).alloc _
  have b2 : Blk W0 (g + 2) 24 #[.int .u64 0, .int .u64 0] := by rw [← hW0, ← hg]; exact (Blk.fresh (by simp)).alloc _
  have b3 : Blk W0 (g + 3) 81 #[.int .u64 bi, .int .u64 bt, .slice A n c] := by rw [← hW0, ← hg]; exact Blk.fresh (by simp)
  have hb0 : Below g w W0 := by rw [← hW0, ← hg]; exact ((((Below.refl _ _).alloc (Nat.le_refl _) _).alloc (by simp) _).alloc (by simp; omega) _).alloc (by simp; omega) _
  have hs0 : W0.heap.size = g + 4 := by rw [← hW0, ← hg]; simp
  rw [hW0]
  rw [hg] at hB ⊢
  clear hW0
  refine wpIn_rangeFunc_mem rfl (by omega) (gf := 75) (lb := #[.pointer (some ⟨g + 3, 0, none⟩)]) rfl trivial (enters_of Try.func75 (by kernel_rfl) rfl)
    (spots1_mem 8 (by omega) bi bt A n c es g (g + 3) W0 (by omega) (by omega) hi0 hi1 b3 ((hes.more hB).below hb0)) (by omega) (by omega) (fun _ => rfl)
    (fun k W => Blk W (g + 1) 24 #[.int .u64 0, .int .u64 0] ∧ Blk W (g + 2) 24 #[.int .u64 (endI bi k), .int .u64 (endT bt es k)] ∧ Below g w W)
    (fun _ _ _ => False)
    (fun k X Y hs hb => ⟨hs.1.below hb (by omega), hs.2.1.below hb (by omega), hs.2.2.trans (hb.mono (by omega))⟩)
    (fun _ _ _ _ hs _ => hs) ⟨b1, b2, hb0⟩
    (fun k a W => ∃ p, g + 4 ≤ p ∧ Blk W p 24 #[.int .u64 (spI bi k), .int .u64 (spT bt es k)] ∧ a = { tmps := #[.agg #[.int .u64 bi, .int .u64 bt, .slice A n c], .pointer (some ⟨g, 0, none⟩), .pointer (some ⟨g + 1, 0, none⟩), .pointer (some ⟨g + 1 + 1, 0, none⟩), undef, .pointer (some ⟨p, 0, none⟩), .agg #[.int .u64 bi, .int .u64 bt, .slice A n c], .func (.func 75) #[] #[.pointer (some ⟨g + 1 + 1 + 1, 0, none⟩)], .int .i64 (k : Int), .agg #[.int .u64 (spI bi k), .int .u64 (spT bt es k)], undef, undef], defers := [] })
    (fun k a X r o o' hs hr ho => by
      obtain ⟨p, hp, hbp, rfl⟩ := hs
      exact ⟨p, hp, hbp.putR hr ho o', rfl⟩) ?assign ?body ?done ?stop
  case assign =>
    intro l k W hI hsz hk
    simp only [spE]
    gi_wp2
    exact ⟨Fixed.of_below ((Below.refl _ _).alloc (Nat.le_refl _) _) (by omega), ⟨hI.1.alloc _, hI.2.1.alloc _, hI.2.2.alloc (by omega) _⟩, W.heap.size, by omega, Blk.new W 24 _, rfl⟩
  case body =>
    rintro l k a1 W ⟨i1, i2, i3⟩ ⟨p, hp, hbp, rfl⟩ hsz hk
    have p0 : W.cell? ⟨p, 0, none⟩ = some (.int .u64 (spI bi k)) := hbp.cell 0
    have p1 : W.cell? ⟨p, 1, none⟩ = some (.int .u64 (spT bt es k)) := hbp.cell 1
    have e0 : W.cell? ⟨g + 1 + 1, 0, none⟩ = some (.int .u64 (endI bi k)) := i2.cell 0
    have e1 : W.cell? ⟨g + 1 + 1, 1, none⟩ = some (.int .u64 (endT bt es k)) := i2.cell 1
    have f0 : W.frozen? ⟨g + 1 + 1, 0, none⟩ = false := i2.frozen 0
    have f1 : W.frozen? ⟨g + 1 + 1, 1, none⟩ = false := i2.frozen 1
    gi_wp2
    refine ⟨⟨((Below.refl _ _).setCell (p := ⟨g + 2, 0, none⟩) (by simp) _).setCell (p := ⟨g + 2, 1, none⟩) (by simp) _, fun j hj _ => ?_⟩, (i1.far (by simp) _).far (by simp) _, (i2.set_ 0 _).set_ 1 _, (i3.setCell (p := ⟨g + 2, 0, none⟩) (by simp) _).setCell (p := ⟨g + 2, 1, none⟩) (by simp) _⟩
    exact (Below.heap_setCell _ _ _ _ (by simp; omega)).trans (Below.heap_setCell _ _ _ _ (by simp; omega))
  case done =>
    rintro D W hD ⟨i1, i2, i3⟩ hK
    have e0 : W.cell? ⟨g + 1 + 1, 0, none⟩ = some (.int .u64 (spI bi n)) := i2.cell 0
    have e1 : W.cell? ⟨g + 1 + 1, 1, none⟩ = some (.int .u64 (spT bt es n)) := i2.cell 1
    have q0 : W.cell? ⟨g + 1, 0, none⟩ = some (.int .u64 0) := i1.cell 0
    have q1 : W.cell? ⟨g + 1, 1, none⟩ = some (.int .u64 0) := i1.cell 1
    have f0 : W.frozen? ⟨g + 1, 0, none⟩ = false := i1.frozen 0
    have f1 : W.frozen? ⟨g + 1, 1, none⟩ = false := i1.frozen 1
    gi_wp2
    have r1 : Blk ((W.setCell ⟨g + 1, 0, none⟩ (.int .u64 (spI bi n))).setCell ⟨g + 1, 1, none⟩ (.int .u64 (spT bt es n))) (g + 1) 24 #[.int .u64 (spI bi n), .int .u64 (spT bt es n)] := (i1.set_ 0 _).set_ 1 _
    have r2 : Below g w ((W.setCell ⟨g + 1, 0, none⟩ (.int .u64 (spI bi n))).setCell ⟨g + 1, 1, none⟩ (.int .u64 (spT bt es n))) := (i3.setCell (p := ⟨g + 1, 0, none⟩) (by simp) _).setCell (p := ⟨g + 1, 1, none⟩) (by simp) _
    have r3 : ((W.setCell ⟨g + 1, 0, none⟩ (.int .u64 (spI bi n))).setCell ⟨g + 1, 1, none⟩ (.int .u64 (spT bt es n))).heap[D]? = some (.deferred (some [])) := (Below.heap_setCell _ _ _ _ (by simp; omega)).trans ((Below.heap_setCell _ _ _ _ (by simp; omega)).trans hK)
    generalize (W.setCell ⟨g + 1, 0, none⟩ (.int .u64 (spI bi n))).setCell ⟨g + 1, 1, none⟩ (.int .u64 (spT bt es n)) = W5 at *
    refine ⟨by simp, .inl ⟨_, _, rfl, run_takeDeferred r3, ?_⟩⟩
    exact ⟨_, results24 rfl _ _ (g + 1) _ _ rfl (r1.putR r3 rfl _), rfl, by rw [hg]; exact r2.trans (below_shut _ (.deferred none) (by omega))⟩
  case stop =>
    rintro D c k W _ _ hf _
    exact hf.elim

end Go.Proofs.Ytmgaihdepglahaa
