/-
  Several texts in one: P20, P21, P22, P23.
-/
import Derived.Test.YtiipglmbfgmbbaaGreatDoorPkL
namespace Go.Proofs.YtiipglmbfgmbbaaGreatDoor
open Go.RowKit Go.Shelf
attribute [local go_sem] Oper.semAt_some

theorem Tryz.i34 : (Tryz.prog.info? 34).map (·.size) = some 1 := by kernel_rfl
/-- The parser in memory, between two parts of a statement. -/
structure Sx (w : World) (base q : Nat) (A : Option Addr) (c : Nat) (L : List Tk) (E m r o : Nat) (B : Option Addr) (n nc : Nat) : Prop where
  pt : Pt w base q A c L E (.map (some m)) (.slice B n nc) r o
  mo : Mo w m
  hm : m < base
  hq : m ≠ q
section
variable {w w' w0 : World} {base base' q c E r r0 o o0 n nc : Nat} {A B : Option Addr} {L : List Tk} {M V M0 V0 : Value} {ns : List Nd}
theorem Pt.up (h : Pt w base q A c L E M V r o) (hb : base ≤ base') (hs : base' ≤ w.heap.size) : Pt w base' q A c L E M V r o :=
  ⟨h.blk, h.own, fun k hk => Nat.lt_of_lt_of_le (h.low k hk) hb, Nat.lt_of_lt_of_le h.lt hb, hs, h.rd, h.many⟩
theorem Pt.down (h : Pt w base' q A c L E M V r o) (k : Pt w0 base q A c L E M0 V0 r0 o0) (hs : base ≤ w.heap.size) : Pt w base q A c L E M V r o :=
  ⟨h.blk, h.own, k.low, k.lt, hs, h.rd, h.many⟩
theorem Nds.past {g : Nat} (h : Nds w base B n nc ns) (ho : Only g w w') (hg : g < base) (hb : base' ≤ base) : Nds w' base' B n nc ns := by
  refine ⟨h.1, ?_⟩
  rcases h.2 with hv | ⟨k, cap, cur, hv, hbs, hh, r⟩
  · exact .inl hv
  · exact .inr ⟨k, cap, cur, hv, Nat.le_trans hb hbs, (ho.block k (by omega)).trans hh, r⟩
/-- What lies in memory of its own stays, where only older blocks than these were turned. -/
theorem Nds.stay {K : Nat} (h : Nds w base B n nc ns) (hF : Fq K q w w') (hK : ∀ k, (Value.slice B n nc).ownBlock = some k → k < K ∧ k ≠ q) : Nds w' base B n nc ns := by
  refine ⟨h.1, ?_⟩
  rcases h.2 with hv | ⟨k, cap, cur, hv, hbs, hh, r⟩
  · exact .inl hv
  · have := hK k (by rw [hv]; rfl)
    exact .inr ⟨k, cap, cur, hv, hbs, (hF.block k this.1 this.2).trans hh, r⟩
end
/-- What a call that reads an expression answers. -/
def Xd (w : World) (base q : Nat) (A : Option Addr) (c : Nat) (L : List Tk) (E m r o : Nat) (e : Ending) (w' : World) : Prop :=
  ∃ n x, ex L E n (.lv .or) r o [] = some x ∧ Fq w.heap.size q w w' ∧ match x with
    | .ok (_, r', ns) => ∃ B nc, e = .returned (.agg #[.slice B ns.length nc]) ∧ r ≤ r' ∧ Nds w' w.heap.size B ns.length nc ns ∧ Sx w' base q A c L E m r' o B ns.length nc
    | .error (er, i) => e = pnc er (tokAt L E i).at_
set_option maxRecDepth 100000 in
set_option maxHeartbeats 8000000 in
theorem expr_any (w : World) (base q : Nat) (A : Option Addr) (c : Nat) (L : List Tk) (E m r o : Nat) (B : Option Addr) (n nc : Nat) (h : Sx w base q A c L E m r o B n nc) (ho : o ≤ 16) :
    Calls Tryz.prog 116 #[.pointer (some ⟨q, 0, none⟩)] w (Xd w base q A c L E m r o) := by
  obtain ⟨g, hg⟩ : ∃ g, w.heap.size = g := ⟨_, rfl⟩
  have b0 : Hid (Blk (w.alloc (.cells #[.slice none 0 0] 34)) g 34 #[.slice none 0 0]) := Lib.hid (by rw [← hg]; exact Blk.new _ _ _)
  have h0 : Hid (Below g w (w.alloc (.cells #[.slice none 0 0] 34))) := Lib.hid (by rw [← hg]; exact (Below.refl _ _).alloc (Nat.le_refl _) _)
  have hle := h.pt.le
  have hlt := h.pt.lt
  have hm := h.hm
  have hq := h.hq
  have P1 := Lib.hid (h.pt.on (h0.out.mono (by omega)))
  have M1 : Hid (Mo (w.alloc (.cells #[.slice none 0 0] 34)) m) := Lib.hid (((Fq.of (q := q) h0.out (Nat.le_refl g)).block m (by omega) hq).trans h.mo)
  have hz : (w.alloc (.cells #[.slice none 0 0] 34)).heap.size = g + 1 := by simp [hg]
  have F1 := Lib.hid (Fq.of (q := q) h0.out (Nat.le_refl g))
  clear h
  unfold Xd
  rw [hg]
  go_enter Tryz.func116, Tryz.ntmps116
  go_upto_region 1 with fail
  generalize w.alloc (.cells #[.slice none 0 0] 34) = w1 at *
  have x4 : w1.cell? ⟨q, 4, none⟩ = some (.slice B n nc) := P1.out.blk.cell 4
  have y4 : w1.frozen? ⟨q, 4, none⟩ = false := P1.out.blk.frozen 4
  go_upto_region 2 with fail
  have S2 : Hid (St (w1.setCell ⟨q, 4, none⟩ (.slice none 0 0)) (g + 1) q A c L E m r o none 0 []) := Lib.hid ⟨(P1.out.nodes (.slice none 0 0)).up (by omega) (by simp [hz]), ⟨rfl, .inl ⟨rfl, rfl⟩⟩, (Below.heap_setCell _ _ _ _ hq).trans M1.out, by omega, hq, Nat.zero_le _⟩
  have B2 : Hid (Blk (w1.setCell ⟨q, 4, none⟩ (.slice none 0 0)) g 34 #[.slice none 0 0]) := Lib.hid (b0.out.far (by simp; omega) _)
  have F2 := Lib.hid (F1.out.trans (Fq.set g q 4 w1 (.slice none 0 0)))
  clear x4 y4 F1 b0 h0 M1
  generalize w1.setCell ⟨q, 4, none⟩ (.slice none 0 0) = w2 at *
  have C3 := Lib.hid (or_any w2 (g + 1) q A c L E m r o none 0 [] S2.out ho)
  go_wp2_with (first
    | (go_at_call 139; refine C3.out.mono ?_; rintro e w3 ⟨n3, x3, hx, hF, hy⟩; have X3 := Lib.hid hx; have F3 := Lib.hid (F2.out.trans (hF.mono (Nat.le_succ g))); have B3 : Hid (Blk w3 g 34 #[.slice none 0 0]) := Lib.hid ((hF.block g (Nat.lt_succ_self g) (by omega)).trans B2.out); clear hx hF; rcases x3 with ⟨er, i⟩ | ⟨row3, r3, ns3⟩ <;> first | (have hz : e = .panicked [{ v := .iface 26 (.agg #[.int .i64 er, .int .i64 ((tokAt L E i).at_ : Int)]), recovered := false }] := hy; subst hz; exact ⟨rfl, n3, .error (er, i), X3.out, F3.out, rfl⟩) | (obtain ⟨rfl, hr3, hn3, hY, B', nc', hS⟩ := hy; have S3 := Lib.hid hS; have x4 : w3.cell? ⟨q, 4, none⟩ = some (.slice B' ns3.length nc') := S3.out.pt.blk.cell 4; clear hS hY))
    | ((with_reducible refine at_store (t := 34) ?_); refine wpList_store_blk _ rfl 34 _ _ rfl g _ 34 [.slice B' ns3.length nc'] rfl rfl B3.out rfl Tryz.i34 (by simp [Value.oneCell']) ?_; intro w8 hb8 ho8; have X8 := Lib.hid hb8; have P8 : Hid (Pt w8 base q A c L E (.map (some m)) (.slice B' ns3.length nc') r3 o) := Lib.hid ((S3.out.pt.down P1.out (by have := S3.out.pt.le; omega)).keep (ho8.below (by omega))); have N8 := Lib.hid (S3.out.nds.past ho8 (Nat.lt_succ_self g) (Nat.le_succ g)); have M8 : Hid (Mo w8 m) := Lib.hid ((ho8.block m (by omega)).trans S3.out.mo); have F8 := Lib.hid (F3.out.trans (Fq.of (q := q) (ho8.below (Nat.le_refl g)) (Nat.le_refl g))); clear hb8 ho8))
  exact bodyPost_ret (ret_cell1_tmp rfl _ _ g 34 _ _ rfl X8.out Tryz.underlying34 rfl Tryz.i34) rfl ⟨n3, .ok (row3, r3, ns3), X3.out, F8.out, B', nc', rfl, hr3, N8.out, P8.out, M8.out, hm, hq⟩
end Go.Proofs.YtiipglmbfgmbbaaGreatDoor

namespace Go.Proofs.YtiipglmbfgmbbaaGreatDoor
open Go.RowKit Go.Shelf
attribute [local go_sem] Oper.semAt_some

abbrev Xs := Option (Except (Int × Nat) (List Nd × Nat))
/-- An expression's rows, and where it ends. -/
def exN (L : List Tk) (E n r o : Nat) : Xs :=
  match ex L E n (.lv .or) r o [] with
  | none => none
  | some (.error x) => some (.error x)
  | some (.ok (_, r', ns)) => some (.ok (ns, r'))
/-- Behind a word, if it is there. -/
def exB (L : List Tk) (E n : Nat) (u : List UInt8) (r o : Nat) : Xs :=
  if isB (tokAt L E r) u = true then exN L E n (r + 1) o else some (.ok ([], r))
/-- What a call that reads rows answers. -/
def Xr (X : Nat → Xs) (w : World) (base q : Nat) (A : Option Addr) (c : Nat) (L : List Tk) (E m r o : Nat) (e : Ending) (w' : World) : Prop :=
  ∃ n x, X n = some x ∧ Fq w.heap.size q w w' ∧ match x with
    | .ok (ns, r') => ∃ B' nc' B n nc, e = .returned (.agg #[.slice B' ns.length nc']) ∧ r ≤ r' ∧ Nds w' w.heap.size B' ns.length nc' ns ∧ Sx w' base q A c L E m r' o B n nc
    | .error (er, i) => e = pnc er (tokAt L E i).at_
theorem Xd.rows {w w' : World} {base q c E m r o : Nat} {A : Option Addr} {L : List Tk} {e : Ending} (h : Xd w base q A c L E m r o e w') : Xr (fun n => exN L E n r o) w base q A c L E m r o e w' := by
  obtain ⟨n, x, hx, hF, hy⟩ := h
  rcases x with ⟨er, i⟩ | ⟨row, r', ns⟩
  · exact ⟨n, .error (er, i), by show exN L E n r o = _; unfold exN; rw [hx], hF, hy⟩
  · obtain ⟨B, nc, he, hr, hN, hS⟩ := hy
    exact ⟨n, .ok (ns, r'), by show exN L E n r o = _; unfold exN; rw [hx], hF, B, nc, B, ns.length, nc, he, hr, hN, hS⟩
set_option maxRecDepth 100000 in
set_option maxHeartbeats 8000000 in
theorem exprBehind_any (u : List UInt8) (w : World) (base q : Nat) (A : Option Addr) (c : Nat) (L : List Tk) (E m r o : Nat) (B : Option Addr) (n nc : Nat) (h : Sx w base q A c L E m r o B n nc) (ho : o ≤ 16) :
    Calls Tryz.prog 80 #[.pointer (some ⟨q, 0, none⟩), tx u] w (Xr (fun n => exB L E n u r o) w base q A c L E m r o) := by
  obtain ⟨g, hg⟩ : ∃ g, w.heap.size = g := ⟨_, rfl⟩
  have b0 : Hid (Blk (w.alloc (.cells #[.slice none 0 0] 34)) g 34 #[.slice none 0 0]) := Lib.hid (by rw [← hg]; exact Blk.new _ _ _)
  have h0 : Hid (Below g w (w.alloc (.cells #[.slice none 0 0] 34))) := Lib.hid (by rw [← hg]; exact (Below.refl _ _).alloc (Nat.le_refl _) _)
  have hle := h.pt.le
  have hlt := h.pt.lt
  have hm := h.hm
  have hq := h.hq
  have P1 := Lib.hid (h.pt.on (h0.out.mono (by omega)))
  have M1 : Hid (Mo (w.alloc (.cells #[.slice none 0 0] 34)) m) := Lib.hid (((Fq.of (q := q) h0.out (Nat.le_refl g)).block m (by omega) hq).trans h.mo)
  have hz : (w.alloc (.cells #[.slice none 0 0] 34)).heap.size = g + 1 := by simp [hg]
  have F1 := Lib.hid (Fq.of (q := q) h0.out (Nat.le_refl g))
  have FD := found_any u _ base q c E r o A L _ _ P1.out
  clear h
  unfold Xr
  rw [hg]
  obtain ⟨T, hT⟩ : ∃ T : ByteArray, (⟨u.toArray⟩ : ByteArray) = T := ⟨_, rfl⟩
  have eT : tx u = .string T := by rw [← hT]
  rw [eT] at FD ⊢
  clear hT eT
  cases hb : isB (tokAt L E r) u with
  | false =>
    rw [hb] at FD
    have EB : ∀ k, exB L E k u r o = some (.ok ([], r)) := fun k => by unfold exB; rw [if_neg (by rw [hb]; decide)]
    have FH := Lib.hid FD
    clear FD
    go_enter Tryz.func80, Tryz.ntmps80
    go_upto_region 1 with fail
    generalize w.alloc (.cells #[.slice none 0 0] 34) = w1 at *
    go_wp2_with (first
      | (go_at_call 82; refine FH.out.mono ?_; rintro e w2 ⟨rfl, hP, hF⟩; have P2 : Hid (Pt w2 base q A c L E (.map (some m)) (.slice B n nc) r o) := Lib.hid hP; have B2 : Hid (Blk w2 g 34 #[.slice none 0 0]) := Lib.hid ((Fy.ofq hF).keep g 34 _ b0.out (by omega) (by decide)); have F2 := Lib.hid (F1.out.trans (hF.mono (by omega))); have M2 : Hid (Mo w2 m) := Lib.hid ((hF.block m (by omega) hq).trans M1.out); clear hP hF)
      | ((with_reducible refine at_store (t := 34) ?_); refine wpList_store_blk _ rfl 34 _ _ rfl g _ 34 [.slice none 0 0] rfl rfl B2.out rfl Tryz.i34 (by simp [Value.oneCell']) ?_; intro w8 hb8 ho8; have X8 := Lib.hid hb8; have P8 := Lib.hid (P2.out.keep (ho8.below (by omega))); have M8 : Hid (Mo w8 m) := Lib.hid ((ho8.block m (by omega)).trans M2.out); have F8 := Lib.hid (F2.out.trans (Fq.of (q := q) (ho8.below (Nat.le_refl g)) (Nat.le_refl g))); clear hb8 ho8))
    exact bodyPost_ret (ret_cell1_tmp rfl _ _ g 34 _ _ rfl X8.out Tryz.underlying34 rfl Tryz.i34) rfl ⟨0, .ok ([], r), EB 0, F8.out, none, 0, B, n, nc, rfl, Nat.le_refl r, ⟨rfl, .inl ⟨rfl, rfl⟩⟩, P8.out, M8.out, hm, hq⟩
  | true =>
    rw [hb] at FD
    have EB : ∀ k, exB L E k u r o = exN L E k (r + 1) o := fun k => by unfold exB; rw [if_pos hb]
    have FH := Lib.hid FD
    clear FD
    go_enter Tryz.func80, Tryz.ntmps80
    go_upto_region 1 with fail
    generalize w.alloc (.cells #[.slice none 0 0] 34) = w1 at *
    go_wp2_with (first
      | (go_at_call 82; refine FH.out.mono ?_; rintro e w2 ⟨rfl, hP, hF⟩; have P2 : Hid (Pt w2 base q A c L E (.map (some m)) (.slice B n nc) (r + 1) o) := Lib.hid hP; have B2 : Hid (Blk w2 g 34 #[.slice none 0 0]) := Lib.hid ((Fy.ofq hF).keep g 34 _ b0.out (by omega) (by decide)); have F2 := Lib.hid (F1.out.trans (hF.mono (by omega))); have M2 : Hid (Mo w2 m) := Lib.hid ((hF.block m (by omega) hq).trans M1.out); clear hP hF; have C3 := Lib.hid (expr_any w2 base q A c L E m (r + 1) o B n nc ⟨P2.out, M2.out, hm, hq⟩ ho); have hl2 := B2.out.lt)
      | (go_at_call 116; refine C3.out.mono ?_; intro e w3 hx; obtain ⟨n3, x3, hx, hF, hy⟩ := hx.rows; have X3 := Lib.hid hx; have F3 := Lib.hid (F2.out.trans (hF.mono (Nat.le_of_lt hl2))); have B3 : Hid (Blk w3 g 34 #[.slice none 0 0]) := Lib.hid ((hF.block g hl2 (by omega)).trans B2.out); clear hx hF; rcases x3 with ⟨er, i⟩ | ⟨ns3, r3⟩ <;> first | (have hz : e = .panicked [{ v := .iface 26 (.agg #[.int .i64 er, .int .i64 ((tokAt L E i).at_ : Int)]), recovered := false }] := hy; subst hz; exact ⟨rfl, n3, .error (er, i), (EB n3).trans X3.out, F3.out, rfl⟩) | (obtain ⟨B', nc', B4, n4, nc4, rfl, hr3, hN, hS⟩ := hy; have N3 := Lib.hid hN; have S3 := Lib.hid hS; clear hN hS))
      | ((with_reducible refine at_store (t := 34) ?_); refine wpList_store_blk _ rfl 34 _ _ rfl g _ 34 [.slice B' ns3.length nc'] rfl rfl B3.out rfl Tryz.i34 (by simp [Value.oneCell']) ?_; intro w8 hb8 ho8; have X8 := Lib.hid hb8; have P8 := Lib.hid (S3.out.pt.keep (ho8.below (by omega))); have N8 := Lib.hid (N3.out.past ho8 hl2 (Nat.le_of_lt hl2)); have M8 : Hid (Mo w8 m) := Lib.hid ((ho8.block m (by omega)).trans S3.out.mo); have F8 := Lib.hid (F3.out.trans (Fq.of (q := q) (ho8.below (Nat.le_refl g)) (Nat.le_refl g))); clear hb8 ho8))
    exact bodyPost_ret (ret_cell1_tmp rfl _ _ g 34 _ _ rfl X8.out Tryz.underlying34 rfl Tryz.i34) rfl ⟨n3, .ok (ns3, r3), (EB n3).trans X3.out, F8.out, B', nc', B4, n4, nc4, rfl, by omega, N8.out, P8.out, M8.out, hm, hq⟩
end Go.Proofs.YtiipglmbfgmbbaaGreatDoor

namespace Go.Proofs.YtiipglmbfgmbbaaGreatDoor
open Go.RowKit Go.Shelf
attribute [local go_sem] Oper.semAt_some

def refB (L : List Tk) (E : Nat) (u : List UInt8) (r : Nat) : Except (Int × Nat) ((List UInt8 × List UInt8) × Nat) :=
  if isB (tokAt L E r) u = true then (if isB (tokAt L E (r + 1)) [66, 89] = true then refF L E (r + 2) else .error (210, r + 1)) else .ok (([], []), r)
set_option maxRecDepth 100000 in
set_option maxHeartbeats 8000000 in
theorem refBehind_any (u : List UInt8) (w : World) (base q c E r o : Nat) (A : Option Addr) (L : List Tk) (M V : Value) (h : Pt w base q A c L E M V r o) :
    Calls Tryz.prog 120 #[.pointer (some ⟨q, 0, none⟩), tx u] w (Rd w base q A c L E M V o ((refB L E u r).map fun p => (.agg #[tx p.1.1, tx p.1.2], p.2))) := by
  obtain ⟨g, hg⟩ : ∃ g, w.heap.size = g := ⟨_, rfl⟩
  have b0 : Hid (Blk (w.alloc (.cells #[.string ⟨#[]⟩, .string ⟨#[]⟩] 36)) g 36 #[.string ⟨#[]⟩, .string ⟨#[]⟩]) := Lib.hid (by rw [← hg]; exact Blk.new _ _ _)
  have h0 : Hid (Below g w (w.alloc (.cells #[.string ⟨#[]⟩, .string ⟨#[]⟩] 36))) := Lib.hid (by rw [← hg]; exact (Below.refl _ _).alloc (Nat.le_refl _) _)
  have hle := h.le
  have hlt := h.lt
  have P1 := Lib.hid (h.on (h0.out.mono (by omega)))
  have hz : (w.alloc (.cells #[.string ⟨#[]⟩, .string ⟨#[]⟩] 36)).heap.size = g + 1 := by simp [hg]
  have F1 := Lib.hid (Fq.of (q := q) h0.out (Nat.le_refl g))
  have FD := found_any u _ base q c E r o A L _ _ P1.out
  clear h
  obtain ⟨T, hT⟩ : ∃ T : ByteArray, (⟨u.toArray⟩ : ByteArray) = T := ⟨_, rfl⟩
  have eT : tx u = .string T := by rw [← hT]
  rw [eT] at FD ⊢
  clear hT eT
  unfold refB
  cases hb : isB (tokAt L E r) u with
  | false =>
    rw [hb] at FD
    rw [if_neg (by decide)]
    have FH := Lib.hid FD
    clear FD
    go_enter Tryz.func120, Tryz.ntmps120
    go_upto_region 1 with fail
    generalize w.alloc (.cells #[.string ⟨#[]⟩, .string ⟨#[]⟩] 36) = w1 at *
    go_wp2_with (first
      | (go_at_call 82; refine FH.out.mono ?_; rintro e w2 ⟨rfl, hP, hF⟩; have P2 : Hid (Pt w2 base q A c L E M V r o) := Lib.hid hP; have B2 : Hid (Blk w2 g 36 #[.string ⟨#[]⟩, .string ⟨#[]⟩]) := Lib.hid ((Fy.ofq hF).keep g 36 _ b0.out (by omega) (by decide)); have F2 := Lib.hid (F1.out.trans (hF.mono (by omega))); clear hP hF)
      | ((with_reducible refine at_store (t := 36) ?_); refine wpList_store_blk _ rfl 36 _ _ rfl g _ 36 [.string ⟨#[]⟩, .string ⟨#[]⟩] rfl rfl B2.out rfl Tryz.i36 (by simp [Value.oneCell']) ?_; intro w8 hb8 ho8; have X8 := Lib.hid hb8; have P8 := Lib.hid (P2.out.keep (ho8.below (by omega))); have F8 := Lib.hid (F2.out.trans (Fq.of (q := q) (ho8.below (Nat.le_refl g)) (Nat.le_refl g))); clear hb8 ho8))
    exact bodyPost_ret (ret_cell1_tmp rfl _ _ g 36 _ _ rfl X8.out Tryz.underlying36 rfl Tryz.i36) rfl ⟨rfl, P8.out, by rw [hg]; exact F8.out⟩
  | true =>
    rw [hb] at FD
    rw [if_pos rfl]
    obtain ⟨Y, hY⟩ : ∃ Y, (if isB (tokAt L E (r + 1)) [66, 89] = true then refF L E (r + 2) else .error (210, r + 1)) = Y := ⟨_, rfl⟩
    rw [hY]
    have HY := Lib.hid hY
    clear hY
    have FH := Lib.hid FD
    clear FD
    go_enter Tryz.func120, Tryz.ntmps120
    go_upto_region 1 with fail
    generalize w.alloc (.cells #[.string ⟨#[]⟩, .string ⟨#[]⟩] 36) = w1 at *
    go_upto_region 3 with (go_at_call 82; refine FH.out.mono ?_; rintro e w2 ⟨rfl, hP, hF⟩; have P2 : Hid (Pt w2 base q A c L E M V (r + 1) o) := Lib.hid hP; have B2 : Hid (Blk w2 g 36 #[.string ⟨#[]⟩, .string ⟨#[]⟩]) := Lib.hid ((Fy.ofq hF).keep g 36 _ b0.out (by omega) (by decide)); have F2 := Lib.hid (F1.out.trans (hF.mono (by omega))); clear hP hF)
    have AL : Below w2.heap.size w2 (w2.alloc (.cells #[.string ⟨#[66, 89]⟩] 9)) := (Below.refl _ _).alloc (Nat.le_refl _) _
    have hq2 : q < w2.heap.size := P2.out.blk.lt
    have hg2 : g < w2.heap.size := B2.out.lt
    have P3 := Lib.hid (P2.out.on AL)
    have B3 : Hid (Blk (w2.alloc (.cells #[.string ⟨#[66, 89]⟩] 9)) g 36 #[.string ⟨#[]⟩, .string ⟨#[]⟩]) := Lib.hid (B2.out.below AL hg2)
    have F3 := Lib.hid (F2.out.trans (Fq.of (q := q) AL (Nat.le_of_lt hg2)))
    have hz3 : (w2.alloc (.cells #[.string ⟨#[66, 89]⟩] 9)).heap.size = w2.heap.size + 1 := by simp
    have WD := words_any [[66, 89]] 1 w2.heap.size (w2.alloc (.cells #[.string ⟨#[66, 89]⟩] 9)) base q c E (r + 1) o A L _ _ P3.out rfl (by omega) ⟨by simp, fun i hi => by
      obtain rfl : i = 0 := by simp at hi; omega
      exact (Blk.new w2 9 #[.string ⟨#[66, 89]⟩]).cell 0⟩ (by omega)
    unfold wordsF wordsF at WD
    clear AL
    cases hc : isB (tokAt L E (r + 1)) [66, 89] with
    | false =>
      rw [hc] at WD
      obtain rfl := HY.out.symm.trans (if_neg (by rw [hc]; decide))
      have WH : Hid (Calls Tryz.prog 49 #[.pointer (some ⟨q, 0, none⟩), .slice (some ⟨w2.heap.size, 0, none⟩) 1 1] (w2.alloc (.cells #[.string ⟨#[66, 89]⟩] 9)) (Rd (w2.alloc (.cells #[.string ⟨#[66, 89]⟩] 9)) base q A c L E M V o (.error (210, (r + 1))))) := Lib.hid WD
      clear WD
      go_wp2_with (go_at_call 49; refine WH.out.mono ?_; rintro e w4 hR; obtain ⟨rfl, hF⟩ := Rd.err hR; have F4 := Lib.hid (F3.out.trans (hF.mono (by omega))); clear hR hF)
      exact ⟨rfl, rfl, by rw [hg]; exact F4.out⟩
    | true =>
      rw [hc] at WD
      have hY := HY.out.symm.trans (if_pos hc)
      clear HY
      have WH : Hid (Calls Tryz.prog 49 #[.pointer (some ⟨q, 0, none⟩), .slice (some ⟨w2.heap.size, 0, none⟩) 1 1] (w2.alloc (.cells #[.string ⟨#[66, 89]⟩] 9)) fun e w' => e = .returned (.tuple #[]) ∧ Pt w' base q A c L E M V (r + 2) o ∧ Fq (w2.alloc (.cells #[.string ⟨#[66, 89]⟩] 9)).heap.size q (w2.alloc (.cells #[.string ⟨#[66, 89]⟩] 9)) w') := Lib.hid WD
      clear WD
      have RF := Lib.hid (fun W (hP : Pt W base q A c L E M V (r + 2) o) => ref_any W base q c E (r + 2) o A L M V hP)
      obtain ⟨x, hx⟩ : ∃ x, refF L E (r + 2) = x := ⟨_, rfl⟩
      rw [hx] at hY RF
      subst hY
      clear hx
      rcases Y with ⟨er, i⟩ | ⟨⟨a, b⟩, r'⟩
      · go_wp2_with (first
          | (go_at_call 49; refine WH.out.mono ?_; rintro e w4 ⟨rfl, hP, hF⟩; have P4 := Lib.hid hP; have F4 := Lib.hid (F3.out.trans (hF.mono (by omega))); have B4 : Hid (Blk w4 g 36 #[.string ⟨#[]⟩, .string ⟨#[]⟩]) := Lib.hid ((Fy.ofq hF).keep g 36 _ B3.out (by omega) (by decide)); clear hP hF)
          | (go_at_call 140; refine (RF.out _ P4.out).mono ?_; rintro e w5 hR; obtain ⟨rfl, hF⟩ := Rd.err hR; have F5 := Lib.hid (F4.out.trans (hF.mono (by have := B4.out.lt; omega))); clear hR hF))
        exact ⟨rfl, rfl, by rw [hg]; exact F5.out⟩
      · have RH : Hid (∀ W, Pt W base q A c L E M V (r + 2) o → Calls Tryz.prog 140 #[.pointer (some ⟨q, 0, none⟩)] W fun e w' => e = .returned (.agg #[tx a, tx b]) ∧ Pt w' base q A c L E M V r' o ∧ Fq W.heap.size q W w') := Lib.hid (fun W hP => RF.out W hP)
        clear RF
        go_wp2_with (first
          | (go_at_call 49; refine WH.out.mono ?_; rintro e w4 ⟨rfl, hP, hF⟩; have P4 := Lib.hid hP; have F4 := Lib.hid (F3.out.trans (hF.mono (by omega))); have B4 : Hid (Blk w4 g 36 #[.string ⟨#[]⟩, .string ⟨#[]⟩]) := Lib.hid ((Fy.ofq hF).keep g 36 _ B3.out (by omega) (by decide)); clear hP hF)
          | (go_at_call 140; refine (RH.out _ P4.out).mono ?_; rintro e w5 ⟨rfl, hP, hF⟩; have P5 := Lib.hid hP; have B5 : Hid (Blk w5 g 36 #[.string ⟨#[]⟩, .string ⟨#[]⟩]) := Lib.hid ((Fy.ofq hF).keep g 36 _ B4.out (by omega) (by decide)); have F5 := Lib.hid (F4.out.trans (hF.mono (by have := B4.out.lt; omega))); clear hP hF)
          | ((with_reducible refine at_store (t := 36) ?_); refine wpList_store_blk _ rfl 36 _ _ rfl g _ 36 [tx a, tx b] rfl rfl B5.out rfl Tryz.i36 (by simp [Value.oneCell']) ?_; intro w8 hb8 ho8; have X8 := Lib.hid hb8; have P8 := Lib.hid (P5.out.keep (ho8.below (by omega))); have F8 := Lib.hid (F5.out.trans (Fq.of (q := q) (ho8.below (Nat.le_refl g)) (Nat.le_refl g))); clear hb8 ho8))
        exact bodyPost_ret (ret_cell1_tmp rfl _ _ g 36 _ _ rfl X8.out Tryz.underlying36 rfl Tryz.i36) rfl ⟨rfl, P8.out, by rw [hg]; exact F8.out⟩
end Go.Proofs.YtiipglmbfgmbbaaGreatDoor

namespace Go.Proofs.YtiipglmbfgmbbaaGreatDoor
open Go.RowKit Go.Shelf
attribute [local go_sem] Oper.semAt_some

/-- The first of some words that stands there. -/
def fdI (t : Tk) : List (List UInt8) → Nat → Option Nat
  | [], _ => none
  | u :: us, i => if isB t u = true then some i else fdI t us (i + 1)
theorem fd_at (t : Tk) : ∀ (us : List (List UInt8)) (k i : Nat), i < us.length → (∀ j, j < i → isB t (us.getD j []) = false) → isB t (us.getD i []) = true → fdI t us k = some (k + i)
  | [], k, i, hi, _, _ => by simp at hi
  | u :: us, k, 0, _, _, h => by
    unfold fdI
    rw [if_pos (show isB t u = true from h)]
    rfl
  | u :: us, k, i + 1, hi, ha, h => by
    unfold fdI
    rw [if_neg (by rw [show isB t u = false from ha 0 (by omega)]; decide), fd_at t us (k + 1) i (by simpa using hi) (fun j hj => ha (j + 1) (by omega)) h]
    congr 1
    omega
theorem fd_no (t : Tk) : ∀ (us : List (List UInt8)) (k : Nat), (∀ j, j < us.length → isB t (us.getD j []) = false) → fdI t us k = none
  | [], _, _ => rfl
  | u :: us, k, ha => by
    unfold fdI
    rw [if_neg (by rw [show isB t u = false from ha 0 (by simp)]; decide)]
    exact fd_no t us (k + 1) (fun j hj => ha (j + 1) (by simpa using hj))
def fwL : List (List UInt8) := [[], [67, 82, 69, 65, 84, 69], [68, 82, 79, 80], [73, 78, 83, 69, 82, 84], [85, 80, 68, 65, 84, 69], [68, 69, 76, 69, 84, 69], [83, 69, 76, 69, 67, 84]]
def twL : List (List UInt8) := [[], [], [66, 79, 79, 76], [73, 78, 84], [84, 69, 88, 84]]
def fwV : List Value := fwL.map tx
def twV : List Value := twL.map tx
/-- The words of statements, and of types, in memory. -/
structure Gp (w : World) : Prop where
  fw : ∀ i, i < 7 → w.cell? ⟨0, i, none⟩ = some (tx (fwL.getD i []))
  tw : ∀ i, i < 5 → w.cell? ⟨1, i, none⟩ = some (tx (twL.getD i []))
theorem Tryz.i135 : (Tryz.prog.info? 135).map (·.size) = some 7 := by kernel_rfl
theorem ix135 (w : World) : ∀ i : Nat, i < 7 → (Instr.index 135 (.agg fwV.toArray) (.int .i64 (i : Int))).run Tryz.prog w = .ok (tx (fwL.getD i [])) w
  | 0, _ => by kernel_rfl
  | 1, _ => by kernel_rfl
  | 2, _ => by kernel_rfl
  | 3, _ => by kernel_rfl
  | 4, _ => by kernel_rfl
  | 5, _ => by kernel_rfl
  | 6, _ => by kernel_rfl
  | n + 7, h => absurd h (by omega)
theorem fwV_rng {w : World} (h : Gp w) : w.rangeAt 0 0 fwV := fun j v hj => by
  have hl : j < 7 := by
    have := (List.getElem?_eq_some_iff.1 hj).1
    simpa [fwV, fwL] using this
  rw [Nat.zero_add, h.fw j hl, ← hj]
  have h2 : j < fwL.length := hl
  simp [fwV, List.getD, h2]
def kindF (L : List Tk) (E r : Nat) : Except (Int × Nat) (Nat × Nat) :=
  match fdI (tokAt L E r) fwL 0 with
  | some i => .ok (i, r)
  | none => .error (210, r)
set_option maxRecDepth 100000 in
set_option maxHeartbeats 4000000 in
theorem kind_any (w : World) (base q c E r o : Nat) (A : Option Addr) (L : List Tk) (M V : Value) (h : Pt w base q A c L E M V r o) (hG : Gp w) :
    Calls Tryz.prog 74 #[.pointer (some ⟨q, 0, none⟩)] w (Rd w base q A c L E M V o ((kindF L E r).map fun p => (.int .i64 (p.1 : Int), p.2))) := by
  have Y : Hid (∀ i, i < 7 → (∀ j, j < i → isB (tokAt L E r) (fwL.getD j []) = false) → isB (tokAt L E r) (fwL.getD i []) = true → kindF L E r = .ok (i, r)) := Lib.hid (fun i hi ha h => by
    unfold kindF
    rw [fd_at (tokAt L E r) fwL 0 i hi ha h, Nat.zero_add])
  have N : Hid ((∀ j, j < 7 → isB (tokAt L E r) (fwL.getD j []) = false) → kindF L E r = .error (210, r)) := Lib.hid (fun ha => by
    unfold kindF
    rw [fd_no (tokAt L E r) fwL 0 ha])
  have K := Lib.hid (fun i (_ : i < 7) W (hP : Pt W base q A c L E M V r o) => is_any (fwL.getD i []) W base q c E r o A L M V hP)
  have SP := Lib.hid (fun W (hP : Pt W base q A c L E M V r o) => spot_any 210 W base q c E r o A L M V hP)
  have KR := Lib.hid (fwV_rng hG)
  have IXH := Lib.hid (fun i hi W => ix135 W i hi)
  have PH := Lib.hid h
  generalize kindF L E r = R at *
  generalize hV : fwV.toArray = KV at *
  have hV2 : KV.toList = fwV := by rw [← hV]
  clear hV hG h
  go_enter Tryz.func74, Tryz.ntmps74
  go_upto_region 2 with ((with_reducible refine at_load (t := 135) ?_); refine wpList_load_mid rfl 135 _ rfl 0 0 rfl fwV _ KR.out Tryz.underlying135 rfl Tryz.i135 ?_)
  rw [← hV2]
  simp only [Array.toArray_toList]
  go_loopw [6] (fun iv wr => ∃ i : Nat, i ≤ 7 ∧ iv = .int .i64 (i : Int) ∧ Hid (∀ j, j < i → isB (tokAt L E r) (fwL.getD j []) = false) ∧ Hid (Pt wr base q A c L E M V r o) ∧ Hid (Fq w.heap.size q w wr)) (fun iv _ => 7 - (intOf iv).toNat)
  case atStart => exact ⟨0, Nat.zero_le _, rfl, Lib.hid (fun j hj => absurd hj (by omega)), PH, Lib.hid (Fq.refl _ _ _)⟩
  case round =>
    obtain ⟨i, hi, rfl, HA, HP, HF⟩ := hrel
    by_cases hlt : i < 7
    · have i0 : (0 : Int) ≤ (i : Int) := by omega
      have i1 : (i : Int) < 7 := by omega
      have IX := IXH.out i hlt
      have KK := K.out i hlt wr HP.out
      have YY := Lib.hid (Y.out i hlt HA.out)
      cases hq : isB (tokAt L E r) (fwL.getD i []) with
      | true =>
        have hR := YY.out hq
        rw [hq] at KK
        generalize fwL.getD i [] = kk at *
        have KH : Hid (Calls Tryz.prog 109 #[.pointer (some ⟨q, 0, none⟩), tx kk] wr fun e w' => e = .returned (.bool true) ∧ Pt w' base q A c L E M V (r) o ∧ Fq wr.heap.size q wr w') := Lib.hid (KK.mono fun e w' hy => ⟨hy.1, HP.out.on hy.2, Fq.of hy.2 (Nat.le_refl _)⟩)
        clear KK
        subst hR
        go_wp2_with (go_at_call 109; refine KH.out.mono ?_; rintro e w2 ⟨rfl, hP, hF⟩; have P2 := Lib.hid hP; have F2 := Lib.hid (HF.out.up hF); clear hP hF)
        go_ret
        exact ⟨rfl, P2.out, F2.out⟩
      | false =>
        have HA2 : Hid (∀ j, j < i + 1 → isB (tokAt L E r) (fwL.getD j []) = false) := Lib.hid (fun j hj => by
          by_cases hji : j = i
          · subst hji; exact hq
          · exact HA.out j (by omega))
        rw [hq] at KK
        generalize fwL.getD i [] = kk at *
        have KH : Hid (Calls Tryz.prog 109 #[.pointer (some ⟨q, 0, none⟩), tx kk] wr fun e w' => e = .returned (.bool false) ∧ Pt w' base q A c L E M V r o ∧ Fq wr.heap.size q wr w') := Lib.hid (KK.mono fun e w' hy => ⟨hy.1, HP.out.on hy.2, Fq.of hy.2 (Nat.le_refl _)⟩)
        clear KK
        go_wp2_with (go_at_call 109; refine KH.out.mono ?_; rintro e w2 ⟨rfl, hP, hF⟩; have P2 := Lib.hid hP; have F2 := Lib.hid (HF.out.up hF); clear hP hF)
        go_roundw
        case rel => exact ⟨i + 1, by omega, by go_num, HA2, P2, F2⟩
        case measure => simp [intOf]; omega
    · obtain rfl : i = 7 := by omega
      have hR := N.out HA.out
      subst hR
      go_wp2_with (go_at_call 75; refine (SP.out _ HP.out).mono ?_; rintro e w3 ⟨rfl, hb3⟩; have F3 := Lib.hid (HF.out.up (Fq.of hb3 (Nat.le_refl _))); clear hb3)
      exact ⟨rfl, rfl, F3.out⟩
theorem Tryz.i141 : (Tryz.prog.info? 141).map (·.size) = some 5 := by kernel_rfl
theorem ix141 (w : World) : ∀ i : Nat, i < 5 → (Instr.index 141 (.agg twV.toArray) (.int .i64 (i : Int))).run Tryz.prog w = .ok (tx (twL.getD i [])) w
  | 0, _ => by kernel_rfl
  | 1, _ => by kernel_rfl
  | 2, _ => by kernel_rfl
  | 3, _ => by kernel_rfl
  | 4, _ => by kernel_rfl
  | n + 5, h => absurd h (by omega)
theorem twV_rng {w : World} (h : Gp w) : w.rangeAt 1 0 twV := fun j v hj => by
  have hl : j < 5 := by
    have := (List.getElem?_eq_some_iff.1 hj).1
    simpa [twV, twL] using this
  rw [Nat.zero_add, h.tw j hl, ← hj]
  have h2 : j < twL.length := hl
  simp [twV, List.getD, h2]
def typeF (L : List Tk) (E r : Nat) : Except (Int × Nat) (Nat × Nat) :=
  match fdI (tokAt L E r) twL 0 with
  | some i => .ok (i, r + 1)
  | none => .error (210, r)
set_option maxRecDepth 100000 in
set_option maxHeartbeats 4000000 in
theorem typed_any (w : World) (base q c E r o : Nat) (A : Option Addr) (L : List Tk) (M V : Value) (h : Pt w base q A c L E M V r o) (hG : Gp w) :
    Calls Tryz.prog 138 #[.pointer (some ⟨q, 0, none⟩)] w (Rd w base q A c L E M V o ((typeF L E r).map fun p => (.int .i64 (p.1 : Int), p.2))) := by
  have Y : Hid (∀ i, i < 5 → (∀ j, j < i → isB (tokAt L E r) (twL.getD j []) = false) → isB (tokAt L E r) (twL.getD i []) = true → typeF L E r = .ok (i, r + 1)) := Lib.hid (fun i hi ha h => by
    unfold typeF
    rw [fd_at (tokAt L E r) twL 0 i hi ha h, Nat.zero_add])
  have N : Hid ((∀ j, j < 5 → isB (tokAt L E r) (twL.getD j []) = false) → typeF L E r = .error (210, r)) := Lib.hid (fun ha => by
    unfold typeF
    rw [fd_no (tokAt L E r) twL 0 ha])
  have K := Lib.hid (fun i (_ : i < 5) W (hP : Pt W base q A c L E M V r o) => found_any (twL.getD i []) W base q c E r o A L M V hP)
  have SP := Lib.hid (fun W (hP : Pt W base q A c L E M V r o) => spot_any 210 W base q c E r o A L M V hP)
  have KR := Lib.hid (twV_rng hG)
  have IXH := Lib.hid (fun i hi W => ix141 W i hi)
  have PH := Lib.hid h
  generalize typeF L E r = R at *
  generalize hV : twV.toArray = KV at *
  have hV2 : KV.toList = twV := by rw [← hV]
  clear hV hG h
  go_enter Tryz.func138, Tryz.ntmps138
  go_upto_region 2 with ((with_reducible refine at_load (t := 141) ?_); refine wpList_load_mid rfl 141 _ rfl 1 0 rfl twV _ KR.out Tryz.underlying141 rfl Tryz.i141 ?_)
  rw [← hV2]
  simp only [Array.toArray_toList]
  go_loopw [6] (fun iv wr => ∃ i : Nat, i ≤ 5 ∧ iv = .int .i64 (i : Int) ∧ Hid (∀ j, j < i → isB (tokAt L E r) (twL.getD j []) = false) ∧ Hid (Pt wr base q A c L E M V r o) ∧ Hid (Fq w.heap.size q w wr)) (fun iv _ => 5 - (intOf iv).toNat)
  case atStart => exact ⟨0, Nat.zero_le _, rfl, Lib.hid (fun j hj => absurd hj (by omega)), PH, Lib.hid (Fq.refl _ _ _)⟩
  case round =>
    obtain ⟨i, hi, rfl, HA, HP, HF⟩ := hrel
    by_cases hlt : i < 5
    · have i0 : (0 : Int) ≤ (i : Int) := by omega
      have i1 : (i : Int) < 5 := by omega
      have IX := IXH.out i hlt
      have KK := K.out i hlt wr HP.out
      have YY := Lib.hid (Y.out i hlt HA.out)
      cases hq : isB (tokAt L E r) (twL.getD i []) with
      | true =>
        have hR := YY.out hq
        rw [hq] at KK
        generalize twL.getD i [] = kk at *
        have KH : Hid (Calls Tryz.prog 82 #[.pointer (some ⟨q, 0, none⟩), tx kk] wr fun e w' => e = .returned (.bool true) ∧ Pt w' base q A c L E M V (r + 1) o ∧ Fq wr.heap.size q wr w') := Lib.hid (KK)
        clear KK
        subst hR
        go_wp2_with (go_at_call 82; refine KH.out.mono ?_; rintro e w2 ⟨rfl, hP, hF⟩; have P2 := Lib.hid hP; have F2 := Lib.hid (HF.out.up hF); clear hP hF)
        go_ret
        exact ⟨rfl, P2.out, F2.out⟩
      | false =>
        have HA2 : Hid (∀ j, j < i + 1 → isB (tokAt L E r) (twL.getD j []) = false) := Lib.hid (fun j hj => by
          by_cases hji : j = i
          · subst hji; exact hq
          · exact HA.out j (by omega))
        rw [hq] at KK
        generalize twL.getD i [] = kk at *
        have KH : Hid (Calls Tryz.prog 82 #[.pointer (some ⟨q, 0, none⟩), tx kk] wr fun e w' => e = .returned (.bool false) ∧ Pt w' base q A c L E M V r o ∧ Fq wr.heap.size q wr w') := Lib.hid (KK)
        clear KK
        go_wp2_with (go_at_call 82; refine KH.out.mono ?_; rintro e w2 ⟨rfl, hP, hF⟩; have P2 := Lib.hid hP; have F2 := Lib.hid (HF.out.up hF); clear hP hF)
        go_roundw
        case rel => exact ⟨i + 1, by omega, by go_num, HA2, P2, F2⟩
        case measure => simp [intOf]; omega
    · obtain rfl : i = 5 := by omega
      have hR := N.out HA.out
      subst hR
      go_wp2_with (go_at_call 75; refine (SP.out _ HP.out).mono ?_; rintro e w3 ⟨rfl, hb3⟩; have F3 := Lib.hid (HF.out.up (Fq.of hb3 (Nat.le_refl _))); clear hb3)
      exact ⟨rfl, rfl, F3.out⟩
end Go.Proofs.YtiipglmbfgmbbaaGreatDoor
