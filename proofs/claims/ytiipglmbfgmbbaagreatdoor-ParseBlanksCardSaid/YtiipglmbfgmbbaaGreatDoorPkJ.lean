/-
  Several texts in one: P12, P13, P14, P15.
-/
import Derived.Test.YtiipglmbfgmbbaaGreatDoorPkI
namespace Go.Proofs.YtiipglmbfgmbbaaGreatDoor
open Go.RowKit Go.Shelf
attribute [local go_sem] Oper.semAt_some

/-- What a call that opens answers: what part does, behind the word. -/
def OutP (w : World) (base q : Nat) (A : Option Addr) (c : Nat) (L : List Tk) (E m r o : Nat) (ns : List Nd) (g : Gx) (e : Ending) (w' : World) : Prop :=
  ∃ n x, ex L E n g r (o + 1) ns = some x ∧ Fq base q w w' ∧ match x with
    | .ok (row, r', ns') => e = .returned (.int .i64 (row : Int)) ∧ r ≤ r' ∧ ns'.length + r ≤ ns.length + r' ∧ Fy q w w' ∧ ∃ B' nc', St w' base q A c L E m r' o B' nc' ns'
    | .error (er, i) => e = pnc er (tokAt L E i).at_
theorem St.opn {w : World} {base q c E m r o nc : Nat} {A B : Option Addr} {L : List Tk} {ns : List Nd} (h : St w base q A c L E m r o B nc ns) (o' : Nat) : St (w.setCell ⟨q, 5, none⟩ (.int .i64 (o' : Int))) base q A c L E m r o' B nc ns :=
  ⟨h.pt.open_ o', h.nds.set h.pt.blk (by decide) _, (Below.heap_setCell _ _ _ _ h.hq).trans h.mo, h.hm, h.hq, h.few⟩
set_option maxRecDepth 100000 in
set_option maxHeartbeats 8000000 in
theorem opened_164 (N : Nat) (hf : LvOk N .not 164) (w : World) (base q c E m r o nc : Nat) (A B : Option Addr) (L : List Tk) (ns : List Nd) (h : St w base q A c L E m r o B nc ns) (hN : L.length < r + 1 + N) (ho : o < 16) (hb : isB (tokAt L E r) [78, 79, 84] = true) :
    Calls Tryz.prog 169 #[.pointer (some ⟨q, 0, none⟩), .string ⟨#[78, 79, 84]⟩, .func (.func 164) #[.pointer (some ⟨q, 0, none⟩)] #[]] w (OutP w base q A c L E m (r + 1) o ns (.lv .not)) := by
  have hrl : r < L.length := isB_lt hb
  have hle := h.pt.le
  have hlt := h.pt.lt
  have hne : ((o : Int) == 16) = false := by simp; omega
  have SH := Lib.hid h
  have WF : Hid (wordsF L E r [[78, 79, 84]] = .ok (r + 1)) := Lib.hid (by unfold wordsF; rw [if_pos hb]; rfl)
  have HF := Lib.hid hf
  have x5 : w.cell? ⟨q, 5, none⟩ = some (.int .i64 (o : Int)) := h.pt.blk.cell 5
  clear h hf
  go_enter Tryz.func169, Tryz.ntmps169
  have AL : Below w.heap.size w (w.alloc (.cells #[.string ⟨#[78, 79, 84]⟩] 9)) := (Below.refl _ _).alloc (Nat.le_refl _) _
  have S1 := Lib.hid (SH.out.on AL)
  have F1 := Lib.hid (Fq.of (q := q) AL hle)
  have Y1 := Lib.hid (Fy.of (q := q) AL)
  have WD := words_any [[78, 79, 84]] 1 w.heap.size (w.alloc (.cells #[.string ⟨#[78, 79, 84]⟩] 9)) base q c E r o A L _ _ S1.out.pt rfl (by omega) ⟨by simp, fun i hi => by
    obtain rfl : i = 0 := by simp at hi; omega
    exact (Blk.new w 9 #[.string ⟨#[78, 79, 84]⟩]).cell 0⟩ (by omega)
  rw [WF.out] at WD
  have WH : Hid (Calls Tryz.prog 49 #[.pointer (some ⟨q, 0, none⟩), .slice (some ⟨w.heap.size, 0, none⟩) 1 1] (w.alloc (.cells #[.string ⟨#[78, 79, 84]⟩] 9)) fun e w' => e = .returned (.tuple #[]) ∧ Pt w' base q A c L E (.map (some m)) (.slice B ns.length nc) (r + 1) o ∧ Fq (w.alloc (.cells #[.string ⟨#[78, 79, 84]⟩] 9)).heap.size q (w.alloc (.cells #[.string ⟨#[78, 79, 84]⟩] 9)) w') := Lib.hid WD
  clear WD AL
  go_upto_region 4 with (go_at_call 49; refine WH.out.mono ?_; rintro e w2 ⟨rfl, hP, hF⟩; have S2 := Lib.hid (S1.out.read hP hF (by omega)); have F2 := Lib.hid (F1.out.trans (hF.mono S1.out.pt.le)); have Y2 := Lib.hid (Y1.out.trans (Fy.ofq hF)); clear hP hF)
  clear x5 S1 F1 Y1 WH
  have x5 : w2.cell? ⟨q, 5, none⟩ = some (.int .i64 (o : Int)) := S2.out.pt.blk.cell 5
  have y5 : w2.frozen? ⟨q, 5, none⟩ = false := S2.out.pt.blk.frozen 5
  go_upto_region 5 with fail
  have S3 : Hid (St (w2.setCell ⟨q, 5, none⟩ (.int .i64 ((o : Int) + 1))) base q A c L E m (r + 1) (o + 1) B nc ns) := Lib.hid (by have := S2.out.opn (o + 1); simpa using this)
  have F3 := Lib.hid (F2.out.trans (Fq.set base q 5 w2 (.int .i64 ((o : Int) + 1))))
  have Y3 := Lib.hid (Y2.out.trans (Fy.set q 5 w2 (.int .i64 ((o : Int) + 1))))
  clear S2 F2 Y2 x5 y5
  generalize w2.setCell ⟨q, 5, none⟩ (.int .i64 ((o : Int) + 1)) = w3 at *
  have C5 := Lib.hid (HF.out w3 base q A c L E m (r + 1) (o + 1) B nc ns S3.out (by omega) (by omega))
  have F3' := Lib.hid F3.out
  go_upto_region 6 with (go_at_call 164; refine C5.out.mono ?_; rintro e w5 ⟨n5, x5, hx, hF, hy⟩; have X5 := Lib.hid hx; have F5 := Lib.hid (F3'.out.trans hF); clear hx hF; rcases x5 with ⟨er, i⟩ | ⟨row5, r5, ns5⟩ <;> first | (have hz : e = .panicked [{ v := .iface 26 (.agg #[.int .i64 er, .int .i64 ((tokAt L E i).at_ : Int)]), recovered := false }] := hy; subst hz; clear hy) | (obtain ⟨rfl, hr5, hn5, hY, B5, nc5, hS⟩ := hy; have S5 := Lib.hid hS; have Y5 := Lib.hid hY; clear hS hY))
  · exact ⟨rfl, n5, _, X5.out, F5.out, rfl⟩
  · have x5 : w5.cell? ⟨q, 5, none⟩ = some (.int .i64 ((o + 1 : Nat) : Int)) := S5.out.pt.blk.cell 5
    rw [Int.natCast_add] at x5
    have y5 : w5.frozen? ⟨q, 5, none⟩ = false := S5.out.pt.blk.frozen 5
    have eo : ((o : Int) + 1 - 1) = (o : Int) := by omega
    go_wp2_with fail
    go_ret
    refine ⟨n5, _, X5.out, F5.out.trans (Fq.set base q 5 w5 (.int .i64 (o : Int))), rfl, hr5, hn5, (Y3.out.trans Y5.out).trans (Fy.set q 5 w5 (.int .i64 (o : Int))), B5, nc5, S5.out.opn o⟩
set_option maxRecDepth 100000 in
set_option maxHeartbeats 4000000 in
theorem full_164 (w : World) (base q c E m r nc : Nat) (A B : Option Addr) (L : List Tk) (ns : List Nd) (h : St w base q A c L E m r 16 B nc ns) :
    Calls Tryz.prog 169 #[.pointer (some ⟨q, 0, none⟩), .string ⟨#[78, 79, 84]⟩, .func (.func 164) #[.pointer (some ⟨q, 0, none⟩)] #[]] w fun e w' => e = pnc 211 (tokAt L E r).at_ ∧ Fq base q w w' := by
  have SP := Lib.hid (spot_any 211 w base q c E r 16 A L _ _ h.pt)
  have hle := h.pt.le
  have x5 : w.cell? ⟨q, 5, none⟩ = some (.int .i64 16) := h.pt.blk.cell 5
  clear h
  go_enter Tryz.func169, Tryz.ntmps169
  go_wp2_with (go_at_call 75; refine SP.out.mono ?_; rintro e w2 ⟨rfl, hb⟩; have F2 := Lib.hid (Fq.of (q := q) hb hle); clear hb)
  exact ⟨rfl, rfl, F2.out⟩
set_option maxRecDepth 100000 in
set_option maxHeartbeats 8000000 in
theorem opened_172 (N : Nat) (hf : LvOk N .minus 172) (w : World) (base q c E m r o nc : Nat) (A B : Option Addr) (L : List Tk) (ns : List Nd) (h : St w base q A c L E m r o B nc ns) (hN : L.length < r + 1 + N) (ho : o < 16) (hb : isB (tokAt L E r) [45] = true) :
    Calls Tryz.prog 169 #[.pointer (some ⟨q, 0, none⟩), .string ⟨#[45]⟩, .func (.func 172) #[.pointer (some ⟨q, 0, none⟩)] #[]] w (OutP w base q A c L E m (r + 1) o ns (.lv .minus)) := by
  have hrl : r < L.length := isB_lt hb
  have hle := h.pt.le
  have hlt := h.pt.lt
  have hne : ((o : Int) == 16) = false := by simp; omega
  have SH := Lib.hid h
  have WF : Hid (wordsF L E r [[45]] = .ok (r + 1)) := Lib.hid (by unfold wordsF; rw [if_pos hb]; rfl)
  have HF := Lib.hid hf
  have x5 : w.cell? ⟨q, 5, none⟩ = some (.int .i64 (o : Int)) := h.pt.blk.cell 5
  clear h hf
  go_enter Tryz.func169, Tryz.ntmps169
  have AL : Below w.heap.size w (w.alloc (.cells #[.string ⟨#[45]⟩] 9)) := (Below.refl _ _).alloc (Nat.le_refl _) _
  have S1 := Lib.hid (SH.out.on AL)
  have F1 := Lib.hid (Fq.of (q := q) AL hle)
  have Y1 := Lib.hid (Fy.of (q := q) AL)
  have WD := words_any [[45]] 1 w.heap.size (w.alloc (.cells #[.string ⟨#[45]⟩] 9)) base q c E r o A L _ _ S1.out.pt rfl (by omega) ⟨by simp, fun i hi => by
    obtain rfl : i = 0 := by simp at hi; omega
    exact (Blk.new w 9 #[.string ⟨#[45]⟩]).cell 0⟩ (by omega)
  rw [WF.out] at WD
  have WH : Hid (Calls Tryz.prog 49 #[.pointer (some ⟨q, 0, none⟩), .slice (some ⟨w.heap.size, 0, none⟩) 1 1] (w.alloc (.cells #[.string ⟨#[45]⟩] 9)) fun e w' => e = .returned (.tuple #[]) ∧ Pt w' base q A c L E (.map (some m)) (.slice B ns.length nc) (r + 1) o ∧ Fq (w.alloc (.cells #[.string ⟨#[45]⟩] 9)).heap.size q (w.alloc (.cells #[.string ⟨#[45]⟩] 9)) w') := Lib.hid WD
  clear WD AL
  go_upto_region 4 with (go_at_call 49; refine WH.out.mono ?_; rintro e w2 ⟨rfl, hP, hF⟩; have S2 := Lib.hid (S1.out.read hP hF (by omega)); have F2 := Lib.hid (F1.out.trans (hF.mono S1.out.pt.le)); have Y2 := Lib.hid (Y1.out.trans (Fy.ofq hF)); clear hP hF)
  clear x5 S1 F1 Y1 WH
  have x5 : w2.cell? ⟨q, 5, none⟩ = some (.int .i64 (o : Int)) := S2.out.pt.blk.cell 5
  have y5 : w2.frozen? ⟨q, 5, none⟩ = false := S2.out.pt.blk.frozen 5
  go_upto_region 5 with fail
  have S3 : Hid (St (w2.setCell ⟨q, 5, none⟩ (.int .i64 ((o : Int) + 1))) base q A c L E m (r + 1) (o + 1) B nc ns) := Lib.hid (by have := S2.out.opn (o + 1); simpa using this)
  have F3 := Lib.hid (F2.out.trans (Fq.set base q 5 w2 (.int .i64 ((o : Int) + 1))))
  have Y3 := Lib.hid (Y2.out.trans (Fy.set q 5 w2 (.int .i64 ((o : Int) + 1))))
  clear S2 F2 Y2 x5 y5
  generalize w2.setCell ⟨q, 5, none⟩ (.int .i64 ((o : Int) + 1)) = w3 at *
  have C5 := Lib.hid (HF.out w3 base q A c L E m (r + 1) (o + 1) B nc ns S3.out (by omega) (by omega))
  have F3' := Lib.hid F3.out
  go_upto_region 6 with (go_at_call 172; refine C5.out.mono ?_; rintro e w5 ⟨n5, x5, hx, hF, hy⟩; have X5 := Lib.hid hx; have F5 := Lib.hid (F3'.out.trans hF); clear hx hF; rcases x5 with ⟨er, i⟩ | ⟨row5, r5, ns5⟩ <;> first | (have hz : e = .panicked [{ v := .iface 26 (.agg #[.int .i64 er, .int .i64 ((tokAt L E i).at_ : Int)]), recovered := false }] := hy; subst hz; clear hy) | (obtain ⟨rfl, hr5, hn5, hY, B5, nc5, hS⟩ := hy; have S5 := Lib.hid hS; have Y5 := Lib.hid hY; clear hS hY))
  · exact ⟨rfl, n5, _, X5.out, F5.out, rfl⟩
  · have x5 : w5.cell? ⟨q, 5, none⟩ = some (.int .i64 ((o + 1 : Nat) : Int)) := S5.out.pt.blk.cell 5
    rw [Int.natCast_add] at x5
    have y5 : w5.frozen? ⟨q, 5, none⟩ = false := S5.out.pt.blk.frozen 5
    have eo : ((o : Int) + 1 - 1) = (o : Int) := by omega
    go_wp2_with fail
    go_ret
    refine ⟨n5, _, X5.out, F5.out.trans (Fq.set base q 5 w5 (.int .i64 (o : Int))), rfl, hr5, hn5, (Y3.out.trans Y5.out).trans (Fy.set q 5 w5 (.int .i64 (o : Int))), B5, nc5, S5.out.opn o⟩
set_option maxRecDepth 100000 in
set_option maxHeartbeats 4000000 in
theorem full_172 (w : World) (base q c E m r nc : Nat) (A B : Option Addr) (L : List Tk) (ns : List Nd) (h : St w base q A c L E m r 16 B nc ns) :
    Calls Tryz.prog 169 #[.pointer (some ⟨q, 0, none⟩), .string ⟨#[45]⟩, .func (.func 172) #[.pointer (some ⟨q, 0, none⟩)] #[]] w fun e w' => e = pnc 211 (tokAt L E r).at_ ∧ Fq base q w w' := by
  have SP := Lib.hid (spot_any 211 w base q c E r 16 A L _ _ h.pt)
  have hle := h.pt.le
  have x5 : w.cell? ⟨q, 5, none⟩ = some (.int .i64 16) := h.pt.blk.cell 5
  clear h
  go_enter Tryz.func169, Tryz.ntmps169
  go_wp2_with (go_at_call 75; refine SP.out.mono ?_; rintro e w2 ⟨rfl, hb⟩; have F2 := Lib.hid (Fq.of (q := q) hb hle); clear hb)
  exact ⟨rfl, rfl, F2.out⟩
set_option maxRecDepth 100000 in
set_option maxHeartbeats 8000000 in
theorem opened_139 (N : Nat) (hf : LvOk N .or 139) (w : World) (base q c E m r o nc : Nat) (A B : Option Addr) (L : List Tk) (ns : List Nd) (h : St w base q A c L E m r o B nc ns) (hN : L.length < r + 1 + N) (ho : o < 16) (hb : isB (tokAt L E r) [40] = true) :
    Calls Tryz.prog 169 #[.pointer (some ⟨q, 0, none⟩), .string ⟨#[40]⟩, .func (.func 139) #[.pointer (some ⟨q, 0, none⟩)] #[]] w (OutP w base q A c L E m (r + 1) o ns (.lv .or)) := by
  have hrl : r < L.length := isB_lt hb
  have hle := h.pt.le
  have hlt := h.pt.lt
  have hne : ((o : Int) == 16) = false := by simp; omega
  have SH := Lib.hid h
  have WF : Hid (wordsF L E r [[40]] = .ok (r + 1)) := Lib.hid (by unfold wordsF; rw [if_pos hb]; rfl)
  have HF := Lib.hid hf
  have x5 : w.cell? ⟨q, 5, none⟩ = some (.int .i64 (o : Int)) := h.pt.blk.cell 5
  clear h hf
  go_enter Tryz.func169, Tryz.ntmps169
  have AL : Below w.heap.size w (w.alloc (.cells #[.string ⟨#[40]⟩] 9)) := (Below.refl _ _).alloc (Nat.le_refl _) _
  have S1 := Lib.hid (SH.out.on AL)
  have F1 := Lib.hid (Fq.of (q := q) AL hle)
  have Y1 := Lib.hid (Fy.of (q := q) AL)
  have WD := words_any [[40]] 1 w.heap.size (w.alloc (.cells #[.string ⟨#[40]⟩] 9)) base q c E r o A L _ _ S1.out.pt rfl (by omega) ⟨by simp, fun i hi => by
    obtain rfl : i = 0 := by simp at hi; omega
    exact (Blk.new w 9 #[.string ⟨#[40]⟩]).cell 0⟩ (by omega)
  rw [WF.out] at WD
  have WH : Hid (Calls Tryz.prog 49 #[.pointer (some ⟨q, 0, none⟩), .slice (some ⟨w.heap.size, 0, none⟩) 1 1] (w.alloc (.cells #[.string ⟨#[40]⟩] 9)) fun e w' => e = .returned (.tuple #[]) ∧ Pt w' base q A c L E (.map (some m)) (.slice B ns.length nc) (r + 1) o ∧ Fq (w.alloc (.cells #[.string ⟨#[40]⟩] 9)).heap.size q (w.alloc (.cells #[.string ⟨#[40]⟩] 9)) w') := Lib.hid WD
  clear WD AL
  go_upto_region 4 with (go_at_call 49; refine WH.out.mono ?_; rintro e w2 ⟨rfl, hP, hF⟩; have S2 := Lib.hid (S1.out.read hP hF (by omega)); have F2 := Lib.hid (F1.out.trans (hF.mono S1.out.pt.le)); have Y2 := Lib.hid (Y1.out.trans (Fy.ofq hF)); clear hP hF)
  clear x5 S1 F1 Y1 WH
  have x5 : w2.cell? ⟨q, 5, none⟩ = some (.int .i64 (o : Int)) := S2.out.pt.blk.cell 5
  have y5 : w2.frozen? ⟨q, 5, none⟩ = false := S2.out.pt.blk.frozen 5
  go_upto_region 5 with fail
  have S3 : Hid (St (w2.setCell ⟨q, 5, none⟩ (.int .i64 ((o : Int) + 1))) base q A c L E m (r + 1) (o + 1) B nc ns) := Lib.hid (by have := S2.out.opn (o + 1); simpa using this)
  have F3 := Lib.hid (F2.out.trans (Fq.set base q 5 w2 (.int .i64 ((o : Int) + 1))))
  have Y3 := Lib.hid (Y2.out.trans (Fy.set q 5 w2 (.int .i64 ((o : Int) + 1))))
  clear S2 F2 Y2 x5 y5
  generalize w2.setCell ⟨q, 5, none⟩ (.int .i64 ((o : Int) + 1)) = w3 at *
  have C5 := Lib.hid (HF.out w3 base q A c L E m (r + 1) (o + 1) B nc ns S3.out (by omega) (by omega))
  have F3' := Lib.hid F3.out
  go_upto_region 6 with (go_at_call 139; refine C5.out.mono ?_; rintro e w5 ⟨n5, x5, hx, hF, hy⟩; have X5 := Lib.hid hx; have F5 := Lib.hid (F3'.out.trans hF); clear hx hF; rcases x5 with ⟨er, i⟩ | ⟨row5, r5, ns5⟩ <;> first | (have hz : e = .panicked [{ v := .iface 26 (.agg #[.int .i64 er, .int .i64 ((tokAt L E i).at_ : Int)]), recovered := false }] := hy; subst hz; clear hy) | (obtain ⟨rfl, hr5, hn5, hY, B5, nc5, hS⟩ := hy; have S5 := Lib.hid hS; have Y5 := Lib.hid hY; clear hS hY))
  · exact ⟨rfl, n5, _, X5.out, F5.out, rfl⟩
  · have x5 : w5.cell? ⟨q, 5, none⟩ = some (.int .i64 ((o + 1 : Nat) : Int)) := S5.out.pt.blk.cell 5
    rw [Int.natCast_add] at x5
    have y5 : w5.frozen? ⟨q, 5, none⟩ = false := S5.out.pt.blk.frozen 5
    have eo : ((o : Int) + 1 - 1) = (o : Int) := by omega
    go_wp2_with fail
    go_ret
    refine ⟨n5, _, X5.out, F5.out.trans (Fq.set base q 5 w5 (.int .i64 (o : Int))), rfl, hr5, hn5, (Y3.out.trans Y5.out).trans (Fy.set q 5 w5 (.int .i64 (o : Int))), B5, nc5, S5.out.opn o⟩
set_option maxRecDepth 100000 in
set_option maxHeartbeats 4000000 in
theorem full_139 (w : World) (base q c E m r nc : Nat) (A B : Option Addr) (L : List Tk) (ns : List Nd) (h : St w base q A c L E m r 16 B nc ns) :
    Calls Tryz.prog 169 #[.pointer (some ⟨q, 0, none⟩), .string ⟨#[40]⟩, .func (.func 139) #[.pointer (some ⟨q, 0, none⟩)] #[]] w fun e w' => e = pnc 211 (tokAt L E r).at_ ∧ Fq base q w w' := by
  have SP := Lib.hid (spot_any 211 w base q c E r 16 A L _ _ h.pt)
  have hle := h.pt.le
  have x5 : w.cell? ⟨q, 5, none⟩ = some (.int .i64 16) := h.pt.blk.cell 5
  clear h
  go_enter Tryz.func169, Tryz.ntmps169
  go_wp2_with (go_at_call 75; refine SP.out.mono ?_; rintro e w2 ⟨rfl, hb⟩; have F2 := Lib.hid (Fq.of (q := q) hb hle); clear hb)
  exact ⟨rfl, rfl, F2.out⟩
end Go.Proofs.YtiipglmbfgmbbaaGreatDoor

namespace Go.Proofs.YtiipglmbfgmbbaaGreatDoor
open Go.RowKit Go.Shelf
attribute [local go_sem] Oper.semAt_some

theorem ex_not_no {L : List Tk} {E n r o : Nat} {ns : List Nd} (hb : isB (tokAt L E r) [78, 79, 84] = false) : ex L E (n + 1) (.lv .not) r o ns = ex L E n (.lv .test) r o ns := by
  show (if isB (tokAt L E r) [78, 79, 84] = true then _ else ex L E n (.lv .test) r o ns) = _
  rw [if_neg (by rw [hb]; decide)]
theorem ex_not_full {L : List Tk} {E n r : Nat} {ns : List Nd} (hb : isB (tokAt L E r) [78, 79, 84] = true) : ex L E (n + 1) (.lv .not) r 16 ns = some (.error (211, r)) := by
  show (if isB (tokAt L E r) [78, 79, 84] = true then (if 16 = 16 then some (Except.error (211, r)) else _) else _ : Rs) = _
  rw [if_pos hb, if_pos rfl]
theorem ex_not_yes {L : List Tk} {E n r o : Nat} {ns : List Nd} (hb : isB (tokAt L E r) [78, 79, 84] = true) (ho : o ≠ 16) : ex L E (n + 1) (.lv .not) r o ns = bnd (ex L E n (.lv .not) (r + 1) (o + 1) ns) fun row r ns => one_ (nd1 3 row) r ns := by
  show (if isB (tokAt L E r) [78, 79, 84] = true then (if o = 16 then some (Except.error (211, r)) else bnd (ex L E n (.lv .not) (r + 1) (o + 1) ns) fun row r ns => one_ (nd1 3 row) r ns) else _) = _
  rw [if_pos hb, if_neg ho]
set_option maxRecDepth 100000 in
set_option maxHeartbeats 8000000 in
theorem not_lv (N : Nat) (hn : LvOk N .not 164) (ht : LvOk (N + 1) .test 168) : LvOk (N + 1) .not 164 := by
  intro w base q A c L E m r o B nc ns h hN ho
  have IS := is_any [78, 79, 84] w base q c E r o A L _ _ h.pt
  have SH := Lib.hid h
  have hle := h.pt.le
  have HT := Lib.hid ht
  have HN := Lib.hid hn
  clear ht hn h
  cases hb : isB (tokAt L E r) [78, 79, 84] with
  | false =>
    rw [hb] at IS
    have IH := Lib.hid IS
    clear IS
    go_enter Tryz.func164, Tryz.ntmps164
    go_upto_region 2 with (go_at_call 109; refine IH.out.mono ?_; rintro e w2 ⟨rfl, hbl⟩; have S2 := Lib.hid (SH.out.on hbl); have F2 := Lib.hid (Fq.of (q := q) hbl hle); have Y2 := Lib.hid (Fy.of (q := q) hbl); clear hbl)
    have C1 := Lib.hid (HT.out w2 base q A c L E m r o B nc ns S2.out hN ho)
    go_wp2_with (go_at_call 168; refine C1.out.mono ?_; rintro e w3 ⟨n3, x3, hx, hF, hy⟩; have X3 := Lib.hid hx; have F3 := Lib.hid (F2.out.trans (hF)); clear hx hF; rcases x3 with ⟨er, i⟩ | ⟨row3, r3, ns3⟩ <;> first | (have hz : e = .panicked [{ v := .iface 26 (.agg #[.int .i64 er, .int .i64 ((tokAt L E i).at_ : Int)]), recovered := false }] := hy; subst hz; clear hy) | (obtain ⟨rfl, hr3, hn3, hY, B3, nc3, hS⟩ := hy; have S3 := Lib.hid hS; have Y3 := Lib.hid hY; clear hS hY))
    · exact ⟨rfl, n3 + 1, .error (er, i), (ex_not_no hb).trans X3.out, F3.out, rfl⟩
    · go_ret
      exact ⟨n3 + 1, .ok (row3, r3, ns3), (ex_not_no hb).trans X3.out, F3.out, rfl, hr3, hn3, Y2.out.trans Y3.out, B3, nc3, S3.out⟩
  | true =>
    rw [hb] at IS
    have IH := Lib.hid IS
    clear IS
    by_cases h16 : o = 16
    · subst h16
      go_enter Tryz.func164, Tryz.ntmps164
      go_upto_region 3 with (go_at_call 109; refine IH.out.mono ?_; rintro e w2 ⟨rfl, hbl⟩; have S2 := Lib.hid (SH.out.on hbl); have F2 := Lib.hid (Fq.of (q := q) hbl hle); clear hbl)
      have FU := Lib.hid (full_164 w2 base q c E m r nc A B L ns S2.out)
      go_wp2_with (go_at_call 169; refine FU.out.mono ?_; rintro e w3 ⟨he, hF⟩; have F3 := Lib.hid (F2.out.trans hF); have hz : e = .panicked [{ v := .iface 26 (.agg #[.int .i64 211, .int .i64 ((tokAt L E r).at_ : Int)]), recovered := false }] := he; subst hz; clear he hF)
      exact ⟨rfl, 1, .error (211, r), ex_not_full hb, F3.out, rfl⟩
    · go_enter Tryz.func164, Tryz.ntmps164
      go_upto_region 3 with (go_at_call 109; refine IH.out.mono ?_; rintro e w2 ⟨rfl, hbl⟩; have S2 := Lib.hid (SH.out.on hbl); have F2 := Lib.hid (Fq.of (q := q) hbl hle); have Y2 := Lib.hid (Fy.of (q := q) hbl); clear hbl)
      have O1 := Lib.hid (opened_164 N HN.out w2 base q c E m r o nc A B L ns S2.out (by omega) (by omega) hb)
      have hfew := SH.out.few
      go_wp2_with (first
        | (go_at_call 169; refine O1.out.mono ?_; rintro e w3 ⟨n3, x3, hx, hF, hy⟩; have X3 := Lib.hid hx; have F3 := Lib.hid (F2.out.trans hF); clear hx hF; rcases x3 with ⟨er, i⟩ | ⟨row3, r3, ns3⟩ <;> first | (have hz : e = .panicked [{ v := .iface 26 (.agg #[.int .i64 er, .int .i64 ((tokAt L E i).at_ : Int)]), recovered := false }] := hy; subst hz; clear hy) | (obtain ⟨rfl, hr3, hn3, hY, B3, nc3, hS⟩ := hy; have S3 := Lib.hid hS; have Y3 := Lib.hid hY; clear hS hY))
        | (go_at_call 163; refine (show Calls Tryz.prog 163 #[.pointer (some ⟨q, 0, none⟩), .agg #[.int .i64 3, .int .i64 0, .int .i64 (row3 : Int), .int .i64 0, .string ⟨#[]⟩, .string ⟨#[]⟩, .int .i64 0, .int .i64 0, .string ⟨#[]⟩]] w3 _ from row_any (nd1 3 row3) w3 base q c E r3 o ns3.length nc3 A B3 L _ ns3 S3.out.pt S3.out.nds (by have := S3.out.few; have := S3.out.pt.rd; have := S3.out.pt.many; omega)).mono ?_; rintro e w7 ⟨rfl, A2, c2, hP, hN2, hF, hY⟩; have S7 : Hid (St w7 base q A c L E m r3 o A2 c2 (ns3 ++ [nd1 3 row3])) := Lib.hid ⟨by rw [List.length_append]; exact hP, by rw [List.length_append]; exact hN2, (hF.block m S3.out.hm S3.out.hq).trans S3.out.mo, S3.out.hm, S3.out.hq, by rw [List.length_append]; simp; omega⟩; have F7 := Lib.hid (F3.out.trans hF); have Y7 := Lib.hid ((Y2.out.trans Y3.out).trans hY); clear hP hN2 hF hY))
      · exact ⟨rfl, n3 + 1, .error (er, i), by rw [ex_not_yes hb h16, X3.out]; rfl, F3.out, rfl⟩
      · go_ret
        exact ⟨n3 + 1, .ok (ns3.length, r3, ns3 ++ [nd1 3 row3]), by rw [ex_not_yes hb h16, X3.out]; rfl, F7.out, rfl, by omega, by rw [List.length_append]; simp; omega, Y7.out, A2, c2, S7.out⟩
theorem ex_minus_no {L : List Tk} {E n r o : Nat} {ns : List Nd} (hb : isB (tokAt L E r) [45] = false) : ex L E (n + 1) (.lv .minus) r o ns = ex L E n (.lv .single) r o ns := by
  show (if isB (tokAt L E r) [45] = true then _ else ex L E n (.lv .single) r o ns) = _
  rw [if_neg (by rw [hb]; decide)]
theorem ex_minus_full {L : List Tk} {E n r : Nat} {ns : List Nd} (hb : isB (tokAt L E r) [45] = true) : ex L E (n + 1) (.lv .minus) r 16 ns = some (.error (211, r)) := by
  show (if isB (tokAt L E r) [45] = true then (if 16 = 16 then some (Except.error (211, r)) else _) else _ : Rs) = _
  rw [if_pos hb, if_pos rfl]
theorem ex_minus_yes {L : List Tk} {E n r o : Nat} {ns : List Nd} (hb : isB (tokAt L E r) [45] = true) (ho : o ≠ 16) : ex L E (n + 1) (.lv .minus) r o ns = bnd (ex L E n (.lv .minus) (r + 1) (o + 1) ns) fun row r ns => one_ (nd1 4 row) r ns := by
  show (if isB (tokAt L E r) [45] = true then (if o = 16 then some (Except.error (211, r)) else bnd (ex L E n (.lv .minus) (r + 1) (o + 1) ns) fun row r ns => one_ (nd1 4 row) r ns) else _) = _
  rw [if_pos hb, if_neg ho]
set_option maxRecDepth 100000 in
set_option maxHeartbeats 8000000 in
theorem minus_lv (N : Nat) (hn : LvOk N .minus 172) (ht : LvOk (N + 1) .single 173) : LvOk (N + 1) .minus 172 := by
  intro w base q A c L E m r o B nc ns h hN ho
  have IS := is_any [45] w base q c E r o A L _ _ h.pt
  have SH := Lib.hid h
  have hle := h.pt.le
  have HT := Lib.hid ht
  have HN := Lib.hid hn
  clear ht hn h
  cases hb : isB (tokAt L E r) [45] with
  | false =>
    rw [hb] at IS
    have IH := Lib.hid IS
    clear IS
    go_enter Tryz.func172, Tryz.ntmps172
    go_upto_region 2 with (go_at_call 109; refine IH.out.mono ?_; rintro e w2 ⟨rfl, hbl⟩; have S2 := Lib.hid (SH.out.on hbl); have F2 := Lib.hid (Fq.of (q := q) hbl hle); have Y2 := Lib.hid (Fy.of (q := q) hbl); clear hbl)
    have C1 := Lib.hid (HT.out w2 base q A c L E m r o B nc ns S2.out hN ho)
    go_wp2_with (go_at_call 173; refine C1.out.mono ?_; rintro e w3 ⟨n3, x3, hx, hF, hy⟩; have X3 := Lib.hid hx; have F3 := Lib.hid (F2.out.trans (hF)); clear hx hF; rcases x3 with ⟨er, i⟩ | ⟨row3, r3, ns3⟩ <;> first | (have hz : e = .panicked [{ v := .iface 26 (.agg #[.int .i64 er, .int .i64 ((tokAt L E i).at_ : Int)]), recovered := false }] := hy; subst hz; clear hy) | (obtain ⟨rfl, hr3, hn3, hY, B3, nc3, hS⟩ := hy; have S3 := Lib.hid hS; have Y3 := Lib.hid hY; clear hS hY))
    · exact ⟨rfl, n3 + 1, .error (er, i), (ex_minus_no hb).trans X3.out, F3.out, rfl⟩
    · go_ret
      exact ⟨n3 + 1, .ok (row3, r3, ns3), (ex_minus_no hb).trans X3.out, F3.out, rfl, hr3, hn3, Y2.out.trans Y3.out, B3, nc3, S3.out⟩
  | true =>
    rw [hb] at IS
    have IH := Lib.hid IS
    clear IS
    by_cases h16 : o = 16
    · subst h16
      go_enter Tryz.func172, Tryz.ntmps172
      go_upto_region 3 with (go_at_call 109; refine IH.out.mono ?_; rintro e w2 ⟨rfl, hbl⟩; have S2 := Lib.hid (SH.out.on hbl); have F2 := Lib.hid (Fq.of (q := q) hbl hle); clear hbl)
      have FU := Lib.hid (full_172 w2 base q c E m r nc A B L ns S2.out)
      go_wp2_with (go_at_call 169; refine FU.out.mono ?_; rintro e w3 ⟨he, hF⟩; have F3 := Lib.hid (F2.out.trans hF); have hz : e = .panicked [{ v := .iface 26 (.agg #[.int .i64 211, .int .i64 ((tokAt L E r).at_ : Int)]), recovered := false }] := he; subst hz; clear he hF)
      exact ⟨rfl, 1, .error (211, r), ex_minus_full hb, F3.out, rfl⟩
    · go_enter Tryz.func172, Tryz.ntmps172
      go_upto_region 3 with (go_at_call 109; refine IH.out.mono ?_; rintro e w2 ⟨rfl, hbl⟩; have S2 := Lib.hid (SH.out.on hbl); have F2 := Lib.hid (Fq.of (q := q) hbl hle); have Y2 := Lib.hid (Fy.of (q := q) hbl); clear hbl)
      have O1 := Lib.hid (opened_172 N HN.out w2 base q c E m r o nc A B L ns S2.out (by omega) (by omega) hb)
      have hfew := SH.out.few
      go_wp2_with (first
        | (go_at_call 169; refine O1.out.mono ?_; rintro e w3 ⟨n3, x3, hx, hF, hy⟩; have X3 := Lib.hid hx; have F3 := Lib.hid (F2.out.trans hF); clear hx hF; rcases x3 with ⟨er, i⟩ | ⟨row3, r3, ns3⟩ <;> first | (have hz : e = .panicked [{ v := .iface 26 (.agg #[.int .i64 er, .int .i64 ((tokAt L E i).at_ : Int)]), recovered := false }] := hy; subst hz; clear hy) | (obtain ⟨rfl, hr3, hn3, hY, B3, nc3, hS⟩ := hy; have S3 := Lib.hid hS; have Y3 := Lib.hid hY; clear hS hY))
        | (go_at_call 163; refine (show Calls Tryz.prog 163 #[.pointer (some ⟨q, 0, none⟩), .agg #[.int .i64 4, .int .i64 0, .int .i64 (row3 : Int), .int .i64 0, .string ⟨#[]⟩, .string ⟨#[]⟩, .int .i64 0, .int .i64 0, .string ⟨#[]⟩]] w3 _ from row_any (nd1 4 row3) w3 base q c E r3 o ns3.length nc3 A B3 L _ ns3 S3.out.pt S3.out.nds (by have := S3.out.few; have := S3.out.pt.rd; have := S3.out.pt.many; omega)).mono ?_; rintro e w7 ⟨rfl, A2, c2, hP, hN2, hF, hY⟩; have S7 : Hid (St w7 base q A c L E m r3 o A2 c2 (ns3 ++ [nd1 4 row3])) := Lib.hid ⟨by rw [List.length_append]; exact hP, by rw [List.length_append]; exact hN2, (hF.block m S3.out.hm S3.out.hq).trans S3.out.mo, S3.out.hm, S3.out.hq, by rw [List.length_append]; simp; omega⟩; have F7 := Lib.hid (F3.out.trans hF); have Y7 := Lib.hid ((Y2.out.trans Y3.out).trans hY); clear hP hN2 hF hY))
      · exact ⟨rfl, n3 + 1, .error (er, i), by rw [ex_minus_yes hb h16, X3.out]; rfl, F3.out, rfl⟩
      · go_ret
        exact ⟨n3 + 1, .ok (ns3.length, r3, ns3 ++ [nd1 4 row3]), by rw [ex_minus_yes hb h16, X3.out]; rfl, F7.out, rfl, by omega, by rw [List.length_append]; simp; omega, Y7.out, A2, c2, S7.out⟩
end Go.Proofs.YtiipglmbfgmbbaaGreatDoor

namespace Go.Proofs.YtiipglmbfgmbbaaGreatDoor
open Go.RowKit Go.Shelf
attribute [local go_sem] Oper.semAt_some

theorem Tryz.i36 : (Tryz.prog.info? 36).map (·.size) = some 2 := by kernel_rfl
theorem Rd.err {w : World} {base q c E o : Nat} {A : Option Addr} {L : List Tk} {M V : Value} {er : Int} {i : Nat} {e : Ending} {w' : World} (h : Rd w base q A c L E M V o (.error (er, i)) e w') : e = .panicked [{ v := .iface 26 (.agg #[.int .i64 er, .int .i64 ((tokAt L E i).at_ : Int)]), recovered := false }] ∧ Fq w.heap.size q w w' := h
set_option maxRecDepth 100000 in
set_option maxHeartbeats 8000000 in
theorem ref_any (w : World) (base q c E r o : Nat) (A : Option Addr) (L : List Tk) (M V : Value) (h : Pt w base q A c L E M V r o) :
    Calls Tryz.prog 140 #[.pointer (some ⟨q, 0, none⟩)] w (Rd w base q A c L E M V o ((refF L E r).map fun p => (.agg #[tx p.1.1, tx p.1.2], p.2))) := by
  obtain ⟨g, hg⟩ : ∃ g, w.heap.size = g := ⟨_, rfl⟩
  have b0 : Hid (Blk (w.alloc (.cells #[.string ⟨#[]⟩, .string ⟨#[]⟩] 36)) g 36 #[.string ⟨#[]⟩, .string ⟨#[]⟩]) := Lib.hid (by rw [← hg]; exact Blk.new _ _ _)
  have h0 : Hid (Below g w (w.alloc (.cells #[.string ⟨#[]⟩, .string ⟨#[]⟩] 36))) := Lib.hid (by rw [← hg]; exact (Below.refl _ _).alloc (Nat.le_refl _) _)
  have P1 := h.on (h0.out.mono (by omega))
  have hle := h.le
  have hlt := h.lt
  have hz : (w.alloc (.cells #[.string ⟨#[]⟩, .string ⟨#[]⟩] 36)).heap.size = g + 1 := by simp [hg]
  have NM := name_any _ base q c E r o A L M V P1
  have NM2 := Lib.hid (fun W (hP : Pt W base q A c L E M V (r + 2) o) => name_any W base q c E (r + 2) o A L M V hP)
  have FD := Lib.hid (fun W (hP : Pt W base q A c L E M V (r + 1) o) => found_any [46] W base q c E (r + 1) o A L M V hP)
  unfold refF
  clear h P1
  unfold nameF at NM NM2 ⊢
  cases hk : ((tokAt L E r).kind == 2) with
  | false =>
    rw [hk] at NM
    have NH := Lib.hid NM
    clear NM
    go_enter Tryz.func140, Tryz.ntmps140
    go_upto_region 1 with fail
    generalize w.alloc (.cells #[.string ⟨#[]⟩, .string ⟨#[]⟩] 36) = w1 at *
    go_wp2_with (go_at_call 77; refine NH.out.mono ?_; rintro e w2 hR; obtain ⟨rfl, hF⟩ := Rd.err hR; have F2 := Lib.hid ((Fq.of (q := q) h0.out (Nat.le_refl g)).trans (hF.mono (by omega))); clear hR hF)
    exact ⟨rfl, rfl, by rw [hg]; exact F2.out⟩
  | true =>
    rw [hk] at NM
    have NH : Hid (Calls Tryz.prog 77 #[.pointer (some ⟨q, 0, none⟩)] (w.alloc (.cells #[.string ⟨#[]⟩, .string ⟨#[]⟩] 36)) fun e w' => e = .returned (tx (tokAt L E r).text) ∧ Pt w' base q A c L E M V (r + 1) o ∧ Fq (w.alloc (.cells #[.string ⟨#[]⟩, .string ⟨#[]⟩] 36)).heap.size q (w.alloc (.cells #[.string ⟨#[]⟩, .string ⟨#[]⟩] 36)) w') := Lib.hid NM
    clear NM
    obtain ⟨u, hu⟩ : ∃ u, (tokAt L E r).text = u := ⟨_, rfl⟩
    rw [hu] at NH ⊢
    rw [if_pos rfl]
    simp only
    cases hb : isB (tokAt L E (r + 1)) [46] with
    | false =>
      rw [hb] at FD
      go_enter Tryz.func140, Tryz.ntmps140
      go_upto_region 1 with fail
      generalize w.alloc (.cells #[.string ⟨#[]⟩, .string ⟨#[]⟩] 36) = w1 at *
      go_wp2_with (first
        | (go_at_call 77; refine NH.out.mono ?_; rintro e w2 ⟨rfl, hP, hF⟩; have P2 := Lib.hid hP; have B2 : Hid (Blk w2 g 36 #[.string ⟨#[]⟩, .string ⟨#[]⟩]) := Lib.hid ((Fy.ofq hF).keep g 36 _ b0.out (by omega) (by decide)); have F2 := Lib.hid ((Fq.of (q := q) h0.out (Nat.le_refl g)).trans (hF.mono (by omega))); clear hP hF)
        | (go_at_call 82; refine (FD.out _ P2.out).mono ?_; rintro e w3 ⟨rfl, hP, hF⟩; have P3 := Lib.hid hP; have B3 : Hid (Blk w3 g 36 #[.string ⟨#[]⟩, .string ⟨#[]⟩]) := Lib.hid ((Fy.ofq hF).keep g 36 _ B2.out (by omega) (by decide)); have F3 := Lib.hid (F2.out.trans (hF.mono (by have := B2.out.lt; omega))); clear hP hF)
        | ((with_reducible refine at_store (t := 36) ?_); refine wpList_store_blk _ rfl 36 _ _ rfl g _ 36 [tx [], tx u] rfl rfl B3.out rfl Tryz.i36 (by simp [Value.oneCell']) ?_; intro w8 hb8 ho8; have X8 := Lib.hid hb8; have P8 := Lib.hid (P3.out.keep (ho8.below (by omega))); have F8 := Lib.hid (F3.out.trans (Fq.of (q := q) (ho8.below (Nat.le_refl g)) (Nat.le_refl g))); clear hb8 ho8))
      exact bodyPost_ret (ret_cell1_tmp rfl _ _ g 36 _ _ rfl X8.out Tryz.underlying36 rfl Tryz.i36) rfl ⟨rfl, P8.out, by rw [hg]; exact F8.out⟩
    | true =>
      rw [hb] at FD
      rw [if_pos rfl]
      cases hk2 : ((tokAt L E (r + 2)).kind == 2) with
      | false =>
        rw [hk2] at NM2
        go_enter Tryz.func140, Tryz.ntmps140
        go_upto_region 1 with fail
        generalize w.alloc (.cells #[.string ⟨#[]⟩, .string ⟨#[]⟩] 36) = w1 at *
        go_wp2_with (first
          | (go_at_call 77; refine NH.out.mono ?_; rintro e w2 ⟨rfl, hP, hF⟩; have P2 := Lib.hid hP; have B2 : Hid (Blk w2 g 36 #[.string ⟨#[]⟩, .string ⟨#[]⟩]) := Lib.hid ((Fy.ofq hF).keep g 36 _ b0.out (by omega) (by decide)); have F2 := Lib.hid ((Fq.of (q := q) h0.out (Nat.le_refl g)).trans (hF.mono (by omega))); clear hP hF NH)
          | (go_at_call 82; refine (FD.out _ P2.out).mono ?_; rintro e w3 ⟨rfl, hP, hF⟩; have P3 := Lib.hid hP; have B3 : Hid (Blk w3 g 36 #[.string ⟨#[]⟩, .string ⟨#[]⟩]) := Lib.hid ((Fy.ofq hF).keep g 36 _ B2.out (by omega) (by decide)); have F3 := Lib.hid (F2.out.trans (hF.mono (by have := B2.out.lt; omega))); clear hP hF)
          | (go_at_call 77; refine (NM2.out _ P3.out).mono ?_; rintro e w4 hR; obtain ⟨rfl, hF⟩ := Rd.err hR; have F4 := Lib.hid (F3.out.trans (hF.mono (by have := B3.out.lt; omega))); clear hR hF))
        exact ⟨rfl, rfl, by rw [hg]; exact F4.out⟩
      | true =>
        rw [hk2] at NM2
        obtain ⟨v, hv⟩ : ∃ v, (tokAt L E (r + 2)).text = v := ⟨_, rfl⟩
        rw [hv] at NM2 ⊢
        have NM3 : Hid (∀ W, Pt W base q A c L E M V (r + 2) o → Calls Tryz.prog 77 #[.pointer (some ⟨q, 0, none⟩)] W fun e w' => e = .returned (tx v) ∧ Pt w' base q A c L E M V (r + 3) o ∧ Fq W.heap.size q W w') := Lib.hid (fun W hP => NM2.out W hP)
        clear NM2
        go_enter Tryz.func140, Tryz.ntmps140
        go_upto_region 1 with fail
        generalize w.alloc (.cells #[.string ⟨#[]⟩, .string ⟨#[]⟩] 36) = w1 at *
        go_wp2_with (first
          | (go_at_call 77; refine NH.out.mono ?_; rintro e w2 ⟨rfl, hP, hF⟩; have P2 := Lib.hid hP; have B2 : Hid (Blk w2 g 36 #[.string ⟨#[]⟩, .string ⟨#[]⟩]) := Lib.hid ((Fy.ofq hF).keep g 36 _ b0.out (by omega) (by decide)); have F2 := Lib.hid ((Fq.of (q := q) h0.out (Nat.le_refl g)).trans (hF.mono (by omega))); clear hP hF NH)
          | (go_at_call 82; refine (FD.out _ P2.out).mono ?_; rintro e w3 ⟨rfl, hP, hF⟩; have P3 := Lib.hid hP; have B3 : Hid (Blk w3 g 36 #[.string ⟨#[]⟩, .string ⟨#[]⟩]) := Lib.hid ((Fy.ofq hF).keep g 36 _ B2.out (by omega) (by decide)); have F3 := Lib.hid (F2.out.trans (hF.mono (by have := B2.out.lt; omega))); clear hP hF)
          | (go_at_call 77; refine (NM3.out _ P3.out).mono ?_; rintro e w4 ⟨rfl, hP, hF⟩; have P4 := Lib.hid hP; have B4 : Hid (Blk w4 g 36 #[.string ⟨#[]⟩, .string ⟨#[]⟩]) := Lib.hid ((Fy.ofq hF).keep g 36 _ B3.out (by omega) (by decide)); have F4 := Lib.hid (F3.out.trans (hF.mono (by have := B3.out.lt; omega))); clear hP hF)
          | ((with_reducible refine at_store (t := 36) ?_); refine wpList_store_blk _ rfl 36 _ _ rfl g _ 36 [tx u, tx v] rfl rfl B4.out rfl Tryz.i36 (by simp [Value.oneCell']) ?_; intro w8 hb8 ho8; have X8 := Lib.hid hb8; have P8 := Lib.hid (P4.out.keep (ho8.below (by omega))); have F8 := Lib.hid (F4.out.trans (Fq.of (q := q) (ho8.below (Nat.le_refl g)) (Nat.le_refl g))); clear hb8 ho8))
        exact bodyPost_ret (ret_cell1_tmp rfl _ _ g 36 _ _ rfl X8.out Tryz.underlying36 rfl Tryz.i36) rfl ⟨rfl, P8.out, by rw [hg]; exact F8.out⟩
end Go.Proofs.YtiipglmbfgmbbaaGreatDoor

namespace Go.Proofs.YtiipglmbfgmbbaaGreatDoor
open Go.RowKit Go.Shelf
attribute [local go_sem] Oper.semAt_some

theorem Tryz.i107 : (Tryz.prog.info? 107).map (·.size) = some 3 := by kernel_rfl
set_option maxRecDepth 100000 in
set_option maxHeartbeats 4000000 in
theorem vtext_any (u : List UInt8) (w : World) : Calls Tryz.prog 175 #[tx u] w fun e w' => e = .returned (.agg #[.int .i64 4, .int .i64 0, tx u]) ∧ Below w.heap.size w w' := by
  obtain ⟨g, hg⟩ : ∃ g, w.heap.size = g := ⟨_, rfl⟩
  go_enter Tryz.func175, Tryz.ntmps175
  go_wp2
  refine bodyPost_ret (ret_cell1_tmp rfl _ _ g 107 #[.int .i64 4, .int .i64 0, tx u] _ rfl (by rw [← hg]; exact Blk.new _ _ _) Tryz.underlying107 rfl Tryz.i107) rfl ⟨rfl, ?_⟩
  rw [hg]
  exact (Below.refl _ _).alloc (by omega) _
set_option maxRecDepth 100000 in
set_option maxHeartbeats 4000000 in
theorem vnull_any (w : World) : Calls Tryz.prog 177 #[] w fun e w' => e = .returned (.agg #[.int .i64 1, .int .i64 0, .string ⟨#[]⟩]) ∧ Below w.heap.size w w' := by
  obtain ⟨g, hg⟩ : ∃ g, w.heap.size = g := ⟨_, rfl⟩
  go_enter Tryz.func177, Tryz.ntmps177
  go_wp2
  refine bodyPost_ret (ret_cell1_tmp rfl _ _ g 107 #[.int .i64 1, .int .i64 0, .string ⟨#[]⟩] _ rfl (by rw [← hg]; exact Blk.new _ _ _) Tryz.underlying107 rfl Tryz.i107) rfl ⟨rfl, ?_⟩
  rw [hg]
  exact (Below.refl _ _).alloc (by omega) _
set_option maxRecDepth 100000 in
set_option maxHeartbeats 4000000 in
theorem vint_any (n : Int) (w : World) : Calls Tryz.prog 178 #[.int .i64 n] w fun e w' => e = .returned (.agg #[.int .i64 3, .int .i64 n, .string ⟨#[]⟩]) ∧ Below w.heap.size w w' := by
  obtain ⟨g, hg⟩ : ∃ g, w.heap.size = g := ⟨_, rfl⟩
  go_enter Tryz.func178, Tryz.ntmps178
  go_wp2
  refine bodyPost_ret (ret_cell1_tmp rfl _ _ g 107 #[.int .i64 3, .int .i64 n, .string ⟨#[]⟩] _ rfl (by rw [← hg]; exact Blk.new _ _ _) Tryz.underlying107 rfl Tryz.i107) rfl ⟨rfl, ?_⟩
  rw [hg]
  exact (Below.refl _ _).alloc (by omega) _
set_option maxRecDepth 100000 in
set_option maxHeartbeats 4000000 in
theorem vbool_false (w : World) : Calls Tryz.prog 176 #[.bool false] w fun e w' => e = .returned (.agg #[.int .i64 2, .int .i64 0, .string ⟨#[]⟩]) ∧ Below w.heap.size w w' := by
  obtain ⟨g, hg⟩ : ∃ g, w.heap.size = g := ⟨_, rfl⟩
  go_enter Tryz.func176, Tryz.ntmps176
  go_wp2
  refine bodyPost_ret (ret_cell1_tmp rfl _ _ g 107 #[.int .i64 2, .int .i64 0, .string ⟨#[]⟩] _ rfl (by rw [← hg]; exact (Blk.new _ _ _).alloc _) Tryz.underlying107 rfl Tryz.i107) rfl ⟨rfl, ?_⟩
  rw [hg]
  exact ((Below.refl _ _).alloc (by omega) _).alloc (by simp; omega) _
set_option maxRecDepth 100000 in
set_option maxHeartbeats 4000000 in
theorem vbool_true (w : World) : Calls Tryz.prog 176 #[.bool true] w fun e w' => e = .returned (.agg #[.int .i64 2, .int .i64 1, .string ⟨#[]⟩]) ∧ Below w.heap.size w w' := by
  obtain ⟨g, hg⟩ : ∃ g, w.heap.size = g := ⟨_, rfl⟩
  go_enter Tryz.func176, Tryz.ntmps176
  go_wp2
  refine bodyPost_ret (ret_cell1_tmp rfl _ _ g 107 #[.int .i64 2, .int .i64 1, .string ⟨#[]⟩] _ rfl (by rw [← hg]; exact (Blk.new _ _ _).alloc _) Tryz.underlying107 rfl Tryz.i107) rfl ⟨rfl, ?_⟩
  rw [hg]
  exact ((Below.refl _ _).alloc (by omega) _).alloc (by simp; omega) _
end Go.Proofs.YtiipglmbfgmbbaaGreatDoor
