/-
  An item.
-/
import Derived.Test.YtiipglmbfgmbbaaGreatDoorPkM
namespace Go.Proofs.YtiipglmbfgmbbaaGreatDoor
open Go.RowKit Go.Shelf
attribute [local go_sem] Oper.semAt_some

abbrev Is' := Option (Except (Int × Nat) ((Int × List Nd) × Nat))
/-- An item: its kind, its rows, and where it ends. -/
def itF (L : List Tk) (E n r o : Nat) : Is' :=
  if isB (tokAt L E r) [67, 79, 85, 78, 84] = true then
    match wordsF L E (r + 1) [[40], [42], [41]] with
    | .error x => some (.error x)
    | .ok r2 => some (.ok ((2, []), r2))
  else if isB (tokAt L E r) [83, 85, 77] = true then
    match wordsF L E (r + 1) [[40]] with
    | .error x => some (.error x)
    | .ok r2 => match exN L E n r2 o with
      | none => none
      | some (.error x) => some (.error x)
      | some (.ok (ns, r3)) => match wordsF L E r3 [[41]] with
        | .error x => some (.error x)
        | .ok r4 => some (.ok ((3, ns), r4))
  else match exN L E n r o with
    | none => none
    | some (.error x) => some (.error x)
    | some (.ok (ns, r')) => some (.ok ((1, ns), r'))
/-- What a call that reads an item answers. -/
def Ir (X : Nat → Is') (w : World) (base q : Nat) (A : Option Addr) (c : Nat) (L : List Tk) (E m r o : Nat) (e : Ending) (w' : World) : Prop :=
  ∃ n x, X n = some x ∧ Fq w.heap.size q w w' ∧ match x with
    | .ok ((k, ns), r') => ∃ B' nc' B n nc, e = .returned (.agg #[.int .i64 k, .slice B' ns.length nc']) ∧ r ≤ r' ∧ Nds w' w.heap.size B' ns.length nc' ns ∧ Sx w' base q A c L E m r' o B n nc
    | .error (er, i) => e = pnc er (tokAt L E i).at_
theorem Tryz.i53 : (Tryz.prog.info? 53).map (·.size) = some 2 := by kernel_rfl
set_option maxRecDepth 100000 in
set_option maxHeartbeats 8000000 in
theorem item_plain (w : World) (base q : Nat) (A : Option Addr) (c : Nat) (L : List Tk) (E m r o : Nat) (B : Option Addr) (n nc : Nat) (h : Sx w base q A c L E m r o B n nc) (ho : o ≤ 16) (hc : isB (tokAt L E r) [67, 79, 85, 78, 84] = false) (hs : isB (tokAt L E r) [83, 85, 77] = false) :
    Calls Tryz.prog 119 #[.pointer (some ⟨q, 0, none⟩)] w (Ir (fun n => itF L E n r o) w base q A c L E m r o) := by
  obtain ⟨g, hg⟩ : ∃ g, w.heap.size = g := ⟨_, rfl⟩
  have b0 : Hid (Blk (w.alloc (.cells #[.int .i64 0, .slice none 0 0] 53)) g 53 #[.int .i64 0, .slice none 0 0]) := Lib.hid (by rw [← hg]; exact Blk.new _ _ _)
  have h0 : Hid (Below g w (w.alloc (.cells #[.int .i64 0, .slice none 0 0] 53))) := Lib.hid (by rw [← hg]; exact (Below.refl _ _).alloc (Nat.le_refl _) _)
  have hle := h.pt.le
  have hlt := h.pt.lt
  have hm := h.hm
  have hq := h.hq
  have P1 := Lib.hid (h.pt.on (h0.out.mono (by omega)))
  have M1 : Hid (Mo (w.alloc (.cells #[.int .i64 0, .slice none 0 0] 53)) m) := Lib.hid (((Fq.of (q := q) h0.out (Nat.le_refl g)).block m (by omega) hq).trans h.mo)
  have hz : (w.alloc (.cells #[.int .i64 0, .slice none 0 0] 53)).heap.size = g + 1 := by simp [hg]
  have F1 := Lib.hid (Fq.of (q := q) h0.out (Nat.le_refl g))
  have FC := found_any [67, 79, 85, 78, 84] _ base q c E r o A L _ _ P1.out
  rw [hc] at FC
  have FCH := Lib.hid FC
  clear h FC
  unfold Ir
  rw [hg]
  have FS := Lib.hid (fun W (hP : Pt W base q A c L E (.map (some m)) (.slice B n nc) r o) => found_any [83, 85, 77] W base q c E r o A L _ _ hP)
  rw [hs] at FS
  have EB : Hid (∀ k, itF L E k r o = match exN L E k r o with
    | none => none
    | some (.error x) => some (.error x)
    | some (.ok (ns, r')) => some (.ok ((1, ns), r'))) := Lib.hid (fun k => by unfold itF; rw [if_neg (by rw [hc]; decide), if_neg (by rw [hs]; decide)])
  go_enter Tryz.func119, Tryz.ntmps119
  go_upto_region 1 with fail
  generalize w.alloc (.cells #[.int .i64 0, .slice none 0 0] 53) = w1 at *
  go_wp2_with (first
    | (go_at_call 82; refine FCH.out.mono ?_; rintro e w2 ⟨rfl, hP, hF⟩; have P2 : Hid (Pt w2 base q A c L E (.map (some m)) (.slice B n nc) r o) := Lib.hid hP; have B2 : Hid (Blk w2 g 53 #[.int .i64 0, .slice none 0 0]) := Lib.hid ((Fy.ofq hF).keep g 53 _ b0.out (by omega) (by decide)); have F2 := Lib.hid (F1.out.trans (hF.mono (by omega))); have M2 : Hid (Mo w2 m) := Lib.hid ((hF.block m (by omega) hq).trans M1.out); have hl2 := B2.out.lt; clear hP hF FCH)
    | (go_at_call 82; refine (FS.out _ P2.out).mono ?_; rintro e w3 ⟨rfl, hP, hF⟩; have P3 : Hid (Pt w3 base q A c L E (.map (some m)) (.slice B n nc) r o) := Lib.hid hP; have B3 : Hid (Blk w3 g 53 #[.int .i64 0, .slice none 0 0]) := Lib.hid ((Fy.ofq hF).keep g 53 _ B2.out (by omega) (by decide)); have F3 := Lib.hid (F2.out.trans (hF.mono (by omega))); have M3 : Hid (Mo w3 m) := Lib.hid ((hF.block m (by omega) hq).trans M2.out); have hl3 := B3.out.lt; clear hP hF)
    | (go_at_call 116; refine (expr_any w3 base q A c L E m r o B n nc ⟨P3.out, M3.out, hm, hq⟩ ho).mono ?_; intro e w4 hx; obtain ⟨n3, x3, hx, hF, hy⟩ := hx.rows; have X3 : Hid (exN L E n3 r o = x3) := Lib.hid hx; have F4 := Lib.hid (F3.out.trans (hF.mono (Nat.le_of_lt hl3))); have B4x : Hid (Blk w4 g 53 #[.int .i64 0, .slice none 0 0]) := Lib.hid ((hF.block g hl3 (by omega)).trans B3.out); clear hx hF; rcases x3 with ⟨er, i⟩ | ⟨ns3, r3⟩ <;> first | (have hz : e = .panicked [{ v := .iface 26 (.agg #[.int .i64 er, .int .i64 ((tokAt L E i).at_ : Int)]), recovered := false }] := hy; subst hz; exact ⟨rfl, n3, .error (er, i), by show itF L E n3 r o = _; rw [EB.out n3, X3.out], F4.out, rfl⟩) | (obtain ⟨B', nc', B4, n4, nc4, rfl, hr3, hN, hS⟩ := hy; have N4 := Lib.hid hN; have S4 := Lib.hid hS; clear hN hS))
    | ((with_reducible refine at_store (t := 53) ?_); refine wpList_store_blk _ rfl 53 _ _ rfl g _ 53 [.int .i64 1, .slice B' ns3.length nc'] rfl rfl B4x.out rfl Tryz.i53 (by simp [Value.oneCell']) ?_; intro w8 hb8 ho8; have X8 := Lib.hid hb8; have P8 := Lib.hid (S4.out.pt.keep (ho8.below (by omega))); have N8 := Lib.hid (N4.out.past ho8 hl3 (Nat.le_of_lt hl3)); have M8 : Hid (Mo w8 m) := Lib.hid ((ho8.block m (by omega)).trans S4.out.mo); have F8 := Lib.hid (F4.out.trans (Fq.of (q := q) (ho8.below (Nat.le_refl g)) (Nat.le_refl g))); clear hb8 ho8))
  exact bodyPost_ret (ret_cell1_tmp rfl _ _ g 53 _ _ rfl X8.out Tryz.underlying53 rfl Tryz.i53) rfl ⟨n3, .ok ((1, ns3), r3), by show itF L E n3 r o = _; rw [EB.out n3, X3.out], F8.out, B', nc', B4, n4, nc4, rfl, hr3, N8.out, P8.out, M8.out, hm, hq⟩
theorem wordsF_ge (L : List Tk) (E : Nat) : ∀ (r : Nat) (us : List (List UInt8)) (r' : Nat), wordsF L E r us = .ok r' → r ≤ r'
  | r, [], r', h => by
    unfold wordsF at h
    injection h with h
    omega
  | r, u :: us, r', h => by
    unfold wordsF at h
    split at h
    · have := wordsF_ge L E (r + 1) us r' h
      omega
    · cases h
set_option maxRecDepth 100000 in
set_option maxHeartbeats 8000000 in
theorem item_count (w : World) (base q : Nat) (A : Option Addr) (c : Nat) (L : List Tk) (E m r o : Nat) (B : Option Addr) (n nc : Nat) (h : Sx w base q A c L E m r o B n nc) (hc : isB (tokAt L E r) [67, 79, 85, 78, 84] = true) :
    Calls Tryz.prog 119 #[.pointer (some ⟨q, 0, none⟩)] w (Ir (fun n => itF L E n r o) w base q A c L E m r o) := by
  obtain ⟨g, hg⟩ : ∃ g, w.heap.size = g := ⟨_, rfl⟩
  have b0 : Hid (Blk (w.alloc (.cells #[.int .i64 0, .slice none 0 0] 53)) g 53 #[.int .i64 0, .slice none 0 0]) := Lib.hid (by rw [← hg]; exact Blk.new _ _ _)
  have h0 : Hid (Below g w (w.alloc (.cells #[.int .i64 0, .slice none 0 0] 53))) := Lib.hid (by rw [← hg]; exact (Below.refl _ _).alloc (Nat.le_refl _) _)
  have hle := h.pt.le
  have hlt := h.pt.lt
  have hm := h.hm
  have hq := h.hq
  have P1 := Lib.hid (h.pt.on (h0.out.mono (by omega)))
  have M1 : Hid (Mo (w.alloc (.cells #[.int .i64 0, .slice none 0 0] 53)) m) := Lib.hid (((Fq.of (q := q) h0.out (Nat.le_refl g)).block m (by omega) hq).trans h.mo)
  have hz : (w.alloc (.cells #[.int .i64 0, .slice none 0 0] 53)).heap.size = g + 1 := by simp [hg]
  have F1 := Lib.hid (Fq.of (q := q) h0.out (Nat.le_refl g))
  have FC := found_any [67, 79, 85, 78, 84] _ base q c E r o A L _ _ P1.out
  rw [hc] at FC
  have FCH := Lib.hid FC
  clear h FC
  unfold Ir
  rw [hg]
  have EB : Hid (∀ k, itF L E k r o = match wordsF L E (r + 1) [[40], [42], [41]] with
    | .error x => some (.error x)
    | .ok r2 => some (.ok ((2, []), r2))) := Lib.hid (fun k => by unfold itF; rw [if_pos hc])
  go_enter Tryz.func119, Tryz.ntmps119
  go_upto_region 1 with fail
  generalize w.alloc (.cells #[.int .i64 0, .slice none 0 0] 53) = w1 at *
  go_upto_region 2 with (go_at_call 82; refine FCH.out.mono ?_; rintro e w2 ⟨rfl, hP, hF⟩; have P2 : Hid (Pt w2 base q A c L E (.map (some m)) (.slice B n nc) (r + 1) o) := Lib.hid hP; have B2 : Hid (Blk w2 g 53 #[.int .i64 0, .slice none 0 0]) := Lib.hid ((Fy.ofq hF).keep g 53 _ b0.out (by omega) (by decide)); have F2 := Lib.hid (F1.out.trans (hF.mono (by omega))); have M2 : Hid (Mo w2 m) := Lib.hid ((hF.block m (by omega) hq).trans M1.out); have hl2 := B2.out.lt; clear hP hF)
  have AL : Below w2.heap.size w2 (w2.alloc (.cells #[.string ⟨#[40]⟩, .string ⟨#[42]⟩, .string ⟨#[41]⟩] 9)) := (Below.refl _ _).alloc (Nat.le_refl _) _
  have hq2 : q < w2.heap.size := P2.out.blk.lt
  have P3 := Lib.hid (P2.out.on AL)
  have B3 : Hid (Blk (w2.alloc (.cells #[.string ⟨#[40]⟩, .string ⟨#[42]⟩, .string ⟨#[41]⟩] 9)) g 53 #[.int .i64 0, .slice none 0 0]) := Lib.hid (B2.out.below AL hl2)
  have F3 := Lib.hid (F2.out.trans (Fq.of (q := q) AL (Nat.le_of_lt hl2)))
  have M3 : Hid (Mo (w2.alloc (.cells #[.string ⟨#[40]⟩, .string ⟨#[42]⟩, .string ⟨#[41]⟩] 9)) m) := Lib.hid (((Fq.of (q := q) AL (Nat.le_refl _)).block m (by omega) hq).trans M2.out)
  have hz3 : (w2.alloc (.cells #[.string ⟨#[40]⟩, .string ⟨#[42]⟩, .string ⟨#[41]⟩] 9)).heap.size = w2.heap.size + 1 := by simp
  have WD := words_any [[40], [42], [41]] 3 w2.heap.size (w2.alloc (.cells #[.string ⟨#[40]⟩, .string ⟨#[42]⟩, .string ⟨#[41]⟩] 9)) base q c E (r + 1) o A L _ _ P3.out rfl (by omega) ⟨by simp, fun i hi => by
    have hi' : i < 3 := hi
    obtain rfl | rfl | rfl : i = 0 ∨ i = 1 ∨ i = 2 := by omega
    · exact (Blk.new w2 9 #[.string ⟨#[40]⟩, .string ⟨#[42]⟩, .string ⟨#[41]⟩]).cell 0
    · exact (Blk.new w2 9 #[.string ⟨#[40]⟩, .string ⟨#[42]⟩, .string ⟨#[41]⟩]).cell 1
    · exact (Blk.new w2 9 #[.string ⟨#[40]⟩, .string ⟨#[42]⟩, .string ⟨#[41]⟩]).cell 2⟩ (by omega)
  have GE := wordsF_ge L E (r + 1) [[40], [42], [41]]
  obtain ⟨Y, hY⟩ : ∃ Y, wordsF L E (r + 1) [[40], [42], [41]] = Y := ⟨_, rfl⟩
  rw [hY] at WD GE
  have HY := Lib.hid hY
  clear AL hY
  rcases Y with ⟨er, i⟩ | r2
  · have WH : Hid (Calls Tryz.prog 49 #[.pointer (some ⟨q, 0, none⟩), .slice (some ⟨w2.heap.size, 0, none⟩) 3 3] (w2.alloc (.cells #[.string ⟨#[40]⟩, .string ⟨#[42]⟩, .string ⟨#[41]⟩] 9)) (Rd (w2.alloc (.cells #[.string ⟨#[40]⟩, .string ⟨#[42]⟩, .string ⟨#[41]⟩] 9)) base q A c L E (.map (some m)) (.slice B n nc) o (.error (er, i)))) := Lib.hid WD
    clear WD
    go_wp2_with (go_at_call 49; refine WH.out.mono ?_; rintro e w4 hR; obtain ⟨rfl, hF⟩ := Rd.err hR; have F4 := Lib.hid (F3.out.trans (hF.mono (by omega))); clear hR hF)
    exact ⟨rfl, 0, .error (er, i), by show itF L E 0 r o = _; rw [EB.out 0, HY.out], F4.out, rfl⟩
  · have WH : Hid (Calls Tryz.prog 49 #[.pointer (some ⟨q, 0, none⟩), .slice (some ⟨w2.heap.size, 0, none⟩) 3 3] (w2.alloc (.cells #[.string ⟨#[40]⟩, .string ⟨#[42]⟩, .string ⟨#[41]⟩] 9)) fun e w' => e = .returned (.tuple #[]) ∧ Pt w' base q A c L E (.map (some m)) (.slice B n nc) r2 o ∧ Fq (w2.alloc (.cells #[.string ⟨#[40]⟩, .string ⟨#[42]⟩, .string ⟨#[41]⟩] 9)).heap.size q (w2.alloc (.cells #[.string ⟨#[40]⟩, .string ⟨#[42]⟩, .string ⟨#[41]⟩] 9)) w') := Lib.hid WD
    have hge := GE r2 rfl
    clear WD
    go_wp2_with (first
      | (go_at_call 49; refine WH.out.mono ?_; rintro e w4 ⟨rfl, hP, hF⟩; have P4 := Lib.hid hP; have F4 := Lib.hid (F3.out.trans (hF.mono (by omega))); have B4 : Hid (Blk w4 g 53 #[.int .i64 0, .slice none 0 0]) := Lib.hid ((Fy.ofq hF).keep g 53 _ B3.out (by omega) (by decide)); have M4 : Hid (Mo w4 m) := Lib.hid ((hF.block m (by omega) hq).trans M3.out); clear hP hF)
      | ((with_reducible refine at_store (t := 53) ?_); refine wpList_store_blk _ rfl 53 _ _ rfl g _ 53 [.int .i64 2, .slice none 0 0] rfl rfl B4.out rfl Tryz.i53 (by simp [Value.oneCell']) ?_; intro w8 hb8 ho8; have X8 := Lib.hid hb8; have P8 := Lib.hid (P4.out.keep (ho8.below (by omega))); have M8 : Hid (Mo w8 m) := Lib.hid ((ho8.block m (by omega)).trans M4.out); have F8 := Lib.hid (F4.out.trans (Fq.of (q := q) (ho8.below (Nat.le_refl g)) (Nat.le_refl g))); clear hb8 ho8))
    exact bodyPost_ret (ret_cell1_tmp rfl _ _ g 53 _ _ rfl X8.out Tryz.underlying53 rfl Tryz.i53) rfl ⟨0, .ok ((2, []), r2), by show itF L E 0 r o = _; rw [EB.out 0, HY.out], F8.out, none, 0, B, n, nc, rfl, by omega, ⟨rfl, .inl ⟨rfl, rfl⟩⟩, P8.out, M8.out, hm, hq⟩
end Go.Proofs.YtiipglmbfgmbbaaGreatDoor
