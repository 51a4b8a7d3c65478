/-
  An item with SUM.
-/
import Derived.Test.YtiipglmbfgmbbaaGreatDoorP24
namespace Go.Proofs.YtiipglmbfgmbbaaGreatDoor
open Go.RowKit Go.Shelf
attribute [local go_sem] Oper.semAt_some

theorem Nds.other {w w' : World} {base n nc g : Nat} {B : Option Addr} {ns : List Nd} {t : TypeId} {cs : Array Value} (h : Nds w base B n nc ns) (ho : Only g w w') (hb : Blk w g t cs) (ht : t ≠ 109) : Nds w' base B n nc ns := by
  refine ⟨h.1, ?_⟩
  rcases h.2 with hv | ⟨k, cap, cur, hv, hbs, hh, r⟩
  · exact .inl hv
  · exact .inr ⟨k, cap, cur, hv, hbs, (ho.block k (fun e => by
      subst e
      unfold Blk at hb
      rw [hh] at hb
      injection hb with hb
      injection hb with _ h2 _
      exact ht h2.symm)).trans hh, r⟩
theorem Nds.low {w : World} {base base' n nc : Nat} {B : Option Addr} {ns : List Nd} (h : Nds w base B n nc ns) (hb : base' ≤ base) : Nds w base' B n nc ns := by
  refine ⟨h.1, ?_⟩
  rcases h.2 with hv | ⟨k, cap, cur, hv, hbs, hh, r⟩
  · exact .inl hv
  · exact .inr ⟨k, cap, cur, hv, Nat.le_trans hb hbs, hh, r⟩
set_option maxRecDepth 100000 in
set_option maxHeartbeats 8000000 in
theorem item_sum (w : World) (base q : Nat) (A : Option Addr) (c : Nat) (L : List Tk) (E m r o : Nat) (B : Option Addr) (n nc : Nat) (h : Sx w base q A c L E m r o B n nc) (ho : o ≤ 16) (hc : isB (tokAt L E r) [67, 79, 85, 78, 84] = false) (hs : isB (tokAt L E r) [83, 85, 77] = true) :
    Calls Tryz.prog 119 #[.pointer (some ⟨q, 0, none⟩)] w (Ir (fun n => itF L E n r o) w base q A c L E m r o) := by
  obtain ⟨g, hg⟩ : ∃ g, w.heap.size = g := ⟨_, rfl⟩
  have b0 : Hid (Blk (w.alloc (.cells #[.int .i64 0, .slice none 0 0] 53)) g 53 #[.int .i64 0, .slice none 0 0]) := Lib.hid (by rw [← hg]; exact Blk.new _ _ _)
  have h0 : Hid (Below g w (w.alloc (.cells #[.int .i64 0, .slice none 0 0] 53))) := Lib.hid (by rw [← hg]; exact (Below.refl _ _).alloc (Nat.le_refl _) _)
  have hle := h.pt.le
  have hlt := h.pt.lt
  have hm := h.hm
  have hq := h.hq
  have P1 := Lib.hid (h.pt.on (h0.out.mono (by omega)))
  have M1 : Hid (Mo (w.alloc (.cells #[.int .i64 0, .slice none 0 0] 53)) m) := Lib.hid (((Fq.of (q := q) h0.out (Nat.le_refl g)).block m (by omega) hq).trans h.mo)
  have hz : (w.alloc (.cells #[.int .i64 0, .slice none 0 0] 53)).heap.size = g + 1 := by simp [hg]
  have F1 := Lib.hid (Fq.of (q := q) h0.out (Nat.le_refl g))
  have FC := found_any [67, 79, 85, 78, 84] _ base q c E r o A L _ _ P1.out
  rw [hc] at FC
  have FCH := Lib.hid FC
  clear h FC
  unfold Ir
  rw [hg]
  have FS := Lib.hid (fun W (hP : Pt W base q A c L E (.map (some m)) (.slice B n nc) r o) => found_any [83, 85, 77] W base q c E r o A L _ _ hP)
  rw [hs] at FS
  have EB : Hid (∀ k, itF L E k r o = match wordsF L E (r + 1) [[40]] with
    | .error x => some (.error x)
    | .ok r2 => match exN L E k r2 o with
      | none => none
      | some (.error x) => some (.error x)
      | some (.ok (ns, r3)) => match wordsF L E r3 [[41]] with
        | .error x => some (.error x)
        | .ok r4 => some (.ok ((3, ns), r4))) := Lib.hid (fun k => by unfold itF; rw [if_neg (by rw [hc]; decide), if_pos hs]; rfl)
  go_enter Tryz.func119, Tryz.ntmps119
  go_upto_region 1 with fail
  generalize w.alloc (.cells #[.int .i64 0, .slice none 0 0] 53) = w1 at *
  go_upto_region 5 with (first
    | (go_at_call 82; refine FCH.out.mono ?_; rintro e w2 ⟨rfl, hP, hF⟩; have P2 : Hid (Pt w2 base q A c L E (.map (some m)) (.slice B n nc) r o) := Lib.hid hP; have B2 : Hid (Blk w2 g 53 #[.int .i64 0, .slice none 0 0]) := Lib.hid ((Fy.ofq hF).keep g 53 _ b0.out (by omega) (by decide)); have F2 := Lib.hid (F1.out.trans (hF.mono (by omega))); have M2 : Hid (Mo w2 m) := Lib.hid ((hF.block m (by omega) hq).trans M1.out); have hl2 := B2.out.lt; clear hP hF FCH)
    | (go_at_call 82; refine (FS.out _ P2.out).mono ?_; rintro e w3 ⟨rfl, hP, hF⟩; have P3 : Hid (Pt w3 base q A c L E (.map (some m)) (.slice B n nc) (r + 1) o) := Lib.hid hP; have B3 : Hid (Blk w3 g 53 #[.int .i64 0, .slice none 0 0]) := Lib.hid ((Fy.ofq hF).keep g 53 _ B2.out (by omega) (by decide)); have F3 := Lib.hid (F2.out.trans (hF.mono (by omega))); have M3 : Hid (Mo w3 m) := Lib.hid ((hF.block m (by omega) hq).trans M2.out); have hl3 := B3.out.lt; clear hP hF))
  have AL : Below w3.heap.size w3 (w3.alloc (.cells #[.string ⟨#[40]⟩] 9)) := (Below.refl _ _).alloc (Nat.le_refl _) _
  have hq3 : q < w3.heap.size := P3.out.blk.lt
  have P4 := Lib.hid (P3.out.on AL)
  have B4 : Hid (Blk (w3.alloc (.cells #[.string ⟨#[40]⟩] 9)) g 53 #[.int .i64 0, .slice none 0 0]) := Lib.hid (B3.out.below AL hl3)
  have F4 := Lib.hid (F3.out.trans (Fq.of (q := q) AL (Nat.le_of_lt hl3)))
  have M4 : Hid (Mo (w3.alloc (.cells #[.string ⟨#[40]⟩] 9)) m) := Lib.hid (((Fq.of (q := q) AL (Nat.le_refl _)).block m (by omega) hq).trans M3.out)
  have hz4 : (w3.alloc (.cells #[.string ⟨#[40]⟩] 9)).heap.size = w3.heap.size + 1 := by simp
  have WD := words_any [[40]] 1 w3.heap.size (w3.alloc (.cells #[.string ⟨#[40]⟩] 9)) base q c E (r + 1) o A L _ _ P4.out rfl (by omega) ⟨by simp, fun i hi => by
    obtain rfl : i = 0 := by simp at hi; omega
    exact (Blk.new w3 9 #[.string ⟨#[40]⟩]).cell 0⟩ (by omega)
  have GE := wordsF_ge L E (r + 1) [[40]]
  obtain ⟨Y, hY⟩ : ∃ Y, wordsF L E (r + 1) [[40]] = Y := ⟨_, rfl⟩
  rw [hY] at WD GE
  have HY := Lib.hid hY
  clear AL hY
  rcases Y with ⟨er, i⟩ | r2
  · have WH : Hid (Calls Tryz.prog 49 #[.pointer (some ⟨q, 0, none⟩), .slice (some ⟨w3.heap.size, 0, none⟩) 1 1] (w3.alloc (.cells #[.string ⟨#[40]⟩] 9)) (Rd (w3.alloc (.cells #[.string ⟨#[40]⟩] 9)) base q A c L E (.map (some m)) (.slice B n nc) o (.error (er, i)))) := Lib.hid WD
    clear WD
    go_wp2_with (go_at_call 49; refine WH.out.mono ?_; rintro e w5 hR; obtain ⟨rfl, hF⟩ := Rd.err hR; have F5 := Lib.hid (F4.out.trans (hF.mono (by omega))); clear hR hF)
    exact ⟨rfl, 0, .error (er, i), by show itF L E 0 r o = _; rw [EB.out 0, HY.out], F5.out, rfl⟩
  have WH : Hid (Calls Tryz.prog 49 #[.pointer (some ⟨q, 0, none⟩), .slice (some ⟨w3.heap.size, 0, none⟩) 1 1] (w3.alloc (.cells #[.string ⟨#[40]⟩] 9)) fun e w' => e = .returned (.tuple #[]) ∧ Pt w' base q A c L E (.map (some m)) (.slice B n nc) r2 o ∧ Fq (w3.alloc (.cells #[.string ⟨#[40]⟩] 9)).heap.size q (w3.alloc (.cells #[.string ⟨#[40]⟩] 9)) w') := Lib.hid WD
  have hge := GE r2 rfl
  clear WD GE
  go_upto_region 6 with (go_at_call 49; refine WH.out.mono ?_; rintro e w5 ⟨rfl, hP, hF⟩; have P5 := Lib.hid hP; have F5 := Lib.hid (F4.out.trans (hF.mono (by omega))); have B5 : Hid (Blk w5 g 53 #[.int .i64 0, .slice none 0 0]) := Lib.hid ((Fy.ofq hF).keep g 53 _ B4.out (by omega) (by decide)); have M5 : Hid (Mo w5 m) := Lib.hid ((hF.block m (by omega) hq).trans M4.out); have hl5 := B5.out.lt; have hq5 : q < w5.heap.size := P5.out.blk.lt; clear hP hF)
  clear P4 B4 F4 M4 hz4 WH
  go_upto_region 7 with (first
    | (go_at_call 116; refine (expr_any w5 base q A c L E m r2 o B n nc ⟨P5.out, M5.out, hm, hq⟩ ho).mono ?_; intro e w6 hx; obtain ⟨n3, x3, hx, hF, hy⟩ := hx.rows; have X3 : Hid (exN L E n3 r2 o = x3) := Lib.hid hx; have F6 := Lib.hid (F5.out.trans (hF.mono (Nat.le_of_lt hl5))); have B6x : Hid (Blk w6 g 53 #[.int .i64 0, .slice none 0 0]) := Lib.hid ((hF.block g hl5 (by omega)).trans B5.out); clear hx hF; rcases x3 with ⟨er, i⟩ | ⟨ns3, r3⟩ <;> first | (have hz : e = .panicked [{ v := .iface 26 (.agg #[.int .i64 er, .int .i64 ((tokAt L E i).at_ : Int)]), recovered := false }] := hy; subst hz; exact ⟨rfl, n3, .error (er, i), by show itF L E n3 r o = _; rw [EB.out n3, HY.out]; show (match exN L E n3 r2 o with | none => none | some (.error x) => some (.error x) | some (.ok (ns, r3)) => match wordsF L E r3 [[41]] with | .error x => some (.error x) | .ok r4 => some (.ok ((3, ns), r4)) : Is') = _; rw [X3.out], F6.out, rfl⟩) | (obtain ⟨B', nc', B4, n4, nc4, rfl, hr3, hN, hS⟩ := hy; have N6 := Lib.hid hN; have S6 := Lib.hid hS; clear hN hS))
    | ((with_reducible refine at_store (t := 53) ?_); have AL6 : Below w6.heap.size w6 (w6.alloc (.cells #[.int .i64 0, .slice none 0 0] 53)) := (Below.refl _ _).alloc (Nat.le_refl _) _; have K7 : Blk (w6.alloc (.cells #[.int .i64 0, .slice none 0 0] 53)) w6.heap.size 53 #[.int .i64 0, .slice none 0 0] := Blk.new _ _ _; have hl6 := B6x.out.lt; refine wpList_store_blk _ rfl 53 _ _ rfl w6.heap.size _ 53 [.int .i64 3, .slice B' ns3.length nc'] rfl rfl K7 rfl Tryz.i53 (by simp [Value.oneCell']) ?_; intro w8 hb8 ho8; have hle6 := S6.out.pt.le; have K8 : Hid (Blk w8 w6.heap.size 53 #[.int .i64 3, .slice B' ns3.length nc']) := Lib.hid hb8; have P8 := Lib.hid ((S6.out.pt.on AL6).keep (ho8.below (by omega))); have N8 := Lib.hid ((N6.out.below AL6).other ho8 K7 (by decide)); have M8 : Hid (Mo w8 m) := Lib.hid ((ho8.block m (by omega)).trans (((Fq.of (q := q) AL6 (Nat.le_refl _)).block m (by omega) hq).trans S6.out.mo)); have F8 := Lib.hid ((F6.out.trans (Fq.of (q := q) AL6 (Nat.le_of_lt hl6))).trans (Fq.of (q := q) (ho8.below (Nat.le_of_lt hl6)) (Nat.le_refl g))); have B8 : Hid (Blk w8 g 53 #[.int .i64 0, .slice none 0 0]) := Lib.hid ((ho8.block g (by omega)).trans (B6x.out.below AL6 hl6)); clear hb8 ho8 AL6 K7))
  have AL8 : Below w8.heap.size w8 (w8.alloc (.cells #[.string ⟨#[41]⟩] 9)) := (Below.refl _ _).alloc (Nat.le_refl _) _
  have hq8 : q < w8.heap.size := P8.out.blk.lt
  have hl8 := B8.out.lt
  have P9 := Lib.hid (P8.out.on AL8)
  have B9 : Hid (Blk (w8.alloc (.cells #[.string ⟨#[41]⟩] 9)) g 53 #[.int .i64 0, .slice none 0 0]) := Lib.hid (B8.out.below AL8 hl8)
  have K9 : Hid (Blk (w8.alloc (.cells #[.string ⟨#[41]⟩] 9)) w6.heap.size 53 #[.int .i64 3, .slice B' ns3.length nc']) := Lib.hid (K8.out.below AL8 K8.out.lt)
  have N9 := Lib.hid (N8.out.below AL8)
  have F9 := Lib.hid (F8.out.trans (Fq.of (q := q) AL8 (Nat.le_of_lt hl8)))
  have M9 : Hid (Mo (w8.alloc (.cells #[.string ⟨#[41]⟩] 9)) m) := Lib.hid (((Fq.of (q := q) AL8 (Nat.le_refl _)).block m (by have := P8.out.le; omega) hq).trans M8.out)
  have hz9 : (w8.alloc (.cells #[.string ⟨#[41]⟩] 9)).heap.size = w8.heap.size + 1 := by simp
  have hk6 : w6.heap.size ≠ q := by have := S6.out.pt.blk.lt; omega
  have WD := words_any [[41]] 1 w8.heap.size (w8.alloc (.cells #[.string ⟨#[41]⟩] 9)) base q c E r3 o A L _ _ P9.out rfl (by omega) ⟨by simp, fun i hi => by
    obtain rfl : i = 0 := by simp at hi; omega
    exact (Blk.new w8 9 #[.string ⟨#[41]⟩]).cell 0⟩ (by omega)
  have GE := wordsF_ge L E r3 [[41]]
  obtain ⟨Y, hY⟩ : ∃ Y, wordsF L E r3 [[41]] = Y := ⟨_, rfl⟩
  rw [hY] at WD GE
  have HY2 := Lib.hid hY
  have EX : itF L E n3 r o = match wordsF L E r3 [[41]] with
      | .error x => some (.error x)
      | .ok r4 => some (.ok ((3, ns3), r4)) := by
    rw [EB.out n3, HY.out]
    show (match exN L E n3 r2 o with | none => none | some (.error x) => some (.error x) | some (.ok (ns, r3)) => match wordsF L E r3 [[41]] with | .error x => some (.error x) | .ok r4 => some (.ok ((3, ns), r4)) : Is') = _
    rw [X3.out]
  rw [HY2.out] at EX
  have HE := Lib.hid EX
  clear AL8 hY EX
  rcases Y with ⟨er, i⟩ | r4
  · have WH : Hid (Calls Tryz.prog 49 #[.pointer (some ⟨q, 0, none⟩), .slice (some ⟨w8.heap.size, 0, none⟩) 1 1] (w8.alloc (.cells #[.string ⟨#[41]⟩] 9)) (Rd (w8.alloc (.cells #[.string ⟨#[41]⟩] 9)) base q A c L E (.map (some m)) (.slice B4 n4 nc4) o (.error (er, i)))) := Lib.hid WD
    clear WD
    go_wp2_with (go_at_call 49; refine WH.out.mono ?_; rintro e w9 hR; obtain ⟨rfl, hF⟩ := Rd.err hR; have F10 := Lib.hid (F9.out.trans (hF.mono (by omega))); clear hR hF)
    exact ⟨rfl, n3, .error (er, i), HE.out, F10.out, rfl⟩
  · have WH : Hid (Calls Tryz.prog 49 #[.pointer (some ⟨q, 0, none⟩), .slice (some ⟨w8.heap.size, 0, none⟩) 1 1] (w8.alloc (.cells #[.string ⟨#[41]⟩] 9)) fun e w' => e = .returned (.tuple #[]) ∧ Pt w' base q A c L E (.map (some m)) (.slice B4 n4 nc4) r4 o ∧ Fq (w8.alloc (.cells #[.string ⟨#[41]⟩] 9)).heap.size q (w8.alloc (.cells #[.string ⟨#[41]⟩] 9)) w') := Lib.hid WD
    have hge4 := GE r4 rfl
    clear WD GE
    go_wp2_with (first
      | (go_at_call 49; refine WH.out.mono ?_; rintro e w9 ⟨rfl, hP, hF⟩; have P10 := Lib.hid hP; have F10 := Lib.hid (F9.out.trans (hF.mono (by omega))); have B10 : Hid (Blk w9 g 53 #[.int .i64 0, .slice none 0 0]) := Lib.hid ((Fy.ofq hF).keep g 53 _ B9.out (by omega) (by decide)); have K10 : Hid (Blk w9 w6.heap.size 53 #[.int .i64 3, .slice B' ns3.length nc']) := Lib.hid ((Fy.ofq hF).keep w6.heap.size 53 _ K9.out hk6 (by decide)); have N10 := Lib.hid (N9.out.stay hF (fun k hk => ⟨(N9.out.lt k hk).2, fun e => by have := (N9.out.lt k hk).1; omega⟩)); have M10 : Hid (Mo w9 m) := Lib.hid ((hF.block m (by omega) hq).trans M9.out); clear hP hF)
      | ((with_reducible refine at_load (t := 53) ?_); refine wpList_load_mid rfl 53 _ rfl w6.heap.size 0 rfl [.int .i64 3, .slice B' ns3.length nc'] _ (Blk.rng (cs := [.int .i64 3, .slice B' ns3.length nc']) K10.out) Tryz.underlying53 rfl Tryz.i53 ?_)
      | ((with_reducible refine at_store (t := 53) ?_); refine wpList_store_blk _ rfl 53 _ _ rfl g _ 53 [.int .i64 3, .slice B' ns3.length nc'] rfl rfl B10.out rfl Tryz.i53 (by simp [Value.oneCell']) ?_; intro w11 hb11 ho11; have X11 := Lib.hid hb11; have P11 := Lib.hid (P10.out.keep (ho11.below (by omega))); have N11 := Lib.hid (N10.out.past ho11 hl5 (Nat.le_of_lt hl5)); have M11 : Hid (Mo w11 m) := Lib.hid ((ho11.block m (by omega)).trans M10.out); have F11 := Lib.hid (F10.out.trans (Fq.of (q := q) (ho11.below (Nat.le_refl g)) (Nat.le_refl g))); clear hb11 ho11))
    exact bodyPost_ret (ret_cell1_tmp rfl _ _ g 53 _ _ rfl X11.out Tryz.underlying53 rfl Tryz.i53) rfl ⟨n3, .ok ((3, ns3), r4), HE.out, F11.out, B', nc', B4, n4, nc4, rfl, by omega, N11.out, P11.out, M11.out, hm, hq⟩
/-- An item, read. -/
theorem item_any (w : World) (base q : Nat) (A : Option Addr) (c : Nat) (L : List Tk) (E m r o : Nat) (B : Option Addr) (n nc : Nat) (h : Sx w base q A c L E m r o B n nc) (ho : o ≤ 16) :
    Calls Tryz.prog 119 #[.pointer (some ⟨q, 0, none⟩)] w (Ir (fun n => itF L E n r o) w base q A c L E m r o) := by
  cases hc : isB (tokAt L E r) [67, 79, 85, 78, 84] with
  | true => exact item_count w base q A c L E m r o B n nc h hc
  | false =>
    cases hs : isB (tokAt L E r) [83, 85, 77] with
    | true => exact item_sum w base q A c L E m r o B n nc h ho hc hs
    | false => exact item_plain w base q A c L E m r o B n nc h ho hc hs
end Go.Proofs.YtiipglmbfgmbbaaGreatDoor
