/-
  Entries that came in, and copies of the first of them: few, own.
-/
import Derived.Test.YtmgaihdepglahaaN8
namespace Go.Proofs.Ytmgaihdepglahaa
open Go.RowKit

/-- An entry as it came in: its Data lie below block B, however many. -/
structure Ec.raw (w : World) (B : Nat) (x : Ec) : Prop where
  by_ : By w B x.A x.n x.d
  nc : x.n ≤ x.c
  nil : x.A = none → x.c = 0
  t0 : 0 ≤ x.t
  t1 : x.t < 18446744073709551616
theorem Ec.raw.below {w w' : World} {B : Nat} {x : Ec} (h : x.raw w B) (hb : Below B w w') : x.raw w' B := ⟨h.by_.below hb, h.nc, h.nil, h.t0, h.t1⟩
theorem Ec.ok.raw {w : World} {B : Nat} {x : Ec} (h : x.ok w B) : x.raw w B := ⟨h.by_, h.nc, h.nil, h.t0, h.t1⟩
theorem Ec.raw.more {w : World} {B B' : Nat} {x : Ec} (h : x.raw w B) (hb : B ≤ B') : x.raw w B' := ⟨h.by_.more hb, h.nc, h.nil, h.t0, h.t1⟩
/-- Entries as they came in. -/
def Ein (w : World) (B : Nat) (A : Option Addr) (n : Nat) (xs : List Ec) : Prop :=
  xs.length = n ∧ (∀ x ∈ xs, x.raw w B) ∧ (0 < n → ∃ b o, A = some ⟨b, o, none⟩ ∧ b < B ∧ w.rangeAt b o (rowE xs))
theorem Ein.below {w w' : World} {B n : Nat} {A : Option Addr} {xs : List Ec} (h : Ein w B A n xs) (hb : Below B w w') : Ein w' B A n xs :=
  ⟨h.1, fun x hx => (h.2.1 x hx).below hb, fun hn => by
    obtain ⟨b, o, e, hbl, hc⟩ := h.2.2 hn
    exact ⟨b, o, e, hbl, fun j v hj => (hb.cell (p := ⟨b, o + j, none⟩) hbl).trans (hc j v hj)⟩⟩
theorem Es.ein {w : World} {B n : Nat} {A : Option Addr} {es : List En} (h : Es w B A n es) : ∃ xs, xs.map Ec.en = es ∧ Ein w B A n xs := by
  obtain ⟨xs, h1, h2, h3, h4⟩ := h
  exact ⟨xs, h1, h2, fun x hx => (h3 x hx).raw, h4⟩
theorem own_empty (w : World) (base g : Nat) (hg : Blk w g 5 #[]) (hb : base ≤ g) : Own w base (some ⟨g, 0, none⟩) 0 0 [] :=
  ⟨⟨rfl, .inr ⟨g, 0, #[], rfl, hb, hg, Nat.le_refl _, by unfold maxLen; omega, rfl, rfl⟩⟩, fun j => by simp⟩
/-- What few leaves of an entry, of a row of them. -/
def cutE (e : En) : En := ⟨e.t, e.k, e.d.take 1025⟩
def fewL (es : List En) : List En := (es.take 32).map cutE
theorem fewL_take (xs : List Ec) : fewL ((xs.take 32).map Ec.en) = fewL (xs.map Ec.en) := by
  have : (xs.take 32).map Ec.en = (xs.map Ec.en).take 32 := List.map_take
  unfold fewL
  rw [this, List.take_take, Nat.min_self]
theorem fewL_succ {xs : List Ec} {x : Ec} {k : Nat} (hx : xs[k]? = some x) (hk : k < 32) : fewL ((xs.take (k + 1)).map Ec.en) = fewL ((xs.take k).map Ec.en) ++ [cutE (Ec.en x)] := by
  unfold fewL
  rw [List.take_of_length_le (l := (xs.take (k + 1)).map Ec.en) (by rw [List.length_map, List.length_take]; omega), List.take_of_length_le (l := (xs.take k).map Ec.en) (by rw [List.length_map, List.length_take]; omega), List.take_add_one, hx, List.map_append, List.map_append]
  rfl
theorem By.take {w : World} {B : Nat} {A : Option Addr} {n : Nat} {zs : List Int} (h : By w B A n zs) {m : Nat} (hm : m ≤ n) : By w B A m (zs.take m) := by
  have := h.cut (k := 0) (c := n + 1) (m := m) (by omega) (Nat.zero_le _) (by omega)
  rw [if_neg (by omega), List.drop_zero] at this
  have e : A.map (·.add 0) = A := by cases A <;> simp [Addr.add]
  first | exact e ▸ this | (simp only [Nat.zero_mul] at this; rw [e] at this; exact this)
/-- Entries that are few themselves. -/
def Few (es : List En) : Prop := es.length ≤ 32 ∧ ∀ e ∈ es, e.d.length ≤ 1025
theorem fewL_few (es : List En) : Few (fewL es) := by
  refine ⟨by simp [fewL]; omega, fun e he => ?_⟩
  obtain ⟨e', _, rfl⟩ := List.mem_map.1 he
  simp [cutE]
  omega
theorem fewL_id {es : List En} (h : Few es) : fewL es = es := by
  unfold fewL
  rw [List.take_of_length_le h.1]
  have : ∀ e ∈ es, cutE e = e := fun e he => by
    unfold cutE
    rw [List.take_of_length_le (h.2 e he)]
  clear h
  induction es with
  | nil => rfl
  | cons e r ih => rw [List.map_cons, this e (List.mem_cons_self ..), ih fun e' he => this e' (List.mem_cons_of_mem _ he)]

set_option linter.unusedSimpArgs false in
set_option maxRecDepth 100000 in
set_option maxHeartbeats 2000000 in
theorem few_any (A : Option Addr) (n c B : Nat) (xs : List Ec) (w : World) (h : Ein w B A n xs) (hB : B ≤ w.heap.size) :
    Calls Try.prog 13 #[.slice A n c] w (Ecloned w (min n 32) (fewL (xs.map Ec.en))) := by
  have H := Lib.hid h
  have HL := Lib.hid h.1
  obtain ⟨i0, hi, hz0, hz1, hz2⟩ := info_parts Try.info54
  have HI := Lib.hid hi
  have HZ := Lib.hid hz0
  have H1 := Lib.hid hz1
  have H2 := Lib.hid hz2
  have FIN : Hid (∀ k, (k = n ∧ k ≤ 32 ∨ k = 32 ∧ k ≤ n) → min n 32 = k ∧ fewL (xs.map Ec.en) = fewL ((xs.take k).map Ec.en)) := Lib.hid (fun k hk => by
    refine ⟨by omega, ?_⟩
    rcases hk with ⟨rfl, h32⟩ | ⟨rfl, hkn⟩
    · rw [List.take_of_length_le (by rw [HL.out]; exact Nat.le_refl _)]
    · exact (fewL_take xs).symm)
  clear h hi hz0 hz1 hz2
  go_enter Try.func13, Try.ntmps13
  go_wp2
  go_loopw [3, 8] (fun v i wr => ∃ k : Nat, k ≤ n ∧ k ≤ 32 ∧ i = .int .i64 k ∧ ∃ Av cv, v = .slice Av k cv ∧ Eo wr w.heap.size Av k cv (fewL ((xs.take k).map Ec.en)) ∧ Below w.heap.size w wr) (fun _ i _ => n - (intOf i).toNat)
  case atStart => exact ⟨0, Nat.zero_le _, Nat.zero_le _, rfl, none, 0, rfl, Eo.nothing _ _, Below.refl _ _⟩
  case round =>
    obtain ⟨k, hk, hk32, rfl, Av, cv, rfl, hoo, hb⟩ := hrel
    by_cases hlt : k < n
    · by_cases h32 : k = 32
      · subst h32
        obtain ⟨b, o, rfl, hbB, hrg⟩ := (H.out.below (hb.mono hB)).2.2 (by omega)
        have hx : xs[32]? = some (xs[32]'(by rw [HL.out]; exact hlt)) := List.getElem?_eq_getElem _
        generalize xs[32]'(by rw [HL.out]; exact hlt) = x at hx
        have hrr : wr.rangeAt b (o + 32 * 3) x.cs := fun i v hi => by rw [Nat.add_assoc]; exact hrg _ _ ((rowE_at xs 32 i _ hx (List.getElem?_eq_some_iff.1 hi).1).trans hi)
        obtain ⟨c0, c1, c2⟩ := rng3 hrr
        obtain ⟨xt, xk, xA, xn, xc, xd⟩ := x
        obtain ⟨e1, e2⟩ := FIN.out 32 (.inr ⟨rfl, by omega⟩)
        have E1 := Lib.hid e1
        have E2 := Lib.hid e2
        have HO := Lib.hid hoo
        have HBW := Lib.hid hb
        clear hrg hrr hx e1 e2 hoo hb
        simp only at c0 c1 c2
        go_wp2
        go_ret
        exact ⟨Av, cv, by rw [E1.out]; rfl, by rw [E1.out, E2.out]; exact Eo.below HO.out ((Below.refl _ _).alloc (Nat.le_refl _) _), HBW.out.alloc HBW.out.size _⟩
      · obtain ⟨b, o, rfl, hbB, hrg⟩ := (H.out.below (hb.mono hB)).2.2 (by omega)
        have hx : xs[k]? = some (xs[k]'(by rw [HL.out]; exact hlt)) := List.getElem?_eq_getElem _
        generalize xs[k]'(by rw [HL.out]; exact hlt) = x at hx
        have hrr : wr.rangeAt b (o + k * 3) x.cs := fun i v hi => by rw [Nat.add_assoc]; exact hrg _ _ ((rowE_at xs k i _ hx (List.getElem?_eq_some_iff.1 hi).1).trans hi)
        obtain ⟨c0, c1, c2⟩ := rng3 hrr
        have hraw := (H.out.below (hb.mono hB)).2.1 x (List.mem_of_getElem? hx)
        have htk : fewL ((xs.take (k + 1)).map Ec.en) = fewL ((xs.take k).map Ec.en) ++ [cutE (Ec.en x)] := fewL_succ hx (by omega)
        obtain ⟨xt, xk, xA, xn, xc, xd⟩ := x
        have TK := Lib.hid htk
        have HO := Lib.hid hoo
        have HBW := Lib.hid hb
        have RAW := Lib.hid hraw
        have h32' : ((k : Int) == 32) = false := by simp; omega
        obtain ⟨mm, hmm⟩ : ∃ mm, min xn 1025 = mm := ⟨_, rfl⟩
        have hmin : min (xn : Int) 1025 = (mm : Int) := by omega
        have m0 : (0 : Int) ≤ (mm : Int) := by omega
        have m1 : (mm : Int) ≤ (xc : Int) := by have := RAW.out.nc; simp only at this; omega
        have MM := Lib.hid (show mm ≤ 1025 ∧ xd.take mm = xd.take 1025 from ⟨by omega, by
          have hl : xd.length = xn := RAW.out.by_.1
          by_cases hc : xn ≤ 1025
          · rw [List.take_of_length_le (by omega), List.take_of_length_le (by omega)]
          · rw [show mm = 1025 by omega]⟩)
        have RB : Hid (∀ gg, (Value.slice Av k cv).ownBlock = some gg → gg < wr.heap.size) := fun gg e => by
          obtain ⟨_, _, h2, _⟩ := hoo
          exact (h2.lt gg e).2
        have hk31 : k + 1 ≤ 32 := by omega
        clear hrg hrr hx htk hoo hb hraw hmm h32
        simp only at c0 c1 c2
        have BY : Hid (By ((wr.alloc (.cells #[.int .u64 xt, .int .i64 xk, .slice xA xn xc] 54)).alloc (.cells #[] 5)) B xA mm (xd.take mm)) := Lib.hid (((RAW.out.by_.below ((((Below.refl _ _).alloc (Nat.le_refl _) _).alloc (by simp) _).mono (Nat.le_trans hB HBW.out.size)))).take (by have := RAW.out.by_.1; have := MM.out.1; simp only at *; omega))
        have O0 : Hid (Own ((wr.alloc (.cells #[.int .u64 xt, .int .i64 xk, .slice xA xn xc] 54)).alloc (.cells #[] 5)) wr.heap.size (some ⟨wr.heap.size + 1, 0, none⟩) 0 0 []) := Lib.hid (own_empty _ _ _ (Blk.fresh (by simp)) (by omega))
        have B5 : Hid (Blk ((wr.alloc (.cells #[.int .u64 xt, .int .i64 xk, .slice xA xn xc] 54)).alloc (.cells #[] 5)) wr.heap.size 54 #[.int .u64 xt, .int .i64 xk, .slice xA xn xc]) := Lib.hid ((Blk.new wr 54 _).alloc _)
        have F5 := Lib.hid (show Below wr.heap.size wr ((wr.alloc (.cells #[.int .u64 xt, .int .i64 xk, .slice xA xn xc] 54)).alloc (.cells #[] 5)) from ((Below.refl _ _).alloc (Nat.le_refl _) _).alloc (by simp) _)
        go_wp2_with (first | (at_builtin; (refine append_by rfl (.tmp 15) (.tmp 22) rfl wr.heap.size (some ⟨wr.heap.size + 1, 0, none⟩) 0 0 [] rfl O0.out B xA mm xc (xd.take mm) rfl BY.out RAW.out.nil (by have := MM.out.1; omega) (by simp; omega) ?_; intro A6 c6 w6 ho6 hg6; rw [List.nil_append, Nat.zero_add] at ho6; have B6' := (hg6.block wr.heap.size B5.out.lt (fun e => by have e2 : wr.heap.size = wr.heap.size + 1 := Option.some.inj e; omega)).trans B5.out; have B6 : Hid (Blk w6 wr.heap.size 54 #[.int .u64 xt, .int .i64 xk, .slice xA xn xc]) := Lib.hid B6'; have F6 := Lib.hid (F5.out.grown hg6 F5.out.size (fun kk e => by have e2 : wr.heap.size + 1 = kk := Option.some.inj e; omega)); have O6 := Lib.hid ho6; have d0 : w6.cell? ⟨wr.heap.size, 0, none⟩ = some (.int .u64 xt) := B6.out.cell 0; have d1 : w6.cell? ⟨wr.heap.size, 1, none⟩ = some (.int .i64 xk) := B6.out.cell 1; have d2 : w6.cell? ⟨wr.heap.size, 2, none⟩ = some (.slice xA xn xc) := B6.out.cell 2; have f2 : w6.frozen? ⟨wr.heap.size, 2, none⟩ = false := B6.out.frozen 2; have hl6 : wr.heap.size < w6.heap.size := B6.out.lt; clear ho6 hg6 B6' c0 c1 c2)) | (at_builtin; have _ := B6; refine unheld ?_))
        unfold Held
        have F8 : Below wr.heap.size wr ((w6.setCell ⟨wr.heap.size, 2, none⟩ (.slice A6 mm c6)).alloc (.cells #[.int .u64 xt, .int .i64 xk, .slice A6 mm c6] 54)) := (F6.out.setCell (p := ⟨wr.heap.size, 2, none⟩) (Nat.le_refl _) _).alloc (by rw [show (w6.setCell ⟨wr.heap.size, 2, none⟩ (.slice A6 mm c6)).heap.size = w6.heap.size from by simp [World.setCell]]; exact F6.out.size) _
        have B8 : Blk ((w6.setCell ⟨wr.heap.size, 2, none⟩ (.slice A6 mm c6)).alloc (.cells #[.int .u64 xt, .int .i64 xk, .slice A6 mm c6] 54)) w6.heap.size 54 #[.int .u64 xt, .int .i64 xk, .slice A6 mm c6] := Blk.fresh (by simp [World.setCell])
        have E8 := Eo.below HO.out F8
        have O8 : Own ((w6.setCell ⟨wr.heap.size, 2, none⟩ (.slice A6 mm c6)).alloc (.cells #[.int .u64 xt, .int .i64 xk, .slice A6 mm c6] 54)) w.heap.size A6 mm c6 (xd.take mm) := ((O6.out.set54 B6.out).below ((Below.refl _ _).alloc (Nat.le_refl _) _)).down HBW.out.size
        have L8 : Below w.heap.size w ((w6.setCell ⟨wr.heap.size, 2, none⟩ (.slice A6 mm c6)).alloc (.cells #[.int .u64 xt, .int .i64 xk, .slice A6 mm c6] 54)) := HBW.out.trans (F8.mono HBW.out.size)
        have hsz : ((w6.setCell ⟨wr.heap.size, 2, none⟩ (.slice A6 mm c6)).alloc (.cells #[.int .u64 xt, .int .i64 xk, .slice A6 mm c6] 54)).heap.size = w6.heap.size + 1 := by simp [World.setCell]
        clear F6 O6 B6 d0 d1 d2 f2
        generalize ((w6.setCell ⟨wr.heap.size, 2, none⟩ (.slice A6 mm c6)).alloc (.cells #[.int .u64 xt, .int .i64 xk, .slice A6 mm c6] 54)) = w8 at *
        obtain ⟨ys, hy1, hy2, hy3⟩ := E8
        refine wpList_append_lies w8 rfl (.tmp 25) (.tmp 27) 25 rfl w.heap.size 54 i0 _ 3 40 Try.underlying25 HI.out HZ.out H1.out H2.out rfl (by decide) _ k (rowE ys) rfl hy2 ⟨w6.heap.size, 0, none⟩ 1 1 [.int .u64 xt, .int .i64 xk, .slice A6 mm c6] rfl rfl (fun j u hu => by rw [add_at, Nat.zero_add, B8.cell, List.getElem?_toArray]; exact hu) (by simp [Value.oneCell']) (by decide) (by unfold maxLen; omega) (by omega) L8.size _ rfl ?_
        intro g9 cap9 w9 hown9 hgrow9 hat9 hlt9
        have L9 := Lib.hid (L8.grown hgrow9 L8.size (fun kk hk => (hy2.lt kk hk).1))
        have E9 : Hid (Eo w9 w.heap.size (some ⟨g9, 0, none⟩) (k + 1) cap9 (fewL ((xs.take (k + 1)).map Ec.en))) := Lib.hid ⟨ys ++ [⟨xt, xk, A6, mm, c6, xd.take mm⟩], by rw [List.map_append, hy1, TK.out]; show _ ++ [(⟨xt, xk, xd.take mm⟩ : En)] = _; rw [MM.out.2]; rfl, by rw [rowE_append]; exact hown9, fun x hx => (List.mem_append.1 hx).elim (fun hx => ⟨(hy3 x hx).1.row hy2 hgrow9, (hy3 x hx).2⟩) (fun hx => by rw [List.mem_singleton.1 hx]; exact ⟨O8.row hy2 hgrow9, (show mm ≤ 100000 by have := MM.out.1; omega), RAW.out.t0, RAW.out.t1⟩)⟩
        clear hown9 hgrow9 hat9 hlt9 hy1 hy2 hy3 L8 O8 B8 F8
        go_wp2
        go_roundw
        case rel => exact ⟨k + 1, by omega, by omega, by go_num, _, _, rfl, E9.out, L9.out⟩
        case measure => simp [intOf]; omega
    · obtain rfl : k = n := by omega
      obtain ⟨e1, e2⟩ := FIN.out k (.inl ⟨rfl, hk32⟩)
      have E1 := Lib.hid e1
      have E2 := Lib.hid e2
      have F := Lib.hid hoo
      clear hoo e1 e2
      go_wp2
      go_ret
      exact ⟨Av, cv, by rw [E1.out]; rfl, by rw [E1.out, E2.out]; exact F.out, hb⟩

end Go.Proofs.Ytmgaihdepglahaa
