/-
  The program's take: a value of a reader.
-/
import Derived.Test.YtndkoefchlclkaaW4
import Derived.Test.YtndkoefchlclkaaVA
namespace Go.Proofs.Ytndkoefchlclkaa
open Go.RowKit
attribute [local go_sem ↓] eqV neV eqG

/-- A number's bytes lead back. -/
def sg64 (X : Int) : Int := X - 9223372036854775808
/-- A text that was read, as a value. -/
def txF (D : List Int × Nat × Int) : Int × Int × ByteArray × Int × Int := if D.2.2 = 0 then (4, 0, strOfNums D.1, D.2.1, 0) else (0, 0, E0, 0, D.2.2)
/-- A value's bytes, read: the value, how many, the error. -/
def decF : List Int → Int × Int × ByteArray × Int × Int
  | [] => (0, 0, E0, 0, 7)
  | z :: r =>
    if z = 1 then (1, 0, E0, 1, 0)
    else if z = 2 then (if r.length < 1 then (0, 0, E0, 0, 7) else if r.getD 0 0 ≤ 1 then (2, r.getD 0 0, E0, 2, 0) else (0, 0, E0, 0, 150))
    else if z = 3 then (if r.length < 8 then (0, 0, E0, 0, 7) else (3, sg64 (num (r.take 8)), E0, 9, 0))
    else if z = 4 then txF (dtx [] 1 r)
    else (0, 0, E0, 0, 150)
/-- What take answers: the value, whether it is one; the reader's place and error. -/
def TK (w0 : World) (p n c : Nat) (A : Option Addr) (zs : List Int) (D : Int × Int × ByteArray × Int × Int) (e : Ending) (w : World) : Prop :=
  ∃ K N S ok k er, e = .returned (.tuple #[.agg #[.int .i64 K, .int .i64 N, .string S], .bool ok]) ∧ TW w0 p n c A zs k er w ∧
    ((er = 7 ∧ D = (0, 0, E0, 0, 7)) ∨ (er = 0 ∧ ok = false ∧ D = (0, 0, E0, 0, 150)) ∨ (er = 0 ∧ ok = true ∧ D = (K, N, S, (k : Int), 0)))

theorem Blk.moved {w w' : World} {g p n c : Nat} {t : TypeId} {cs : Array Value} {k er : Int} {A : Option Addr} (h : Blk w g t cs) (hm : Moved w p k er A n c w') (hne : g ≠ p) : Blk w' g t cs :=
  (hm.2.block g h.lt (fun e => by injection e with e; exact hne e)).trans h
theorem Blk.kept {w0 w : World} {g p n c k : Nat} {t : TypeId} {cs : Array Value} {er : Int} {A : Option Addr} {zs : List Int} (h : Blk w0 g t cs) (hm : TW w0 p n c A zs k er w) (hne : g ≠ p) : Blk w g t cs :=
  (hm.gr.block g h.lt (fun e => by injection e with e; exact hne e)).trans h
section
variable {w0 w w' : World} {p n c k k' : Nat} {A : Option Addr} {zs : List Int} {er er' : Int}
theorem TW.set (h : TW w0 p n c A zs k er w) {g : Nat} (hg : w0.heap.size ≤ g) (i : Nat) (v : Value) : TW w0 p n c A zs k er (w.setCell ⟨g, i, none⟩ v) :=
  h.grown (row := some g) ⟨rfl, rfl, rfl, by simp [World.setCell], fun j _ hn => Below.heap_setCell _ _ _ _ (fun e => hn (by rw [e]))⟩ (fun j e => by injection e with e; omega)
theorem TW.self (h : TW w0 p n c A zs k er w) : TW w p n c A zs k er w := ⟨h.rd, h.bytes, World.grownBy.refl _ _, h.lt, h.kn, h.nc, h.small⟩
theorem TW.then_ (h : TW w0 p n c A zs k er w) (h' : TW w p n c A zs k' er' w') : TW w0 p n c A zs k' er' w' := ⟨h'.rd, h'.bytes, grown_trans h.gr h'.gr, h.pl, h'.kn, h'.nc, h'.small⟩
theorem TW.num_in (h : TW w0 p n c A zs k 0 w) (hlt : k + 8 ≤ n) : Calls Try.prog 79 #[.pointer (some ⟨p, 0, none⟩)] w fun e w' => e = .returned (.int .u64 (num ((zs.drop k).take 8))) ∧ TW w0 p n c A zs (k + 8) 0 w' ∧ Moved w p ((k + 8 : Nat) : Int) 0 A n c w' := by
  have hl := h.bytes.1
  have hok : okN n k 0 8 = true := by unfold okN; simp; omega
  have hok' : okN zs.length k 0 8 = true := by rw [hl]; exact hok
  have h1 : nAt n k 0 8 = k + 8 := by unfold nAt; rw [if_pos hok]; rfl
  have h2 : nErr n k 0 8 = 0 := by unfold nErr; rw [if_pos (by decide), if_neg (by omega), if_neg (by omega)]
  have h3 : nBytes zs k 0 8 = (zs.drop k).take 8 := by unfold nBytes; rw [if_pos hok']; rfl
  have hc := u64_any p k 0 A n c zs w h.rd h.bytes h.kn h.nc (by have := h.small; omega)
  rw [h1, h2, h3] at hc
  exact hc.mono fun _ _ ⟨e, hm⟩ => ⟨e, h.moved hlt hm, hm⟩
theorem TW.num_end (h : TW w0 p n c A zs k 0 w) (hlt : n < k + 8) : Calls Try.prog 79 #[.pointer (some ⟨p, 0, none⟩)] w fun e w' => e = .returned (.int .u64 0) ∧ TW w0 p n c A zs k 7 w' ∧ Moved w p k 7 A n c w' := by
  have hl := h.bytes.1
  have hok : ¬ okN n k 0 8 = true := by unfold okN; simp; omega
  have hok' : ¬ okN zs.length k 0 8 = true := by rw [hl]; exact hok
  have h1 : nAt n k 0 8 = k := by unfold nAt; rw [if_neg hok]
  have h2 : nErr n k 0 8 = 7 := by unfold nErr; rw [if_pos (by decide), if_neg (by omega), if_pos (by omega)]
  have h3 : nBytes zs k 0 8 = [] := by unfold nBytes; rw [if_neg hok']
  have hc := u64_any p k 0 A n c zs w h.rd h.bytes h.kn h.nc (by have := h.small; omega)
  rw [h1, h2, h3] at hc
  exact hc.mono fun _ _ ⟨e, hm⟩ => ⟨e, h.moved h.kn hm, hm⟩
end
theorem tk_text {r : List Int} {er : Int} {ok : Bool} {k : Nat} {t : ByteArray}
    (h : (er = 7 ∧ dtx [] 1 ((4 :: r).drop 1) = ([], 0, 7)) ∨ (er = 0 ∧ ok = false ∧ dtx [] 1 ((4 :: r).drop 1) = ([], 0, 150)) ∨ (er = 0 ∧ ok = true ∧ ∃ acc, dtx [] 1 ((4 :: r).drop 1) = (acc, k, 0) ∧ t = strOfNums acc ∧ Bs acc ∧ acc.length ≤ 64)) :
    (er = 7 ∧ txF (dtx [] 1 r) = (0, 0, E0, 0, 7)) ∨ (er = 0 ∧ ok = false ∧ txF (dtx [] 1 r) = (0, 0, E0, 0, 150)) ∨ (er = 0 ∧ ok = true ∧ txF (dtx [] 1 r) = (4, 0, t, (k : Int), 0)) := by
  rw [show (4 :: r).drop 1 = r from rfl] at h
  rcases h with ⟨e1, e2⟩ | ⟨e1, e2, e3⟩ | ⟨e1, e2, acc, e3, e4, _⟩
  · exact .inl ⟨e1, by rw [e2]; rfl⟩
  · exact .inr (.inl ⟨e1, e2, by rw [e3]; rfl⟩)
  · exact .inr (.inr ⟨e1, e2, by rw [e3, e4]; rfl⟩)
theorem xor_sg (X : Int) (h : 0 ≤ X ∧ X < 18446744073709551616) : ∃ Y, bits .xor .u64 X 9223372036854775808 = Y ∧ IntKind.i64.wrap Y = sg64 X := by
  have hx := top_xor X
  have e : IntKind.u64.wrap X = X := by rw [IntKind.wrap_u64]; omega
  rw [e] at hx
  refine ⟨_, hx, ?_⟩
  rw [IntKind.wrap_i64]
  unfold top64 sg64
  omega

set_option maxRecDepth 100000 in
set_option maxHeartbeats 2000000 in
theorem take_none (p n c : Nat) (A : Option Addr)  (w : World) (h : TW w p n c A [] 0 0 w) :
    Calls Try.prog 56 #[.pointer (some ⟨p, 0, none⟩)] w (TK w p n c A [] (0, 0, E0, 0, 7)) := by
  have H0 : Hid (TW w p n c A [] 0 0 (w.alloc (.cells #[.int .i64 0, .int .i64 0, .string { data := #[] }] 23))) := h.alloc _
  have G0 : Hid (Blk (w.alloc (.cells #[.int .i64 0, .int .i64 0, .string { data := #[] }] 23)) w.heap.size 23 #[.int .i64 0, .int .i64 0, .string { data := #[] }]) := Blk.new _ _ _
  have NP : Hid (w.heap.size ≠ p) := show _ ≠ _ by have := h.pl; omega
  have SL := Lib.hid h.bytes.1
  have SB := Lib.hid h.bytes.2.1
  have i3 := Lib.hid i23
  have HN : Hid (w.heap.size ≤ w.heap.size) := Nat.le_refl _
  obtain rfl : 0 = n := SL.out
  have H1 := Lib.hid (H0.out.end_ rfl)
  clear h
  go_enter Try.func56, Try.ntmps56
  go_upto_region 1 with (fail)
  generalize (w.alloc (.cells #[.int .i64 0, .int .i64 0, .string { data := #[] }] 23)) = W0 at *
  go_wp2_with fail
  refine H1.out.mono ?_
  rintro e w1 ⟨rfl, ht, hm⟩
  have G1 := Lib.hid (G0.out.moved hm NP.out)
  have T1 := Lib.hid ht
  clear ht hm
  have g0 : _ = some (Value.int .i64 0) := G1.out.cell 0
  have g1 : _ = some (Value.int .i64 0) := G1.out.cell 1
  have g2 : _ = some (Value.string { data := #[] }) := G1.out.cell 2
  have q0 := G1.out.frozen 0
  have q1 := G1.out.frozen 1
  have q2 := G1.out.frozen 2
  go_wp2
  exact bodyPost_ret (ret_cell_tmp (p := 2) (u := 3) (ty := 23) rfl _ _ w.heap.size 23 #[.int .i64 0, .int .i64 0, .string E0] _ rfl (((G1.out.set_ 0 (.int .i64 0)).set_ 1 (.int .i64 0)).set_ 2 (.string E0)) Try.underlying23 rfl i3.out) rfl ⟨_, _, _, _, _, _, rfl, ((T1.out.set HN.out 0 _).set HN.out 1 _).set HN.out 2 _, .inl ⟨rfl, rfl⟩⟩

set_option maxRecDepth 100000 in
set_option maxHeartbeats 2000000 in
theorem take_null (p n c : Nat) (A : Option Addr) (r : List Int) (w : World) (h : TW w p n c A (1 :: r) 0 0 w) :
    Calls Try.prog 56 #[.pointer (some ⟨p, 0, none⟩)] w (TK w p n c A (1 :: r) (1, 0, E0, 1, 0)) := by
  have H0 : Hid (TW w p n c A (1 :: r) 0 0 (w.alloc (.cells #[.int .i64 0, .int .i64 0, .string { data := #[] }] 23))) := h.alloc _
  have G0 : Hid (Blk (w.alloc (.cells #[.int .i64 0, .int .i64 0, .string { data := #[] }] 23)) w.heap.size 23 #[.int .i64 0, .int .i64 0, .string { data := #[] }]) := Blk.new _ _ _
  have NP : Hid (w.heap.size ≠ p) := show _ ≠ _ by have := h.pl; omega
  have SL := Lib.hid h.bytes.1
  have SB := Lib.hid h.bytes.2.1
  have i3 := Lib.hid i23
  have HN : Hid (w.heap.size ≤ w.heap.size) := Nat.le_refl _
  have H1 : Hid (Calls Try.prog 78 #[.pointer (some ⟨p, 0, none⟩)] (w.alloc (.cells #[.int .i64 0, .int .i64 0, .string { data := #[] }] 23)) fun e w' => e = .returned (.int .u8 1) ∧ TW w p n c A (1 :: r) 1 0 w' ∧ Moved (w.alloc (.cells #[.int .i64 0, .int .i64 0, .string { data := #[] }] 23)) p ((0 + 1 : Nat) : Int) 0 A n c w') := H0.out.in_ (by rw [← SL.out]; simp)
  clear h
  go_enter Try.func56, Try.ntmps56
  go_upto_region 1 with (fail)
  generalize (w.alloc (.cells #[.int .i64 0, .int .i64 0, .string { data := #[] }] 23)) = W0 at *
  go_wp2_with fail
  refine H1.out.mono ?_
  rintro e w1 ⟨rfl, ht, hm⟩
  have G1 := Lib.hid (G0.out.moved hm NP.out)
  have T1 := Lib.hid ht
  clear ht hm
  go_wp2_with fail
  refine (null_any _).mono ?_
  rintro e w2 ⟨rfl, hb⟩
  have G2 := Lib.hid (G1.out.below hb G1.out.lt)
  have T2 := Lib.hid (T1.out.below hb)
  clear hb
  have g0 : _ = some (Value.int .i64 0) := G2.out.cell 0
  have g1 : _ = some (Value.int .i64 0) := G2.out.cell 1
  have g2 : _ = some (Value.string { data := #[] }) := G2.out.cell 2
  have q0 := G2.out.frozen 0
  have q1 := G2.out.frozen 1
  have q2 := G2.out.frozen 2
  go_wp2
  exact bodyPost_ret (ret_cell_tmp (p := 2) (u := 3) (ty := 23) rfl _ _ w.heap.size 23 #[.int .i64 1, .int .i64 0, .string E0] _ rfl (((G2.out.set_ 0 (.int .i64 1)).set_ 1 (.int .i64 0)).set_ 2 (.string E0)) Try.underlying23 rfl i3.out) rfl ⟨_, _, _, _, _, _, rfl, ((T2.out.set HN.out 0 _).set HN.out 1 _).set HN.out 2 _, .inr (.inr ⟨rfl, rfl, rfl⟩)⟩

set_option maxRecDepth 100000 in
set_option maxHeartbeats 2000000 in
theorem take_bool0 (p n c : Nat) (A : Option Addr)  (w : World) (h : TW w p n c A [2] 0 0 w) :
    Calls Try.prog 56 #[.pointer (some ⟨p, 0, none⟩)] w (TK w p n c A [2] (0, 0, E0, 0, 7)) := by
  have H0 : Hid (TW w p n c A [2] 0 0 (w.alloc (.cells #[.int .i64 0, .int .i64 0, .string { data := #[] }] 23))) := h.alloc _
  have G0 : Hid (Blk (w.alloc (.cells #[.int .i64 0, .int .i64 0, .string { data := #[] }] 23)) w.heap.size 23 #[.int .i64 0, .int .i64 0, .string { data := #[] }]) := Blk.new _ _ _
  have NP : Hid (w.heap.size ≠ p) := show _ ≠ _ by have := h.pl; omega
  have SL := Lib.hid h.bytes.1
  have SB := Lib.hid h.bytes.2.1
  have i3 := Lib.hid i23
  have HN : Hid (w.heap.size ≤ w.heap.size) := Nat.le_refl _
  have H1 : Hid (Calls Try.prog 78 #[.pointer (some ⟨p, 0, none⟩)] (w.alloc (.cells #[.int .i64 0, .int .i64 0, .string { data := #[] }] 23)) fun e w' => e = .returned (.int .u8 2) ∧ TW w p n c A [2] 1 0 w' ∧ Moved (w.alloc (.cells #[.int .i64 0, .int .i64 0, .string { data := #[] }] 23)) p ((0 + 1 : Nat) : Int) 0 A n c w') := H0.out.in_ (by rw [← SL.out]; simp)
  have H2 := Lib.hid (fun (w' : World) (h : TW w p n c A [2] 1 0 w') => h.end_ (by rw [← SL.out]; rfl))
  clear h
  go_enter Try.func56, Try.ntmps56
  go_upto_region 1 with (fail)
  generalize (w.alloc (.cells #[.int .i64 0, .int .i64 0, .string { data := #[] }] 23)) = W0 at *
  go_wp2_with fail
  refine H1.out.mono ?_
  rintro e w1 ⟨rfl, ht, hm⟩
  have G1 := Lib.hid (G0.out.moved hm NP.out)
  have T1 := Lib.hid ht
  clear ht hm
  go_wp2_with fail
  refine (H2.out _ T1.out).mono ?_
  rintro e w2 ⟨rfl, ht, hm⟩
  have G2 := Lib.hid (G1.out.moved hm NP.out)
  have T2 := Lib.hid ht
  clear ht hm
  go_wp2_with fail
  refine (bool_any _ _).mono ?_
  rintro e w3 ⟨rfl, hb⟩
  have G3 := Lib.hid (G2.out.below hb G2.out.lt)
  have T3 := Lib.hid (T2.out.below hb)
  clear hb
  have g0 : _ = some (Value.int .i64 0) := G3.out.cell 0
  have g1 : _ = some (Value.int .i64 0) := G3.out.cell 1
  have g2 : _ = some (Value.string { data := #[] }) := G3.out.cell 2
  have q0 := G3.out.frozen 0
  have q1 := G3.out.frozen 1
  have q2 := G3.out.frozen 2
  go_wp2
  exact bodyPost_ret (ret_cell_tmp (p := 2) (u := 3) (ty := 23) rfl _ _ w.heap.size 23 #[.int .i64 2, .int .i64 (b2i false), .string E0] _ rfl (((G3.out.set_ 0 (.int .i64 2)).set_ 1 (.int .i64 (b2i false))).set_ 2 (.string E0)) Try.underlying23 rfl i3.out) rfl ⟨_, _, _, _, _, _, rfl, ((T3.out.set HN.out 0 _).set HN.out 1 _).set HN.out 2 _, .inl ⟨rfl, rfl⟩⟩

set_option maxRecDepth 100000 in
set_option maxHeartbeats 2000000 in
theorem take_bool_0 (p n c : Nat) (A : Option Addr) (r : List Int) (w : World) (h : TW w p n c A (2 :: 0 :: r) 0 0 w) :
    Calls Try.prog 56 #[.pointer (some ⟨p, 0, none⟩)] w (TK w p n c A (2 :: 0 :: r) (2, 0, E0, 2, 0)) := by
  have H0 : Hid (TW w p n c A (2 :: 0 :: r) 0 0 (w.alloc (.cells #[.int .i64 0, .int .i64 0, .string { data := #[] }] 23))) := h.alloc _
  have G0 : Hid (Blk (w.alloc (.cells #[.int .i64 0, .int .i64 0, .string { data := #[] }] 23)) w.heap.size 23 #[.int .i64 0, .int .i64 0, .string { data := #[] }]) := Blk.new _ _ _
  have NP : Hid (w.heap.size ≠ p) := show _ ≠ _ by have := h.pl; omega
  have SL := Lib.hid h.bytes.1
  have SB := Lib.hid h.bytes.2.1
  have i3 := Lib.hid i23
  have HN : Hid (w.heap.size ≤ w.heap.size) := Nat.le_refl _
  have H1 : Hid (Calls Try.prog 78 #[.pointer (some ⟨p, 0, none⟩)] (w.alloc (.cells #[.int .i64 0, .int .i64 0, .string { data := #[] }] 23)) fun e w' => e = .returned (.int .u8 2) ∧ TW w p n c A (2 :: 0 :: r) 1 0 w' ∧ Moved (w.alloc (.cells #[.int .i64 0, .int .i64 0, .string { data := #[] }] 23)) p ((0 + 1 : Nat) : Int) 0 A n c w') := H0.out.in_ (by rw [← SL.out]; simp)
  have H2 : Hid (∀ w1 : World, TW w p n c A (2 :: 0 :: r) 1 0 w1 → Calls Try.prog 78 #[.pointer (some ⟨p, 0, none⟩)] w1 fun e w' => e = .returned (.int .u8 0) ∧ TW w p n c A (2 :: 0 :: r) 2 0 w' ∧ Moved w1 p ((1 + 1 : Nat) : Int) 0 A n c w') := fun w1 h => h.in_ (by rw [← SL.out]; simp)
  clear h
  go_enter Try.func56, Try.ntmps56
  go_upto_region 1 with (fail)
  generalize (w.alloc (.cells #[.int .i64 0, .int .i64 0, .string { data := #[] }] 23)) = W0 at *
  go_wp2_with fail
  refine H1.out.mono ?_
  rintro e w1 ⟨rfl, ht, hm⟩
  have G1 := Lib.hid (G0.out.moved hm NP.out)
  have T1 := Lib.hid ht
  clear ht hm
  go_wp2_with fail
  refine (H2.out _ T1.out).mono ?_
  rintro e w2 ⟨rfl, ht, hm⟩
  have G2 := Lib.hid (G1.out.moved hm NP.out)
  have T2 := Lib.hid ht
  clear ht hm
  go_wp2_with fail
  refine (bool_any _ _).mono ?_
  rintro e w3 ⟨rfl, hb⟩
  have G3 := Lib.hid (G2.out.below hb G2.out.lt)
  have T3 := Lib.hid (T2.out.below hb)
  clear hb
  have g0 : _ = some (Value.int .i64 0) := G3.out.cell 0
  have g1 : _ = some (Value.int .i64 0) := G3.out.cell 1
  have g2 : _ = some (Value.string { data := #[] }) := G3.out.cell 2
  have q0 := G3.out.frozen 0
  have q1 := G3.out.frozen 1
  have q2 := G3.out.frozen 2
  go_wp2
  exact bodyPost_ret (ret_cell_tmp (p := 2) (u := 3) (ty := 23) rfl _ _ w.heap.size 23 #[.int .i64 2, .int .i64 (b2i false), .string E0] _ rfl (((G3.out.set_ 0 (.int .i64 2)).set_ 1 (.int .i64 (b2i false))).set_ 2 (.string E0)) Try.underlying23 rfl i3.out) rfl ⟨_, _, _, _, _, _, rfl, ((T3.out.set HN.out 0 _).set HN.out 1 _).set HN.out 2 _, .inr (.inr ⟨rfl, rfl, rfl⟩)⟩

set_option maxRecDepth 100000 in
set_option maxHeartbeats 2000000 in
theorem take_bool_1 (p n c : Nat) (A : Option Addr) (r : List Int) (w : World) (h : TW w p n c A (2 :: 1 :: r) 0 0 w) :
    Calls Try.prog 56 #[.pointer (some ⟨p, 0, none⟩)] w (TK w p n c A (2 :: 1 :: r) (2, 1, E0, 2, 0)) := by
  have H0 : Hid (TW w p n c A (2 :: 1 :: r) 0 0 (w.alloc (.cells #[.int .i64 0, .int .i64 0, .string { data := #[] }] 23))) := h.alloc _
  have G0 : Hid (Blk (w.alloc (.cells #[.int .i64 0, .int .i64 0, .string { data := #[] }] 23)) w.heap.size 23 #[.int .i64 0, .int .i64 0, .string { data := #[] }]) := Blk.new _ _ _
  have NP : Hid (w.heap.size ≠ p) := show _ ≠ _ by have := h.pl; omega
  have SL := Lib.hid h.bytes.1
  have SB := Lib.hid h.bytes.2.1
  have i3 := Lib.hid i23
  have HN : Hid (w.heap.size ≤ w.heap.size) := Nat.le_refl _
  have H1 : Hid (Calls Try.prog 78 #[.pointer (some ⟨p, 0, none⟩)] (w.alloc (.cells #[.int .i64 0, .int .i64 0, .string { data := #[] }] 23)) fun e w' => e = .returned (.int .u8 2) ∧ TW w p n c A (2 :: 1 :: r) 1 0 w' ∧ Moved (w.alloc (.cells #[.int .i64 0, .int .i64 0, .string { data := #[] }] 23)) p ((0 + 1 : Nat) : Int) 0 A n c w') := H0.out.in_ (by rw [← SL.out]; simp)
  have H2 : Hid (∀ w1 : World, TW w p n c A (2 :: 1 :: r) 1 0 w1 → Calls Try.prog 78 #[.pointer (some ⟨p, 0, none⟩)] w1 fun e w' => e = .returned (.int .u8 1) ∧ TW w p n c A (2 :: 1 :: r) 2 0 w' ∧ Moved w1 p ((1 + 1 : Nat) : Int) 0 A n c w') := fun w1 h => h.in_ (by rw [← SL.out]; simp)
  clear h
  go_enter Try.func56, Try.ntmps56
  go_upto_region 1 with (fail)
  generalize (w.alloc (.cells #[.int .i64 0, .int .i64 0, .string { data := #[] }] 23)) = W0 at *
  go_wp2_with fail
  refine H1.out.mono ?_
  rintro e w1 ⟨rfl, ht, hm⟩
  have G1 := Lib.hid (G0.out.moved hm NP.out)
  have T1 := Lib.hid ht
  clear ht hm
  go_wp2_with fail
  refine (H2.out _ T1.out).mono ?_
  rintro e w2 ⟨rfl, ht, hm⟩
  have G2 := Lib.hid (G1.out.moved hm NP.out)
  have T2 := Lib.hid ht
  clear ht hm
  go_wp2_with fail
  refine (bool_any _ _).mono ?_
  rintro e w3 ⟨rfl, hb⟩
  have G3 := Lib.hid (G2.out.below hb G2.out.lt)
  have T3 := Lib.hid (T2.out.below hb)
  clear hb
  have g0 : _ = some (Value.int .i64 0) := G3.out.cell 0
  have g1 : _ = some (Value.int .i64 0) := G3.out.cell 1
  have g2 : _ = some (Value.string { data := #[] }) := G3.out.cell 2
  have q0 := G3.out.frozen 0
  have q1 := G3.out.frozen 1
  have q2 := G3.out.frozen 2
  go_wp2
  exact bodyPost_ret (ret_cell_tmp (p := 2) (u := 3) (ty := 23) rfl _ _ w.heap.size 23 #[.int .i64 2, .int .i64 (b2i true), .string E0] _ rfl (((G3.out.set_ 0 (.int .i64 2)).set_ 1 (.int .i64 (b2i true))).set_ 2 (.string E0)) Try.underlying23 rfl i3.out) rfl ⟨_, _, _, _, _, _, rfl, ((T3.out.set HN.out 0 _).set HN.out 1 _).set HN.out 2 _, .inr (.inr ⟨rfl, rfl, rfl⟩)⟩

set_option maxRecDepth 100000 in
set_option maxHeartbeats 2000000 in
theorem take_bool_no (p n c : Nat) (A : Option Addr) (b : Int) (hb1 : ¬ b ≤ 1) (r : List Int) (w : World) (h : TW w p n c A (2 :: b :: r) 0 0 w) :
    Calls Try.prog 56 #[.pointer (some ⟨p, 0, none⟩)] w (TK w p n c A (2 :: b :: r) (0, 0, E0, 0, 150)) := by
  have H0 : Hid (TW w p n c A (2 :: b :: r) 0 0 (w.alloc (.cells #[.int .i64 0, .int .i64 0, .string { data := #[] }] 23))) := h.alloc _
  have G0 : Hid (Blk (w.alloc (.cells #[.int .i64 0, .int .i64 0, .string { data := #[] }] 23)) w.heap.size 23 #[.int .i64 0, .int .i64 0, .string { data := #[] }]) := Blk.new _ _ _
  have NP : Hid (w.heap.size ≠ p) := show _ ≠ _ by have := h.pl; omega
  have SL := Lib.hid h.bytes.1
  have SB := Lib.hid h.bytes.2.1
  have i3 := Lib.hid i23
  have HN : Hid (w.heap.size ≤ w.heap.size) := Nat.le_refl _
  have H1 : Hid (Calls Try.prog 78 #[.pointer (some ⟨p, 0, none⟩)] (w.alloc (.cells #[.int .i64 0, .int .i64 0, .string { data := #[] }] 23)) fun e w' => e = .returned (.int .u8 2) ∧ TW w p n c A (2 :: b :: r) 1 0 w' ∧ Moved (w.alloc (.cells #[.int .i64 0, .int .i64 0, .string { data := #[] }] 23)) p ((0 + 1 : Nat) : Int) 0 A n c w') := H0.out.in_ (by rw [← SL.out]; simp)
  have H2 : Hid (∀ w1 : World, TW w p n c A (2 :: b :: r) 1 0 w1 → Calls Try.prog 78 #[.pointer (some ⟨p, 0, none⟩)] w1 fun e w' => e = .returned (.int .u8 b) ∧ TW w p n c A (2 :: b :: r) 2 0 w' ∧ Moved w1 p ((1 + 1 : Nat) : Int) 0 A n c w') := fun w1 h => h.in_ (by rw [← SL.out]; simp)
  have hb2 : (b == 1) = false := by simp; omega
  clear h
  go_enter Try.func56, Try.ntmps56
  go_upto_region 1 with (fail)
  generalize (w.alloc (.cells #[.int .i64 0, .int .i64 0, .string { data := #[] }] 23)) = W0 at *
  go_wp2_with fail
  refine H1.out.mono ?_
  rintro e w1 ⟨rfl, ht, hm⟩
  have G1 := Lib.hid (G0.out.moved hm NP.out)
  have T1 := Lib.hid ht
  clear ht hm
  go_wp2_with fail
  refine (H2.out _ T1.out).mono ?_
  rintro e w2 ⟨rfl, ht, hm⟩
  have G2 := Lib.hid (G1.out.moved hm NP.out)
  have T2 := Lib.hid ht
  clear ht hm
  go_wp2_with fail
  refine (bool_any _ _).mono ?_
  rintro e w3 ⟨rfl, hb⟩
  have G3 := Lib.hid (G2.out.below hb G2.out.lt)
  have T3 := Lib.hid (T2.out.below hb)
  clear hb
  have g0 : _ = some (Value.int .i64 0) := G3.out.cell 0
  have g1 : _ = some (Value.int .i64 0) := G3.out.cell 1
  have g2 : _ = some (Value.string { data := #[] }) := G3.out.cell 2
  have q0 := G3.out.frozen 0
  have q1 := G3.out.frozen 1
  have q2 := G3.out.frozen 2
  go_wp2
  exact bodyPost_ret (ret_cell_tmp (p := 2) (u := 3) (ty := 23) rfl _ _ w.heap.size 23 #[.int .i64 2, .int .i64 (b2i false), .string E0] _ rfl (((G3.out.set_ 0 (.int .i64 2)).set_ 1 (.int .i64 (b2i false))).set_ 2 (.string E0)) Try.underlying23 rfl i3.out) rfl ⟨_, _, _, _, _, _, rfl, ((T3.out.set HN.out 0 _).set HN.out 1 _).set HN.out 2 _, .inr (.inl ⟨rfl, decide_eq_false (by omega), rfl⟩)⟩

set_option maxRecDepth 100000 in
set_option maxHeartbeats 2000000 in
theorem take_int (p n c : Nat) (A : Option Addr) (r : List Int) (hr : 8 ≤ r.length) (w : World) (h : TW w p n c A (3 :: r) 0 0 w) :
    Calls Try.prog 56 #[.pointer (some ⟨p, 0, none⟩)] w (TK w p n c A (3 :: r) (3, sg64 (num (r.take 8)), E0, 9, 0)) := by
  have H0 : Hid (TW w p n c A (3 :: r) 0 0 (w.alloc (.cells #[.int .i64 0, .int .i64 0, .string { data := #[] }] 23))) := h.alloc _
  have G0 : Hid (Blk (w.alloc (.cells #[.int .i64 0, .int .i64 0, .string { data := #[] }] 23)) w.heap.size 23 #[.int .i64 0, .int .i64 0, .string { data := #[] }]) := Blk.new _ _ _
  have NP : Hid (w.heap.size ≠ p) := show _ ≠ _ by have := h.pl; omega
  have SL := Lib.hid h.bytes.1
  have SB := Lib.hid h.bytes.2.1
  have i3 := Lib.hid i23
  have HN : Hid (w.heap.size ≤ w.heap.size) := Nat.le_refl _
  have H1 : Hid (Calls Try.prog 78 #[.pointer (some ⟨p, 0, none⟩)] (w.alloc (.cells #[.int .i64 0, .int .i64 0, .string { data := #[] }] 23)) fun e w' => e = .returned (.int .u8 3) ∧ TW w p n c A (3 :: r) 1 0 w' ∧ Moved (w.alloc (.cells #[.int .i64 0, .int .i64 0, .string { data := #[] }] 23)) p ((0 + 1 : Nat) : Int) 0 A n c w') := H0.out.in_ (by rw [← SL.out]; simp)
  have H2 : Hid (∀ w1 : World, TW w p n c A (3 :: r) 1 0 w1 → Calls Try.prog 79 #[.pointer (some ⟨p, 0, none⟩)] w1 fun e w' => e = .returned (.int .u64 (num (r.take 8))) ∧ TW w p n c A (3 :: r) 9 0 w' ∧ Moved w1 p ((1 + 8 : Nat) : Int) 0 A n c w') := fun w1 h => h.num_in (by rw [← SL.out]; simp; omega)
  obtain ⟨Y, hx, hw⟩ := xor_sg (num (r.take 8)) (num_range _)
  generalize num (r.take 8) = X at *
  clear hr
  clear h
  go_enter Try.func56, Try.ntmps56
  go_upto_region 1 with (fail)
  generalize (w.alloc (.cells #[.int .i64 0, .int .i64 0, .string { data := #[] }] 23)) = W0 at *
  go_wp2_with fail
  refine H1.out.mono ?_
  rintro e w1 ⟨rfl, ht, hm⟩
  have G1 := Lib.hid (G0.out.moved hm NP.out)
  have T1 := Lib.hid ht
  clear ht hm
  go_wp2_with fail
  refine (H2.out _ T1.out).mono ?_
  rintro e w2 ⟨rfl, ht, hm⟩
  have G2 := Lib.hid (G1.out.moved hm NP.out)
  have T2 := Lib.hid ht
  clear ht hm
  go_wp2_with fail
  refine (int_any _ _).mono ?_
  rintro e w3 ⟨rfl, hb⟩
  have G3 := Lib.hid (G2.out.below hb G2.out.lt)
  have T3 := Lib.hid (T2.out.below hb)
  clear hb
  have g0 : _ = some (Value.int .i64 0) := G3.out.cell 0
  have g1 : _ = some (Value.int .i64 0) := G3.out.cell 1
  have g2 : _ = some (Value.string { data := #[] }) := G3.out.cell 2
  have q0 := G3.out.frozen 0
  have q1 := G3.out.frozen 1
  have q2 := G3.out.frozen 2
  go_wp2
  exact bodyPost_ret (ret_cell_tmp (p := 2) (u := 3) (ty := 23) rfl _ _ w.heap.size 23 #[.int .i64 3, .int .i64 (sg64 X), .string E0] _ rfl (((G3.out.set_ 0 (.int .i64 3)).set_ 1 (.int .i64 (sg64 X))).set_ 2 (.string E0)) Try.underlying23 rfl i3.out) rfl ⟨_, _, _, _, _, _, rfl, ((T3.out.set HN.out 0 _).set HN.out 1 _).set HN.out 2 _, .inr (.inr ⟨rfl, rfl, rfl⟩)⟩

set_option maxRecDepth 100000 in
set_option maxHeartbeats 2000000 in
theorem take_int_no (p n c : Nat) (A : Option Addr) (r : List Int) (hr : r.length < 8) (w : World) (h : TW w p n c A (3 :: r) 0 0 w) :
    Calls Try.prog 56 #[.pointer (some ⟨p, 0, none⟩)] w (TK w p n c A (3 :: r) (0, 0, E0, 0, 7)) := by
  have H0 : Hid (TW w p n c A (3 :: r) 0 0 (w.alloc (.cells #[.int .i64 0, .int .i64 0, .string { data := #[] }] 23))) := h.alloc _
  have G0 : Hid (Blk (w.alloc (.cells #[.int .i64 0, .int .i64 0, .string { data := #[] }] 23)) w.heap.size 23 #[.int .i64 0, .int .i64 0, .string { data := #[] }]) := Blk.new _ _ _
  have NP : Hid (w.heap.size ≠ p) := show _ ≠ _ by have := h.pl; omega
  have SL := Lib.hid h.bytes.1
  have SB := Lib.hid h.bytes.2.1
  have i3 := Lib.hid i23
  have HN : Hid (w.heap.size ≤ w.heap.size) := Nat.le_refl _
  have H1 : Hid (Calls Try.prog 78 #[.pointer (some ⟨p, 0, none⟩)] (w.alloc (.cells #[.int .i64 0, .int .i64 0, .string { data := #[] }] 23)) fun e w' => e = .returned (.int .u8 3) ∧ TW w p n c A (3 :: r) 1 0 w' ∧ Moved (w.alloc (.cells #[.int .i64 0, .int .i64 0, .string { data := #[] }] 23)) p ((0 + 1 : Nat) : Int) 0 A n c w') := H0.out.in_ (by rw [← SL.out]; simp)
  have H2 := Lib.hid (fun (w' : World) (h : TW w p n c A (3 :: r) 1 0 w') => h.num_end (by rw [← SL.out]; simp; omega))
  obtain ⟨Y, hx, hw⟩ := xor_sg 0 (by omega)
  clear hr
  clear h
  go_enter Try.func56, Try.ntmps56
  go_upto_region 1 with (fail)
  generalize (w.alloc (.cells #[.int .i64 0, .int .i64 0, .string { data := #[] }] 23)) = W0 at *
  go_wp2_with fail
  refine H1.out.mono ?_
  rintro e w1 ⟨rfl, ht, hm⟩
  have G1 := Lib.hid (G0.out.moved hm NP.out)
  have T1 := Lib.hid ht
  clear ht hm
  go_wp2_with fail
  refine (H2.out _ T1.out).mono ?_
  rintro e w2 ⟨rfl, ht, hm⟩
  have G2 := Lib.hid (G1.out.moved hm NP.out)
  have T2 := Lib.hid ht
  clear ht hm
  go_wp2_with fail
  refine (int_any _ _).mono ?_
  rintro e w3 ⟨rfl, hb⟩
  have G3 := Lib.hid (G2.out.below hb G2.out.lt)
  have T3 := Lib.hid (T2.out.below hb)
  clear hb
  have g0 : _ = some (Value.int .i64 0) := G3.out.cell 0
  have g1 : _ = some (Value.int .i64 0) := G3.out.cell 1
  have g2 : _ = some (Value.string { data := #[] }) := G3.out.cell 2
  have q0 := G3.out.frozen 0
  have q1 := G3.out.frozen 1
  have q2 := G3.out.frozen 2
  go_wp2
  exact bodyPost_ret (ret_cell_tmp (p := 2) (u := 3) (ty := 23) rfl _ _ w.heap.size 23 #[.int .i64 3, .int .i64 (sg64 0), .string E0] _ rfl (((G3.out.set_ 0 (.int .i64 3)).set_ 1 (.int .i64 (sg64 0))).set_ 2 (.string E0)) Try.underlying23 rfl i3.out) rfl ⟨_, _, _, _, _, _, rfl, ((T3.out.set HN.out 0 _).set HN.out 1 _).set HN.out 2 _, .inl ⟨rfl, rfl⟩⟩

set_option maxRecDepth 100000 in
set_option maxHeartbeats 2000000 in
theorem take_text (p n c : Nat) (A : Option Addr) (r : List Int) (w : World) (h : TW w p n c A (4 :: r) 0 0 w) :
    Calls Try.prog 56 #[.pointer (some ⟨p, 0, none⟩)] w (TK w p n c A (4 :: r) (txF (dtx [] 1 r))) := by
  have H0 : Hid (TW w p n c A (4 :: r) 0 0 (w.alloc (.cells #[.int .i64 0, .int .i64 0, .string { data := #[] }] 23))) := h.alloc _
  have G0 : Hid (Blk (w.alloc (.cells #[.int .i64 0, .int .i64 0, .string { data := #[] }] 23)) w.heap.size 23 #[.int .i64 0, .int .i64 0, .string { data := #[] }]) := Blk.new _ _ _
  have NP : Hid (w.heap.size ≠ p) := show _ ≠ _ by have := h.pl; omega
  have SL := Lib.hid h.bytes.1
  have SB := Lib.hid h.bytes.2.1
  have i3 := Lib.hid i23
  have HN : Hid (w.heap.size ≤ w.heap.size) := Nat.le_refl _
  have H1 : Hid (Calls Try.prog 78 #[.pointer (some ⟨p, 0, none⟩)] (w.alloc (.cells #[.int .i64 0, .int .i64 0, .string { data := #[] }] 23)) fun e w' => e = .returned (.int .u8 4) ∧ TW w p n c A (4 :: r) 1 0 w' ∧ Moved (w.alloc (.cells #[.int .i64 0, .int .i64 0, .string { data := #[] }] 23)) p ((0 + 1 : Nat) : Int) 0 A n c w') := H0.out.in_ (by rw [← SL.out]; simp)
  clear h
  go_enter Try.func56, Try.ntmps56
  go_upto_region 1 with (fail)
  generalize (w.alloc (.cells #[.int .i64 0, .int .i64 0, .string { data := #[] }] 23)) = W0 at *
  go_wp2_with fail
  refine H1.out.mono ?_
  rintro e w1 ⟨rfl, ht, hm⟩
  have G1 := Lib.hid (G0.out.moved hm NP.out)
  have T1 := Lib.hid ht
  clear ht hm
  go_wp2_with fail
  refine (takeText_any p n c A (4 :: r) 1 _ T1.out.self).mono ?_
  rintro e w2 ⟨t, ok, k, er, rfl, ht, hc⟩
  have G2 := Lib.hid (G1.out.kept ht NP.out)
  have T2 := Lib.hid (T1.out.then_ ht)
  have HC := Lib.hid hc
  clear ht hc
  go_wp2_with fail
  refine (text_any _ _).mono ?_
  rintro e w3 ⟨rfl, hb⟩
  have G3 := Lib.hid (G2.out.below hb G2.out.lt)
  have T3 := Lib.hid (T2.out.below hb)
  clear hb
  have g0 : _ = some (Value.int .i64 0) := G3.out.cell 0
  have g1 : _ = some (Value.int .i64 0) := G3.out.cell 1
  have g2 : _ = some (Value.string { data := #[] }) := G3.out.cell 2
  have q0 := G3.out.frozen 0
  have q1 := G3.out.frozen 1
  have q2 := G3.out.frozen 2
  go_wp2
  exact bodyPost_ret (ret_cell_tmp (p := 2) (u := 3) (ty := 23) rfl _ _ w.heap.size 23 #[.int .i64 4, .int .i64 0, .string t] _ rfl (((G3.out.set_ 0 (.int .i64 4)).set_ 1 (.int .i64 0)).set_ 2 (.string t)) Try.underlying23 rfl i3.out) rfl ⟨_, _, _, _, _, _, rfl, ((T3.out.set HN.out 0 _).set HN.out 1 _).set HN.out 2 _, tk_text HC.out⟩

set_option maxRecDepth 100000 in
set_option maxHeartbeats 2000000 in
theorem take_else (p n c : Nat) (A : Option Addr) (z : Int) (z1 : (z == 1) = false) (z2 : (z == 2) = false) (z3 : (z == 3) = false) (z4 : (z == 4) = false) (r : List Int) (w : World) (h : TW w p n c A (z :: r) 0 0 w) :
    Calls Try.prog 56 #[.pointer (some ⟨p, 0, none⟩)] w (TK w p n c A (z :: r) (0, 0, E0, 0, 150)) := by
  have H0 : Hid (TW w p n c A (z :: r) 0 0 (w.alloc (.cells #[.int .i64 0, .int .i64 0, .string { data := #[] }] 23))) := h.alloc _
  have G0 : Hid (Blk (w.alloc (.cells #[.int .i64 0, .int .i64 0, .string { data := #[] }] 23)) w.heap.size 23 #[.int .i64 0, .int .i64 0, .string { data := #[] }]) := Blk.new _ _ _
  have NP : Hid (w.heap.size ≠ p) := show _ ≠ _ by have := h.pl; omega
  have SL := Lib.hid h.bytes.1
  have SB := Lib.hid h.bytes.2.1
  have i3 := Lib.hid i23
  have HN : Hid (w.heap.size ≤ w.heap.size) := Nat.le_refl _
  have H1 : Hid (Calls Try.prog 78 #[.pointer (some ⟨p, 0, none⟩)] (w.alloc (.cells #[.int .i64 0, .int .i64 0, .string { data := #[] }] 23)) fun e w' => e = .returned (.int .u8 z) ∧ TW w p n c A (z :: r) 1 0 w' ∧ Moved (w.alloc (.cells #[.int .i64 0, .int .i64 0, .string { data := #[] }] 23)) p ((0 + 1 : Nat) : Int) 0 A n c w') := H0.out.in_ (by rw [← SL.out]; simp)
  clear h
  go_enter Try.func56, Try.ntmps56
  go_upto_region 1 with (fail)
  generalize (w.alloc (.cells #[.int .i64 0, .int .i64 0, .string { data := #[] }] 23)) = W0 at *
  go_wp2_with fail
  refine H1.out.mono ?_
  rintro e w1 ⟨rfl, ht, hm⟩
  have G1 := Lib.hid (G0.out.moved hm NP.out)
  have T1 := Lib.hid ht
  clear ht hm
  have g0 : _ = some (Value.int .i64 0) := G1.out.cell 0
  have g1 : _ = some (Value.int .i64 0) := G1.out.cell 1
  have g2 : _ = some (Value.string { data := #[] }) := G1.out.cell 2
  have q0 := G1.out.frozen 0
  have q1 := G1.out.frozen 1
  have q2 := G1.out.frozen 2
  go_wp2
  exact bodyPost_ret (ret_cell_tmp (p := 2) (u := 3) (ty := 23) rfl _ _ w.heap.size 23 #[.int .i64 0, .int .i64 0, .string E0] _ rfl (((G1.out.set_ 0 (.int .i64 0)).set_ 1 (.int .i64 0)).set_ 2 (.string E0)) Try.underlying23 rfl i3.out) rfl ⟨_, _, _, _, _, _, rfl, ((T1.out.set HN.out 0 _).set HN.out 1 _).set HN.out 2 _, .inr (.inl ⟨rfl, rfl, rfl⟩)⟩

theorem take_any (p n c : Nat) (A : Option Addr) (zs : List Int) (w : World) (h : TW w p n c A zs 0 0 w) :
    Calls Try.prog 56 #[.pointer (some ⟨p, 0, none⟩)] w (TK w p n c A zs (decF zs)) := by
  have hb := h.bytes.2.1
  rcases zs with _ | ⟨z, r⟩
  · exact take_none p n c A w h
  · show Calls _ _ _ _ (TK w p n c A (z :: r) (if z = 1 then _ else _))
    by_cases z1 : z = 1
    · subst z1; rw [if_pos rfl]; exact take_null p n c A r w h
    · rw [if_neg z1]
      by_cases z2 : z = 2
      · subst z2; rw [if_pos rfl]
        rcases r with _ | ⟨b, r⟩
        · rw [if_pos (by decide)]; exact take_bool0 p n c A w h
        · rw [if_neg (by simp)]
          show Calls _ _ _ _ (TK w p n c A (2 :: b :: r) (if b ≤ 1 then (2, b, E0, 2, 0) else _))
          have h0 : 0 ≤ b ∧ b ≤ 255 := hb 1
          by_cases hb1 : b ≤ 1
          · rw [if_pos hb1]
            rcases (show b = 0 ∨ b = 1 by omega) with rfl | rfl
            · exact take_bool_0 p n c A r w h
            · exact take_bool_1 p n c A r w h
          · rw [if_neg hb1]; exact take_bool_no p n c A b hb1 r w h
      · rw [if_neg z2]
        by_cases z3 : z = 3
        · subst z3; rw [if_pos rfl]
          by_cases hr : r.length < 8
          · rw [if_pos hr]; exact take_int_no p n c A r hr w h
          · rw [if_neg hr]; exact take_int p n c A r (by omega) w h
        · rw [if_neg z3]
          by_cases z4 : z = 4
          · subst z4; rw [if_pos rfl]; exact take_text p n c A r w h
          · rw [if_neg z4]; exact take_else p n c A z (by simp [z1]) (by simp [z2]) (by simp [z3]) (by simp [z4]) r w h

end Go.Proofs.Ytndkoefchlclkaa
