/-
  A statement.
-/
import Derived.Test.YtiipglmbfgmbbaaGreatDoorP40
namespace Go.Proofs.YtiipglmbfgmbbaaGreatDoor
open Go.RowKit Go.Shelf
attribute [local go_sem] Oper.semAt_some

theorem smC_one (s : Sm) (x : Cx) : ∀ v ∈ smC s x, v.oneCell' = true := by
  intro v hv
  simp only [smC, List.mem_cons, List.not_mem_nil, or_false] at hv
  rcases hv with rfl | rfl | rfl | rfl | rfl | rfl | rfl | rfl | rfl | rfl | rfl | rfl | rfl | rfl | rfl <;> rfl
theorem Zx.done {w0 w w' : World} {base q c E m r o gr g D : Nat} {A : Option Addr} {L : List Tk} {s : Sm} {x : Cx} (h : Zx w0 w base q A c L E m r o gr g D s x) (hb : base ≤ w0.heap.size) (ho : Only gr w w') :
    Fq w0.heap.size q w0 w' ∧ Ox w' w0.heap.size s x ∧ (∃ B n nc, Sx w' base q A c L E m r o B n nc) ∧ Gp w' := by
  obtain ⟨B, n, nc, hs⟩ := h.bx.sx
  have hgr := h.hgr
  have hB : Below base w w' := ho.below (by omega)
  refine ⟨h.fr.trans (Fq.of (q := q) (ho.below h.hgr) (Nat.le_refl _)), (h.bx.own.k4 (K4.only ho h.z)).low (by have := h.hg0; have := h.bx.hD; omega), ⟨B, n, nc, hs.pt.keep hB, (hB.block m hs.hm).trans hs.mo, hs.hm, hs.hq⟩, h.bx.gp.fq (Fq.of (q := q) hB (Nat.le_refl _)) h.bx.two h.bx.tq⟩
/-- The statement is made. -/
theorem Zx.start {w0 w w' : World} {base q c E m r o gr n nc k : Nat} {A B : Option Addr} {L : List Tk} (hz : Blk w gr 38 z38) (hP : Pt w base q A c L E (.map (some m)) (.slice B n nc) r o) (hM : Mo w m) (hG : Gp w) (hF : Fq w0.heap.size q w0 w) (hm : m < base) (hq : m ≠ q) (h2 : 2 ≤ base) (hq2 : 2 ≤ q) (hgr : w0.heap.size = gr) (hb : base ≤ gr) (hs : Blk w' w.heap.size 38 (smC (sm0 k) cx0).toArray) (hB : Below w.heap.size w w') :
    Zx w0 w' base q A c L E m r o gr w.heap.size w'.heap.size (sm0 k) cx0 := by
  have hle := hP.le
  have hl := hz.lt
  exact ⟨⟨⟨B, n, nc, hP.on hB, (hB.block m (by omega)).trans hM, hm, hq⟩, hs, Ox.zero _ _ _, hle, hs.lt, Nat.le_refl _, hG.fq (Fq.of (q := q) hB (Nat.le_refl _)) (by omega) hq2, h2, hq2⟩, hz.below hB hl, hF.trans (Fq.of (q := q) hB hF.size), by omega, hF.size, by omega⟩
set_option maxRecDepth 100000 in
set_option maxHeartbeats 8000000 in
theorem stmt_0 (w : World) (base q : Nat) (A : Option Addr) (c : Nat) (L : List Tk) (E m r o : Nat) (B : Option Addr) (n nc : Nat) (h : Sx w base q A c L E m r o B n nc) (hG : Gp w) (h2 : 2 ≤ base) (hq2 : 2 ≤ q) (ho : o ≤ 16) (a : Nat) (ha : a < 8) (hk : kindF L E r = .ok (0, r)) :
    Calls Tryz.prog 48 #[.pointer (some ⟨q, 0, none⟩), .int .i64 (a : Int)] w (Stx w base q A c L E m r o a) := by
  obtain ⟨gr, hgr⟩ : ∃ g, w.heap.size = g := ⟨_, rfl⟩
  have h0 : Below w.heap.size w (w.alloc (.cells #[.int .i64 0, .string ⟨#[]⟩, .string ⟨#[]⟩, .slice none 0 0, .slice none 0 0, .bool false, .slice none 0 0, .slice none 0 0, .slice none 0 0, .string ⟨#[]⟩, .string ⟨#[]⟩, .string ⟨#[]⟩, .string ⟨#[]⟩, .bool false, .int .i64 0] 38)) := (Below.refl _ _).alloc (Nat.le_refl _) _
  have b0 : Hid (Blk (w.alloc (.cells #[.int .i64 0, .string ⟨#[]⟩, .string ⟨#[]⟩, .slice none 0 0, .slice none 0 0, .bool false, .slice none 0 0, .slice none 0 0, .slice none 0 0, .string ⟨#[]⟩, .string ⟨#[]⟩, .string ⟨#[]⟩, .string ⟨#[]⟩, .bool false, .int .i64 0] 38)) gr 38 z38) := Lib.hid (by rw [← hgr]; exact Blk.new _ _ _)
  have hb0 := h.pt.le
  have hlt := h.pt.lt
  have hm := h.hm
  have hq := h.hq
  have P1 := Lib.hid (h.pt.on h0)
  have M1 : Hid (Mo (w.alloc (.cells #[.int .i64 0, .string ⟨#[]⟩, .string ⟨#[]⟩, .slice none 0 0, .slice none 0 0, .bool false, .slice none 0 0, .slice none 0 0, .slice none 0 0, .string ⟨#[]⟩, .string ⟨#[]⟩, .string ⟨#[]⟩, .string ⟨#[]⟩, .bool false, .int .i64 0] 38)) m) := Lib.hid ((h0.block m (by omega)).trans h.mo)
  have F1 := Lib.hid (Fq.of (q := q) h0 (Nat.le_refl _))
  have G1 := Lib.hid (hG.fq F1.out (by omega) hq2)
  have KA := kind_any _ base q c E r o A L _ _ P1.out G1.out
  rw [hk] at KA
  have KH : Hid (Calls Tryz.prog 74 #[.pointer (some ⟨q, 0, none⟩)] (w.alloc (.cells #[.int .i64 0, .string ⟨#[]⟩, .string ⟨#[]⟩, .slice none 0 0, .slice none 0 0, .bool false, .slice none 0 0, .slice none 0 0, .slice none 0 0, .string ⟨#[]⟩, .string ⟨#[]⟩, .string ⟨#[]⟩, .string ⟨#[]⟩, .bool false, .int .i64 0] 38)) fun e w' => e = .returned (.int .i64 0) ∧ Pt w' base q A c L E (.map (some m)) (.slice B n nc) r o ∧ Fq (w.alloc (.cells #[.int .i64 0, .string ⟨#[]⟩, .string ⟨#[]⟩, .slice none 0 0, .slice none 0 0, .bool false, .slice none 0 0, .slice none 0 0, .slice none 0 0, .string ⟨#[]⟩, .string ⟨#[]⟩, .string ⟨#[]⟩, .string ⟨#[]⟩, .bool false, .int .i64 0] 38)).heap.size q (w.alloc (.cells #[.int .i64 0, .string ⟨#[]⟩, .string ⟨#[]⟩, .slice none 0 0, .slice none 0 0, .bool false, .slice none 0 0, .slice none 0 0, .slice none 0 0, .string ⟨#[]⟩, .string ⟨#[]⟩, .string ⟨#[]⟩, .string ⟨#[]⟩, .bool false, .int .i64 0] 38)) w') := Lib.hid KA
  have hz1 : (w.alloc (.cells #[.int .i64 0, .string ⟨#[]⟩, .string ⟨#[]⟩, .slice none 0 0, .slice none 0 0, .bool false, .slice none 0 0, .slice none 0 0, .slice none 0 0, .string ⟨#[]⟩, .string ⟨#[]⟩, .string ⟨#[]⟩, .string ⟨#[]⟩, .bool false, .int .i64 0] 38)).heap.size = gr + 1 := by simp [hgr]
  have ha8 : ((a : Int) == 8) = false := by simp; omega
  have CT0 : Hid (∀ n y, stK L E o 0 n r = some y → ∃ n', stF L E o n' a r = some y) := Lib.hid (fun n y h => ⟨n, by rw [stF_kind hk (by omega)]; exact h⟩)
  clear h hG hk KA h0
  go_enter Tryz.func48, Tryz.ntmps48
  go_upto_region 1 with fail
  generalize w.alloc (.cells #[.int .i64 0, .string ⟨#[]⟩, .string ⟨#[]⟩, .slice none 0 0, .slice none 0 0, .bool false, .slice none 0 0, .slice none 0 0, .slice none 0 0, .string ⟨#[]⟩, .string ⟨#[]⟩, .string ⟨#[]⟩, .string ⟨#[]⟩, .bool false, .int .i64 0] 38) = w1 at *
  go_upto_region 2 with (first
    | (go_at_call 74; refine KH.out.mono ?_; rintro e w2 ⟨rfl, hP, hF⟩; have P2 := Lib.hid hP; have B2 : Hid (Blk w2 gr 38 z38) := Lib.hid ((hF.block gr (by omega) (by omega)).trans b0.out); have M2 : Hid (Mo w2 m) := Lib.hid ((hF.block m (by omega) hq).trans M1.out); have G2 := Lib.hid (G1.out.fq hF (by omega) hq2); have F2 := Lib.hid (F1.out.trans (hF.mono F1.out.size)); clear hP hF)
    | ((with_reducible refine at_store (t := 38) ?_); have AL3 : Below w2.heap.size w2 (w2.alloc (.cells #[.int .i64 0, .string ⟨#[]⟩, .string ⟨#[]⟩, .slice none 0 0, .slice none 0 0, .bool false, .slice none 0 0, .slice none 0 0, .slice none 0 0, .string ⟨#[]⟩, .string ⟨#[]⟩, .string ⟨#[]⟩, .string ⟨#[]⟩, .bool false, .int .i64 0] 38)) := (Below.refl _ _).alloc (Nat.le_refl _) _; have K3 : Blk (w2.alloc (.cells #[.int .i64 0, .string ⟨#[]⟩, .string ⟨#[]⟩, .slice none 0 0, .slice none 0 0, .bool false, .slice none 0 0, .slice none 0 0, .slice none 0 0, .string ⟨#[]⟩, .string ⟨#[]⟩, .string ⟨#[]⟩, .string ⟨#[]⟩, .bool false, .int .i64 0] 38)) w2.heap.size 38 #[.int .i64 0, .string ⟨#[]⟩, .string ⟨#[]⟩, .slice none 0 0, .slice none 0 0, .bool false, .slice none 0 0, .slice none 0 0, .slice none 0 0, .string ⟨#[]⟩, .string ⟨#[]⟩, .string ⟨#[]⟩, .string ⟨#[]⟩, .bool false, .int .i64 0] := Blk.new _ _ _; refine wpList_store_blk _ rfl 38 _ _ rfl w2.heap.size _ 38 [.int .i64 0, .string ⟨#[]⟩, .string ⟨#[]⟩, .slice none 0 0, .slice none 0 0, .bool false, .slice none 0 0, .slice none 0 0, .slice none 0 0, .string ⟨#[]⟩, .string ⟨#[]⟩, .string ⟨#[]⟩, .string ⟨#[]⟩, .bool false, .int .i64 (-1)] rfl rfl K3 rfl Tryz.i38 (by simp [Value.oneCell']) ?_; intro w3 hb3 ho3; have Z3 := Lib.hid (Zx.start (k := 0) B2.out P2.out M2.out G2.out F2.out hm hq h2 hq2 hgr (by omega) hb3 (AL3.trans (ho3.below (Nat.le_refl _)))); clear hb3 ho3 AL3 K3))
  clear P2 B2 M2 G2 F2 KH b0 F1 G1 M1 P1
  generalize w2.heap.size = g at *
  generalize w3.heap.size = D at *
  go_upto_region 4 with fail
  have Z4 := Lib.hid (Z3.out.below (w' := w3.drew) ⟨rfl, rfl, rfl, Nat.le_refl _, fun _ _ => rfl⟩)
  refine wp_region_held_drew (S := fun w' => w'.cell? ⟨g, 0, none⟩ = some (.int .i64 0) ∧ w'.cell? ⟨0, 0, none⟩ = some (.string ⟨#[]⟩)) (by kernel_rfl) ⟨Z4.out.bx.blk.cell 0, Z4.out.bx.gp.fw 0 (by decide)⟩ (fun hHeld => ?_)
  generalize w3.drew = w4 at *
  clear Z3
  refine take_d (i := 0) (d := 16) (v := ?v1_16) rfl rfl (by kernel_rfl) (by kernel_rfl) (by kernel_rfl) (fun _ _ _ h => h) (Or.inl ⟨by kernel_rfl, ?v1_16h⟩) hHeld ?v1_16n
  case v1_16h => (intro w hSw; (try dsimp only at hSw); go_split_ands; go_simp; (try exact rfl))
  try simp only [Act.put, List.setIfInBounds_toArray, List.set_cons_zero, List.set_cons_succ]
  refine take_d (i := 1) (d := 17) (v := ?v2_17) rfl rfl (by kernel_rfl) (by kernel_rfl) (by kernel_rfl) (fun _ _ _ h => h) (Or.inl ⟨by kernel_rfl, ?v2_17h⟩) hHeld ?v2_17n
  case v2_17h => (intro w hSw; (try dsimp only at hSw); go_split_ands; go_simp; (try exact rfl))
  try simp only [Act.put, List.setIfInBounds_toArray, List.set_cons_zero, List.set_cons_succ]
  refine take_d (i := 2) (d := 18) (v := ?v3_18) rfl rfl (by kernel_rfl) (by kernel_rfl) (by kernel_rfl) (fun _ _ _ h => h) (Or.inl ⟨by kernel_rfl, ?v3_18h⟩) hHeld ?v3_18n
  case v3_18h => (intro w hSw; (try dsimp only at hSw); go_split_ands; go_simp; (try exact rfl))
  try simp only [Act.put, List.setIfInBounds_toArray, List.set_cons_zero, List.set_cons_succ]
  refine take_d (i := 3) (d := 19) (v := ?v4_19) rfl rfl (by kernel_rfl) (by kernel_rfl) (by kernel_rfl) (fun _ _ _ h => h) (Or.inl ⟨by kernel_rfl, ?v4_19h⟩) hHeld ?v4_19n
  case v4_19h => (intro w hSw; (try dsimp only at hSw); go_split_ands; go_simp; (try exact rfl))
  try simp only [Act.put, List.setIfInBounds_toArray, List.set_cons_zero, List.set_cons_succ]
  refine take_d (i := 4) (d := 20) (v := ?v5_20) rfl rfl (by kernel_rfl) (by kernel_rfl) (by kernel_rfl) (fun _ _ _ h => h) (Or.inl ⟨by kernel_rfl, ?v5_20h⟩) hHeld ?v5_20n
  case v5_20h => (intro w hSw; (try dsimp only at hSw); go_split_ands; go_simp; (try exact rfl))
  try simp only [Act.put, List.setIfInBounds_toArray, List.set_cons_zero, List.set_cons_succ]
  refine take_d (i := 5) (d := 21) (v := ?v6_21) rfl rfl (by kernel_rfl) (by kernel_rfl) (by kernel_rfl) (fun _ _ _ h => h) (Or.inl ⟨by kernel_rfl, ?v6_21h⟩) hHeld ?v6_21n
  case v6_21h => (intro w hSw; (try dsimp only at hSw); go_split_ands; go_simp; (try exact rfl))
  try simp only [Act.put, List.setIfInBounds_toArray, List.set_cons_zero, List.set_cons_succ]
  refine take_d (i := 6) (d := 22) (v := ?v7_22) rfl rfl (by kernel_rfl) (by kernel_rfl) (by kernel_rfl) (fun _ _ _ h => h) (Or.inl ⟨by kernel_rfl, ?v7_22h⟩) hHeld ?v7_22n
  case v7_22h => (intro w hSw; (try dsimp only at hSw); go_split_ands; go_simp; (try exact rfl))
  try simp only [Act.put, List.setIfInBounds_toArray, List.set_cons_zero, List.set_cons_succ]
  refine wpAnyH_ready (rs := [7]) (by kernel_rfl) (by simp) ?_
  refine AllReadyH.cons rfl (fun K' hK => ?_) AllReadyH.nil
  go_simp
  have AL : Below w4.heap.size w4 (w4.alloc (.cells #[.string ⟨#[]⟩] 9)) := (Below.refl _ _).alloc (Nat.le_refl _) _
  have Z5 := Lib.hid (Z4.out.below AL)
  have WH : Hid (Calls Tryz.prog 49 #[.pointer (some ⟨q, 0, none⟩), .slice (some ⟨w4.heap.size, 0, none⟩) 1 1] (w4.alloc (.cells #[.string ⟨#[]⟩] 9)) fun e w' => Aw (rwd L E r [[]]) (fun _ r' e w' => e = .returned (.tuple #[]) ∧ r ≤ r' ∧ Zx w w' base q A c L E m r' o gr g D (sm0 0) cx0) (Fq w.heap.size q w) L E e w') := Lib.hid (Z4.out.words [[]] 1 rfl (by omega))
  refine hK.out _ _ ⟨Z5.out.bx.blk.cell 0, Z5.out.bx.gp.fw 0 (by decide)⟩ (fun hHeld => ?_)
  clear hK K' AL
  try simp only [Act.put, List.setIfInBounds_toArray, List.set_cons_zero, List.set_cons_succ]
  refine wpAnyH_ready (rs := [8]) (by kernel_rfl) (by simp) ?_
  refine AllReadyH.cons rfl (fun K' hK => ?_) AllReadyH.nil
  go_simp
  refine WH.out.mono ?_
  rintro e w6 ⟨y, hy, hm⟩
  rcases y with ⟨er, i⟩ | ⟨un6, r6⟩
  · obtain ⟨rfl, hF⟩ := hm; have hx := ct_err CT0.out (n1 := 0) hy; obtain ⟨n', hx⟩ := hx; exact ⟨rfl, n', .error (er, i), hx, hF, rfl⟩
  obtain ⟨rfl, hr6, hJ⟩ := hm
  have Z6 := Lib.hid hJ
  have CT1 := Lib.hid (ct_step CT0.out (Mono.const _) (fun _ _ => Mono.ite (creF_mono L E _ _) (Mono.ite (Mono.const _) (Mono.ite (insF_mono L E o _ _) (Mono.ite (updF_mono L E o _ _) (Mono.ite (Mono.rb (Mono.const _) fun _ _ => Mono.rb (Mono.const _) fun _ _ => Mono.rb (exB_mono _ _ _ _ _) fun _ _ => Mono.const _) (Mono.ite (chF_mono L E o _ _) (Mono.const _))))))) (n1 := 0) hy)
  refine hK.out _ _ ⟨Z6.out.bx.blk.cell 0, Z6.out.bx.gp.fw 0 (by decide)⟩ (fun hHeld => ?_)
  clear hK K' hJ hy WH Z4 Z5 CT0
  try simp only [Act.put, List.setIfInBounds_toArray, List.set_cons_zero, List.set_cons_succ]
  refine wpAnyH_done (by kernel_rfl) ?_ _
  have ck : w6.cell? ⟨g, 0, none⟩ = some (.int .i64 0) := Z6.out.bx.blk.cell 0
  have CT2 : Hid (∀ (n : Nat) y, rok (sm0 0) r6 = some y → ∃ n', stF L E o n' a r = some y) := Lib.hid (fun n y h => CT1.out n y (by show (if _ then _ else _) = _; rw [if_neg (by decide), if_neg (by decide), if_neg (by decide), if_neg (by decide), if_neg (by decide), if_neg (by decide)]; exact h))
  clear CT1
  go_upto_region 21 with fail
  obtain ⟨n', hx⟩ := CT2.out 0 _ rfl
  go_wp2_with (first
    | ((with_reducible refine at_load (t := 38) ?_); refine wpList_load_mid rfl 38 _ rfl g 0 rfl (smC (sm0 0) cx0) _ (Blk.rng (cs := smC (sm0 0) cx0) Z6.out.bx.blk) Tryz.underlying38 rfl Tryz.i38 ?_)
    | ((with_reducible refine at_store (t := 38) ?_); refine wpList_store_blk _ rfl 38 _ _ rfl gr _ 38 (smC (sm0 0) cx0) rfl rfl Z6.out.z rfl Tryz.i38 (smC_one (sm0 0) cx0) ?_; intro w90 hb90 ho90; have X90 := Lib.hid hb90; have DN := Lib.hid (Z6.out.done hb0 ho90); clear hb90 ho90))
  obtain ⟨d1, d2, d3, d4⟩ := DN.out
  exact bodyPost_ret (ret_cell1_tmp rfl _ _ gr 38 _ _ rfl X90.out Tryz.underlying38 rfl Tryz.i38) rfl ⟨n', .ok (_, r6), hx, d1, _, rfl, by omega, d2, d3, d4⟩
set_option maxRecDepth 100000 in
set_option maxHeartbeats 8000000 in
theorem stmt_1 (w : World) (base q : Nat) (A : Option Addr) (c : Nat) (L : List Tk) (E m r o : Nat) (B : Option Addr) (n nc : Nat) (h : Sx w base q A c L E m r o B n nc) (hG : Gp w) (h2 : 2 ≤ base) (hq2 : 2 ≤ q) (ho : o ≤ 16) (a : Nat) (ha : a < 8) (hk : kindF L E r = .ok (1, r)) :
    Calls Tryz.prog 48 #[.pointer (some ⟨q, 0, none⟩), .int .i64 (a : Int)] w (Stx w base q A c L E m r o a) := by
  obtain ⟨gr, hgr⟩ : ∃ g, w.heap.size = g := ⟨_, rfl⟩
  have h0 : Below w.heap.size w (w.alloc (.cells #[.int .i64 0, .string ⟨#[]⟩, .string ⟨#[]⟩, .slice none 0 0, .slice none 0 0, .bool false, .slice none 0 0, .slice none 0 0, .slice none 0 0, .string ⟨#[]⟩, .string ⟨#[]⟩, .string ⟨#[]⟩, .string ⟨#[]⟩, .bool false, .int .i64 0] 38)) := (Below.refl _ _).alloc (Nat.le_refl _) _
  have b0 : Hid (Blk (w.alloc (.cells #[.int .i64 0, .string ⟨#[]⟩, .string ⟨#[]⟩, .slice none 0 0, .slice none 0 0, .bool false, .slice none 0 0, .slice none 0 0, .slice none 0 0, .string ⟨#[]⟩, .string ⟨#[]⟩, .string ⟨#[]⟩, .string ⟨#[]⟩, .bool false, .int .i64 0] 38)) gr 38 z38) := Lib.hid (by rw [← hgr]; exact Blk.new _ _ _)
  have hb0 := h.pt.le
  have hlt := h.pt.lt
  have hm := h.hm
  have hq := h.hq
  have P1 := Lib.hid (h.pt.on h0)
  have M1 : Hid (Mo (w.alloc (.cells #[.int .i64 0, .string ⟨#[]⟩, .string ⟨#[]⟩, .slice none 0 0, .slice none 0 0, .bool false, .slice none 0 0, .slice none 0 0, .slice none 0 0, .string ⟨#[]⟩, .string ⟨#[]⟩, .string ⟨#[]⟩, .string ⟨#[]⟩, .bool false, .int .i64 0] 38)) m) := Lib.hid ((h0.block m (by omega)).trans h.mo)
  have F1 := Lib.hid (Fq.of (q := q) h0 (Nat.le_refl _))
  have G1 := Lib.hid (hG.fq F1.out (by omega) hq2)
  have KA := kind_any _ base q c E r o A L _ _ P1.out G1.out
  rw [hk] at KA
  have KH : Hid (Calls Tryz.prog 74 #[.pointer (some ⟨q, 0, none⟩)] (w.alloc (.cells #[.int .i64 0, .string ⟨#[]⟩, .string ⟨#[]⟩, .slice none 0 0, .slice none 0 0, .bool false, .slice none 0 0, .slice none 0 0, .slice none 0 0, .string ⟨#[]⟩, .string ⟨#[]⟩, .string ⟨#[]⟩, .string ⟨#[]⟩, .bool false, .int .i64 0] 38)) fun e w' => e = .returned (.int .i64 1) ∧ Pt w' base q A c L E (.map (some m)) (.slice B n nc) r o ∧ Fq (w.alloc (.cells #[.int .i64 0, .string ⟨#[]⟩, .string ⟨#[]⟩, .slice none 0 0, .slice none 0 0, .bool false, .slice none 0 0, .slice none 0 0, .slice none 0 0, .string ⟨#[]⟩, .string ⟨#[]⟩, .string ⟨#[]⟩, .string ⟨#[]⟩, .bool false, .int .i64 0] 38)).heap.size q (w.alloc (.cells #[.int .i64 0, .string ⟨#[]⟩, .string ⟨#[]⟩, .slice none 0 0, .slice none 0 0, .bool false, .slice none 0 0, .slice none 0 0, .slice none 0 0, .string ⟨#[]⟩, .string ⟨#[]⟩, .string ⟨#[]⟩, .string ⟨#[]⟩, .bool false, .int .i64 0] 38)) w') := Lib.hid KA
  have hz1 : (w.alloc (.cells #[.int .i64 0, .string ⟨#[]⟩, .string ⟨#[]⟩, .slice none 0 0, .slice none 0 0, .bool false, .slice none 0 0, .slice none 0 0, .slice none 0 0, .string ⟨#[]⟩, .string ⟨#[]⟩, .string ⟨#[]⟩, .string ⟨#[]⟩, .bool false, .int .i64 0] 38)).heap.size = gr + 1 := by simp [hgr]
  have ha8 : ((a : Int) == 8) = false := by simp; omega
  have CT0 : Hid (∀ n y, stK L E o 1 n r = some y → ∃ n', stF L E o n' a r = some y) := Lib.hid (fun n y h => ⟨n, by rw [stF_kind hk (by omega)]; exact h⟩)
  clear h hG hk KA h0
  go_enter Tryz.func48, Tryz.ntmps48
  go_upto_region 1 with fail
  generalize w.alloc (.cells #[.int .i64 0, .string ⟨#[]⟩, .string ⟨#[]⟩, .slice none 0 0, .slice none 0 0, .bool false, .slice none 0 0, .slice none 0 0, .slice none 0 0, .string ⟨#[]⟩, .string ⟨#[]⟩, .string ⟨#[]⟩, .string ⟨#[]⟩, .bool false, .int .i64 0] 38) = w1 at *
  go_upto_region 2 with (first
    | (go_at_call 74; refine KH.out.mono ?_; rintro e w2 ⟨rfl, hP, hF⟩; have P2 := Lib.hid hP; have B2 : Hid (Blk w2 gr 38 z38) := Lib.hid ((hF.block gr (by omega) (by omega)).trans b0.out); have M2 : Hid (Mo w2 m) := Lib.hid ((hF.block m (by omega) hq).trans M1.out); have G2 := Lib.hid (G1.out.fq hF (by omega) hq2); have F2 := Lib.hid (F1.out.trans (hF.mono F1.out.size)); clear hP hF)
    | ((with_reducible refine at_store (t := 38) ?_); have AL3 : Below w2.heap.size w2 (w2.alloc (.cells #[.int .i64 0, .string ⟨#[]⟩, .string ⟨#[]⟩, .slice none 0 0, .slice none 0 0, .bool false, .slice none 0 0, .slice none 0 0, .slice none 0 0, .string ⟨#[]⟩, .string ⟨#[]⟩, .string ⟨#[]⟩, .string ⟨#[]⟩, .bool false, .int .i64 0] 38)) := (Below.refl _ _).alloc (Nat.le_refl _) _; have K3 : Blk (w2.alloc (.cells #[.int .i64 0, .string ⟨#[]⟩, .string ⟨#[]⟩, .slice none 0 0, .slice none 0 0, .bool false, .slice none 0 0, .slice none 0 0, .slice none 0 0, .string ⟨#[]⟩, .string ⟨#[]⟩, .string ⟨#[]⟩, .string ⟨#[]⟩, .bool false, .int .i64 0] 38)) w2.heap.size 38 #[.int .i64 0, .string ⟨#[]⟩, .string ⟨#[]⟩, .slice none 0 0, .slice none 0 0, .bool false, .slice none 0 0, .slice none 0 0, .slice none 0 0, .string ⟨#[]⟩, .string ⟨#[]⟩, .string ⟨#[]⟩, .string ⟨#[]⟩, .bool false, .int .i64 0] := Blk.new _ _ _; refine wpList_store_blk _ rfl 38 _ _ rfl w2.heap.size _ 38 [.int .i64 1, .string ⟨#[]⟩, .string ⟨#[]⟩, .slice none 0 0, .slice none 0 0, .bool false, .slice none 0 0, .slice none 0 0, .slice none 0 0, .string ⟨#[]⟩, .string ⟨#[]⟩, .string ⟨#[]⟩, .string ⟨#[]⟩, .bool false, .int .i64 (-1)] rfl rfl K3 rfl Tryz.i38 (by simp [Value.oneCell']) ?_; intro w3 hb3 ho3; have Z3 := Lib.hid (Zx.start (k := 1) B2.out P2.out M2.out G2.out F2.out hm hq h2 hq2 hgr (by omega) hb3 (AL3.trans (ho3.below (Nat.le_refl _)))); clear hb3 ho3 AL3 K3))
  clear P2 B2 M2 G2 F2 KH b0 F1 G1 M1 P1
  generalize w2.heap.size = g at *
  generalize w3.heap.size = D at *
  go_upto_region 4 with fail
  have Z4 := Lib.hid (Z3.out.below (w' := w3.drew) ⟨rfl, rfl, rfl, Nat.le_refl _, fun _ _ => rfl⟩)
  refine wp_region_held_drew (S := fun w' => w'.cell? ⟨g, 0, none⟩ = some (.int .i64 1) ∧ w'.cell? ⟨0, 1, none⟩ = some (.string ⟨#[67, 82, 69, 65, 84, 69]⟩)) (by kernel_rfl) ⟨Z4.out.bx.blk.cell 0, Z4.out.bx.gp.fw 1 (by decide)⟩ (fun hHeld => ?_)
  generalize w3.drew = w4 at *
  clear Z3
  refine take_d (i := 0) (d := 16) (v := ?v8_16) rfl rfl (by kernel_rfl) (by kernel_rfl) (by kernel_rfl) (fun _ _ _ h => h) (Or.inl ⟨by kernel_rfl, ?v8_16h⟩) hHeld ?v8_16n
  case v8_16h => (intro w hSw; (try dsimp only at hSw); go_split_ands; go_simp; (try exact rfl))
  try simp only [Act.put, List.setIfInBounds_toArray, List.set_cons_zero, List.set_cons_succ]
  refine take_d (i := 1) (d := 17) (v := ?v9_17) rfl rfl (by kernel_rfl) (by kernel_rfl) (by kernel_rfl) (fun _ _ _ h => h) (Or.inl ⟨by kernel_rfl, ?v9_17h⟩) hHeld ?v9_17n
  case v9_17h => (intro w hSw; (try dsimp only at hSw); go_split_ands; go_simp; (try exact rfl))
  try simp only [Act.put, List.setIfInBounds_toArray, List.set_cons_zero, List.set_cons_succ]
  refine take_d (i := 2) (d := 18) (v := ?v10_18) rfl rfl (by kernel_rfl) (by kernel_rfl) (by kernel_rfl) (fun _ _ _ h => h) (Or.inl ⟨by kernel_rfl, ?v10_18h⟩) hHeld ?v10_18n
  case v10_18h => (intro w hSw; (try dsimp only at hSw); go_split_ands; go_simp; (try exact rfl))
  try simp only [Act.put, List.setIfInBounds_toArray, List.set_cons_zero, List.set_cons_succ]
  refine take_d (i := 3) (d := 19) (v := ?v11_19) rfl rfl (by kernel_rfl) (by kernel_rfl) (by kernel_rfl) (fun _ _ _ h => h) (Or.inl ⟨by kernel_rfl, ?v11_19h⟩) hHeld ?v11_19n
  case v11_19h => (intro w hSw; (try dsimp only at hSw); go_split_ands; go_simp; (try exact rfl))
  try simp only [Act.put, List.setIfInBounds_toArray, List.set_cons_zero, List.set_cons_succ]
  refine take_d (i := 4) (d := 20) (v := ?v12_20) rfl rfl (by kernel_rfl) (by kernel_rfl) (by kernel_rfl) (fun _ _ _ h => h) (Or.inl ⟨by kernel_rfl, ?v12_20h⟩) hHeld ?v12_20n
  case v12_20h => (intro w hSw; (try dsimp only at hSw); go_split_ands; go_simp; (try exact rfl))
  try simp only [Act.put, List.setIfInBounds_toArray, List.set_cons_zero, List.set_cons_succ]
  refine take_d (i := 5) (d := 21) (v := ?v13_21) rfl rfl (by kernel_rfl) (by kernel_rfl) (by kernel_rfl) (fun _ _ _ h => h) (Or.inl ⟨by kernel_rfl, ?v13_21h⟩) hHeld ?v13_21n
  case v13_21h => (intro w hSw; (try dsimp only at hSw); go_split_ands; go_simp; (try exact rfl))
  try simp only [Act.put, List.setIfInBounds_toArray, List.set_cons_zero, List.set_cons_succ]
  refine take_d (i := 6) (d := 22) (v := ?v14_22) rfl rfl (by kernel_rfl) (by kernel_rfl) (by kernel_rfl) (fun _ _ _ h => h) (Or.inl ⟨by kernel_rfl, ?v14_22h⟩) hHeld ?v14_22n
  case v14_22h => (intro w hSw; (try dsimp only at hSw); go_split_ands; go_simp; (try exact rfl))
  try simp only [Act.put, List.setIfInBounds_toArray, List.set_cons_zero, List.set_cons_succ]
  refine wpAnyH_ready (rs := [7]) (by kernel_rfl) (by simp) ?_
  refine AllReadyH.cons rfl (fun K' hK => ?_) AllReadyH.nil
  go_simp
  have AL : Below w4.heap.size w4 (w4.alloc (.cells #[.string ⟨#[67, 82, 69, 65, 84, 69]⟩] 9)) := (Below.refl _ _).alloc (Nat.le_refl _) _
  have Z5 := Lib.hid (Z4.out.below AL)
  have WH : Hid (Calls Tryz.prog 49 #[.pointer (some ⟨q, 0, none⟩), .slice (some ⟨w4.heap.size, 0, none⟩) 1 1] (w4.alloc (.cells #[.string ⟨#[67, 82, 69, 65, 84, 69]⟩] 9)) fun e w' => Aw (rwd L E r [[67, 82, 69, 65, 84, 69]]) (fun _ r' e w' => e = .returned (.tuple #[]) ∧ r ≤ r' ∧ Zx w w' base q A c L E m r' o gr g D (sm0 1) cx0) (Fq w.heap.size q w) L E e w') := Lib.hid (Z4.out.words [[67, 82, 69, 65, 84, 69]] 1 rfl (by omega))
  refine hK.out _ _ ⟨Z5.out.bx.blk.cell 0, Z5.out.bx.gp.fw 1 (by decide)⟩ (fun hHeld => ?_)
  clear hK K' AL
  try simp only [Act.put, List.setIfInBounds_toArray, List.set_cons_zero, List.set_cons_succ]
  refine wpAnyH_ready (rs := [8]) (by kernel_rfl) (by simp) ?_
  refine AllReadyH.cons rfl (fun K' hK => ?_) AllReadyH.nil
  go_simp
  refine WH.out.mono ?_
  rintro e w6 ⟨y, hy, hm⟩
  rcases y with ⟨er, i⟩ | ⟨un6, r6⟩
  · obtain ⟨rfl, hF⟩ := hm; have hx := ct_err CT0.out (n1 := 0) hy; obtain ⟨n', hx⟩ := hx; exact ⟨rfl, n', .error (er, i), hx, hF, rfl⟩
  obtain ⟨rfl, hr6, hJ⟩ := hm
  have Z6 := Lib.hid hJ
  have CT1 := Lib.hid (ct_step CT0.out (Mono.const _) (fun _ _ => Mono.ite (creF_mono L E _ _) (Mono.ite (Mono.const _) (Mono.ite (insF_mono L E o _ _) (Mono.ite (updF_mono L E o _ _) (Mono.ite (Mono.rb (Mono.const _) fun _ _ => Mono.rb (Mono.const _) fun _ _ => Mono.rb (exB_mono _ _ _ _ _) fun _ _ => Mono.const _) (Mono.ite (chF_mono L E o _ _) (Mono.const _))))))) (n1 := 0) hy)
  refine hK.out _ _ ⟨Z6.out.bx.blk.cell 0, Z6.out.bx.gp.fw 1 (by decide)⟩ (fun hHeld => ?_)
  clear hK K' hJ hy WH Z4 Z5 CT0
  try simp only [Act.put, List.setIfInBounds_toArray, List.set_cons_zero, List.set_cons_succ]
  refine wpAnyH_done (by kernel_rfl) ?_ _
  have ck : w6.cell? ⟨g, 0, none⟩ = some (.int .i64 1) := Z6.out.bx.blk.cell 0
  have CT2 : Hid (∀ (n : Nat) y, creF L E n r6 (sm0 1) = some y → ∃ n', stF L E o n' a r = some y) := Lib.hid (fun n y h => CT1.out n y (by show (if _ then _ else _) = _; rw [if_pos rfl]; exact h))
  clear CT1
  have CH := Lib.hid (Z6.out.sub (create_any base q A c L E m o g ho w6 r6 (sm0 1) cx0 Z6.out.fresh rfl))
  go_upto_region 21 with (go_at_call 76; refine CH.out.mono ?_; rintro e w7 ⟨nC, y, hy, hm⟩; rcases y with ⟨er, i⟩ | ⟨s7, r7⟩ <;> first | (obtain ⟨rfl, hF⟩ := hm; have hx := CT2.out nC _ hy; obtain ⟨n', hx⟩ := hx; exact ⟨rfl, n', .error (er, i), hx, hF, rfl⟩) | (obtain ⟨rfl, hr7, x7, hZ⟩ := hm; have hx := CT2.out nC _ hy; have Z7 := Lib.hid hZ; clear hZ hy))
  obtain ⟨n', hx⟩ := hx
  clear CH CT2 ck
  go_wp2_with (first
    | ((with_reducible refine at_load (t := 38) ?_); refine wpList_load_mid rfl 38 _ rfl g 0 rfl (smC s7 x7) _ (Blk.rng (cs := smC s7 x7) Z7.out.bx.blk) Tryz.underlying38 rfl Tryz.i38 ?_)
    | ((with_reducible refine at_store (t := 38) ?_); refine wpList_store_blk _ rfl 38 _ _ rfl gr _ 38 (smC s7 x7) rfl rfl Z7.out.z rfl Tryz.i38 (smC_one s7 x7) ?_; intro w90 hb90 ho90; have X90 := Lib.hid hb90; have DN := Lib.hid (Z7.out.done hb0 ho90); clear hb90 ho90))
  obtain ⟨d1, d2, d3, d4⟩ := DN.out
  exact bodyPost_ret (ret_cell1_tmp rfl _ _ gr 38 _ _ rfl X90.out Tryz.underlying38 rfl Tryz.i38) rfl ⟨n', .ok (_, r7), hx, d1, _, rfl, by omega, d2, d3, d4⟩
set_option maxRecDepth 100000 in
set_option maxHeartbeats 8000000 in
theorem stmt_2 (w : World) (base q : Nat) (A : Option Addr) (c : Nat) (L : List Tk) (E m r o : Nat) (B : Option Addr) (n nc : Nat) (h : Sx w base q A c L E m r o B n nc) (hG : Gp w) (h2 : 2 ≤ base) (hq2 : 2 ≤ q) (ho : o ≤ 16) (a : Nat) (ha : a < 8) (hk : kindF L E r = .ok (2, r)) :
    Calls Tryz.prog 48 #[.pointer (some ⟨q, 0, none⟩), .int .i64 (a : Int)] w (Stx w base q A c L E m r o a) := by
  obtain ⟨gr, hgr⟩ : ∃ g, w.heap.size = g := ⟨_, rfl⟩
  have h0 : Below w.heap.size w (w.alloc (.cells #[.int .i64 0, .string ⟨#[]⟩, .string ⟨#[]⟩, .slice none 0 0, .slice none 0 0, .bool false, .slice none 0 0, .slice none 0 0, .slice none 0 0, .string ⟨#[]⟩, .string ⟨#[]⟩, .string ⟨#[]⟩, .string ⟨#[]⟩, .bool false, .int .i64 0] 38)) := (Below.refl _ _).alloc (Nat.le_refl _) _
  have b0 : Hid (Blk (w.alloc (.cells #[.int .i64 0, .string ⟨#[]⟩, .string ⟨#[]⟩, .slice none 0 0, .slice none 0 0, .bool false, .slice none 0 0, .slice none 0 0, .slice none 0 0, .string ⟨#[]⟩, .string ⟨#[]⟩, .string ⟨#[]⟩, .string ⟨#[]⟩, .bool false, .int .i64 0] 38)) gr 38 z38) := Lib.hid (by rw [← hgr]; exact Blk.new _ _ _)
  have hb0 := h.pt.le
  have hlt := h.pt.lt
  have hm := h.hm
  have hq := h.hq
  have P1 := Lib.hid (h.pt.on h0)
  have M1 : Hid (Mo (w.alloc (.cells #[.int .i64 0, .string ⟨#[]⟩, .string ⟨#[]⟩, .slice none 0 0, .slice none 0 0, .bool false, .slice none 0 0, .slice none 0 0, .slice none 0 0, .string ⟨#[]⟩, .string ⟨#[]⟩, .string ⟨#[]⟩, .string ⟨#[]⟩, .bool false, .int .i64 0] 38)) m) := Lib.hid ((h0.block m (by omega)).trans h.mo)
  have F1 := Lib.hid (Fq.of (q := q) h0 (Nat.le_refl _))
  have G1 := Lib.hid (hG.fq F1.out (by omega) hq2)
  have KA := kind_any _ base q c E r o A L _ _ P1.out G1.out
  rw [hk] at KA
  have KH : Hid (Calls Tryz.prog 74 #[.pointer (some ⟨q, 0, none⟩)] (w.alloc (.cells #[.int .i64 0, .string ⟨#[]⟩, .string ⟨#[]⟩, .slice none 0 0, .slice none 0 0, .bool false, .slice none 0 0, .slice none 0 0, .slice none 0 0, .string ⟨#[]⟩, .string ⟨#[]⟩, .string ⟨#[]⟩, .string ⟨#[]⟩, .bool false, .int .i64 0] 38)) fun e w' => e = .returned (.int .i64 2) ∧ Pt w' base q A c L E (.map (some m)) (.slice B n nc) r o ∧ Fq (w.alloc (.cells #[.int .i64 0, .string ⟨#[]⟩, .string ⟨#[]⟩, .slice none 0 0, .slice none 0 0, .bool false, .slice none 0 0, .slice none 0 0, .slice none 0 0, .string ⟨#[]⟩, .string ⟨#[]⟩, .string ⟨#[]⟩, .string ⟨#[]⟩, .bool false, .int .i64 0] 38)).heap.size q (w.alloc (.cells #[.int .i64 0, .string ⟨#[]⟩, .string ⟨#[]⟩, .slice none 0 0, .slice none 0 0, .bool false, .slice none 0 0, .slice none 0 0, .slice none 0 0, .string ⟨#[]⟩, .string ⟨#[]⟩, .string ⟨#[]⟩, .string ⟨#[]⟩, .bool false, .int .i64 0] 38)) w') := Lib.hid KA
  have hz1 : (w.alloc (.cells #[.int .i64 0, .string ⟨#[]⟩, .string ⟨#[]⟩, .slice none 0 0, .slice none 0 0, .bool false, .slice none 0 0, .slice none 0 0, .slice none 0 0, .string ⟨#[]⟩, .string ⟨#[]⟩, .string ⟨#[]⟩, .string ⟨#[]⟩, .bool false, .int .i64 0] 38)).heap.size = gr + 1 := by simp [hgr]
  have ha8 : ((a : Int) == 8) = false := by simp; omega
  have CT0 : Hid (∀ n y, stK L E o 2 n r = some y → ∃ n', stF L E o n' a r = some y) := Lib.hid (fun n y h => ⟨n, by rw [stF_kind hk (by omega)]; exact h⟩)
  clear h hG hk KA h0
  go_enter Tryz.func48, Tryz.ntmps48
  go_upto_region 1 with fail
  generalize w.alloc (.cells #[.int .i64 0, .string ⟨#[]⟩, .string ⟨#[]⟩, .slice none 0 0, .slice none 0 0, .bool false, .slice none 0 0, .slice none 0 0, .slice none 0 0, .string ⟨#[]⟩, .string ⟨#[]⟩, .string ⟨#[]⟩, .string ⟨#[]⟩, .bool false, .int .i64 0] 38) = w1 at *
  go_upto_region 2 with (first
    | (go_at_call 74; refine KH.out.mono ?_; rintro e w2 ⟨rfl, hP, hF⟩; have P2 := Lib.hid hP; have B2 : Hid (Blk w2 gr 38 z38) := Lib.hid ((hF.block gr (by omega) (by omega)).trans b0.out); have M2 : Hid (Mo w2 m) := Lib.hid ((hF.block m (by omega) hq).trans M1.out); have G2 := Lib.hid (G1.out.fq hF (by omega) hq2); have F2 := Lib.hid (F1.out.trans (hF.mono F1.out.size)); clear hP hF)
    | ((with_reducible refine at_store (t := 38) ?_); have AL3 : Below w2.heap.size w2 (w2.alloc (.cells #[.int .i64 0, .string ⟨#[]⟩, .string ⟨#[]⟩, .slice none 0 0, .slice none 0 0, .bool false, .slice none 0 0, .slice none 0 0, .slice none 0 0, .string ⟨#[]⟩, .string ⟨#[]⟩, .string ⟨#[]⟩, .string ⟨#[]⟩, .bool false, .int .i64 0] 38)) := (Below.refl _ _).alloc (Nat.le_refl _) _; have K3 : Blk (w2.alloc (.cells #[.int .i64 0, .string ⟨#[]⟩, .string ⟨#[]⟩, .slice none 0 0, .slice none 0 0, .bool false, .slice none 0 0, .slice none 0 0, .slice none 0 0, .string ⟨#[]⟩, .string ⟨#[]⟩, .string ⟨#[]⟩, .string ⟨#[]⟩, .bool false, .int .i64 0] 38)) w2.heap.size 38 #[.int .i64 0, .string ⟨#[]⟩, .string ⟨#[]⟩, .slice none 0 0, .slice none 0 0, .bool false, .slice none 0 0, .slice none 0 0, .slice none 0 0, .string ⟨#[]⟩, .string ⟨#[]⟩, .string ⟨#[]⟩, .string ⟨#[]⟩, .bool false, .int .i64 0] := Blk.new _ _ _; refine wpList_store_blk _ rfl 38 _ _ rfl w2.heap.size _ 38 [.int .i64 2, .string ⟨#[]⟩, .string ⟨#[]⟩, .slice none 0 0, .slice none 0 0, .bool false, .slice none 0 0, .slice none 0 0, .slice none 0 0, .string ⟨#[]⟩, .string ⟨#[]⟩, .string ⟨#[]⟩, .string ⟨#[]⟩, .bool false, .int .i64 (-1)] rfl rfl K3 rfl Tryz.i38 (by simp [Value.oneCell']) ?_; intro w3 hb3 ho3; have Z3 := Lib.hid (Zx.start (k := 2) B2.out P2.out M2.out G2.out F2.out hm hq h2 hq2 hgr (by omega) hb3 (AL3.trans (ho3.below (Nat.le_refl _)))); clear hb3 ho3 AL3 K3))
  clear P2 B2 M2 G2 F2 KH b0 F1 G1 M1 P1
  generalize w2.heap.size = g at *
  generalize w3.heap.size = D at *
  go_upto_region 4 with fail
  have Z4 := Lib.hid (Z3.out.below (w' := w3.drew) ⟨rfl, rfl, rfl, Nat.le_refl _, fun _ _ => rfl⟩)
  refine wp_region_held_drew (S := fun w' => w'.cell? ⟨g, 0, none⟩ = some (.int .i64 2) ∧ w'.cell? ⟨0, 2, none⟩ = some (.string ⟨#[68, 82, 79, 80]⟩)) (by kernel_rfl) ⟨Z4.out.bx.blk.cell 0, Z4.out.bx.gp.fw 2 (by decide)⟩ (fun hHeld => ?_)
  generalize w3.drew = w4 at *
  clear Z3
  refine take_d (i := 0) (d := 16) (v := ?v15_16) rfl rfl (by kernel_rfl) (by kernel_rfl) (by kernel_rfl) (fun _ _ _ h => h) (Or.inl ⟨by kernel_rfl, ?v15_16h⟩) hHeld ?v15_16n
  case v15_16h => (intro w hSw; (try dsimp only at hSw); go_split_ands; go_simp; (try exact rfl))
  try simp only [Act.put, List.setIfInBounds_toArray, List.set_cons_zero, List.set_cons_succ]
  refine take_d (i := 1) (d := 17) (v := ?v16_17) rfl rfl (by kernel_rfl) (by kernel_rfl) (by kernel_rfl) (fun _ _ _ h => h) (Or.inl ⟨by kernel_rfl, ?v16_17h⟩) hHeld ?v16_17n
  case v16_17h => (intro w hSw; (try dsimp only at hSw); go_split_ands; go_simp; (try exact rfl))
  try simp only [Act.put, List.setIfInBounds_toArray, List.set_cons_zero, List.set_cons_succ]
  refine take_d (i := 2) (d := 18) (v := ?v17_18) rfl rfl (by kernel_rfl) (by kernel_rfl) (by kernel_rfl) (fun _ _ _ h => h) (Or.inl ⟨by kernel_rfl, ?v17_18h⟩) hHeld ?v17_18n
  case v17_18h => (intro w hSw; (try dsimp only at hSw); go_split_ands; go_simp; (try exact rfl))
  try simp only [Act.put, List.setIfInBounds_toArray, List.set_cons_zero, List.set_cons_succ]
  refine take_d (i := 3) (d := 19) (v := ?v18_19) rfl rfl (by kernel_rfl) (by kernel_rfl) (by kernel_rfl) (fun _ _ _ h => h) (Or.inl ⟨by kernel_rfl, ?v18_19h⟩) hHeld ?v18_19n
  case v18_19h => (intro w hSw; (try dsimp only at hSw); go_split_ands; go_simp; (try exact rfl))
  try simp only [Act.put, List.setIfInBounds_toArray, List.set_cons_zero, List.set_cons_succ]
  refine take_d (i := 4) (d := 20) (v := ?v19_20) rfl rfl (by kernel_rfl) (by kernel_rfl) (by kernel_rfl) (fun _ _ _ h => h) (Or.inl ⟨by kernel_rfl, ?v19_20h⟩) hHeld ?v19_20n
  case v19_20h => (intro w hSw; (try dsimp only at hSw); go_split_ands; go_simp; (try exact rfl))
  try simp only [Act.put, List.setIfInBounds_toArray, List.set_cons_zero, List.set_cons_succ]
  refine take_d (i := 5) (d := 21) (v := ?v20_21) rfl rfl (by kernel_rfl) (by kernel_rfl) (by kernel_rfl) (fun _ _ _ h => h) (Or.inl ⟨by kernel_rfl, ?v20_21h⟩) hHeld ?v20_21n
  case v20_21h => (intro w hSw; (try dsimp only at hSw); go_split_ands; go_simp; (try exact rfl))
  try simp only [Act.put, List.setIfInBounds_toArray, List.set_cons_zero, List.set_cons_succ]
  refine take_d (i := 6) (d := 22) (v := ?v21_22) rfl rfl (by kernel_rfl) (by kernel_rfl) (by kernel_rfl) (fun _ _ _ h => h) (Or.inl ⟨by kernel_rfl, ?v21_22h⟩) hHeld ?v21_22n
  case v21_22h => (intro w hSw; (try dsimp only at hSw); go_split_ands; go_simp; (try exact rfl))
  try simp only [Act.put, List.setIfInBounds_toArray, List.set_cons_zero, List.set_cons_succ]
  refine wpAnyH_ready (rs := [7]) (by kernel_rfl) (by simp) ?_
  refine AllReadyH.cons rfl (fun K' hK => ?_) AllReadyH.nil
  go_simp
  have AL : Below w4.heap.size w4 (w4.alloc (.cells #[.string ⟨#[68, 82, 79, 80]⟩] 9)) := (Below.refl _ _).alloc (Nat.le_refl _) _
  have Z5 := Lib.hid (Z4.out.below AL)
  have WH : Hid (Calls Tryz.prog 49 #[.pointer (some ⟨q, 0, none⟩), .slice (some ⟨w4.heap.size, 0, none⟩) 1 1] (w4.alloc (.cells #[.string ⟨#[68, 82, 79, 80]⟩] 9)) fun e w' => Aw (rwd L E r [[68, 82, 79, 80]]) (fun _ r' e w' => e = .returned (.tuple #[]) ∧ r ≤ r' ∧ Zx w w' base q A c L E m r' o gr g D (sm0 2) cx0) (Fq w.heap.size q w) L E e w') := Lib.hid (Z4.out.words [[68, 82, 79, 80]] 1 rfl (by omega))
  refine hK.out _ _ ⟨Z5.out.bx.blk.cell 0, Z5.out.bx.gp.fw 2 (by decide)⟩ (fun hHeld => ?_)
  clear hK K' AL
  try simp only [Act.put, List.setIfInBounds_toArray, List.set_cons_zero, List.set_cons_succ]
  refine wpAnyH_ready (rs := [8]) (by kernel_rfl) (by simp) ?_
  refine AllReadyH.cons rfl (fun K' hK => ?_) AllReadyH.nil
  go_simp
  refine WH.out.mono ?_
  rintro e w6 ⟨y, hy, hm⟩
  rcases y with ⟨er, i⟩ | ⟨un6, r6⟩
  · obtain ⟨rfl, hF⟩ := hm; have hx := ct_err CT0.out (n1 := 0) hy; obtain ⟨n', hx⟩ := hx; exact ⟨rfl, n', .error (er, i), hx, hF, rfl⟩
  obtain ⟨rfl, hr6, hJ⟩ := hm
  have Z6 := Lib.hid hJ
  have CT1 := Lib.hid (ct_step CT0.out (Mono.const _) (fun _ _ => Mono.ite (creF_mono L E _ _) (Mono.ite (Mono.const _) (Mono.ite (insF_mono L E o _ _) (Mono.ite (updF_mono L E o _ _) (Mono.ite (Mono.rb (Mono.const _) fun _ _ => Mono.rb (Mono.const _) fun _ _ => Mono.rb (exB_mono _ _ _ _ _) fun _ _ => Mono.const _) (Mono.ite (chF_mono L E o _ _) (Mono.const _))))))) (n1 := 0) hy)
  refine hK.out _ _ ⟨Z6.out.bx.blk.cell 0, Z6.out.bx.gp.fw 2 (by decide)⟩ (fun hHeld => ?_)
  clear hK K' hJ hy WH Z4 Z5 CT0
  try simp only [Act.put, List.setIfInBounds_toArray, List.set_cons_zero, List.set_cons_succ]
  refine wpAnyH_done (by kernel_rfl) ?_ _
  have ck : w6.cell? ⟨g, 0, none⟩ = some (.int .i64 2) := Z6.out.bx.blk.cell 0
  have CT2 : Hid (∀ (n : Nat) y, rb (rwd L E r6 [[84, 65, 66, 76, 69]]) (fun _ r => rb (some (nameF L E r)) fun u r => rok { sm0 2 with table := u } r) = some y → ∃ n', stF L E o n' a r = some y) := Lib.hid (fun n y h => CT1.out n y (by show (if _ then _ else _) = _; rw [if_neg (by decide), if_pos rfl]; exact h))
  clear CT1
  have WH : Hid (Calls Tryz.prog 49 #[.pointer (some ⟨q, 0, none⟩), .slice (some ⟨w6.heap.size, 0, none⟩) 1 1] (w6.alloc (.cells #[.string ⟨#[84, 65, 66, 76, 69]⟩] 9)) fun e w' => Aw (rwd L E r6 [[84, 65, 66, 76, 69]]) (fun _ r' e w' => e = .returned (.tuple #[]) ∧ r6 ≤ r' ∧ Zx w w' base q A c L E m r' o gr g D (sm0 2) cx0) (Fq w.heap.size q w) L E e w') := Lib.hid (Z6.out.words [[84, 65, 66, 76, 69]] 1 rfl (by omega))
  go_upto_region 10 with (go_at_call 49; refine WH.out.mono ?_; rintro e w7 ⟨y, hy, hm⟩; rcases y with ⟨er, i⟩ | ⟨un7, r7⟩ <;> first | (obtain ⟨rfl, hF⟩ := hm; have hx := ct_err CT2.out (n1 := 0) hy; obtain ⟨n', hx⟩ := hx; exact ⟨rfl, n', .error (er, i), hx, hF, rfl⟩) | (obtain ⟨rfl, hr7, hJ⟩ := hm; have CT7 := Lib.hid (ct_step CT2.out (Mono.const _) (fun _ _ => Mono.rb (Mono.const _) fun _ _ => Mono.const _) (n1 := 0) hy); have Z7 := Lib.hid hJ; clear hJ hy))
  clear WH CT2 ck
  have NH := Lib.hid Z7.out.name
  go_upto_region 21 with (go_at_call 77; refine NH.out.mono ?_; rintro e w8 ⟨y, hy, hm⟩; rcases y with ⟨er, i⟩ | ⟨t8, r8⟩ <;> first | (obtain ⟨rfl, hF⟩ := hm; have hx := ct_err CT7.out (n1 := 0) hy; obtain ⟨n', hx⟩ := hx; exact ⟨rfl, n', .error (er, i), hx, hF, rfl⟩) | (obtain ⟨T8, hT, rfl, hr8, hJ⟩ := hm; have CT8 := Lib.hid (ct_step CT7.out (Mono.const _) (fun _ _ => Mono.const _) (n1 := 0) hy); have Z8 := Lib.hid hJ; have HT8 := Lib.hid hT; have f1 : w8.frozen? ⟨g, 1, none⟩ = false := hJ.bx.blk.frozen 1; have f2 : w8.cell? ⟨g, 1, none⟩ = some (.string ⟨#[]⟩) := hJ.bx.blk.cell 1; clear hJ hy hT))
  have Z9 := Lib.hid (Z8.out.tab HT8.out)
  clear f1 f2 Z8 NH CT7
  generalize w8.setCell ⟨g, 1, none⟩ (.string T8) = w9 at *
  obtain ⟨n', hx⟩ := CT8.out 0 _ rfl
  go_wp2_with (first
    | ((with_reducible refine at_load (t := 38) ?_); refine wpList_load_mid rfl 38 _ rfl g 0 rfl (smC { sm0 2 with table := t8 } cx0) _ (Blk.rng (cs := smC { sm0 2 with table := t8 } cx0) Z9.out.bx.blk) Tryz.underlying38 rfl Tryz.i38 ?_)
    | ((with_reducible refine at_store (t := 38) ?_); refine wpList_store_blk _ rfl 38 _ _ rfl gr _ 38 (smC { sm0 2 with table := t8 } cx0) rfl rfl Z9.out.z rfl Tryz.i38 (smC_one { sm0 2 with table := t8 } cx0) ?_; intro w90 hb90 ho90; have X90 := Lib.hid hb90; have DN := Lib.hid (Z9.out.done hb0 ho90); clear hb90 ho90))
  obtain ⟨d1, d2, d3, d4⟩ := DN.out
  exact bodyPost_ret (ret_cell1_tmp rfl _ _ gr 38 _ _ rfl X90.out Tryz.underlying38 rfl Tryz.i38) rfl ⟨n', .ok (_, r8), hx, d1, _, rfl, by omega, d2, d3, d4⟩
set_option maxRecDepth 100000 in
set_option maxHeartbeats 8000000 in
theorem stmt_3 (w : World) (base q : Nat) (A : Option Addr) (c : Nat) (L : List Tk) (E m r o : Nat) (B : Option Addr) (n nc : Nat) (h : Sx w base q A c L E m r o B n nc) (hG : Gp w) (h2 : 2 ≤ base) (hq2 : 2 ≤ q) (ho : o ≤ 16) (a : Nat) (ha : a < 8) (hk : kindF L E r = .ok (3, r)) :
    Calls Tryz.prog 48 #[.pointer (some ⟨q, 0, none⟩), .int .i64 (a : Int)] w (Stx w base q A c L E m r o a) := by
  obtain ⟨gr, hgr⟩ : ∃ g, w.heap.size = g := ⟨_, rfl⟩
  have h0 : Below w.heap.size w (w.alloc (.cells #[.int .i64 0, .string ⟨#[]⟩, .string ⟨#[]⟩, .slice none 0 0, .slice none 0 0, .bool false, .slice none 0 0, .slice none 0 0, .slice none 0 0, .string ⟨#[]⟩, .string ⟨#[]⟩, .string ⟨#[]⟩, .string ⟨#[]⟩, .bool false, .int .i64 0] 38)) := (Below.refl _ _).alloc (Nat.le_refl _) _
  have b0 : Hid (Blk (w.alloc (.cells #[.int .i64 0, .string ⟨#[]⟩, .string ⟨#[]⟩, .slice none 0 0, .slice none 0 0, .bool false, .slice none 0 0, .slice none 0 0, .slice none 0 0, .string ⟨#[]⟩, .string ⟨#[]⟩, .string ⟨#[]⟩, .string ⟨#[]⟩, .bool false, .int .i64 0] 38)) gr 38 z38) := Lib.hid (by rw [← hgr]; exact Blk.new _ _ _)
  have hb0 := h.pt.le
  have hlt := h.pt.lt
  have hm := h.hm
  have hq := h.hq
  have P1 := Lib.hid (h.pt.on h0)
  have M1 : Hid (Mo (w.alloc (.cells #[.int .i64 0, .string ⟨#[]⟩, .string ⟨#[]⟩, .slice none 0 0, .slice none 0 0, .bool false, .slice none 0 0, .slice none 0 0, .slice none 0 0, .string ⟨#[]⟩, .string ⟨#[]⟩, .string ⟨#[]⟩, .string ⟨#[]⟩, .bool false, .int .i64 0] 38)) m) := Lib.hid ((h0.block m (by omega)).trans h.mo)
  have F1 := Lib.hid (Fq.of (q := q) h0 (Nat.le_refl _))
  have G1 := Lib.hid (hG.fq F1.out (by omega) hq2)
  have KA := kind_any _ base q c E r o A L _ _ P1.out G1.out
  rw [hk] at KA
  have KH : Hid (Calls Tryz.prog 74 #[.pointer (some ⟨q, 0, none⟩)] (w.alloc (.cells #[.int .i64 0, .string ⟨#[]⟩, .string ⟨#[]⟩, .slice none 0 0, .slice none 0 0, .bool false, .slice none 0 0, .slice none 0 0, .slice none 0 0, .string ⟨#[]⟩, .string ⟨#[]⟩, .string ⟨#[]⟩, .string ⟨#[]⟩, .bool false, .int .i64 0] 38)) fun e w' => e = .returned (.int .i64 3) ∧ Pt w' base q A c L E (.map (some m)) (.slice B n nc) r o ∧ Fq (w.alloc (.cells #[.int .i64 0, .string ⟨#[]⟩, .string ⟨#[]⟩, .slice none 0 0, .slice none 0 0, .bool false, .slice none 0 0, .slice none 0 0, .slice none 0 0, .string ⟨#[]⟩, .string ⟨#[]⟩, .string ⟨#[]⟩, .string ⟨#[]⟩, .bool false, .int .i64 0] 38)).heap.size q (w.alloc (.cells #[.int .i64 0, .string ⟨#[]⟩, .string ⟨#[]⟩, .slice none 0 0, .slice none 0 0, .bool false, .slice none 0 0, .slice none 0 0, .slice none 0 0, .string ⟨#[]⟩, .string ⟨#[]⟩, .string ⟨#[]⟩, .string ⟨#[]⟩, .bool false, .int .i64 0] 38)) w') := Lib.hid KA
  have hz1 : (w.alloc (.cells #[.int .i64 0, .string ⟨#[]⟩, .string ⟨#[]⟩, .slice none 0 0, .slice none 0 0, .bool false, .slice none 0 0, .slice none 0 0, .slice none 0 0, .string ⟨#[]⟩, .string ⟨#[]⟩, .string ⟨#[]⟩, .string ⟨#[]⟩, .bool false, .int .i64 0] 38)).heap.size = gr + 1 := by simp [hgr]
  have ha8 : ((a : Int) == 8) = false := by simp; omega
  have CT0 : Hid (∀ n y, stK L E o 3 n r = some y → ∃ n', stF L E o n' a r = some y) := Lib.hid (fun n y h => ⟨n, by rw [stF_kind hk (by omega)]; exact h⟩)
  clear h hG hk KA h0
  go_enter Tryz.func48, Tryz.ntmps48
  go_upto_region 1 with fail
  generalize w.alloc (.cells #[.int .i64 0, .string ⟨#[]⟩, .string ⟨#[]⟩, .slice none 0 0, .slice none 0 0, .bool false, .slice none 0 0, .slice none 0 0, .slice none 0 0, .string ⟨#[]⟩, .string ⟨#[]⟩, .string ⟨#[]⟩, .string ⟨#[]⟩, .bool false, .int .i64 0] 38) = w1 at *
  go_upto_region 2 with (first
    | (go_at_call 74; refine KH.out.mono ?_; rintro e w2 ⟨rfl, hP, hF⟩; have P2 := Lib.hid hP; have B2 : Hid (Blk w2 gr 38 z38) := Lib.hid ((hF.block gr (by omega) (by omega)).trans b0.out); have M2 : Hid (Mo w2 m) := Lib.hid ((hF.block m (by omega) hq).trans M1.out); have G2 := Lib.hid (G1.out.fq hF (by omega) hq2); have F2 := Lib.hid (F1.out.trans (hF.mono F1.out.size)); clear hP hF)
    | ((with_reducible refine at_store (t := 38) ?_); have AL3 : Below w2.heap.size w2 (w2.alloc (.cells #[.int .i64 0, .string ⟨#[]⟩, .string ⟨#[]⟩, .slice none 0 0, .slice none 0 0, .bool false, .slice none 0 0, .slice none 0 0, .slice none 0 0, .string ⟨#[]⟩, .string ⟨#[]⟩, .string ⟨#[]⟩, .string ⟨#[]⟩, .bool false, .int .i64 0] 38)) := (Below.refl _ _).alloc (Nat.le_refl _) _; have K3 : Blk (w2.alloc (.cells #[.int .i64 0, .string ⟨#[]⟩, .string ⟨#[]⟩, .slice none 0 0, .slice none 0 0, .bool false, .slice none 0 0, .slice none 0 0, .slice none 0 0, .string ⟨#[]⟩, .string ⟨#[]⟩, .string ⟨#[]⟩, .string ⟨#[]⟩, .bool false, .int .i64 0] 38)) w2.heap.size 38 #[.int .i64 0, .string ⟨#[]⟩, .string ⟨#[]⟩, .slice none 0 0, .slice none 0 0, .bool false, .slice none 0 0, .slice none 0 0, .slice none 0 0, .string ⟨#[]⟩, .string ⟨#[]⟩, .string ⟨#[]⟩, .string ⟨#[]⟩, .bool false, .int .i64 0] := Blk.new _ _ _; refine wpList_store_blk _ rfl 38 _ _ rfl w2.heap.size _ 38 [.int .i64 3, .string ⟨#[]⟩, .string ⟨#[]⟩, .slice none 0 0, .slice none 0 0, .bool false, .slice none 0 0, .slice none 0 0, .slice none 0 0, .string ⟨#[]⟩, .string ⟨#[]⟩, .string ⟨#[]⟩, .string ⟨#[]⟩, .bool false, .int .i64 (-1)] rfl rfl K3 rfl Tryz.i38 (by simp [Value.oneCell']) ?_; intro w3 hb3 ho3; have Z3 := Lib.hid (Zx.start (k := 3) B2.out P2.out M2.out G2.out F2.out hm hq h2 hq2 hgr (by omega) hb3 (AL3.trans (ho3.below (Nat.le_refl _)))); clear hb3 ho3 AL3 K3))
  clear P2 B2 M2 G2 F2 KH b0 F1 G1 M1 P1
  generalize w2.heap.size = g at *
  generalize w3.heap.size = D at *
  go_upto_region 4 with fail
  have Z4 := Lib.hid (Z3.out.below (w' := w3.drew) ⟨rfl, rfl, rfl, Nat.le_refl _, fun _ _ => rfl⟩)
  refine wp_region_held_drew (S := fun w' => w'.cell? ⟨g, 0, none⟩ = some (.int .i64 3) ∧ w'.cell? ⟨0, 3, none⟩ = some (.string ⟨#[73, 78, 83, 69, 82, 84]⟩)) (by kernel_rfl) ⟨Z4.out.bx.blk.cell 0, Z4.out.bx.gp.fw 3 (by decide)⟩ (fun hHeld => ?_)
  generalize w3.drew = w4 at *
  clear Z3
  refine take_d (i := 0) (d := 16) (v := ?v22_16) rfl rfl (by kernel_rfl) (by kernel_rfl) (by kernel_rfl) (fun _ _ _ h => h) (Or.inl ⟨by kernel_rfl, ?v22_16h⟩) hHeld ?v22_16n
  case v22_16h => (intro w hSw; (try dsimp only at hSw); go_split_ands; go_simp; (try exact rfl))
  try simp only [Act.put, List.setIfInBounds_toArray, List.set_cons_zero, List.set_cons_succ]
  refine take_d (i := 1) (d := 17) (v := ?v23_17) rfl rfl (by kernel_rfl) (by kernel_rfl) (by kernel_rfl) (fun _ _ _ h => h) (Or.inl ⟨by kernel_rfl, ?v23_17h⟩) hHeld ?v23_17n
  case v23_17h => (intro w hSw; (try dsimp only at hSw); go_split_ands; go_simp; (try exact rfl))
  try simp only [Act.put, List.setIfInBounds_toArray, List.set_cons_zero, List.set_cons_succ]
  refine take_d (i := 2) (d := 18) (v := ?v24_18) rfl rfl (by kernel_rfl) (by kernel_rfl) (by kernel_rfl) (fun _ _ _ h => h) (Or.inl ⟨by kernel_rfl, ?v24_18h⟩) hHeld ?v24_18n
  case v24_18h => (intro w hSw; (try dsimp only at hSw); go_split_ands; go_simp; (try exact rfl))
  try simp only [Act.put, List.setIfInBounds_toArray, List.set_cons_zero, List.set_cons_succ]
  refine take_d (i := 3) (d := 19) (v := ?v25_19) rfl rfl (by kernel_rfl) (by kernel_rfl) (by kernel_rfl) (fun _ _ _ h => h) (Or.inl ⟨by kernel_rfl, ?v25_19h⟩) hHeld ?v25_19n
  case v25_19h => (intro w hSw; (try dsimp only at hSw); go_split_ands; go_simp; (try exact rfl))
  try simp only [Act.put, List.setIfInBounds_toArray, List.set_cons_zero, List.set_cons_succ]
  refine take_d (i := 4) (d := 20) (v := ?v26_20) rfl rfl (by kernel_rfl) (by kernel_rfl) (by kernel_rfl) (fun _ _ _ h => h) (Or.inl ⟨by kernel_rfl, ?v26_20h⟩) hHeld ?v26_20n
  case v26_20h => (intro w hSw; (try dsimp only at hSw); go_split_ands; go_simp; (try exact rfl))
  try simp only [Act.put, List.setIfInBounds_toArray, List.set_cons_zero, List.set_cons_succ]
  refine take_d (i := 5) (d := 21) (v := ?v27_21) rfl rfl (by kernel_rfl) (by kernel_rfl) (by kernel_rfl) (fun _ _ _ h => h) (Or.inl ⟨by kernel_rfl, ?v27_21h⟩) hHeld ?v27_21n
  case v27_21h => (intro w hSw; (try dsimp only at hSw); go_split_ands; go_simp; (try exact rfl))
  try simp only [Act.put, List.setIfInBounds_toArray, List.set_cons_zero, List.set_cons_succ]
  refine take_d (i := 6) (d := 22) (v := ?v28_22) rfl rfl (by kernel_rfl) (by kernel_rfl) (by kernel_rfl) (fun _ _ _ h => h) (Or.inl ⟨by kernel_rfl, ?v28_22h⟩) hHeld ?v28_22n
  case v28_22h => (intro w hSw; (try dsimp only at hSw); go_split_ands; go_simp; (try exact rfl))
  try simp only [Act.put, List.setIfInBounds_toArray, List.set_cons_zero, List.set_cons_succ]
  refine wpAnyH_ready (rs := [7]) (by kernel_rfl) (by simp) ?_
  refine AllReadyH.cons rfl (fun K' hK => ?_) AllReadyH.nil
  go_simp
  have AL : Below w4.heap.size w4 (w4.alloc (.cells #[.string ⟨#[73, 78, 83, 69, 82, 84]⟩] 9)) := (Below.refl _ _).alloc (Nat.le_refl _) _
  have Z5 := Lib.hid (Z4.out.below AL)
  have WH : Hid (Calls Tryz.prog 49 #[.pointer (some ⟨q, 0, none⟩), .slice (some ⟨w4.heap.size, 0, none⟩) 1 1] (w4.alloc (.cells #[.string ⟨#[73, 78, 83, 69, 82, 84]⟩] 9)) fun e w' => Aw (rwd L E r [[73, 78, 83, 69, 82, 84]]) (fun _ r' e w' => e = .returned (.tuple #[]) ∧ r ≤ r' ∧ Zx w w' base q A c L E m r' o gr g D (sm0 3) cx0) (Fq w.heap.size q w) L E e w') := Lib.hid (Z4.out.words [[73, 78, 83, 69, 82, 84]] 1 rfl (by omega))
  refine hK.out _ _ ⟨Z5.out.bx.blk.cell 0, Z5.out.bx.gp.fw 3 (by decide)⟩ (fun hHeld => ?_)
  clear hK K' AL
  try simp only [Act.put, List.setIfInBounds_toArray, List.set_cons_zero, List.set_cons_succ]
  refine wpAnyH_ready (rs := [8]) (by kernel_rfl) (by simp) ?_
  refine AllReadyH.cons rfl (fun K' hK => ?_) AllReadyH.nil
  go_simp
  refine WH.out.mono ?_
  rintro e w6 ⟨y, hy, hm⟩
  rcases y with ⟨er, i⟩ | ⟨un6, r6⟩
  · obtain ⟨rfl, hF⟩ := hm; have hx := ct_err CT0.out (n1 := 0) hy; obtain ⟨n', hx⟩ := hx; exact ⟨rfl, n', .error (er, i), hx, hF, rfl⟩
  obtain ⟨rfl, hr6, hJ⟩ := hm
  have Z6 := Lib.hid hJ
  have CT1 := Lib.hid (ct_step CT0.out (Mono.const _) (fun _ _ => Mono.ite (creF_mono L E _ _) (Mono.ite (Mono.const _) (Mono.ite (insF_mono L E o _ _) (Mono.ite (updF_mono L E o _ _) (Mono.ite (Mono.rb (Mono.const _) fun _ _ => Mono.rb (Mono.const _) fun _ _ => Mono.rb (exB_mono _ _ _ _ _) fun _ _ => Mono.const _) (Mono.ite (chF_mono L E o _ _) (Mono.const _))))))) (n1 := 0) hy)
  refine hK.out _ _ ⟨Z6.out.bx.blk.cell 0, Z6.out.bx.gp.fw 3 (by decide)⟩ (fun hHeld => ?_)
  clear hK K' hJ hy WH Z4 Z5 CT0
  try simp only [Act.put, List.setIfInBounds_toArray, List.set_cons_zero, List.set_cons_succ]
  refine wpAnyH_done (by kernel_rfl) ?_ _
  have ck : w6.cell? ⟨g, 0, none⟩ = some (.int .i64 3) := Z6.out.bx.blk.cell 0
  have CT2 : Hid (∀ (n : Nat) y, insF L E o n r6 (sm0 3) = some y → ∃ n', stF L E o n' a r = some y) := Lib.hid (fun n y h => CT1.out n y (by show (if _ then _ else _) = _; rw [if_neg (by decide), if_neg (by decide), if_pos rfl]; exact h))
  clear CT1
  have CH := Lib.hid (Z6.out.sub (insert_any base q A c L E m o g ho w6 r6 (sm0 3) cx0 Z6.out.fresh rfl))
  go_upto_region 21 with (go_at_call 78; refine CH.out.mono ?_; rintro e w7 ⟨nC, y, hy, hm⟩; rcases y with ⟨er, i⟩ | ⟨s7, r7⟩ <;> first | (obtain ⟨rfl, hF⟩ := hm; have hx := CT2.out nC _ hy; obtain ⟨n', hx⟩ := hx; exact ⟨rfl, n', .error (er, i), hx, hF, rfl⟩) | (obtain ⟨rfl, hr7, x7, hZ⟩ := hm; have hx := CT2.out nC _ hy; have Z7 := Lib.hid hZ; clear hZ hy))
  obtain ⟨n', hx⟩ := hx
  clear CH CT2 ck
  go_wp2_with (first
    | ((with_reducible refine at_load (t := 38) ?_); refine wpList_load_mid rfl 38 _ rfl g 0 rfl (smC s7 x7) _ (Blk.rng (cs := smC s7 x7) Z7.out.bx.blk) Tryz.underlying38 rfl Tryz.i38 ?_)
    | ((with_reducible refine at_store (t := 38) ?_); refine wpList_store_blk _ rfl 38 _ _ rfl gr _ 38 (smC s7 x7) rfl rfl Z7.out.z rfl Tryz.i38 (smC_one s7 x7) ?_; intro w90 hb90 ho90; have X90 := Lib.hid hb90; have DN := Lib.hid (Z7.out.done hb0 ho90); clear hb90 ho90))
  obtain ⟨d1, d2, d3, d4⟩ := DN.out
  exact bodyPost_ret (ret_cell1_tmp rfl _ _ gr 38 _ _ rfl X90.out Tryz.underlying38 rfl Tryz.i38) rfl ⟨n', .ok (_, r7), hx, d1, _, rfl, by omega, d2, d3, d4⟩
set_option maxRecDepth 100000 in
set_option maxHeartbeats 8000000 in
theorem stmt_4 (w : World) (base q : Nat) (A : Option Addr) (c : Nat) (L : List Tk) (E m r o : Nat) (B : Option Addr) (n nc : Nat) (h : Sx w base q A c L E m r o B n nc) (hG : Gp w) (h2 : 2 ≤ base) (hq2 : 2 ≤ q) (ho : o ≤ 16) (a : Nat) (ha : a < 8) (hk : kindF L E r = .ok (4, r)) :
    Calls Tryz.prog 48 #[.pointer (some ⟨q, 0, none⟩), .int .i64 (a : Int)] w (Stx w base q A c L E m r o a) := by
  obtain ⟨gr, hgr⟩ : ∃ g, w.heap.size = g := ⟨_, rfl⟩
  have h0 : Below w.heap.size w (w.alloc (.cells #[.int .i64 0, .string ⟨#[]⟩, .string ⟨#[]⟩, .slice none 0 0, .slice none 0 0, .bool false, .slice none 0 0, .slice none 0 0, .slice none 0 0, .string ⟨#[]⟩, .string ⟨#[]⟩, .string ⟨#[]⟩, .string ⟨#[]⟩, .bool false, .int .i64 0] 38)) := (Below.refl _ _).alloc (Nat.le_refl _) _
  have b0 : Hid (Blk (w.alloc (.cells #[.int .i64 0, .string ⟨#[]⟩, .string ⟨#[]⟩, .slice none 0 0, .slice none 0 0, .bool false, .slice none 0 0, .slice none 0 0, .slice none 0 0, .string ⟨#[]⟩, .string ⟨#[]⟩, .string ⟨#[]⟩, .string ⟨#[]⟩, .bool false, .int .i64 0] 38)) gr 38 z38) := Lib.hid (by rw [← hgr]; exact Blk.new _ _ _)
  have hb0 := h.pt.le
  have hlt := h.pt.lt
  have hm := h.hm
  have hq := h.hq
  have P1 := Lib.hid (h.pt.on h0)
  have M1 : Hid (Mo (w.alloc (.cells #[.int .i64 0, .string ⟨#[]⟩, .string ⟨#[]⟩, .slice none 0 0, .slice none 0 0, .bool false, .slice none 0 0, .slice none 0 0, .slice none 0 0, .string ⟨#[]⟩, .string ⟨#[]⟩, .string ⟨#[]⟩, .string ⟨#[]⟩, .bool false, .int .i64 0] 38)) m) := Lib.hid ((h0.block m (by omega)).trans h.mo)
  have F1 := Lib.hid (Fq.of (q := q) h0 (Nat.le_refl _))
  have G1 := Lib.hid (hG.fq F1.out (by omega) hq2)
  have KA := kind_any _ base q c E r o A L _ _ P1.out G1.out
  rw [hk] at KA
  have KH : Hid (Calls Tryz.prog 74 #[.pointer (some ⟨q, 0, none⟩)] (w.alloc (.cells #[.int .i64 0, .string ⟨#[]⟩, .string ⟨#[]⟩, .slice none 0 0, .slice none 0 0, .bool false, .slice none 0 0, .slice none 0 0, .slice none 0 0, .string ⟨#[]⟩, .string ⟨#[]⟩, .string ⟨#[]⟩, .string ⟨#[]⟩, .bool false, .int .i64 0] 38)) fun e w' => e = .returned (.int .i64 4) ∧ Pt w' base q A c L E (.map (some m)) (.slice B n nc) r o ∧ Fq (w.alloc (.cells #[.int .i64 0, .string ⟨#[]⟩, .string ⟨#[]⟩, .slice none 0 0, .slice none 0 0, .bool false, .slice none 0 0, .slice none 0 0, .slice none 0 0, .string ⟨#[]⟩, .string ⟨#[]⟩, .string ⟨#[]⟩, .string ⟨#[]⟩, .bool false, .int .i64 0] 38)).heap.size q (w.alloc (.cells #[.int .i64 0, .string ⟨#[]⟩, .string ⟨#[]⟩, .slice none 0 0, .slice none 0 0, .bool false, .slice none 0 0, .slice none 0 0, .slice none 0 0, .string ⟨#[]⟩, .string ⟨#[]⟩, .string ⟨#[]⟩, .string ⟨#[]⟩, .bool false, .int .i64 0] 38)) w') := Lib.hid KA
  have hz1 : (w.alloc (.cells #[.int .i64 0, .string ⟨#[]⟩, .string ⟨#[]⟩, .slice none 0 0, .slice none 0 0, .bool false, .slice none 0 0, .slice none 0 0, .slice none 0 0, .string ⟨#[]⟩, .string ⟨#[]⟩, .string ⟨#[]⟩, .string ⟨#[]⟩, .bool false, .int .i64 0] 38)).heap.size = gr + 1 := by simp [hgr]
  have ha8 : ((a : Int) == 8) = false := by simp; omega
  have CT0 : Hid (∀ n y, stK L E o 4 n r = some y → ∃ n', stF L E o n' a r = some y) := Lib.hid (fun n y h => ⟨n, by rw [stF_kind hk (by omega)]; exact h⟩)
  clear h hG hk KA h0
  go_enter Tryz.func48, Tryz.ntmps48
  go_upto_region 1 with fail
  generalize w.alloc (.cells #[.int .i64 0, .string ⟨#[]⟩, .string ⟨#[]⟩, .slice none 0 0, .slice none 0 0, .bool false, .slice none 0 0, .slice none 0 0, .slice none 0 0, .string ⟨#[]⟩, .string ⟨#[]⟩, .string ⟨#[]⟩, .string ⟨#[]⟩, .bool false, .int .i64 0] 38) = w1 at *
  go_upto_region 2 with (first
    | (go_at_call 74; refine KH.out.mono ?_; rintro e w2 ⟨rfl, hP, hF⟩; have P2 := Lib.hid hP; have B2 : Hid (Blk w2 gr 38 z38) := Lib.hid ((hF.block gr (by omega) (by omega)).trans b0.out); have M2 : Hid (Mo w2 m) := Lib.hid ((hF.block m (by omega) hq).trans M1.out); have G2 := Lib.hid (G1.out.fq hF (by omega) hq2); have F2 := Lib.hid (F1.out.trans (hF.mono F1.out.size)); clear hP hF)
    | ((with_reducible refine at_store (t := 38) ?_); have AL3 : Below w2.heap.size w2 (w2.alloc (.cells #[.int .i64 0, .string ⟨#[]⟩, .string ⟨#[]⟩, .slice none 0 0, .slice none 0 0, .bool false, .slice none 0 0, .slice none 0 0, .slice none 0 0, .string ⟨#[]⟩, .string ⟨#[]⟩, .string ⟨#[]⟩, .string ⟨#[]⟩, .bool false, .int .i64 0] 38)) := (Below.refl _ _).alloc (Nat.le_refl _) _; have K3 : Blk (w2.alloc (.cells #[.int .i64 0, .string ⟨#[]⟩, .string ⟨#[]⟩, .slice none 0 0, .slice none 0 0, .bool false, .slice none 0 0, .slice none 0 0, .slice none 0 0, .string ⟨#[]⟩, .string ⟨#[]⟩, .string ⟨#[]⟩, .string ⟨#[]⟩, .bool false, .int .i64 0] 38)) w2.heap.size 38 #[.int .i64 0, .string ⟨#[]⟩, .string ⟨#[]⟩, .slice none 0 0, .slice none 0 0, .bool false, .slice none 0 0, .slice none 0 0, .slice none 0 0, .string ⟨#[]⟩, .string ⟨#[]⟩, .string ⟨#[]⟩, .string ⟨#[]⟩, .bool false, .int .i64 0] := Blk.new _ _ _; refine wpList_store_blk _ rfl 38 _ _ rfl w2.heap.size _ 38 [.int .i64 4, .string ⟨#[]⟩, .string ⟨#[]⟩, .slice none 0 0, .slice none 0 0, .bool false, .slice none 0 0, .slice none 0 0, .slice none 0 0, .string ⟨#[]⟩, .string ⟨#[]⟩, .string ⟨#[]⟩, .string ⟨#[]⟩, .bool false, .int .i64 (-1)] rfl rfl K3 rfl Tryz.i38 (by simp [Value.oneCell']) ?_; intro w3 hb3 ho3; have Z3 := Lib.hid (Zx.start (k := 4) B2.out P2.out M2.out G2.out F2.out hm hq h2 hq2 hgr (by omega) hb3 (AL3.trans (ho3.below (Nat.le_refl _)))); clear hb3 ho3 AL3 K3))
  clear P2 B2 M2 G2 F2 KH b0 F1 G1 M1 P1
  generalize w2.heap.size = g at *
  generalize w3.heap.size = D at *
  go_upto_region 4 with fail
  have Z4 := Lib.hid (Z3.out.below (w' := w3.drew) ⟨rfl, rfl, rfl, Nat.le_refl _, fun _ _ => rfl⟩)
  refine wp_region_held_drew (S := fun w' => w'.cell? ⟨g, 0, none⟩ = some (.int .i64 4) ∧ w'.cell? ⟨0, 4, none⟩ = some (.string ⟨#[85, 80, 68, 65, 84, 69]⟩)) (by kernel_rfl) ⟨Z4.out.bx.blk.cell 0, Z4.out.bx.gp.fw 4 (by decide)⟩ (fun hHeld => ?_)
  generalize w3.drew = w4 at *
  clear Z3
  refine take_d (i := 0) (d := 16) (v := ?v29_16) rfl rfl (by kernel_rfl) (by kernel_rfl) (by kernel_rfl) (fun _ _ _ h => h) (Or.inl ⟨by kernel_rfl, ?v29_16h⟩) hHeld ?v29_16n
  case v29_16h => (intro w hSw; (try dsimp only at hSw); go_split_ands; go_simp; (try exact rfl))
  try simp only [Act.put, List.setIfInBounds_toArray, List.set_cons_zero, List.set_cons_succ]
  refine take_d (i := 1) (d := 17) (v := ?v30_17) rfl rfl (by kernel_rfl) (by kernel_rfl) (by kernel_rfl) (fun _ _ _ h => h) (Or.inl ⟨by kernel_rfl, ?v30_17h⟩) hHeld ?v30_17n
  case v30_17h => (intro w hSw; (try dsimp only at hSw); go_split_ands; go_simp; (try exact rfl))
  try simp only [Act.put, List.setIfInBounds_toArray, List.set_cons_zero, List.set_cons_succ]
  refine take_d (i := 2) (d := 18) (v := ?v31_18) rfl rfl (by kernel_rfl) (by kernel_rfl) (by kernel_rfl) (fun _ _ _ h => h) (Or.inl ⟨by kernel_rfl, ?v31_18h⟩) hHeld ?v31_18n
  case v31_18h => (intro w hSw; (try dsimp only at hSw); go_split_ands; go_simp; (try exact rfl))
  try simp only [Act.put, List.setIfInBounds_toArray, List.set_cons_zero, List.set_cons_succ]
  refine take_d (i := 3) (d := 19) (v := ?v32_19) rfl rfl (by kernel_rfl) (by kernel_rfl) (by kernel_rfl) (fun _ _ _ h => h) (Or.inl ⟨by kernel_rfl, ?v32_19h⟩) hHeld ?v32_19n
  case v32_19h => (intro w hSw; (try dsimp only at hSw); go_split_ands; go_simp; (try exact rfl))
  try simp only [Act.put, List.setIfInBounds_toArray, List.set_cons_zero, List.set_cons_succ]
  refine take_d (i := 4) (d := 20) (v := ?v33_20) rfl rfl (by kernel_rfl) (by kernel_rfl) (by kernel_rfl) (fun _ _ _ h => h) (Or.inl ⟨by kernel_rfl, ?v33_20h⟩) hHeld ?v33_20n
  case v33_20h => (intro w hSw; (try dsimp only at hSw); go_split_ands; go_simp; (try exact rfl))
  try simp only [Act.put, List.setIfInBounds_toArray, List.set_cons_zero, List.set_cons_succ]
  refine take_d (i := 5) (d := 21) (v := ?v34_21) rfl rfl (by kernel_rfl) (by kernel_rfl) (by kernel_rfl) (fun _ _ _ h => h) (Or.inl ⟨by kernel_rfl, ?v34_21h⟩) hHeld ?v34_21n
  case v34_21h => (intro w hSw; (try dsimp only at hSw); go_split_ands; go_simp; (try exact rfl))
  try simp only [Act.put, List.setIfInBounds_toArray, List.set_cons_zero, List.set_cons_succ]
  refine take_d (i := 6) (d := 22) (v := ?v35_22) rfl rfl (by kernel_rfl) (by kernel_rfl) (by kernel_rfl) (fun _ _ _ h => h) (Or.inl ⟨by kernel_rfl, ?v35_22h⟩) hHeld ?v35_22n
  case v35_22h => (intro w hSw; (try dsimp only at hSw); go_split_ands; go_simp; (try exact rfl))
  try simp only [Act.put, List.setIfInBounds_toArray, List.set_cons_zero, List.set_cons_succ]
  refine wpAnyH_ready (rs := [7]) (by kernel_rfl) (by simp) ?_
  refine AllReadyH.cons rfl (fun K' hK => ?_) AllReadyH.nil
  go_simp
  have AL : Below w4.heap.size w4 (w4.alloc (.cells #[.string ⟨#[85, 80, 68, 65, 84, 69]⟩] 9)) := (Below.refl _ _).alloc (Nat.le_refl _) _
  have Z5 := Lib.hid (Z4.out.below AL)
  have WH : Hid (Calls Tryz.prog 49 #[.pointer (some ⟨q, 0, none⟩), .slice (some ⟨w4.heap.size, 0, none⟩) 1 1] (w4.alloc (.cells #[.string ⟨#[85, 80, 68, 65, 84, 69]⟩] 9)) fun e w' => Aw (rwd L E r [[85, 80, 68, 65, 84, 69]]) (fun _ r' e w' => e = .returned (.tuple #[]) ∧ r ≤ r' ∧ Zx w w' base q A c L E m r' o gr g D (sm0 4) cx0) (Fq w.heap.size q w) L E e w') := Lib.hid (Z4.out.words [[85, 80, 68, 65, 84, 69]] 1 rfl (by omega))
  refine hK.out _ _ ⟨Z5.out.bx.blk.cell 0, Z5.out.bx.gp.fw 4 (by decide)⟩ (fun hHeld => ?_)
  clear hK K' AL
  try simp only [Act.put, List.setIfInBounds_toArray, List.set_cons_zero, List.set_cons_succ]
  refine wpAnyH_ready (rs := [8]) (by kernel_rfl) (by simp) ?_
  refine AllReadyH.cons rfl (fun K' hK => ?_) AllReadyH.nil
  go_simp
  refine WH.out.mono ?_
  rintro e w6 ⟨y, hy, hm⟩
  rcases y with ⟨er, i⟩ | ⟨un6, r6⟩
  · obtain ⟨rfl, hF⟩ := hm; have hx := ct_err CT0.out (n1 := 0) hy; obtain ⟨n', hx⟩ := hx; exact ⟨rfl, n', .error (er, i), hx, hF, rfl⟩
  obtain ⟨rfl, hr6, hJ⟩ := hm
  have Z6 := Lib.hid hJ
  have CT1 := Lib.hid (ct_step CT0.out (Mono.const _) (fun _ _ => Mono.ite (creF_mono L E _ _) (Mono.ite (Mono.const _) (Mono.ite (insF_mono L E o _ _) (Mono.ite (updF_mono L E o _ _) (Mono.ite (Mono.rb (Mono.const _) fun _ _ => Mono.rb (Mono.const _) fun _ _ => Mono.rb (exB_mono _ _ _ _ _) fun _ _ => Mono.const _) (Mono.ite (chF_mono L E o _ _) (Mono.const _))))))) (n1 := 0) hy)
  refine hK.out _ _ ⟨Z6.out.bx.blk.cell 0, Z6.out.bx.gp.fw 4 (by decide)⟩ (fun hHeld => ?_)
  clear hK K' hJ hy WH Z4 Z5 CT0
  try simp only [Act.put, List.setIfInBounds_toArray, List.set_cons_zero, List.set_cons_succ]
  refine wpAnyH_done (by kernel_rfl) ?_ _
  have ck : w6.cell? ⟨g, 0, none⟩ = some (.int .i64 4) := Z6.out.bx.blk.cell 0
  have CT2 : Hid (∀ (n : Nat) y, updF L E o n r6 (sm0 4) = some y → ∃ n', stF L E o n' a r = some y) := Lib.hid (fun n y h => CT1.out n y (by show (if _ then _ else _) = _; rw [if_neg (by decide), if_neg (by decide), if_neg (by decide), if_pos rfl]; exact h))
  clear CT1
  have CH := Lib.hid (Z6.out.sub (update_any base q A c L E m o g ho w6 r6 (sm0 4) cx0 Z6.out.fresh rfl))
  go_upto_region 21 with (go_at_call 79; refine CH.out.mono ?_; rintro e w7 ⟨nC, y, hy, hm⟩; rcases y with ⟨er, i⟩ | ⟨s7, r7⟩ <;> first | (obtain ⟨rfl, hF⟩ := hm; have hx := CT2.out nC _ hy; obtain ⟨n', hx⟩ := hx; exact ⟨rfl, n', .error (er, i), hx, hF, rfl⟩) | (obtain ⟨rfl, hr7, x7, hZ⟩ := hm; have hx := CT2.out nC _ hy; have Z7 := Lib.hid hZ; clear hZ hy))
  obtain ⟨n', hx⟩ := hx
  clear CH CT2 ck
  go_wp2_with (first
    | ((with_reducible refine at_load (t := 38) ?_); refine wpList_load_mid rfl 38 _ rfl g 0 rfl (smC s7 x7) _ (Blk.rng (cs := smC s7 x7) Z7.out.bx.blk) Tryz.underlying38 rfl Tryz.i38 ?_)
    | ((with_reducible refine at_store (t := 38) ?_); refine wpList_store_blk _ rfl 38 _ _ rfl gr _ 38 (smC s7 x7) rfl rfl Z7.out.z rfl Tryz.i38 (smC_one s7 x7) ?_; intro w90 hb90 ho90; have X90 := Lib.hid hb90; have DN := Lib.hid (Z7.out.done hb0 ho90); clear hb90 ho90))
  obtain ⟨d1, d2, d3, d4⟩ := DN.out
  exact bodyPost_ret (ret_cell1_tmp rfl _ _ gr 38 _ _ rfl X90.out Tryz.underlying38 rfl Tryz.i38) rfl ⟨n', .ok (_, r7), hx, d1, _, rfl, by omega, d2, d3, d4⟩
set_option maxRecDepth 100000 in
set_option maxHeartbeats 8000000 in
theorem stmt_5 (w : World) (base q : Nat) (A : Option Addr) (c : Nat) (L : List Tk) (E m r o : Nat) (B : Option Addr) (n nc : Nat) (h : Sx w base q A c L E m r o B n nc) (hG : Gp w) (h2 : 2 ≤ base) (hq2 : 2 ≤ q) (ho : o ≤ 16) (a : Nat) (ha : a < 8) (hk : kindF L E r = .ok (5, r)) :
    Calls Tryz.prog 48 #[.pointer (some ⟨q, 0, none⟩), .int .i64 (a : Int)] w (Stx w base q A c L E m r o a) := by
  obtain ⟨gr, hgr⟩ : ∃ g, w.heap.size = g := ⟨_, rfl⟩
  have h0 : Below w.heap.size w (w.alloc (.cells #[.int .i64 0, .string ⟨#[]⟩, .string ⟨#[]⟩, .slice none 0 0, .slice none 0 0, .bool false, .slice none 0 0, .slice none 0 0, .slice none 0 0, .string ⟨#[]⟩, .string ⟨#[]⟩, .string ⟨#[]⟩, .string ⟨#[]⟩, .bool false, .int .i64 0] 38)) := (Below.refl _ _).alloc (Nat.le_refl _) _
  have b0 : Hid (Blk (w.alloc (.cells #[.int .i64 0, .string ⟨#[]⟩, .string ⟨#[]⟩, .slice none 0 0, .slice none 0 0, .bool false, .slice none 0 0, .slice none 0 0, .slice none 0 0, .string ⟨#[]⟩, .string ⟨#[]⟩, .string ⟨#[]⟩, .string ⟨#[]⟩, .bool false, .int .i64 0] 38)) gr 38 z38) := Lib.hid (by rw [← hgr]; exact Blk.new _ _ _)
  have hb0 := h.pt.le
  have hlt := h.pt.lt
  have hm := h.hm
  have hq := h.hq
  have P1 := Lib.hid (h.pt.on h0)
  have M1 : Hid (Mo (w.alloc (.cells #[.int .i64 0, .string ⟨#[]⟩, .string ⟨#[]⟩, .slice none 0 0, .slice none 0 0, .bool false, .slice none 0 0, .slice none 0 0, .slice none 0 0, .string ⟨#[]⟩, .string ⟨#[]⟩, .string ⟨#[]⟩, .string ⟨#[]⟩, .bool false, .int .i64 0] 38)) m) := Lib.hid ((h0.block m (by omega)).trans h.mo)
  have F1 := Lib.hid (Fq.of (q := q) h0 (Nat.le_refl _))
  have G1 := Lib.hid (hG.fq F1.out (by omega) hq2)
  have KA := kind_any _ base q c E r o A L _ _ P1.out G1.out
  rw [hk] at KA
  have KH : Hid (Calls Tryz.prog 74 #[.pointer (some ⟨q, 0, none⟩)] (w.alloc (.cells #[.int .i64 0, .string ⟨#[]⟩, .string ⟨#[]⟩, .slice none 0 0, .slice none 0 0, .bool false, .slice none 0 0, .slice none 0 0, .slice none 0 0, .string ⟨#[]⟩, .string ⟨#[]⟩, .string ⟨#[]⟩, .string ⟨#[]⟩, .bool false, .int .i64 0] 38)) fun e w' => e = .returned (.int .i64 5) ∧ Pt w' base q A c L E (.map (some m)) (.slice B n nc) r o ∧ Fq (w.alloc (.cells #[.int .i64 0, .string ⟨#[]⟩, .string ⟨#[]⟩, .slice none 0 0, .slice none 0 0, .bool false, .slice none 0 0, .slice none 0 0, .slice none 0 0, .string ⟨#[]⟩, .string ⟨#[]⟩, .string ⟨#[]⟩, .string ⟨#[]⟩, .bool false, .int .i64 0] 38)).heap.size q (w.alloc (.cells #[.int .i64 0, .string ⟨#[]⟩, .string ⟨#[]⟩, .slice none 0 0, .slice none 0 0, .bool false, .slice none 0 0, .slice none 0 0, .slice none 0 0, .string ⟨#[]⟩, .string ⟨#[]⟩, .string ⟨#[]⟩, .string ⟨#[]⟩, .bool false, .int .i64 0] 38)) w') := Lib.hid KA
  have hz1 : (w.alloc (.cells #[.int .i64 0, .string ⟨#[]⟩, .string ⟨#[]⟩, .slice none 0 0, .slice none 0 0, .bool false, .slice none 0 0, .slice none 0 0, .slice none 0 0, .string ⟨#[]⟩, .string ⟨#[]⟩, .string ⟨#[]⟩, .string ⟨#[]⟩, .bool false, .int .i64 0] 38)).heap.size = gr + 1 := by simp [hgr]
  have ha8 : ((a : Int) == 8) = false := by simp; omega
  have CT0 : Hid (∀ n y, stK L E o 5 n r = some y → ∃ n', stF L E o n' a r = some y) := Lib.hid (fun n y h => ⟨n, by rw [stF_kind hk (by omega)]; exact h⟩)
  clear h hG hk KA h0
  go_enter Tryz.func48, Tryz.ntmps48
  go_upto_region 1 with fail
  generalize w.alloc (.cells #[.int .i64 0, .string ⟨#[]⟩, .string ⟨#[]⟩, .slice none 0 0, .slice none 0 0, .bool false, .slice none 0 0, .slice none 0 0, .slice none 0 0, .string ⟨#[]⟩, .string ⟨#[]⟩, .string ⟨#[]⟩, .string ⟨#[]⟩, .bool false, .int .i64 0] 38) = w1 at *
  go_upto_region 2 with (first
    | (go_at_call 74; refine KH.out.mono ?_; rintro e w2 ⟨rfl, hP, hF⟩; have P2 := Lib.hid hP; have B2 : Hid (Blk w2 gr 38 z38) := Lib.hid ((hF.block gr (by omega) (by omega)).trans b0.out); have M2 : Hid (Mo w2 m) := Lib.hid ((hF.block m (by omega) hq).trans M1.out); have G2 := Lib.hid (G1.out.fq hF (by omega) hq2); have F2 := Lib.hid (F1.out.trans (hF.mono F1.out.size)); clear hP hF)
    | ((with_reducible refine at_store (t := 38) ?_); have AL3 : Below w2.heap.size w2 (w2.alloc (.cells #[.int .i64 0, .string ⟨#[]⟩, .string ⟨#[]⟩, .slice none 0 0, .slice none 0 0, .bool false, .slice none 0 0, .slice none 0 0, .slice none 0 0, .string ⟨#[]⟩, .string ⟨#[]⟩, .string ⟨#[]⟩, .string ⟨#[]⟩, .bool false, .int .i64 0] 38)) := (Below.refl _ _).alloc (Nat.le_refl _) _; have K3 : Blk (w2.alloc (.cells #[.int .i64 0, .string ⟨#[]⟩, .string ⟨#[]⟩, .slice none 0 0, .slice none 0 0, .bool false, .slice none 0 0, .slice none 0 0, .slice none 0 0, .string ⟨#[]⟩, .string ⟨#[]⟩, .string ⟨#[]⟩, .string ⟨#[]⟩, .bool false, .int .i64 0] 38)) w2.heap.size 38 #[.int .i64 0, .string ⟨#[]⟩, .string ⟨#[]⟩, .slice none 0 0, .slice none 0 0, .bool false, .slice none 0 0, .slice none 0 0, .slice none 0 0, .string ⟨#[]⟩, .string ⟨#[]⟩, .string ⟨#[]⟩, .string ⟨#[]⟩, .bool false, .int .i64 0] := Blk.new _ _ _; refine wpList_store_blk _ rfl 38 _ _ rfl w2.heap.size _ 38 [.int .i64 5, .string ⟨#[]⟩, .string ⟨#[]⟩, .slice none 0 0, .slice none 0 0, .bool false, .slice none 0 0, .slice none 0 0, .slice none 0 0, .string ⟨#[]⟩, .string ⟨#[]⟩, .string ⟨#[]⟩, .string ⟨#[]⟩, .bool false, .int .i64 (-1)] rfl rfl K3 rfl Tryz.i38 (by simp [Value.oneCell']) ?_; intro w3 hb3 ho3; have Z3 := Lib.hid (Zx.start (k := 5) B2.out P2.out M2.out G2.out F2.out hm hq h2 hq2 hgr (by omega) hb3 (AL3.trans (ho3.below (Nat.le_refl _)))); clear hb3 ho3 AL3 K3))
  clear P2 B2 M2 G2 F2 KH b0 F1 G1 M1 P1
  generalize w2.heap.size = g at *
  generalize w3.heap.size = D at *
  go_upto_region 4 with fail
  have Z4 := Lib.hid (Z3.out.below (w' := w3.drew) ⟨rfl, rfl, rfl, Nat.le_refl _, fun _ _ => rfl⟩)
  refine wp_region_held_drew (S := fun w' => w'.cell? ⟨g, 0, none⟩ = some (.int .i64 5) ∧ w'.cell? ⟨0, 5, none⟩ = some (.string ⟨#[68, 69, 76, 69, 84, 69]⟩)) (by kernel_rfl) ⟨Z4.out.bx.blk.cell 0, Z4.out.bx.gp.fw 5 (by decide)⟩ (fun hHeld => ?_)
  generalize w3.drew = w4 at *
  clear Z3
  refine take_d (i := 0) (d := 16) (v := ?v36_16) rfl rfl (by kernel_rfl) (by kernel_rfl) (by kernel_rfl) (fun _ _ _ h => h) (Or.inl ⟨by kernel_rfl, ?v36_16h⟩) hHeld ?v36_16n
  case v36_16h => (intro w hSw; (try dsimp only at hSw); go_split_ands; go_simp; (try exact rfl))
  try simp only [Act.put, List.setIfInBounds_toArray, List.set_cons_zero, List.set_cons_succ]
  refine take_d (i := 1) (d := 17) (v := ?v37_17) rfl rfl (by kernel_rfl) (by kernel_rfl) (by kernel_rfl) (fun _ _ _ h => h) (Or.inl ⟨by kernel_rfl, ?v37_17h⟩) hHeld ?v37_17n
  case v37_17h => (intro w hSw; (try dsimp only at hSw); go_split_ands; go_simp; (try exact rfl))
  try simp only [Act.put, List.setIfInBounds_toArray, List.set_cons_zero, List.set_cons_succ]
  refine take_d (i := 2) (d := 18) (v := ?v38_18) rfl rfl (by kernel_rfl) (by kernel_rfl) (by kernel_rfl) (fun _ _ _ h => h) (Or.inl ⟨by kernel_rfl, ?v38_18h⟩) hHeld ?v38_18n
  case v38_18h => (intro w hSw; (try dsimp only at hSw); go_split_ands; go_simp; (try exact rfl))
  try simp only [Act.put, List.setIfInBounds_toArray, List.set_cons_zero, List.set_cons_succ]
  refine take_d (i := 3) (d := 19) (v := ?v39_19) rfl rfl (by kernel_rfl) (by kernel_rfl) (by kernel_rfl) (fun _ _ _ h => h) (Or.inl ⟨by kernel_rfl, ?v39_19h⟩) hHeld ?v39_19n
  case v39_19h => (intro w hSw; (try dsimp only at hSw); go_split_ands; go_simp; (try exact rfl))
  try simp only [Act.put, List.setIfInBounds_toArray, List.set_cons_zero, List.set_cons_succ]
  refine take_d (i := 4) (d := 20) (v := ?v40_20) rfl rfl (by kernel_rfl) (by kernel_rfl) (by kernel_rfl) (fun _ _ _ h => h) (Or.inl ⟨by kernel_rfl, ?v40_20h⟩) hHeld ?v40_20n
  case v40_20h => (intro w hSw; (try dsimp only at hSw); go_split_ands; go_simp; (try exact rfl))
  try simp only [Act.put, List.setIfInBounds_toArray, List.set_cons_zero, List.set_cons_succ]
  refine take_d (i := 5) (d := 21) (v := ?v41_21) rfl rfl (by kernel_rfl) (by kernel_rfl) (by kernel_rfl) (fun _ _ _ h => h) (Or.inl ⟨by kernel_rfl, ?v41_21h⟩) hHeld ?v41_21n
  case v41_21h => (intro w hSw; (try dsimp only at hSw); go_split_ands; go_simp; (try exact rfl))
  try simp only [Act.put, List.setIfInBounds_toArray, List.set_cons_zero, List.set_cons_succ]
  refine take_d (i := 6) (d := 22) (v := ?v42_22) rfl rfl (by kernel_rfl) (by kernel_rfl) (by kernel_rfl) (fun _ _ _ h => h) (Or.inl ⟨by kernel_rfl, ?v42_22h⟩) hHeld ?v42_22n
  case v42_22h => (intro w hSw; (try dsimp only at hSw); go_split_ands; go_simp; (try exact rfl))
  try simp only [Act.put, List.setIfInBounds_toArray, List.set_cons_zero, List.set_cons_succ]
  refine wpAnyH_ready (rs := [7]) (by kernel_rfl) (by simp) ?_
  refine AllReadyH.cons rfl (fun K' hK => ?_) AllReadyH.nil
  go_simp
  have AL : Below w4.heap.size w4 (w4.alloc (.cells #[.string ⟨#[68, 69, 76, 69, 84, 69]⟩] 9)) := (Below.refl _ _).alloc (Nat.le_refl _) _
  have Z5 := Lib.hid (Z4.out.below AL)
  have WH : Hid (Calls Tryz.prog 49 #[.pointer (some ⟨q, 0, none⟩), .slice (some ⟨w4.heap.size, 0, none⟩) 1 1] (w4.alloc (.cells #[.string ⟨#[68, 69, 76, 69, 84, 69]⟩] 9)) fun e w' => Aw (rwd L E r [[68, 69, 76, 69, 84, 69]]) (fun _ r' e w' => e = .returned (.tuple #[]) ∧ r ≤ r' ∧ Zx w w' base q A c L E m r' o gr g D (sm0 5) cx0) (Fq w.heap.size q w) L E e w') := Lib.hid (Z4.out.words [[68, 69, 76, 69, 84, 69]] 1 rfl (by omega))
  refine hK.out _ _ ⟨Z5.out.bx.blk.cell 0, Z5.out.bx.gp.fw 5 (by decide)⟩ (fun hHeld => ?_)
  clear hK K' AL
  try simp only [Act.put, List.setIfInBounds_toArray, List.set_cons_zero, List.set_cons_succ]
  refine wpAnyH_ready (rs := [8]) (by kernel_rfl) (by simp) ?_
  refine AllReadyH.cons rfl (fun K' hK => ?_) AllReadyH.nil
  go_simp
  refine WH.out.mono ?_
  rintro e w6 ⟨y, hy, hm⟩
  rcases y with ⟨er, i⟩ | ⟨un6, r6⟩
  · obtain ⟨rfl, hF⟩ := hm; have hx := ct_err CT0.out (n1 := 0) hy; obtain ⟨n', hx⟩ := hx; exact ⟨rfl, n', .error (er, i), hx, hF, rfl⟩
  obtain ⟨rfl, hr6, hJ⟩ := hm
  have Z6 := Lib.hid hJ
  have CT1 := Lib.hid (ct_step CT0.out (Mono.const _) (fun _ _ => Mono.ite (creF_mono L E _ _) (Mono.ite (Mono.const _) (Mono.ite (insF_mono L E o _ _) (Mono.ite (updF_mono L E o _ _) (Mono.ite (Mono.rb (Mono.const _) fun _ _ => Mono.rb (Mono.const _) fun _ _ => Mono.rb (exB_mono _ _ _ _ _) fun _ _ => Mono.const _) (Mono.ite (chF_mono L E o _ _) (Mono.const _))))))) (n1 := 0) hy)
  refine hK.out _ _ ⟨Z6.out.bx.blk.cell 0, Z6.out.bx.gp.fw 5 (by decide)⟩ (fun hHeld => ?_)
  clear hK K' hJ hy WH Z4 Z5 CT0
  try simp only [Act.put, List.setIfInBounds_toArray, List.set_cons_zero, List.set_cons_succ]
  refine wpAnyH_done (by kernel_rfl) ?_ _
  have ck : w6.cell? ⟨g, 0, none⟩ = some (.int .i64 5) := Z6.out.bx.blk.cell 0
  have CT2 : Hid (∀ (n : Nat) y, rb (rwd L E r6 [[70, 82, 79, 77]]) (fun _ r => rb (some (nameF L E r)) fun u r => rb (exB L E n [87, 72, 69, 82, 69] r o) fun ns r => rok { sm0 5 with table := u, wh := ns } r) = some y → ∃ n', stF L E o n' a r = some y) := Lib.hid (fun n y h => CT1.out n y (by show (if _ then _ else _) = _; rw [if_neg (by decide), if_neg (by decide), if_neg (by decide), if_neg (by decide), if_pos rfl]; exact h))
  clear CT1
  have WH : Hid (Calls Tryz.prog 49 #[.pointer (some ⟨q, 0, none⟩), .slice (some ⟨w6.heap.size, 0, none⟩) 1 1] (w6.alloc (.cells #[.string ⟨#[70, 82, 79, 77]⟩] 9)) fun e w' => Aw (rwd L E r6 [[70, 82, 79, 77]]) (fun _ r' e w' => e = .returned (.tuple #[]) ∧ r6 ≤ r' ∧ Zx w w' base q A c L E m r' o gr g D (sm0 5) cx0) (Fq w.heap.size q w) L E e w') := Lib.hid (Z6.out.words [[70, 82, 79, 77]] 1 rfl (by omega))
  go_upto_region 17 with (go_at_call 49; refine WH.out.mono ?_; rintro e w7 ⟨y, hy, hm⟩; rcases y with ⟨er, i⟩ | ⟨un7, r7⟩ <;> first | (obtain ⟨rfl, hF⟩ := hm; have hx := ct_err CT2.out (n1 := 0) hy; obtain ⟨n', hx⟩ := hx; exact ⟨rfl, n', .error (er, i), hx, hF, rfl⟩) | (obtain ⟨rfl, hr7, hJ⟩ := hm; have CT7 := Lib.hid (ct_step CT2.out (Mono.const _) (fun _ _ => Mono.rb (Mono.const _) fun _ _ => Mono.rb (exB_mono _ _ _ _ _) fun _ _ => Mono.const _) (n1 := 0) hy); have Z7 := Lib.hid hJ; clear hJ hy))
  clear WH CT2 ck
  have NH := Lib.hid Z7.out.name
  go_upto_region 18 with (go_at_call 77; refine NH.out.mono ?_; rintro e w8 ⟨y, hy, hm⟩; rcases y with ⟨er, i⟩ | ⟨t8, r8⟩ <;> first | (obtain ⟨rfl, hF⟩ := hm; have hx := ct_err CT7.out (n1 := 0) hy; obtain ⟨n', hx⟩ := hx; exact ⟨rfl, n', .error (er, i), hx, hF, rfl⟩) | (obtain ⟨T8, hT, rfl, hr8, hJ⟩ := hm; have CT8 := Lib.hid (ct_step CT7.out (Mono.const _) (fun _ _ => Mono.rb (exB_mono _ _ _ _ _) fun _ _ => Mono.const _) (n1 := 0) hy); have Z8 := Lib.hid hJ; have HT8 := Lib.hid hT; have f1 : w8.frozen? ⟨g, 1, none⟩ = false := hJ.bx.blk.frozen 1; have f2 : w8.cell? ⟨g, 1, none⟩ = some (.string ⟨#[]⟩) := hJ.bx.blk.cell 1; clear hJ hy hT))
  have Z9 := Lib.hid (Z8.out.tab HT8.out)
  clear f1 f2 Z8 NH CT7
  generalize w8.setCell ⟨g, 1, none⟩ (.string T8) = w9 at *
  have EH : Hid (Calls Tryz.prog 80 #[.pointer (some ⟨q, 0, none⟩), .string ⟨#[87, 72, 69, 82, 69]⟩] w9 fun e w' => An (fun n => exB L E n [87, 72, 69, 82, 69] r8 o) (fun ns r' e w' => ∃ B nc, e = .returned (.agg #[.slice B ns.length nc]) ∧ r8 ≤ r' ∧ Nds w' D B ns.length nc ns ∧ Zx w w' base q A c L E m r' o gr g D { sm0 5 with table := t8 } cx0) (Fq w.heap.size q w) L E e w') := Lib.hid (Z9.out.exB ho [87, 72, 69, 82, 69])
  go_upto_region 21 with (first | (go_at_call 80; refine EH.out.mono ?_; rintro e w10 ⟨nC, y, hy, hm⟩; rcases y with ⟨er, i⟩ | ⟨ns10, r10⟩ <;> first | (obtain ⟨rfl, hF⟩ := hm; have hx := ct_err CT8.out (n1 := nC) hy; obtain ⟨n', hx⟩ := hx; exact ⟨rfl, n', .error (er, i), hx, hF, rfl⟩) | (obtain ⟨B10, nc10, rfl, hr10, hN, hJ⟩ := hm; have CT10 := Lib.hid (ct_step CT8.out (exB_mono _ _ _ _ _) (fun _ _ => Mono.const _) (n1 := nC) hy); have Z10 := Lib.hid hJ; have N10 := Lib.hid hN; clear hJ hy hN)) | ((with_reducible refine at_store (t := 34) ?_); refine wpList_store_mid rfl 34 _ _ rfl g 8 #[.slice B10 ns10.length nc10] rfl rfl (Z10.out.there (by simp)) Tryz.i34 (by simp [Value.oneCell']) ?_))
  have Z11 := Lib.hid (Z10.out.whe N10.out)
  clear Z10 N10 EH CT8
  obtain ⟨n', hx⟩ := CT10.out 0 _ rfl
  generalize w10.setCells g 8 [.slice B10 ns10.length nc10] = w11 at *
  go_wp2_with (first
    | ((with_reducible refine at_load (t := 38) ?_); refine wpList_load_mid rfl 38 _ rfl g 0 rfl (smC { sm0 5 with table := t8, wh := ns10 } { cx0 with a5 := B10, c5 := nc10 }) _ (Blk.rng (cs := smC { sm0 5 with table := t8, wh := ns10 } { cx0 with a5 := B10, c5 := nc10 }) Z11.out.bx.blk) Tryz.underlying38 rfl Tryz.i38 ?_)
    | ((with_reducible refine at_store (t := 38) ?_); refine wpList_store_blk _ rfl 38 _ _ rfl gr _ 38 (smC { sm0 5 with table := t8, wh := ns10 } { cx0 with a5 := B10, c5 := nc10 }) rfl rfl Z11.out.z rfl Tryz.i38 (smC_one { sm0 5 with table := t8, wh := ns10 } { cx0 with a5 := B10, c5 := nc10 }) ?_; intro w90 hb90 ho90; have X90 := Lib.hid hb90; have DN := Lib.hid (Z11.out.done hb0 ho90); clear hb90 ho90))
  obtain ⟨d1, d2, d3, d4⟩ := DN.out
  exact bodyPost_ret (ret_cell1_tmp rfl _ _ gr 38 _ _ rfl X90.out Tryz.underlying38 rfl Tryz.i38) rfl ⟨n', .ok (_, r10), hx, d1, _, rfl, by omega, d2, d3, d4⟩
set_option maxRecDepth 100000 in
set_option maxHeartbeats 8000000 in
theorem stmt_6 (w : World) (base q : Nat) (A : Option Addr) (c : Nat) (L : List Tk) (E m r o : Nat) (B : Option Addr) (n nc : Nat) (h : Sx w base q A c L E m r o B n nc) (hG : Gp w) (h2 : 2 ≤ base) (hq2 : 2 ≤ q) (ho : o ≤ 16) (a : Nat) (ha : a < 8) (hk : kindF L E r = .ok (6, r)) :
    Calls Tryz.prog 48 #[.pointer (some ⟨q, 0, none⟩), .int .i64 (a : Int)] w (Stx w base q A c L E m r o a) := by
  obtain ⟨gr, hgr⟩ : ∃ g, w.heap.size = g := ⟨_, rfl⟩
  have h0 : Below w.heap.size w (w.alloc (.cells #[.int .i64 0, .string ⟨#[]⟩, .string ⟨#[]⟩, .slice none 0 0, .slice none 0 0, .bool false, .slice none 0 0, .slice none 0 0, .slice none 0 0, .string ⟨#[]⟩, .string ⟨#[]⟩, .string ⟨#[]⟩, .string ⟨#[]⟩, .bool false, .int .i64 0] 38)) := (Below.refl _ _).alloc (Nat.le_refl _) _
  have b0 : Hid (Blk (w.alloc (.cells #[.int .i64 0, .string ⟨#[]⟩, .string ⟨#[]⟩, .slice none 0 0, .slice none 0 0, .bool false, .slice none 0 0, .slice none 0 0, .slice none 0 0, .string ⟨#[]⟩, .string ⟨#[]⟩, .string ⟨#[]⟩, .string ⟨#[]⟩, .bool false, .int .i64 0] 38)) gr 38 z38) := Lib.hid (by rw [← hgr]; exact Blk.new _ _ _)
  have hb0 := h.pt.le
  have hlt := h.pt.lt
  have hm := h.hm
  have hq := h.hq
  have P1 := Lib.hid (h.pt.on h0)
  have M1 : Hid (Mo (w.alloc (.cells #[.int .i64 0, .string ⟨#[]⟩, .string ⟨#[]⟩, .slice none 0 0, .slice none 0 0, .bool false, .slice none 0 0, .slice none 0 0, .slice none 0 0, .string ⟨#[]⟩, .string ⟨#[]⟩, .string ⟨#[]⟩, .string ⟨#[]⟩, .bool false, .int .i64 0] 38)) m) := Lib.hid ((h0.block m (by omega)).trans h.mo)
  have F1 := Lib.hid (Fq.of (q := q) h0 (Nat.le_refl _))
  have G1 := Lib.hid (hG.fq F1.out (by omega) hq2)
  have KA := kind_any _ base q c E r o A L _ _ P1.out G1.out
  rw [hk] at KA
  have KH : Hid (Calls Tryz.prog 74 #[.pointer (some ⟨q, 0, none⟩)] (w.alloc (.cells #[.int .i64 0, .string ⟨#[]⟩, .string ⟨#[]⟩, .slice none 0 0, .slice none 0 0, .bool false, .slice none 0 0, .slice none 0 0, .slice none 0 0, .string ⟨#[]⟩, .string ⟨#[]⟩, .string ⟨#[]⟩, .string ⟨#[]⟩, .bool false, .int .i64 0] 38)) fun e w' => e = .returned (.int .i64 6) ∧ Pt w' base q A c L E (.map (some m)) (.slice B n nc) r o ∧ Fq (w.alloc (.cells #[.int .i64 0, .string ⟨#[]⟩, .string ⟨#[]⟩, .slice none 0 0, .slice none 0 0, .bool false, .slice none 0 0, .slice none 0 0, .slice none 0 0, .string ⟨#[]⟩, .string ⟨#[]⟩, .string ⟨#[]⟩, .string ⟨#[]⟩, .bool false, .int .i64 0] 38)).heap.size q (w.alloc (.cells #[.int .i64 0, .string ⟨#[]⟩, .string ⟨#[]⟩, .slice none 0 0, .slice none 0 0, .bool false, .slice none 0 0, .slice none 0 0, .slice none 0 0, .string ⟨#[]⟩, .string ⟨#[]⟩, .string ⟨#[]⟩, .string ⟨#[]⟩, .bool false, .int .i64 0] 38)) w') := Lib.hid KA
  have hz1 : (w.alloc (.cells #[.int .i64 0, .string ⟨#[]⟩, .string ⟨#[]⟩, .slice none 0 0, .slice none 0 0, .bool false, .slice none 0 0, .slice none 0 0, .slice none 0 0, .string ⟨#[]⟩, .string ⟨#[]⟩, .string ⟨#[]⟩, .string ⟨#[]⟩, .bool false, .int .i64 0] 38)).heap.size = gr + 1 := by simp [hgr]
  have ha8 : ((a : Int) == 8) = false := by simp; omega
  have CT0 : Hid (∀ n y, stK L E o 6 n r = some y → ∃ n', stF L E o n' a r = some y) := Lib.hid (fun n y h => ⟨n, by rw [stF_kind hk (by omega)]; exact h⟩)
  clear h hG hk KA h0
  go_enter Tryz.func48, Tryz.ntmps48
  go_upto_region 1 with fail
  generalize w.alloc (.cells #[.int .i64 0, .string ⟨#[]⟩, .string ⟨#[]⟩, .slice none 0 0, .slice none 0 0, .bool false, .slice none 0 0, .slice none 0 0, .slice none 0 0, .string ⟨#[]⟩, .string ⟨#[]⟩, .string ⟨#[]⟩, .string ⟨#[]⟩, .bool false, .int .i64 0] 38) = w1 at *
  go_upto_region 2 with (first
    | (go_at_call 74; refine KH.out.mono ?_; rintro e w2 ⟨rfl, hP, hF⟩; have P2 := Lib.hid hP; have B2 : Hid (Blk w2 gr 38 z38) := Lib.hid ((hF.block gr (by omega) (by omega)).trans b0.out); have M2 : Hid (Mo w2 m) := Lib.hid ((hF.block m (by omega) hq).trans M1.out); have G2 := Lib.hid (G1.out.fq hF (by omega) hq2); have F2 := Lib.hid (F1.out.trans (hF.mono F1.out.size)); clear hP hF)
    | ((with_reducible refine at_store (t := 38) ?_); have AL3 : Below w2.heap.size w2 (w2.alloc (.cells #[.int .i64 0, .string ⟨#[]⟩, .string ⟨#[]⟩, .slice none 0 0, .slice none 0 0, .bool false, .slice none 0 0, .slice none 0 0, .slice none 0 0, .string ⟨#[]⟩, .string ⟨#[]⟩, .string ⟨#[]⟩, .string ⟨#[]⟩, .bool false, .int .i64 0] 38)) := (Below.refl _ _).alloc (Nat.le_refl _) _; have K3 : Blk (w2.alloc (.cells #[.int .i64 0, .string ⟨#[]⟩, .string ⟨#[]⟩, .slice none 0 0, .slice none 0 0, .bool false, .slice none 0 0, .slice none 0 0, .slice none 0 0, .string ⟨#[]⟩, .string ⟨#[]⟩, .string ⟨#[]⟩, .string ⟨#[]⟩, .bool false, .int .i64 0] 38)) w2.heap.size 38 #[.int .i64 0, .string ⟨#[]⟩, .string ⟨#[]⟩, .slice none 0 0, .slice none 0 0, .bool false, .slice none 0 0, .slice none 0 0, .slice none 0 0, .string ⟨#[]⟩, .string ⟨#[]⟩, .string ⟨#[]⟩, .string ⟨#[]⟩, .bool false, .int .i64 0] := Blk.new _ _ _; refine wpList_store_blk _ rfl 38 _ _ rfl w2.heap.size _ 38 [.int .i64 6, .string ⟨#[]⟩, .string ⟨#[]⟩, .slice none 0 0, .slice none 0 0, .bool false, .slice none 0 0, .slice none 0 0, .slice none 0 0, .string ⟨#[]⟩, .string ⟨#[]⟩, .string ⟨#[]⟩, .string ⟨#[]⟩, .bool false, .int .i64 (-1)] rfl rfl K3 rfl Tryz.i38 (by simp [Value.oneCell']) ?_; intro w3 hb3 ho3; have Z3 := Lib.hid (Zx.start (k := 6) B2.out P2.out M2.out G2.out F2.out hm hq h2 hq2 hgr (by omega) hb3 (AL3.trans (ho3.below (Nat.le_refl _)))); clear hb3 ho3 AL3 K3))
  clear P2 B2 M2 G2 F2 KH b0 F1 G1 M1 P1
  generalize w2.heap.size = g at *
  generalize w3.heap.size = D at *
  go_upto_region 4 with fail
  have Z4 := Lib.hid (Z3.out.below (w' := w3.drew) ⟨rfl, rfl, rfl, Nat.le_refl _, fun _ _ => rfl⟩)
  refine wp_region_held_drew (S := fun w' => w'.cell? ⟨g, 0, none⟩ = some (.int .i64 6) ∧ w'.cell? ⟨0, 6, none⟩ = some (.string ⟨#[83, 69, 76, 69, 67, 84]⟩)) (by kernel_rfl) ⟨Z4.out.bx.blk.cell 0, Z4.out.bx.gp.fw 6 (by decide)⟩ (fun hHeld => ?_)
  generalize w3.drew = w4 at *
  clear Z3
  refine take_d (i := 0) (d := 16) (v := ?v43_16) rfl rfl (by kernel_rfl) (by kernel_rfl) (by kernel_rfl) (fun _ _ _ h => h) (Or.inl ⟨by kernel_rfl, ?v43_16h⟩) hHeld ?v43_16n
  case v43_16h => (intro w hSw; (try dsimp only at hSw); go_split_ands; go_simp; (try exact rfl))
  try simp only [Act.put, List.setIfInBounds_toArray, List.set_cons_zero, List.set_cons_succ]
  refine take_d (i := 1) (d := 17) (v := ?v44_17) rfl rfl (by kernel_rfl) (by kernel_rfl) (by kernel_rfl) (fun _ _ _ h => h) (Or.inl ⟨by kernel_rfl, ?v44_17h⟩) hHeld ?v44_17n
  case v44_17h => (intro w hSw; (try dsimp only at hSw); go_split_ands; go_simp; (try exact rfl))
  try simp only [Act.put, List.setIfInBounds_toArray, List.set_cons_zero, List.set_cons_succ]
  refine take_d (i := 2) (d := 18) (v := ?v45_18) rfl rfl (by kernel_rfl) (by kernel_rfl) (by kernel_rfl) (fun _ _ _ h => h) (Or.inl ⟨by kernel_rfl, ?v45_18h⟩) hHeld ?v45_18n
  case v45_18h => (intro w hSw; (try dsimp only at hSw); go_split_ands; go_simp; (try exact rfl))
  try simp only [Act.put, List.setIfInBounds_toArray, List.set_cons_zero, List.set_cons_succ]
  refine take_d (i := 3) (d := 19) (v := ?v46_19) rfl rfl (by kernel_rfl) (by kernel_rfl) (by kernel_rfl) (fun _ _ _ h => h) (Or.inl ⟨by kernel_rfl, ?v46_19h⟩) hHeld ?v46_19n
  case v46_19h => (intro w hSw; (try dsimp only at hSw); go_split_ands; go_simp; (try exact rfl))
  try simp only [Act.put, List.setIfInBounds_toArray, List.set_cons_zero, List.set_cons_succ]
  refine take_d (i := 4) (d := 20) (v := ?v47_20) rfl rfl (by kernel_rfl) (by kernel_rfl) (by kernel_rfl) (fun _ _ _ h => h) (Or.inl ⟨by kernel_rfl, ?v47_20h⟩) hHeld ?v47_20n
  case v47_20h => (intro w hSw; (try dsimp only at hSw); go_split_ands; go_simp; (try exact rfl))
  try simp only [Act.put, List.setIfInBounds_toArray, List.set_cons_zero, List.set_cons_succ]
  refine take_d (i := 5) (d := 21) (v := ?v48_21) rfl rfl (by kernel_rfl) (by kernel_rfl) (by kernel_rfl) (fun _ _ _ h => h) (Or.inl ⟨by kernel_rfl, ?v48_21h⟩) hHeld ?v48_21n
  case v48_21h => (intro w hSw; (try dsimp only at hSw); go_split_ands; go_simp; (try exact rfl))
  try simp only [Act.put, List.setIfInBounds_toArray, List.set_cons_zero, List.set_cons_succ]
  refine take_d (i := 6) (d := 22) (v := ?v49_22) rfl rfl (by kernel_rfl) (by kernel_rfl) (by kernel_rfl) (fun _ _ _ h => h) (Or.inl ⟨by kernel_rfl, ?v49_22h⟩) hHeld ?v49_22n
  case v49_22h => (intro w hSw; (try dsimp only at hSw); go_split_ands; go_simp; (try exact rfl))
  try simp only [Act.put, List.setIfInBounds_toArray, List.set_cons_zero, List.set_cons_succ]
  refine wpAnyH_ready (rs := [7]) (by kernel_rfl) (by simp) ?_
  refine AllReadyH.cons rfl (fun K' hK => ?_) AllReadyH.nil
  go_simp
  have AL : Below w4.heap.size w4 (w4.alloc (.cells #[.string ⟨#[83, 69, 76, 69, 67, 84]⟩] 9)) := (Below.refl _ _).alloc (Nat.le_refl _) _
  have Z5 := Lib.hid (Z4.out.below AL)
  have WH : Hid (Calls Tryz.prog 49 #[.pointer (some ⟨q, 0, none⟩), .slice (some ⟨w4.heap.size, 0, none⟩) 1 1] (w4.alloc (.cells #[.string ⟨#[83, 69, 76, 69, 67, 84]⟩] 9)) fun e w' => Aw (rwd L E r [[83, 69, 76, 69, 67, 84]]) (fun _ r' e w' => e = .returned (.tuple #[]) ∧ r ≤ r' ∧ Zx w w' base q A c L E m r' o gr g D (sm0 6) cx0) (Fq w.heap.size q w) L E e w') := Lib.hid (Z4.out.words [[83, 69, 76, 69, 67, 84]] 1 rfl (by omega))
  refine hK.out _ _ ⟨Z5.out.bx.blk.cell 0, Z5.out.bx.gp.fw 6 (by decide)⟩ (fun hHeld => ?_)
  clear hK K' AL
  try simp only [Act.put, List.setIfInBounds_toArray, List.set_cons_zero, List.set_cons_succ]
  refine wpAnyH_ready (rs := [8]) (by kernel_rfl) (by simp) ?_
  refine AllReadyH.cons rfl (fun K' hK => ?_) AllReadyH.nil
  go_simp
  refine WH.out.mono ?_
  rintro e w6 ⟨y, hy, hm⟩
  rcases y with ⟨er, i⟩ | ⟨un6, r6⟩
  · obtain ⟨rfl, hF⟩ := hm; have hx := ct_err CT0.out (n1 := 0) hy; obtain ⟨n', hx⟩ := hx; exact ⟨rfl, n', .error (er, i), hx, hF, rfl⟩
  obtain ⟨rfl, hr6, hJ⟩ := hm
  have Z6 := Lib.hid hJ
  have CT1 := Lib.hid (ct_step CT0.out (Mono.const _) (fun _ _ => Mono.ite (creF_mono L E _ _) (Mono.ite (Mono.const _) (Mono.ite (insF_mono L E o _ _) (Mono.ite (updF_mono L E o _ _) (Mono.ite (Mono.rb (Mono.const _) fun _ _ => Mono.rb (Mono.const _) fun _ _ => Mono.rb (exB_mono _ _ _ _ _) fun _ _ => Mono.const _) (Mono.ite (chF_mono L E o _ _) (Mono.const _))))))) (n1 := 0) hy)
  refine hK.out _ _ ⟨Z6.out.bx.blk.cell 0, Z6.out.bx.gp.fw 6 (by decide)⟩ (fun hHeld => ?_)
  clear hK K' hJ hy WH Z4 Z5 CT0
  try simp only [Act.put, List.setIfInBounds_toArray, List.set_cons_zero, List.set_cons_succ]
  refine wpAnyH_done (by kernel_rfl) ?_ _
  have ck : w6.cell? ⟨g, 0, none⟩ = some (.int .i64 6) := Z6.out.bx.blk.cell 0
  have CT2 : Hid (∀ (n : Nat) y, chF L E o n r6 (sm0 6) = some y → ∃ n', stF L E o n' a r = some y) := Lib.hid (fun n y h => CT1.out n y (by show (if _ then _ else _) = _; rw [if_neg (by decide), if_neg (by decide), if_neg (by decide), if_neg (by decide), if_neg (by decide), if_pos rfl]; exact h))
  clear CT1
  have CH := Lib.hid (Z6.out.sub (choose_any base q A c L E m o g ho w6 r6 (sm0 6) cx0 Z6.out.fresh rfl rfl))
  go_upto_region 21 with (go_at_call 81; refine CH.out.mono ?_; rintro e w7 ⟨nC, y, hy, hm⟩; rcases y with ⟨er, i⟩ | ⟨s7, r7⟩ <;> first | (obtain ⟨rfl, hF⟩ := hm; have hx := CT2.out nC _ hy; obtain ⟨n', hx⟩ := hx; exact ⟨rfl, n', .error (er, i), hx, hF, rfl⟩) | (obtain ⟨rfl, hr7, x7, hZ⟩ := hm; have hx := CT2.out nC _ hy; have Z7 := Lib.hid hZ; clear hZ hy))
  obtain ⟨n', hx⟩ := hx
  clear CH CT2 ck
  go_wp2_with (first
    | ((with_reducible refine at_load (t := 38) ?_); refine wpList_load_mid rfl 38 _ rfl g 0 rfl (smC s7 x7) _ (Blk.rng (cs := smC s7 x7) Z7.out.bx.blk) Tryz.underlying38 rfl Tryz.i38 ?_)
    | ((with_reducible refine at_store (t := 38) ?_); refine wpList_store_blk _ rfl 38 _ _ rfl gr _ 38 (smC s7 x7) rfl rfl Z7.out.z rfl Tryz.i38 (smC_one s7 x7) ?_; intro w90 hb90 ho90; have X90 := Lib.hid hb90; have DN := Lib.hid (Z7.out.done hb0 ho90); clear hb90 ho90))
  obtain ⟨d1, d2, d3, d4⟩ := DN.out
  exact bodyPost_ret (ret_cell1_tmp rfl _ _ gr 38 _ _ rfl X90.out Tryz.underlying38 rfl Tryz.i38) rfl ⟨n', .ok (_, r7), hx, d1, _, rfl, by omega, d2, d3, d4⟩
end Go.Proofs.YtiipglmbfgmbbaaGreatDoor
