/-
  Less, and what a digit counts.
-/
import Derived.Test.YtbemnolgolecaaaDoorB3
namespace Go.Proofs.YtbemnolgolecaaaDoor
open Go.RowKit
attribute [local go_sem ↓] Tryd.z42 Tryd.z70 Tryd.z27 Tryd.z45 Tryd.z37 Tryd.z38

theorem quiet_l {P : Program} {f : FuncId} {args : Array Value} {w : World} {n : Nat} {v : Value}
    (h : Calls P f args (w.drewN n) fun e w' => e = .returned v ∧ w.drewN n = w') : Calls P f args (w.drewN n) fun e w'' => e = .returned v ∧ ∃ m, w'' = w.drewN m :=
  h.mono fun _ _ hh => ⟨hh.1, n, hh.2.symm⟩

/-- How two digests stand. -/
def cmpL (a b : List Int) : Int := Lib.compareBytes (Lib.bytesOf a) (Lib.bytesOf b)

theorem less_any (a b : List Int) (ha : a.length = 32) (hb : b.length = 32) (w : World) :
    Calls Tryd.prog 26 #[.agg (BL a).toArray, .agg (BL b).toArray] w fun e w' => e = .returned (.bool (decide (cmpL a b < 0))) ∧ Below w.heap.size w w' := by
  have b0 : Blk ((w.alloc (.cells (BL a).toArray 27)).alloc (.cells (BL b).toArray 27)) w.heap.size 27 (BL a).toArray := (Blk.new w 27 _).alloc _
  have b1 : Blk ((w.alloc (.cells (BL a).toArray 27)).alloc (.cells (BL b).toArray 27)) (w.heap.size + 1) 27 (BL b).toArray := Blk.new' _ 27 _ (by simp)
  have hB : Hid (Below w.heap.size w ((w.alloc (.cells (BL a).toArray 27)).alloc (.cells (BL b).toArray 27))) := ((Below.refl _ w).alloc (Nat.le_refl _) _).alloc (by simp) _
  have hc : Hid (∀ k, Calls Tryd.prog 39 #[.slice (some ⟨w.heap.size, 0, none⟩) 32 32, .slice (some ⟨w.heap.size + 1, 0, none⟩) 32 32] (((w.alloc (.cells (BL a).toArray 27)).alloc (.cells (BL b).toArray 27)).drewN k) fun e w' => e = .returned (.int .i64 (cmpL a b)) ∧ ((w.alloc (.cells (BL a).toArray 27)).alloc (.cells (BL b).toArray 27)).drewN k = w') := fun k =>
    bcompare_any _ _ _ 32 32 32 32 a b ha hb (fun j hj => (b0.cell j).trans (by rw [List.getElem?_toArray]; exact BL.get a j (by omega))) (fun j hj => (b1.cell j).trans (by rw [List.getElem?_toArray]; exact BL.get b j (by omega)))
  clear b0 b1
  generalize cmpL a b = c at *
  generalize BL a = A at *
  generalize BL b = B at *
  go_enter Tryd.func26, Tryd.ntmps26
  go_wp2
  go_quiet ((go_at_call 39; exact quiet_l (hc.out _)))
  go_wp2
  go_ret
  exact ⟨rfl, below_drewN hB.out _⟩

/-- What a digit counts; -1: it is none. -/
def dig (c : Int) : Int := if 48 ≤ c ∧ c ≤ 57 then c - 48 else if 97 ≤ c ∧ c ≤ 102 then c - 87 else -1
theorem dig_range (c : Int) : -1 ≤ dig c ∧ dig c ≤ 15 := by
  unfold dig
  repeat' split
  all_goals omega
theorem dig_idx (c : Int) (h0 : 0 ≤ c) (h1 : c ≤ 255) : Lib.indexByte [48, 49, 50, 51, 52, 53, 54, 55, 56, 57, 97, 98, 99, 100, 101, 102] c.toNat.toUInt8 = dig c := by
  have all : ∀ n : Fin 256, Lib.indexByte [48, 49, 50, 51, 52, 53, 54, 55, 56, 57, 97, 98, 99, 100, 101, 102] n.val.toUInt8 = dig (n.val : Int) := by decide +kernel
  obtain ⟨n, rfl⟩ := Int.eq_ofNat_of_zero_le h0
  exact all ⟨n, by omega⟩

theorem index_any (c : Int) (h0 : 0 ≤ c) (h1 : c ≤ 255) (w : World) :
    Calls Tryd.prog 40 #[.string { data := #[48, 49, 50, 51, 52, 53, 54, 55, 56, 57, 97, 98, 99, 100, 101, 102] }, .int .u8 c] w fun e w' => e = .returned (.int .i64 (dig c)) ∧ w = w' := by
  have hr := Lib.hid (Lib.run_indexByteString (P := Tryd.prog) { data := #[48, 49, 50, 51, 52, 53, 54, 55, 56, 57, 97, 98, 99, 100, 101, 102] } c w)
  have hd := Lib.hid (dig_idx c h0 h1)
  go_enter Tryd.func40, Tryd.ntmps40
  go_wp2
  rw [run_callFunc_extern Tryd.func52 (by kernel_rfl) (by kernel_rfl) (by kernel_rfl) (e := Extern.BytealgIndexByte.indexByte) (by kernel_rfl), hr.out]
  simp only [Result.andThen]
  rw [Oper.upon_value]
  go_wp2
  go_ret
  exact ⟨ret_int hd.out, rfl⟩

/-- Bytes are numbers from 0 to 255. -/
theorem u8_range (s : ByteArray) (k : Nat) (h : k < s.size) : 0 ≤ ((s[k]).toNat : Int) ∧ ((s[k]).toNat : Int) ≤ 255 := by have := (s[k]).toNat_lt; omega

/-- What stands at a place of a text, as a digit. -/
def dg (s : ByteArray) (k : Nat) : Int := dig ((s.data.toList.getD k 0).toNat : Int)
theorem dg_at (s : ByteArray) (k : Nat) (h : k < s.size) : dg s k = dig ((s[k]).toNat : Int) := by
  unfold dg
  have h' : k < s.data.toList.length := by simpa using h
  have e : s.data.toList.getD k 0 = s[k] := by
    simp [List.getD, List.getElem?_eq_getElem h']
    rfl
  rw [e]
theorem dg_range (s : ByteArray) (k : Nat) : -1 ≤ dg s k ∧ dg s k ≤ 15 := dig_range _
/-- Are the first k bytes in digits? -/
def okd (s : ByteArray) (k : Nat) : Prop := ∀ i, i < k → 0 ≤ dg s (2 * i) ∧ 0 ≤ dg s (2 * i + 1)
instance (s : ByteArray) (k : Nat) : Decidable (okd s k) := inferInstanceAs (Decidable (∀ i, i < k → _))
/-- The bytes of a text. -/
def ofd (s : ByteArray) (k : Nat) : List Int := (List.range k).map fun i => 16 * dg s (2 * i) + dg s (2 * i + 1)
theorem ofd_succ (s : ByteArray) (k : Nat) : ofd s (k + 1) = ofd s k ++ [16 * dg s (2 * k) + dg s (2 * k + 1)] := by simp [ofd, List.range_succ]
theorem ofd_len (s : ByteArray) (k : Nat) : (ofd s k).length = k := by simp [ofd]

/-- An answer of Parse. -/
def Parsed (w : World) (id : List Int) (er : Int) (e : Ending) (w' : World) : Prop := e = .returned (.tuple #[.agg (BL id).toArray, .int .i64 er]) ∧ Below w.heap.size w w'
def Z32 : List Int := List.replicate 32 0

theorem ZB.len (n : Nat) : (ZB n).length = n := by simp [ZB]
theorem ZB.one (n : Nat) : ∀ v ∈ ZB n, v.oneCell' = true := fun v hv => by rw [(List.mem_replicate.1 hv).2]; rfl
theorem ZB.bl (n : Nat) : ZB n = BL (List.replicate n 0) := by simp [ZB, BL]
theorem BL.set (l : List Int) (i : Nat) (x : Int) : (BL l).toArray.setIfInBounds i (.int .u8 x) = (BL (l.set i x)).toArray := by
  simp [BL, List.map_set]
theorem Tryd.results28' : Tryd.f28.results = #[.cell 2 27, .tmp 3] := by kernel_rfl
theorem ret_cell_tmp {P : Program} {fn : Func} {p u : Tmp} {ty : TypeId} (h : fn.results = #[.cell p ty, .tmp u]) (tmps : Array Value) (w : World) (g : Nat) (t : TypeId) (cs : Array Value) (d : TypeDesc)
    (hp : tmps.getD p undef = .pointer (some ⟨g, 0, none⟩)) (hg : Blk w g t cs) (hu : P.underlying ty = some d) (hd : (match d with | .struct _ | .array _ _ => true | _ => false) = true) (hi : (P.info? ty).map (·.size) = some cs.size) :
    (results fn tmps).run P w = .ok (.tuple #[.agg cs, tmps.getD u undef]) w := by
  rw [results_cell_tmp h, hp]
  simp only [asAddr, Sem.run_pure, Result.andThen_ok, run_loadVar_row w g t ty cs (0, 0) d hg hu hd hi]

set_option maxRecDepth 100000 in
set_option maxHeartbeats 1000000 in
theorem parse_len (s : ByteArray) (hs : s.size ≠ 64) (w : World) : Calls Tryd.prog 28 #[.string s] w (Parsed w Z32 130) := by
  have h64 : ((s.size : Int) != 64) = true := by simp; omega
  have hl : (ZB 32).length = 32 := rfl
  have hb : Blk ((w.alloc (.cells (ZB 32).toArray 27)).alloc (.cells (ZB 32).toArray 27)) w.heap.size 27 (ZB 32).toArray := (Blk.new w 27 _).alloc _
  have HB := Lib.hid hb
  clear hb
  go_enter Tryd.func28, Tryd.ntmps28
  go_wp2_with ((with_reducible refine at_store (t := 27) ?_); refine wpList_store_blk _ rfl 27 _ _ rfl w.heap.size (ZB 32).toArray 27 (ZB 32) rfl rfl HB.out rfl Tryd.i27 (ZB.one 32) ?_; intro w9 hb9 ho9)
  exact bodyPost_ret (ret_cell_tmp (p := 2) (u := 3) (ty := 27) rfl _ _ w.heap.size 27 _ _ rfl hb9 Tryd.underlying27 rfl Tryd.i27) rfl ⟨by rw [ZB.bl]; rfl, (((Below.refl _ w).alloc (Nat.le_refl _) _).alloc (by simp) _).trans (ho9.below (Nat.le_refl _))⟩

end Go.Proofs.YtbemnolgolecaaaDoor
