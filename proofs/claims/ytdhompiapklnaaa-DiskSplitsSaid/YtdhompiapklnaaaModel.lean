/-
  A disk as a value: its sectors, its queue, its counts; and what each request makes of it. Plain lists and numbers; nothing of the program is looked at here.
-/
import Derived.Test.YtdhompiapklnaaaWords
namespace Go.Proofs.Ytdhompiapklnaaa
open Go.RowKit

/-- 64 bytes. -/
def B64 (b : List Value) : Prop := b.length = 64 ∧ ∀ v ∈ b, ∃ z, v = .int .u8 z
theorem B64.len {b : List Value} (h : B64 b) : b.length = 64 := h.1
theorem B64.one {b : List Value} (h : B64 b) : ∀ v ∈ b, v.oneCell' = true := fun v hv => by
  obtain ⟨z, rfl⟩ := h.2 v hv
  rfl

structure DSt where
  has : List (List Value)
  q : List (Int × List Value)
  armed : Int
  doomed : Int
  dead : Bool
  ops : Int

/-- The cells of a write of the queue. -/
def put1 (e : Int × List Value) : List Value := .int .i64 e.1 :: e.2

structure DSt.ok (S : DSt) : Prop where
  has : ∀ b ∈ S.has, B64 b
  q : ∀ e ∈ S.q, B64 e.2 ∧ 0 ≤ e.1 ∧ e.1 < S.has.length
  armed : -1 ≤ S.armed
  doomed : -1 ≤ S.doomed
  armed' : S.armed ≤ 9223372036854775807
  doomed' : S.doomed ≤ 9223372036854775807

/-- A count behind one more request. -/
def less (n : Int) : Int := if 0 < n then n - 1 else n
/-- How a request goes. -/
def askErr (S : DSt) (ch : Bool) (i : Int) : Int :=
  if S.dead then 9 else if 0 ≤ i ∧ i < S.has.length then (if ch = true ∧ S.armed = 0 then 9 else if S.doomed = 0 then 8 else 0) else 2
/-- What a disk is behind it. -/
def askSt (S : DSt) (ch : Bool) (i : Int) : DSt :=
  if S.dead then S else if 0 ≤ i ∧ i < S.has.length then
    (if ch = true ∧ S.armed = 0 then { S with dead := true } else if S.doomed = 0 then { S with doomed := -1 }
     else { S with armed := if ch then less S.armed else S.armed, doomed := less S.doomed, ops := wrap64 (S.ops + 1) }) else S

/-- As what a sector reads, of the first n writes of the queue. -/
def readN (S : DSt) (i : Int) : Nat → List Value
  | 0 => S.has.getD i.toNat []
  | n + 1 => if (S.q.getD n (0, [])).1 = i then (S.q.getD n (0, [])).2 else readN S i n
def readAs (S : DSt) (i : Int) : List Value := readN S i S.q.length

/-- The sectors behind the first n writes, of which those are done that are told. -/
def doN (done : Nat → Bool) (q : List (Int × List Value)) (has : List (List Value)) : Nat → List (List Value)
  | 0 => has
  | n + 1 => if done n = true then (doN done q has n).set (q.getD n (0, [])).1.toNat (q.getD n (0, [])).2 else doN done q has n

def kept (keep : List Bool) (k : Nat) : Bool := keep.getD k false
/-- Which writes a crash does. -/
def dn (n : Nat) (keep : List Bool) (k : Nat) : Bool := kept keep k || decide (∃ p, p < n ∧ kept keep p = true ∧ k + 4 ≤ p)

def crashed (S : DSt) (keep : List Bool) : DSt := { has := doN (dn S.q.length keep) S.q S.has S.q.length, q := [], armed := -1, doomed := -1, dead := false, ops := S.ops }
def synced (S : DSt) : DSt := { S with has := doN (fun _ => true) S.q S.has S.q.length, q := [] }
def wrote (S : DSt) (i : Int) (b : List Value) : DSt := { S with q := S.q ++ [(i, b)] }

def writeSt (S : DSt) (i : Int) (b : List Value) : DSt := if askErr S true i = 0 then wrote (askSt S true i) i b else askSt S true i
def syncSt (S : DSt) : DSt := if askErr S true 0 = 0 then synced (askSt S true 0) else askSt S true 0

/-- 64 noughts. -/
def Z0 : List Value := List.replicate 64 (.int .u8 0)
theorem Z0.ok : B64 Z0 := ⟨by simp [Z0], fun v hv => ⟨0, (List.mem_replicate.1 hv).2⟩⟩
def readB (S : DSt) (i : Int) : List Value := if askErr S false i = 0 then readAs S i else Z0
def made (n : Nat) : DSt := { has := List.replicate n Z0, q := [], armed := -1, doomed := -1, dead := false, ops := 0 }

section
variable {S : DSt}
theorem DSt.ok.parts (h : S.ok) : Parts 64 S.has := fun b hb => (h.has b hb).1
theorem DSt.ok.qparts (h : S.ok) : Parts 65 (S.q.map put1) := fun b hb => by
  obtain ⟨e, he, rfl⟩ := List.mem_map.1 hb
  simp [put1, (h.q e he).1.1]
theorem DSt.ok.at_ (h : S.ok) {n : Nat} (hn : n < S.q.length) : B64 (S.q.getD n (0, [])).2 ∧ 0 ≤ (S.q.getD n (0, [])).1 ∧ (S.q.getD n (0, [])).1 < S.has.length := by
  have e : S.q.getD n (0, []) = S.q[n] := by simp [List.getD, hn]
  rw [e]
  exact h.q _ (List.getElem_mem hn)
theorem doN_len (done : Nat → Bool) (q : List (Int × List Value)) (has : List (List Value)) : ∀ n, (doN done q has n).length = has.length
  | 0 => rfl
  | n + 1 => by
    rw [doN]
    split
    · rw [List.length_set, doN_len]
    · exact doN_len done q has n
theorem doN_ok (h : S.ok) (done : Nat → Bool) : ∀ n, n ≤ S.q.length → ∀ b ∈ doN done S.q S.has n, B64 b
  | 0, _ => h.has
  | n + 1, hn => by
    rw [doN]
    split
    · intro b hb
      rcases List.mem_or_eq_of_mem_set hb with hb | rfl
      · exact doN_ok h done n (by omega) b hb
      · exact (h.at_ (by omega)).1
    · exact doN_ok h done n (by omega)
theorem doN_congr {d d' : Nat → Bool} (q : List (Int × List Value)) (has : List (List Value)) : ∀ n, (∀ k, k < n → d k = d' k) → doN d q has n = doN d' q has n
  | 0, _ => rfl
  | n + 1, h => by rw [doN, doN, h n (by omega), doN_congr q has n fun k hk => h k (by omega)]
theorem less_ok (n : Int) (h : -1 ≤ n) (h' : n ≤ 9223372036854775807) : -1 ≤ less n ∧ less n ≤ 9223372036854775807 := by
  unfold less; split <;> omega
theorem askSt_q (S : DSt) (ch : Bool) (i : Int) : (askSt S ch i).q = S.q := by unfold askSt; repeat' split <;> try rfl
theorem askSt_has (S : DSt) (ch : Bool) (i : Int) : (askSt S ch i).has = S.has := by unfold askSt; repeat' split <;> try rfl
theorem askSt_ok (h : S.ok) (ch : Bool) (i : Int) : (askSt S ch i).ok := by
  have l1 := less_ok S.armed h.armed h.armed'
  have l2 := less_ok S.doomed h.doomed h.doomed'
  have h1 := h.armed
  have h2 := h.doomed
  have h3 := h.armed'
  have h4 := h.doomed'
  refine ⟨by rw [askSt_has]; exact h.has, by rw [askSt_q, askSt_has]; exact h.q, ?_, ?_, ?_, ?_⟩ <;> (unfold askSt; (repeat' split) <;> (try dsimp only) <;> (try split) <;> omega)
theorem askErr_ok {ch : Bool} {i : Int} (h : askErr S ch i = 0) : S.dead = false ∧ 0 ≤ i ∧ i < S.has.length := by
  unfold askErr at h
  split at h
  · omega
  · split at h
    · rename_i h1 h2
      exact ⟨by simpa using h1, h2.1, h2.2⟩
    · omega
theorem wrote_ok (h : S.ok) {i : Int} {b : List Value} (hb : B64 b) (h0 : 0 ≤ i) (h1 : i < S.has.length) : (wrote S i b).ok :=
  ⟨h.has, fun e he => by
    rcases List.mem_append.1 he with he | he
    · exact h.q e he
    · rw [List.mem_singleton.1 he]; exact ⟨hb, h0, h1⟩, h.armed, h.doomed, h.armed', h.doomed'⟩
theorem synced_ok (h : S.ok) : (synced S).ok := ⟨doN_ok h _ _ (Nat.le_refl _), fun e he => by simp [synced] at he, h.armed, h.doomed, h.armed', h.doomed'⟩
theorem crashed_ok (h : S.ok) (keep : List Bool) : (crashed S keep).ok := ⟨doN_ok h _ _ (Nat.le_refl _), fun e he => by simp [crashed] at he, by simp [crashed], by simp [crashed], by simp [crashed], by simp [crashed]⟩
theorem crashed_len (S : DSt) (keep : List Bool) : (crashed S keep).has.length = S.has.length := doN_len _ _ _ _
theorem synced_len (S : DSt) : (synced S).has.length = S.has.length := doN_len _ _ _ _
theorem writeSt_ok (h : S.ok) (i : Int) {b : List Value} (hb : B64 b) : (writeSt S i b).ok := by
  unfold writeSt
  split
  · rename_i he
    obtain ⟨_, h0, h1⟩ := askErr_ok he
    exact wrote_ok (askSt_ok h _ _) hb h0 (by rw [askSt_has]; exact h1)
  · exact askSt_ok h _ _
theorem writeSt_len (S : DSt) (i : Int) (b : List Value) : (writeSt S i b).has.length = S.has.length := by
  unfold writeSt; split
  · show (askSt S true i).has.length = _; rw [askSt_has]
  · rw [askSt_has]
theorem writeSt_q (S : DSt) (i : Int) (b : List Value) : (writeSt S i b).q.length ≤ S.q.length + 1 := by
  unfold writeSt; split
  · show ((askSt S true i).q ++ [(i, b)]).length ≤ _; rw [askSt_q]; simp
  · rw [askSt_q]; omega
theorem syncSt_ok (h : S.ok) : (syncSt S).ok := by
  unfold syncSt; split
  · exact synced_ok (askSt_ok h _ _)
  · exact askSt_ok h _ _
theorem syncSt_len (S : DSt) : (syncSt S).has.length = S.has.length := by
  unfold syncSt; split
  · rw [synced_len, askSt_has]
  · rw [askSt_has]
theorem syncSt_q (S : DSt) : (syncSt S).q.length ≤ S.q.length := by
  unfold syncSt; split
  · simp [synced]
  · rw [askSt_q]; omega
theorem readN_ok (h : S.ok) {i : Int} (h0 : 0 ≤ i) (h1 : i < S.has.length) : ∀ n, n ≤ S.q.length → B64 (readN S i n)
  | 0, _ => by
    rw [readN]
    have hi : i.toNat < S.has.length := by omega
    have e : S.has.getD i.toNat [] = S.has[i.toNat] := by simp [List.getD, hi]
    rw [e]
    exact h.has _ (List.getElem_mem hi)
  | n + 1, hn => by
    rw [readN]
    split
    · exact (h.at_ (by omega)).1
    · exact readN_ok h h0 h1 n (by omega)
theorem readAs_ok (h : S.ok) {i : Int} (h0 : 0 ≤ i) (h1 : i < S.has.length) : B64 (readAs S i) := readN_ok h h0 h1 _ (Nat.le_refl _)
theorem readB_ok (h : S.ok) (i : Int) : B64 (readB S i) := by
  unfold readB; split
  · rename_i he
    obtain ⟨_, h0, h1⟩ := askErr_ok he
    exact readAs_ok h h0 h1
  · exact Z0.ok
theorem made_ok (n : Nat) : (made n).ok := ⟨fun b hb => by rw [(List.mem_replicate.1 hb).2]; exact Z0.ok, fun e he => by simp [made] at he, by simp [made], by simp [made], by simp [made], by simp [made]⟩
end

end Go.Proofs.Ytdhompiapklnaaa
