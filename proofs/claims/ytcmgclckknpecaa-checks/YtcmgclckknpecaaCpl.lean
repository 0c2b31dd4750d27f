/- Which texts are chains, as plain functions: how far each piece is read, and whether it is one. -/
import Derived.Test.YtcmgclckknpecaaPlain
namespace Go.Proofs.Ytcmgclckknpecaa
namespace Pl

def byteIn (s : ByteArray) (lo hi a : Nat) : Bool := decide (a < s.size ∧ lo ≤ bt s a ∧ bt s a ≤ hi)
def thenP (r : Bool × Nat) (k : Nat → Bool × Nat) : Bool × Nat := if r.1 = true then k r.2 else (false, r.2)
def sign (s : ByteArray) (c a : Nat) : Bool × Nat := if byteIn s c c a = true then (true, a + 1) else (false, a)
def lets (s : ByteArray) : Nat → Nat → Nat
  | 0, a => a
  | m + 1, a => if byteIn s 97 122 a = true then lets s m (a + 1) else a
def word (s : ByteArray) (a : Nat) : Bool × Nat := (decide (a < lets s 8 a), lets s 8 a)
def pairP (s : ByteArray) (a : Nat) : Bool × Nat := thenP (word s a) fun b => thenP (sign s 61 b) (word s)
def lst (s : ByteArray) (item : Nat → Bool × Nat) : Nat → Nat → Bool × Nat
  | 0, a => (false, a)
  | m + 1, a => thenP (item a) fun b => if byteIn s 44 44 b = true then lst s item m (b + 1) else sign s 41 b
def bnds (s : ByteArray) (a : Nat) : Bool × Nat :=
  if byteIn s 49 57 a = true then thenP (sign s 44 (a + 1)) fun b => if byteIn s (bt s a) 57 b = true then sign s 41 (b + 1) else (false, b) else (false, a)

theorem byteIn_lt {s : ByteArray} {lo hi a : Nat} (h : byteIn s lo hi a = true) : a < s.size ∧ lo ≤ bt s a ∧ bt s a ≤ hi := of_decide_eq_true h
theorem byteIn_mk {s : ByteArray} {lo hi a : Nat} (h : a < s.size ∧ lo ≤ bt s a ∧ bt s a ≤ hi) : byteIn s lo hi a = true := decide_eq_true h
theorem byteIn_no {s : ByteArray} {lo hi a : Nat} (h : ¬ (a < s.size ∧ lo ≤ bt s a ∧ bt s a ≤ hi)) : byteIn s lo hi a = false := decide_eq_false h

/-- A piece is read from a on: it ends within the text, not ahead of a. -/
def Fits (s : ByteArray) (item : Nat → Bool × Nat) : Prop := ∀ a, a ≤ s.size → a ≤ (item a).2 ∧ (item a).2 ≤ s.size
theorem sign_fits (s : ByteArray) (c : Nat) : Fits s (sign s c) := fun a ha => by
  unfold sign; split
  · have := byteIn_lt (by assumption); simp; omega
  · simp; omega
theorem lets_fits (s : ByteArray) : ∀ m a, a ≤ s.size → a ≤ lets s m a ∧ lets s m a ≤ s.size
  | 0, a, h => ⟨Nat.le_refl _, h⟩
  | m + 1, a, h => by
    unfold lets; split
    · have := byteIn_lt (by assumption)
      have := lets_fits s m (a + 1) (by omega)
      omega
    · omega
theorem word_fits (s : ByteArray) : Fits s (word s) := fun a ha => lets_fits s 8 a ha
theorem thenP_fits {s : ByteArray} {r : Bool × Nat} {k : Nat → Bool × Nat} {a : Nat} (h : a ≤ r.2 ∧ r.2 ≤ s.size) (hk : Fits s k) : a ≤ (thenP r k).2 ∧ (thenP r k).2 ≤ s.size := by
  unfold thenP; split
  · have := hk r.2 h.2; omega
  · exact h
theorem pair_fits (s : ByteArray) : Fits s (pairP s) := fun a ha => thenP_fits (word_fits s a ha) fun b hb => thenP_fits (sign_fits s 61 b hb) (word_fits s)

/-- Names that may stand somewhere: how much of one stands there. -/
def cm (s : ByteArray) (a : Nat) (w : ByteArray) : Nat → Nat → Nat
  | 0, k => k
  | m + 1, k => if k < w.size ∧ a + k < s.size ∧ bt s (a + k) = bt w k then cm s a w m (k + 1) else k
def com (s : ByteArray) (a : Nat) (w : ByteArray) : Nat := cm s a w w.size 0
def nm (s : ByteArray) (a : Nat) : List ByteArray → Nat → Nat → Option Nat × Nat
  | [], _, lg => (none, a + lg)
  | w :: r, i, lg => if com s a w = w.size then (some i, a + w.size) else nm s a r (i + 1) (max lg (com s a w))

theorem cm_ge (s : ByteArray) (a : Nat) (w : ByteArray) : ∀ m k, k ≤ cm s a w m k
  | 0, k => Nat.le_refl _
  | m + 1, k => by
    unfold cm; split
    · have := cm_ge s a w m (k + 1); omega
    · exact Nat.le_refl _
theorem cm_le (s : ByteArray) (a : Nat) (w : ByteArray) : ∀ m k, k ≤ w.size → a + k ≤ s.size → cm s a w m k ≤ w.size ∧ a + cm s a w m k ≤ s.size
  | 0, k => fun h h' => ⟨h, h'⟩
  | m + 1, k => fun h h' => by
    unfold cm; split
    · exact cm_le s a w m (k + 1) (by omega) (by omega)
    · exact ⟨h, h'⟩
theorem com_le (s : ByteArray) (a : Nat) (w : ByteArray) (h : a ≤ s.size) : com s a w ≤ w.size ∧ a + com s a w ≤ s.size := cm_le s a w w.size 0 (by omega) (by omega)
theorem cm_yes {s : ByteArray} {a : Nat} {w : ByteArray} {k S : Nat} (hw : k < w.size) (hs : a + k < s.size) (he : bt s (a + k) = bt w k) (h : cm s a w (w.size - k) k = S) : cm s a w (w.size - (k + 1)) (k + 1) = S := by
  obtain ⟨m, hm⟩ : ∃ m, w.size - k = m + 1 := ⟨w.size - k - 1, by omega⟩
  rw [hm] at h; unfold cm at h; rw [if_pos ⟨hw, hs, he⟩] at h
  rw [show w.size - (k + 1) = m by omega]; exact h
theorem cm_no {s : ByteArray} {a : Nat} {w : ByteArray} {k S : Nat} (hk : ¬ (k < w.size ∧ a + k < s.size ∧ bt s (a + k) = bt w k)) (h : cm s a w (w.size - k) k = S) : S = k := by
  cases hm : w.size - k with
  | zero => rw [hm] at h; exact h.symm
  | succ m => rw [hm] at h; unfold cm at h; rw [if_neg hk] at h; exact h.symm

def tB (l : List UInt8) : ByteArray := ⟨l.toArray⟩
def starts : List ByteArray := [⟨#[116, 97, 103, 115]⟩, ⟨#[102, 111, 108, 100]⟩, ⟨#[109, 97, 112, 40]⟩, ⟨#[119, 111, 114, 100, 115]⟩, ⟨#[98, 108, 97, 110, 107, 115]⟩, ⟨#[119, 104, 111, 108, 101]⟩]
def lates : List ByteArray := [⟨#[108, 111, 119]⟩, ⟨#[115, 116, 101, 109]⟩, ⟨#[115, 116, 111, 112, 40]⟩, ⟨#[115, 121, 110, 40]⟩, ⟨#[108, 101, 110, 40]⟩, ⟨#[103, 114, 97, 109, 40]⟩, ⟨#[101, 100, 103, 101, 40]⟩]
/-- What stands in a stage's brackets: 0 none, 1 pairs, 2 words, 3 bounds. -/
def kindS (i : Nat) : Nat := if i = 2 then 1 else 0
def kindL (i : Nat) : Nat := if i = 2 then 2 else if i = 3 then 1 else if 4 ≤ i then 3 else 0
def body (s : ByteArray) (k a : Nat) : Bool × Nat :=
  if k = 1 then lst s (pairP s) (s.size + 1) a else if k = 2 then lst s (word s) (s.size + 1) a else if k = 3 then bnds s a else (true, a)

/-- From a stage on (cut: behind the cutter; c stages are read): is the rest one; where it ends; how many stages. -/
def chn (s : ByteArray) : Nat → Bool → Nat → Nat → (Bool × Nat) × Nat
  | 0, _, a, c => ((false, a), c)
  | m + 1, cut, a, c =>
    match nm s a (if cut = true then lates else starts) 0 0 with
    | (none, b) => ((false, b), c)
    | (some i, b) =>
      let r := body s (if cut = true then kindL i else kindS i) b
      if r.1 = true then
        if (cut = true ∨ 3 ≤ i) ∧ r.2 = s.size then ((true, r.2), c + 1)
        else if byteIn s 59 59 r.2 = true then chn s m (cut || decide (3 ≤ i)) (r.2 + 1) (c + 1) else ((false, r.2), c + 1)
      else ((false, r.2), c + 1)
end Pl
end Go.Proofs.Ytcmgclckknpecaa
