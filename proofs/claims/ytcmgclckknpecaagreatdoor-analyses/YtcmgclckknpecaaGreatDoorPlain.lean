/- Characters of any bytes, as plain functions on numbers: what the two bodies compute. -/
import Derived.Below
namespace Go.Proofs.YtcmgclckknpecaaGreatDoor
namespace Pl

/-- Byte k of a string, 0 beyond it. -/
def bt (s : ByteArray) (k : Nat) : Nat := if h : k < s.size then s[k].toNat else 0
theorem bt_eq {s : ByteArray} {k : Nat} (h : k < s.size) : bt s k = s[k].toNat := by rw [bt, dif_pos h]
theorem bt_lt (s : ByteArray) (k : Nat) : bt s k < 256 := by
  unfold bt; split
  · exact UInt8.toNat_lt _
  · omega
theorem bt_extract (s : ByteArray) (i j : Nat) (hi : i ≤ s.size) : bt (s.extract i s.size) j = bt s (i + j) := by
  unfold bt
  by_cases h : i + j < s.size
  · rw [dif_pos h, dif_pos (by simp; omega)]
    simp [ByteArray.getElem_extract]
  · rw [dif_neg h, dif_neg (by simp; omega)]

def lenOf (b : Nat) : Nat := if b < 128 then 1 else if b < 194 then 0 else if b < 224 then 2 else if b < 240 then 3 else if b < 245 then 4 else 0
def loOf (b : Nat) : Nat := if b = 224 then 160 else if b = 240 then 144 else 128
def hiOf (b : Nat) : Nat := if b = 237 then 159 else if b = 244 then 143 else 191
def good (b k c : Nat) : Bool := if k = 1 then decide (loOf b ≤ c ∧ c ≤ hiOf b) else decide (128 ≤ c ∧ c ≤ 191)
theorem good_one (b c : Nat) : good b 1 c = true ↔ loOf b ≤ c ∧ c ≤ hiOf b := by simp [good]
theorem good_more {k : Nat} (b c : Nat) (h : k ≠ 1) : good b k c = true ↔ 128 ≤ c ∧ c ≤ 191 := by simp [good, h]
theorem lenOf_le (b : Nat) : lenOf b ≤ 4 := by unfold lenOf; repeat' split
                                               all_goals omega
def sz (f : Nat → Nat) (n : Nat) : Nat → Nat → Nat
  | 0, k => k
  | m + 1, k => if k < lenOf (f 0) ∧ k < n ∧ good (f 0) k (f k) = true then sz f n m (k + 1) else k
def size (f : Nat → Nat) (n : Nat) : Nat := sz f n 3 1
def cd0 (b : Nat) : Nat := if lenOf b = 2 then b % 32 else if lenOf b = 3 then b % 16 else if lenOf b = 4 then b % 8 else b
def codeTo (f : Nat → Nat) : Nat → Nat
  | 0 => 0
  | k + 1 => if k = 0 then cd0 (f 0) else codeTo f k * 64 + f k % 64
def code (f : Nat → Nat) (n : Nat) : Nat := if size f n = lenOf (f 0) then codeTo f (size f n) else 65533

theorem sz_ge (f : Nat → Nat) (n : Nat) : ∀ m k, k ≤ sz f n m k
  | 0, k => Nat.le_refl _
  | m + 1, k => by
    unfold sz; split
    · have := sz_ge f n m (k + 1); omega
    · exact Nat.le_refl _
theorem sz_le (f : Nat → Nat) (n : Nat) : ∀ m k, k ≤ n → sz f n m k ≤ n
  | 0, k => fun h => h
  | m + 1, k => fun h => by
    unfold sz; split
    · rename_i h'; exact sz_le f n m (k + 1) (by omega)
    · exact h
theorem sz_le4 (f : Nat → Nat) (n : Nat) : ∀ m k, sz f n m k ≤ k + m
  | 0, k => Nat.le_refl _
  | m + 1, k => by
    unfold sz; split
    · have := sz_le4 f n m (k + 1); omega
    · omega
theorem size_ge (f : Nat → Nat) (n : Nat) : 1 ≤ size f n := sz_ge f n 3 1
theorem size_le (f : Nat → Nat) (n : Nat) (h : 1 ≤ n) : size f n ≤ n := sz_le f n 3 1 h
theorem size_le4 (f : Nat → Nat) (n : Nat) : size f n ≤ 4 := sz_le4 f n 3 1

theorem sz_yes {f : Nat → Nat} {n k S : Nat} (h1 : 1 ≤ k) (hL : k < lenOf (f 0)) (hn : k < n) (hg : good (f 0) k (f k) = true) (h : sz f n (4 - k) k = S) : sz f n (4 - (k + 1)) (k + 1) = S := by
  have := lenOf_le (f 0)
  obtain ⟨m, hm⟩ : ∃ m, 4 - k = m + 1 := ⟨4 - k - 1, by omega⟩
  rw [hm] at h
  unfold sz at h
  rw [if_pos ⟨hL, hn, hg⟩] at h
  rw [show 4 - (k + 1) = m by omega]; exact h
theorem sz_no {f : Nat → Nat} {n k S : Nat} (hk : ¬ (k < lenOf (f 0) ∧ k < n ∧ good (f 0) k (f k) = true)) (h : sz f n (4 - k) k = S) : S = k := by
  cases hm : 4 - k with
  | zero => rw [hm] at h; exact h.symm
  | succ m => rw [hm] at h; unfold sz at h; rw [if_neg hk] at h; exact h.symm

theorem codeTo_one (f : Nat → Nat) : codeTo f 1 = cd0 (f 0) := rfl
theorem codeTo_succ (f : Nat → Nat) {k : Nat} (h : 1 ≤ k) : codeTo f (k + 1) = codeTo f k * 64 + f k % 64 := by
  show (if k = 0 then _ else _) = _
  rw [if_neg (by omega)]
theorem cd0_le (b : Nat) : cd0 b ≤ b := by
  unfold cd0; repeat' split
  all_goals omega
theorem codeTo_le (f : Nat → Nat) (h0 : f 0 < 256) {k : Nat} (h : k ≤ 4) : codeTo f k ≤ 67108863 := by
  have c := cd0_le (f 0)
  have e1 := codeTo_one f
  have e2 : codeTo f 2 = codeTo f 1 * 64 + f 1 % 64 := codeTo_succ f (k := 1) (by omega)
  have e3 : codeTo f 3 = codeTo f 2 * 64 + f 2 % 64 := codeTo_succ f (k := 2) (by omega)
  have e4 : codeTo f 4 = codeTo f 3 * 64 + f 3 % 64 := codeTo_succ f (k := 3) (by omega)
  have e0 : codeTo f 0 = 0 := rfl
  obtain rfl | rfl | rfl | rfl | rfl : k = 0 ∨ k = 1 ∨ k = 2 ∨ k = 3 ∨ k = 4 := by omega
  all_goals omega
theorem code_le (f : Nat → Nat) (n : Nat) (h0 : f 0 < 256) : code f n ≤ 67108863 := by
  unfold code; split
  · exact codeTo_le f h0 (size_le4 f n)
  · omega
theorem code_yes {f : Nat → Nat} {n : Nat} (h : size f n = lenOf (f 0)) : code f n = codeTo f (lenOf (f 0)) := by
  unfold code; rw [if_pos h, h]
theorem code_no {f : Nat → Nat} {n : Nat} (h : size f n ≠ lenOf (f 0)) : code f n = 65533 := by
  unfold code; rw [if_neg h]

/-- The characters from byte i on: code point, first byte, the byte behind. (m: enough rounds.) -/
def cs (g : Nat → Nat) (n : Nat) : Nat → Nat → List (Nat × Nat × Nat)
  | 0, _ => []
  | m + 1, i => if i < n then (code (fun j => g (i + j)) (n - i), i, i + size (fun j => g (i + j)) (n - i)) :: cs g n m (i + size (fun j => g (i + j)) (n - i)) else []
theorem cs_cons {g : Nat → Nat} {n m i : Nat} (h : i < n) (hm : n ≤ i + m) : ∃ m', n ≤ i + size (fun j => g (i + j)) (n - i) + m' ∧
    cs g n m i = (code (fun j => g (i + j)) (n - i), i, i + size (fun j => g (i + j)) (n - i)) :: cs g n m' (i + size (fun j => g (i + j)) (n - i)) := by
  obtain ⟨m', rfl⟩ : ∃ m', m = m' + 1 := ⟨m - 1, by omega⟩
  have := size_ge (fun j => g (i + j)) (n - i)
  exact ⟨m', by omega, by rw [cs, if_pos h]⟩
theorem cs_nil {g : Nat → Nat} {n m i : Nat} (h : ¬ i < n) : cs g n m i = [] := by
  cases m with
  | zero => rfl
  | succ m => rw [cs, if_neg h]
theorem cs_length (g : Nat → Nat) (n : Nat) : ∀ m i, (cs g n m i).length ≤ n - i
  | 0, _ => Nat.zero_le _
  | m + 1, i => by
    rw [cs]; split
    · have := cs_length g n m (i + size (fun j => g (i + j)) (n - i))
      have := size_ge (fun j => g (i + j)) (n - i)
      simp only [List.length_cons]; omega
    · exact Nat.zero_le _

end Pl
end Go.Proofs.YtcmgclckknpecaaGreatDoor
