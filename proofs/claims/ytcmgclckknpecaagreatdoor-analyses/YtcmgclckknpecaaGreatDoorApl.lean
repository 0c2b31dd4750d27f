/- A word taken apart alone, as plain facts on lists of characters. -/
import Derived.Test.YtcmgclckknpecaaGreatDoorTak
namespace Go.Proofs.YtcmgclckknpecaaGreatDoor
namespace Pl

theorem sz_part (f f' : Nat → Nat) (n n' : Nat) (hn : n' ≤ n) (h0 : 0 < n') (hf : ∀ j, j < n' → f' j = f j) : ∀ m k, sz f n m k ≤ n' → sz f' n' m k = sz f n m k
  | 0, k => fun _ => rfl
  | m + 1, k => fun h => by
    by_cases hc : k < lenOf (f 0) ∧ k < n ∧ good (f 0) k (f k) = true
    · have e : sz f n (m + 1) k = sz f n m (k + 1) := by rw [sz, if_pos hc]
      rw [e] at h ⊢
      have hk := sz_ge f n m (k + 1)
      have hkn : k < n' := by omega
      rw [sz, hf 0 h0, hf k hkn, if_pos ⟨hc.1, hkn, hc.2.2⟩]
      exact sz_part f f' n n' hn h0 hf m (k + 1) h
    · have e : sz f n (m + 1) k = k := by rw [sz, if_neg hc]
      rw [e] at h ⊢
      rw [sz, if_neg]
      rintro ⟨a, b, c⟩
      rw [hf 0 h0] at a c
      rw [hf k b] at c
      exact hc ⟨a, by omega, c⟩
theorem codeTo_part (f f' : Nat → Nat) : ∀ k, (∀ j, j < k → f' j = f j) → codeTo f' k = codeTo f k
  | 0, _ => rfl
  | k + 1, h => by
    show (if k = 0 then _ else _) = (if k = 0 then _ else _)
    rw [codeTo_part f f' k (fun j hj => h j (by omega)), h 0 (by omega), h k (by omega)]
theorem size_part (f f' : Nat → Nat) (n n' : Nat) (hn : n' ≤ n) (hf : ∀ j, j < n' → f' j = f j) (h : size f n ≤ n') : size f' n' = size f n ∧ code f' n' = code f n := by
  have h1 := size_ge f n
  have e : size f' n' = size f n := sz_part f f' n n' hn (by omega) hf 3 1 h
  refine ⟨e, ?_⟩
  unfold code
  rw [e, hf 0 (by omega), codeTo_part f f' (size f n) (fun j hj => hf j (by omega))]

/-- What stands in the row of characters from a on. -/
theorem cs_in (g : Nat → Nat) (n : Nat) : ∀ (m a k : Nat) (x : Nat × Nat × Nat), (cs g n m a)[k]? = some x → a ≤ x.2.1 ∧ x.2.1 < x.2.2 ∧ x.2.2 ≤ n
  | 0, a, k, x, h => by simp [cs] at h
  | m + 1, a, k, x, h => by
    rw [cs] at h
    by_cases ha : a < n
    · rw [if_pos ha] at h
      have s1 := size_ge (fun j => g (a + j)) (n - a)
      have s2 := size_le (fun j => g (a + j)) (n - a) (by omega)
      cases k with
      | zero =>
        simp at h
        subst h
        simp only
        omega
      | succ k =>
        rw [List.getElem?_cons_succ] at h
        have := cs_in g n m _ k x h
        omega
    · rw [if_neg ha] at h; simp at h
theorem cs_drop (g : Nat → Nat) (n : Nat) : ∀ i m a, n ≤ a + m → i < (cs g n m a).length → ∃ m1, n ≤ frx (cs g n m a) i + m1 ∧ (cs g n m a).drop i = cs g n m1 (frx (cs g n m a) i)
  | 0, m, a, hm, hi => by
    have ha : a < n := by
      rcases Nat.lt_or_ge a n with h | h
      · exact h
      · rw [cs_nil (by omega)] at hi; simp at hi
    obtain ⟨m', _, e⟩ := cs_cons (g := g) ha hm
    have ef : frx (cs g n m a) 0 = a := by rw [e]; rfl
    exact ⟨m, by rw [ef]; exact hm, by rw [ef]; rfl⟩
  | i + 1, m, a, hm, hi => by
    have ha : a < n := by
      rcases Nat.lt_or_ge a n with h | h
      · exact h
      · rw [cs_nil (by omega)] at hi; simp at hi
    obtain ⟨m', hm', e⟩ := cs_cons (g := g) ha hm
    rw [e] at hi ⊢
    have := cs_drop g n i m' _ hm' (by simpa using hi)
    exact this
/-- Where z characters end that begin at a. -/
def ends (l : List (Nat × Nat × Nat)) (a : Nat) : Nat → Nat
  | 0 => a
  | z + 1 => tox l z
def shift (F : Nat) (x : Nat × Nat × Nat) : Nat × Nat × Nat := (x.1, x.2.1 - F, x.2.2 - F)
theorem cs_part (g g' : Nat → Nat) (n F T : Nat) (hg : ∀ j, F + j < T → g' j = g (F + j)) (hT : T ≤ n) : ∀ z a m m', F ≤ a → n ≤ a + m → z ≤ (cs g n m a).length → ends (cs g n m a) a z = T → T ≤ a + m' →
    cs g' (T - F) m' (a - F) = ((cs g n m a).take z).map (shift F)
  | 0, a, m, m', hF, hm, hz, hE, hm' => by
    simp only [ends] at hE
    rw [cs_nil (by omega)]; simp
  | z + 1, a, m, m', hF, hm, hz, hE, hm' => by
    have ha : a < n := by
      rcases Nat.lt_or_ge a n with h | h
      · exact h
      · rw [cs_nil (by omega)] at hz; simp at hz
    obtain ⟨m1, hm1, e⟩ := cs_cons (g := g) ha hm
    rw [e] at hz hE ⊢
    have s1 := size_ge (fun j => g (a + j)) (n - a)
    have s2 := size_le (fun j => g (a + j)) (n - a) (by omega)
    have hE' : ends (cs g n m1 (a + size (fun j => g (a + j)) (n - a))) (a + size (fun j => g (a + j)) (n - a)) z = T := by
      cases z with
      | zero => simpa [ends, tox] using hE
      | succ z => simpa [ends, tox] using hE
    have hbT : a + size (fun j => g (a + j)) (n - a) ≤ T := by
      cases z with
      | zero => simp only [ends] at hE'; omega
      | succ z =>
        simp only [ends, tox] at hE'
        simp only [List.length_cons] at hz
        have hx := List.getElem?_eq_getElem (l := cs g n m1 (a + size (fun j => g (a + j)) (n - a))) (i := z) (by omega)
        have := cs_in g n m1 _ z _ hx
        rw [hx] at hE'
        simp only [Option.getD_some] at hE'
        omega
    have hp := size_part (fun j => g (a + j)) (fun j => g' (a - F + j)) (n - a) (T - a) (by omega) (fun j hj => by
      show g' (a - F + j) = g (a + j)
      rw [hg _ (by omega)]; congr 1; omega) (by omega)
    have hnT : T - F - (a - F) = T - a := by omega
    have hlt : a - F < T - F := by omega
    obtain ⟨m2, hm2, e2⟩ := cs_cons (g := g') (n := T - F) (m := m') (i := a - F) hlt (by omega)
    rw [e2, hnT, hp.1, hp.2, List.take_succ_cons, List.map_cons]
    have ea : a - F + size (fun j => g (a + j)) (n - a) = a + size (fun j => g (a + j)) (n - a) - F := by omega
    rw [hnT, hp.1] at hm2
    rw [ea, cs_part g g' n F T hg hT z _ m1 m2 (by omega) hm1 (by simpa using hz) hE' (by omega)]
    simp only [shift]

/-- The bytes of a character whose code is not the sign for a broken one. -/
theorem enc_code (f : Nat → Nat) (n : Nat) (hb : ∀ j, f j < 256) (h : code f n ≠ 65533) : Lib.encodeRune ((code f n : Nat) : Int) = (List.range (size f n)).map fun j => (f j).toUInt8 := by
  have hs : size f n = lenOf (f 0) := by
    rcases Nat.decEq (size f n) (lenOf (f 0)) with h' | h'
    · exact absurd (code_no h') h
    · exact h'
  have hc := code_yes hs
  have hz : sz f n 3 1 = lenOf (f 0) := hs
  have e2 : codeTo f 2 = codeTo f 1 * 64 + f 1 % 64 := codeTo_succ f (k := 1) (by omega)
  have e3 : codeTo f 3 = codeTo f 2 * 64 + f 2 % 64 := codeTo_succ f (k := 2) (by omega)
  have e4 : codeTo f 4 = codeTo f 3 * 64 + f 3 % 64 := codeTo_succ f (k := 3) (by omega)
  have e1 := codeTo_one f
  have b0 := hb 0
  have b1 := hb 1
  have b2 := hb 2
  have b3 := hb 3
  have hL4 := lenOf_le (f 0)
  have h1 := size_ge f n
  have hg : ∀ k, 1 ≤ k → k < lenOf (f 0) → good (f 0) k (f k) = true := by
    intro k hk1 hk2
    rcases Bool.eq_false_or_eq_true (good (f 0) k (f k)) with hh | hh
    · exact hh
    · exfalso
      have stop : ∀ m j, j ≤ k → k < j + m + 1 → sz f n m j ≤ k := by
        intro m
        induction m with
        | zero => intro j hj hk; simp only [sz]; exact hj
        | succ m ih =>
          intro j hj hk
          rw [sz]
          split
          · rename_i hcond
            rcases Nat.eq_or_lt_of_le hj with rfl | hlt
            · rw [hh] at hcond; simp at hcond
            · exact ih (j + 1) (by omega) (by omega)
          · exact hj
      have := stop 3 1 hk1 (by omega)
      omega
  rw [hs, hc, Lib.encodeRune]
  have hL : lenOf (f 0) = 1 ∨ lenOf (f 0) = 2 ∨ lenOf (f 0) = 3 ∨ lenOf (f 0) = 4 := by omega
  rcases hL with hL | hL | hL | hL
  · have hcd : cd0 (f 0) = f 0 := by simp [cd0, hL]
    have h128 : f 0 < 128 := by unfold lenOf at hL; (repeat' split at hL) <;> omega
    rw [hL, e1, hcd, Lib.encodeRuneZ_one (by omega) (by omega)]
    simp [List.range_succ]
  · have hcd : cd0 (f 0) = f 0 % 32 := by simp [cd0, hL]
    have hr : 194 ≤ f 0 ∧ f 0 < 224 := by unfold lenOf at hL; (repeat' split at hL) <;> omega
    have g1 := (good_one (f 0) (f 1)).1 (hg 1 (by omega) (by omega))
    have hlo : loOf (f 0) = 128 := by unfold loOf; rw [if_neg (by omega), if_neg (by omega)]
    have hhi : hiOf (f 0) = 191 := by unfold hiOf; rw [if_neg (by omega), if_neg (by omega)]
    rw [hL, e2, e1, hcd, Lib.encodeRuneZ_two (by omega) (by omega)]
    have k0 : ((192 : Int) + ((f 0 % 32 * 64 + f 1 % 64 : Nat) : Int) / 64).toNat = f 0 := by omega
    have k1 : ((128 : Int) + ((f 0 % 32 * 64 + f 1 % 64 : Nat) : Int) % 64).toNat = f 1 := by omega
    simp only [List.map_cons, List.map_nil, k0, k1]
    simp [List.range_succ]
  · have hcd : cd0 (f 0) = f 0 % 16 := by simp [cd0, hL]
    have hr : 224 ≤ f 0 ∧ f 0 < 240 := by unfold lenOf at hL; (repeat' split at hL) <;> omega
    have g1 := (good_one (f 0) (f 1)).1 (hg 1 (by omega) (by omega))
    have g2 := (good_more (f 0) (f 2) (k := 2) (by omega)).1 (hg 2 (by omega) (by omega))
    have hlo : 128 ≤ loOf (f 0) ∧ (f 0 = 224 → loOf (f 0) = 160) := by unfold loOf; constructor <;> (repeat' split) <;> omega
    have hhi : hiOf (f 0) ≤ 191 ∧ (f 0 = 237 → hiOf (f 0) = 159) := by unfold hiOf; constructor <;> (repeat' split) <;> omega
    obtain ⟨c, hcc⟩ : ∃ c, c = (f 0 % 16 * 64 + f 1 % 64) * 64 + f 2 % 64 := ⟨_, rfl⟩
    have hc3 : (2048 ≤ (c : Int) ∧ (c : Int) < 55296) ∨ (57343 < (c : Int) ∧ (c : Int) ≤ 65535) := by
      by_cases h224 : f 0 = 224
      · have := hlo.2 h224; left; omega
      · by_cases h237 : f 0 = 237
        · have := hhi.2 h237; left; omega
        · by_cases h' : f 0 < 237
          · left; omega
          · right; omega
    rw [hL, e3, e2, e1, hcd, ← hcc, Lib.encodeRuneZ_three hc3]
    have k0 : ((224 : Int) + (c : Int) / 4096).toNat = f 0 := by omega
    have k1 : ((128 : Int) + (c : Int) / 64 % 64).toNat = f 1 := by omega
    have k2 : ((128 : Int) + (c : Int) % 64).toNat = f 2 := by omega
    simp only [List.map_cons, List.map_nil, k0, k1, k2]
    simp [List.range_succ]
  · have hcd : cd0 (f 0) = f 0 % 8 := by simp [cd0, hL]
    have hr : 240 ≤ f 0 ∧ f 0 < 245 := by unfold lenOf at hL; (repeat' split at hL) <;> omega
    have g1 := (good_one (f 0) (f 1)).1 (hg 1 (by omega) (by omega))
    have g2 := (good_more (f 0) (f 2) (k := 2) (by omega)).1 (hg 2 (by omega) (by omega))
    have g3 := (good_more (f 0) (f 3) (k := 3) (by omega)).1 (hg 3 (by omega) (by omega))
    have hlo : 128 ≤ loOf (f 0) ∧ (f 0 = 240 → loOf (f 0) = 144) := by unfold loOf; constructor <;> (repeat' split) <;> omega
    have hhi : hiOf (f 0) ≤ 191 ∧ (f 0 = 244 → hiOf (f 0) = 143) := by unfold hiOf; constructor <;> (repeat' split) <;> omega
    obtain ⟨c, hcc⟩ : ∃ c, c = ((f 0 % 8 * 64 + f 1 % 64) * 64 + f 2 % 64) * 64 + f 3 % 64 := ⟨_, rfl⟩
    have hc3 : (65536 : Int) ≤ (c : Int) ∧ (c : Int) ≤ 1114111 := by
      by_cases h240 : f 0 = 240
      · have := hlo.2 h240; omega
      · by_cases h244 : f 0 = 244
        · have := hhi.2 h244; omega
        · omega
    rw [hL, e4, e3, e2, e1, hcd, ← hcc, Lib.encodeRuneZ_four hc3.1 hc3.2]
    have k0 : ((240 : Int) + (c : Int) / 262144).toNat = f 0 := by omega
    have k1 : ((128 : Int) + (c : Int) / 4096 % 64).toNat = f 1 := by omega
    have k2 : ((128 : Int) + (c : Int) / 64 % 64).toNat = f 2 := by omega
    have k3 : ((128 : Int) + (c : Int) % 64).toNat = f 3 := by omega
    simp only [List.map_cons, List.map_nil, k0, k1, k2, k3]
    simp [List.range_succ]

end Pl
end Go.Proofs.YtcmgclckknpecaaGreatDoor
