import Derived.Test.YtcmgclckknpecaaPsa
namespace Go.Proofs.Ytcmgclckknpecaa
open Go.RowKit

/-- What is told of a chain that was read. -/
def verdict (R : (Bool × Nat) × Nat) : Nat × Nat := if R.1.1 = true then (if 8 < R.2 then (3, 0) else (0, 0)) else (2, R.1.2)

theorem nms_new (names : List ByteArray) (W : World) : Nms W.heap.size names (W.alloc (.cells ((names.map Value.string).toArray) 9)) := by
  have hh := heap_alloc_new W (.cells ((names.map Value.string).toArray) 9)
  refine ⟨fun i hi => ?_, by simp⟩
  have h1 := World.news_of_block hh i (.string names[i]) (by simp [hi])
  have h2 : ((⟨W.heap.size, 0, none⟩ : Addr).add i) = ⟨W.heap.size, i, none⟩ := by
    unfold Addr.add
    by_cases h : i = 0
    · subst h; rfl
    · rw [if_neg h, Nat.zero_add]
  rw [h2] at h1; exact h1

theorem chn_none (s : ByteArray) (m : Nat) (cut : Bool) (a c b : Nat) (h : Pl.nm s a (if cut = true then Pl.lates else Pl.starts) 0 0 = (none, b)) : Pl.chn s (m + 1) cut a c = ((false, b), c) := by
  unfold Pl.chn; rw [h]
theorem chn_some (s : ByteArray) (m : Nat) (cut : Bool) (a c b i : Nat) (o : Bool) (d : Nat) (h : Pl.nm s a (if cut = true then Pl.lates else Pl.starts) 0 0 = (some i, b)) (hb : Pl.body s (if cut = true then Pl.kindL i else Pl.kindS i) b = (o, d)) :
    Pl.chn s (m + 1) cut a c = if o = true then (if (cut = true ∨ 3 ≤ i) ∧ d = s.size then ((true, d), c + 1) else if Pl.byteIn s 59 59 d = true then Pl.chn s m (cut || decide (3 ≤ i)) (d + 1) (c + 1) else ((false, d), c + 1)) else ((false, d), c + 1) := by
  rw [Pl.chn]; simp only [h, hb]

theorem Pn.below {pb : Nat} {s : ByteArray} {a : Nat} {bad : Int} {l : Value} {w : World} (h : Pn pb s a bad l w) (O : Obj) : Pn pb s a bad l (w.alloc O) := h.of_below ((Below.refl _ w).alloc (Nat.le_refl _) O)
theorem nm_le (s : ByteArray) (a : Nat) (ha : a ≤ s.size) : ∀ (names : List ByteArray) (i lg : Nat) (res : Option Nat) (b : Nat), a + lg ≤ s.size → Pl.nm s a names i lg = (res, b) → a ≤ b ∧ b ≤ s.size
  | [], i, lg, res, b, hlg, h => by simp only [Pl.nm, Prod.mk.injEq] at h; omega
  | w :: r, i, lg, res, b, hlg, h => by
    have hc := Pl.com_le s a w ha
    unfold Pl.nm at h
    by_cases hf : Pl.com s a w = w.size
    · rw [if_pos hf] at h
      simp only [Prod.mk.injEq] at h
      omega
    · rw [if_neg hf] at h
      exact nm_le s a ha r (i + 1) _ res b (by omega) h
theorem nm_pos (s : ByteArray) (a : Nat) : ∀ (names : List ByteArray) (i lg j b : Nat), (∀ w ∈ names, 1 ≤ w.size) → Pl.nm s a names i lg = (some j, b) → a < b
  | [], i, lg, j, b, _, h => by simp [Pl.nm] at h
  | w :: r, i, lg, j, b, hp, h => by
    have h1 := hp w (by simp)
    unfold Pl.nm at h
    by_cases hf : Pl.com s a w = w.size
    · rw [if_pos hf] at h
      simp only [Prod.mk.injEq] at h
      omega
    · rw [if_neg hf] at h
      exact nm_pos s a r (i + 1) _ j b (fun x hx => hp x (by simp [hx])) h
theorem lst_fits (s : ByteArray) (item : Nat → Bool × Nat) (hi : Pl.Fits s item) : ∀ m, Pl.Fits s (Pl.lst s item m)
  | 0, a, ha => ⟨Nat.le_refl _, ha⟩
  | m + 1, a, ha => by
    unfold Pl.lst
    refine Pl.thenP_fits (hi a ha) fun b hb => ?_
    split
    · have h1 := (Pl.byteIn_lt (by assumption)).1
      have := lst_fits s item hi m (b + 1) (by omega)
      omega
    · exact Pl.sign_fits s 41 b hb
theorem bnds_fits (s : ByteArray) : Pl.Fits s (Pl.bnds s) := fun a ha => by
  unfold Pl.bnds; split
  · have h1 := (Pl.byteIn_lt (by assumption)).1
    have h2 := Pl.sign_fits s 44 (a + 1) (by omega)
    have := Pl.thenP_fits (s := s) (r := Pl.sign s 44 (a + 1)) (k := fun b => if Pl.byteIn s (Pl.bt s a) 57 b = true then Pl.sign s 41 (b + 1) else (false, b)) h2 (fun b hb => by
      dsimp only
      split
      · have h3 := (Pl.byteIn_lt (by assumption)).1
        have := Pl.sign_fits s 41 (b + 1) (by omega)
        omega
      · exact ⟨Nat.le_refl _, hb⟩)
    omega
  · exact ⟨Nat.le_refl _, ha⟩
theorem body_fits (s : ByteArray) (k : Nat) : Pl.Fits s (Pl.body s k) := fun a ha => by
  unfold Pl.body
  repeat' split
  · exact lst_fits s _ (Pl.pair_fits s) _ a ha
  · exact lst_fits s _ (Pl.word_fits s) _ a ha
  · exact bnds_fits s a ha
  · exact ⟨Nat.le_refl _, ha⟩
theorem starts_pos : ∀ w ∈ Pl.starts, 1 ≤ w.size := by decide +kernel
theorem lates_pos : ∀ w ∈ Pl.lates, 1 ≤ w.size := by decide +kernel

theorem slice_of {w : World} {base : Nat} {e : TypeId} {size : Nat} {v : Value} {n : Nat} {xs : List Value} (h : w.ownsRow base e size v n xs) : ∃ p c, v = .slice p n c := by
  rcases h.2 with ⟨h1, h2⟩ | ⟨g, cap, _, h1, _⟩
  · exact ⟨none, 0, by rw [h1, h2]⟩
  · exact ⟨_, cap, h1⟩

end Go.Proofs.Ytcmgclckknpecaa
