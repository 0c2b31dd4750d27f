/- The stages one behind the other, as plain functions, and what they keep. -/
import Derived.Test.YtcmgclckknpecaaGreatDoorHgm
namespace Go.Proofs.YtcmgclckknpecaaGreatDoor
namespace Pl

theorem decode_ok (s : ByteArray) (i : Nat) : okc (Utf8.decode s i).1 := by
  rw [Lib.decode_at]
  unfold Lib.decodeN okc
  repeat' split
  all_goals (simp only; omega)
theorem rns_ok (s : ByteArray) : ∀ m pos, ∀ c ∈ rns s m pos, okc c
  | 0, pos, c, h => by simp [rns] at h
  | m + 1, pos, c, h => by
    rw [rns] at h
    split at h
    · rcases List.mem_cons.1 h with rfl | h
      · exact decode_ok s pos
      · exact rns_ok s m _ c h
    · simp at h

/-- What characters keep to: their codes are codes, their bytes begin and end at borders, they do not fall. -/
structure Inv (b : Nat → Prop) (xs : Ch3) : Prop where
  ok : ∀ x ∈ xs, okc x.1
  pt : ∀ p, p < xs.length → b (frx xs p) ∧ b (tox xs p) ∧ frx xs p < tox xs p
  mo : ∀ p q, p ≤ q → q < xs.length → frx xs p ≤ frx xs q
def Src (xs : Ch3) (i : Nat) (y : Nat × Nat × Nat) : Prop := ∃ p q, i ≤ p ∧ p ≤ q ∧ q < xs.length ∧ y.2.1 = frx xs p ∧ y.2.2 = tox xs q ∧ okc y.1
theorem Src.low {xs : Ch3} {i j : Nat} {y : Nat × Nat × Nat} (h : Src xs j y) (hi : i ≤ j) : Src xs i y := by
  obtain ⟨p, q, h1, h2⟩ := h
  exact ⟨p, q, Nat.le_trans hi h1, h2⟩
theorem frx_get {xs : Ch3} {p : Nat} (h : p < xs.length) : frx xs p = (xs[p]).2.1 ∧ tox xs p = (xs[p]).2.2 := by simp [frx, tox, h]
theorem inv_of {b : Nat → Prop} {xs ys : Ch3} (h : Inv b xs) (h1 : ∀ y ∈ ys, Src xs 0 y) (h2 : ys.Pairwise fun a c => a.2.1 ≤ c.2.1) : Inv b ys := by
  refine ⟨fun y hy => ?_, fun p hp => ?_, fun p q hpq hq => ?_⟩
  · obtain ⟨_, _, _, _, _, _, _, ho⟩ := h1 y hy
    exact ho
  · obtain ⟨p', q', _, hle, hq', e1, e2, _⟩ := h1 _ (List.getElem_mem hp)
    rw [(frx_get hp).1, (frx_get hp).2, e1, e2]
    have a1 := h.pt p' (by omega)
    have a2 := h.pt q' hq'
    have a3 := h.mo p' q' hle hq'
    exact ⟨a1.1, a2.2.1, by omega⟩
  · rcases Nat.lt_or_ge p q with hlt | hge
    · have := List.pairwise_iff_getElem.1 h2 p q (by omega) hq hlt
      rw [(frx_get (by omega : p < ys.length)).1, (frx_get hq).1]
      exact this
    · obtain rfl : p = q := by omega
      exact Nat.le_refl _
theorem src_self {b : Nat → Prop} {xs : Ch3} (h : Inv b xs) {i : Nat} (hi : i < xs.length) : Src xs i (xs[i]) := ⟨i, i, Nat.le_refl _, Nat.le_refl _, hi, (frx_get hi).1.symm, (frx_get hi).2.symm, h.ok _ (List.getElem_mem hi)⟩
theorem src_from {b : Nat → Prop} {xs : Ch3} (h : Inv b xs) {i j : Nat} {y : Nat × Nat × Nat} (hy : Src xs j y) (hij : i ≤ j) : frx xs i ≤ y.2.1 := by
  obtain ⟨p, q, h1, h2, h3, h4, _⟩ := hy
  rw [h4]
  exact h.mo i p (by omega) (by omega)
theorem tgs_src {b : Nat → Prop} {xs : Ch3} (h : Inv b xs) : ∀ m i, (∀ y ∈ tgs xs m i, Src xs i y) ∧ (tgs xs m i).Pairwise fun a c => a.2.1 ≤ c.2.1
  | 0, i => by simp [tgs]
  | m + 1, i => by
    rw [tgs]
    by_cases hi : i < xs.length
    · rw [dif_pos hi]
      by_cases h0 : tgAt xs i = 0
      · rw [if_pos h0]
        have ih := tgs_src h m (i + 1)
        refine ⟨fun y hy => ?_, List.pairwise_cons.2 ⟨fun y hy => ?_, ih.2⟩⟩
        · rcases List.mem_cons.1 hy with rfl | hy
          · exact src_self h hi
          · exact (ih.1 y hy).low (by omega)
        · rw [← (frx_get hi).1]
          exact src_from h (ih.1 y hy) (by omega)
      · rw [if_neg h0]
        have hle := tgAt_le xs i (by omega)
        have ih := tgs_src h m (i + tgAt xs i)
        refine ⟨fun y hy => ?_, List.pairwise_cons.2 ⟨fun y hy => ?_, ih.2⟩⟩
        · rcases List.mem_cons.1 hy with rfl | hy
          · exact ⟨i, i + tgAt xs i - 1, Nat.le_refl _, by omega, by omega, rfl, rfl, by unfold okc; omega⟩
          · exact (ih.1 y hy).low (by omega)
        · exact src_from h (ih.1 y hy) (by omega)
    · rw [dif_neg hi]
      simp
theorem exs_src {b : Nat → Prop} {xs : Ch3} (h : Inv b xs) (ps : List (ByteArray × ByteArray)) (hp8 : ∀ p ∈ ps, p.2.size ≤ 8) : ∀ m i, (∀ y ∈ exs ps xs m i, Src xs i y) ∧ (exs ps xs m i).Pairwise fun a c => a.2.1 ≤ c.2.1
  | 0, i => by simp [exs]
  | m + 1, i => by
    rw [exs]
    by_cases hi : i < xs.length
    · rw [dif_pos hi]
      by_cases h0 : (exAt ps xs i).1.size = 0
      · rw [if_pos h0]
        have ih := exs_src h ps hp8 m (i + 1)
        refine ⟨fun y hy => ?_, List.pairwise_cons.2 ⟨fun y hy => ?_, ih.2⟩⟩
        · rcases List.mem_cons.1 hy with rfl | hy
          · exact src_self h hi
          · exact (ih.1 y hy).low (by omega)
        · rw [← (frx_get hi).1]
          exact src_from h (ih.1 y hy) (by omega)
      · rw [if_neg h0]
        have hle := (exAt_le ps hp8 xs i (by omega)).1
        have ih := exs_src h ps hp8 m (i + (exAt ps xs i).1.size)
        have hl : ∀ y ∈ lts (exAt ps xs i).2 (frx xs i) (tox xs (i + (exAt ps xs i).1.size - 1)), Src xs i y ∧ y.2.1 = frx xs i := fun y hy => by
          obtain ⟨c, hc, rfl⟩ := List.mem_map.1 hy
          exact ⟨⟨i, i + (exAt ps xs i).1.size - 1, Nat.le_refl _, by omega, by omega, rfl, rfl, rns_ok _ _ _ c hc⟩, rfl⟩
        refine ⟨fun y hy => ?_, List.pairwise_append.2 ⟨?_, ih.2, fun y hy z hz => ?_⟩⟩
        · rcases List.mem_append.1 hy with hy | hy
          · exact (hl y hy).1
          · exact (ih.1 y hy).low (by omega)
        · rw [List.pairwise_iff_getElem]
          intro p q hp hq _
          rw [(hl _ (List.getElem_mem hp)).2, (hl _ (List.getElem_mem hq)).2]
          exact Nat.le_refl _
        · rw [(hl y hy).2]
          exact src_from h (ih.1 z hz) (by omega)
    · rw [dif_neg hi]
      simp
theorem fdC_two (x : Nat × Nat × Nat) (hx : okc x.1) : ∀ y ∈ fdC x, y.2 = x.2 ∧ okc y.1 := by
  unfold fdC
  intro y hy
  have o : ∀ c, c < 128 → okc c := fun c h => ok_low h
  split at hy
  · simp at hy; rcases hy with rfl | rfl <;> exact ⟨rfl, o _ (by simp)⟩
  · split at hy
    · simp at hy; subst hy; exact ⟨rfl, o _ (by simp)⟩
    · split at hy
      · rename_i hw
        simp [wit] at hw
        simp at hy; subst hy
        exact ⟨rfl, o _ (by omega)⟩
      · split at hy
        · simp at hy; subst hy; exact ⟨rfl, o _ (by simp)⟩
        · simp at hy; subst hy; exact ⟨rfl, hx⟩
theorem fd_src {b : Nat → Prop} {xs : Ch3} (h : Inv b xs) : ∀ n i, xs.length ≤ i + n → (∀ y ∈ (xs.drop i).flatMap fdC, Src xs i y) ∧ ((xs.drop i).flatMap fdC).Pairwise fun a c => a.2.1 ≤ c.2.1
  | 0, i, hn => by rw [List.drop_of_length_le (by omega)]; simp
  | n + 1, i, hn => by
    by_cases hi : i < xs.length
    · have ih := fd_src h n (i + 1) (by omega)
      rw [List.drop_eq_getElem_cons hi, List.flatMap_cons]
      have hl : ∀ y ∈ fdC (xs[i]), Src xs i y ∧ y.2.1 = frx xs i := fun y hy => by
        obtain ⟨e, ho⟩ := fdC_two (xs[i]) (h.ok _ (List.getElem_mem hi)) y hy
        exact ⟨⟨i, i, Nat.le_refl _, Nat.le_refl _, hi, by rw [e, (frx_get hi).1], by rw [e, (frx_get hi).2], ho⟩, by rw [e, (frx_get hi).1]⟩
      refine ⟨fun y hy => ?_, List.pairwise_append.2 ⟨?_, ih.2, fun y hy z hz => ?_⟩⟩
      · rcases List.mem_append.1 hy with hy | hy
        · exact (hl y hy).1
        · exact (ih.1 y hy).low (by omega)
      · rw [List.pairwise_iff_getElem]
        intro p q hp hq _
        rw [(hl _ (List.getElem_mem hp)).2, (hl _ (List.getElem_mem hq)).2]
        exact Nat.le_refl _
      · rw [(hl y hy).2]
        exact src_from h (ih.1 z hz) (by omega)
    · rw [List.drop_of_length_le (by omega)]; simp
theorem eaK_inv {b : Nat → Prop} {xs : Ch3} (h : Inv b xs) (i : Nat) (sp : Sp) (hw : SpW sp) : Inv b (eaK i sp xs) := by
  unfold eaK
  split
  · exact inv_of h (tgs_src h _ 0).1 (tgs_src h _ 0).2
  · split
    · have := fd_src h xs.length 0 (by omega)
      rw [List.drop_zero] at this
      exact inv_of h this.1 this.2
    · have := exs_src h sp.ps (fun p hp => (hw.pa p hp).2.2.2.2) xs.length 0
      exact inv_of h this.1 this.2
theorem exs_len (ps : List (ByteArray × ByteArray)) (hp8 : ∀ p ∈ ps, p.2.size ≤ 8) (xs : Ch3) : ∀ m i, i ≤ xs.length → (exs ps xs m i).length ≤ 8 * (xs.length - i)
  | 0, i, _ => Nat.zero_le _
  | m + 1, i, hi => by
    rw [exs]
    by_cases hlt : i < xs.length
    · rw [dif_pos hlt]
      by_cases h0 : (exAt ps xs i).1.size = 0
      · rw [if_pos h0]
        have := exs_len ps hp8 xs m (i + 1) (by omega)
        simp only [List.length_cons]; omega
      · rw [if_neg h0]
        have hle := exAt_le ps hp8 xs i hi
        have := exs_len ps hp8 xs m (i + (exAt ps xs i).1.size) hle.1
        have := lts_le (exAt ps xs i).2 (frx xs i) (tox xs (i + (exAt ps xs i).1.size - 1))
        simp only [List.length_append]; omega
    · rw [dif_neg hlt]; exact Nat.zero_le _
theorem eaK_len (i : Nat) (sp : Sp) (hw : SpW sp) (xs : Ch3) : (eaK i sp xs).length ≤ 8 * xs.length := by
  unfold eaK
  split
  · have := tgs_length xs xs.length 0 (by omega)
    omega
  · split
    · have := fd_le xs
      omega
    · have := exs_len sp.ps (fun p hp => (hw.pa p hp).2.2.2.2) xs xs.length 0 (by omega)
      omega

/-- Which stage a name is. -/
def iS (y : ByteArray) : Nat := starts.findIdx fun z => z.toList == y.toList
def iL (y : ByteArray) : Nat := lates.findIdx fun z => z.toList == y.toList
theorem iS_at : ∀ i (h : i < starts.length), iS (starts[i]) = i := by decide +kernel
theorem iL_at : ∀ i (h : i < lates.length), iL (lates[i]) = i := by decide +kernel
def eaS (sp : Sp) (xs : Ch3) : Ch3 := eaK (iS sp.nm) sp xs
def eaAll : List Sp → Ch3 → Ch3
  | [], xs => xs
  | e :: r, xs => eaAll r (eaS e xs)
def laS (sp : Sp) (cs : List Nat) : List (List Nat) := laK (iL sp.nm) sp cs
/-- A token, its term as codes. -/
abbrev Tc := List Nat × Nat × Nat × Nat
def tkC (t : Tc) : Tk := (en t.1, t.2)
def tokC (xs : Ch3) (i : Nat) (p : Nat × Nat) : Tc := ((sub xs p.1 p.2).map (·.1), i, frx xs p.1, tox xs (p.1 + p.2 - 1))
def toksC (xs : Ch3) {n : Nat} : Nat → List (Pce n) → List Tc
  | _, [] => []
  | i, x :: r => tokC xs i x.1 :: toksC xs (i + 1) r
def cutC (cu : Sp) (xs : Ch3) : List Tc := toksC xs 0 (pcs (iS cu.nm) xs)
def lgC (sp : Sp) (ts : List Tc) : List Tc := ts.flatMap fun t => (laS sp t.1).map fun u => (u, t.2)
def lateAll : List Sp → List Tc → Option (List Tc)
  | [], ts => if ts.length ≤ 300 then some ts else none
  | l :: r, ts => if ts.length ≤ 300 then lateAll r (lgC l ts) else none
def takeP (es : List Sp) (cu : Sp) (ls : List Sp) (xs : Ch3) : Option (List Tc) := lateAll ls (cutC cu (eaAll es xs))

theorem tbs_eb (xs : Ch3) : tbs xs = eb (xs.map (·.1)) := by
  rw [tbs, eb, List.flatMap_map]
theorem toks_eq (xs : Ch3) {n : Nat} : ∀ (i : Nat) (l : List (Pce n)), toks xs i l = (toksC xs i l).map tkC
  | _, [] => rfl
  | i, x :: r => by
    rw [toks, toksC, List.map_cons, toks_eq xs (i + 1) r]
    congr 1
    simp only [tok, tkC, tokC, en, tbs_eb]
theorem toksC_length (xs : Ch3) {n : Nat} : ∀ (i : Nat) (l : List (Pce n)), (toksC xs i l).length = l.length
  | _, [] => rfl
  | i, x :: r => by simp [toksC, toksC_length xs (i + 1) r]
theorem chg_eq (sp : Sp) : ∀ ts : List Tc, (∀ t ∈ ts, ∀ c ∈ t.1, okc c) → chg (fun x => (laS sp (dc x)).map en) (ts.map tkC) = (lgC sp ts).map tkC
  | [], _ => rfl
  | t :: r, h => by
    have ih := chg_eq sp r (fun u hu => h u (by simp [hu]))
    have e := dc_en t.1 (h t (by simp))
    simp only [chg, lgC, List.map_cons, List.flatMap_cons, List.map_append] at ih ⊢
    rw [ih]
    congr 1
    simp only [tkC, e, List.map_map]
    rfl

/-- What tokens keep to (K: how long a term may be). -/
structure TkI (b : Nat → Prop) (K : Nat) (ts : List Tc) : Prop where
  ok : ∀ t ∈ ts, (∀ c ∈ t.1, okc c) ∧ t.1 ≠ [] ∧ t.1.length ≤ K ∧ b t.2.2.1 ∧ b t.2.2.2 ∧ t.2.2.1 < t.2.2.2
  ps : ts.Pairwise fun a c => a.2.1 ≤ c.2.1
theorem toksC_mem (xs : Ch3) {n : Nat} : ∀ (i : Nat) (l : List (Pce n)) (t : Tc), t ∈ toksC xs i l → ∃ (j : Nat) (x : Pce n), x ∈ l ∧ i ≤ j ∧ t = tokC xs j x.1
  | _, [], t, h => by simp [toksC] at h
  | i, x :: r, t, h => by
    rcases List.mem_cons.1 h with rfl | h
    · exact ⟨i, x, by simp, Nat.le_refl _, rfl⟩
    · obtain ⟨j, y, hy, hj, e⟩ := toksC_mem xs (i + 1) r t h
      exact ⟨j, y, by simp [hy], by omega, e⟩
theorem toksC_ps (xs : Ch3) {n : Nat} : ∀ (i : Nat) (l : List (Pce n)), (toksC xs i l).Pairwise fun a c => a.2.1 ≤ c.2.1
  | _, [] => List.Pairwise.nil
  | i, x :: r => by
    refine List.pairwise_cons.2 ⟨fun t ht => ?_, toksC_ps xs (i + 1) r⟩
    obtain ⟨j, y, _, hj, rfl⟩ := toksC_mem xs (i + 1) r t ht
    show i ≤ j
    omega
theorem cutC_inv {b : Nat → Prop} {xs : Ch3} (h : Inv b xs) (cu : Sp) (K : Nat) (hK : xs.length ≤ K) : TkI b K (cutC cu xs) := by
  refine ⟨fun t ht => ?_, toksC_ps xs 0 _⟩
  obtain ⟨j, x, _, _, rfl⟩ := toksC_mem xs 0 _ t ht
  obtain ⟨⟨i, z⟩, h1, h2⟩ := x
  simp only at h1 h2
  have hl : (sub xs i z).length = z := sub_length h2
  have e : (sub xs i z) = (xs.drop i).take z := rfl
  have a1 := h.pt i (by omega)
  have a2 := h.pt (i + z - 1) (by omega)
  have a3 := h.mo i (i + z - 1) (by omega) (by omega)
  refine ⟨fun c hc => ?_, fun hn => ?_, ?_, a1.1, a2.2.1, ?_⟩
  · obtain ⟨y, hy, rfl⟩ := List.mem_map.1 hc
    rw [e] at hy
    exact h.ok y (List.mem_of_mem_drop (List.mem_of_mem_take hy))
  · have := congrArg List.length hn
    simp only [tokC, List.length_map, hl, List.length_nil] at this
    omega
  · simp only [tokC, List.length_map, hl]
    omega
  · show frx xs i < tox xs (i + z - 1)
    omega
theorem edF_sub (cs : List Nat) (lo hi : Nat) : ∀ m k, ∀ u ∈ edF cs lo hi m k, ∃ j, 1 ≤ j ∧ j ≤ cs.length ∧ u = cs.take j
  | 0, k, u, h => by simp [edF] at h
  | m + 1, k, u, h => by
    rw [edF] at h
    split at h
    · rename_i hc
      rcases List.mem_append.1 h with h | h
      · split at h
        · simp at h
          exact ⟨k + 1, by omega, by omega, h⟩
        · simp at h
      · exact edF_sub cs lo hi m (k + 1) u h
    · simp at h
theorem grF_sub (cs : List Nat) (lo hi : Nat) : ∀ m k, ∀ u ∈ grF cs lo hi m k, ∃ i j, 1 ≤ j ∧ i + j ≤ cs.length ∧ u = (cs.drop i).take j
  | 0, k, u, h => by simp [grF] at h
  | m + 1, k, u, h => by
    rw [grF] at h
    split at h
    · rename_i hc
      rcases List.mem_append.1 h with h | h
      · obtain ⟨j, h1, h2, rfl⟩ := edF_sub (cs.drop k) lo hi _ 0 u h
        rw [List.length_drop] at h2
        exact ⟨k, j, h1, by omega, rfl⟩
      · exact grF_sub cs lo hi m (k + 1) u h
    · simp at h
theorem part_ok {cs : List Nat} (hc : ∀ c ∈ cs, okc c) (i j : Nat) (hj : 1 ≤ j) (hij : i + j ≤ cs.length) : (∀ c ∈ (cs.drop i).take j, okc c) ∧ (cs.drop i).take j ≠ [] ∧ ((cs.drop i).take j).length ≤ cs.length := by
  refine ⟨fun c h => hc c (List.mem_of_mem_drop (List.mem_of_mem_take h)), fun h => ?_, by simp; omega⟩
  have := congrArg List.length h
  simp at this
  omega
theorem laK_ok (i : Nat) (sp : Sp) (hw : SpW sp) (cs : List Nat) (hc : ∀ c ∈ cs, okc c) (hne : cs ≠ []) : ∀ u ∈ laK i sp cs, (∀ c ∈ u, okc c) ∧ u ≠ [] ∧ u.length ≤ cs.length + 8 := by
  unfold laK
  intro u hu
  split at hu
  · simp at hu; subst hu
    refine ⟨fun c h => ?_, by simpa using hne, by simp⟩
    obtain ⟨d, hd, rfl⟩ := List.mem_map.1 h
    exact sml_ok (hc d hd)
  · split at hu
    · simp at hu; subst hu
      obtain ⟨ds, hd, he, hn, hl⟩ := stm_ok cs hc
      rw [he, dc_en ds hd]
      exact ⟨hd, hn hne, hl⟩
    · split at hu
      · split at hu
        · simp at hu
        · simp at hu; subst hu; exact ⟨hc, hne, by omega⟩
      · split at hu
        · rcases List.mem_cons.1 hu with rfl | hu
          · exact ⟨hc, hne, by omega⟩
          · obtain ⟨y, hy, rfl⟩ := List.mem_map.1 hu
            obtain ⟨p, hp, rfl⟩ := syF_mem _ _ _ hy
            obtain ⟨_, ha, _, h1, h8⟩ := hw.pa p hp
            have hlen : (bc p.2).length = p.2.size := by simp [bc]
            refine ⟨bc_ok _ ha, fun h => ?_, by omega⟩
            rw [h] at hlen
            simp at hlen
            omega
        · split at hu
          · split at hu
            · simp at hu; subst hu; exact ⟨hc, hne, by omega⟩
            · simp at hu
          · split at hu
            · obtain ⟨i, j, h1, h2, rfl⟩ := grF_sub cs _ _ _ _ u hu
              have := part_ok hc i j h1 h2
              exact ⟨this.1, this.2.1, by omega⟩
            · obtain ⟨j, h1, h2, rfl⟩ := edF_sub cs _ _ _ _ u hu
              have := part_ok hc 0 j h1 (by omega)
              rw [List.drop_zero] at this
              exact ⟨this.1, this.2.1, by omega⟩
theorem lgC_inv {b : Nat → Prop} {K : Nat} {ts : List Tc} (h : TkI b K ts) (sp : Sp) (hw : SpW sp) : TkI b (K + 8) (lgC sp ts) := by
  refine ⟨fun t ht => ?_, ?_⟩
  · obtain ⟨u, hu, ht⟩ := List.mem_flatMap.1 ht
    obtain ⟨v, hv, rfl⟩ := List.mem_map.1 ht
    obtain ⟨h1, h2, h3, h4⟩ := h.ok u hu
    obtain ⟨k1, k2, k3⟩ := laK_ok _ sp hw u.1 h1 h2 v hv
    exact ⟨k1, k2, by show v.length ≤ K + 8; omega, h4⟩
  · have key : ∀ l : List Tc, l.Pairwise (fun a c => a.2.1 ≤ c.2.1) → (lgC sp l).Pairwise fun a c => a.2.1 ≤ c.2.1 := fun l => by
      induction l with
      | nil => intro _; exact List.Pairwise.nil
      | cons t r ih =>
        intro hp
        rw [List.pairwise_cons] at hp
        have e : lgC sp (t :: r) = (laS sp t.1).map (fun u => (u, t.2)) ++ lgC sp r := rfl
        rw [e]
        refine List.pairwise_append.2 ⟨?_, ih hp.2, fun x hx y hy => ?_⟩
        · rw [List.pairwise_map]
          exact List.pairwise_iff_getElem.2 (fun _ _ _ _ _ => Nat.le_refl _)
        · obtain ⟨u, hu, rfl⟩ := List.mem_map.1 hx
          obtain ⟨z, hz, hy⟩ := List.mem_flatMap.1 hy
          obtain ⟨v, _, rfl⟩ := List.mem_map.1 hy
          exact hp.1 z hz
    exact key ts h.ps

end Pl
end Go.Proofs.YtcmgclckknpecaaGreatDoor
