import Derived.Test.YtcmgclckknpecaaGreatDoorAApl
namespace Go.Proofs.YtcmgclckknpecaaGreatDoor
namespace Pl

/-- What no character of a word is: the sign for a broken one. -/
theorem gon_whole {f : Nat → Nat} {n k : Nat} (h : gon f n k = true) : f k ≠ 65533 := by
  intro e
  unfold gon at h
  rw [e] at h
  simp [isLet, isDig, isMrk, wit] at h
theorem let_plain {c : Nat} (h : isLet c = true) : c ≠ 39 ∧ c ≠ 8217 ∧ c ≠ 46 ∧ c ≠ 44 ∧ c ≠ 65533 := by
  refine ⟨?_, ?_, ?_, ?_, ?_⟩ <;> (intro e; rw [e] at h; simp [isLet, wit] at h)
theorem dig_plain {c : Nat} (h : isDig c = true) : c ≠ 39 ∧ c ≠ 8217 ∧ c ≠ 46 ∧ c ≠ 44 ∧ c ≠ 65533 := by
  refine ⟨?_, ?_, ?_, ?_, ?_⟩ <;> (intro e; rw [e] at h; simp [isDig, wit] at h)
theorem gon_let {f : Nat → Nat} {n k : Nat} (h : isLet (f k) = true) : gon f n k = true := by
  have := let_plain h
  unfold gon
  rw [if_neg (by omega), if_neg (by omega), h]; rfl
theorem gon_dig {f : Nat → Nat} {n k : Nat} (h : isDig (f k) = true) : gon f n k = true := by
  have := dig_plain h
  unfold gon
  rw [if_neg (by omega), if_neg (by omega), h]; simp

/-- A word by itself is one word; and none of its characters is broken. -/
theorem wsz_alone (f f' : Nat → Nat) (n i z : Nat) (hz : wsz f n i = z) (h1 : 1 ≤ z) (hf : ∀ k, k < z → f' k = f (i + k)) : wsz f' z 0 = z ∧ ∀ k, k < z → f (i + k) ≠ 65533 := by
  unfold wsz at hz
  by_cases hs : isSgn (f i) = true
  · rw [if_pos hs] at hz
    obtain ⟨R, hR⟩ : ∃ R, run (fun k => isMrk (f k)) n n (i + 1) = R := ⟨_, rfl⟩
    have hsp := (run_spec (fun k => isMrk (f k)) n n (i + 1) (by omega)).1
    rw [hR] at hz hsp
    refine ⟨?_, fun k hk => ?_⟩
    · unfold wsz
      rw [hf 0 (by omega), Nat.add_zero, if_pos hs, run_eq (R := z) (by omega) (by omega) ?_ (by omega)]
      · omega
      · intro j a b
        refine ⟨b, ?_⟩
        show isMrk (f' j) = true
        rw [hf j b]
        exact (hsp (i + j) (by omega) (by omega)).2
    · cases k with
      | zero => intro e; rw [Nat.add_zero] at e; rw [e] at hs; simp [isSgn, wit] at hs
      | succ k =>
        intro e
        have : isMrk (f (i + (k + 1))) = true := (hsp (i + (k + 1)) (by omega) (by omega)).2
        rw [e] at this
        simp [isMrk, wit] at this
  · rw [if_neg hs] at hz
    by_cases hl : (isLet (f i) || isDig (f i)) = true
    · rw [if_pos hl] at hz
      obtain ⟨R, hR⟩ : ∃ R, run (gon f n) n n (i + 1) = R := ⟨_, rfl⟩
      have hsp := run_spec (gon f n) n n (i + 1) (by omega)
      rw [hR] at hz hsp
      have hRz : R = i + z := by omega
      subst hRz
      refine ⟨?_, fun k hk => ?_⟩
      · unfold wsz
        have hs' : ¬ isSgn (f' 0) = true := by rw [hf 0 (by omega), Nat.add_zero]; exact hs
        have hl' : (isLet (f' 0) || isDig (f' 0)) = true := by rw [hf 0 (by omega), Nat.add_zero]; exact hl
        rw [if_neg hs', if_pos hl', run_eq (R := z) (by omega) (by omega) ?_ (by omega)]
        · omega
        · intro j a b
          refine ⟨b, ?_⟩
          have hg := (hsp.1 (i + j) (by omega) (by omega)).2
          have hfj := hf j b
          have hfp : f' (j - 1) = f (i + j - 1) := by rw [hf (j - 1) (by omega)]; congr 1; omega
          unfold gon at hg ⊢
          rw [hfj, hfp]
          by_cases c1 : f (i + j) = 39 ∨ f (i + j) = 8217
          · rw [if_pos c1] at hg ⊢
            simp only [Bool.and_eq_true, decide_eq_true_eq] at hg ⊢
            obtain ⟨⟨g1, g2⟩, g3⟩ := hg
            have hnx : j + 1 < z := by
              rcases Nat.lt_or_ge (j + 1) z with h | h
              · exact h
              · have hz1 : i + z = i + j + 1 := by omega
                exact absurd ⟨by omega, by rw [hz1]; exact gon_let g3⟩ hsp.2
            exact ⟨⟨g1, hnx⟩, by rw [hf (j + 1) hnx, ← Nat.add_assoc]; exact g3⟩
          · rw [if_neg c1] at hg ⊢
            by_cases c2 : f (i + j) = 46 ∨ f (i + j) = 44
            · rw [if_pos c2] at hg ⊢
              simp only [Bool.and_eq_true, decide_eq_true_eq] at hg ⊢
              obtain ⟨⟨g1, g2⟩, g3⟩ := hg
              have hnx : j + 1 < z := by
                rcases Nat.lt_or_ge (j + 1) z with h | h
                · exact h
                · have hz1 : i + z = i + j + 1 := by omega
                  exact absurd ⟨by omega, by rw [hz1]; exact gon_dig g3⟩ hsp.2
              exact ⟨⟨g1, hnx⟩, by rw [hf (j + 1) hnx, ← Nat.add_assoc]; exact g3⟩
            · rw [if_neg c2] at hg ⊢
              exact hg
      · cases k with
        | zero =>
          intro e
          rw [Nat.add_zero] at e
          rw [e] at hl
          simp [isLet, isDig, wit] at hl
        | succ k => exact gon_whole (hsp.1 (i + (k + 1)) (by omega) (by omega)).2
    · rw [if_neg hl] at hz; omega

theorem cutS_mem {n : Nat} {zf : Nat → Nat} {hz : ∀ i, i < n → i + zf i ≤ n} : ∀ m i (x : Pce n), x ∈ cutS n zf hz m i → x.1.1 < n ∧ x.1.2 = zf x.1.1
  | 0, i, x, h => by simp [cutS] at h
  | m + 1, i, x, h => by
    rw [cutS] at h
    split at h
    · rename_i hi
      split at h
      · exact cutS_mem m (i + 1) x h
      · rcases List.mem_cons.1 h with rfl | h
        · exact ⟨hi, rfl⟩
        · exact cutS_mem m _ x h
    · simp at h

theorem extract_bt (s : ByteArray) (F T j : Nat) (hT : T ≤ s.size) (h : F + j < T) : bt (s.extract F T) j = bt s (F + j) := by
  have h1 : j < (s.extract F T).size := by simp; omega
  rw [bt_eq h1, bt_eq (by omega)]
  simp [ByteArray.getElem_extract]

theorem frx_of {l : List (Nat × Nat × Nat)} {k : Nat} {x : Nat × Nat × Nat} (h : l[k]? = some x) : frx l k = x.2.1 ∧ tox l k = x.2.2 ∧ cdx l k = x.1 := by
  simp [frx, tox, cdx, h]

/-- The bytes that stand in z characters' terms are those of the text, if none is broken. -/
theorem tbs_part (s : ByteArray) : ∀ z a m, s.size ≤ a + m → z ≤ (cs (bt s) s.size m a).length → (∀ k, k < z → cdx (cs (bt s) s.size m a) k ≠ 65533) →
    tbs ((cs (bt s) s.size m a).take z) = (List.range (ends (cs (bt s) s.size m a) a z - a)).map fun j => (bt s (a + j)).toUInt8
  | 0, a, m, hm, hz, hc => by simp [tbs, ends]
  | z + 1, a, m, hm, hz, hc => by
    have ha : a < s.size := by
      rcases Nat.lt_or_ge a s.size with h | h
      · exact h
      · rw [cs_nil (by omega)] at hz; simp at hz
    obtain ⟨m1, hm1, e⟩ := cs_cons (g := bt s) ha hm
    rw [e] at hz hc ⊢
    have s1 := size_ge (fun j => bt s (a + j)) (s.size - a)
    obtain ⟨S, hS⟩ : ∃ S, size (fun j => bt s (a + j)) (s.size - a) = S := ⟨_, rfl⟩
    have h0 : code (fun j => bt s (a + j)) (s.size - a) ≠ 65533 := by have := hc 0 (by omega); simpa [cdx] using this
    have he := enc_code (fun j => bt s (a + j)) (s.size - a) (fun j => bt_lt s _) h0
    have ih := tbs_part s z (a + S) m1 (by rw [← hS]; exact hm1) (by rw [← hS]; simpa using hz) (fun k hk => by
      have := hc (k + 1) (by omega)
      rw [← hS]; simpa [cdx] using this)
    rw [hS] at he s1 ⊢
    have hE : ends ((code (fun j => bt s (a + j)) (s.size - a), a, a + S) :: cs (bt s) s.size m1 (a + S)) a (z + 1) = ends (cs (bt s) s.size m1 (a + S)) (a + S) z := by
      cases z with
      | zero => simp [ends, tox]
      | succ z => simp [ends, tox]
    have hge : a + S ≤ ends (cs (bt s) s.size m1 (a + S)) (a + S) z := by
      cases z with
      | zero => simp [ends]
      | succ z =>
        simp only [List.length_cons, hS] at hz
        have hx := List.getElem?_eq_getElem (l := cs (bt s) s.size m1 (a + S)) (i := z) (by omega)
        have h1 := cs_in (bt s) s.size m1 _ z _ hx
        show _ ≤ tox _ z
        rw [(frx_of hx).2.1]
        omega
    rw [hE, List.take_succ_cons]
    show Lib.encodeRune _ ++ tbs _ = _
    rw [he, ih]
    obtain ⟨d, hd⟩ : ∃ d, ends (cs (bt s) s.size m1 (a + S)) (a + S) z = a + S + d := ⟨ends (cs (bt s) s.size m1 (a + S)) (a + S) z - (a + S), by omega⟩
    rw [hd, show a + S + d - (a + S) = d by omega, show a + S + d - a = S + d by omega, List.range_add, List.map_append, List.map_map]
    simp only [Function.comp_def, Nat.add_assoc]

theorem wtk_one (cs' : List (Nat × Nat × Nat)) (z : Nat) (hl : cs'.length = z) (h1 : 1 ≤ z) (hw : wsz (cdx cs') z 0 = z) : wtk cs' = [tok cs' 0 (0, z)] := by
  subst hl
  obtain ⟨m', x, hx, _, e⟩ := cutS_cons (n := cs'.length) (zf := wsz (cdx cs') cs'.length) (hz := fun i h => wsz_le (cdx cs') cs'.length i h) (m := cs'.length) (i := 0) (by omega) (by omega) (by omega)
  unfold wtk wps
  rw [e, hw, cutS_nil (by omega)]
  simp only [toks, hx, hw]

theorem alone_tok (s : ByteArray) (l : List (Nat × Nat × Nat)) (hl : Pl.cs (bt s) s.size s.size 0 = l) (i z F T : Nat) (hi : i < l.length) (hz : wsz (cdx l) l.length i = z) (h1 : 1 ≤ z) (hF : frx l i = F) (hT : tox l (i + z - 1) = T) :
    F < T ∧ T ≤ s.size ∧ tbs (sub l i z) = (s.extract F T).data.toList ∧ wtk (Pl.cs (bt (s.extract F T)) (s.extract F T).size (s.extract F T).size 0) = [(⟨(tbs (sub l i z)).toArray⟩, 0, 0, T - F)] := by
  have hle := wsz_le (cdx l) l.length i hi
  rw [hz] at hle
  have hd := cs_drop (bt s) s.size i s.size 0 (by omega) (by rw [hl]; exact hi)
  rw [hl, hF] at hd
  obtain ⟨m1, hm1, hd⟩ := hd
  have hlen : z ≤ (Pl.cs (bt s) s.size m1 F).length := by rw [← hd]; simp; omega
  have hgd : ∀ k, (Pl.cs (bt s) s.size m1 F)[k]? = l[i + k]? := fun k => by rw [← hd, List.getElem?_drop]
  have hE : ends (Pl.cs (bt s) s.size m1 F) F z = T := by
    obtain ⟨z', rfl⟩ : ∃ z', z = z' + 1 := ⟨z - 1, by omega⟩
    show tox _ z' = T
    rw [← hT]
    unfold tox
    rw [hgd, show i + (z' + 1) - 1 = i + z' by omega]
  have hx0 := List.getElem?_eq_getElem hi
  have c0 := cs_in (bt s) s.size s.size 0 i _ (by rw [hl]; exact hx0)
  have hx1 := List.getElem?_eq_getElem (l := l) (i := i + z - 1) (by omega)
  have c1 := cs_in (bt s) s.size s.size 0 (i + z - 1) _ (by rw [hl]; exact hx1)
  have c2 := cs_in (bt s) s.size m1 F (z - 1) (l[i + z - 1]'(by omega)) (by rw [hgd, show i + (z - 1) = i + z - 1 by omega]; exact hx1)
  have e0 := frx_of hx0
  have e1 := frx_of hx1
  rw [hF] at e0
  rw [hT] at e1
  have hFT : F < T := by omega
  have hTs : T ≤ s.size := by omega
  have husz : (s.extract F T).size = T - F := by simp; omega
  have hcs : Pl.cs (bt (s.extract F T)) (s.extract F T).size (s.extract F T).size 0 = (sub l i z).map (shift F) := by
    have := cs_part (bt s) (bt (s.extract F T)) s.size F T (fun j hj => extract_bt s F T j hTs hj) hTs z F m1 (T - F) (by omega) hm1 hlen hE (by omega)
    rw [husz]
    rw [Nat.sub_self] at this
    rw [this, ← hd]
    rfl
  have hcd : ∀ k, k < z → cdx ((sub l i z).map (shift F)) k = cdx l (i + k) := fun k hk => by
    unfold cdx sub
    rw [List.getElem?_map, List.getElem?_take, if_pos hk, List.getElem?_drop]
    cases l[i + k]? <;> rfl
  have hal := wsz_alone (cdx l) (cdx ((sub l i z).map (shift F))) l.length i z hz h1 hcd
  have hsl : ((sub l i z).map (shift F)).length = z := by rw [List.length_map, sub_length hle]
  have htb : tbs (sub l i z) = (s.extract F T).data.toList := by
    have := tbs_part s z F m1 hm1 hlen (fun k hk => by
      have := hal.2 k hk
      unfold cdx at this ⊢
      rw [hgd]; exact this)
    rw [hE, ← hd] at this
    show tbs ((l.drop i).take z) = _
    rw [this]
    apply List.ext_getElem
    · simp only [List.length_map, List.length_range, Array.length_toList]; exact husz.symm
    · intro j h2 h3
      simp only [List.length_map, List.length_range] at h2
      simp only [List.getElem_map, List.getElem_range, Array.getElem_toList]
      have hj : j < (s.extract F T).size := by omega
      have := extract_bt s F T j hTs (by omega)
      rw [← this, bt_eq hj]
      exact UInt8.ofNat_toNat
  refine ⟨hFT, hTs, htb, ?_⟩
  rw [hcs, wtk_one _ z hsl h1 hal.1]
  have ht : tbs (sub ((sub l i z).map (shift F)) 0 z) = tbs (sub l i z) := by
    have : sub ((sub l i z).map (shift F)) 0 z = (sub l i z).map (shift F) := by
      unfold sub
      rw [List.drop_zero, List.take_of_length_le]
      rw [show (List.map (shift F) ((l.drop i).take z)).length = z from hsl]; exact Nat.le_refl _
    rw [this]
    unfold tbs
    rw [List.flatMap_map]
    rfl
  have hf0 : frx ((sub l i z).map (shift F)) 0 = 0 := by
    unfold frx sub
    rw [List.getElem?_map, List.getElem?_take, if_pos (by omega), List.getElem?_drop, Nat.add_zero, hx0]
    show (l[i]).2.1 - F = 0
    omega
  have ht0 : tox ((sub l i z).map (shift F)) (0 + z - 1) = T - F := by
    unfold tox sub
    rw [List.getElem?_map, List.getElem?_take, if_pos (by omega), List.getElem?_drop, show i + (0 + z - 1) = i + z - 1 by omega, hx1]
    show (l[i + z - 1]).2.2 - F = T - F
    omega
  unfold tok
  rw [ht, hf0, ht0]

end Pl
end Go.Proofs.YtcmgclckknpecaaGreatDoor
