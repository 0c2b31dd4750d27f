import Derived.Test.YtcmgclckknpecaaPst
namespace Go.Proofs.Ytcmgclckknpecaa
open Go.RowKit

theorem bnds_eq (s : ByteArray) (a v1 : Nat) (o1 : Bool) (c1 : Nat) (h1 : Pl.thenP (true, a) (dig s 1) = (o1, c1)) (hv : o1 = true → 48 + v1 = Pl.bt s a) :
    Pl.thenP (Pl.thenP (Pl.thenP (o1, c1) (Pl.sign s 44)) (dig s v1)) (Pl.sign s 41) = Pl.bnds s a := by
  have h1' : dig s 1 a = (o1, c1) := h1
  unfold dig at h1'
  unfold Pl.bnds
  by_cases hb : Pl.byteIn s (48 + 1) 57 a = true
  · rw [if_pos hb] at h1'
    simp only [Prod.mk.injEq] at h1'
    obtain ⟨rfl, rfl⟩ := h1'
    rw [if_pos (show Pl.byteIn s 49 57 a = true from hb)]
    have hv1 := hv rfl
    unfold dig
    rw [hv1]
    simp only [Pl.thenP, if_true]
    by_cases h2 : (Pl.sign s 44 (a + 1)).1 = true
    · simp only [h2, if_true]
      by_cases h3 : Pl.byteIn s (Pl.bt s a) 57 (Pl.sign s 44 (a + 1)).2 = true
      · simp [h3]
      · simp [h3]
    · simp [h2]
  · rw [if_neg hb] at h1'
    simp only [Prod.mk.injEq] at h1'
    obtain ⟨rfl, rfl⟩ := h1'
    rw [if_neg (show ¬ Pl.byteIn s 49 57 a = true from hb)]
    simp [Pl.thenP]

set_option maxRecDepth 100000 in
set_option maxHeartbeats 1000000 in
theorem stage_num (pb B0 : Nat) (s : ByteArray) (a : Nat) (y : ByteArray) (m : Nat) (hy : y.size = m + 1) (hm8 : m ≤ 8) (lv : Value) (n : Nat) (xs : List Value) (w : World) (hBp : B0 ≤ pb) (h : Pn pb s a (-1) lv w) (hL : w.ownsRow B0 87 5 lv n xs) (hLp : lv.ownBlock ≠ some pb) (hn : n ≤ 80) (hm : s.size ≤ 80) (ha : a ≤ s.size) (hl : ((y[m].toNat : Int) == 40) = true) (hmap : ((y.extract 0 m).toList == [109, 97, 112]) = false) (hsyn : ((y.extract 0 m).toList == [115, 121, 110]) = false) (hst : ((y.extract 0 m).toList == [115, 116, 111, 112]) = false) (o : Bool) (b : Nat) (HR : Hid (Pl.bnds s a = (o, b))) :
    Calls Try.prog 24 #[.pointer (some ⟨pb, 0, none⟩), .string y] w fun e w' => e = .returned (.tuple #[]) ∧ ∃ lv' xs', Pn pb s b (badOf o b) lv' w' ∧ w'.ownsRow B0 87 5 lv' (n + 1) xs' ∧ lv'.ownBlock ≠ some pb ∧ Below B0 w w' := by
  obtain ⟨i0, hi, hz0, hz1, hz2⟩ := info_parts info85
  have hpl := h.lt
  go_enter Try.func24, Try.ntmps24
  go_wp2_with fail
  have hneS : lv.ownBlock ≠ some w.heap.size := fun e => by have := (ownBlock_lt hL e).1; omega
  have hgA : w.grownBy (w.alloc (.cells #[.string (y.extract 0 m), .slice none 0 0, .slice none 0 0, .int .i64 0, .int .i64 0] 87)) (some pb) := World.grownBy_alloc _ _ _
  have hpA : Pn pb s a (-1) lv (w.alloc (.cells #[.string (y.extract 0 m), .slice none 0 0, .slice none 0 0, .int .i64 0, .int .i64 0] 87)) := h.of_below ((Below.refl _ w).alloc (Nat.le_refl _) _)
  have hsA : Sb w.heap.size (.string (y.extract 0 m)) (.slice none 0 0) (.slice none 0 0) (.int .i64 0) (.int .i64 0) (w.alloc (.cells #[.string (y.extract 0 m), .slice none 0 0, .slice none 0 0, .int .i64 0, .int .i64 0] 87)) := heap_alloc_new w _
  obtain ⟨⟨o1, c1⟩, h1⟩ : ∃ r, Pl.thenP (true, a) (dig s 1) = r := ⟨_, rfl⟩
  have hf1 := Pl.thenP_fits (r := (true, a)) ⟨Nat.le_refl _, ha⟩ (dig_fits s 1)
  rw [h1] at hf1
  refine (digit_st pb s true a 1 1 rfl lv _ (by omega) ha hm hpA o1 c1 h1).mono ?_
  rintro e wA ⟨v1, rfl, hv1, hv9, hpB, hgB⟩
  have hsB := hsA.keep hgB (by simp; omega)
  obtain ⟨a0, a1, a2, a3, a4, af⟩ := hsB.cell
  obtain ⟨⟨o2, c2⟩, h2⟩ : ∃ r, Pl.thenP (o1, c1) (Pl.sign s 44) = r := ⟨_, rfl⟩
  have hf2 := Pl.thenP_fits (r := (o1, c1)) hf1 (Pl.sign_fits s 44)
  rw [h2] at hf2
  obtain ⟨⟨o3, c3⟩, h3⟩ : ∃ r, Pl.thenP (o2, c2) (dig s v1) = r := ⟨_, rfl⟩
  have hf3 := Pl.thenP_fits (r := (o2, c2)) hf2 (dig_fits s v1)
  rw [h3] at hf3
  have h4 : Pl.thenP (o3, c3) (Pl.sign s 41) = (o, b) := by rw [← h3, ← h2, bnds_eq s a v1 o1 c1 h1 hv1]; exact HR.out
  have H2 : Hid (Pl.thenP (o1, c1) (Pl.sign s 44) = (o2, c2)) := h2
  have H3 : Hid (Pl.thenP (o2, c2) (dig s v1) = (o3, c3)) := h3
  have H4 : Hid (Pl.thenP (o3, c3) (Pl.sign s 41) = (o, b)) := h4
  have hgAB := grown_trans hgA hgB
  clear h1 h2 h3 h4 hv1 hpA hsA hgA hgB
  go_wp2_with fail
  refine (take_st pb s o1 c1 44 44 rfl lv _ hm hf1.2 (hpB.other (by omega) 3 (.int .i64 (v1 : Int))) o2 c2 H2.out).mono ?_
  rintro e wB ⟨rfl, hpC, hgC⟩
  have hsC := (hsB.set3 (.int .i64 (v1 : Int))).keep hgC (by simp; omega)
  have hgD : w.grownBy wB (some pb) := grown_trans (grown_set_new hgAB (Nat.le_refl _) 3 (.int .i64 (v1 : Int))) hgC
  clear hsB hpB hgC hgAB a0 a1 a2 a3 a4 af
  obtain ⟨a0, a1, a2, a3, a4, af⟩ := hsC.cell
  go_wp2_with fail
  refine (digit_st pb s o2 c2 v1 _ rfl lv _ hv9 hf2.2 hm hpC o3 c3 H3.out).mono ?_
  rintro e wC ⟨v2, rfl, _, _, hpE, hgE⟩
  have hsE := hsC.keep hgE (by simp; omega)
  clear hsC hpC a0 a1 a2 a3 a4 af
  obtain ⟨a0, a1, a2, a3, a4, af⟩ := hsE.cell
  go_wp2_with fail
  refine (take_st pb s o3 c3 41 41 rfl lv _ hm hf3.2 (hpE.other (by omega) 4 (.int .i64 (v2 : Int))) o b H4.out).mono ?_
  rintro e W1 ⟨rfl, hpW, hgF⟩
  have hsW := (hsE.set4 (.int .i64 (v2 : Int))).keep hgF (by simp; omega)
  have hgW : w.grownBy W1 (some pb) := grown_trans (grown_set_new (grown_trans hgD hgE) (Nat.le_refl _) 4 (.int .i64 (v2 : Int))) hgF
  clear hsE hpE hgE hgF hgD a0 a1 a2 a3 a4 af
  have hLW := ownsRow_grown' hL hgW hLp
  have t3 := hpW.c3
  have tf := hpW.fz
  obtain ⟨k0, k1, k2, k3, k4, kf⟩ := hsW.cell
  have hlp := hpW.lt
  have hls := hsW.lt
  have hzw := hgW.size
  have HKS : Hid (∀ o, (W1).frozen? ⟨w.heap.size, o, none⟩ = false) := kf
  clear kf
  go_wp2_with fail
  go_region_law
    ((refine step_append_lies _ (by rfl) _ _ _ (by rfl) B0 87 i0 _ 5 80 Try.underlying52 hi hz0 hz1 hz2 rfl (by omega) lv n xs (by rfl) ((hLW.alloc _).drew) ⟨(W1).heap.size, 0, none⟩ 1 1 [.string (y.extract 0 m), .slice none 0 0, .slice none 0 0, .int .i64 (v1 : Int), .int .i64 (v2 : Int)] (by rfl) (by rfl) (World.news_of_block (cs := #[.string (y.extract 0 m), .slice none 0 0, .slice none 0 0, .int .i64 (v1 : Int), .int .i64 (v2 : Int)]) (t := 87) (fr := (0, 0)) (heap_alloc_new (W1) _)) (by simp [Value.oneCell']) (by omega) (by unfold maxLen; omega) (by omega) (by simp; omega) ((W1).heap.size + 1) (by simp) ?_; intro g cap w3 hown hgrow hat hlt3; have tf3 : w3.frozen? ⟨pb, 3, none⟩ = false := (hgrow.frozen_far ⟨pb, 3, none⟩ (by simp; omega) (Ne.symm hLp)).trans ((((Below.refl (W1).heap.size (W1)).alloc (Nat.le_refl _) _).drew.frozen (p := ⟨pb, 3, none⟩) hlp).trans (tf 3)); have tc3 : w3.cell? ⟨pb, 3, none⟩ = some lv := (hgrow.cell_far ⟨pb, 3, none⟩ (by simp; omega) (Ne.symm hLp)).trans ((((Below.refl (W1).heap.size (W1)).alloc (Nat.le_refl _) _).drew.cell (p := ⟨pb, 3, none⟩) hlp).trans t3)))
  all_goals
    go_wp2
    go_end0
    have hp3 := ((hpW.of_below (((Below.refl (W1).heap.size (W1)).alloc (Nat.le_refl _) _).drew)).grown hgrow hLp)
    refine ⟨rfl, _, _, hp3.set3 _, ownsRow_set_other hown (?_ : _ ≠ some pb) 3 _, ?_, ?_⟩
    · exact own_ne hat hLp (by omega)
    · exact own_ne hat hLp (by omega)
    · have hb1 : Below B0 w (W1) := below_of_grown hgW hBp (by omega)
      exact (Below.grown ((hb1.alloc (by omega) _).drew) hgrow (by simp; omega) (fun j ej => (ownBlock_lt hLW ej).2)).setCell (p := ⟨pb, 3, none⟩) hBp _


end Go.Proofs.Ytcmgclckknpecaa
