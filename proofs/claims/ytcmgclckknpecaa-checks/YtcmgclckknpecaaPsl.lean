import Derived.Test.YtcmgclckknpecaaPst
namespace Go.Proofs.Ytcmgclckknpecaa
open Go.RowKit

set_option maxRecDepth 100000 in
set_option maxHeartbeats 1000000 in
theorem stage_map (pb B0 : Nat) (s : ByteArray) (a : Nat) (y : ByteArray) (m : Nat) (hy : y.size = m + 1) (hm8 : m ≤ 8) (lv : Value) (n : Nat) (xs : List Value) (w : World) (hBp : B0 ≤ pb) (h : Pn pb s a (-1) lv w) (hL : w.ownsRow B0 87 5 lv n xs) (hLp : lv.ownBlock ≠ some pb) (hn : n ≤ 80) (hm : s.size ≤ 80) (ha : a ≤ s.size) (hl : ((y[m].toNat : Int) == 40) = true) (hmap : ((y.extract 0 m).toList == [109, 97, 112]) = true) (o : Bool) (b : Nat) (HR : Hid (Pl.lst s (Pl.pairP s) (s.size + 1) a = (o, b))) :
    Calls Try.prog 24 #[.pointer (some ⟨pb, 0, none⟩), .string y] w fun e w' => e = .returned (.tuple #[]) ∧ ∃ lv' xs', Pn pb s b (badOf o b) lv' w' ∧ w'.ownsRow B0 87 5 lv' (n + 1) xs' ∧ lv'.ownBlock ≠ some pb ∧ Below B0 w w' := by
  obtain ⟨i0, hi, hz0, hz1, hz2⟩ := info_parts info85
  have hpl := h.lt
  go_enter Try.func24, Try.ntmps24
  go_wp2_with fail
  have hneS : lv.ownBlock ≠ some w.heap.size := fun e => by have := (ownBlock_lt hL e).1; omega
  have hgA : w.grownBy (w.alloc (.cells #[.string (y.extract 0 m), .slice none 0 0, .slice none 0 0, .int .i64 0, .int .i64 0] 87)) (some pb) := World.grownBy_alloc _ _ _
  have hpA : Pn pb s a (-1) lv (w.alloc (.cells #[.string (y.extract 0 m), .slice none 0 0, .slice none 0 0, .int .i64 0, .int .i64 0] 87)) := h.of_below ((Below.refl _ w).alloc (Nat.le_refl _) _)
  have hsA : Sb w.heap.size (.string (y.extract 0 m)) (.slice none 0 0) (.slice none 0 0) (.int .i64 0) (.int .i64 0) (w.alloc (.cells #[.string (y.extract 0 m), .slice none 0 0, .slice none 0 0, .int .i64 0, .int .i64 0] 87)) := heap_alloc_new w _
  refine (plist_pairs pb w.heap.size s a lv (.string (y.extract 0 m)) w _ hm ha hgA hpl (Nat.le_refl _) hpA hsA o b HR).mono ?_
  rintro e W1 ⟨rfl, hpW, hgW, p', n', c', hsW⟩
  have hLW := ownsRow_grown' hL hgW hLp
  clear hgA hpA hsA
  have t3 := hpW.c3
  have tf := hpW.fz
  obtain ⟨k0, k1, k2, k3, k4, kf⟩ := hsW.cell
  have hlp := hpW.lt
  have hls := hsW.lt
  have hzw := hgW.size
  have HKS : Hid (∀ o, (W1).frozen? ⟨w.heap.size, o, none⟩ = false) := kf
  clear kf
  go_wp2_with fail
  go_region_law
    ((refine step_append_lies _ (by rfl) _ _ _ (by rfl) B0 87 i0 _ 5 80 Try.underlying52 hi hz0 hz1 hz2 rfl (by omega) lv n xs (by rfl) ((hLW.alloc _).drew) ⟨(W1).heap.size, 0, none⟩ 1 1 [.string (y.extract 0 m), .slice none 0 0, .slice p' n' c', .int .i64 0, .int .i64 0] (by rfl) (by rfl) (World.news_of_block (cs := #[.string (y.extract 0 m), .slice none 0 0, .slice p' n' c', .int .i64 0, .int .i64 0]) (t := 87) (fr := (0, 0)) (heap_alloc_new (W1) _)) (by simp [Value.oneCell']) (by omega) (by unfold maxLen; omega) (by omega) (by simp; omega) ((W1).heap.size + 1) (by simp) ?_; intro g cap w3 hown hgrow hat hlt3; have tf3 : w3.frozen? ⟨pb, 3, none⟩ = false := (hgrow.frozen_far ⟨pb, 3, none⟩ (by simp; omega) (Ne.symm hLp)).trans ((((Below.refl (W1).heap.size (W1)).alloc (Nat.le_refl _) _).drew.frozen (p := ⟨pb, 3, none⟩) hlp).trans (tf 3)); have tc3 : w3.cell? ⟨pb, 3, none⟩ = some lv := (hgrow.cell_far ⟨pb, 3, none⟩ (by simp; omega) (Ne.symm hLp)).trans ((((Below.refl (W1).heap.size (W1)).alloc (Nat.le_refl _) _).drew.cell (p := ⟨pb, 3, none⟩) hlp).trans t3)))
  all_goals
    go_wp2
    go_end0
    have hp3 := ((hpW.of_below (((Below.refl (W1).heap.size (W1)).alloc (Nat.le_refl _) _).drew)).grown hgrow hLp)
    refine ⟨rfl, _, _, hp3.set3 _, ownsRow_set_other hown (?_ : _ ≠ some pb) 3 _, ?_, ?_⟩
    · exact own_ne hat hLp (by omega)
    · exact own_ne hat hLp (by omega)
    · have hb1 : Below B0 w (W1) := below_of_grown hgW hBp (by omega)
      exact (Below.grown ((hb1.alloc (by omega) _).drew) hgrow (by simp; omega) (fun j ej => (ownBlock_lt hLW ej).2)).setCell (p := ⟨pb, 3, none⟩) hBp _


set_option maxRecDepth 100000 in
set_option maxHeartbeats 1000000 in
theorem stage_syn (pb B0 : Nat) (s : ByteArray) (a : Nat) (y : ByteArray) (m : Nat) (hy : y.size = m + 1) (hm8 : m ≤ 8) (lv : Value) (n : Nat) (xs : List Value) (w : World) (hBp : B0 ≤ pb) (h : Pn pb s a (-1) lv w) (hL : w.ownsRow B0 87 5 lv n xs) (hLp : lv.ownBlock ≠ some pb) (hn : n ≤ 80) (hm : s.size ≤ 80) (ha : a ≤ s.size) (hl : ((y[m].toNat : Int) == 40) = true) (hmap : ((y.extract 0 m).toList == [109, 97, 112]) = false) (hsyn : ((y.extract 0 m).toList == [115, 121, 110]) = true) (o : Bool) (b : Nat) (HR : Hid (Pl.lst s (Pl.pairP s) (s.size + 1) a = (o, b))) :
    Calls Try.prog 24 #[.pointer (some ⟨pb, 0, none⟩), .string y] w fun e w' => e = .returned (.tuple #[]) ∧ ∃ lv' xs', Pn pb s b (badOf o b) lv' w' ∧ w'.ownsRow B0 87 5 lv' (n + 1) xs' ∧ lv'.ownBlock ≠ some pb ∧ Below B0 w w' := by
  obtain ⟨i0, hi, hz0, hz1, hz2⟩ := info_parts info85
  have hpl := h.lt
  go_enter Try.func24, Try.ntmps24
  go_wp2_with fail
  have hneS : lv.ownBlock ≠ some w.heap.size := fun e => by have := (ownBlock_lt hL e).1; omega
  have hgA : w.grownBy (w.alloc (.cells #[.string (y.extract 0 m), .slice none 0 0, .slice none 0 0, .int .i64 0, .int .i64 0] 87)) (some pb) := World.grownBy_alloc _ _ _
  have hpA : Pn pb s a (-1) lv (w.alloc (.cells #[.string (y.extract 0 m), .slice none 0 0, .slice none 0 0, .int .i64 0, .int .i64 0] 87)) := h.of_below ((Below.refl _ w).alloc (Nat.le_refl _) _)
  have hsA : Sb w.heap.size (.string (y.extract 0 m)) (.slice none 0 0) (.slice none 0 0) (.int .i64 0) (.int .i64 0) (w.alloc (.cells #[.string (y.extract 0 m), .slice none 0 0, .slice none 0 0, .int .i64 0, .int .i64 0] 87)) := heap_alloc_new w _
  refine (plist_pairs pb w.heap.size s a lv (.string (y.extract 0 m)) w _ hm ha hgA hpl (Nat.le_refl _) hpA hsA o b HR).mono ?_
  rintro e W1 ⟨rfl, hpW, hgW, p', n', c', hsW⟩
  have hLW := ownsRow_grown' hL hgW hLp
  clear hgA hpA hsA
  have t3 := hpW.c3
  have tf := hpW.fz
  obtain ⟨k0, k1, k2, k3, k4, kf⟩ := hsW.cell
  have hlp := hpW.lt
  have hls := hsW.lt
  have hzw := hgW.size
  have HKS : Hid (∀ o, (W1).frozen? ⟨w.heap.size, o, none⟩ = false) := kf
  clear kf
  go_wp2_with fail
  go_region_law
    ((refine step_append_lies _ (by rfl) _ _ _ (by rfl) B0 87 i0 _ 5 80 Try.underlying52 hi hz0 hz1 hz2 rfl (by omega) lv n xs (by rfl) ((hLW.alloc _).drew) ⟨(W1).heap.size, 0, none⟩ 1 1 [.string (y.extract 0 m), .slice none 0 0, .slice p' n' c', .int .i64 0, .int .i64 0] (by rfl) (by rfl) (World.news_of_block (cs := #[.string (y.extract 0 m), .slice none 0 0, .slice p' n' c', .int .i64 0, .int .i64 0]) (t := 87) (fr := (0, 0)) (heap_alloc_new (W1) _)) (by simp [Value.oneCell']) (by omega) (by unfold maxLen; omega) (by omega) (by simp; omega) ((W1).heap.size + 1) (by simp) ?_; intro g cap w3 hown hgrow hat hlt3; have tf3 : w3.frozen? ⟨pb, 3, none⟩ = false := (hgrow.frozen_far ⟨pb, 3, none⟩ (by simp; omega) (Ne.symm hLp)).trans ((((Below.refl (W1).heap.size (W1)).alloc (Nat.le_refl _) _).drew.frozen (p := ⟨pb, 3, none⟩) hlp).trans (tf 3)); have tc3 : w3.cell? ⟨pb, 3, none⟩ = some lv := (hgrow.cell_far ⟨pb, 3, none⟩ (by simp; omega) (Ne.symm hLp)).trans ((((Below.refl (W1).heap.size (W1)).alloc (Nat.le_refl _) _).drew.cell (p := ⟨pb, 3, none⟩) hlp).trans t3)))
  all_goals
    go_wp2
    go_end0
    have hp3 := ((hpW.of_below (((Below.refl (W1).heap.size (W1)).alloc (Nat.le_refl _) _).drew)).grown hgrow hLp)
    refine ⟨rfl, _, _, hp3.set3 _, ownsRow_set_other hown (?_ : _ ≠ some pb) 3 _, ?_, ?_⟩
    · exact own_ne hat hLp (by omega)
    · exact own_ne hat hLp (by omega)
    · have hb1 : Below B0 w (W1) := below_of_grown hgW hBp (by omega)
      exact (Below.grown ((hb1.alloc (by omega) _).drew) hgrow (by simp; omega) (fun j ej => (ownBlock_lt hLW ej).2)).setCell (p := ⟨pb, 3, none⟩) hBp _


set_option maxRecDepth 100000 in
set_option maxHeartbeats 1000000 in
theorem stage_stop (pb B0 : Nat) (s : ByteArray) (a : Nat) (y : ByteArray) (m : Nat) (hy : y.size = m + 1) (hm8 : m ≤ 8) (lv : Value) (n : Nat) (xs : List Value) (w : World) (hBp : B0 ≤ pb) (h : Pn pb s a (-1) lv w) (hL : w.ownsRow B0 87 5 lv n xs) (hLp : lv.ownBlock ≠ some pb) (hn : n ≤ 80) (hm : s.size ≤ 80) (ha : a ≤ s.size) (hl : ((y[m].toNat : Int) == 40) = true) (hmap : ((y.extract 0 m).toList == [109, 97, 112]) = false) (hsyn : ((y.extract 0 m).toList == [115, 121, 110]) = false) (hst : ((y.extract 0 m).toList == [115, 116, 111, 112]) = true) (o : Bool) (b : Nat) (HR : Hid (Pl.lst s (Pl.word s) (s.size + 1) a = (o, b))) :
    Calls Try.prog 24 #[.pointer (some ⟨pb, 0, none⟩), .string y] w fun e w' => e = .returned (.tuple #[]) ∧ ∃ lv' xs', Pn pb s b (badOf o b) lv' w' ∧ w'.ownsRow B0 87 5 lv' (n + 1) xs' ∧ lv'.ownBlock ≠ some pb ∧ Below B0 w w' := by
  obtain ⟨i0, hi, hz0, hz1, hz2⟩ := info_parts info85
  have hpl := h.lt
  go_enter Try.func24, Try.ntmps24
  go_wp2_with fail
  have hneS : lv.ownBlock ≠ some w.heap.size := fun e => by have := (ownBlock_lt hL e).1; omega
  have hgA : w.grownBy (w.alloc (.cells #[.string (y.extract 0 m), .slice none 0 0, .slice none 0 0, .int .i64 0, .int .i64 0] 87)) (some pb) := World.grownBy_alloc _ _ _
  have hpA : Pn pb s a (-1) lv (w.alloc (.cells #[.string (y.extract 0 m), .slice none 0 0, .slice none 0 0, .int .i64 0, .int .i64 0] 87)) := h.of_below ((Below.refl _ w).alloc (Nat.le_refl _) _)
  have hsA : Sb w.heap.size (.string (y.extract 0 m)) (.slice none 0 0) (.slice none 0 0) (.int .i64 0) (.int .i64 0) (w.alloc (.cells #[.string (y.extract 0 m), .slice none 0 0, .slice none 0 0, .int .i64 0, .int .i64 0] 87)) := heap_alloc_new w _
  refine (plist_words pb w.heap.size s a lv (.string (y.extract 0 m)) w _ hm ha hgA hpl (Nat.le_refl _) hpA hsA o b HR).mono ?_
  rintro e W1 ⟨rfl, hpW, hgW, p', n', c', hsW⟩
  have hLW := ownsRow_grown' hL hgW hLp
  clear hgA hpA hsA
  have t3 := hpW.c3
  have tf := hpW.fz
  obtain ⟨k0, k1, k2, k3, k4, kf⟩ := hsW.cell
  have hlp := hpW.lt
  have hls := hsW.lt
  have hzw := hgW.size
  have HKS : Hid (∀ o, (W1).frozen? ⟨w.heap.size, o, none⟩ = false) := kf
  clear kf
  go_wp2_with fail
  go_region_law
    ((refine step_append_lies _ (by rfl) _ _ _ (by rfl) B0 87 i0 _ 5 80 Try.underlying52 hi hz0 hz1 hz2 rfl (by omega) lv n xs (by rfl) ((hLW.alloc _).drew) ⟨(W1).heap.size, 0, none⟩ 1 1 [.string (y.extract 0 m), .slice p' n' c', .slice none 0 0, .int .i64 0, .int .i64 0] (by rfl) (by rfl) (World.news_of_block (cs := #[.string (y.extract 0 m), .slice p' n' c', .slice none 0 0, .int .i64 0, .int .i64 0]) (t := 87) (fr := (0, 0)) (heap_alloc_new (W1) _)) (by simp [Value.oneCell']) (by omega) (by unfold maxLen; omega) (by omega) (by simp; omega) ((W1).heap.size + 1) (by simp) ?_; intro g cap w3 hown hgrow hat hlt3; have tf3 : w3.frozen? ⟨pb, 3, none⟩ = false := (hgrow.frozen_far ⟨pb, 3, none⟩ (by simp; omega) (Ne.symm hLp)).trans ((((Below.refl (W1).heap.size (W1)).alloc (Nat.le_refl _) _).drew.frozen (p := ⟨pb, 3, none⟩) hlp).trans (tf 3)); have tc3 : w3.cell? ⟨pb, 3, none⟩ = some lv := (hgrow.cell_far ⟨pb, 3, none⟩ (by simp; omega) (Ne.symm hLp)).trans ((((Below.refl (W1).heap.size (W1)).alloc (Nat.le_refl _) _).drew.cell (p := ⟨pb, 3, none⟩) hlp).trans t3)))
  all_goals
    go_wp2
    go_end0
    have hp3 := ((hpW.of_below (((Below.refl (W1).heap.size (W1)).alloc (Nat.le_refl _) _).drew)).grown hgrow hLp)
    refine ⟨rfl, _, _, hp3.set3 _, ownsRow_set_other hown (?_ : _ ≠ some pb) 3 _, ?_, ?_⟩
    · exact own_ne hat hLp (by omega)
    · exact own_ne hat hLp (by omega)
    · have hb1 : Below B0 w (W1) := below_of_grown hgW hBp (by omega)
      exact (Below.grown ((hb1.alloc (by omega) _).drew) hgrow (by simp; omega) (fun j ej => (ownBlock_lt hLW ej).2)).setCell (p := ⟨pb, 3, none⟩) hBp _


end Go.Proofs.Ytcmgclckknpecaa
