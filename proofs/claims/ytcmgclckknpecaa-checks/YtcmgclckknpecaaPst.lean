import Derived.Test.YtcmgclckknpecaaPlp
import Derived.Test.YtcmgclckknpecaaPed
import Derived.Deep.RegionLaw
import Derived.BigRegion
namespace Go.Proofs.Ytcmgclckknpecaa
open Go.RowKit

theorem info85 : (Try.prog.info? 87).map (fun i => (i.zero, i.size, i.bytes)) = some (some (.agg #[.string ⟨#[]⟩, .slice none 0 0, .slice none 0 0, .int .i64 0, .int .i64 0]), 5, 80) := by kernel_rfl
theorem Pn.set3 {pb : Nat} {s : ByteArray} {a : Nat} {bad : Int} {l : Value} {w : World} (h : Pn pb s a bad l w) (b : Value) : Pn pb s a bad b (w.setCell ⟨pb, 3, none⟩ b) :=
  ⟨(World.cell?_setCell_other _ _ _ _ (by simp)).trans h.c0, (World.cell?_setCell_other _ _ _ _ (by simp)).trans h.c1, (World.cell?_setCell_other _ _ _ _ (by simp)).trans h.c2, World.cell?_setCell_same _ _ _ h.c3, fun o => (World.frozen?_setCell _ _ _ _).trans (h.fz o), by simpa using h.lt⟩
theorem own_ne {v : Value} {g n c H pb : Nat} (hat : v.ownBlock = some g ∨ g = H) (hv : v.ownBlock ≠ some pb) (hH : pb < H) : (Value.slice (some ⟨g, 0, none⟩) n c).ownBlock ≠ some pb := by
  simp only [Value.ownBlock, ne_eq, Option.some.injEq]
  rintro rfl
  rcases hat with h | h
  · exact hv h
  · omega
theorem below_of_grown {B : Nat} {A C : World} {pb : Nat} (h : A.grownBy C (some pb)) (hb : B ≤ pb) (hB : B ≤ A.heap.size) : Below B A C :=
  ⟨h.os, h.tape, h.output, h.size, fun k hk => h.block k (by omega) (by intro e; cases e; omega)⟩
theorem ownsRow_grown' {A B : World} {base : Nat} {e : TypeId} {size : Nat} {v : Value} {n : Nat} {xs : List Value} {rb : Nat} (h : A.ownsRow base e size v n xs) (hg : A.grownBy B (some rb)) (hb : v.ownBlock ≠ some rb) : B.ownsRow base e size v n xs := by
  refine ⟨h.1, ?_⟩
  rcases h.2 with h | ⟨g, cap, cur, rfl, hg2, hh, r⟩
  · exact .inl h
  · exact .inr ⟨g, cap, cur, rfl, hg2, (hg.block g (Array.getElem?_eq_some_iff.1 hh).1 (fun e => hb (by simp [Value.ownBlock, e]))).trans hh, r⟩

set_option maxRecDepth 100000 in
set_option maxHeartbeats 1000000 in
theorem stage_k0 (pb B0 : Nat) (s : ByteArray) (a : Nat) (y : ByteArray) (m : Nat) (hy : y.size = m + 1) (hm8 : m ≤ 8) (lv : Value) (n : Nat) (xs : List Value) (w : World) (hBp : B0 ≤ pb) (h : Pn pb s a (-1) lv w) (hL : w.ownsRow B0 87 5 lv n xs) (hLp : lv.ownBlock ≠ some pb) (hn : n ≤ 80) (hl : ((y[m].toNat : Int) == 40) = false) :
    Calls Try.prog 24 #[.pointer (some ⟨pb, 0, none⟩), .string y] w fun e w' => e = .returned (.tuple #[]) ∧ ∃ lv' xs', Pn pb s a (-1) lv' w' ∧ w'.ownsRow B0 87 5 lv' (n + 1) xs' ∧ lv'.ownBlock ≠ some pb ∧ Below B0 w w' := by
  obtain ⟨i0, hi, hz0, hz1, hz2⟩ := info_parts info85
  have hpl := h.lt
  go_enter Try.func24, Try.ntmps24
  go_wp2_with fail
  have hneS : lv.ownBlock ≠ some w.heap.size := fun e => by have := (ownBlock_lt hL e).1; omega
  have hgW : w.grownBy (w.alloc (.cells #[.string y, .slice none 0 0, .slice none 0 0, .int .i64 0, .int .i64 0] 87)) (some pb) := World.grownBy_alloc _ _ _
  have hpW : Pn pb s a (-1) lv (w.alloc (.cells #[.string y, .slice none 0 0, .slice none 0 0, .int .i64 0, .int .i64 0] 87)) := h.of_below ((Below.refl _ w).alloc (Nat.le_refl _) _)
  have hsW : Sb w.heap.size (.string y) (.slice none 0 0) (.slice none 0 0) (.int .i64 0) (.int .i64 0) (w.alloc (.cells #[.string y, .slice none 0 0, .slice none 0 0, .int .i64 0, .int .i64 0] 87)) := heap_alloc_new w _
  have hLW := hL.alloc (.cells #[.string y, .slice none 0 0, .slice none 0 0, .int .i64 0, .int .i64 0] 87)
  obtain ⟨W1, hW1⟩ : ∃ W1, w.alloc (.cells #[.string y, .slice none 0 0, .slice none 0 0, .int .i64 0, .int .i64 0] 87) = W1 := ⟨_, rfl⟩
  rw [hW1] at hgW hpW hsW hLW ⊢
  clear hW1
  have t3 := hpW.c3
  have tf := hpW.fz
  obtain ⟨k0, k1, k2, k3, k4, kf⟩ := hsW.cell
  have hlp := hpW.lt
  have hls := hsW.lt
  have hzw := hgW.size
  have HKS : Hid (∀ o, (W1).frozen? ⟨w.heap.size, o, none⟩ = false) := kf
  clear kf
  go_wp2_with fail
  go_region_law
    ((refine step_append_lies _ (by rfl) _ _ _ (by rfl) B0 87 i0 _ 5 80 Try.underlying52 hi hz0 hz1 hz2 rfl (by omega) lv n xs (by rfl) ((hLW.alloc _).drew) ⟨(W1).heap.size, 0, none⟩ 1 1 [.string y, .slice none 0 0, .slice none 0 0, .int .i64 0, .int .i64 0] (by rfl) (by rfl) (World.news_of_block (cs := #[.string y, .slice none 0 0, .slice none 0 0, .int .i64 0, .int .i64 0]) (t := 87) (fr := (0, 0)) (heap_alloc_new (W1) _)) (by simp [Value.oneCell']) (by omega) (by unfold maxLen; omega) (by omega) (by simp; omega) ((W1).heap.size + 1) (by simp) ?_; intro g cap w3 hown hgrow hat hlt3; have tf3 : w3.frozen? ⟨pb, 3, none⟩ = false := (hgrow.frozen_far ⟨pb, 3, none⟩ (by simp; omega) (Ne.symm hLp)).trans ((((Below.refl (W1).heap.size (W1)).alloc (Nat.le_refl _) _).drew.frozen (p := ⟨pb, 3, none⟩) hlp).trans (tf 3)); have tc3 : w3.cell? ⟨pb, 3, none⟩ = some lv := (hgrow.cell_far ⟨pb, 3, none⟩ (by simp; omega) (Ne.symm hLp)).trans ((((Below.refl (W1).heap.size (W1)).alloc (Nat.le_refl _) _).drew.cell (p := ⟨pb, 3, none⟩) hlp).trans t3)))
  all_goals
    go_wp2
    go_end0
    have hp3 := ((hpW.of_below (((Below.refl (W1).heap.size (W1)).alloc (Nat.le_refl _) _).drew)).grown hgrow hLp)
    refine ⟨rfl, _, _, hp3.set3 _, ownsRow_set_other hown (?_ : _ ≠ some pb) 3 _, ?_, ?_⟩
    · exact own_ne hat hLp (by omega)
    · exact own_ne hat hLp (by omega)
    · have hb1 : Below B0 w (W1) := below_of_grown hgW hBp (by omega)
      exact (Below.grown ((hb1.alloc (by omega) _).drew) hgrow (by simp; omega) (fun j ej => (ownBlock_lt hLW ej).2)).setCell (p := ⟨pb, 3, none⟩) hBp _


end Go.Proofs.Ytcmgclckknpecaa
