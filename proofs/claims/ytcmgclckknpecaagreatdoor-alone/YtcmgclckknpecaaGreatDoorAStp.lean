import Derived.Test.YtcmgclckknpecaaGreatDoorAOne
import Derived.Test.YtcmgclckknpecaaGreatDoorARdm
import Derived.Test.YtcmgclckknpecaaGreatDoorARdb
import Derived.Test.YtcmgclckknpecaaGreatDoorAGra
namespace Go.Proofs.YtcmgclckknpecaaGreatDoor
open Go.RowKit

/-- A block known whole. -/
def Blk (b : Nat) (t : TypeId) (cs : Array Value) (W : World) : Prop := W.heap[b]? = some (.cells cs t (0, 0))
theorem Blk.lt {b : Nat} {t : TypeId} {cs : Array Value} {W : World} (h : Blk b t cs W) : b < W.heap.size := (Array.getElem?_eq_some_iff.1 h).1
theorem Blk.keep {b : Nat} {t : TypeId} {cs : Array Value} {W W' : World} {row : Option Nat} (h : Blk b t cs W) (hg : W.grownBy W' row) (hne : row ≠ some b) : Blk b t cs W' := (hg.block b h.lt (Ne.symm hne)).trans h
theorem Blk.set {b : Nat} {t : TypeId} {cs : Array Value} {W : World} (h : Blk b t cs W) (o : Nat) (v : Value) : Blk b t (cs.setIfInBounds o v) (W.setCell ⟨b, o, none⟩ v) := heap_set W b o v cs t h
theorem Blk.five {b : Nat} {t : TypeId} {v0 v1 v2 v3 v4 : Value} {W : World} (h : Blk b t #[v0, v1, v2, v3, v4] W) : W.cell? ⟨b, 0, none⟩ = some v0 ∧ W.cell? ⟨b, 1, none⟩ = some v1 ∧ W.cell? ⟨b, 2, none⟩ = some v2 ∧ W.cell? ⟨b, 3, none⟩ = some v3 ∧ W.cell? ⟨b, 4, none⟩ = some v4 ∧ (∀ o, W.frozen? ⟨b, o, none⟩ = false) := by
  unfold Blk at h
  simp [World.cell?, World.frozen?, h]
theorem five_cells {X : World} {b : Nat} (v0 v1 v2 v3 v4 : Value) {u0 u1 u2 u3 u4 : Value} (x0 : X.cell? ⟨b, 0, none⟩ = some u0) (x1 : X.cell? ⟨b, 1, none⟩ = some u1) (x2 : X.cell? ⟨b, 2, none⟩ = some u2) (x3 : X.cell? ⟨b, 3, none⟩ = some u3) (x4 : X.cell? ⟨b, 4, none⟩ = some u4) (W : World)
    (hW : W = ((((X.setCell ⟨b, 0, none⟩ v0).setCell ⟨b, 1, none⟩ v1).setCell ⟨b, 2, none⟩ v2).setCell ⟨b, 3, none⟩ v3).setCell ⟨b, 4, none⟩ v4) :
    W.cell? ⟨b, 0, none⟩ = some v0 ∧ W.cell? ⟨b, 1, none⟩ = some v1 ∧ W.cell? ⟨b, 2, none⟩ = some v2 ∧ W.cell? ⟨b, 3, none⟩ = some v3 ∧ W.cell? ⟨b, 4, none⟩ = some v4 := by
  subst hW
  refine ⟨?_, ?_, ?_, ?_, ?_⟩
  · exact ((World.cell?_setCell_other _ _ _ _ (by simp)).trans ((World.cell?_setCell_other _ _ _ _ (by simp)).trans ((World.cell?_setCell_other _ _ _ _ (by simp)).trans ((World.cell?_setCell_other _ _ _ _ (by simp)).trans (World.cell?_setCell_same _ _ _ x0)))))
  · exact ((World.cell?_setCell_other _ _ _ _ (by simp)).trans ((World.cell?_setCell_other _ _ _ _ (by simp)).trans ((World.cell?_setCell_other _ _ _ _ (by simp)).trans (World.cell?_setCell_same _ _ _ ((World.cell?_setCell_other _ _ _ _ (by simp)).trans x1)))))
  · exact ((World.cell?_setCell_other _ _ _ _ (by simp)).trans ((World.cell?_setCell_other _ _ _ _ (by simp)).trans (World.cell?_setCell_same _ _ _ ((World.cell?_setCell_other _ _ _ _ (by simp)).trans ((World.cell?_setCell_other _ _ _ _ (by simp)).trans x2)))))
  · exact ((World.cell?_setCell_other _ _ _ _ (by simp)).trans (World.cell?_setCell_same _ _ _ ((World.cell?_setCell_other _ _ _ _ (by simp)).trans ((World.cell?_setCell_other _ _ _ _ (by simp)).trans ((World.cell?_setCell_other _ _ _ _ (by simp)).trans x3)))))
  · exact (World.cell?_setCell_same _ _ _ ((World.cell?_setCell_other _ _ _ _ (by simp)).trans ((World.cell?_setCell_other _ _ _ _ (by simp)).trans ((World.cell?_setCell_other _ _ _ _ (by simp)).trans ((World.cell?_setCell_other _ _ _ _ (by simp)).trans x4)))))
theorem res31 {tmps : Array Value} {w : World} {b : Nat} {v0 v1 v2 v3 v4 k : Value} (hp : tmps[4]? = some (.pointer (some ⟨b, 0, none⟩))) (h5 : tmps[5]? = some k)
    (h : w.cell? ⟨b, 0, none⟩ = some v0 ∧ w.cell? ⟨b, 1, none⟩ = some v1 ∧ w.cell? ⟨b, 2, none⟩ = some v2 ∧ w.cell? ⟨b, 3, none⟩ = some v3 ∧ w.cell? ⟨b, 4, none⟩ = some v4) :
    (results Tryz.f123 tmps).run Tryz.prog w = .ok (.tuple #[.agg #[v0, v1, v2, v3, v4], k]) w := by
  obtain ⟨c0, c1, c2, c3, c4⟩ := h
  simp [results, Tryz.results123, go_sem, hp, h5, c0, c1, c2, c3, c4]
theorem cells_alloc {X : World} {b : Nat} {v0 v1 v2 v3 v4 : Value} (hb : b < X.heap.size) (O : Obj) (h : X.cell? ⟨b, 0, none⟩ = some v0 ∧ X.cell? ⟨b, 1, none⟩ = some v1 ∧ X.cell? ⟨b, 2, none⟩ = some v2 ∧ X.cell? ⟨b, 3, none⟩ = some v3 ∧ X.cell? ⟨b, 4, none⟩ = some v4) :
    (X.alloc O).cell? ⟨b, 0, none⟩ = some v0 ∧ (X.alloc O).cell? ⟨b, 1, none⟩ = some v1 ∧ (X.alloc O).cell? ⟨b, 2, none⟩ = some v2 ∧ (X.alloc O).cell? ⟨b, 3, none⟩ = some v3 ∧ (X.alloc O).cell? ⟨b, 4, none⟩ = some v4 := by
  have k : ∀ o, (X.alloc O).cell? ⟨b, o, none⟩ = X.cell? ⟨b, o, none⟩ := fun o => ((Below.refl X.heap.size X).alloc (Nat.le_refl _) O).cell (p := ⟨b, o, none⟩) hb
  rw [k, k, k, k, k]; exact h
theorem Rd.five {rb : Nat} {s : ByteArray} {a : Nat} {w : World} (h : Rd rb s a w) {b : Nat} (hne : b ≠ rb) (v0 v1 v2 v3 v4 : Value) : Rd rb s a (((((w.setCell ⟨b, 0, none⟩ v0).setCell ⟨b, 1, none⟩ v1).setCell ⟨b, 2, none⟩ v2).setCell ⟨b, 3, none⟩ v3).setCell ⟨b, 4, none⟩ v4) :=
  ((((h.other hne 0 v0).other hne 1 v1).other hne 2 v2).other hne 3 v3).other hne 4 v4
theorem grown_five {A B : World} {row : Option Nat} (h : A.grownBy B row) {b : Nat} (hb : A.heap.size ≤ b) (v0 v1 v2 v3 v4 : Value) : A.grownBy (((((B.setCell ⟨b, 0, none⟩ v0).setCell ⟨b, 1, none⟩ v1).setCell ⟨b, 2, none⟩ v2).setCell ⟨b, 3, none⟩ v3).setCell ⟨b, 4, none⟩ v4) row :=
  grown_set_new (grown_set_new (grown_set_new (grown_set_new (grown_set_new h hb 0 v0) hb 1 v1) hb 2 v2) hb 3 v3) hb 4 v4

set_option maxRecDepth 100000 in
set_option maxHeartbeats 1000000 in
theorem step_k0 (rb g : Nat) (s : ByteArray) (a : Nat) (names : List ByteArray) (w : World) (hm : s.size ≤ 80) (ha : a ≤ s.size) (h : Rd rb s a w) (hN : Nms g names w) (hsz : ∀ i (hi : i < names.length), (names[i]).size ≤ 8) (hlen : names.length ≤ 8) (res : Option Nat) (b : Nat) (HR : Hid (Pl.nm s a names 0 0 = (res, b))) (_hb : b ≤ s.size) (y : ByteArray) (ok1 : Bool) (hy : (∃ i, ∃ hi : i < names.length, res = some i ∧ y = names[i] ∧ ok1 = true) ∨ (res = none ∧ y = ⟨#[]⟩ ∧ ok1 = false)) (q1 : (y.toList == [109, 97, 112, 40]) = false) (q2 : (y.toList == [115, 121, 110, 40]) = false) (q3 : (y.toList == [115, 116, 111, 112, 40]) = false) (q4 : (y.toList == [108, 101, 110, 40]) = false) (q5 : (y.toList == [103, 114, 97, 109, 40]) = false) (q6 : (y.toList == [101, 100, 103, 101, 40]) = false) :
    Calls Tryz.prog 123 #[.pointer (some ⟨rb, 0, none⟩), .slice (some ⟨g, 0, none⟩) names.length names.length] w fun e w' => ∃ p1 n1 d1 p2 n2 d2, ∃ x z : Int, e = .returned (.tuple #[.agg #[.string y, .slice p1 n1 d1, .slice p2 n2 d2, .int .i64 x, .int .i64 z], .bool ok1]) ∧ Rd rb s b w' ∧ w.grownBy w' (some rb) := by
  have hrb := h.lt
  have HONE : Hid (∀ W, Rd rb s a W → Nms g names W → Calls Tryz.prog 184 #[.pointer (some ⟨rb, 0, none⟩), .slice (some ⟨g, 0, none⟩) names.length names.length] W fun e w' => e = .returned (.tuple #[.string y, .bool ok1]) ∧ Rd rb s b w' ∧ W.grownBy w' (some rb)) := fun W hW hNW =>
    (oneOf_any rb g s a names W hm ha hW hNW hsz hlen res b HR).mono fun e w' ⟨he, hr, hg⟩ => ⟨by
      rcases hy with ⟨i, hi, h1, h2, h3⟩ | ⟨h1, h2, h3⟩
      · rcases he with ⟨j, hj, h4, h5⟩ | ⟨h4, _⟩
        · obtain rfl : i = j := by rw [h1] at h4; simpa using h4
          rw [h5, h2, h3]
        · rw [h1] at h4; cases h4
      · rcases he with ⟨j, hj, h4, h5⟩ | ⟨_, h5⟩
        · rw [h1] at h4; cases h4
        · rw [h5, h2, h3], hr, hg⟩
  have hA1 : Rd rb s a (w.alloc (.cells #[.string ⟨#[]⟩, .slice none 0 0, .slice none 0 0, .int .i64 0, .int .i64 0] 96)) := h.of_below ((Below.refl _ w).alloc (Nat.le_refl _) _)
  have hA2 : Nms g names (w.alloc (.cells #[.string ⟨#[]⟩, .slice none 0 0, .slice none 0 0, .int .i64 0, .int .i64 0] 96)) := hN.of_below ((Below.refl _ w).alloc (Nat.le_refl _) _)
  have bA : Blk w.heap.size 96 #[.string ⟨#[]⟩, .slice none 0 0, .slice none 0 0, .int .i64 0, .int .i64 0] (w.alloc (.cells #[.string ⟨#[]⟩, .slice none 0 0, .slice none 0 0, .int .i64 0, .int .i64 0] 96)) := heap_alloc_new w _
  clear hy hN
  go_enter Tryz.func123, Tryz.ntmps123
  go_wp2_with fail
  refine (HONE.out _ hA1 hA2).mono ?_
  rintro e w1 ⟨rfl, hr1, hg1⟩
  have hz1 := hg1.size
  simp only [World.size_alloc] at hz1
  have hzz : w.heap.size < w1.heap.size := by omega
  have b1 := bA.keep hg1 (by simp; omega)
  have g1 : w.grownBy w1 (some rb) := grown_trans (World.grownBy_alloc _ _ _) hg1
  have hr2 : Rd rb s b (w1.alloc (.cells #[.string y, .slice none 0 0, .slice none 0 0, .int .i64 0, .int .i64 0] 96)) := hr1.of_below ((Below.refl _ w1).alloc (Nat.le_refl _) _)
  have b2 : Blk w.heap.size 96 #[.string ⟨#[]⟩, .slice none 0 0, .slice none 0 0, .int .i64 0, .int .i64 0] (w1.alloc (.cells #[.string y, .slice none 0 0, .slice none 0 0, .int .i64 0, .int .i64 0] 96)) := b1.keep (World.grownBy_alloc w1 _ none) (by simp)
  have l2 : Blk w1.heap.size 96 #[.string y, .slice none 0 0, .slice none 0 0, .int .i64 0, .int .i64 0] (w1.alloc (.cells #[.string y, .slice none 0 0, .slice none 0 0, .int .i64 0, .int .i64 0] 96)) := heap_alloc_new w1 _
  have g2 : w.grownBy (w1.alloc (.cells #[.string y, .slice none 0 0, .slice none 0 0, .int .i64 0, .int .i64 0] 96)) (some rb) := grown_alloc g1 _
  obtain ⟨r0, r1, r2, r3, r4, rf⟩ := b1.five
  clear hA1 hA2 bA HONE
  go_wp2
  have hc5 := five_cells (.string y) (.slice none 0 0) (.slice none 0 0) (.int .i64 0) (.int .i64 0) r0 r1 r2 r3 r4 _ rfl
  refine bodyPost_ret (res31 rfl rfl (cells_alloc (by simp; omega) _ hc5)) rfl ⟨_, _, _, _, _, _, _, _, rfl, ?_, ?_⟩
  · exact (hr1.five (by omega) _ _ _ _ _).of_below ((Below.refl _ _).alloc (Nat.le_refl _) _)
  · exact grown_alloc (grown_five g1 (Nat.le_refl _) _ _ _ _ _) _

end Go.Proofs.YtcmgclckknpecaaGreatDoor
