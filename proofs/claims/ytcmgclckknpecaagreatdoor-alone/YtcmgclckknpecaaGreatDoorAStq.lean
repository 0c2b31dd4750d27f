import Derived.Test.YtcmgclckknpecaaGreatDoorAStp
namespace Go.Proofs.YtcmgclckknpecaaGreatDoor
open Go.RowKit

set_option maxRecDepth 100000 in
set_option maxHeartbeats 1000000 in
theorem step_map (rb g : Nat) (s : ByteArray) (a : Nat) (names : List ByteArray) (w : World) (hm : s.size ≤ 80) (ha : a ≤ s.size) (h : Rd rb s a w) (hN : Nms g names w) (hsz : ∀ i (hi : i < names.length), (names[i]).size ≤ 8) (hlen : names.length ≤ 8) (res : Option Nat) (b : Nat) (HR : Hid (Pl.nm s a names 0 0 = (res, b))) (hb : b ≤ s.size) (y : ByteArray) (ok1 : Bool) (hy : (∃ i, ∃ hi : i < names.length, res = some i ∧ y = names[i] ∧ ok1 = true) ∨ (res = none ∧ y = ⟨#[]⟩ ∧ ok1 = false)) (q1 : (y.toList == [109, 97, 112, 40]) = true) (o : Bool) (c : Nat) (HB : Hid (Pl.lst s (Pl.pairP s) (s.size + 1) b = (o, c))) :
    Calls Tryz.prog 123 #[.pointer (some ⟨rb, 0, none⟩), .slice (some ⟨g, 0, none⟩) names.length names.length] w fun e w' => ∃ p1 n1 d1 p2 n2 d2, ∃ x z : Int, e = .returned (.tuple #[.agg #[.string y, .slice p1 n1 d1, .slice p2 n2 d2, .int .i64 x, .int .i64 z], .bool o]) ∧ Rd rb s c w' ∧ w.grownBy w' (some rb) := by
  have hrb := h.lt
  have HONE : Hid (∀ W, Rd rb s a W → Nms g names W → Calls Tryz.prog 184 #[.pointer (some ⟨rb, 0, none⟩), .slice (some ⟨g, 0, none⟩) names.length names.length] W fun e w' => e = .returned (.tuple #[.string y, .bool ok1]) ∧ Rd rb s b w' ∧ W.grownBy w' (some rb)) := fun W hW hNW =>
    (oneOf_any rb g s a names W hm ha hW hNW hsz hlen res b HR).mono fun e w' ⟨he, hr, hg⟩ => ⟨by
      rcases hy with ⟨i, hi, h1, h2, h3⟩ | ⟨h1, h2, h3⟩
      · rcases he with ⟨j, hj, h4, h5⟩ | ⟨h4, _⟩
        · obtain rfl : i = j := by rw [h1] at h4; simpa using h4
          rw [h5, h2, h3]
        · rw [h1] at h4; cases h4
      · rcases he with ⟨j, hj, h4, h5⟩ | ⟨_, h5⟩
        · rw [h1] at h4; cases h4
        · rw [h5, h2, h3], hr, hg⟩
  have hA1 : Rd rb s a (w.alloc (.cells #[.string ⟨#[]⟩, .slice none 0 0, .slice none 0 0, .int .i64 0, .int .i64 0] 96)) := h.of_below ((Below.refl _ w).alloc (Nat.le_refl _) _)
  have hA2 : Nms g names (w.alloc (.cells #[.string ⟨#[]⟩, .slice none 0 0, .slice none 0 0, .int .i64 0, .int .i64 0] 96)) := hN.of_below ((Below.refl _ w).alloc (Nat.le_refl _) _)
  have bA : Blk w.heap.size 96 #[.string ⟨#[]⟩, .slice none 0 0, .slice none 0 0, .int .i64 0, .int .i64 0] (w.alloc (.cells #[.string ⟨#[]⟩, .slice none 0 0, .slice none 0 0, .int .i64 0, .int .i64 0] 96)) := heap_alloc_new w _
  clear hy hN
  go_enter Tryz.func123, Tryz.ntmps123
  go_wp2_with fail
  refine (HONE.out _ hA1 hA2).mono ?_
  rintro e w1 ⟨rfl, hr1, hg1⟩
  have hz1 := hg1.size
  simp only [World.size_alloc] at hz1
  have hzz : w.heap.size < w1.heap.size := by omega
  have b1 := bA.keep hg1 (by simp; omega)
  have g1 : w.grownBy w1 (some rb) := grown_trans (World.grownBy_alloc _ _ _) hg1
  have hr2 : Rd rb s b (w1.alloc (.cells #[.string y, .slice none 0 0, .slice none 0 0, .int .i64 0, .int .i64 0] 96)) := hr1.of_below ((Below.refl _ w1).alloc (Nat.le_refl _) _)
  have b2 : Blk w.heap.size 96 #[.string ⟨#[]⟩, .slice none 0 0, .slice none 0 0, .int .i64 0, .int .i64 0] (w1.alloc (.cells #[.string y, .slice none 0 0, .slice none 0 0, .int .i64 0, .int .i64 0] 96)) := b1.keep (World.grownBy_alloc w1 _ none) (by simp)
  have l2 : Blk w1.heap.size 96 #[.string y, .slice none 0 0, .slice none 0 0, .int .i64 0, .int .i64 0] (w1.alloc (.cells #[.string y, .slice none 0 0, .slice none 0 0, .int .i64 0, .int .i64 0] 96)) := heap_alloc_new w1 _
  have g2 : w.grownBy (w1.alloc (.cells #[.string y, .slice none 0 0, .slice none 0 0, .int .i64 0, .int .i64 0] 96)) (some rb) := grown_alloc g1 _
  obtain ⟨r0, r1, r2, r3, r4, rf⟩ := b1.five
  clear hA1 hA2 bA HONE
  go_wp2_with fail
  refine (pairs_any rb s b _ hm hb hr2 (o, c) HB).mono ?_
  rintro e w2 ⟨p2, n2, d2, rfl, hr3, hg3⟩
  have l3 := l2.keep hg3 (by simp; omega)
  have b3 := b2.keep hg3 (by simp; omega)
  have g3 := grown_trans g2 hg3
  have hz3 := hg3.size
  simp only [World.size_alloc] at hz3
  clear r0 r1 r2 r3 r4 rf b1 b2 l2 hr1 hr2 hg1 hg3 g1 g2
  obtain ⟨r0, r1, r2, r3, r4, rf⟩ := b3.five
  obtain ⟨l0, l1, l2, l4, l5, lf⟩ := l3.five
  clear b3 l3
  go_wp2
  have hc5 := five_cells (.string y) (.slice none 0 0) (.slice p2 n2 d2) (.int .i64 0) (.int .i64 0) (X := (w2.setCell ⟨w1.heap.size, 2, none⟩ (.slice p2 n2 d2))) ((World.cell?_setCell_other _ _ _ _ (fun e => absurd (congrArg Addr.block e) (by show w1.heap.size ≠ w.heap.size; omega))).trans r0) ((World.cell?_setCell_other _ _ _ _ (fun e => absurd (congrArg Addr.block e) (by show w1.heap.size ≠ w.heap.size; omega))).trans r1) ((World.cell?_setCell_other _ _ _ _ (fun e => absurd (congrArg Addr.block e) (by show w1.heap.size ≠ w.heap.size; omega))).trans r2) ((World.cell?_setCell_other _ _ _ _ (fun e => absurd (congrArg Addr.block e) (by show w1.heap.size ≠ w.heap.size; omega))).trans r3) ((World.cell?_setCell_other _ _ _ _ (fun e => absurd (congrArg Addr.block e) (by show w1.heap.size ≠ w.heap.size; omega))).trans r4) _ rfl
  refine bodyPost_ret (res31 rfl rfl hc5) rfl ⟨_, _, _, _, _, _, _, _, rfl, ?_, ?_⟩
  · exact Rd.five (hr3.other (by omega) 2 (.slice p2 n2 d2)) (by omega) _ _ _ _ _
  · exact grown_five (grown_set_new g3 (by omega) 2 (.slice p2 n2 d2)) (Nat.le_refl _) _ _ _ _ _

set_option maxRecDepth 100000 in
set_option maxHeartbeats 1000000 in
theorem step_syn (rb g : Nat) (s : ByteArray) (a : Nat) (names : List ByteArray) (w : World) (hm : s.size ≤ 80) (ha : a ≤ s.size) (h : Rd rb s a w) (hN : Nms g names w) (hsz : ∀ i (hi : i < names.length), (names[i]).size ≤ 8) (hlen : names.length ≤ 8) (res : Option Nat) (b : Nat) (HR : Hid (Pl.nm s a names 0 0 = (res, b))) (hb : b ≤ s.size) (y : ByteArray) (ok1 : Bool) (hy : (∃ i, ∃ hi : i < names.length, res = some i ∧ y = names[i] ∧ ok1 = true) ∨ (res = none ∧ y = ⟨#[]⟩ ∧ ok1 = false)) (q1 : (y.toList == [109, 97, 112, 40]) = false) (q2 : (y.toList == [115, 121, 110, 40]) = true) (o : Bool) (c : Nat) (HB : Hid (Pl.lst s (Pl.pairP s) (s.size + 1) b = (o, c))) :
    Calls Tryz.prog 123 #[.pointer (some ⟨rb, 0, none⟩), .slice (some ⟨g, 0, none⟩) names.length names.length] w fun e w' => ∃ p1 n1 d1 p2 n2 d2, ∃ x z : Int, e = .returned (.tuple #[.agg #[.string y, .slice p1 n1 d1, .slice p2 n2 d2, .int .i64 x, .int .i64 z], .bool o]) ∧ Rd rb s c w' ∧ w.grownBy w' (some rb) := by
  have hrb := h.lt
  have HONE : Hid (∀ W, Rd rb s a W → Nms g names W → Calls Tryz.prog 184 #[.pointer (some ⟨rb, 0, none⟩), .slice (some ⟨g, 0, none⟩) names.length names.length] W fun e w' => e = .returned (.tuple #[.string y, .bool ok1]) ∧ Rd rb s b w' ∧ W.grownBy w' (some rb)) := fun W hW hNW =>
    (oneOf_any rb g s a names W hm ha hW hNW hsz hlen res b HR).mono fun e w' ⟨he, hr, hg⟩ => ⟨by
      rcases hy with ⟨i, hi, h1, h2, h3⟩ | ⟨h1, h2, h3⟩
      · rcases he with ⟨j, hj, h4, h5⟩ | ⟨h4, _⟩
        · obtain rfl : i = j := by rw [h1] at h4; simpa using h4
          rw [h5, h2, h3]
        · rw [h1] at h4; cases h4
      · rcases he with ⟨j, hj, h4, h5⟩ | ⟨_, h5⟩
        · rw [h1] at h4; cases h4
        · rw [h5, h2, h3], hr, hg⟩
  have hA1 : Rd rb s a (w.alloc (.cells #[.string ⟨#[]⟩, .slice none 0 0, .slice none 0 0, .int .i64 0, .int .i64 0] 96)) := h.of_below ((Below.refl _ w).alloc (Nat.le_refl _) _)
  have hA2 : Nms g names (w.alloc (.cells #[.string ⟨#[]⟩, .slice none 0 0, .slice none 0 0, .int .i64 0, .int .i64 0] 96)) := hN.of_below ((Below.refl _ w).alloc (Nat.le_refl _) _)
  have bA : Blk w.heap.size 96 #[.string ⟨#[]⟩, .slice none 0 0, .slice none 0 0, .int .i64 0, .int .i64 0] (w.alloc (.cells #[.string ⟨#[]⟩, .slice none 0 0, .slice none 0 0, .int .i64 0, .int .i64 0] 96)) := heap_alloc_new w _
  clear hy hN
  go_enter Tryz.func123, Tryz.ntmps123
  go_wp2_with fail
  refine (HONE.out _ hA1 hA2).mono ?_
  rintro e w1 ⟨rfl, hr1, hg1⟩
  have hz1 := hg1.size
  simp only [World.size_alloc] at hz1
  have hzz : w.heap.size < w1.heap.size := by omega
  have b1 := bA.keep hg1 (by simp; omega)
  have g1 : w.grownBy w1 (some rb) := grown_trans (World.grownBy_alloc _ _ _) hg1
  have hr2 : Rd rb s b (w1.alloc (.cells #[.string y, .slice none 0 0, .slice none 0 0, .int .i64 0, .int .i64 0] 96)) := hr1.of_below ((Below.refl _ w1).alloc (Nat.le_refl _) _)
  have b2 : Blk w.heap.size 96 #[.string ⟨#[]⟩, .slice none 0 0, .slice none 0 0, .int .i64 0, .int .i64 0] (w1.alloc (.cells #[.string y, .slice none 0 0, .slice none 0 0, .int .i64 0, .int .i64 0] 96)) := b1.keep (World.grownBy_alloc w1 _ none) (by simp)
  have l2 : Blk w1.heap.size 96 #[.string y, .slice none 0 0, .slice none 0 0, .int .i64 0, .int .i64 0] (w1.alloc (.cells #[.string y, .slice none 0 0, .slice none 0 0, .int .i64 0, .int .i64 0] 96)) := heap_alloc_new w1 _
  have g2 : w.grownBy (w1.alloc (.cells #[.string y, .slice none 0 0, .slice none 0 0, .int .i64 0, .int .i64 0] 96)) (some rb) := grown_alloc g1 _
  obtain ⟨r0, r1, r2, r3, r4, rf⟩ := b1.five
  clear hA1 hA2 bA HONE
  go_wp2_with fail
  refine (pairs_any rb s b _ hm hb hr2 (o, c) HB).mono ?_
  rintro e w2 ⟨p2, n2, d2, rfl, hr3, hg3⟩
  have l3 := l2.keep hg3 (by simp; omega)
  have b3 := b2.keep hg3 (by simp; omega)
  have g3 := grown_trans g2 hg3
  have hz3 := hg3.size
  simp only [World.size_alloc] at hz3
  clear r0 r1 r2 r3 r4 rf b1 b2 l2 hr1 hr2 hg1 hg3 g1 g2
  obtain ⟨r0, r1, r2, r3, r4, rf⟩ := b3.five
  obtain ⟨l0, l1, l2, l4, l5, lf⟩ := l3.five
  clear b3 l3
  go_wp2
  have hc5 := five_cells (.string y) (.slice none 0 0) (.slice p2 n2 d2) (.int .i64 0) (.int .i64 0) (X := (w2.setCell ⟨w1.heap.size, 2, none⟩ (.slice p2 n2 d2))) ((World.cell?_setCell_other _ _ _ _ (fun e => absurd (congrArg Addr.block e) (by show w1.heap.size ≠ w.heap.size; omega))).trans r0) ((World.cell?_setCell_other _ _ _ _ (fun e => absurd (congrArg Addr.block e) (by show w1.heap.size ≠ w.heap.size; omega))).trans r1) ((World.cell?_setCell_other _ _ _ _ (fun e => absurd (congrArg Addr.block e) (by show w1.heap.size ≠ w.heap.size; omega))).trans r2) ((World.cell?_setCell_other _ _ _ _ (fun e => absurd (congrArg Addr.block e) (by show w1.heap.size ≠ w.heap.size; omega))).trans r3) ((World.cell?_setCell_other _ _ _ _ (fun e => absurd (congrArg Addr.block e) (by show w1.heap.size ≠ w.heap.size; omega))).trans r4) _ rfl
  refine bodyPost_ret (res31 rfl rfl hc5) rfl ⟨_, _, _, _, _, _, _, _, rfl, ?_, ?_⟩
  · exact Rd.five (hr3.other (by omega) 2 (.slice p2 n2 d2)) (by omega) _ _ _ _ _
  · exact grown_five (grown_set_new g3 (by omega) 2 (.slice p2 n2 d2)) (Nat.le_refl _) _ _ _ _ _

set_option maxRecDepth 100000 in
set_option maxHeartbeats 1000000 in
theorem step_stop (rb g : Nat) (s : ByteArray) (a : Nat) (names : List ByteArray) (w : World) (hm : s.size ≤ 80) (ha : a ≤ s.size) (h : Rd rb s a w) (hN : Nms g names w) (hsz : ∀ i (hi : i < names.length), (names[i]).size ≤ 8) (hlen : names.length ≤ 8) (res : Option Nat) (b : Nat) (HR : Hid (Pl.nm s a names 0 0 = (res, b))) (hb : b ≤ s.size) (y : ByteArray) (ok1 : Bool) (hy : (∃ i, ∃ hi : i < names.length, res = some i ∧ y = names[i] ∧ ok1 = true) ∨ (res = none ∧ y = ⟨#[]⟩ ∧ ok1 = false)) (q1 : (y.toList == [109, 97, 112, 40]) = false) (q2 : (y.toList == [115, 121, 110, 40]) = false) (q3 : (y.toList == [115, 116, 111, 112, 40]) = true) (o : Bool) (c : Nat) (HB : Hid (Pl.lst s (Pl.word s) (s.size + 1) b = (o, c))) :
    Calls Tryz.prog 123 #[.pointer (some ⟨rb, 0, none⟩), .slice (some ⟨g, 0, none⟩) names.length names.length] w fun e w' => ∃ p1 n1 d1 p2 n2 d2, ∃ x z : Int, e = .returned (.tuple #[.agg #[.string y, .slice p1 n1 d1, .slice p2 n2 d2, .int .i64 x, .int .i64 z], .bool o]) ∧ Rd rb s c w' ∧ w.grownBy w' (some rb) := by
  have hrb := h.lt
  have HONE : Hid (∀ W, Rd rb s a W → Nms g names W → Calls Tryz.prog 184 #[.pointer (some ⟨rb, 0, none⟩), .slice (some ⟨g, 0, none⟩) names.length names.length] W fun e w' => e = .returned (.tuple #[.string y, .bool ok1]) ∧ Rd rb s b w' ∧ W.grownBy w' (some rb)) := fun W hW hNW =>
    (oneOf_any rb g s a names W hm ha hW hNW hsz hlen res b HR).mono fun e w' ⟨he, hr, hg⟩ => ⟨by
      rcases hy with ⟨i, hi, h1, h2, h3⟩ | ⟨h1, h2, h3⟩
      · rcases he with ⟨j, hj, h4, h5⟩ | ⟨h4, _⟩
        · obtain rfl : i = j := by rw [h1] at h4; simpa using h4
          rw [h5, h2, h3]
        · rw [h1] at h4; cases h4
      · rcases he with ⟨j, hj, h4, h5⟩ | ⟨_, h5⟩
        · rw [h1] at h4; cases h4
        · rw [h5, h2, h3], hr, hg⟩
  have hA1 : Rd rb s a (w.alloc (.cells #[.string ⟨#[]⟩, .slice none 0 0, .slice none 0 0, .int .i64 0, .int .i64 0] 96)) := h.of_below ((Below.refl _ w).alloc (Nat.le_refl _) _)
  have hA2 : Nms g names (w.alloc (.cells #[.string ⟨#[]⟩, .slice none 0 0, .slice none 0 0, .int .i64 0, .int .i64 0] 96)) := hN.of_below ((Below.refl _ w).alloc (Nat.le_refl _) _)
  have bA : Blk w.heap.size 96 #[.string ⟨#[]⟩, .slice none 0 0, .slice none 0 0, .int .i64 0, .int .i64 0] (w.alloc (.cells #[.string ⟨#[]⟩, .slice none 0 0, .slice none 0 0, .int .i64 0, .int .i64 0] 96)) := heap_alloc_new w _
  clear hy hN
  go_enter Tryz.func123, Tryz.ntmps123
  go_wp2_with fail
  refine (HONE.out _ hA1 hA2).mono ?_
  rintro e w1 ⟨rfl, hr1, hg1⟩
  have hz1 := hg1.size
  simp only [World.size_alloc] at hz1
  have hzz : w.heap.size < w1.heap.size := by omega
  have b1 := bA.keep hg1 (by simp; omega)
  have g1 : w.grownBy w1 (some rb) := grown_trans (World.grownBy_alloc _ _ _) hg1
  have hr2 : Rd rb s b (w1.alloc (.cells #[.string y, .slice none 0 0, .slice none 0 0, .int .i64 0, .int .i64 0] 96)) := hr1.of_below ((Below.refl _ w1).alloc (Nat.le_refl _) _)
  have b2 : Blk w.heap.size 96 #[.string ⟨#[]⟩, .slice none 0 0, .slice none 0 0, .int .i64 0, .int .i64 0] (w1.alloc (.cells #[.string y, .slice none 0 0, .slice none 0 0, .int .i64 0, .int .i64 0] 96)) := b1.keep (World.grownBy_alloc w1 _ none) (by simp)
  have l2 : Blk w1.heap.size 96 #[.string y, .slice none 0 0, .slice none 0 0, .int .i64 0, .int .i64 0] (w1.alloc (.cells #[.string y, .slice none 0 0, .slice none 0 0, .int .i64 0, .int .i64 0] 96)) := heap_alloc_new w1 _
  have g2 : w.grownBy (w1.alloc (.cells #[.string y, .slice none 0 0, .slice none 0 0, .int .i64 0, .int .i64 0] 96)) (some rb) := grown_alloc g1 _
  obtain ⟨r0, r1, r2, r3, r4, rf⟩ := b1.five
  clear hA1 hA2 bA HONE
  go_wp2_with fail
  refine (words_any rb s b _ hm hb hr2 (o, c) HB).mono ?_
  rintro e w2 ⟨p1, n1, d1, rfl, hr3, hg3⟩
  have l3 := l2.keep hg3 (by simp; omega)
  have b3 := b2.keep hg3 (by simp; omega)
  have g3 := grown_trans g2 hg3
  have hz3 := hg3.size
  simp only [World.size_alloc] at hz3
  clear r0 r1 r2 r3 r4 rf b1 b2 l2 hr1 hr2 hg1 hg3 g1 g2
  obtain ⟨r0, r1, r2, r3, r4, rf⟩ := b3.five
  obtain ⟨l0, l1, l2, l4, l5, lf⟩ := l3.five
  clear b3 l3
  go_wp2
  have hc5 := five_cells (.string y) (.slice p1 n1 d1) (.slice none 0 0) (.int .i64 0) (.int .i64 0) (X := (w2.setCell ⟨w1.heap.size, 1, none⟩ (.slice p1 n1 d1))) ((World.cell?_setCell_other _ _ _ _ (fun e => absurd (congrArg Addr.block e) (by show w1.heap.size ≠ w.heap.size; omega))).trans r0) ((World.cell?_setCell_other _ _ _ _ (fun e => absurd (congrArg Addr.block e) (by show w1.heap.size ≠ w.heap.size; omega))).trans r1) ((World.cell?_setCell_other _ _ _ _ (fun e => absurd (congrArg Addr.block e) (by show w1.heap.size ≠ w.heap.size; omega))).trans r2) ((World.cell?_setCell_other _ _ _ _ (fun e => absurd (congrArg Addr.block e) (by show w1.heap.size ≠ w.heap.size; omega))).trans r3) ((World.cell?_setCell_other _ _ _ _ (fun e => absurd (congrArg Addr.block e) (by show w1.heap.size ≠ w.heap.size; omega))).trans r4) _ rfl
  refine bodyPost_ret (res31 rfl rfl hc5) rfl ⟨_, _, _, _, _, _, _, _, rfl, ?_, ?_⟩
  · exact Rd.five (hr3.other (by omega) 1 (.slice p1 n1 d1)) (by omega) _ _ _ _ _
  · exact grown_five (grown_set_new g3 (by omega) 1 (.slice p1 n1 d1)) (Nat.le_refl _) _ _ _ _ _

end Go.Proofs.YtcmgclckknpecaaGreatDoor
