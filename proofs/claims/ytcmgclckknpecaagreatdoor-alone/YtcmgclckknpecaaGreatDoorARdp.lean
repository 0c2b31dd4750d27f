import Derived.Test.YtcmgclckknpecaaGreatDoorAGrd
namespace Go.Proofs.YtcmgclckknpecaaGreatDoor
open Go.RowKit

theorem grown_set_new {A B : World} {row : Option Nat} (h : A.grownBy B row) {b : Nat} (hb : A.heap.size ≤ b) (o : Nat) (v : Value) : A.grownBy (B.setCell ⟨b, o, none⟩ v) row :=
  ⟨h.os, h.tape, h.output, by simpa using h.size, fun k hk hr => (Below.heap_setCell _ _ _ k (by show k ≠ b; omega)).trans (h.block k hk hr)⟩
theorem grown_alloc {A B : World} {row : Option Nat} (h : A.grownBy B row) (o : Obj) : A.grownBy (B.alloc o) row := grown_trans h (World.grownBy_alloc B o row)
theorem Rd.other {rb : Nat} {s : ByteArray} {a : Nat} {w : World} (h : Rd rb s a w) {b : Nat} (hne : b ≠ rb) (o : Nat) (v : Value) : Rd rb s a (w.setCell ⟨b, o, none⟩ v) :=
  ⟨(World.cell?_setCell_other _ _ _ _ (by intro e; cases e; exact hne rfl)).trans h.c0, (World.cell?_setCell_other _ _ _ _ (by intro e; cases e; exact hne rfl)).trans h.c1, fun o => (World.frozen?_setCell _ _ _ _).trans (h.fz o), by simpa using h.lt⟩
theorem two_cells {X : World} {b : Nat} (a c : Value) {u0 u1 : Value} (x0 : X.cell? ⟨b, 0, none⟩ = some u0) (x1 : X.cell? ⟨b, 1, none⟩ = some u1) :
    ((X.setCell ⟨b, 0, none⟩ a).setCell ⟨b, 1, none⟩ c).cell? ⟨b, 0, none⟩ = some a ∧ ((X.setCell ⟨b, 0, none⟩ a).setCell ⟨b, 1, none⟩ c).cell? ⟨b, 1, none⟩ = some c := by
  refine ⟨?_, ?_⟩
  · rw [World.cell?_setCell_other _ _ _ _ (by simp)]; exact World.cell?_setCell_same _ _ _ x0
  · exact World.cell?_setCell_same _ _ _ ((World.cell?_setCell_other _ _ _ _ (by simp)).trans x1)

theorem res40 {tmps : Array Value} {w : World} {b : Nat} {x y : Value} (hp : tmps[2]? = some (.pointer (some ⟨b, 0, none⟩))) {k : Value} (h3 : tmps[3]? = some k) (c0 : w.cell? ⟨b, 0, none⟩ = some x) (c1 : w.cell? ⟨b, 1, none⟩ = some y) :
    (results Tryz.f186 tmps).run Tryz.prog w = .ok (.tuple #[.agg #[x, y], k]) w := by
  simp [results, Tryz.results186, go_sem, hp, h3, c0, c1]

set_option maxHeartbeats 1000000 in
theorem pair_any (rb : Nat) (s : ByteArray) (a : Nat) (w : World) (hm : s.size ≤ 80) (ha : a ≤ s.size) (h : Rd rb s a w) :
    Calls Tryz.prog 186 #[.pointer (some ⟨rb, 0, none⟩)] w fun e w' => ∃ t u, e = .returned (.tuple #[.agg #[.string t, .string u], .bool (Pl.pairP s a).1]) ∧ Rd rb s (Pl.pairP s a).2 w' ∧ w.grownBy w' (some rb) := by
  have hwf := Pl.word_fits s a ha
  obtain ⟨⟨o1, b⟩, hw⟩ : ∃ r, Pl.word s a = r := ⟨_, rfl⟩
  rw [hw] at hwf
  have hlt := h.lt
  have h1 := word_any rb s a (w.alloc (.cells #[.string ⟨#[]⟩, .string ⟨#[]⟩] 357)) hm ha (h.of_below ((Below.refl _ w).alloc (Nat.le_refl _) _))
  rw [hw] at h1
  have H1 : Hid (Calls Tryz.prog 188 #[.pointer (some ⟨rb, 0, none⟩)] (w.alloc (.cells #[.string ⟨#[]⟩, .string ⟨#[]⟩] 357)) fun e w' => ∃ t, e = .returned (.tuple #[.string t, .bool o1]) ∧ Rd rb s b w' ∧ (w.alloc (.cells #[.string ⟨#[]⟩, .string ⟨#[]⟩] 357)).grownBy w' (some rb)) := h1
  clear h1
  have g0 : w.grownBy (w.alloc (.cells #[.string ⟨#[]⟩, .string ⟨#[]⟩] 357)) (some rb) := World.grownBy_alloc _ _ _
  have keep : ∀ w1, (w.alloc (.cells #[.string ⟨#[]⟩, .string ⟨#[]⟩] 357)).grownBy w1 (some rb) → w1.cell? ⟨w.heap.size, 0, none⟩ = some (.string ⟨#[]⟩) ∧ w1.cell? ⟨w.heap.size, 1, none⟩ = some (.string ⟨#[]⟩) ∧ ∀ o, w1.frozen? ⟨w.heap.size, o, none⟩ = false := fun w1 hg1 =>
    ⟨(hg1.cell_far ⟨w.heap.size, 0, none⟩ (by simp) (by simp; omega)).trans (by simp [go_sem]), (hg1.cell_far ⟨w.heap.size, 1, none⟩ (by simp) (by simp; omega)).trans (by simp [go_sem]),
      fun o => (hg1.frozen_far ⟨w.heap.size, o, none⟩ (by simp) (by simp; omega)).trans (by simp [go_sem])⟩
  have HK : Hid (∀ w1, (w.alloc (.cells #[.string ⟨#[]⟩, .string ⟨#[]⟩] 357)).grownBy w1 (some rb) → w1.cell? ⟨w.heap.size, 0, none⟩ = some (.string ⟨#[]⟩) ∧ w1.cell? ⟨w.heap.size, 1, none⟩ = some (.string ⟨#[]⟩) ∧ ∀ o, w1.frozen? ⟨w.heap.size, o, none⟩ = false) := keep
  clear keep
  cases o1 with
  | false =>
    have hp : Pl.pairP s a = (false, b) := by simp [Pl.pairP, Pl.thenP, hw]
    rw [hp]
    clear hp hw
    go_enter Tryz.func186, Tryz.ntmps186
    go_wp2_with fail
    refine H1.out.mono ?_
    rintro e w1 ⟨t, rfl, hr1, hg1⟩
    obtain ⟨r0, r1, fr⟩ := HK.out w1 hg1
    go_wp2
    have h2 := two_cells (.string ⟨#[]⟩) (.string ⟨#[]⟩) r0 r1
    exact bodyPost_ret (res40 rfl rfl h2.1 h2.2) rfl ⟨_, _, rfl, (hr1.other (by omega) _ _).other (by omega) _ _, grown_set_new (grown_set_new (grown_trans g0 hg1) (Nat.le_refl _) _ _) (Nat.le_refl _) _ _⟩
  | true =>
    obtain ⟨⟨o2, c⟩, hs2⟩ : ∃ r, Pl.sign s 61 b = r := ⟨_, rfl⟩
    have hsf := Pl.sign_fits s 61 b hwf.2
    rw [hs2] at hsf
    have hsg := fun w1 h => sign_at rb s b 61 61 rfl w1 hm hwf.2 h
    rw [hs2] at hsg
    have HSG : Hid (∀ w1, Rd rb s b w1 → Calls Tryz.prog 124 #[.pointer (some ⟨rb, 0, none⟩), .int .u8 61] w1 fun e w' => e = .returned (.bool o2) ∧ Rd rb s c w' ∧ w1.grownBy w' (some rb)) := hsg
    clear hsg
    cases o2 with
    | false =>
      have hp : Pl.pairP s a = (false, c) := by simp [Pl.pairP, Pl.thenP, hw, hs2]
      rw [hp]
      clear hp hw hs2
      go_enter Tryz.func186, Tryz.ntmps186
      go_wp2_with fail
      refine H1.out.mono ?_
      rintro e w1 ⟨t, rfl, hr1, hg1⟩
      go_wp2_with fail
      refine (HSG.out _ hr1).mono ?_
      rintro e w2 ⟨rfl, hr2, hg2⟩
      obtain ⟨r0, r1, fr⟩ := HK.out w2 (grown_trans hg1 hg2)
      go_wp2
      have h2 := two_cells (.string ⟨#[]⟩) (.string ⟨#[]⟩) r0 r1
      exact bodyPost_ret (res40 rfl rfl h2.1 h2.2) rfl ⟨_, _, rfl, (hr2.other (by omega) _ _).other (by omega) _ _, grown_set_new (grown_set_new (grown_trans g0 (grown_trans hg1 hg2)) (Nat.le_refl _) _ _) (Nat.le_refl _) _ _⟩
    | true =>
      have hp : Pl.pairP s a = Pl.word s c := by simp [Pl.pairP, Pl.thenP, hw, hs2]
      rw [hp]
      have hw3 := fun w1 h => word_any rb s c w1 hm hsf.2 h
      obtain ⟨⟨o3, d⟩, hw4⟩ : ∃ r, Pl.word s c = r := ⟨_, rfl⟩
      rw [hw4] at hw3 ⊢
      have HW3 : Hid (∀ w1, Rd rb s c w1 → Calls Tryz.prog 188 #[.pointer (some ⟨rb, 0, none⟩)] w1 fun e w' => ∃ t, e = .returned (.tuple #[.string t, .bool o3]) ∧ Rd rb s d w' ∧ w1.grownBy w' (some rb)) := hw3
      clear hp hw hs2 hw3 hw4
      go_enter Tryz.func186, Tryz.ntmps186
      go_wp2_with fail
      refine H1.out.mono ?_
      rintro e w1 ⟨t, rfl, hr1, hg1⟩
      go_wp2_with fail
      refine (HSG.out _ hr1).mono ?_
      rintro e w2 ⟨rfl, hr2, hg2⟩
      go_wp2_with fail
      refine (HW3.out _ hr2).mono ?_
      rintro e w3 ⟨u, rfl, hr3, hg3⟩
      obtain ⟨r0, r1, fr⟩ := HK.out w3 (grown_trans hg1 (grown_trans hg2 hg3))
      go_wp2
      have h2 := two_cells (.string t) (.string u) r0 r1
      exact bodyPost_ret (res40 rfl rfl h2.1 h2.2) rfl ⟨_, _, rfl, (hr3.other (by omega) _ _).other (by omega) _ _, grown_set_new (grown_set_new (grown_trans g0 (grown_trans hg1 (grown_trans hg2 hg3))) (Nat.le_refl _) _ _) (Nat.le_refl _) _ _⟩

end Go.Proofs.YtcmgclckknpecaaGreatDoor
