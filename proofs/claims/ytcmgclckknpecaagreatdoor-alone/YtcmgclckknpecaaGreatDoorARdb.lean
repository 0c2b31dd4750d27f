import Derived.Test.YtcmgclckknpecaaGreatDoorAGrd
namespace Go.Proofs.YtcmgclckknpecaaGreatDoor
open Go.RowKit

set_option maxHeartbeats 1000000 in
theorem bounds_any (rb : Nat) (s : ByteArray) (a : Nat) (w : World) (hm : s.size ≤ 80) (ha : a ≤ s.size) (h : Rd rb s a w) :
    Calls Tryz.prog 189 #[.pointer (some ⟨rb, 0, none⟩)] w fun e w' => ∃ x y : Int, e = .returned (.tuple #[.int .i64 x, .int .i64 y, .bool (Pl.bnds s a).1]) ∧ Rd rb s (Pl.bnds s a).2 w' ∧ w.grownBy w' (some rb) := by
  by_cases h1 : Pl.byteIn s 49 57 a = true
  · have hl1 := (Pl.byteIn_lt h1).1
    have HY1 : Hid (Pl.byteIn s 49 57 a = true) := h1
    obtain ⟨⟨o2, b⟩, hs2⟩ : ∃ r, Pl.sign s 44 (a + 1) = r := ⟨_, rfl⟩
    have hsf := Pl.sign_fits s 44 (a + 1) (by omega)
    rw [hs2] at hsf
    have hsg := fun w1 h => sign_at rb s (a + 1) 44 44 rfl w1 hm (by omega) h
    rw [hs2] at hsg
    have HSG : Hid (∀ w1, Rd rb s (a + 1) w1 → Calls Tryz.prog 124 #[.pointer (some ⟨rb, 0, none⟩), .int .u8 44] w1 fun e w' => e = .returned (.bool o2) ∧ Rd rb s b w' ∧ w1.grownBy w' (some rb)) := hsg
    clear hsg
    cases o2 with
    | false =>
      have hp : Pl.bnds s a = (false, b) := by simp [Pl.bnds, Pl.thenP, h1, hs2]
      rw [hp]
      clear hp hs2 h1
      go_enter Tryz.func189, Tryz.ntmps189
      go_wp2_with fail
      refine (byteWithin_yes rb s a 49 57 _ hm h HY1.out).mono ?_
      rintro e w1 ⟨rfl, hr1, hg1⟩
      go_wp2_with fail
      refine (HSG.out _ hr1).mono ?_
      rintro e w2 ⟨rfl, hr2, hg2⟩
      go_wp2
      go_ret3
      exact ⟨0, 0, rfl, hr2, grown_trans hg1 hg2⟩
    | true =>
      by_cases h3 : Pl.byteIn s (Pl.bt s a) 57 b = true
      · have hl3 := (Pl.byteIn_lt h3).1
        have HY3 : Hid (Pl.byteIn s (Pl.bt s a) 57 b = true) := h3
        have hp : Pl.bnds s a = Pl.sign s 41 (b + 1) := by simp [Pl.bnds, Pl.thenP, h1, hs2, h3]
        have hsg := fun w1 h => sign_at rb s (b + 1) 41 41 rfl w1 hm (by omega) h
        rw [hp]
        obtain ⟨⟨o4, c⟩, hs4⟩ : ∃ r, Pl.sign s 41 (b + 1) = r := ⟨_, rfl⟩
        rw [hs4] at hsg ⊢
        have HSG4 : Hid (∀ w1, Rd rb s (b + 1) w1 → Calls Tryz.prog 124 #[.pointer (some ⟨rb, 0, none⟩), .int .u8 41] w1 fun e w' => e = .returned (.bool o4) ∧ Rd rb s c w' ∧ w1.grownBy w' (some rb)) := hsg
        clear hp hs2 h1 h3 hsg hs4
        go_enter Tryz.func189, Tryz.ntmps189
        go_wp2_with fail
        refine (byteWithin_yes rb s a 49 57 _ hm h HY1.out).mono ?_
        rintro e w1 ⟨rfl, hr1, hg1⟩
        go_wp2_with fail
        refine (HSG.out _ hr1).mono ?_
        rintro e w2 ⟨rfl, hr2, hg2⟩
        go_wp2_with fail
        refine (byteWithin_yes rb s b _ 57 _ hm hr2 HY3.out).mono ?_
        rintro e w3 ⟨rfl, hr3, hg3⟩
        go_wp2_with fail
        refine (HSG4.out _ hr3).mono ?_
        rintro e w4 ⟨rfl, hr4, hg4⟩
        go_wp2
        go_ret3
        exact ⟨_, _, rfl, hr4, grown_trans hg1 (grown_trans hg2 (grown_trans hg3 hg4))⟩
      · have HN3 : Hid (Pl.byteIn s (Pl.bt s a) 57 b = false) := eq_false_of_ne_true h3
        have hp : Pl.bnds s a = (false, b) := by simp [Pl.bnds, Pl.thenP, h1, hs2, h3]
        rw [hp]
        clear hp hs2 h1 h3
        go_enter Tryz.func189, Tryz.ntmps189
        go_wp2_with fail
        refine (byteWithin_yes rb s a 49 57 _ hm h HY1.out).mono ?_
        rintro e w1 ⟨rfl, hr1, hg1⟩
        go_wp2_with fail
        refine (HSG.out _ hr1).mono ?_
        rintro e w2 ⟨rfl, hr2, hg2⟩
        go_wp2_with fail
        refine (byteWithin_no rb s b _ 57 _ hm hsf.2 hr2 HN3.out).mono ?_
        rintro e w3 ⟨rfl, hr3, hg3⟩
        go_wp2
        go_ret3
        exact ⟨_, _, rfl, hr3, grown_trans hg1 (grown_trans hg2 hg3)⟩
  · have HN : Hid (Pl.byteIn s 49 57 a = false) := eq_false_of_ne_true h1
    have hp : Pl.bnds s a = (false, a) := by simp [Pl.bnds, h1]
    rw [hp]
    clear hp h1
    go_enter Tryz.func189, Tryz.ntmps189
    go_wp2_with fail
    refine (byteWithin_no rb s a 49 57 _ hm ha h HN.out).mono ?_
    rintro e w1 ⟨rfl, hr1, hg1⟩
    go_wp2
    go_ret3
    exact ⟨0, 0, rfl, hr1, hg1⟩

end Go.Proofs.YtcmgclckknpecaaGreatDoor
