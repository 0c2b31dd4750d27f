import Derived.Test.YtcmgclckknpecaaRd
namespace Go.Proofs.Ytcmgclckknpecaa
open Go.RowKit

/-- The reader's place, read off the world (for a loop's measure). -/
def plc (rb : Nat) (w : World) : Nat := match w.cell? ⟨rb, 1, none⟩ with
  | some (.int _ z) => z.toNat
  | _ => 0
theorem plc_eq {rb : Nat} {s : ByteArray} {a : Nat} {w : World} (h : Rd rb s a w) : plc rb w = a := by
  unfold plc; rw [h.c1]; rfl

set_option maxHeartbeats 1000000 in
theorem word_any (rb : Nat) (s : ByteArray) (a : Nat) (w : World) (hm : s.size ≤ 80) (ha : a ≤ s.size) (h : Rd rb s a w) :
    Calls Try.prog 42 #[.pointer (some ⟨rb, 0, none⟩)] w fun e w' => ∃ t, e = .returned (.tuple #[.string t, .bool (Pl.word s a).1]) ∧ Rd rb s (Pl.word s a).2 w' ∧ w.grownBy w' (some rb) := by
  obtain ⟨E, hE⟩ : ∃ E, Pl.lets s 8 a = E := ⟨_, rfl⟩
  have hfit := Pl.lets_fits s 8 a ha
  rw [hE] at hfit
  have hw1 : (Pl.word s a).1 = decide (a < E) := by rw [← hE]; rfl
  have hw2 : (Pl.word s a).2 = E := hE
  rw [hw1, hw2]
  have HE : Hid (Pl.lets s 8 a = E) := hE
  clear hE hw1 hw2
  have c1 := h.c1
  go_enter Try.func42, Try.ntmps42
  go_wp2
  clear c1
  go_loopw [5, 6] (fun _ _ wr => ∃ b m : Nat, a ≤ b ∧ b ≤ s.size ∧ b + m = a + 8 ∧ Hid (Pl.lets s m b = E) ∧ Rd rb s b wr ∧ w.grownBy wr (some rb)) (fun _ _ wr => 200 - plc rb wr)
  case atStart => exact ⟨a, 8, by omega, ha, rfl, HE, h, World.grownBy.refl _ _⟩
  case round =>
    obtain ⟨b, m, hab, hbs, hbm, HL, hr, hg⟩ := hrel
    have c1 := hr.c1
    have hex : (b = a + 8 ∨ Pl.byteIn s 97 122 b = false) ∨ (b < a + 8 ∧ Pl.byteIn s 97 122 b = true) := by
      cases Pl.byteIn s 97 122 b <;> simp <;> omega
    have c0 := hr.c0
    have hlt := hr.lt
    rcases hex with hex | ⟨hb8, hyes⟩
    · have hbE : b = E := by
        have hl := HL.out
        cases m with
        | zero => exact hl
        | succ m => rcases hex with h8 | hno
                    · omega
                    · unfold Pl.lets at hl; rw [hno] at hl; exact hl
      have HBE : Hid (b = E) := hbE
      clear hbE
      by_cases hb8 : b < a + 8
      · have HNO : Hid (Pl.byteIn s 97 122 b = false) := by rcases hex with h8 | hno; · omega
                                                            · exact hno
        clear hex
        have hb8' : (b : Int) < (a : Int) + 8 := by omega
        go_wp2_with fail
        refine (byteWithin_no rb s b 97 122 _ hm hbs hr HNO.out).mono ?_
        rintro e w1 ⟨rfl, hr1, hg1⟩
        have d0 := hr1.c0
        have d1 := hr1.c1
        have dl := hr1.lt
        have n0 := World.new_ne w1 _ d0
        have n1 := World.new_ne w1 _ d1
        clear c0 c1
        go_wp2
        go_region_held3 (fun w' => w'.cell? ⟨rb, 0, none⟩ = some (.string s) ∧ w'.cell? ⟨rb, 1, none⟩ = some (.int .i64 (b : Int))) (go_keep) ((go_at_call 49; refine (clone_any _ _ (by simp; omega)).mono ?_; rintro e w2 ⟨rfl, hB2⟩; have hr2 := (hr1.of_below (Below.refl _ w1).drew).of_below hB2; have k0 := hr2.c0; have k1 := hr2.c1))
        go_wp2
        go_ret2
        refine ⟨s.extract a b, by rw [← HBE.out]; rfl, by rw [← HBE.out]; exact hr2, ?_⟩
        exact grown_trans hg (grown_trans hg1 (grown_trans (grown_drewN w1 1 _) (grown_of_below _ hB2)))
      · have hb8' : ¬ (b : Int) < (a : Int) + 8 := by omega
        clear hex
        have n0 := World.new_ne wr _ c0
        have n1 := World.new_ne wr _ c1
        go_wp2
        go_region_held3 (fun w' => w'.cell? ⟨rb, 0, none⟩ = some (.string s) ∧ w'.cell? ⟨rb, 1, none⟩ = some (.int .i64 (b : Int))) (go_keep) ((go_at_call 49; refine (clone_any _ _ (by simp; omega)).mono ?_; rintro e w2 ⟨rfl, hB2⟩; have hr2 := (hr.of_below (Below.refl _ wr).drew).of_below hB2; have k0 := hr2.c0; have k1 := hr2.c1))
        go_wp2
        go_ret2
        refine ⟨s.extract a b, by rw [← HBE.out]; rfl, by rw [← HBE.out]; exact hr2, ?_⟩
        exact grown_trans hg (grown_trans (grown_drewN wr 1 _) (grown_of_below _ hB2))
    · have hb8' : (b : Int) < (a : Int) + 8 := by omega
      have HL2 : Hid (∃ m', m = m' + 1 ∧ Pl.lets s m' (b + 1) = E) := by
        have hl := HL.out
        cases m with
        | zero => omega
        | succ m => exact ⟨m, rfl, by unfold Pl.lets at hl; rw [if_pos hyes] at hl; exact hl⟩
      have hbs2 := (Pl.byteIn_lt hyes).1
      have HYES : Hid (Pl.byteIn s 97 122 b = true) := hyes
      clear hyes
      go_wp2_with fail
      refine (byteWithin_yes rb s b 97 122 _ hm hr HYES.out).mono ?_
      rintro e w1 ⟨rfl, hr1, hg1⟩
      go_wp2
      go_roundw
      case rel =>
        obtain ⟨m', rfl, hl⟩ := HL2.out
        exact ⟨b + 1, m', by omega, by omega, by omega, hl, hr1, grown_trans hg hg1⟩
      case measure => rw [plc_eq hr1, plc_eq hr]; omega

end Go.Proofs.Ytcmgclckknpecaa
