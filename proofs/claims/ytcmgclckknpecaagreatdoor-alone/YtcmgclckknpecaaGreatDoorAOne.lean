import Derived.Test.YtcmgclckknpecaaGreatDoorAGrd
import Derived.Test.YtcmgclckknpecaaGreatDoorARdp
namespace Go.Proofs.YtcmgclckknpecaaGreatDoor
open Go.RowKit

/-- A list of names in memory: block g. -/
structure Nms (g : Nat) (names : List ByteArray) (w : World) : Prop where
  cells : ∀ i (hi : i < names.length), w.cell? ⟨g, i, none⟩ = some (.string (names[i]))
  lt : g < w.heap.size
theorem Nms.of_below {g : Nat} {names : List ByteArray} {w w' : World} (h : Nms g names w) (hb : Below w.heap.size w w') : Nms g names w' :=
  ⟨fun i hi => (hb.cell (p := ⟨g, i, none⟩) h.lt).trans (h.cells i hi), Nat.lt_of_lt_of_le h.lt hb.size⟩

set_option maxHeartbeats 1000000 in
theorem oneOf_any (rb g : Nat) (s : ByteArray) (a : Nat) (names : List ByteArray) (w : World) (hm : s.size ≤ 80) (ha : a ≤ s.size) (h : Rd rb s a w) (hN : Nms g names w)
    (hsz : ∀ i (hi : i < names.length), (names[i]).size ≤ 8) (hlen : names.length ≤ 8) (res : Option Nat) (b : Nat) (HR : Hid (Pl.nm s a names 0 0 = (res, b))) :
    Calls Tryz.prog 184 #[.pointer (some ⟨rb, 0, none⟩), .slice (some ⟨g, 0, none⟩) names.length names.length] w fun e w' =>
      ((∃ i, ∃ hi : i < names.length, res = some i ∧ e = .returned (.tuple #[.string (names[i]), .bool true])) ∨ (res = none ∧ e = .returned (.tuple #[.string ⟨#[]⟩, .bool false]))) ∧ Rd rb s b w' ∧ w.grownBy w' (some rb) := by
  have ha' : (a : Int) ≤ (s.size : Int) := by omega
  go_enter Tryz.func184, Tryz.ntmps184
  go_wp2
  go_loopw [6, 12] (fun lg i wr => ∃ k m : Nat, i = .int .i64 (k : Int) ∧ lg = .int .i64 (m : Int) ∧ k ≤ names.length ∧ m ≤ 8 ∧ a + m ≤ s.size ∧ Hid (Pl.nm s a (names.drop k) k m = (res, b)) ∧ Rd rb s a wr ∧ Nms g names wr ∧ w.grownBy wr (some rb)) (fun _ i _ => 10 - (intOf i).toNat)
  case atStart => exact ⟨0, 0, rfl, rfl, by omega, by omega, by omega, HR, h, hN, World.grownBy.refl _ _⟩
  case round =>
    obtain ⟨k, m, rfl, rfl, hk, hm8, ham, HL, hr, hNr, hg⟩ := hrel
    have c0 := hr.c0
    have c1 := hr.c1
    have fz := hr.fz
    by_cases hkl : k < names.length
    · have hkl' : (k : Int) < (names.length : Int) := by omega
      have hck := hNr.cells k hkl
      have hsk := hsz k hkl
      obtain ⟨nmk, hnmk⟩ : ∃ nmk, names[k] = nmk := ⟨_, rfl⟩
      rw [hnmk] at hck hsk
      have hdrop : names.drop k = nmk :: names.drop (k + 1) := by rw [← hnmk]; exact List.drop_eq_getElem_cons hkl
      have hl := HL.out
      rw [hdrop] at hl
      unfold Pl.nm at hl
      have hcom := common_any (s.extract a s.size) nmk
      have hcl := Pl.com_le s a nmk ha
      rw [com_extract s a nmk ha] at hcom
      obtain ⟨C, hC⟩ : ∃ C, Pl.com s a nmk = C := ⟨_, rfl⟩
      rw [hC] at hl hcom hcl
      have HCOM : Hid (∀ w, (s.extract a s.size).size ≤ 80 → nmk.size ≤ 80 → Calls Tryz.prog 285 #[.string (s.extract a s.size), .string nmk] w fun e w' => e = .returned (.int .i64 (C : Int)) ∧ ∃ q, w' = w.drewN q) := hcom
      have hes : (s.extract a s.size).size ≤ 80 := by simp; omega
      clear hcom hC hdrop HL
      by_cases hfull : C = nmk.size
      · rw [if_pos hfull] at hl
        simp only [Prod.mk.injEq] at hl
        obtain ⟨hres, hb⟩ := hl
        have hq : ((C : Int) == (nmk.size : Int)) = true := by simp; omega
        have HB : Hid (a + C = b) := by rw [hfull]; exact hb
        have HRES : Hid (res = some k) := hres.symm
        have HNK : Hid (names[k] = nmk) := hnmk
        clear hb hres hfull hnmk
        go_wp2_with fail
        go_quiet ((go_at_call 285; exact Calls.quiet_of ((HCOM.out _ hes (by omega)))))
        go_wp2
        go_ret2
        have e1 : ((a + C : Nat) : Int) = (a : Int) + (C : Int) := by omega
        refine ⟨.inl ⟨k, hkl, HRES.out, by rw [HNK.out]; rfl⟩, ?_, grown_trans hg (grown_trans (grown_drewN _ _ _) (grown_set _ _ _ _))⟩
        rw [← e1, ← HB.out]
        exact (hr.of_below (below_drewN (Below.refl _ _) _)).set _
      · rw [if_neg hfull] at hl
        have hq : ((C : Int) == (nmk.size : Int)) = false := by simp; omega
        have HL2 : Hid (Pl.nm s a (names.drop (k + 1)) (k + 1) (max m C) = (res, b)) := hl
        clear hl hfull hnmk
        go_wp2_with fail
        go_quiet ((go_at_call 285; exact Calls.quiet_of ((HCOM.out _ hes (by omega)))))
        go_wp2
        have e1 : ((max m C : Nat) : Int) = max (m : Int) (C : Int) := by omega
        exact ⟨⟨k + 1, max m C, by go_num, by rw [e1], by omega, by omega, by omega, HL2, hr.of_below (below_drewN (Below.refl _ _) _), hNr.of_below (below_drewN (Below.refl _ _) _), grown_trans hg (grown_drewN _ _ _)⟩, by simp [intOf]; omega⟩
    · have hl := HL.out
      rw [List.drop_of_length_le (by omega)] at hl
      simp only [Pl.nm, Prod.mk.injEq] at hl
      obtain ⟨hres, hb⟩ := hl
      have HB : Hid (a + m = b) := hb
      have HRES : Hid (res = none) := hres.symm
      clear hb hres HL
      go_wp2
      go_ret2
      have e1 : ((a + m : Nat) : Int) = (a : Int) + (m : Int) := by omega
      refine ⟨.inr ⟨HRES.out, rfl⟩, ?_, grown_trans hg (grown_set _ _ _ _)⟩
      rw [← e1, ← HB.out]
      exact hr.set _

end Go.Proofs.YtcmgclckknpecaaGreatDoor
