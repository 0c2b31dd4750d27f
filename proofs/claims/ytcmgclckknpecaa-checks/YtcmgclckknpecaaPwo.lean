import Derived.Test.YtcmgclckknpecaaNam
import Derived.Test.YtcmgclckknpecaaPli
import Derived.Test.YtcmgclckknpecaaOne
namespace Go.Proofs.Ytcmgclckknpecaa
open Go.RowKit

theorem Nms.grown {g : Nat} {names : List ByteArray} {w w' : World} {row : Option Nat} (h : Nms g names w) (hg : w.grownBy w' row) (hne : row ≠ some g) : Nms g names w' :=
  ⟨fun i hi => (hg.cell_far ⟨g, i, none⟩ h.lt (Ne.symm hne)).trans (h.cells i hi), Nat.lt_of_lt_of_le h.lt hg.size⟩

set_option maxHeartbeats 2000000 in
theorem pword_any (pb g : Nat) (s : ByteArray) (a : Nat) (names : List ByteArray) (l : Value) (w : World) (hm : s.size ≤ 80) (ha : a ≤ s.size) (h : Pn pb s a (-1) l w) (hN : Nms g names w)
    (hsz : ∀ i (hi : i < names.length), (names[i]).size ≤ 8) (hlen : names.length ≤ 8) (hpos : 0 < names.length)
    (hU : ∀ i (hi : i < names.length) j (hj : j < names.length), Pl.Full s a (names[i]) → Pl.Full s a (names[j]) → i = j) (res : Option Nat) (b : Nat) (HR : Hid (Pl.nm s a names 0 0 = (res, b))) :
    Calls Try.prog 22 #[.pointer (some ⟨pb, 0, none⟩), .slice (some ⟨g, 0, none⟩) names.length names.length] w fun e w' =>
      ((∃ i, i < names.length ∧ res = some i ∧ e = .returned (.int .i64 (i : Int)) ∧ Pn pb s b (-1) l w') ∨ (res = none ∧ e = .returned (.int .i64 (-1)) ∧ Pn pb s b (b : Int) l w')) ∧ w.grownBy w' (some pb) := by
  have HU : Hid (∀ i (hi : i < names.length) j (hj : j < names.length), Pl.Full s a (names[i]) → Pl.Full s a (names[j]) → i = j) := hU
  have HSZ : Hid (∀ i (hi : i < names.length), (names[i]).size ≤ 8) := hsz
  clear hU hsz
  have c1 := h.c1
  have c2 := h.c2
  go_enter Try.func22, Try.ntmps22
  go_wp2
  clear c1 c2
  go_loopw [5, 6, 7] (fun k _ _ wr => ∃ d : Nat, k = .int .i64 ((a + d : Nat) : Int) ∧ a + d ≤ s.size ∧ Pn pb s a (-1) l wr ∧ Nms g names wr ∧ w.grownBy wr (some pb) ∧
    Hid ((∀ i (hi : i < names.length), Pl.Full s a (names[i]) → d ≤ (names[i]).size) ∧ (d = 0 ∨ ∃ i, ∃ hi : i < names.length, d ≤ Pl.com s a (names[i]) + 1))) (fun k _ _ _ => 200 - (intOf k).toNat)
  case atStart => exact ⟨0, rfl, by omega, h, hN, World.grownBy.refl _ _, ⟨fun _ _ _ => Nat.zero_le _, .inl rfl⟩⟩
  case round =>
    obtain ⟨d, rfl, hds, hp, hn, hg, HI⟩ := hrel
    obtain ⟨k, hk⟩ : ∃ k, a + d = k := ⟨_, rfl⟩
    rw [hk] at hds ⊢
    have HK : Hid (a + d = k) := hk
    have hak : a ≤ k := by omega
    have hkd : k - a = d := by omega
    have HKD : Hid (k - a = d) := hkd
    clear hk hkd
    go_wp2
    go_loopw [6, 7] (fun sm i wr2 => ∃ (sv : Bool) (j : Nat), sm = .bool sv ∧ i = .int .i64 (j : Int) ∧ j ≤ names.length ∧ Pn pb s a (-1) l wr2 ∧ Nms g names wr2 ∧ w.grownBy wr2 (some pb) ∧
      Hid ((sv = true ↔ ∃ i, ∃ hi : i < names.length, i < j ∧ d ≤ Pl.com s a (names[i])) ∧ (∀ i (hi : i < names.length), i < j → Pl.Full s a (names[i]) → (names[i]).size ≠ d))) (fun _ i _ => 10 - (intOf i).toNat)
    case atStart => exact ⟨false, 0, rfl, rfl, by omega, hp, hn, hg, ⟨by simp, fun _ _ h => by omega⟩⟩
    case round =>
      obtain ⟨sv, j, rfl, rfl, hj, hp2, hn2, hg2, HJ⟩ := hrel
      have c0 := hp2.c0
      have c1 := hp2.c1
      have c2 := hp2.c2
      have fz := hp2.fz
      by_cases hjl : j < names.length
      · have hjl' : (j : Int) < (names.length : Int) := by omega
        have hcj := hn2.cells j hjl
        obtain ⟨y, hy⟩ : ∃ y, names[j] = y := ⟨_, rfl⟩
        have hys := HSZ.out j hjl
        rw [hy] at hcj hys
        have hbg := fun w => begins_any s y a k w hm hys hak hds
        rw [HKD.out] at hbg
        obtain ⟨C, hC⟩ : ∃ C, Pl.com s a y = C := ⟨_, rfl⟩
        rw [hC] at hbg
        have HY : Hid (names[j] = y) := hy
        have HC : Hid (Pl.com s a y = C) := hC
        clear hy hC
        by_cases hdC : d ≤ C
        · rw [decide_eq_true hdC] at hbg
          have HBG : Hid (∀ w, Calls Try.prog 33 #[.string y, .string s, .int .i64 (a : Int), .int .i64 (k : Int)] w fun e w' => e = .returned (.bool true) ∧ ∃ q, w' = w.drewN q) := hbg
          clear hbg
          have hwk : IntKind.i64.wrap ((k : Int) - (a : Int)) = (d : Int) := by have := HK.out; rw [IntKind.wrap_i64]; omega
          by_cases hfd : y.size = d
          · have hq : ((y.size : Int) == (d : Int)) = true := by simp; omega
            have HRES : Hid (res = some j ∧ b = k) := by
              have hfull : Pl.Full s a (names[j]) := by
                show Pl.com s a (names[j]) = _
                have hcl := (Pl.com_le s a y ha).1
                rw [HC.out] at hcl
                rw [HY.out, HC.out]; omega
              have hnm := Pl.nm_some s a names 0 0 j hjl hfull (fun i hi hfi => HU.out i hi j hjl hfi hfull)
              rw [HR.out, HY.out, hfd, HK.out] at hnm
              simp only [Prod.mk.injEq, Nat.zero_add] at hnm
              exact hnm
            clear hfd
            go_wp2_with fail
            go_quiet ((go_at_call 33; exact Calls.quiet_of (HBG.out _)))
            go_wp2
            go_quiet (fail)
            go_wp2
            go_ret
            refine ⟨.inl ⟨j, hjl, HRES.out.1, rfl, ?_⟩, grown_trans hg2 (grown_trans (grown_drewN _ _ _) (grown_set _ _ _ _))⟩
            rw [HRES.out.2]; exact (hp2.drewN _).set1 k
          · have hq : ((y.size : Int) == (d : Int)) = false := by simp; omega
            go_wp2_with fail
            go_quiet ((go_at_call 33; exact Calls.quiet_of (HBG.out _)))
            go_wp2
            go_quiet (fail)
            go_wp2
            refine ⟨⟨true, j + 1, rfl, by go_num, by omega, hp2.drewN _, hn2.of_below (below_drewN (Below.refl _ _) _), grown_trans hg2 (grown_drewN _ _ _), ⟨⟨fun _ => ⟨j, hjl, by omega, by rw [HY.out, HC.out]; exact hdC⟩, fun _ => rfl⟩, fun i hi hij hf => ?_⟩⟩, by simp [intOf]; omega⟩
            by_cases hij2 : i < j
            · exact HJ.out.2 i hi hij2 hf
            · obtain rfl : i = j := by omega
              rw [HY.out]; exact hfd
        · rw [decide_eq_false hdC] at hbg
          have HBG : Hid (∀ w, Calls Try.prog 33 #[.string y, .string s, .int .i64 (a : Int), .int .i64 (k : Int)] w fun e w' => e = .returned (.bool false) ∧ ∃ q, w' = w.drewN q) := hbg
          clear hbg
          go_wp2_with fail
          go_quiet ((go_at_call 33; exact Calls.quiet_of (HBG.out _)))
          go_wp2
          refine ⟨⟨sv, j + 1, rfl, by go_num, by omega, hp2.drewN _, hn2.of_below (below_drewN (Below.refl _ _) _), grown_trans hg2 (grown_drewN _ _ _), ⟨?_, fun i hi hij hf => ?_⟩⟩, by simp [intOf]; omega⟩
          · rw [HJ.out.1]
            refine ⟨fun ⟨i, hi, h1, h2⟩ => ⟨i, hi, by omega, h2⟩, fun ⟨i, hi, h1, h2⟩ => ⟨i, hi, ?_, h2⟩⟩
            by_cases hij2 : i < j
            · exact hij2
            · obtain rfl : i = j := by omega
              rw [HY.out, HC.out] at h2; exact absurd h2 hdC
          · by_cases hij2 : i < j
            · exact HJ.out.2 i hi hij2 hf
            · obtain rfl : i = j := by omega
              intro hs
              have hf' : Pl.com s a (names[i]) = (names[i]).size := hf
              rw [HY.out] at hf' hs
              rw [HC.out] at hf'
              omega
      · obtain ⟨hI1, hI2⟩ := HI.out
        obtain ⟨hJ1, hJ2⟩ := HJ.out
        have hKo := HK.out
        cases sv with
        | false =>
          have hno : ∀ i (hi : i < names.length), Pl.com s a (names[i]) < d := fun i hi => by
            rcases Nat.lt_or_ge (Pl.com s a (names[i])) d with h' | h'
            · exact h'
            · exact absurd (hJ1.2 ⟨i, hi, by omega, h'⟩) (by simp)
          have hd1 : 1 ≤ d := by have := hno 0 hpos; omega
          have HRES : Hid (res = none ∧ b = k - 1) := by
            have hnm := Pl.nm_none s a names 0 0 (d - 1) (fun x hx hf => by
                obtain ⟨i, hi, rfl⟩ := List.getElem_of_mem hx
                have := hno i hi; have h2 := hI1 i hi hf; have h3 : Pl.com s a (names[i]) = _ := hf; omega) (by omega)
              (fun x hx => by obtain ⟨i, hi, rfl⟩ := List.getElem_of_mem hx; have := hno i hi; omega)
              (by rcases hI2 with h' | ⟨i, hi, h'⟩
                  · omega
                  · exact .inr ⟨_, List.getElem_mem hi, by have := hno i hi; omega⟩)
            rw [HR.out] at hnm
            simp only [Prod.mk.injEq] at hnm
            exact ⟨hnm.1, by omega⟩
          have hk1 : 1 ≤ k := by omega
          clear hno hI1 hI2 hJ1 hJ2 hKo
          go_wp2_with fail
          have e1 : ((k - 1 : Nat) : Int) = (k : Int) - 1 := by omega
          have hp3 : Pn pb s (k - 1) (-1) l (wr.setCell ⟨pb, 1, none⟩ (.int .i64 ((k : Int) - 1))) := by rw [← e1]; exact hp2.set1 _
          refine (fail_new pb s (k - 1) l _ hp3).mono ?_
          rintro e w4 ⟨rfl, hp4, hg4⟩
          go_wp2
          go_ret
          refine ⟨.inr ⟨HRES.out.1, rfl, ?_⟩, grown_trans hg2 (grown_trans (grown_set _ _ _ _) hg4)⟩
          rw [HRES.out.2]; exact hp4
        | true =>
          obtain ⟨ix, hix, _, hdx⟩ := hJ1.1 rfl
          by_cases hend : k = s.size
          · have hq : ((k : Int) == (s.size : Int)) = true := by simp; omega
            have HRES : Hid (res = none ∧ b = k) := by
              have hle : ∀ i (hi : i < names.length), Pl.com s a (names[i]) ≤ d := fun i hi => by have := (Pl.com_le s a (names[i]) ha).2; omega
              have hnm := Pl.nm_none s a names 0 0 d (fun x hx hf => by
                  obtain ⟨i, hi, rfl⟩ := List.getElem_of_mem hx
                  have h1 := hle i hi; have h2 := hI1 i hi hf; have h3 : Pl.com s a (names[i]) = _ := hf
                  exact hJ2 i hi (by omega) hf (by omega)) (by omega)
                (fun x hx => by obtain ⟨i, hi, rfl⟩ := List.getElem_of_mem hx; exact hle i hi)
                (.inr ⟨_, List.getElem_mem hix, by have := hle ix hix; omega⟩)
              rw [HR.out] at hnm
              simp only [Prod.mk.injEq] at hnm
              exact ⟨hnm.1, by omega⟩
            clear hI1 hI2 hJ1 hJ2 hKo hdx hend
            go_wp2_with fail
            refine (fail_new pb s k l _ (hp2.set1 k)).mono ?_
            rintro e w4 ⟨rfl, hp4, hg4⟩
            go_wp2
            go_ret
            refine ⟨.inr ⟨HRES.out.1, rfl, ?_⟩, grown_trans hg2 (grown_trans (grown_set _ _ _ _) hg4)⟩
            rw [HRES.out.2]; exact hp4
          · have hq : ((k : Int) == (s.size : Int)) = false := by simp; omega
            have HN : Hid ((∀ i (hi : i < names.length), Pl.Full s a (names[i]) → d + 1 ≤ (names[i]).size) ∧ (d + 1 = 0 ∨ ∃ i, ∃ hi : i < names.length, d + 1 ≤ Pl.com s a (names[i]) + 1)) :=
              ⟨fun i hi hf => by have h1 := hI1 i hi hf; have h2 := hJ2 i hi (by omega) hf; omega, .inr ⟨ix, hix, by omega⟩⟩
            have hk3 : k < s.size := by omega
            have HKO : Hid (a + (d + 1) = k + 1) := by show _ = _; omega
            clear hI1 hI2 hJ1 hJ2 hKo hdx hend
            go_wp2
            refine ⟨⟨d + 1, by rw [HKO.out]; go_num, by have := HKO.out; omega, hp2, hn2, hg2, HN⟩, by simp [intOf]; omega⟩

end Go.Proofs.Ytcmgclckknpecaa
