/- The law on borders: its walk. -/
import Derived.Test.YtcmgclckknpecaaGreatDoorBdp
import Derived.Deep.RegionHeld3
namespace Go.Proofs.YtcmgclckknpecaaGreatDoor
open Go.RowKit Go.Shelf

theorem words_two : ∀ t ∈ Pl.chC (⟨#[119, 111, 114, 100, 115]⟩ : ByteArray) ((⟨#[119, 111, 114, 100, 115]⟩ : ByteArray).size + 1) false 0, (Pl.takeP [] t [] (Pl.cs (Pl.bt (⟨#[97, 32, 98]⟩ : ByteArray)) (⟨#[97, 32, 98]⟩ : ByteArray).size (⟨#[97, 32, 98]⟩ : ByteArray).size 0)).map List.length = some 2 := by decide +kernel
theorem words_ab (w : World) (HEN : Hid (Ends w)) :
    Calls Tryz.prog 13 #[.string ⟨#[119, 111, 114, 100, 115]⟩, .string ⟨#[97, 32, 98]⟩] w fun e w' => ∃ a cap, e = .returned (.tuple #[.slice a 2 cap, .int .i64 0, .int .i64 0]) ∧ Below w.heap.size w w' := by
  refine (analyse_any _ _ w (by decide +kernel) (by decide +kernel) _ rfl 0 0 (show verdict (Pl.chn (⟨#[119, 111, 114, 100, 115]⟩ : ByteArray) _ false 0 0) = (0, 0) by decide +kernel) _ rfl _ rfl HEN).mono ?_
  rintro e w' ⟨hA, hB⟩
  rcases hA.ex with ⟨h, _⟩ | ⟨_, es, cu, ls, hT, _, _, _, _, _, h⟩
  · exact absurd rfl h
  · have hl : (Pl.chC (⟨#[119, 111, 114, 100, 115]⟩ : ByteArray) ((⟨#[119, 111, 114, 100, 115]⟩ : ByteArray).size + 1) false 0).length = 1 := by decide +kernel
    have hl2 := congrArg List.length hT
    rw [hl] at hl2
    simp only [List.length_append, List.length_cons] at hl2
    obtain rfl : es = [] := List.length_eq_zero_iff.1 (by omega)
    obtain rfl : ls = [] := List.length_eq_zero_iff.1 (by omega)
    have hk := words_two cu (by rw [hT]; simp)
    rcases h with ⟨ts, v, hts, rfl, hr⟩ | ⟨hts, _⟩
    · rw [hts] at hk
      have h2 : ts.length = 2 := by simpa using hk
      rw [h2] at hr
      obtain ⟨a, cap, rfl, _⟩ := row_form hr
      exact ⟨a, cap, rfl, hB⟩
    · rw [hts] at hk
      cases hk

set_option maxRecDepth 100000 in
set_option maxHeartbeats 2000000 in
theorem bounds_long (c s : ByteArray) (w : World) (HEN : Hid (Ends w)) (hs : 120 < s.size) :
    Calls Tryz.prog 4 #[.string c, .string s] w fun e w' => e = .returned (.bool true) ∧ Below w.heap.size w w' := by
  have hs' : (120 : Int) < (s.size : Int) := by omega
  go_enter Tryz.func4, Tryz.ntmps4
  go_wp2_with fail
  refine (words_ab _ HEN).mono ?_
  rintro e w1 ⟨a1, cap1, rfl, hB1⟩
  go_wp2_with (go_at_call 16; refine (num_any _ _).mono ?_; rintro e w' ⟨rfl, hw⟩; rw [hw]; clear hw w')
  refine (split_long s _ hs).mono ?_
  rintro e w2 ⟨rfl, hw2⟩
  subst hw2
  go_wp2_with (go_at_call 16; refine (num_any _ _).mono ?_; rintro e w' ⟨rfl, hw⟩; rw [hw]; clear hw w')
  go_ret
  exact ⟨rfl, hB1⟩

set_option maxRecDepth 100000 in
set_option maxHeartbeats 4000000 in
theorem bounds_short (c s : ByteArray) (w : World) (HEN : Hid (Ends w)) (hs : s.size ≤ 120) :
    Calls Tryz.prog 4 #[.string c, .string s] w fun e w' => e = .returned (.bool true) ∧ Below w.heap.size w w' := by
  have hs' : ¬ (120 : Int) < (s.size : Int) := by omega
  obtain ⟨xs, hxs⟩ : ∃ xs, Pl.cs (Pl.bt s) s.size s.size 0 = xs := ⟨_, rfl⟩
  have HCS : Hid (Pl.cs (Pl.bt s) s.size s.size 0 = xs) := hxs
  have hlen : xs.length ≤ 120 := by have := Pl.cs_length (Pl.bt s) s.size s.size 0; rw [hxs] at this; omega
  have HEND : Hid (Pl.atc 0 xs xs.length = s.size) := by
    have := Pl.cs_end (Pl.bt s) s.size s.size 0 (by omega) (by omega)
    rw [hxs] at this
    exact this
  clear hxs
  go_enter Tryz.func4, Tryz.ntmps4
  go_wp2_with fail
  refine (words_ab _ HEN).mono ?_
  rintro e w1 ⟨a1, cap1, rfl, hB1⟩
  go_wp2_with (go_at_call 16; refine (num_any _ _).mono ?_; rintro e w' ⟨rfl, hw⟩; rw [hw]; clear hw w')
  refine (split_any s _ hs xs HCS).mono ?_
  rintro e w2 ⟨vc, rfl, hrc, hB2⟩
  obtain ⟨a2, cap2, g2, hv2, hcap2, ha2, hg2, hC2⟩ := cr_form hrc
  subst hv2
  have HC2 : Hid (Cr g2 0 xs w2) := hC2
  clear hC2 hrc
  go_wp2_with fail
  go_loopw [11, 10] (fun i at_ wr => ∃ j : Nat, i = .int .i64 (j : Int) ∧ at_ = .int .i64 (Pl.atc 0 xs j : Int) ∧ j ≤ xs.length ∧ Below w2.heap.size w2 wr) (fun i _ _ => xs.length - (intOf i).toNat)
  case atStart => exact ⟨0, rfl, rfl, by omega, Below.refl _ _⟩
  case round =>
    obtain ⟨j, rfl, rfl, hj, hB3⟩ := hrel
    obtain ⟨A, hA⟩ : ∃ A, Pl.atc 0 xs j = A := ⟨_, rfl⟩
    rw [hA]
    by_cases hjl : j < xs.length
    · have hjI : (j : Int) < (xs.length : Int) := by omega
      obtain ⟨k1, k2, k3, k4, k5, k6⟩ := Pl.cs_law s xs HCS.out j hjl
      rw [hA] at k1
      rw [(Pl.frx_get hjl).1] at k1 k3 k4 k6
      rw [(Pl.frx_get hjl).2] at k2 k3 k4
      rw [Pl.cdx_eq hjl] at k5
      obtain rfl := ha2 (by omega)
      have hg := hg2 (by omega)
      obtain ⟨c0, c1, c2⟩ := (HC2.out.below hB3 hg2).c j hjl
      obtain ⟨C, F, T, hx⟩ : ∃ C F T, xs[j] = (C, F, T) := ⟨_, _, _, rfl⟩
      rw [hx] at k1 k2 k3 k4 k5 k6 c0 c1 c2
      simp only [Nat.zero_add] at k1 k2 k3 k4 k5 k6 c0 c1 c2
      have HT : Hid (T = Pl.atc 0 xs (j + 1)) := k2
      subst k1
      clear k2 hx hA
      have i1 : ¬ (T : Int) ≤ (F : Int) := by omega
      have i2 : ¬ (F : Int) + 4 < (T : Int) := by omega
      have i5 : wrap64 ((F : Int) + 4) = (F : Int) + 4 := by unfold wrap64; omega
      have i3 : ¬ (C : Int) < 0 := by omega
      have i4 : ¬ (1114111 : Int) < (C : Int) := by omega
      go_wp2_with fail
      exact ⟨⟨j + 1, by go_num, by rw [HT.out], by omega, hB3⟩, by simp [intOf]; omega⟩
    · have hjI : ¬ (j : Int) < (xs.length : Int) := by omega
      have hAs : A = s.size := by
        rw [← hA, ← HEND.out, show j = xs.length by omega]
      subst hAs
      clear hA
      obtain ⟨cd, at_, hcd⟩ : ∃ cd at_, ansOf c = (cd, at_) := ⟨_, _, rfl⟩
      have HANS : Hid (ansOf c = (cd, at_)) := hcd
      have hBx : Below w.heap.size w wr := hB1.trans ((hB2.trans (hB3.mono hB2.size)).mono hB1.size)
      have HEN2 : Hid (Ends wr) := HEN.out.below hBx
      clear hcd
      go_wp2_with (go_at_call 16; refine (num_any _ _).mono ?_; rintro e w' ⟨rfl, hw⟩; rw [hw]; clear hw w')
      refine (analyse_b c s _ hs cd at_ HANS xs HCS HEN2).mono ?_
      rintro e w3 ⟨⟨vt, f, kk, ts, rfl, hrt, hf0, hfc, hf10, h300, K, hTI⟩, hB4⟩
      have HTI : Hid (Pl.TkI (Pl.bdr xs) K ts) := hTI
      obtain ⟨a4, cap4, g4, hv4, ha4, hg4, hT4⟩ := tr_form (xs := ts.map Pl.tkC) (by rw [List.length_map]; exact hrt)
      subst hv4
      have hlm : (ts.map Pl.tkC).length = ts.length := List.length_map _
      rw [hlm] at ha4 hg4
      rw [hlm]
      have HT4 : Hid (Tr g4 (ts.map Pl.tkC) w3) := hT4
      have HC3 : Hid (Cr g2 0 xs w3) := (HC2.out.below hB3 hg2).below hB4 (fun h => by have := hg2 h; have := hB3.size; omega)
      clear hTI hT4 hrt hlm
      go_wp2_with fail
      go_loopw [16, 15] (fun i la wr => ∃ j : Nat, i = .int .i64 (j : Int) ∧ la = .int .i64 (Pl.lastP ts j : Int) ∧ j ≤ ts.length ∧ Below w3.heap.size w3 wr) (fun i _ _ => ts.length - (intOf i).toNat)
      case atStart => exact ⟨0, rfl, rfl, by omega, Below.refl _ _⟩
      case round =>
        obtain ⟨j, rfl, rfl, hj, hBl⟩ := hrel
        by_cases hjl : j < ts.length
        · have hjI : (j : Int) < (ts.length : Int) := by omega
          obtain ⟨k1, k2, k3, k4, k5, k6⟩ := Pl.tok_law HTI.out j hjl
          obtain rfl := ha4 (by omega)
          have hg := hg4 (by omega)
          obtain ⟨c0, c1, c2, c3⟩ := (HT4.out.below hBl (fun _ => hg)).c j (by simpa using hjl)
          have HC5 : Hid (Cr g2 0 xs wr) := HC3.out.below hBl (fun h => by have := hg2 h; have := hB3.size; have := hB4.size; omega)
          rw [List.getElem_map] at c0 c1 c2 c3
          obtain ⟨C, P, F, T, hx⟩ : ∃ C P F T, ts[j] = (C, P, F, T) := ⟨_, _, _, _, rfl⟩
          rw [hx] at k1 k2 k3 k4 k5 k6 c0 c1 c2 c3
          simp only [Pl.tkC] at k1 k2 k3 k4 k5 k6 c0 c1 c2 c3
          obtain ⟨L, hL⟩ : ∃ L, Pl.lastP ts j = L := ⟨_, rfl⟩
          rw [hL] at k4
          rw [hL]
          obtain ⟨E, hE⟩ : ∃ E, Pl.en C = E := ⟨_, rfl⟩
          rw [hE] at k5 c0
          have HT : Hid (Pl.lastP ts (j + 1) = P) := k6
          have HF : Hid (Pl.bdr xs F) := k1
          have HTT : Hid (Pl.bdr xs T) := k2
          clear k1 k2 k6 hx hL hE
          have i1 : ¬ (T : Int) ≤ (F : Int) := by omega
          have i2 : ¬ (P : Int) < (L : Int) := by omega
          have i3 : ¬ (E.size : Int) = 0 := by omega
          go_wp2_with fail
          refine (border_ok g2 cap2 xs a2 _ HC5.out ha2 F HF hlen).mono ?_
          rintro e w5 ⟨rfl, hw5⟩
          subst hw5
          go_wp2_with fail
          refine (border_ok g2 cap2 xs a2 _ HC5.out ha2 T HTT hlen).mono ?_
          rintro e w5 ⟨rfl, hw5⟩
          subst hw5
          go_wp2_with fail
          go_quiet (fail)
          go_wp2_with fail
          · exfalso
            rename_i hno
            rcases hno with (h | h) | h
            · omega
            · omega
            · have : (E.size : Int) = 0 := by simpa using h
              omega
          exact ⟨⟨j + 1, by go_num, by rw [HT.out], by omega, below_drewN hBl _⟩, by simp [intOf]; omega⟩
        · have hjI : ¬ (j : Int) < (ts.length : Int) := by omega
          go_wp2_with fail
          refine (refcheck_any c _ cd at_ HANS).mono ?_
          rintro e w5 ⟨rfl, hB5⟩
          have hfin : Below w.heap.size w w5 := hBx.trans ((hB4.trans ((hBl.trans (hB5.mono hBl.size)).mono hB4.size)).mono hBx.size)
          by_cases hf : f = 0
          · subst hf
            obtain rfl : cd = 0 := by
              by_cases h : cd = 0
              · exact h
              · exact (hfc h).symm
            go_wp2_with (go_at_call 16; refine (num_any _ _).mono ?_; rintro e w' ⟨rfl, hw⟩; rw [hw]; clear hw w')
            go_ret
            exact ⟨rfl, hfin⟩
          · have hts : ts = [] := hf0.resolve_left hf
            have hfI : ¬ (f : Int) = 0 := by omega
            subst hts
            by_cases hc : cd = 0
            · subst hc
              go_wp2_with (go_at_call 16; refine (num_any _ _).mono ?_; rintro e w' ⟨rfl, hw⟩; rw [hw]; clear hw w')
              go_ret
              exact ⟨rfl, hfin⟩
            · obtain rfl := hfc hc
              go_wp2_with (go_at_call 16; refine (num_any _ _).mono ?_; rintro e w' ⟨rfl, hw⟩; rw [hw]; clear hw w')
              go_ret
              exact ⟨rfl, hfin⟩

theorem bdw_any (c s : ByteArray) (w : World) (hE : Ends w) :
    Calls Tryz.prog 4 #[.string c, .string s] w fun e w' => e = .returned (.bool true) ∧ Below w.heap.size w w' := by
  by_cases hs : s.size ≤ 120
  · exact bounds_short c s w hE hs
  · exact bounds_long c s w hE (by omega)

end Go.Proofs.YtcmgclckknpecaaGreatDoor
