import Derived.Test.YtcmgclckknpecaaGreatDoorAAlx
namespace Go.Proofs.YtcmgclckknpecaaGreatDoor
open Go.RowKit

set_option maxRecDepth 100000 in
set_option maxHeartbeats 4000000 in
theorem alone_lows (s : ByteArray) (w : World) (hs : s.size ≤ 120) :
    Calls Tryz.prog 5 #[.string s, .bool true] w fun e w' => e = .returned (.bool true) ∧ Below w.heap.size w w' := by
  have hs' : ¬ (120 : Int) < (s.size : Int) := by omega
  have HAN : Hid (∀ (u : ByteArray) (W : World), u.size ≤ 120 → ∀ ts, Pl.lows 1 (Pl.wtk (Pl.cs (Pl.bt u) u.size u.size 0)) = ts → Calls Tryz.prog 13 #[.string ⟨#[119, 111, 114, 100, 115, 59, 108, 111, 119]⟩, .string u] W fun e w' => ∃ a cap g, e = .returned (.tuple #[.slice a ts.length cap, .int .i64 0, .int .i64 0]) ∧ (0 < ts.length → a = some ⟨g, 0, none⟩) ∧ (0 < ts.length → g < w'.heap.size) ∧ Tr g ts w' ∧ Below W.heap.size W w') := by
    intro u W hu ts ht
    subst ht
    refine (analyse_low 1 _ u W (by decide +kernel) (by omega) (show Pl.nm (⟨#[119, 111, 114, 100, 115, 59, 108, 111, 119]⟩ : ByteArray) 0 Pl.starts 0 0 = (some 3, 5) by decide +kernel) (.inr ⟨rfl, by decide +kernel, by decide +kernel, by decide +kernel⟩) hu _ rfl).mono ?_
    rintro e w' ⟨v, rfl, hrow, hB⟩
    obtain ⟨a, cap, g, rfl, h1, h2, h3⟩ := tr_form hrow
    exact ⟨a, cap, g, rfl, h1, h2, h3, hB⟩
  obtain ⟨ts, hts⟩ : ∃ ts, Pl.lows 1 (Pl.wtk (Pl.cs (Pl.bt s) s.size s.size 0)) = ts := ⟨_, rfl⟩
  have HTS : Hid (Pl.lows 1 (Pl.wtk (Pl.cs (Pl.bt s) s.size s.size 0)) = ts) := hts
  have hn : ts.length ≤ 300 := by
    rw [← hts, Pl.lows_map _ (by omega), List.length_map, Pl.wtk, Pl.toks_length]
    have h1 := Pl.cutS_length (n := (Pl.cs (Pl.bt s) s.size s.size 0).length) (zf := Pl.wsz (Pl.cdx (Pl.cs (Pl.bt s) s.size s.size 0)) (Pl.cs (Pl.bt s) s.size s.size 0).length) (hz := fun i h => Pl.wsz_le _ _ i h) (Pl.cs (Pl.bt s) s.size s.size 0).length 0
    have h2 := Pl.cs_length (Pl.bt s) s.size s.size 0
    unfold Pl.wps
    omega
  clear hts
  go_enter Tryz.func5, Tryz.ntmps5
  go_wp2_with fail
  refine (HAN.out s _ hs ts HTS.out).mono ?_
  rintro e w1 ⟨al, capl, gl, rfl, hal, hgl, hT, hB1⟩
  go_wp2_with fail
  go_loopw [9] (fun i wr => ∃ j : Nat, i = .int .i64 (j : Int) ∧ j ≤ ts.length ∧ Below w1.heap.size w1 wr) (fun i _ => ts.length - (intOf i).toNat)
  case atStart => exact ⟨0, rfl, by omega, Below.refl _ _⟩
  case round =>
    obtain ⟨j, rfl, hj, hB⟩ := hrel
    by_cases hjl : j < ts.length
    · obtain ⟨t, F, T, hg, hFT, hTs, hal1, hK⟩ := Pl.alone_all 1 (by omega) s ts HTS.out j hjl
      have hjI : (j : Int) < (ts.length : Int) := by omega
      obtain rfl := hal (by omega)
      have hgl' := hgl (by omega)
      have hTr := (hT.below hB hgl).c j hjl
      have HG : Hid (ts[j] = (t, j, F, T)) := Option.some.inj ((List.getElem?_eq_getElem hjl).symm.trans hg)
      rw [show ts[j] = (t, j, F, T) from HG.out] at hTr
      obtain ⟨a0, a1, a2, a3⟩ := hTr
      simp only at a0 a1 a2 a3
      have hFTI : ¬ (T : Int) ≤ (F : Int) := by omega
      have hFT2 : (F : Int) ≤ (T : Int) := by omega
      have hTs2 : (T : Int) ≤ (s.size : Int) := by omega
      have hF0 : (0 : Int) ≤ (F : Int) := by omega
      have hFT3 : F ≤ T := by omega
      have hTsI : ¬ (s.size : Int) < (T : Int) := by omega
      have HA1 : Hid (Pl.lows 1 (Pl.wtk (Pl.cs (Pl.bt (s.extract F T)) (s.extract F T).size (s.extract F T).size 0)) = [(t, 0, 0, T - F)]) := hal1
      clear hal1 hK hg
      have hes : (s.extract F T).size ≤ 120 := by simp; omega
      have hsz1 := hB.size
      have hT1 := hT.c j hjl
      rw [show ts[j] = (t, j, F, T) from HG.out] at hT1
      obtain ⟨b0, b1, b2, b3⟩ := hT1
      simp only at b0 b1 b2 b3
      go_wp2_with fail
      go_quiet (fail)
      go_wp2_with fail
      go_region_held3 (fun w' => w'.cell? ⟨gl, j * 4 + 2, none⟩ = some (.int .i64 (F : Int)) ∧ w'.cell? ⟨gl, j * 4 + 3, none⟩ = some (.int .i64 (T : Int))) (go_keep) ((go_at_call 13; refine (HAN.out (s.extract F T) _ hes _ HA1.out).mono ?_; rintro e w2 ⟨am, capm, gm, rfl, ham, hgm, hTm, hB2⟩; have hB3 : Below w1.heap.size w1 w2 := ((below_drewN hB nq).drew).trans (hB2.mono (by simpa using hsz1)); have k0 := (hB3.cell (p := ⟨gl, j * 4, none⟩) hgl').trans b0; have k2 := (hB3.cell (p := ⟨gl, j * 4 + 2, none⟩) hgl').trans b2; have k3 := (hB3.cell (p := ⟨gl, j * 4 + 3, none⟩) hgl').trans b3))
      obtain ⟨m0, m1, m2, m3⟩ := hTm.c 0 (by simp)
      simp only [List.getElem_cons_zero, Nat.zero_mul, Nat.zero_add] at m0 m1 m2 m3
      obtain rfl := ham (by simp)
      clear hTm hB2 ham a0 a1 a2 a3
      go_wp2_with fail
      go_quiet ((go_at_call 16; exact Calls.quiet_of (num_q _ _)))
      go_wp2_with fail
      go_quiet (fail)
      go_wp2_with fail
      exact ⟨⟨j + 1, by go_num, by omega, below_drewN hB3 _⟩, by simp [intOf]; omega⟩
    · have hjI : ¬ (j : Int) < (ts.length : Int) := by omega
      go_wp2_with fail
      refine (HAN.out ⟨#[97]⟩ _ (by decide +kernel) _ (Pl.alone_a 1 (by omega))).mono ?_
      rintro e w2 ⟨am, capm, gm, rfl, ham, hgm, hTm, hB2⟩
      obtain ⟨m0, m1, m2, m3⟩ := hTm.c 0 (by simp)
      simp only [List.getElem_cons_zero, Nat.zero_mul, Nat.zero_add] at m0 m1 m2 m3
      obtain rfl := ham (by simp)
      have hfin : Below w.heap.size w w2 := hB1.trans ((hB.mono hB1.size).trans (hB2.mono (by have := hB1.size; have := hB.size; omega)))
      clear hTm hB2 ham HAN
      go_wp2_with (go_at_call 16; refine (num_any _ _).mono ?_; rintro e w' ⟨rfl, hw⟩; rw [hw]; clear hw w')
      go_ret
      exact ⟨rfl, hfin⟩


end Go.Proofs.YtcmgclckknpecaaGreatDoor
