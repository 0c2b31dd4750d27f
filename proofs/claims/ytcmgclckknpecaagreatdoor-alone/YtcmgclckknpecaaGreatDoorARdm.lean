import Derived.Test.YtcmgclckknpecaaGreatDoorARdl
namespace Go.Proofs.YtcmgclckknpecaaGreatDoor
open Go.RowKit

theorem pair_one {s : ByteArray} {a b : Nat} (ha : a ≤ s.size) (h : Pl.pairP s a = (true, b)) : a < b := by
  unfold Pl.pairP Pl.thenP at h
  by_cases h1 : (Pl.word s a).1 = true
  · rw [if_pos h1] at h
    dsimp only at h
    have hw := word_one (s := s) (a := a) (b := (Pl.word s a).2) (by rw [← h1])
    have hf := Pl.word_fits s a ha
    have h2 := Pl.thenP_fits (r := Pl.sign s 61 (Pl.word s a).2) (Pl.sign_fits s 61 _ hf.2) (Pl.word_fits s)
    unfold Pl.thenP at h2
    rw [h] at h2
    simp only at h2
    omega
  · rw [if_neg h1] at h; simp at h

set_option maxHeartbeats 1000000 in
theorem prow_any (rb : Nat) (s : ByteArray) (a : Nat) (w : World) (hm : s.size ≤ 80) (ha : a ≤ s.size) (h : Rd rb s a w) (R : Bool × Nat) (HR : Hid (Pl.rowP s (Pl.pairP s) (s.size + 1) a = R)) :
    Calls Tryz.prog 286 #[.pointer (some ⟨rb, 0, none⟩), .int .u8 44, .func (.func 186) #[.pointer (some ⟨rb, 0, none⟩)] #[]] w fun e w' => ∃ p n c, e = .returned (.tuple #[.slice p n c, .bool R.1]) ∧ Rd rb s R.2 w' ∧ w.grownBy w' (some rb) := by
  obtain ⟨o, d⟩ := R
  obtain ⟨i0, hi, hz0, hz1, hz2⟩ := info_parts info95
  have hrb := h.lt
  go_enter Tryz.func286, Tryz.ntmps286
  go_wp2
  go_loopw [8, 9, 10] (fun l _ _ wr => ∃ (b m n : Nat) (xs : List Value), b ≤ s.size ∧ s.size < b + m ∧ Hid (Pl.rowP s (Pl.pairP s) m b = (o, d)) ∧ n ≤ b ∧ wr.ownsRow w.heap.size 357 2 l n (xs : List Value) ∧ Rd rb s b wr ∧ w.grownBy wr (some rb)) (fun _ _ _ wr => 200 - plc rb wr)
  case atStart => exact ⟨a, s.size + 1, 0, [], ha, by omega, HR, by omega, World.ownsRow_nil _ _ _ _, h, World.grownBy.refl _ _⟩
  case round =>
    obtain ⟨b, m, n, xs, hb, hbm, HL, hxl, hrow, hr, hg⟩ := hrel
    obtain ⟨m, rfl⟩ : ∃ m', m = m' + 1 := ⟨m - 1, by omega⟩
    have hwf := Pl.pair_fits s b hb
    have hwd := fun w1 h => pair_any rb s b w1 hm hb h
    obtain ⟨⟨o1, c⟩, hw⟩ : ∃ r, Pl.pairP s b = r := ⟨_, rfl⟩
    rw [hw] at hwf hwd
    have HWD : Hid (∀ w1, Rd rb s b w1 → Calls Tryz.prog 186 #[.pointer (some ⟨rb, 0, none⟩)] w1 fun e w' => ∃ t u, e = .returned (.tuple #[.agg #[.string t, .string u], .bool o1]) ∧ Rd rb s c w' ∧ w1.grownBy w' (some rb)) := hwd
    clear hwd
    have hl := HL.out
    unfold Pl.rowP at hl
    rw [hw] at hl
    cases o1 with
    | false =>
      simp only [Pl.thenP, Bool.false_eq_true, if_false, Prod.mk.injEq] at hl
      obtain ⟨rfl, rfl⟩ := hl
      clear hw
      go_wp2_with fail
      refine (HWD.out _ hr).mono ?_
      rintro e w1 ⟨t, u, rfl, hr1, hg1⟩
      go_wp2
      go_ret2
      exact ⟨_, _, _, rfl, hr1.of_below ((Below.refl _ w1).alloc (Nat.le_refl _) _), grown_alloc (grown_trans hg hg1) _⟩
    | true =>
      have hbc := pair_one hb hw
      have hsg := fun w1 h => sign_at rb s c 44 44 rfl w1 hm hwf.2 h
      have hsz := hg.size
      simp only [Pl.thenP, if_true] at hl
      clear hw HL
      by_cases h44 : Pl.byteIn s 44 44 c = true
      · rw [if_pos h44] at hl
        have hc44 := (Pl.byteIn_lt h44).1
        simp only [Pl.sign, h44, if_true] at hsg
        have HSG : Hid (∀ w1, Rd rb s c w1 → Calls Tryz.prog 124 #[.pointer (some ⟨rb, 0, none⟩), .int .u8 44] w1 fun e w' => e = .returned (.bool true) ∧ Rd rb s (c + 1) w' ∧ w1.grownBy w' (some rb)) := hsg
        have HL2 : Hid (Pl.rowP s (Pl.pairP s) m (c + 1) = (o, d)) := hl
        clear hsg hl h44
        go_wp2_with fail
        refine (HWD.out _ hr).mono ?_
        rintro e w1 ⟨t, u, rfl, hr1, hg1⟩
        have hrow1 := ownsRow_grown hrow hg1 hrb
        have hs1 := hg1.size
        have HNB : Hid (∀ C, ((w1.alloc C).alloc (.cells #[.string t, .string u] 357)).heap[w1.heap.size + 1]? = some (.cells #[.string t, .string u] 357 (0, 0))) := fun C => by
          have := heap_alloc_new (w1.alloc C) (.cells #[.string t, .string u] 357)
          simpa using this
        go_wp2_with (at_builtin; go_must (refine wpList_append_lies _ (by rfl) _ _ 94 (by rfl) w.heap.size 357 i0 (.agg #[.string ⟨#[]⟩, .string ⟨#[]⟩]) 2 32 Tryz.underlying94 hi hz0 hz1 hz2 rfl (by decide) _ n xs (by rfl) ((hrow1.alloc _).alloc _) ⟨w1.heap.size + 1, 0, none⟩ 1 1 [.string t, .string u] (by rfl) rfl (World.news_of_block (HNB.out _)) (by simp [Value.oneCell']) (by decide) (by unfold maxLen; omega) (by omega) (by simp; omega) (w1.heap.size + 1 + 1) (by simp) ?_); intro g cap w2 hown hgrow hat hlt2)
        have hr2 : Rd rb s c w2 := ((hr1.of_below ((Below.refl _ w1).alloc (Nat.le_refl _) _)).of_below ((Below.refl _ _).alloc (Nat.le_refl _) _)).grown hgrow (by intro e; have := (ownBlock_lt hrow1 e).2; omega)
        have hg2 : w.grownBy w2 (some rb) := grown_own (grown_alloc (grown_alloc (grown_trans hg hg1) _) _) hgrow (fun g e => (ownBlock_lt hrow1 e).2)
        refine (HSG.out _ hr2).mono ?_
        rintro e w3 ⟨rfl, hr3, hg3⟩
        go_wp2
        go_roundw
        case rel =>
          refine ⟨c + 1, m, n + 1, xs ++ [.string t, .string u], by omega, by omega, HL2, by omega, ?_, hr3, grown_trans hg2 hg3⟩
          exact ownsRow_grown hown hg3 hrb
        case measure => rw [plc_eq hr3, plc_eq hr]; omega
      · have h44' : Pl.byteIn s 44 44 c = false := eq_false_of_ne_true h44
        rw [if_neg h44] at hl
        simp only [Pl.sign, h44', Bool.false_eq_true, if_false] at hsg
        have HSG : Hid (∀ w1, Rd rb s c w1 → Calls Tryz.prog 124 #[.pointer (some ⟨rb, 0, none⟩), .int .u8 44] w1 fun e w' => e = .returned (.bool false) ∧ Rd rb s c w' ∧ w1.grownBy w' (some rb)) := hsg
        simp only [Prod.mk.injEq] at hl
        obtain ⟨rfl, rfl⟩ := hl
        clear hsg h44 h44'
        go_wp2_with fail
        refine (HWD.out _ hr).mono ?_
        rintro e w1 ⟨t, u, rfl, hr1, hg1⟩
        have hrow1 := ownsRow_grown hrow hg1 hrb
        have hs1 := hg1.size
        have HNB : Hid (∀ C, ((w1.alloc C).alloc (.cells #[.string t, .string u] 357)).heap[w1.heap.size + 1]? = some (.cells #[.string t, .string u] 357 (0, 0))) := fun C => by
          have := heap_alloc_new (w1.alloc C) (.cells #[.string t, .string u] 357)
          simpa using this
        go_wp2_with (at_builtin; go_must (refine wpList_append_lies _ (by rfl) _ _ 94 (by rfl) w.heap.size 357 i0 (.agg #[.string ⟨#[]⟩, .string ⟨#[]⟩]) 2 32 Tryz.underlying94 hi hz0 hz1 hz2 rfl (by decide) _ n xs (by rfl) ((hrow1.alloc _).alloc _) ⟨w1.heap.size + 1, 0, none⟩ 1 1 [.string t, .string u] (by rfl) rfl (World.news_of_block (HNB.out _)) (by simp [Value.oneCell']) (by decide) (by unfold maxLen; omega) (by omega) (by simp; omega) (w1.heap.size + 1 + 1) (by simp) ?_); intro g cap w2 hown hgrow hat hlt2)
        have hr2 : Rd rb s c w2 := ((hr1.of_below ((Below.refl _ w1).alloc (Nat.le_refl _) _)).of_below ((Below.refl _ _).alloc (Nat.le_refl _) _)).grown hgrow (by intro e; have := (ownBlock_lt hrow1 e).2; omega)
        have hg2 : w.grownBy w2 (some rb) := grown_own (grown_alloc (grown_alloc (grown_trans hg hg1) _) _) hgrow (fun g e => (ownBlock_lt hrow1 e).2)
        refine (HSG.out _ hr2).mono ?_
        rintro e w3 ⟨rfl, hr3, hg3⟩
        go_wp2
        go_ret2
        exact ⟨_, _, _, rfl, hr3, grown_trans hg2 hg3⟩

set_option maxHeartbeats 1000000 in
theorem pairs_any (rb : Nat) (s : ByteArray) (a : Nat) (w : World) (hm : s.size ≤ 80) (ha : a ≤ s.size) (h : Rd rb s a w) (R : Bool × Nat) (HR : Hid (Pl.lst s (Pl.pairP s) (s.size + 1) a = R)) :
    Calls Tryz.prog 185 #[.pointer (some ⟨rb, 0, none⟩), .func (.func 186) #[.pointer (some ⟨rb, 0, none⟩)] #[]] w fun e w' => ∃ p n c, e = .returned (.tuple #[.slice p n c, .bool R.1]) ∧ Rd rb s R.2 w' ∧ w.grownBy w' (some rb) := by
  obtain ⟨o, d⟩ := R
  have hrw := prow_any rb s a w hm ha h _ (rfl : Pl.rowP s (Pl.pairP s) (s.size + 1) a = _)
  have hrf := Pl.row_fits s _ (Pl.pair_fits s) (s.size + 1) a ha
  have hR := HR.out
  rw [Pl.lst_row] at hR
  obtain ⟨⟨o1, b⟩, hb⟩ : ∃ r, Pl.rowP s (Pl.pairP s) (s.size + 1) a = r := ⟨_, rfl⟩
  rw [hb] at hrw hrf hR
  have HRW : Hid (Calls Tryz.prog 286 #[.pointer (some ⟨rb, 0, none⟩), .int .u8 44, .func (.func 186) #[.pointer (some ⟨rb, 0, none⟩)] #[]] w fun e w' => ∃ p n c, e = .returned (.tuple #[.slice p n c, .bool o1]) ∧ Rd rb s b w' ∧ w.grownBy w' (some rb)) := hrw
  clear hrw hb HR
  cases o1 with
  | false =>
    simp only [Pl.thenP, Bool.false_eq_true, if_false, Prod.mk.injEq] at hR
    obtain ⟨rfl, rfl⟩ := hR
    go_enter Tryz.func185, Tryz.ntmps185
    go_wp2_with fail
    refine HRW.out.mono ?_
    rintro e w1 ⟨p, n, c, rfl, hr1, hg1⟩
    go_wp2
    go_ret2
    exact ⟨_, _, _, rfl, hr1, hg1⟩
  | true =>
    simp only [Pl.thenP, if_true] at hR
    have hs4 := fun w1 h => sign_at rb s b 41 41 rfl w1 hm hrf.2 h
    rw [hR] at hs4
    have HS4 : Hid (∀ w1, Rd rb s b w1 → Calls Tryz.prog 124 #[.pointer (some ⟨rb, 0, none⟩), .int .u8 41] w1 fun e w' => e = .returned (.bool o) ∧ Rd rb s d w' ∧ w1.grownBy w' (some rb)) := hs4
    clear hR hs4
    go_enter Tryz.func185, Tryz.ntmps185
    go_wp2_with fail
    refine HRW.out.mono ?_
    rintro e w1 ⟨p, n, c, rfl, hr1, hg1⟩
    go_wp2_with fail
    refine (HS4.out _ hr1).mono ?_
    rintro e w2 ⟨rfl, hr2, hg2⟩
    go_wp2
    go_ret2
    exact ⟨_, _, _, rfl, hr2, grown_trans hg1 hg2⟩

end Go.Proofs.YtcmgclckknpecaaGreatDoor
