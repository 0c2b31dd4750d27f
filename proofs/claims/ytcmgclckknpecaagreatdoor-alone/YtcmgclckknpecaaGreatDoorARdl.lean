import Derived.Test.YtcmgclckknpecaaGreatDoorARdp
import Derived.Test.YtcmgclckknpecaaGreatDoorARow3
namespace Go.Proofs.YtcmgclckknpecaaGreatDoor
open Go.RowKit

theorem ownsRow_grown {A B : World} {base : Nat} {e : TypeId} {size : Nat} {v : Value} {n : Nat} {xs : List Value} {rb : Nat} (h : A.ownsRow base e size v n xs) (hg : A.grownBy B (some rb)) (hb : rb < base) : B.ownsRow base e size v n xs := by
  refine ⟨h.1, ?_⟩
  rcases h.2 with h | ⟨g, cap, cur, hv, hg2, hh, r⟩
  · exact .inl h
  · exact .inr ⟨g, cap, cur, hv, hg2, (hg.block g (Array.getElem?_eq_some_iff.1 hh).1 (by intro e; cases e; omega)).trans hh, r⟩
theorem grown_own {A B C : World} {row own : Option Nat} (h : A.grownBy B row) (k : B.grownBy C own) (hn : ∀ g, own = some g → A.heap.size ≤ g) : A.grownBy C row :=
  ⟨k.os.trans h.os, k.tape.trans h.tape, k.output.trans h.output, Nat.le_trans h.size k.size, fun i hi hr => (k.block i (Nat.lt_of_lt_of_le hi h.size) (fun e => by have := hn i e.symm; omega)).trans (h.block i hi hr)⟩
theorem Rd.grown {rb : Nat} {s : ByteArray} {a : Nat} {w w' : World} {own : Option Nat} (h : Rd rb s a w) (hg : w.grownBy w' own) (hne : own ≠ some rb) : Rd rb s a w' :=
  ⟨(hg.cell_far ⟨rb, 0, none⟩ h.lt (Ne.symm hne)).trans h.c0, (hg.cell_far ⟨rb, 1, none⟩ h.lt (Ne.symm hne)).trans h.c1, fun o => (hg.frozen_far ⟨rb, o, none⟩ h.lt (Ne.symm hne)).trans (h.fz o), Nat.lt_of_lt_of_le h.lt hg.size⟩

theorem info9 : (Tryz.prog.info? 9).map (fun i => (i.zero, i.size, i.bytes)) = some (some (.string ⟨#[]⟩), 1, 16) := by kernel_rfl
theorem info95 : (Tryz.prog.info? 357).map (fun i => (i.zero, i.size, i.bytes)) = some (some (.agg #[.string ⟨#[]⟩, .string ⟨#[]⟩]), 2, 32) := by kernel_rfl

theorem word_one {s : ByteArray} {a b : Nat} (h : Pl.word s a = (true, b)) : a < b := by
  have h1 : (Pl.word s a).1 = true := by rw [h]
  have h2 : (Pl.word s a).2 = b := by rw [h]
  rw [← h2]; exact of_decide_eq_true h1

namespace Pl
/-- Items with commas between them, and nothing behind. -/
def rowP (s : ByteArray) (item : Nat → Bool × Nat) : Nat → Nat → Bool × Nat
  | 0, a => (false, a)
  | m + 1, a => thenP (item a) fun b => if byteIn s 44 44 b = true then rowP s item m (b + 1) else (true, b)
theorem lst_row (s : ByteArray) (item : Nat → Bool × Nat) : ∀ m a, lst s item m a = thenP (rowP s item m a) (sign s 41)
  | 0, a => by simp [lst, rowP, thenP]
  | m + 1, a => by
    have ih := lst_row s item m ((item a).2 + 1)
    by_cases h : (item a).1 = true
    · by_cases h4 : byteIn s 44 44 (item a).2 = true
      · simpa only [lst, rowP, thenP, h, h4, if_true] using ih
      · simp [lst, rowP, thenP, h, h4]
    · simp [lst, rowP, thenP, h]
theorem row_fits (s : ByteArray) (item : Nat → Bool × Nat) (hi : Fits s item) : ∀ m, Fits s (rowP s item m)
  | 0 => fun a ha => ⟨Nat.le_refl _, ha⟩
  | m + 1 => fun a ha => by
    unfold rowP
    refine thenP_fits (hi a ha) fun b hb => ?_
    by_cases h : byteIn s 44 44 b = true
    · have := byteIn_lt h
      have := row_fits s item hi m (b + 1) (by omega)
      simp only [h, if_true]; omega
    · simp only [h]; exact ⟨Nat.le_refl _, hb⟩
end Pl

set_option maxHeartbeats 1000000 in
theorem wrow_any (rb : Nat) (s : ByteArray) (a : Nat) (w : World) (hm : s.size ≤ 80) (ha : a ≤ s.size) (h : Rd rb s a w) (R : Bool × Nat) (HR : Hid (Pl.rowP s (Pl.word s) (s.size + 1) a = R)) :
    Calls Tryz.prog 287 #[.pointer (some ⟨rb, 0, none⟩), .int .u8 44, .func (.func 188) #[.pointer (some ⟨rb, 0, none⟩)] #[]] w fun e w' => ∃ p n c, e = .returned (.tuple #[.slice p n c, .bool R.1]) ∧ Rd rb s R.2 w' ∧ w.grownBy w' (some rb) := by
  obtain ⟨o, d⟩ := R
  obtain ⟨i0, hi, hz0, hz1, hz2⟩ := info_parts info9
  have hrb := h.lt
  go_enter Tryz.func287, Tryz.ntmps287
  go_wp2
  go_loopw [8, 9, 10] (fun l _ _ wr => ∃ (b m : Nat) (xs : List Value), b ≤ s.size ∧ s.size < b + m ∧ Hid (Pl.rowP s (Pl.word s) m b = (o, d)) ∧ xs.length ≤ b ∧ wr.ownsRow w.heap.size 9 1 l xs.length xs ∧ Rd rb s b wr ∧ w.grownBy wr (some rb)) (fun _ _ _ wr => 200 - plc rb wr)
  case atStart => exact ⟨a, s.size + 1, [], ha, by omega, HR, by simp, World.ownsRow_nil _ _ _ _, h, World.grownBy.refl _ _⟩
  case round =>
    obtain ⟨b, m, xs, hb, hbm, HL, hxl, hrow, hr, hg⟩ := hrel
    obtain ⟨m, rfl⟩ : ∃ m', m = m' + 1 := ⟨m - 1, by omega⟩
    have hwf := Pl.word_fits s b hb
    have hwd := fun w1 h => word_any rb s b w1 hm hb h
    obtain ⟨⟨o1, c⟩, hw⟩ : ∃ r, Pl.word s b = r := ⟨_, rfl⟩
    rw [hw] at hwf hwd
    have HWD : Hid (∀ w1, Rd rb s b w1 → Calls Tryz.prog 188 #[.pointer (some ⟨rb, 0, none⟩)] w1 fun e w' => ∃ t, e = .returned (.tuple #[.string t, .bool o1]) ∧ Rd rb s c w' ∧ w1.grownBy w' (some rb)) := hwd
    clear hwd
    have hl := HL.out
    unfold Pl.rowP at hl
    rw [hw] at hl
    cases o1 with
    | false =>
      simp only [Pl.thenP, Bool.false_eq_true, if_false, Prod.mk.injEq] at hl
      obtain ⟨rfl, rfl⟩ := hl
      clear hw
      go_wp2_with fail
      refine (HWD.out _ hr).mono ?_
      rintro e w1 ⟨t, rfl, hr1, hg1⟩
      go_wp2
      go_ret2
      exact ⟨_, _, _, rfl, hr1, grown_trans hg hg1⟩
    | true =>
      have hbc := word_one hw
      have hsg := fun w1 h => sign_at rb s c 44 44 rfl w1 hm hwf.2 h
      have hsz := hg.size
      simp only [Pl.thenP, if_true] at hl
      clear hw HL
      by_cases h44 : Pl.byteIn s 44 44 c = true
      · rw [if_pos h44] at hl
        have hc44 := (Pl.byteIn_lt h44).1
        simp only [Pl.sign, h44, if_true] at hsg
        have HSG : Hid (∀ w1, Rd rb s c w1 → Calls Tryz.prog 124 #[.pointer (some ⟨rb, 0, none⟩), .int .u8 44] w1 fun e w' => e = .returned (.bool true) ∧ Rd rb s (c + 1) w' ∧ w1.grownBy w' (some rb)) := hsg
        have HL2 : Hid (Pl.rowP s (Pl.word s) m (c + 1) = (o, d)) := hl
        clear hsg hl h44
        go_wp2_with fail
        refine (HWD.out _ hr).mono ?_
        rintro e w1 ⟨t, rfl, hr1, hg1⟩
        have hrow1 := ownsRow_grown hrow hg1 hrb
        have hs1 := hg1.size
        go_wp2_with (at_builtin; go_must (refine wpList_append_lies _ (by rfl) _ _ 63 (by rfl) w.heap.size 9 i0 (.string ⟨#[]⟩) 1 16 Tryz.underlying63 hi hz0 hz1 hz2 rfl (by decide) _ xs.length xs (by rfl) (hrow1.alloc _) ⟨w1.heap.size, 0, none⟩ 1 1 [.string t] (by rfl) rfl (World.news_of_block (heap_alloc_new w1 _)) (by simp [Value.oneCell']) (by decide) (by unfold maxLen; omega) (by omega) (by simp; omega) (w1.heap.size + 1) (by simp) ?_); intro g cap w2 hown hgrow hat hlt2)
        have hr2 : Rd rb s c w2 := (hr1.of_below ((Below.refl _ w1).alloc (Nat.le_refl _) _)).grown hgrow (by intro e; have := (ownBlock_lt hrow1 e).2; omega)
        have hg2 : w.grownBy w2 (some rb) := grown_own (grown_alloc (grown_trans hg hg1) _) hgrow (fun g e => (ownBlock_lt hrow1 e).2)
        refine (HSG.out _ hr2).mono ?_
        rintro e w3 ⟨rfl, hr3, hg3⟩
        go_wp2
        go_roundw
        case rel =>
          refine ⟨c + 1, m, xs ++ [.string t], by omega, by omega, HL2, by simp; omega, ?_, hr3, grown_trans hg2 hg3⟩
          rw [List.length_append]
          exact ownsRow_grown hown hg3 hrb
        case measure => rw [plc_eq hr3, plc_eq hr]; omega
      · have h44' : Pl.byteIn s 44 44 c = false := eq_false_of_ne_true h44
        rw [if_neg h44] at hl
        simp only [Pl.sign, h44', Bool.false_eq_true, if_false] at hsg
        have HSG : Hid (∀ w1, Rd rb s c w1 → Calls Tryz.prog 124 #[.pointer (some ⟨rb, 0, none⟩), .int .u8 44] w1 fun e w' => e = .returned (.bool false) ∧ Rd rb s c w' ∧ w1.grownBy w' (some rb)) := hsg
        simp only [Prod.mk.injEq] at hl
        obtain ⟨rfl, rfl⟩ := hl
        clear hsg h44 h44'
        go_wp2_with fail
        refine (HWD.out _ hr).mono ?_
        rintro e w1 ⟨t, rfl, hr1, hg1⟩
        have hrow1 := ownsRow_grown hrow hg1 hrb
        have hs1 := hg1.size
        go_wp2_with (at_builtin; go_must (refine wpList_append_lies _ (by rfl) _ _ 63 (by rfl) w.heap.size 9 i0 (.string ⟨#[]⟩) 1 16 Tryz.underlying63 hi hz0 hz1 hz2 rfl (by decide) _ xs.length xs (by rfl) (hrow1.alloc _) ⟨w1.heap.size, 0, none⟩ 1 1 [.string t] (by rfl) rfl (World.news_of_block (heap_alloc_new w1 _)) (by simp [Value.oneCell']) (by decide) (by unfold maxLen; omega) (by omega) (by simp; omega) (w1.heap.size + 1) (by simp) ?_); intro g cap w2 hown hgrow hat hlt2)
        have hr2 : Rd rb s c w2 := (hr1.of_below ((Below.refl _ w1).alloc (Nat.le_refl _) _)).grown hgrow (by intro e; have := (ownBlock_lt hrow1 e).2; omega)
        have hg2 : w.grownBy w2 (some rb) := grown_own (grown_alloc (grown_trans hg hg1) _) hgrow (fun g e => (ownBlock_lt hrow1 e).2)
        refine (HSG.out _ hr2).mono ?_
        rintro e w3 ⟨rfl, hr3, hg3⟩
        go_wp2
        go_ret2
        exact ⟨_, _, _, rfl, hr3, grown_trans hg2 hg3⟩

set_option maxHeartbeats 1000000 in
theorem words_any (rb : Nat) (s : ByteArray) (a : Nat) (w : World) (hm : s.size ≤ 80) (ha : a ≤ s.size) (h : Rd rb s a w) (R : Bool × Nat) (HR : Hid (Pl.lst s (Pl.word s) (s.size + 1) a = R)) :
    Calls Tryz.prog 187 #[.pointer (some ⟨rb, 0, none⟩), .func (.func 188) #[.pointer (some ⟨rb, 0, none⟩)] #[]] w fun e w' => ∃ p n c, e = .returned (.tuple #[.slice p n c, .bool R.1]) ∧ Rd rb s R.2 w' ∧ w.grownBy w' (some rb) := by
  obtain ⟨o, d⟩ := R
  have hrw := wrow_any rb s a w hm ha h _ (rfl : Pl.rowP s (Pl.word s) (s.size + 1) a = _)
  have hrf := Pl.row_fits s _ (Pl.word_fits s) (s.size + 1) a ha
  have hR := HR.out
  rw [Pl.lst_row] at hR
  obtain ⟨⟨o1, b⟩, hb⟩ : ∃ r, Pl.rowP s (Pl.word s) (s.size + 1) a = r := ⟨_, rfl⟩
  rw [hb] at hrw hrf hR
  have HRW : Hid (Calls Tryz.prog 287 #[.pointer (some ⟨rb, 0, none⟩), .int .u8 44, .func (.func 188) #[.pointer (some ⟨rb, 0, none⟩)] #[]] w fun e w' => ∃ p n c, e = .returned (.tuple #[.slice p n c, .bool o1]) ∧ Rd rb s b w' ∧ w.grownBy w' (some rb)) := hrw
  clear hrw hb HR
  cases o1 with
  | false =>
    simp only [Pl.thenP, Bool.false_eq_true, if_false, Prod.mk.injEq] at hR
    obtain ⟨rfl, rfl⟩ := hR
    go_enter Tryz.func187, Tryz.ntmps187
    go_wp2_with fail
    refine HRW.out.mono ?_
    rintro e w1 ⟨p, n, c, rfl, hr1, hg1⟩
    go_wp2
    go_ret2
    exact ⟨_, _, _, rfl, hr1, hg1⟩
  | true =>
    simp only [Pl.thenP, if_true] at hR
    have hs4 := fun w1 h => sign_at rb s b 41 41 rfl w1 hm hrf.2 h
    rw [hR] at hs4
    have HS4 : Hid (∀ w1, Rd rb s b w1 → Calls Tryz.prog 124 #[.pointer (some ⟨rb, 0, none⟩), .int .u8 41] w1 fun e w' => e = .returned (.bool o) ∧ Rd rb s d w' ∧ w1.grownBy w' (some rb)) := hs4
    clear hR hs4
    go_enter Tryz.func187, Tryz.ntmps187
    go_wp2_with fail
    refine HRW.out.mono ?_
    rintro e w1 ⟨p, n, c, rfl, hr1, hg1⟩
    go_wp2_with fail
    refine (HS4.out _ hr1).mono ?_
    rintro e w2 ⟨rfl, hr2, hg2⟩
    go_wp2
    go_ret2
    exact ⟨_, _, _, rfl, hr2, grown_trans hg1 hg2⟩

end Go.Proofs.YtcmgclckknpecaaGreatDoor
