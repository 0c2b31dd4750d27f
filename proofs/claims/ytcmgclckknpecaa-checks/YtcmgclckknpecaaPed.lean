import Derived.Test.YtcmgclckknpecaaPes
namespace Go.Proofs.Ytcmgclckknpecaa
open Go.RowKit

def dig (s : ByteArray) (least a : Nat) : Bool × Nat := if Pl.byteIn s (48 + least) 57 a = true then (true, a + 1) else (false, a)
theorem dig_fits (s : ByteArray) (least : Nat) : Pl.Fits s (dig s least) := fun a ha => by
  unfold dig; split
  · have := Pl.byteIn_lt (by assumption); simp; omega
  · simp; omega

set_option maxHeartbeats 400000 in
theorem digit_old (pb : Nat) (s : ByteArray) (a least : Nat) (bad : Int) (hb : 0 ≤ bad) (l : Value) (w : World) (h : Pn pb s a bad l w) :
    Calls Try.prog 36 #[.pointer (some ⟨pb, 0, none⟩), .int .i64 (least : Int)] w fun e w' => e = .returned (.int .i64 (least : Int)) ∧ Pn pb s a bad l w' ∧ w.grownBy w' (some pb) := by
  have c0 := h.c0
  have c1 := h.c1
  have c2 := h.c2
  have hd : decide (0 ≤ bad) = true := by simp; omega
  go_enter Try.func36, Try.ntmps36
  go_wp2_with fail
  go_quiet (fail)
  go_wp2_with fail
  refine (fail_old pb s a bad hb l _ (h.drewN _)).mono ?_
  rintro e w2 ⟨rfl, hr2, hg2⟩
  go_wp2
  go_ret
  exact ⟨rfl, hr2, grown_trans (grown_drewN _ _ _) hg2⟩

set_option maxHeartbeats 400000 in
theorem digit_new (pb : Nat) (s : ByteArray) (a least : Nat) (l : Value) (w : World) (hl9 : least ≤ 9) (ha : a ≤ s.size) (hm : s.size ≤ 80) (h : Pn pb s a (-1) l w) (o : Bool) (b : Nat) (hr : dig s least a = (o, b)) :
    Calls Try.prog 36 #[.pointer (some ⟨pb, 0, none⟩), .int .i64 (least : Int)] w fun e w' => ∃ v : Nat, e = .returned (.int .i64 (v : Int)) ∧ (o = true → 48 + v = Pl.bt s a) ∧ v ≤ 9 ∧ Pn pb s b (badOf o b) l w' ∧ w.grownBy w' (some pb) := by
  have c0 := h.c0
  have c1 := h.c1
  have c2 := h.c2
  have fz := h.fz
  by_cases hlt : a < s.size
  · have hlt' : (a : Int) < (s.size : Int) := by omega
    have hge : decide (s.size ≤ a) = false := by simp; omega
    have hbe := Pl.bt_eq hlt
    have hb8 := UInt8.toNat_lt s[a]
    by_cases h9 : 57 < s[a].toNat
    · have h9' : decide ((57 : Int) < (s[a].toNat : Int)) = true := by simp; omega
      have hn : Pl.byteIn s (48 + least) 57 a = false := Pl.byteIn_no (by omega)
      simp only [dig, hn, Bool.false_eq_true, if_false, Prod.mk.injEq] at hr
      obtain ⟨rfl, rfl⟩ := hr
      clear hn hbe
      go_enter Try.func36, Try.ntmps36
      go_wp2_with fail
      go_quiet (fail)
      go_wp2_with fail
      refine (fail_new pb s a l _ (h.drewN _)).mono ?_
      rintro e w2 ⟨rfl, hr2, hg2⟩
      go_wp2
      go_ret
      exact ⟨least, rfl, by simp, hl9, hr2, grown_trans (grown_drewN _ _ _) hg2⟩
    · have h9' : decide ((57 : Int) < (s[a].toNat : Int)) = false := by simp; omega
      by_cases hlo : s[a].toNat < 48 + least
      · have hlo' : decide ((s[a].toNat : Int) - 48 < (least : Int)) = true := by simp; omega
        have hlo2 : (s[a].toNat : Int) - 48 < (least : Int) := by omega
        have hn : Pl.byteIn s (48 + least) 57 a = false := Pl.byteIn_no (by omega)
        simp only [dig, hn, Bool.false_eq_true, if_false, Prod.mk.injEq] at hr
        obtain ⟨rfl, rfl⟩ := hr
        have hw2 : IntKind.i64.wrap ((s[a].toNat : Int) - 48) = (s[a].toNat : Int) - 48 := by rw [IntKind.wrap_i64]; omega
        clear hn hbe
        go_enter Try.func36, Try.ntmps36
        go_wp2_with fail
        go_quiet (fail)
        go_wp2_with fail
        refine (fail_new pb s a l _ (h.drewN _)).mono ?_
        rintro e w2 ⟨rfl, hr2, hg2⟩
        go_wp2
        go_ret
        exact ⟨least, rfl, by simp, hl9, hr2, grown_trans (grown_drewN _ _ _) hg2⟩
      · have hlo2 : ¬ (s[a].toNat : Int) - 48 < (least : Int) := by omega
        have hy : Pl.byteIn s (48 + least) 57 a = true := Pl.byteIn_mk (by omega)
        simp only [dig, hy, if_true, Prod.mk.injEq] at hr
        obtain ⟨rfl, rfl⟩ := hr
        have HBE : Hid (Pl.bt s a = s[a].toNat) := hbe
        have hlo' : (48 : Int) ≤ (s[a].toNat : Int) := by omega
        have hw2 : IntKind.i64.wrap ((s[a].toNat : Int) - 48) = (s[a].toNat : Int) - 48 := by rw [IntKind.wrap_i64]; omega
        clear hy hbe
        go_enter Try.func36, Try.ntmps36
        go_wp2_with fail
        go_quiet (fail)
        go_wp2
        go_quiet (fail)
        go_wp2
        go_ret
        have e1 : ((a + 1 : Nat) : Int) = (a : Int) + 1 := by omega
        refine ⟨s[a].toNat - 48, ret_int (by omega), fun _ => by rw [HBE.out]; omega, by omega, ?_, grown_trans (grown_trans (grown_drewN _ _ _) (grown_set _ _ _ _)) (grown_drewN _ _ _)⟩
        rw [← e1]; exact ((h.drewN _).set1 _).drewN _
  · have hge : decide (s.size ≤ a) = true := by simp; omega
    have hn : Pl.byteIn s (48 + least) 57 a = false := Pl.byteIn_no (by omega)
    simp only [dig, hn, Bool.false_eq_true, if_false, Prod.mk.injEq] at hr
    obtain ⟨rfl, rfl⟩ := hr
    clear hn
    go_enter Try.func36, Try.ntmps36
    go_wp2_with fail
    go_quiet (fail)
    go_wp2_with fail
    refine (fail_new pb s a l _ (h.drewN _)).mono ?_
    rintro e w2 ⟨rfl, hr2, hg2⟩
    go_wp2
    go_ret
    exact ⟨least, rfl, by simp, hl9, hr2, grown_trans (grown_drewN _ _ _) hg2⟩

theorem digit_st (pb : Nat) (s : ByteArray) (ok : Bool) (a least : Nat) (li : Int) (hli : li = (least : Int)) (l : Value) (w : World) (hl9 : least ≤ 9) (ha : a ≤ s.size) (hm : s.size ≤ 80) (h : Pn pb s a (badOf ok a) l w) (o : Bool) (b : Nat) (hr : Pl.thenP (ok, a) (dig s least) = (o, b)) :
    Calls Try.prog 36 #[.pointer (some ⟨pb, 0, none⟩), .int .i64 li] w fun e w' => ∃ v : Nat, e = .returned (.int .i64 (v : Int)) ∧ (o = true → 48 + v = Pl.bt s a) ∧ v ≤ 9 ∧ Pn pb s b (badOf o b) l w' ∧ w.grownBy w' (some pb) := by
  subst hli
  cases ok with
  | true => exact digit_new pb s a least l w hl9 ha hm h o b hr
  | false =>
    simp only [Pl.thenP, Bool.false_eq_true, if_false, Prod.mk.injEq] at hr
    obtain ⟨rfl, rfl⟩ := hr
    exact (digit_old pb s a least _ (by rw [badOf_false]; omega) l w h).mono fun e w' ⟨he, hp, hg⟩ => ⟨least, he, by simp, hl9, hp, hg⟩

end Go.Proofs.Ytcmgclckknpecaa
