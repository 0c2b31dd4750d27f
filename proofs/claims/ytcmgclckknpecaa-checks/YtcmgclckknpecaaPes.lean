import Derived.Test.YtcmgclckknpecaaPel
namespace Go.Proofs.Ytcmgclckknpecaa
open Go.RowKit

theorem badOf_true (a : Nat) : badOf true a = -1 := rfl
theorem badOf_false (a : Nat) : badOf false a = (a : Int) := rfl

theorem letters_st (pb : Nat) (s : ByteArray) (ok : Bool) (a : Nat) (l : Value) (w : World) (hm : s.size ≤ 80) (ha : a ≤ s.size) (h : Pn pb s a (badOf ok a) l w) (o : Bool) (b : Nat) (hr : Pl.thenP (ok, a) (Pl.word s) = (o, b)) :
    Calls Try.prog 45 #[.pointer (some ⟨pb, 0, none⟩)] w fun e w' => ∃ t, e = .returned (.string t) ∧ Pn pb s b (badOf o b) l w' ∧ w.grownBy w' (some pb) := by
  cases ok with
  | true => exact letters_new pb s a l w hm ha h o b hr
  | false =>
    simp only [Pl.thenP, Bool.false_eq_true, if_false, Prod.mk.injEq] at hr
    obtain ⟨rfl, rfl⟩ := hr
    exact letters_old pb s a _ (by rw [badOf_false]; omega) l w hm ha h
theorem take_st (pb : Nat) (s : ByteArray) (ok : Bool) (a c : Nat) (ci : Int) (hci : ci = (c : Int)) (l : Value) (w : World) (hm : s.size ≤ 80) (ha : a ≤ s.size) (h : Pn pb s a (badOf ok a) l w) (o : Bool) (b : Nat) (hr : Pl.thenP (ok, a) (Pl.sign s c) = (o, b)) :
    Calls Try.prog 26 #[.pointer (some ⟨pb, 0, none⟩), .int .u8 ci] w fun e w' => e = .returned (.tuple #[]) ∧ Pn pb s b (badOf o b) l w' ∧ w.grownBy w' (some pb) := by
  cases ok with
  | true =>
    have hr' : Pl.sign s c a = (o, b) := hr
    have := take_new pb s a c ci hci l w hm ha h
    rw [hr'] at this
    exact this
  | false =>
    simp only [Pl.thenP, Bool.false_eq_true, if_false, Prod.mk.injEq] at hr
    obtain ⟨rfl, rfl⟩ := hr
    exact take_old pb s a c ci hci _ (by rw [badOf_false]; omega) l w h
theorem on_st (pb : Nat) (s : ByteArray) (ok : Bool) (a c : Nat) (ci : Int) (hci : ci = (c : Int)) (l : Value) (w : World) (hm : s.size ≤ 80) (ha : a ≤ s.size) (h : Pn pb s a (badOf ok a) l w) (q : Bool) (hq : (ok && Pl.byteIn s c c a) = q) :
    Calls Try.prog 37 #[.pointer (some ⟨pb, 0, none⟩), .int .u8 ci] w fun e w' => e = .returned (.bool q) ∧ Pn pb s a (badOf ok a) l w' ∧ w.grownBy w' (some pb) := by
  subst hci hq
  cases ok with
  | true => rw [Bool.true_and]; exact on_new pb s a c l w hm ha h
  | false => rw [Bool.false_and]; exact on_old pb s a c _ (by rw [badOf_false]; omega) l w h

end Go.Proofs.Ytcmgclckknpecaa
