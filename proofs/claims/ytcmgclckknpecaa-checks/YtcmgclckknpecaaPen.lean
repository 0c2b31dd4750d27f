import Derived.Test.YtcmgclckknpecaaRdp
namespace Go.Proofs.Ytcmgclckknpecaa
open Go.RowKit

/-- The document's reader, in block pb: the text, the place, the bad place (or -1), the stages (a slice). -/
structure Pn (pb : Nat) (s : ByteArray) (a : Nat) (bad : Int) (l : Value) (w : World) : Prop where
  c0 : w.cell? ⟨pb, 0, none⟩ = some (.string s)
  c1 : w.cell? ⟨pb, 1, none⟩ = some (.int .i64 (a : Int))
  c2 : w.cell? ⟨pb, 2, none⟩ = some (.int .i64 bad)
  c3 : w.cell? ⟨pb, 3, none⟩ = some l
  fz : ∀ o, w.frozen? ⟨pb, o, none⟩ = false
  lt : pb < w.heap.size

theorem Pn.of_below {pb : Nat} {s : ByteArray} {a : Nat} {bad : Int} {l : Value} {w w' : World} (h : Pn pb s a bad l w) (hb : Below w.heap.size w w') : Pn pb s a bad l w' :=
  ⟨(hb.cell (p := ⟨pb, 0, none⟩) h.lt).trans h.c0, (hb.cell (p := ⟨pb, 1, none⟩) h.lt).trans h.c1, (hb.cell (p := ⟨pb, 2, none⟩) h.lt).trans h.c2, (hb.cell (p := ⟨pb, 3, none⟩) h.lt).trans h.c3, fun o => (hb.frozen (p := ⟨pb, o, none⟩) h.lt).trans (h.fz o), Nat.lt_of_lt_of_le h.lt hb.size⟩
theorem Pn.drewN {pb : Nat} {s : ByteArray} {a : Nat} {bad : Int} {l : Value} {w : World} (h : Pn pb s a bad l w) (n : Nat) : Pn pb s a bad l (w.drewN n) := h.of_below (below_drewN (Below.refl _ _) n)
theorem Pn.set1 {pb : Nat} {s : ByteArray} {a : Nat} {bad : Int} {l : Value} {w : World} (h : Pn pb s a bad l w) (b : Nat) : Pn pb s b bad l (w.setCell ⟨pb, 1, none⟩ (.int .i64 (b : Int))) :=
  ⟨(World.cell?_setCell_other _ _ _ _ (by simp)).trans h.c0, World.cell?_setCell_same _ _ _ h.c1, (World.cell?_setCell_other _ _ _ _ (by simp)).trans h.c2, (World.cell?_setCell_other _ _ _ _ (by simp)).trans h.c3, fun o => (World.frozen?_setCell _ _ _ _).trans (h.fz o), by simpa using h.lt⟩
theorem Pn.set2 {pb : Nat} {s : ByteArray} {a : Nat} {bad : Int} {l : Value} {w : World} (h : Pn pb s a bad l w) (b : Int) : Pn pb s a b l (w.setCell ⟨pb, 2, none⟩ (.int .i64 b)) :=
  ⟨(World.cell?_setCell_other _ _ _ _ (by simp)).trans h.c0, (World.cell?_setCell_other _ _ _ _ (by simp)).trans h.c1, World.cell?_setCell_same _ _ _ h.c2, (World.cell?_setCell_other _ _ _ _ (by simp)).trans h.c3, fun o => (World.frozen?_setCell _ _ _ _).trans (h.fz o), by simpa using h.lt⟩

/-- The state of the two readers in one: read so far without a fault, or the fault's place. -/
def badOf (ok : Bool) (a : Nat) : Int := if ok = true then -1 else (a : Int)

set_option maxHeartbeats 1000000 in
theorem fail_new (pb : Nat) (s : ByteArray) (a : Nat) (l : Value) (w : World) (h : Pn pb s a (-1) l w) :
    Calls Try.prog 34 #[.pointer (some ⟨pb, 0, none⟩)] w fun e w' => e = .returned (.tuple #[]) ∧ Pn pb s a (a : Int) l w' ∧ w.grownBy w' (some pb) := by
  have c1 := h.c1
  have c2 := h.c2
  have fz := h.fz
  go_enter Try.func34, Try.ntmps34
  go_wp2
  go_end0
  exact ⟨rfl, h.set2 _, grown_set _ _ _ _⟩

set_option maxHeartbeats 1000000 in
theorem fail_old (pb : Nat) (s : ByteArray) (a : Nat) (bad : Int) (hb : 0 ≤ bad) (l : Value) (w : World) (h : Pn pb s a bad l w) :
    Calls Try.prog 34 #[.pointer (some ⟨pb, 0, none⟩)] w fun e w' => e = .returned (.tuple #[]) ∧ Pn pb s a bad l w' ∧ w.grownBy w' (some pb) := by
  have c1 := h.c1
  have c2 := h.c2
  have fz := h.fz
  go_enter Try.func34, Try.ntmps34
  go_wp2
  go_end0
  exact ⟨rfl, h, World.grownBy.refl _ _⟩

set_option maxHeartbeats 1000000 in
theorem on_old (pb : Nat) (s : ByteArray) (a c : Nat) (bad : Int) (hb : 0 ≤ bad) (l : Value) (w : World) (h : Pn pb s a bad l w) :
    Calls Try.prog 37 #[.pointer (some ⟨pb, 0, none⟩), .int .u8 (c : Int)] w fun e w' => e = .returned (.bool false) ∧ Pn pb s a bad l w' ∧ w.grownBy w' (some pb) := by
  have c0 := h.c0
  have c1 := h.c1
  have c2 := h.c2
  have hd : decide (bad < 0) = false := by simp; omega
  go_enter Try.func37, Try.ntmps37
  go_wp2_with fail
  go_quiet (fail)
  go_wp2
  go_ret
  exact ⟨rfl, h.drewN _, grown_drewN _ _ _⟩

set_option maxHeartbeats 1000000 in
theorem on_new (pb : Nat) (s : ByteArray) (a c : Nat) (l : Value) (w : World) (_hm : s.size ≤ 80) (ha : a ≤ s.size) (h : Pn pb s a (-1) l w) :
    Calls Try.prog 37 #[.pointer (some ⟨pb, 0, none⟩), .int .u8 (c : Int)] w fun e w' => e = .returned (.bool (Pl.byteIn s c c a)) ∧ Pn pb s a (-1) l w' ∧ w.grownBy w' (some pb) := by
  have c0 := h.c0
  have c1 := h.c1
  have c2 := h.c2
  by_cases hlt : a < s.size
  · have hlt' : (a : Int) < (s.size : Int) := by omega
    have hbe := Pl.bt_eq hlt
    obtain ⟨B, hB⟩ : ∃ B, Pl.byteIn s c c a = B := ⟨_, rfl⟩
    have hq : ((s[a].toNat : Int) == (c : Int)) = B := by
      rw [← hB, Pl.byteIn, hbe, Bool.eq_iff_iff]; simp; omega
    rw [hB]
    clear hB hbe
    go_enter Try.func37, Try.ntmps37
    go_wp2_with fail
    go_quiet (fail)
    go_wp2
    go_ret
    exact ⟨rfl, h.drewN _, grown_drewN _ _ _⟩
  · have hd : decide ((a : Int) < (s.size : Int)) = false := by simp; omega
    have hb : Pl.byteIn s c c a = false := Pl.byteIn_no (by omega)
    rw [hb]
    clear hb
    go_enter Try.func37, Try.ntmps37
    go_wp2_with fail
    go_quiet (fail)
    go_wp2
    go_ret
    exact ⟨rfl, h.drewN _, grown_drewN _ _ _⟩

/-- take: where nothing is wrong yet. -/
theorem take_new (pb : Nat) (s : ByteArray) (a c : Nat) (ci : Int) (hci : ci = (c : Int)) (l : Value) (w : World) (hm : s.size ≤ 80) (ha : a ≤ s.size) (h : Pn pb s a (-1) l w) :
    Calls Try.prog 26 #[.pointer (some ⟨pb, 0, none⟩), .int .u8 ci] w fun e w' => e = .returned (.tuple #[]) ∧ Pn pb s (Pl.sign s c a).2 (badOf (Pl.sign s c a).1 (Pl.sign s c a).2) l w' ∧ w.grownBy w' (some pb) := by
  subst hci
  have hon := fun w h => on_new pb s a c l w hm ha h
  by_cases hb : Pl.byteIn s c c a = true
  · have hsg : Pl.sign s c a = (true, a + 1) := by simp [Pl.sign, hb]
    have hlt := (Pl.byteIn_lt hb).1
    rw [hsg]
    rw [hb] at hon
    have HON : Hid (∀ w, Pn pb s a (-1) l w → Calls Try.prog 37 #[.pointer (some ⟨pb, 0, none⟩), .int .u8 (c : Int)] w fun e w' => e = .returned (.bool true) ∧ Pn pb s a (-1) l w' ∧ w.grownBy w' (some pb)) := hon
    clear hon hb hsg
    go_enter Try.func26, Try.ntmps26
    go_wp2_with fail
    refine (HON.out _ h).mono ?_
    rintro e w1 ⟨rfl, hr1, hg1⟩
    have c1 := hr1.c1
    have fz := hr1.fz
    go_wp2
    go_end0
    have e1 : ((a + 1 : Nat) : Int) = (a : Int) + 1 := by omega
    refine ⟨rfl, ?_, grown_trans hg1 (grown_set _ _ _ _)⟩
    rw [← e1]; exact hr1.set1 _
  · have hb' : Pl.byteIn s c c a = false := by simpa using hb
    have hsg : Pl.sign s c a = (false, a) := by simp [Pl.sign, hb']
    rw [hsg]
    rw [hb'] at hon
    have HON : Hid (∀ w, Pn pb s a (-1) l w → Calls Try.prog 37 #[.pointer (some ⟨pb, 0, none⟩), .int .u8 (c : Int)] w fun e w' => e = .returned (.bool false) ∧ Pn pb s a (-1) l w' ∧ w.grownBy w' (some pb)) := hon
    clear hon hb hb' hsg
    go_enter Try.func26, Try.ntmps26
    go_wp2_with fail
    refine (HON.out _ h).mono ?_
    rintro e w1 ⟨rfl, hr1, hg1⟩
    go_wp2_with fail
    refine (fail_new pb s a l _ hr1).mono ?_
    rintro e w2 ⟨rfl, hr2, hg2⟩
    go_wp2
    go_end0
    exact ⟨rfl, hr2, grown_trans hg1 hg2⟩

/-- take: where something is wrong already. -/
theorem take_old (pb : Nat) (s : ByteArray) (a c : Nat) (ci : Int) (hci : ci = (c : Int)) (bad : Int) (hb : 0 ≤ bad) (l : Value) (w : World) (h : Pn pb s a bad l w) :
    Calls Try.prog 26 #[.pointer (some ⟨pb, 0, none⟩), .int .u8 ci] w fun e w' => e = .returned (.tuple #[]) ∧ Pn pb s a bad l w' ∧ w.grownBy w' (some pb) := by
  subst hci
  go_enter Try.func26, Try.ntmps26
  go_wp2_with fail
  refine (on_old pb s a c bad hb l _ h).mono ?_
  rintro e w1 ⟨rfl, hr1, hg1⟩
  go_wp2_with fail
  refine (fail_old pb s a bad hb l _ hr1).mono ?_
  rintro e w2 ⟨rfl, hr2, hg2⟩
  go_wp2
  go_end0
  exact ⟨rfl, hr2, grown_trans hg1 hg2⟩

end Go.Proofs.Ytcmgclckknpecaa
