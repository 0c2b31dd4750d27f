import Derived.Test.YtcmgclckknpecaaCpl
import Derived.Test.YtcmgclckknpecaaClone
import Derived.Test.YtcmgclckknpecaaDec
import Derived.Deep.RegionHeld3
import Derived.Deep.AppendLies
namespace Go.Proofs.Ytcmgclckknpecaa
open Go.RowKit

/-- The reader of a chain, in block rb: the text, and the place. -/
structure Rd (rb : Nat) (s : ByteArray) (a : Nat) (w : World) : Prop where
  c0 : w.cell? ⟨rb, 0, none⟩ = some (.string s)
  c1 : w.cell? ⟨rb, 1, none⟩ = some (.int .i64 (a : Int))
  fz : ∀ o, w.frozen? ⟨rb, o, none⟩ = false
  lt : rb < w.heap.size

theorem grown_trans {A B C : World} {row : Option Nat} (h : A.grownBy B row) (k : B.grownBy C row) : A.grownBy C row :=
  ⟨k.os.trans h.os, k.tape.trans h.tape, k.output.trans h.output, Nat.le_trans h.size k.size, fun i hi hr => (k.block i (Nat.lt_of_lt_of_le hi h.size) hr).trans (h.block i hi hr)⟩
theorem grown_of_below {A B : World} (row : Option Nat) (h : Below A.heap.size A B) : A.grownBy B row := ⟨h.os, h.tape, h.output, h.size, fun k hk _ => h.block k hk⟩
theorem grown_drewN (A : World) (n : Nat) (row : Option Nat) : A.grownBy (A.drewN n) row := grown_of_below row (below_drewN (Below.refl _ _) n)
theorem grown_set (A : World) (b o : Nat) (v : Value) : A.grownBy (A.setCell ⟨b, o, none⟩ v) (some b) :=
  ⟨rfl, rfl, rfl, by simp, fun k _ hk => Below.heap_setCell _ _ _ k (fun e => hk (by rw [e]))⟩
theorem Rd.of_below {rb : Nat} {s : ByteArray} {a : Nat} {w w' : World} (h : Rd rb s a w) (hb : Below w.heap.size w w') : Rd rb s a w' :=
  ⟨(hb.cell (p := ⟨rb, 0, none⟩) h.lt).trans h.c0, (hb.cell (p := ⟨rb, 1, none⟩) h.lt).trans h.c1, fun o => (hb.frozen (p := ⟨rb, o, none⟩) h.lt).trans (h.fz o), Nat.lt_of_lt_of_le h.lt hb.size⟩
theorem Rd.set {rb : Nat} {s : ByteArray} {a : Nat} {w : World} (h : Rd rb s a w) (b : Nat) : Rd rb s b (w.setCell ⟨rb, 1, none⟩ (.int .i64 (b : Int))) :=
  ⟨(World.cell?_setCell_other _ _ _ _ (by simp)).trans h.c0, World.cell?_setCell_same _ _ _ h.c1, fun o => (World.frozen?_setCell _ _ _ _).trans (h.fz o), by simpa using h.lt⟩

theorem ret_bb {x y : Int} {b c : Bool} (h : x = y) (h' : b = c) : Ending.returned (.tuple #[.int .u8 x, .bool b]) = .returned (.tuple #[.int .u8 y, .bool c]) := by rw [h, h']

set_option maxHeartbeats 1000000 in
theorem byteWithin_no (rb : Nat) (s : ByteArray) (a lo hi : Nat) (w : World) (_hm : s.size ≤ 80) (ha : a ≤ s.size) (h : Rd rb s a w) (hb : Pl.byteIn s lo hi a = false) :
    Calls Try.prog 44 #[.pointer (some ⟨rb, 0, none⟩), .int .u8 (lo : Int), .int .u8 (hi : Int)] w fun e w' =>
      e = .returned (.tuple #[.int .u8 0, .bool false]) ∧ Rd rb s a w' ∧ w.grownBy w' (some rb) := by
  have c0 := h.c0
  have c1 := h.c1
  have fz := h.fz
  have hn : ¬ (a < s.size ∧ lo ≤ Pl.bt s a ∧ Pl.bt s a ≤ hi) := of_decide_eq_false hb
  clear hb
  by_cases hend : a = s.size
  · have he : ((a : Int) == (s.size : Int)) = true := by simp; omega
    clear hend hn
    go_enter Try.func44, Try.ntmps44
    go_wp2_with fail
    go_quiet (fail)
    go_wp2
    go_ret2
    exact ⟨rfl, h.of_below (below_drewN (Below.refl _ _) _), grown_drewN _ _ _⟩
  · have hlt : a < s.size := by omega
    have hlt' : (a : Int) < (s.size : Int) := by omega
    have he : ((a : Int) == (s.size : Int)) = false := by simp; omega
    rw [Pl.bt_eq hlt] at hn
    have hb8 := UInt8.toNat_lt s[a]
    by_cases h1 : s[a].toNat < lo
    · have h1d : decide ((s[a].toNat : Int) < (lo : Int)) = true := by simp; omega
      clear hn
      go_enter Try.func44, Try.ntmps44
      go_wp2_with fail
      go_quiet (fail)
      go_wp2
      go_ret2
      exact ⟨rfl, h.of_below (below_drewN (Below.refl _ _) _), grown_drewN _ _ _⟩
    · have h1d : decide ((s[a].toNat : Int) < (lo : Int)) = false := by simp; omega
      have h2i : (hi : Int) < (s[a].toNat : Int) := by omega
      clear hn
      go_enter Try.func44, Try.ntmps44
      go_wp2_with fail
      go_quiet (fail)
      go_wp2
      go_ret2
      exact ⟨rfl, h.of_below (below_drewN (Below.refl _ _) _), grown_drewN _ _ _⟩

set_option maxHeartbeats 1000000 in
theorem byteWithin_yes (rb : Nat) (s : ByteArray) (a lo hi : Nat) (w : World) (hm : s.size ≤ 80) (h : Rd rb s a w) (hb : Pl.byteIn s lo hi a = true) :
    Calls Try.prog 44 #[.pointer (some ⟨rb, 0, none⟩), .int .u8 (lo : Int), .int .u8 (hi : Int)] w fun e w' =>
      e = .returned (.tuple #[.int .u8 (Pl.bt s a : Int), .bool true]) ∧ Rd rb s (a + 1) w' ∧ w.grownBy w' (some rb) := by
  have c0 := h.c0
  have c1 := h.c1
  have fz := h.fz
  obtain ⟨hlt, h1, h2⟩ := Pl.byteIn_lt hb
  clear hb
  have hlt' : (a : Int) < (s.size : Int) := by omega
  have he : ((a : Int) == (s.size : Int)) = false := by simp; omega
  have HBE : Hid (Pl.bt s a = s[a].toNat) := Pl.bt_eq hlt
  rw [HBE.out] at h1 h2
  have hb8 := UInt8.toNat_lt s[a]
  have h1d : decide ((s[a].toNat : Int) < (lo : Int)) = false := by simp; omega
  have h2d : decide ((hi : Int) < (s[a].toNat : Int)) = false := by simp; omega
  go_enter Try.func44, Try.ntmps44
  go_wp2_with fail
  go_quiet (fail)
  go_wp2
  go_quiet (fail)
  go_wp2
  go_ret2
  have e1 : ((a + 1 : Nat) : Int) = (a : Int) + 1 := by omega
  refine ⟨by rw [HBE.out]; rfl, ?_, ?_⟩
  · rw [← e1]
    exact ((h.of_below (below_drewN (Below.refl _ _) _)).set (a + 1)).of_below (below_drewN (Below.refl _ _) _)
  · exact grown_trans (grown_trans (grown_drewN _ _ _) (grown_set _ rb 1 _)) (grown_drewN _ _ _)

theorem sign_no (rb : Nat) (s : ByteArray) (a c : Nat) (w : World) (hm : s.size ≤ 80) (ha : a ≤ s.size) (h : Rd rb s a w) (hb : Pl.byteIn s c c a = false) :
    Calls Try.prog 32 #[.pointer (some ⟨rb, 0, none⟩), .int .u8 (c : Int)] w fun e w' => e = .returned (.bool false) ∧ Rd rb s a w' ∧ w.grownBy w' (some rb) := by
  have HB : Hid (Pl.byteIn s c c a = false) := hb
  clear hb
  go_enter Try.func32, Try.ntmps32
  go_wp2_with (go_at_call 44; refine (byteWithin_no rb s a c c _ hm ha h HB.out).mono ?_; rintro e w1 ⟨rfl, hr, hg⟩)
  go_ret
  exact ⟨rfl, hr, hg⟩

theorem sign_yes (rb : Nat) (s : ByteArray) (a c : Nat) (w : World) (hm : s.size ≤ 80) (h : Rd rb s a w) (hb : Pl.byteIn s c c a = true) :
    Calls Try.prog 32 #[.pointer (some ⟨rb, 0, none⟩), .int .u8 (c : Int)] w fun e w' => e = .returned (.bool true) ∧ Rd rb s (a + 1) w' ∧ w.grownBy w' (some rb) := by
  have HB : Hid (Pl.byteIn s c c a = true) := hb
  clear hb
  go_enter Try.func32, Try.ntmps32
  go_wp2_with (go_at_call 44; refine (byteWithin_yes rb s a c c _ hm h HB.out).mono ?_; rintro e w1 ⟨rfl, hr, hg⟩)
  go_ret
  exact ⟨rfl, hr, hg⟩

/-- Sign, in one row: for arguments that are numerals. -/
theorem sign_at (rb : Nat) (s : ByteArray) (a c : Nat) (ci : Int) (hci : ci = (c : Int)) (w : World) (hm : s.size ≤ 80) (ha : a ≤ s.size) (h : Rd rb s a w) :
    Calls Try.prog 32 #[.pointer (some ⟨rb, 0, none⟩), .int .u8 ci] w fun e w' => e = .returned (.bool (Pl.sign s c a).1) ∧ Rd rb s (Pl.sign s c a).2 w' ∧ w.grownBy w' (some rb) := by
  subst hci
  by_cases hb : Pl.byteIn s c c a = true
  · simp only [Pl.sign, hb, if_true]; exact sign_yes rb s a c w hm h hb
  · have hb' : Pl.byteIn s c c a = false := by simpa using hb
    simp only [Pl.sign, hb', Bool.false_eq_true, if_false]; exact sign_no rb s a c w hm ha h hb'

end Go.Proofs.Ytcmgclckknpecaa
