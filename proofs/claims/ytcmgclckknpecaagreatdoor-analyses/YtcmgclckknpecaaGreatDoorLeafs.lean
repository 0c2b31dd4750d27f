import Derived.Test.YtcmgclckknpecaaGreatDoorRows
import Derived.Test.YtcmgclckknpecaaGreatDoorPlain
import Derived.WalkKit
import Derived.WalkSpells
import Derived.WalkLawsBesides
import Derived.Deep.QuietTactic
import Derived.BigQuiet
import Derived.Deep.Light
namespace Go.Proofs.YtcmgclckknpecaaGreatDoor
open Go.RowKit

/-- What the first byte says: length, and bounds of the second byte. -/
def ShapeOf (b L lo hi : Int) : Prop := L = Pl.lenOf b.toNat ∧ (2 ≤ L → lo = Pl.loOf b.toNat ∧ hi = Pl.hiOf b.toNat)
set_option maxHeartbeats 1000000 in
theorem shapeOf_any (b : Int) (w : World) (h0 : 0 ≤ b) (h1 : b ≤ 255) :
    Calls Tryz.prog 145 #[.int .u8 b] w fun e w' => ∃ L lo hi, e = .returned (.agg #[.int .i64 L, .int .u8 lo, .int .u8 hi]) ∧ ShapeOf b L lo hi ∧ Below w.heap.size w w' := by
  go_enter Tryz.func145, Tryz.ntmps145
  go_wp2
  all_goals
    refine ⟨rfl, ?_, ?_, ?_⟩
    rotate_left
    · simp [results, Tryz.results145, go_sem]; rfl
    · refine ⟨_, _, _, rfl, ?_, ?_⟩
      rotate_left
      · exact (Below.refl _ _).alloc (Nat.le_refl _) _
      · go_light
        try have q1 := ne_of_beq_false ‹(b == 224) = false›
        try have q2 := ne_of_beq_false ‹(b == 237) = false›
        try have q3 := ne_of_beq_false ‹(b == 240) = false›
        try have q4 := ne_of_beq_false ‹(b == 244) = false›
        try have p1 := eq_of_beq ‹(b == 224) = true›
        try have p2 := eq_of_beq ‹(b == 237) = true›
        try have p3 := eq_of_beq ‹(b == 240) = true›
        try have p4 := eq_of_beq ‹(b == 244) = true›
        unfold ShapeOf Pl.lenOf Pl.loOf Pl.hiOf
        refine ⟨?_, fun _ => ⟨?_, ?_⟩⟩
        all_goals (repeat' split)
        all_goals omega

/-- What may be byte k behind a first byte, as the second body has it. -/
def Taken (lo hi k c : Int) : Bool := if k = 1 then decide (lo ≤ c ∧ c ≤ hi) else decide (128 ≤ c ∧ c ≤ 191)

set_option maxHeartbeats 1000000 in
theorem takes_any (L lo hi k c : Int) (w : World) :
    Calls Tryz.prog 146 #[.agg #[.int .i64 L, .int .u8 lo, .int .u8 hi], .int .i64 k, .int .u8 c] w fun e w' => e = .returned (.bool (Taken lo hi k c)) ∧ w' = w.alloc (.cells #[.int .i64 L, .int .u8 lo, .int .u8 hi] 293) := by
  by_cases hk : k = 1
  · subst hk
    go_enter Tryz.func146, Tryz.ntmps146
    go_wp2
    · go_ret
      refine ⟨?_, rfl⟩
      have : lo ≤ c := by assumption
      simp [Taken, this]
    · go_ret
      refine ⟨?_, rfl⟩
      have : c < lo := by assumption
      simp [Taken]
      omega
  · have hk' : (k == 1) = false := by simpa using hk
    go_enter Tryz.func146, Tryz.ntmps146
    go_wp2
    · go_ret
      refine ⟨?_, rfl⟩
      have : 128 ≤ c := by assumption
      simp [Taken, this, hk]
    · go_ret
      refine ⟨?_, rfl⟩
      have : c < 128 := by assumption
      simp [Taken, hk]
      omega

theorem lead_mk {b N lo hi : Int} (h : N = (Pl.lenOf b.toNat : Int) - 1 ∧ lo = Pl.loOf b.toNat ∧ hi = Pl.hiOf b.toNat) :
    Ending.returned (.agg #[.int .i64 N, .int .u8 lo, .int .u8 hi]) = .returned (.agg #[.int .i64 ((Pl.lenOf b.toNat : Int) - 1), .int .u8 (Pl.loOf b.toNat), .int .u8 (Pl.hiOf b.toNat)]) := by
  obtain ⟨e1, e2, e3⟩ := h
  rw [e1, e2, e3]

set_option maxHeartbeats 1000000 in
theorem lead_any (b : Int) (w : World) (h0 : 0 ≤ b) (h1 : b ≤ 255) :
    Calls Tryz.prog 221 #[.int .u8 b] w fun e w' => e = .returned (.agg #[.int .i64 ((Pl.lenOf b.toNat : Int) - 1), .int .u8 (Pl.loOf b.toNat), .int .u8 (Pl.hiOf b.toNat)]) ∧ Below w.heap.size w w' := by
  go_enter Tryz.func221, Tryz.ntmps221
  go_wp2
  all_goals
    refine ⟨rfl, ?_, ?_, ?_⟩
    rotate_left
    · simp [results, Tryz.results221, go_sem]; rfl
    · refine ⟨lead_mk ?_, ?_⟩
      · go_light
        try have q1 := ne_of_beq_false ‹(b == 224) = false›
        try have q2 := ne_of_beq_false ‹(b == 237) = false›
        try have q3 := ne_of_beq_false ‹(b == 240) = false›
        try have q4 := ne_of_beq_false ‹(b == 244) = false›
        try have p1 := eq_of_beq ‹(b == 224) = true›
        try have p2 := eq_of_beq ‹(b == 237) = true›
        try have p3 := eq_of_beq ‹(b == 240) = true›
        try have p4 := eq_of_beq ‹(b == 244) = true›
        unfold Pl.lenOf Pl.loOf Pl.hiOf
        refine ⟨?_, ?_, ?_⟩
        all_goals (repeat' split)
        all_goals omega
      · exact ((Below.refl _ _).alloc (Nat.le_refl _) _).alloc (by simp) _

theorem num_any (n : Int) (w : World) : Calls Tryz.prog 16 #[.int .i64 n] w fun e w' => e = .returned (.int .i64 n) ∧ w' = w := by
  go_enter Tryz.func16, Tryz.ntmps16
  go_wp2
  go_ret
  exact ⟨rfl, rfl⟩

end Go.Proofs.YtcmgclckknpecaaGreatDoor
