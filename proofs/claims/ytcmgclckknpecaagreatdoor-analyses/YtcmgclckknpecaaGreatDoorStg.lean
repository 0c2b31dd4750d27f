import Derived.Test.YtcmgclckknpecaaGreatDoorHgf
namespace Go.Proofs.YtcmgclckknpecaaGreatDoor
open Go.RowKit

theorem chn_count (s : ByteArray) : ∀ (m : Nat) (cut : Bool) (a c : Nat), (Pl.chn s m cut a c).2 ≤ c + m
  | 0, _, a, c => by simp [Pl.chn]
  | m + 1, cut, a, c => by
    obtain ⟨⟨res, b⟩, hnm⟩ : ∃ r, Pl.nm s a (if cut = true then Pl.lates else Pl.starts) 0 0 = r := ⟨_, rfl⟩
    cases res with
    | none => rw [chn_none s m cut a c b hnm]; exact Nat.le_add_right c (m + 1)
    | some i =>
      obtain ⟨⟨o, d⟩, hbd⟩ : ∃ r, Pl.body s (if cut = true then Pl.kindL i else Pl.kindS i) b = r := ⟨_, rfl⟩
      rw [chn_some s m cut a c b i o d hnm hbd]
      have ih := chn_count s m (cut || decide (3 ≤ i)) (d + 1) (c + 1)
      by_cases h1 : o = true
      · rw [if_pos h1]
        by_cases h2 : (cut = true ∨ 3 ≤ i) ∧ d = s.size
        · rw [if_pos h2]; show c + 1 ≤ _; omega
        · rw [if_neg h2]
          by_cases h3 : Pl.byteIn s 59 59 d = true
          · rw [if_pos h3]; omega
          · rw [if_neg h3]; show c + 1 ≤ _; omega
      · rw [if_neg h1]; show c + 1 ≤ _; omega

theorem stages_any (p1 : Option Addr) (n1 c1 : Nat) (t : ByteArray) (p2 : Option Addr) (n2 c2 : Nat) (p3 : Option Addr) (n3 c3 : Nat) (x z : Int) (p4 : Option Addr) (n4 c4 : Nat) (w : World) (hb : n1 + 1 + n4 ≤ 1000) :
    Calls Tryz.prog 64 #[.agg #[.slice p1 n1 c1, .string t, .slice p2 n2 c2, .slice p3 n3 c3, .int .i64 x, .int .i64 z, .slice p4 n4 c4]] w fun e w' => e = .returned (.int .i64 ((n1 : Int) + 1 + (n4 : Int))) ∧ Below w.heap.size w w' := by
  go_enter Tryz.func64, Tryz.ntmps64
  go_wp2
  go_ret
  exact ⟨rfl, (Below.refl _ _).alloc (Nat.le_refl _) _⟩

end Go.Proofs.YtcmgclckknpecaaGreatDoor
