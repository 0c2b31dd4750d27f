import Derived.Test.YtcmgclckknpecaaRch
namespace Go.Proofs.Ytcmgclckknpecaa
open Go.RowKit

set_option maxHeartbeats 1000000 in
/-- What both answer at a text that is too long. -/
theorem chain_long (s : ByteArray) (w : World) (hm : 80 < s.size) :
    Calls Try.prog 13 #[.string s] w fun e w' => ∃ p1 n1 c1 p2 n2 c2 p3 n3 c3 p4 n4 c4, ∃ t : ByteArray, ∃ x z : Int, e = .returned (.tuple #[.agg #[.slice p1 n1 c1, .string t, .slice p2 n2 c2, .slice p3 n3 c3, .int .i64 x, .int .i64 z, .slice p4 n4 c4], .int .i64 1, .int .i64 0]) ∧ Below w.heap.size w w' := by
  have hm' : (80 : Int) < (s.size : Int) := by omega
  have bR : Blk w.heap.size 49 #[.slice none 0 0, .string ⟨#[]⟩, .slice none 0 0, .slice none 0 0, .int .i64 0, .int .i64 0, .slice none 0 0] (w.alloc (.cells #[.slice none 0 0, .string ⟨#[]⟩, .slice none 0 0, .slice none 0 0, .int .i64 0, .int .i64 0, .slice none 0 0] 49)) := heap_alloc_new w _
  obtain ⟨⟨r0, r1, r2, r3, r4, r5, r6⟩, rf⟩ := bR.seven
  go_enter Try.func13, Try.ntmps13
  go_wp2
  refine bodyPost_ret (res13 rfl rfl rfl ⟨r0, r1, r2, r3, r4, r5, r6⟩) rfl ⟨_, _, _, _, _, _, _, _, _, _, _, _, _, _, _, rfl, ?_⟩
  exact (Below.refl _ w).alloc (Nat.le_refl _) _
theorem read_long (s : ByteArray) (w : World) (hm : 80 < s.size) :
    Calls Try.prog 14 #[.string s] w fun e w' => ∃ p n c, e = .returned (.tuple #[.slice p n c, .int .i64 1, .int .i64 0]) ∧ Below w.heap.size w w' := by
  have hm' : (80 : Int) < (s.size : Int) := by omega
  go_enter Try.func14, Try.ntmps14
  go_wp2
  go_ret3
  exact ⟨none, 0, 0, rfl, Below.refl _ _⟩

/-- The error and the place that both answer. -/
def ansOf (s : ByteArray) : Nat × Nat := if 80 < s.size then (1, 0) else verdict (Pl.chn s (s.size + 1) false 0 0)

theorem chain_all (s : ByteArray) (w : World) (cd at_ : Nat) (h : Hid (ansOf s = (cd, at_))) :
    Calls Try.prog 13 #[.string s] w fun e w' => ∃ p1 n1 c1 p2 n2 c2 p3 n3 c3 p4 n4 c4, ∃ t : ByteArray, ∃ x z : Int, e = .returned (.tuple #[.agg #[.slice p1 n1 c1, .string t, .slice p2 n2 c2, .slice p3 n3 c3, .int .i64 x, .int .i64 z, .slice p4 n4 c4], .int .i64 (cd : Int), .int .i64 (at_ : Int)]) ∧ Below w.heap.size w w' := by
  have h0 := h.out
  unfold ansOf at h0
  by_cases hm : 80 < s.size
  · rw [if_pos hm] at h0
    simp only [Prod.mk.injEq] at h0
    obtain ⟨rfl, rfl⟩ := h0
    exact chain_long s w hm
  · rw [if_neg hm] at h0
    exact chain_any s w (by omega) _ rfl cd at_ h0
theorem read_all (s : ByteArray) (w : World) (cd at_ : Nat) (h : Hid (ansOf s = (cd, at_))) :
    Calls Try.prog 14 #[.string s] w fun e w' => ∃ p n c, e = .returned (.tuple #[.slice p n c, .int .i64 (cd : Int), .int .i64 (at_ : Int)]) ∧ Below w.heap.size w w' := by
  have h0 := h.out
  unfold ansOf at h0
  by_cases hm : 80 < s.size
  · rw [if_pos hm] at h0
    simp only [Prod.mk.injEq] at h0
    obtain ⟨rfl, rfl⟩ := h0
    exact read_long s w hm
  · rw [if_neg hm] at h0
    exact read_any s w (by omega) _ rfl cd at_ h0

theorem check_any (s : ByteArray) (w : World) (cd at_ : Nat) (h : Hid (ansOf s = (cd, at_))) :
    Calls Try.prog 8 #[.string s] w fun e w' => e = .returned (.tuple #[.int .i64 (cd : Int), .int .i64 (at_ : Int)]) ∧ Below w.heap.size w w' := by
  go_enter Try.func8, Try.ntmps8
  go_wp2_with fail
  refine (chain_all s _ cd at_ h).mono ?_
  rintro e w2 ⟨p1, n1, c1, p2, n2, c2, p3, n3, c3, p4, n4, c4, t, x, z, rfl, hB⟩
  go_wp2
  go_ret2
  exact ⟨rfl, hB.alloc hB.size _⟩
theorem refcheck_any (s : ByteArray) (w : World) (cd at_ : Nat) (h : Hid (ansOf s = (cd, at_))) :
    Calls Try.prog 9 #[.string s] w fun e w' => e = .returned (.tuple #[.int .i64 (cd : Int), .int .i64 (at_ : Int)]) ∧ Below w.heap.size w w' := by
  go_enter Try.func9, Try.ntmps9
  go_wp2_with fail
  refine (read_all s _ cd at_ h).mono ?_
  rintro e w2 ⟨p, n, c, rfl, hB⟩
  go_wp2
  go_ret2
  exact ⟨rfl, hB⟩

theorem checks_any (s : ByteArray) (w : World) :
    Calls Try.prog 4 #[.string s] w fun e w' => e = .returned (.bool true) ∧ Below w.heap.size w w' := by
  obtain ⟨⟨cd, at_⟩, ha⟩ : ∃ r, ansOf s = r := ⟨_, rfl⟩
  have HA : Hid (ansOf s = (cd, at_)) := ha
  clear ha
  go_enter Try.func4, Try.ntmps4
  go_wp2_with fail
  refine (check_any s _ cd at_ HA).mono ?_
  rintro e w2 ⟨rfl, hB⟩
  go_wp2_with fail
  refine (refcheck_any s _ cd at_ HA).mono ?_
  rintro e w3 ⟨rfl, hB2⟩
  go_wp2_with fail
  refine (num_any _ _).mono ?_
  rintro e w4 ⟨rfl, rfl⟩
  go_wp2
  go_ret
  exact ⟨rfl, hB.trans (hB2.mono hB.size)⟩

end Go.Proofs.Ytcmgclckknpecaa
