import Derived.Test.YtcmgclckknpecaaGreatDoorAApp
namespace Go.Proofs.YtcmgclckknpecaaGreatDoor
open Go.RowKit Go.Shelf

theorem ownsRow_base {w : World} {b b' : Nat} {e : TypeId} {size : Nat} {v : Value} {n : Nat} {xs : List Value} (h : w.ownsRow b e size v n xs) (hb : b' ≤ b) : w.ownsRow b' e size v n xs := by
  refine ⟨h.1, ?_⟩
  rcases h.2 with h | ⟨g, cap, cur, hv, hg, r⟩
  · exact .inl h
  · exact .inr ⟨g, cap, cur, hv, by omega, r⟩

set_option maxHeartbeats 400000 in
theorem collect_any (Bn : Nat) (s : ByteArray) (hm : s.size ≤ 120) (xs : List (Nat × Nat × Nat)) (hlen : xs.length ≤ 120) (HXS : Hid (Pl.cs (Pl.bt s) s.size s.size 0 = xs)) (w : World) (hBn : Bn < w.heap.size)
    (hc : w.cell? ⟨Bn, 0, none⟩ = some (.string s)) :
    Calls Tryz.prog 40 #[.func (.func 83) #[] #[.pointer (some ⟨Bn, 0, none⟩)]] w fun e W' => ∃ v, e = .returned v ∧ W'.ownsRow w.heap.size 38 3 v xs.length (xs.flatMap enc) ∧ Below w.heap.size w W' := by
  go_enter Tryz.func40, Tryz.ntmps40
  go_wp2_with (go_at_call 82; refine (callsIn_wide.1 (appendseq_in 3 (by omega) Bn s hm xs hlen HXS _ hBn hc)).mono ?_; rintro e w1 ⟨v, rfl, hrow, hB⟩)
  go_ret
  exact ⟨v, rfl, hrow, hB⟩

set_option maxHeartbeats 400000 in
theorem split_long (s : ByteArray) (w : World) (hl : 120 < s.size) :
    Calls Tryz.prog 17 #[.string s] w fun e w' => e = .returned (.tuple #[.slice none 0 0, .int .i64 1]) ∧ w' = w := by
  have hl' : (120 : Int) < (s.size : Int) := by omega
  go_enter Tryz.func17, Tryz.ntmps17
  go_wp2
  go_ret2
  exact ⟨rfl, rfl⟩

set_option maxHeartbeats 400000 in
theorem split_any (s : ByteArray) (w : World) (hm : s.size ≤ 120) (xs : List (Nat × Nat × Nat)) (HXS : Hid (Pl.cs (Pl.bt s) s.size s.size 0 = xs)) :
    Calls Tryz.prog 17 #[.string s] w fun e w' => ∃ v, e = .returned (.tuple #[v, .int .i64 0]) ∧ w'.ownsRow w.heap.size 38 3 v xs.length (xs.flatMap enc) ∧ Below w.heap.size w w' := by
  have hl' : ¬ (120 : Int) < (s.size : Int) := by omega
  have hlen : xs.length ≤ 120 := by have := Pl.cs_length (Pl.bt s) s.size s.size 0; rw [HXS.out] at this; omega
  have hB0 : Below w.heap.size w (w.alloc (.cells #[.string s] 9)) := (Below.refl _ w).alloc (Nat.le_refl _) _
  have HCol : Hid (Calls Tryz.prog 40 #[.func (.func 83) #[] #[.pointer (some ⟨w.heap.size, 0, none⟩)]] (w.alloc (.cells #[.string s] 9)) fun e W' => ∃ v, e = .returned v ∧ W'.ownsRow w.heap.size 38 3 v xs.length (xs.flatMap enc) ∧ Below w.heap.size w W') :=
    (collect_any w.heap.size s hm xs hlen HXS (w.alloc (.cells #[.string s] 9)) (by simp) (by simp [go_sem])).mono fun e W' ⟨v, he, hr, hB⟩ => ⟨v, he, ownsRow_base hr (by simp), hB0.trans (hB.mono (by simp))⟩
  go_enter Tryz.func17, Tryz.ntmps17
  go_wp2_with fail
  refine (callsIn_wide.1 (characters_in Fence.wide 3 trivial rfl s _)).mono ?_
  rintro e w1 ⟨rfl, rfl⟩
  go_wp2_with fail
  refine HCol.out.mono ?_
  rintro e w1 ⟨v, rfl, hrow, hB⟩
  go_wp2
  go_ret2
  exact ⟨v, rfl, hrow, hB⟩

end Go.Proofs.YtcmgclckknpecaaGreatDoor
