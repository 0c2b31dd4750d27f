import Derived.Test.YtcmgclckknpecaaGreatDoorAAly
namespace Go.Proofs.YtcmgclckknpecaaGreatDoor
open Go.RowKit

set_option maxRecDepth 100000 in
theorem alone_long (s : ByteArray) (lo : Bool) (w : World) (hs : 120 < s.size) :
    Calls Tryz.prog 5 #[.string s, .bool lo] w fun e w' => e = .returned (.bool true) ∧ Below w.heap.size w w' := by
  have hs' : (120 : Int) < (s.size : Int) := by omega
  have HAN : Hid (∀ W, Calls Tryz.prog 13 #[.string ⟨#[119, 111, 114, 100, 115]⟩, .string s] W fun e w' => e = .returned (.tuple #[.slice none 0 0, .int .i64 1, .int .i64 0]) ∧ Below W.heap.size W w') := fun W =>
    analyse_long 0 _ s W (by decide +kernel) (by omega) (show Pl.nm (⟨#[119, 111, 114, 100, 115]⟩ : ByteArray) 0 Pl.starts 0 0 = (some 3, 5) by decide +kernel) (.inl ⟨rfl, by decide +kernel⟩) hs
  have HAM : Hid (∀ W, Calls Tryz.prog 13 #[.string ⟨#[119, 111, 114, 100, 115, 59, 108, 111, 119]⟩, .string s] W fun e w' => e = .returned (.tuple #[.slice none 0 0, .int .i64 1, .int .i64 0]) ∧ Below W.heap.size W w') := fun W =>
    analyse_long 1 _ s W (by decide +kernel) (by omega) (show Pl.nm (⟨#[119, 111, 114, 100, 115, 59, 108, 111, 119]⟩ : ByteArray) 0 Pl.starts 0 0 = (some 3, 5) by decide +kernel) (.inr ⟨rfl, by decide +kernel, by decide +kernel, by decide +kernel⟩) hs
  cases lo with
  | false =>
    go_enter Tryz.func5, Tryz.ntmps5
    go_wp2_with fail
    refine (HAN.out _).mono ?_
    rintro e w1 ⟨rfl, hB1⟩
    go_wp2_with (go_at_call 16; refine (num_any _ _).mono ?_; rintro e w' ⟨rfl, hw⟩; rw [hw]; clear hw w')
    go_ret
    exact ⟨rfl, hB1⟩
  | true =>
    go_enter Tryz.func5, Tryz.ntmps5
    go_wp2_with fail
    refine (HAM.out _).mono ?_
    rintro e w1 ⟨rfl, hB1⟩
    go_wp2_with (go_at_call 16; refine (num_any _ _).mono ?_; rintro e w' ⟨rfl, hw⟩; rw [hw]; clear hw w')
    go_ret
    exact ⟨rfl, hB1⟩

theorem alone_any (s : ByteArray) (lo : Bool) (w : World) :
    Calls Tryz.prog 5 #[.string s, .bool lo] w fun e w' => e = .returned (.bool true) ∧ Below w.heap.size w w' := by
  by_cases h : s.size ≤ 120
  · cases lo with
    | false => exact alone_words s w h
    | true => exact alone_lows s w h
  · exact alone_long s lo w (by omega)

end Go.Proofs.YtcmgclckknpecaaGreatDoor
