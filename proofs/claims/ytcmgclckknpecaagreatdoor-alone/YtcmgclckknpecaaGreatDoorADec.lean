import Derived.Test.YtcmgclckknpecaaGreatDoorALeafs
import Derived.Test.YtcmgclckknpecaaGreatDoorABit
namespace Go.Proofs.YtcmgclckknpecaaGreatDoor
open Go.RowKit

theorem ret_int {k : IntKind} {a b : Int} (h : a = b) : Ending.returned (.int k a) = .returned (.int k b) := by rw [h]
theorem w64_byte (b : UInt8) : wrap64 (b.toNat : Int) = b.toNat := by
  have := UInt8.toNat_lt b
  unfold wrap64; omega

set_option maxHeartbeats 400000 in
theorem decode_one (t : ByteArray) (w : World) (hL : t.size = 1) :
    Calls Tryz.prog 147 #[.string t] w fun e w' => e = .returned (.int .i64 (Pl.bt t 0)) ∧ w' = w := by
  have h1 : ((t.size : Int) == 1) = true := by simp [hL]
  have hlt : 0 < t.size := by omega
  clear hL
  go_enter Tryz.func147, Tryz.ntmps147
  go_wp2
  go_ret
  refine ⟨?_, rfl⟩
  rw [Pl.bt_eq hlt]
  exact ret_int (w64_byte _)

set_option maxHeartbeats 400000 in
theorem decode_more (t : ByteArray) (w : World) (L : Nat) (h2 : t.size = L) (hL2 : 2 ≤ L) (hL4 : L ≤ 4) (hL : Pl.lenOf (Pl.bt t 0) = L) :
    Calls Tryz.prog 147 #[.string t] w fun e w' => e = .returned (.int .i64 (Pl.codeTo (Pl.bt t) L)) ∧ ∃ q, w' = w.drewN q := by
  have h1 : ((t.size : Int) == 1) = false := by simp; omega
  have hlt : 0 < t.size := by omega
  have hlt' : (0 : Int) < t.size := by omega
  have hb := UInt8.toNat_lt t[0]
  have hc : Pl.codeTo (Pl.bt t) 1 = if L = 2 then t[0].toNat % 32 else if L = 3 then t[0].toNat % 16 else t[0].toNat % 8 := by
    rw [Pl.codeTo_one, Pl.cd0, hL, Pl.bt_eq hlt]
    repeat' split
    all_goals first | rfl | omega
  have HC : Hid (Pl.codeTo (Pl.bt t) 1 = if L = 2 then t[0].toNat % 32 else if L = 3 then t[0].toNat % 16 else t[0].toNat % 8) := hc
  clear hc hL
  obtain rfl | rfl | rfl : L = 2 ∨ L = 3 ∨ L = 4 := by omega
  all_goals
    go_enter Tryz.func147, Tryz.ntmps147
    go_wp2
    go_quiet (fail)
    go_wp2
    go_loop [3, 4] (fun c a => ∃ k : Nat, 1 ≤ k ∧ k ≤ t.size ∧ a = .int .i64 k ∧ c = .int .i64 (Pl.codeTo (Pl.bt t) k)) (fun _ a => 4 - (intOf a).toNat)
    case atStart => 
      refine ⟨1, by omega, by omega, rfl, ?_⟩
      go_light
      have hc := HC.out
      simp at hc
      rw [hc]
      first | rw [i64_and31] | rw [i64_and15] | rw [i64_and7]
      go_num
    case round =>
      obtain ⟨k, hk1, hk2, rfl, rfl⟩ := hrel
      have hle : (Pl.codeTo (Pl.bt t) k : Int) ≤ 67108863 := by have := Pl.codeTo_le (Pl.bt t) (Pl.bt_lt t 0) (k := k) (by omega); omega
      by_cases hkl : k < t.size
      · have hbk := UInt8.toNat_lt t[k]
        have hs := Pl.codeTo_succ (Pl.bt t) hk1
        rw [Pl.bt_eq hkl] at hs
        have HS : Hid (Pl.codeTo (Pl.bt t) (k + 1) = Pl.codeTo (Pl.bt t) k * 64 + t[k].toNat % 64) := hs
        clear hs
        go_wp2
        go_round
        case rel =>
          refine ⟨k + 1, by omega, by omega, by go_num, ?_⟩
          go_light
          rw [HS.out, i64_and63, i64_or64 _ _ (by omega) (by omega) (by omega) (by omega)]
          go_num
        case measure => simp [intOf]; omega
      · go_wp2
        go_ret
        refine ⟨?_, nq, rfl⟩
        obtain rfl : k = t.size := by omega
        exact ret_int (by rw [h2])

end Go.Proofs.YtcmgclckknpecaaGreatDoor
