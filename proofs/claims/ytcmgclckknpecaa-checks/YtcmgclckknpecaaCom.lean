import Derived.Test.YtcmgclckknpecaaRdw
namespace Go.Proofs.Ytcmgclckknpecaa
open Go.RowKit

theorem com_extract (s : ByteArray) (a : Nat) (y : ByteArray) (ha : a ≤ s.size) : Pl.com (s.extract a s.size) 0 y = Pl.com s a y := by
  have key : ∀ m k, Pl.cm (s.extract a s.size) 0 y m k = Pl.cm s a y m k := by
    intro m
    induction m with
    | zero => intro k; rfl
    | succ m ih =>
      intro k
      have e1 : (0 + k < (s.extract a s.size).size) ↔ (a + k < s.size) := by simp; omega
      have e2 : Pl.bt (s.extract a s.size) (0 + k) = Pl.bt s (a + k) := by rw [Pl.bt_extract s a _ ha]; congr 1; omega
      unfold Pl.cm
      simp only [e1, e2, ih]
  exact key _ _

set_option maxHeartbeats 1000000 in
theorem common_any (x y : ByteArray) (w : World) (hx : x.size ≤ 80) (hy : y.size ≤ 80) :
    Calls Try.prog 46 #[.string x, .string y] w fun e w' => e = .returned (.int .i64 (Pl.com x 0 y : Int)) ∧ ∃ q, w' = w.drewN q := by
  obtain ⟨S, hS⟩ : ∃ S, Pl.com x 0 y = S := ⟨_, rfl⟩
  rw [hS]
  have HS : Hid (Pl.cm x 0 y (y.size - 0) 0 = S) := hS
  clear hS
  go_enter Try.func46, Try.ntmps46
  go_wp2
  go_loopw [5] (fun n wr => ∃ k q : Nat, n = .int .i64 (k : Int) ∧ k ≤ y.size ∧ k ≤ x.size ∧ Hid (Pl.cm x 0 y (y.size - k) k = S) ∧ wr = w.drewN q) (fun n _ => 100 - (intOf n).toNat)
  case atStart => exact ⟨0, 0, rfl, by omega, by omega, HS, rfl⟩
  case round =>
    obtain ⟨k, q, rfl, hk, hkx, HL, rfl⟩ := hrel
    by_cases h1 : k < x.size
    · have h1' : (k : Int) < (x.size : Int) := by omega
      by_cases h2 : k < y.size
      · have h2' : (k : Int) < (y.size : Int) := by omega
        have hbx : Pl.bt x (0 + k) = x[k].toNat := by rw [Nat.zero_add]; exact Pl.bt_eq h1
        have hby : Pl.bt y k = y[k].toNat := Pl.bt_eq h2
        by_cases h3 : x[k].toNat = y[k].toNat
        · have h3' : ((x[k].toNat : Int) == (y[k].toNat : Int)) = true := by simp; omega
          have HN : Hid (Pl.cm x 0 y (y.size - (k + 1)) (k + 1) = S) := Pl.cm_yes h2 (by omega) (by rw [hbx, hby]; exact h3) HL.out
          clear hbx hby h3
          go_wp2_with fail
          go_quiet (fail)
          go_wp2
          go_roundw
          case rel => exact ⟨k + 1, q + nq, by go_num, by omega, by omega, HN, rfl⟩
          case measure => simp [intOf]; omega
        · have h3' : ((x[k].toNat : Int) == (y[k].toNat : Int)) = false := by simp; omega
          have HN : Hid (S = k) := Pl.cm_no (by rintro ⟨_, _, e⟩; rw [hbx, hby] at e; exact h3 e) HL.out
          clear hbx hby h3
          go_wp2_with fail
          go_quiet (fail)
          go_wp2
          go_ret
          exact ⟨ret_int (by rw [HN.out]), q + nq, by simp⟩
      · have h2' : decide ((k : Int) < (y.size : Int)) = false := by simp; omega
        have HN : Hid (S = k) := Pl.cm_no (by rintro ⟨e, _⟩; exact h2 e) HL.out
        go_wp2_with fail
        go_quiet (fail)
        go_wp2
        go_ret
        exact ⟨ret_int (by rw [HN.out]), q + nq, by simp⟩
    · have h1' : decide ((k : Int) < (x.size : Int)) = false := by simp; omega
      have HN : Hid (S = k) := Pl.cm_no (by rintro ⟨_, e, _⟩; omega) HL.out
      go_wp2_with fail
      go_quiet (fail)
      go_wp2
      go_ret
      exact ⟨ret_int (by rw [HN.out]), q + nq, by simp⟩

end Go.Proofs.Ytcmgclckknpecaa
