import Derived.Test.YtcmgclckknpecaaCom
import Derived.Lib.Strings
namespace Go.Proofs.Ytcmgclckknpecaa
open Go.RowKit
namespace Pl
theorem cm_ge_iff (s : ByteArray) (a : Nat) (w : ByteArray) : ∀ m k d, k + m = w.size → k ≤ d → (d ≤ cm s a w m k ↔ ∀ j, k ≤ j → j < d → j < w.size ∧ a + j < s.size ∧ bt s (a + j) = bt w j)
  | 0, k, d, hm, hk => by
    unfold cm
    refine ⟨fun h j h1 h2 => by omega, fun h => ?_⟩
    rcases Nat.lt_or_ge k d with h' | h'
    · have := h k (Nat.le_refl _) h'; omega
    · exact h'
  | m + 1, k, d, hm, hk => by
    unfold cm
    by_cases hc : k < w.size ∧ a + k < s.size ∧ bt s (a + k) = bt w k
    · rw [if_pos hc]
      rcases Nat.lt_or_ge k d with h' | h'
      · rw [cm_ge_iff s a w m (k + 1) d (by omega) (by omega)]
        refine ⟨fun h j h1 h2 => ?_, fun h j h1 h2 => h j (by omega) h2⟩
        rcases Nat.lt_or_ge k j with h3 | h3
        · exact h j h3 h2
        · obtain rfl : j = k := by omega
          exact hc
      · refine ⟨fun _ j h1 h2 => by omega, fun _ => ?_⟩
        have := cm_ge s a w m (k + 1); omega
    · rw [if_neg hc]
      refine ⟨fun h j h1 h2 => by omega, fun h => ?_⟩
      rcases Nat.lt_or_ge k d with h' | h'
      · exact absurd (h k (Nat.le_refl _) h') hc
      · exact h'
theorem com_ge_iff (s : ByteArray) (a : Nat) (w : ByteArray) (d : Nat) : d ≤ com s a w ↔ ∀ j, j < d → j < w.size ∧ a + j < s.size ∧ bt s (a + j) = bt w j := by
  unfold com
  rw [cm_ge_iff s a w w.size 0 d (by omega) (Nat.zero_le _)]
  exact ⟨fun h j hj => h j (Nat.zero_le _) hj, fun h j _ hj => h j hj⟩

def Full (s : ByteArray) (a : Nat) (w : ByteArray) : Prop := com s a w = w.size
theorem nm_some (s : ByteArray) (a : Nat) : ∀ (names : List ByteArray) (i0 lg i : Nat) (hi : i < names.length), Full s a (names[i]) → (∀ j (hj : j < names.length), Full s a (names[j]) → j = i) → nm s a names i0 lg = (some (i0 + i), a + (names[i]).size)
  | w :: r, i0, lg, 0, _, hf, _ => by unfold nm; rw [if_pos (show com s a w = w.size from hf)]; simp
  | w :: r, i0, lg, i + 1, hi, hf, hu => by
    have hw : ¬ Full s a w := fun e => by have := hu 0 (by simp) e; omega
    unfold nm
    rw [if_neg (show ¬ com s a w = w.size from hw), nm_some s a r (i0 + 1) _ i (by simpa using hi) (by simpa using hf) (fun j hj hfj => by have := hu (j + 1) (by simpa using hj) (by simpa using hfj); omega)]
    simp; omega
theorem nm_none (s : ByteArray) (a : Nat) : ∀ (names : List ByteArray) (i0 lg M : Nat), (∀ w ∈ names, ¬ Full s a w) → lg ≤ M → (∀ w ∈ names, com s a w ≤ M) → (lg = M ∨ ∃ w ∈ names, com s a w = M) → nm s a names i0 lg = (none, a + M)
  | [], i0, lg, M, _, hlg, _, he => by
    unfold nm
    rcases he with rfl | ⟨w, hw, _⟩
    · rfl
    · simp at hw
  | w :: r, i0, lg, M, hn, hlg, hle, he => by
    unfold nm
    rw [if_neg (show ¬ com s a w = w.size from hn w (by simp))]
    refine nm_none s a r (i0 + 1) _ M (fun x hx => hn x (by simp [hx])) (by have := hle w (by simp); omega) (fun x hx => hle x (by simp [hx])) ?_
    have hw := hle w (by simp)
    rcases he with rfl | ⟨x, hx, hxe⟩
    · left; omega
    · rcases List.mem_cons.1 hx with rfl | hx
      · left; omega
      · exact .inr ⟨x, hx, hxe⟩
end Pl

theorem lates_any (w : World) : Calls Try.prog 21 #[] w fun e w' => e = .returned (.slice (some ⟨w.heap.size, 0, none⟩) 7 7) ∧ w' = w.alloc (.cells ((Pl.lates.map Value.string).toArray) 9) := by
  go_enter Try.func21, Try.ntmps21
  go_wp2
  go_ret
  exact ⟨rfl, rfl⟩
theorem starts_any (w : World) : Calls Try.prog 23 #[] w fun e w' => e = .returned (.slice (some ⟨w.heap.size, 0, none⟩) 6 6) ∧ w' = w.alloc (.cells ((Pl.starts.map Value.string).toArray) 9) := by
  go_enter Try.func23, Try.ntmps23
  go_wp2
  go_ret
  exact ⟨rfl, rfl⟩

theorem dataAt (y : ByteArray) (j : Nat) (h : j < y.size) : y.data.toList[j]? = some y[j] := by
  rw [Array.getElem?_toList]; exact Array.getElem?_eq_getElem h
theorem ext_eq (y s : ByteArray) (a k d : Nat) (hk : k = a + d) (hd : d ≤ y.size) (hs : a + d ≤ s.size) : ((y.extract 0 d).toList == (s.extract a k).toList) = decide (d ≤ Pl.com s a y) := by
  subst hk
  rw [Bool.eq_iff_iff]
  simp only [beq_iff_eq, decide_eq_true_eq]
  rw [Pl.com_ge_iff, ByteArray.toList_eq, ByteArray.toList_eq, Lib.extract_data, Lib.extract_data]
  have key : ∀ j, j < d → (((y.data.toList.drop 0).take (d - 0))[j]? = ((s.data.toList.drop a).take (a + d - a))[j]? ↔ Pl.bt s (a + j) = Pl.bt y j) := fun j hj => by
    rw [List.getElem?_take, List.getElem?_take, if_pos (by omega), if_pos (by omega), List.getElem?_drop, List.getElem?_drop, Nat.zero_add, dataAt y j (by omega), dataAt s (a + j) (by omega), Pl.bt_eq (s := s) (k := a + j) (by omega), Pl.bt_eq (s := y) (k := j) (by omega)]
    simp only [Option.some.injEq]
    exact ⟨fun e => by rw [e], fun e => (UInt8.toNat_inj.1 e).symm⟩
  constructor
  · intro h j hj
    exact ⟨by omega, by omega, (key j hj).1 (by rw [h])⟩
  · intro h
    apply List.ext_getElem?
    intro j
    by_cases hj : j < d
    · exact (key j hj).2 (h j hj).2.2
    · rw [List.getElem?_take, List.getElem?_take, if_neg (by omega), if_neg (by omega)]

set_option maxHeartbeats 400000 in
theorem begins_any (s y : ByteArray) (a k : Nat) (w : World) (hm : s.size ≤ 80) (_hy : y.size ≤ 8) (hak : a ≤ k) (hks : k ≤ s.size) :
    Calls Try.prog 33 #[.string y, .string s, .int .i64 (a : Int), .int .i64 (k : Int)] w fun e w' => e = .returned (.bool (decide (k - a ≤ Pl.com s a y))) ∧ ∃ q, w' = w.drewN q := by
  obtain ⟨d, hkd⟩ : ∃ d, k = a + d := ⟨k - a, by omega⟩
  have hsub : k - a = d := by omega
  rw [hsub]
  have HK : Hid (k = a + d) := hkd
  have hw1 : IntKind.i64.wrap ((k : Int) - (a : Int)) = (d : Int) := by rw [IntKind.wrap_i64]; omega
  have hd2 : a + d ≤ s.size := by omega
  clear hsub hkd
  by_cases hd : d ≤ y.size
  · have hd' : (d : Int) ≤ (y.size : Int) := by omega
    have hks' : (k : Int) ≤ (s.size : Int) := by omega
    have hak' : (a : Int) ≤ (k : Int) := by omega
    go_enter Try.func33, Try.ntmps33
    go_wp2_with fail
    go_quiet (fail)
    go_wp2
    go_ret
    refine ⟨?_, nq, rfl⟩
    rw [← ext_eq y s a k d HK.out hd hd2]
    rfl
  · have hdd : decide (d ≤ y.size) = false := by simp; omega
    have hno : decide (d ≤ Pl.com s a y) = false := by have := (Pl.com_le s a y (by omega)).1; simp; omega
    rw [hno]
    clear hno
    go_enter Try.func33, Try.ntmps33
    go_wp2_with fail
    go_quiet (fail)
    go_wp2
    go_ret
    exact ⟨rfl, nq, rfl⟩

end Go.Proofs.Ytcmgclckknpecaa
