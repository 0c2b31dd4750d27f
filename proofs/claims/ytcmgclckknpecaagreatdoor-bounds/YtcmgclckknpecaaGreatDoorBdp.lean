/- The law on borders: what it asks of characters, plain; its function 'border'. -/
import Derived.Test.YtcmgclckknpecaaGreatDoorLck
import Derived.Test.YtcmgclckknpecaaGreatDoorLeafs
namespace Go.Proofs.YtcmgclckknpecaaGreatDoor
open Go.RowKit Go.Shelf
namespace Pl
/-- Where the character in place j must begin. -/
def atc (i : Nat) (xs : Ch3) (j : Nat) : Nat := if j = 0 then i else tox xs (j - 1)
theorem cs_end (g : Nat → Nat) (n : Nat) : ∀ m i, i ≤ n → n ≤ i + m → atc i (cs g n m i) (cs g n m i).length = n
  | 0, i, h1, h2 => by simp [cs, atc]; omega
  | m + 1, i, h1, h2 => by
    by_cases hi : i < n
    · have e : cs g n (m + 1) i = (code (fun j => g (i + j)) (n - i), i, i + size (fun j => g (i + j)) (n - i)) :: cs g n m (i + size (fun j => g (i + j)) (n - i)) := by rw [cs, if_pos hi]
      have hsz := size_ge (fun j => g (i + j)) (n - i)
      have hsl := size_le (fun j => g (i + j)) (n - i) (by omega)
      have ih := cs_end g n m (i + size (fun j => g (i + j)) (n - i)) (by omega) (by omega)
      rw [e]
      obtain ⟨l, hl⟩ : ∃ l, cs g n m (i + size (fun j => g (i + j)) (n - i)) = l := ⟨_, rfl⟩
      rw [hl] at ih ⊢
      simp only [List.length_cons]
      unfold atc at ih ⊢
      rw [if_neg (by omega)]
      cases l with
      | nil => simpa [tox] using ih
      | cons y r =>
        simp only [List.length_cons] at ih ⊢
        rw [if_neg (by omega)] at ih
        simpa [tox] using ih
    · have e : cs g n (m + 1) i = [] := by rw [cs, if_neg hi]
      rw [e]; simp [atc]; omega
theorem cs_four (g : Nat → Nat) (n : Nat) : ∀ m i, ∀ x ∈ cs g n m i, x.2.2 ≤ x.2.1 + 4
  | 0, i, x, h => by simp [cs] at h
  | m + 1, i, x, h => by
    rw [cs] at h
    split at h
    · rcases List.mem_cons.1 h with rfl | h
      · have := size_le4 (fun j => g (i + j)) (n - i)
        show i + _ ≤ i + 4
        omega
      · exact cs_four g n m _ x h
    · simp at h
theorem cs_lt (g : Nat → Nat) (n : Nat) : ∀ m i, ∀ x ∈ cs g n m i, x.2.1 < n
  | 0, i, x, h => by simp [cs] at h
  | m + 1, i, x, h => by
    rw [cs] at h
    split at h
    · rcases List.mem_cons.1 h with rfl | h
      · assumption
      · exact cs_lt g n m _ x h
    · simp at h
/-- All that the law asks of the character in place j. -/
theorem cs_law (s : ByteArray) (xs : Ch3) (h : cs (bt s) s.size s.size 0 = xs) (j : Nat) (hj : j < xs.length) :
    frx xs j = atc 0 xs j ∧ tox xs j = atc 0 xs (j + 1) ∧ frx xs j < tox xs j ∧ tox xs j ≤ frx xs j + 4 ∧ cdx xs j ≤ 1114111 ∧ frx xs j < s.size := by
  have hc := cs_ch (bt s) s.size s.size 0
  have ho := cs_ok s s.size 0
  have h4 := cs_four (bt s) s.size s.size 0
  have hl := cs_lt (bt s) s.size s.size 0
  rw [h] at hc ho h4 hl
  obtain ⟨a1, a2, a3, _⟩ := hc j hj
  refine ⟨?_, ?_, ?_, ?_, ?_, by rw [(frx_get hj).1]; exact hl _ (List.getElem_mem hj)⟩
  · rw [(frx_get hj).1]
    unfold atc
    by_cases h0 : j = 0
    · rw [if_pos h0]; exact a1 h0
    · rw [if_neg h0, (frx_get (by omega : j - 1 < xs.length)).2]
      exact a2 (j - 1) (by omega) (by omega)
  · simp [atc]
  · rw [(frx_get hj).1, (frx_get hj).2]; exact a3
  · rw [(frx_get hj).1, (frx_get hj).2]; exact h4 _ (List.getElem_mem hj)
  · rw [cdx_eq hj]
    have := ho _ (List.getElem_mem hj)
    unfold okc at this
    omega
/-- The position of the token ahead. -/
def lastP (ts : List Tc) (j : Nat) : Nat := if j = 0 then 0 else ((ts[j - 1]?).map (·.2.1)).getD 0
theorem tok_law {b : Nat → Prop} {K : Nat} {ts : List Tc} (h : TkI b K ts) (j : Nat) (hj : j < ts.length) : b (ts[j]).2.2.1 ∧ b (ts[j]).2.2.2 ∧ (ts[j]).2.2.1 < (ts[j]).2.2.2 ∧ lastP ts j ≤ (ts[j]).2.1 ∧ 1 ≤ (en (ts[j]).1).size ∧ lastP ts (j + 1) = (ts[j]).2.1 := by
  obtain ⟨_, h2, _, h4, h5, h6⟩ := h.ok _ (List.getElem_mem hj)
  refine ⟨h4, h5, h6, ?_, ?_, ?_⟩
  · unfold lastP
    by_cases h0 : j = 0
    · rw [if_pos h0]; omega
    · rw [if_neg h0, List.getElem?_eq_getElem (by omega : j - 1 < ts.length)]
      exact List.pairwise_iff_getElem.1 h.ps (j - 1) j (by omega) hj (by omega)
  · rw [en_size]
    have := (eb_le (ts[j]).1).1
    have : (ts[j]).1.length ≠ 0 := fun e => h2 (List.length_eq_zero_iff.1 e)
    omega
  · simp [lastP, hj]
end Pl

set_option maxHeartbeats 1000000 in
theorem border_ok (g cap : Nat) (xs : Ch3) (a : Option Addr) (w : World) (hC : Cr g 0 xs w) (ha : 0 < xs.length → a = some ⟨g, 0, none⟩) (p : Nat) (HP : Hid (Pl.bdr xs p)) (hl : xs.length ≤ 120) :
    Calls Tryz.prog 18 #[.slice a xs.length cap, .int .i64 (p : Int)] w fun e w' => e = .returned (.bool true) ∧ w' = w := by
  by_cases hp : p = 0
  · subst hp
    go_enter Tryz.func18, Tryz.ntmps18
    go_wp2
    go_ret
    exact ⟨rfl, rfl⟩
  · have hpI : ¬ (p : Int) = 0 := by omega
    obtain ⟨k, hk, hkp⟩ : ∃ k, ∃ h : k < xs.length, (xs[k]).2.2 = p := by
      rcases HP.out with h | ⟨x, hx, hxp⟩
      · exact absurd h hp
      · obtain ⟨k, hk, rfl⟩ := List.mem_iff_getElem.1 hx
        exact ⟨k, hk, hxp⟩
    have HK : Hid ((xs[k]).2.2 = p) := hkp
    clear hkp
    obtain rfl := ha (by omega)
    go_enter Tryz.func18, Tryz.ntmps18
    go_wp2_with fail
    go_loopw [5] (fun i wr => ∃ j : Nat, i = .int .i64 (j : Int) ∧ j ≤ k ∧ wr = w) (fun i _ => xs.length - (intOf i).toNat)
    case atStart => exact ⟨0, rfl, by omega, rfl⟩
    case round =>
      obtain ⟨j, rfl, hj, hw⟩ := hrel
      subst hw
      have hjl : j < xs.length := by omega
      have hjI : (j : Int) < (xs.length : Int) := by omega
      obtain ⟨c0, c1, c2⟩ := hC.c j hjl
      obtain ⟨q, hq⟩ : ∃ q, (xs[j]).2.2 = q := ⟨_, rfl⟩
      rw [hq] at c2
      simp only [Nat.zero_add] at c0 c1 c2
      by_cases hqp : q = p
      · subst hqp
        go_wp2_with fail
        go_ret
        exact ⟨rfl, rfl⟩
      · have hqI : ¬ (q : Int) = (p : Int) := by omega
        have hjk : j ≠ k := fun h => hqp (by subst h; rw [← hq]; exact HK.out)
        go_wp2_with fail
        exact ⟨⟨j + 1, by go_num, by omega, by trivial⟩, by simp [intOf]; omega⟩

end Go.Proofs.YtcmgclckknpecaaGreatDoor
