import Derived.Test.YtcmgclckknpecaaPsl
import Derived.Test.YtcmgclckknpecaaPsn
import Derived.Test.YtcmgclckknpecaaPwo
namespace Go.Proofs.Ytcmgclckknpecaa
open Go.RowKit

def cutB (y : ByteArray) : Bool := (y.toList == [119, 111, 114, 100, 115] || y.toList == [98, 108, 97, 110, 107, 115]) || y.toList == [119, 104, 111, 108, 101]
set_option maxHeartbeats 400000 in
theorem cutter_any (y : ByteArray) (w : World) : Calls Try.prog 25 #[.string y] w fun e w' => e = .returned (.bool (cutB y)) ∧ w' = w := by
  have hc : cutB y = ((y.toList == [119, 111, 114, 100, 115] || y.toList == [98, 108, 97, 110, 107, 115]) || y.toList == [119, 104, 111, 108, 101]) := rfl
  by_cases h1 : (y.toList == [119, 111, 114, 100, 115]) = true
  · have hq : cutB y = true := by rw [hc, h1]; rfl
    rw [hq]
    clear hq hc
    go_enter Try.func25, Try.ntmps25
    go_wp2
    go_ret
    exact ⟨rfl, rfl⟩
  · have h1' : (y.toList == [119, 111, 114, 100, 115]) = false := eq_false_of_ne_true h1
    by_cases h2 : (y.toList == [98, 108, 97, 110, 107, 115]) = true
    · have hq : cutB y = true := by rw [hc, h1', h2]; rfl
      rw [hq]
      clear hq hc h1
      go_enter Try.func25, Try.ntmps25
      go_wp2
      go_ret
      exact ⟨rfl, rfl⟩
    · have h2' : (y.toList == [98, 108, 97, 110, 107, 115]) = false := eq_false_of_ne_true h2
      obtain ⟨q, h3⟩ : ∃ q, (y.toList == [119, 104, 111, 108, 101]) = q := ⟨_, rfl⟩
      have hq : cutB y = q := by rw [hc, h1', h2', h3]; rfl
      rw [hq]
      clear hq hc h1 h2
      go_enter Try.func25, Try.ntmps25
      go_wp2
      go_ret
      exact ⟨rfl, rfl⟩

theorem starts_diff : ∀ i : Fin 6, ∀ j : Fin 6, i ≠ j → ∃ p : Fin 8, p.1 < (Pl.starts.getD i.1 ⟨#[]⟩).size ∧ p.1 < (Pl.starts.getD j.1 ⟨#[]⟩).size ∧ Pl.bt (Pl.starts.getD i.1 ⟨#[]⟩) p.1 ≠ Pl.bt (Pl.starts.getD j.1 ⟨#[]⟩) p.1 := by decide +kernel
theorem lates_diff : ∀ i : Fin 7, ∀ j : Fin 7, i ≠ j → ∃ p : Fin 8, p.1 < (Pl.lates.getD i.1 ⟨#[]⟩).size ∧ p.1 < (Pl.lates.getD j.1 ⟨#[]⟩).size ∧ Pl.bt (Pl.lates.getD i.1 ⟨#[]⟩) p.1 ≠ Pl.bt (Pl.lates.getD j.1 ⟨#[]⟩) p.1 := by decide +kernel
theorem full_at {s : ByteArray} {a : Nat} {y : ByteArray} (h : Pl.Full s a y) (p : Nat) (hp : p < y.size) : Pl.bt s (a + p) = Pl.bt y p := by
  have h' : y.size ≤ Pl.com s a y := by rw [show Pl.com s a y = y.size from h]; exact Nat.le_refl _
  exact ((Pl.com_ge_iff s a y y.size).1 h' p hp).2.2
theorem getD_get {l : List ByteArray} {i : Nat} (hi : i < l.length) : l.getD i ⟨#[]⟩ = l[i] := by simp [List.getD, hi]
theorem starts_unique (s : ByteArray) (a : Nat) : ∀ i (hi : i < Pl.starts.length) j (hj : j < Pl.starts.length), Pl.Full s a (Pl.starts[i]) → Pl.Full s a (Pl.starts[j]) → i = j := fun i hi j hj hfi hfj => by
  by_cases e : i = j
  · exact e
  · obtain ⟨p, h1, h2, h3⟩ := starts_diff ⟨i, hi⟩ ⟨j, hj⟩ (fun e' => e (congrArg Fin.val e'))
    simp only [getD_get hi, getD_get hj] at h1 h2 h3
    exact absurd ((full_at hfi p.1 h1).symm.trans (full_at hfj p.1 h2)) h3
theorem lates_unique (s : ByteArray) (a : Nat) : ∀ i (hi : i < Pl.lates.length) j (hj : j < Pl.lates.length), Pl.Full s a (Pl.lates[i]) → Pl.Full s a (Pl.lates[j]) → i = j := fun i hi j hj hfi hfj => by
  by_cases e : i = j
  · exact e
  · obtain ⟨p, h1, h2, h3⟩ := lates_diff ⟨i, hi⟩ ⟨j, hj⟩ (fun e' => e (congrArg Fin.val e'))
    simp only [getD_get hi, getD_get hj] at h1 h2 h3
    exact absurd ((full_at hfi p.1 h1).symm.trans (full_at hfj p.1 h2)) h3
theorem starts_size : ∀ i (hi : i < Pl.starts.length), (Pl.starts[i]).size ≤ 8 := by decide +kernel
theorem lates_size : ∀ i (hi : i < Pl.lates.length), (Pl.lates[i]).size ≤ 8 := by decide +kernel
theorem starts_cut : ∀ i (hi : i < Pl.starts.length), cutB (Pl.starts[i]) = decide (3 ≤ i) := by decide +kernel

theorem stage_start (pb B0 : Nat) (s : ByteArray) (a i : Nat) (hi : i < Pl.starts.length) (lv : Value) (n : Nat) (xs : List Value) (w : World) (hBp : B0 ≤ pb) (h : Pn pb s a (-1) lv w) (hL : w.ownsRow B0 87 5 lv n xs) (hLp : lv.ownBlock ≠ some pb) (hn : n ≤ 80) (hm : s.size ≤ 80) (ha : a ≤ s.size) (o : Bool) (b : Nat) (HR : Hid (Pl.body s (Pl.kindS i) a = (o, b))) :
    Calls Try.prog 24 #[.pointer (some ⟨pb, 0, none⟩), .string (Pl.starts[i])] w fun e w' => e = .returned (.tuple #[]) ∧ ∃ lv' xs', Pn pb s b (badOf o b) lv' w' ∧ w'.ownsRow B0 87 5 lv' (n + 1) xs' ∧ lv'.ownBlock ≠ some pb ∧ Below B0 w w' := by
  have hi6 : i < 6 := hi
  obtain rfl | rfl | rfl | rfl | rfl | rfl : i = 0 ∨ i = 1 ∨ i = 2 ∨ i = 3 ∨ i = 4 ∨ i = 5 := by omega
  · obtain ⟨rfl, rfl⟩ : true = o ∧ a = b := by simpa [Pl.body, Pl.kindS] using HR.out
    change Calls Try.prog 24 #[.pointer (some ⟨pb, 0, none⟩), .string (⟨#[116, 97, 103, 115]⟩ : ByteArray)] w _
    exact stage_k0 pb B0 s a _ 3 (by decide) (by decide) lv n xs w hBp h hL hLp hn rfl
  · obtain ⟨rfl, rfl⟩ : true = o ∧ a = b := by simpa [Pl.body, Pl.kindS] using HR.out
    change Calls Try.prog 24 #[.pointer (some ⟨pb, 0, none⟩), .string (⟨#[102, 111, 108, 100]⟩ : ByteArray)] w _
    exact stage_k0 pb B0 s a _ 3 (by decide) (by decide) lv n xs w hBp h hL hLp hn rfl
  · have hr : Pl.lst s (Pl.pairP s) (s.size + 1) a = (o, b) := by simpa [Pl.body, Pl.kindS] using HR.out
    change Calls Try.prog 24 #[.pointer (some ⟨pb, 0, none⟩), .string (⟨#[109, 97, 112, 40]⟩ : ByteArray)] w _
    exact stage_map pb B0 s a _ 3 (by decide) (by decide) lv n xs w hBp h hL hLp hn hm ha rfl (by decide +kernel) o b hr
  · obtain ⟨rfl, rfl⟩ : true = o ∧ a = b := by simpa [Pl.body, Pl.kindS] using HR.out
    change Calls Try.prog 24 #[.pointer (some ⟨pb, 0, none⟩), .string (⟨#[119, 111, 114, 100, 115]⟩ : ByteArray)] w _
    exact stage_k0 pb B0 s a _ 4 (by decide) (by decide) lv n xs w hBp h hL hLp hn rfl
  · obtain ⟨rfl, rfl⟩ : true = o ∧ a = b := by simpa [Pl.body, Pl.kindS] using HR.out
    change Calls Try.prog 24 #[.pointer (some ⟨pb, 0, none⟩), .string (⟨#[98, 108, 97, 110, 107, 115]⟩ : ByteArray)] w _
    exact stage_k0 pb B0 s a _ 5 (by decide) (by decide) lv n xs w hBp h hL hLp hn rfl
  · obtain ⟨rfl, rfl⟩ : true = o ∧ a = b := by simpa [Pl.body, Pl.kindS] using HR.out
    change Calls Try.prog 24 #[.pointer (some ⟨pb, 0, none⟩), .string (⟨#[119, 104, 111, 108, 101]⟩ : ByteArray)] w _
    exact stage_k0 pb B0 s a _ 4 (by decide) (by decide) lv n xs w hBp h hL hLp hn rfl

theorem stage_late (pb B0 : Nat) (s : ByteArray) (a i : Nat) (hi : i < Pl.lates.length) (lv : Value) (n : Nat) (xs : List Value) (w : World) (hBp : B0 ≤ pb) (h : Pn pb s a (-1) lv w) (hL : w.ownsRow B0 87 5 lv n xs) (hLp : lv.ownBlock ≠ some pb) (hn : n ≤ 80) (hm : s.size ≤ 80) (ha : a ≤ s.size) (o : Bool) (b : Nat) (HR : Hid (Pl.body s (Pl.kindL i) a = (o, b))) :
    Calls Try.prog 24 #[.pointer (some ⟨pb, 0, none⟩), .string (Pl.lates[i])] w fun e w' => e = .returned (.tuple #[]) ∧ ∃ lv' xs', Pn pb s b (badOf o b) lv' w' ∧ w'.ownsRow B0 87 5 lv' (n + 1) xs' ∧ lv'.ownBlock ≠ some pb ∧ Below B0 w w' := by
  have hi6 : i < 7 := hi
  obtain rfl | rfl | rfl | rfl | rfl | rfl | rfl : i = 0 ∨ i = 1 ∨ i = 2 ∨ i = 3 ∨ i = 4 ∨ i = 5 ∨ i = 6 := by omega
  · obtain ⟨rfl, rfl⟩ : true = o ∧ a = b := by simpa [Pl.body, Pl.kindL] using HR.out
    change Calls Try.prog 24 #[.pointer (some ⟨pb, 0, none⟩), .string (⟨#[108, 111, 119]⟩ : ByteArray)] w _
    exact stage_k0 pb B0 s a _ 2 (by decide) (by decide) lv n xs w hBp h hL hLp hn rfl
  · obtain ⟨rfl, rfl⟩ : true = o ∧ a = b := by simpa [Pl.body, Pl.kindL] using HR.out
    change Calls Try.prog 24 #[.pointer (some ⟨pb, 0, none⟩), .string (⟨#[115, 116, 101, 109]⟩ : ByteArray)] w _
    exact stage_k0 pb B0 s a _ 3 (by decide) (by decide) lv n xs w hBp h hL hLp hn rfl
  · have hr : Pl.lst s (Pl.word s) (s.size + 1) a = (o, b) := by simpa [Pl.body, Pl.kindL] using HR.out
    change Calls Try.prog 24 #[.pointer (some ⟨pb, 0, none⟩), .string (⟨#[115, 116, 111, 112, 40]⟩ : ByteArray)] w _
    exact stage_stop pb B0 s a _ 4 (by decide) (by decide) lv n xs w hBp h hL hLp hn hm ha rfl (by decide +kernel) (by decide +kernel) (by decide +kernel) o b hr
  · have hr : Pl.lst s (Pl.pairP s) (s.size + 1) a = (o, b) := by simpa [Pl.body, Pl.kindL] using HR.out
    change Calls Try.prog 24 #[.pointer (some ⟨pb, 0, none⟩), .string (⟨#[115, 121, 110, 40]⟩ : ByteArray)] w _
    exact stage_syn pb B0 s a _ 3 (by decide) (by decide) lv n xs w hBp h hL hLp hn hm ha rfl (by decide +kernel) (by decide +kernel) o b hr
  · have hr : Pl.bnds s a = (o, b) := by simpa [Pl.body, Pl.kindL] using HR.out
    change Calls Try.prog 24 #[.pointer (some ⟨pb, 0, none⟩), .string (⟨#[108, 101, 110, 40]⟩ : ByteArray)] w _
    exact stage_num pb B0 s a _ 3 (by decide) (by decide) lv n xs w hBp h hL hLp hn hm ha rfl (by decide +kernel) (by decide +kernel) (by decide +kernel) o b hr
  · have hr : Pl.bnds s a = (o, b) := by simpa [Pl.body, Pl.kindL] using HR.out
    change Calls Try.prog 24 #[.pointer (some ⟨pb, 0, none⟩), .string (⟨#[103, 114, 97, 109, 40]⟩ : ByteArray)] w _
    exact stage_num pb B0 s a _ 4 (by decide) (by decide) lv n xs w hBp h hL hLp hn hm ha rfl (by decide +kernel) (by decide +kernel) (by decide +kernel) o b hr
  · have hr : Pl.bnds s a = (o, b) := by simpa [Pl.body, Pl.kindL] using HR.out
    change Calls Try.prog 24 #[.pointer (some ⟨pb, 0, none⟩), .string (⟨#[101, 100, 103, 101, 40]⟩ : ByteArray)] w _
    exact stage_num pb B0 s a _ 4 (by decide) (by decide) lv n xs w hBp h hL hLp hn hm ha rfl (by decide +kernel) (by decide +kernel) (by decide +kernel) o b hr

end Go.Proofs.Ytcmgclckknpecaa
