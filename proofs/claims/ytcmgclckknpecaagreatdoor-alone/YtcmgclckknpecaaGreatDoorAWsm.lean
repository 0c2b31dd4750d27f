import Derived.Test.YtcmgclckknpecaaGreatDoorAWtm
import Derived.Lib.OthersKept
namespace Go.Proofs.YtcmgclckknpecaaGreatDoor
open Go.RowKit Go.Shelf

/-- A text with each character's small form, from place pos on, as range over a string goes through it. -/
def Pl.smlFrom (s : ByteArray) : Nat → Nat → List UInt8
  | 0, _ => []
  | m + 1, pos => if pos < s.size then Lib.encodeRune ((Pl.sml (Utf8.decode s pos).1 : Nat) : Int) ++ Pl.smlFrom s m (pos + (Utf8.decode s pos).2) else []
def Pl.smlS (s : ByteArray) : ByteArray := ⟨(Pl.smlFrom s s.size 0).toArray⟩
theorem Pl.smlFrom_end (s : ByteArray) (m pos : Nat) (h : ¬ pos < s.size) : Pl.smlFrom s m pos = [] := by
  cases m with
  | zero => rfl
  | succ f => simp [Pl.smlFrom, h]
theorem width_pos (s : ByteArray) (pos : Nat) (h : pos < s.size) : 1 ≤ (Utf8.decode s pos).2 := by
  by_cases ha : (s[pos]'h).toNat < 128
  · rw [decode_ascii s pos h ha]
    exact Nat.le_refl _
  · exact (decode_high s pos h (by omega)).2
theorem sml_le (c : Nat) (h : c ≤ 2147483647) : Pl.sml c ≤ 2147483647 := by
  unfold Pl.sml
  split
  · rename_i hc
    have : c ≤ 2000 := by
      unfold Pl.isCap Pl.wit at hc
      split at hc
      · simp at hc
      · simp at hc; omega
    omega
  · exact h

set_option maxHeartbeats 4000000 in
set_option maxRecDepth 1000000 in
theorem small_any (s : ByteArray) (w : World) (hs : s.size ≤ 1099511627776) :
    Calls Tryz.prog 205 #[.string s] w fun e w' => e = .returned (.string (Pl.smlS s)) ∧ Below w.heap.size w w' := by
  go_enter Tryz.func205, Tryz.ntmps205
  go_wp2
  go_loopw [] (fun wr => ∃ (pos fuel : Nat) (acc : List UInt8), Lib.IsBuilderF 166 5 w.heap.size w.heap.size (Lib.byteCells acc) wr ∧ wr.heap[w.heap.size + 1]? = some (.stringIter s pos) ∧ Below w.heap.size w wr ∧ Hid (acc ++ Pl.smlFrom s fuel pos = Pl.smlFrom s s.size 0) ∧ s.size ≤ pos + fuel ∧ acc.length ≤ 4 * pos) (fun wr => s.size - wr.iterPos (w.heap.size + 1))
  case atStart =>
    refine ⟨0, s.size, [], (Lib.IsBuilderF.of (Lib.fresh_isBuilder 166 5 w)).alloc _, ?_, ((Below.refl _ w).alloc (Nat.le_refl _) _).alloc (by simp) _, rfl, by omega, by simp⟩
    have := World.iter_heap (w.alloc (.cells #[.pointer none, .slice none 0 0] 166)) s 0
    simpa using this
  case round =>
    obtain ⟨pos, fuel, acc, hI, hit, hbw, HA, hfu, hal⟩ := hrel
    have hsz : w.heap.size + 1 < wr.heap.size := (Array.getElem?_eq_some_iff.1 hit).1
    by_cases hp : pos < s.size
    · have hnx : ∀ ty, (Instr.next (.pointer (some ⟨w.heap.size + 1, 0, none⟩)) true ty).run Tryz.prog wr = _ := fun ty => Lib.run_next_any_at wr (w.heap.size + 1) s pos ty hit hp
      have hwd := width_pos s pos hp
      have hd1 := decode_le s pos
      have hI2 := hI.iterAt hit (pos + (Utf8.decode s pos).2)
      have hit2 := Lib.iterAt_heap wr (w.heap.size + 1) s pos (pos + (Utf8.decode s pos).2) hit
      have hbw2 := Lib.below_iterAt hbw (k := w.heap.size + 1) (by omega) s (pos + (Utf8.decode s pos).2)
      have hsz2 : w.heap.size ≤ (wr.iterAt (w.heap.size + 1) s (pos + (Utf8.decode s pos).2)).heap.size := by rw [Lib.iterAt_size]; omega
      obtain ⟨f, rfl⟩ : ∃ f, fuel = f + 1 := ⟨fuel - 1, by omega⟩
      have hsl := sml_le (Utf8.decode s pos).1 hd1
      go_wp2_with (first
        | (go_at_call 304; refine (smallForm_any _ (by omega) _).mono ?_; rintro e w' ⟨rfl, rfl⟩)
        | (go_at_call 219; refine (writeRune_any w.heap.size w.heap.size _ _ (by omega) (by omega) _ hI2 (by rw [Lib.byteCells_length]; omega) hsz2).mono ?_; rintro e W1 ⟨rfl, h1, b1, k1⟩))
      have hl4 := Lib.runeCells_le ((Pl.sml (Utf8.decode s pos).1 : Nat) : Int)
      rw [Lib.runeCells_length] at hl4
      go_roundw
      case rel =>
        refine ⟨pos + (Utf8.decode s pos).2, f, acc ++ Lib.encodeRune ((Pl.sml (Utf8.decode s pos).1 : Nat) : Int), ?_, k1.iter hit2 (by omega), hbw2.trans b1, ?_, by omega, by simp; omega⟩
        · rw [Lib.byteCells_append, Lib.byteCells_encodeRune]; exact Or.inr h1
        · have := HA.out
          show _ = _
          rw [← this]; simp [Pl.smlFrom, hp]
      case measure =>
        simp only [World.iterPos, k1.iter hit2 (by omega), hit]
        omega
    · have hnx : ∀ ty, (Instr.next (.pointer (some ⟨w.heap.size + 1, 0, none⟩)) true ty).run Tryz.prog wr = _ := fun ty => Lib.run_next_end_at wr (w.heap.size + 1) s pos ty hit hp
      have hA := HA.out
      rw [Pl.smlFrom_end s fuel pos hp, List.append_nil] at hA
      have HA2 : Hid (acc = Pl.smlFrom s s.size 0) := hA
      clear hA HA
      go_wp2_with (go_at_call 59; refine (string_any w.heap.size w.heap.size acc _ hI (by omega)).mono ?_; rintro e W1 ⟨rfl, h1, b1, k1⟩)
      go_ret
      obtain rfl := HA2.out
      exact ⟨rfl, hbw.trans b1⟩

end Go.Proofs.YtcmgclckknpecaaGreatDoor
