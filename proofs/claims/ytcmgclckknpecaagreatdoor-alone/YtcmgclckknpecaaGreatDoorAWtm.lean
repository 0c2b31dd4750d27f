import Derived.Test.YtcmgclckknpecaaGreatDoorAWsh
import Derived.Test.YtcmgclckknpecaaGreatDoorAWit
import Derived.BigCall
namespace Go.Proofs.YtcmgclckknpecaaGreatDoor
open Go.RowKit Go.Shelf

/-- A row of characters as bytes. -/
def Pl.tbs (cs : List (Nat × Nat × Nat)) : List UInt8 := cs.flatMap fun x => Lib.encodeRune (x.1 : Int)
theorem Pl.tbs_le : ∀ cs : List (Nat × Nat × Nat), (Pl.tbs cs).length ≤ 4 * cs.length
  | [] => by simp [Pl.tbs]
  | x :: r => by
    have := Pl.tbs_le r
    have h4 := Lib.runeCells_le (x.1 : Int)
    rw [Lib.runeCells_length] at h4
    simp only [Pl.tbs, List.flatMap_cons, List.length_append, List.length_cons] at this ⊢
    omega
theorem Pl.tbs_snoc (cs : List (Nat × Nat × Nat)) (x : Nat × Nat × Nat) : Pl.tbs (cs ++ [x]) = Pl.tbs cs ++ Lib.encodeRune (x.1 : Int) := by simp [Pl.tbs]

set_option maxHeartbeats 4000000 in
set_option maxRecDepth 1000000 in
theorem termOf_any (g o cap : Nat) (cs : List (Nat × Nat × Nat)) (w : World) (hC : Cr g o cs w) (hg : g < w.heap.size) (hl : cs.length ≤ 268435456) (hcd : ∀ k, Pl.cdx cs k ≤ 67108863) :
    Calls Tryz.prog 130 #[.slice (some ⟨g, o, none⟩) cs.length cap] w fun e w' => e = .returned (.string ⟨(Pl.tbs cs).toArray⟩) ∧ Below w.heap.size w w' := by
  go_enter Tryz.func130, Tryz.ntmps130
  go_wp2
  go_loopw [8] (fun i wr => ∃ k : Nat, i = .int .i64 (k : Int) ∧ k ≤ cs.length ∧ Lib.IsBuilderF 166 5 w.heap.size w.heap.size (Lib.byteCells (Pl.tbs (cs.take k))) wr ∧ Below w.heap.size w wr) (fun i _ => cs.length - (intOf i).toNat)
  case atStart => exact ⟨0, rfl, by omega, Lib.IsBuilderF.of (Lib.fresh_isBuilder 166 5 w), (Below.refl _ w).alloc (Nat.le_refl _) _⟩
  case round =>
    obtain ⟨k, rfl, hk, hI, hB⟩ := hrel
    by_cases hkl : k < cs.length
    · have hkI : (k : Int) < (cs.length : Int) := by omega
      have hCr := hC.below hB (fun _ => hg)
      obtain ⟨c0, c1, c2⟩ := hCr.c k hkl
      have hck := hcd k
      rw [Pl.cdx_eq hkl] at hck
      have htk : Pl.tbs (cs.take (k + 1)) = Pl.tbs (cs.take k) ++ Lib.encodeRune ((cs[k]).1 : Int) := by rw [List.take_succ_eq_append_getElem hkl, Pl.tbs_snoc]
      have hle := Pl.tbs_le (cs.take k)
      have hle2 : (cs.take k).length ≤ 268435456 := by simp; omega
      obtain ⟨x, hx⟩ : ∃ x, cs[k] = x := ⟨_, rfl⟩
      rw [hx] at c0 c1 c2 hck htk
      obtain ⟨acc, hacc⟩ : ∃ acc, Pl.tbs (cs.take k) = acc := ⟨_, rfl⟩
      rw [hacc] at hI hle htk
      have HTK : Hid (Pl.tbs (cs.take (k + 1)) = acc ++ Lib.encodeRune (x.1 : Int)) := htk
      have hsz := hB.size
      clear htk hacc hx
      go_wp2_with (go_at_call 219; refine (writeRune_any w.heap.size w.heap.size _ (x.1 : Int) (by omega) (by omega) _ (hI.alloc (.cells #[.int .i64 (x.1 : Int), .int .i64 (x.2.1 : Int), .int .i64 (x.2.2 : Int)] 38)) (by rw [Lib.byteCells_length]; omega) (by simp; omega)).mono ?_)
      rintro e W1 ⟨rfl, h1, b1, k1⟩
      go_wp2
      refine ⟨⟨k + 1, by go_num, by omega, ?_, (hB.alloc hsz _).trans b1⟩, by simp [intOf]; omega⟩
      rw [HTK.out, Lib.byteCells_append, Lib.byteCells_encodeRune]
      exact Or.inr h1
    · have hkI : ¬ (k : Int) < (cs.length : Int) := by omega
      have htk : cs.take k = cs := List.take_of_length_le (by omega)
      rw [htk] at hI
      go_wp2_with (go_at_call 59; refine (string_any w.heap.size w.heap.size _ _ hI hB.size).mono ?_; rintro e W1 ⟨rfl, h1, b1, k1⟩)
      go_ret
      exact ⟨rfl, hB.trans b1⟩

end Go.Proofs.YtcmgclckknpecaaGreatDoor
