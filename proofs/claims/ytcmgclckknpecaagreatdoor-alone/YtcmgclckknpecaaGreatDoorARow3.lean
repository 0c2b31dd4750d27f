import Derived.Test.YtcmgclckknpecaaGreatDoorAPlain
import Derived.Deep.AppendLies
import Derived.WalkKit
import Derived.WalkSpells
import Derived.WalkLawsBesides
namespace Go.Proofs.YtcmgclckknpecaaGreatDoor
open Go.RowKit

/-- A character's three cells. -/
def enc (x : Nat × Nat × Nat) : List Value := [.int .i64 (x.1 : Int), .int .i64 (x.2.1 : Int), .int .i64 (x.2.2 : Int)]
theorem enc_len : ∀ xs : List (Nat × Nat × Nat), (xs.flatMap enc).length = xs.length * 3
  | [] => rfl
  | x :: r => by rw [List.flatMap_cons, List.length_append, enc_len r]; simp [enc]; omega
theorem enc_one (x : Nat × Nat × Nat) : ∀ u ∈ enc x, u.oneCell' = true := by simp [enc, Value.oneCell']
theorem enc_snoc (xs : List (Nat × Nat × Nat)) (x : Nat × Nat × Nat) : (xs ++ [x]).flatMap enc = xs.flatMap enc ++ enc x := by simp [List.flatMap_append]

theorem ownsRow_below {A B : World} {base : Nat} {e : TypeId} {size : Nat} {v : Value} {n : Nat} {xs : List Value} (h : A.ownsRow base e size v n xs) (hb : Below A.heap.size A B) : B.ownsRow base e size v n xs := by
  refine ⟨h.1, ?_⟩
  rcases h.2 with h | ⟨g, cap, cur, hv, hg, hh, r⟩
  · exact .inl h
  · exact .inr ⟨g, cap, cur, hv, hg, (hb.block g (Array.getElem?_eq_some_iff.1 hh).1).trans hh, r⟩
theorem ownBlock_lt {w : World} {base : Nat} {e : TypeId} {size : Nat} {v : Value} {n : Nat} {xs : List Value} (h : w.ownsRow base e size v n xs) {g : Nat} (hg : v.ownBlock = some g) : g < w.heap.size ∧ base ≤ g := by
  rcases h.2 with ⟨rfl, _⟩ | ⟨g', cap, cur, rfl, hb, hh, _⟩
  · simp [Value.ownBlock] at hg
  · obtain rfl : g' = g := by simpa [Value.ownBlock] using hg
    exact ⟨(Array.getElem?_eq_some_iff.1 hh).1, hb⟩

theorem step3 {w wr w2 w1 : World} {B : Nat} {e : TypeId} {l : Value} {k : Nat} {xs : List Value} {C T : Obj} (hrow : wr.ownsRow B e 3 l k xs) (hB : Below B w wr) (hBs : B ≤ wr.heap.size) (h2 : Below wr.heap.size wr w2)
    (hgrow : ((w2.alloc C).alloc T).grownBy w1 l.ownBlock) :
    (∀ j, w1.cell? ⟨w2.heap.size, j, none⟩ = ((w2.alloc C).alloc T).cell? ⟨w2.heap.size, j, none⟩) ∧ Below B w w1 := by
  have hs := h2.size
  refine ⟨fun j => hgrow.cell_far _ (by simp; omega) ?_, ?_⟩
  · intro e'
    have := (ownBlock_lt hrow e'.symm).1
    simp at this
    omega
  · refine Below.grown ((((hB.trans (h2.mono hBs)).alloc (by omega) C).alloc (by simp; omega) T)) hgrow (by simp; omega) fun j ej => ?_
    exact (ownBlock_lt hrow ej).2

end Go.Proofs.YtcmgclckknpecaaGreatDoor
