import Derived.Test.YtcmgclckknpecaaFirst
namespace Go.Proofs.Ytcmgclckknpecaa
open Go.RowKit

theorem lead_at (b : Int) (w : World) (h0 : 0 ≤ b) (h1 : b ≤ 255) (nL lo hi : Nat) (hn : Pl.lenOf b.toNat = nL) (hlo : Pl.loOf b.toNat = lo) (hhi : Pl.hiOf b.toNat = hi) :
    Calls Try.prog 30 #[.int .u8 b] w fun e w' => e = .returned (.agg #[.int .i64 ((nL : Int) - 1), .int .u8 lo, .int .u8 hi]) ∧ Below w.heap.size w w' := by
  subst hn hlo hhi; exact lead_any b w h0 h1

/-- What the loop keeps of memory: the result's cells (block r), the lead's (block l). -/
structure CharMem (w : World) (r l : Nat) (N lo hi : Int) (wr : World) : Prop where
  below : Below w.heap.size w wr
  hr : w.heap.size ≤ r
  rl : r < l
  ls : l < wr.heap.size
  r0 : ∃ v, wr.cell? ⟨r, 0, none⟩ = some v
  r1 : ∃ v, wr.cell? ⟨r, 1, none⟩ = some v
  r2 : ∃ v, wr.cell? ⟨r, 2, none⟩ = some v
  fr : ∀ o, wr.frozen? ⟨r, o, none⟩ = false
  l0 : wr.cell? ⟨l, 0, none⟩ = some (.int .i64 N)
  l1 : wr.cell? ⟨l, 1, none⟩ = some (.int .u8 lo)
  l2 : wr.cell? ⟨l, 2, none⟩ = some (.int .u8 hi)
  fl : ∀ o, wr.frozen? ⟨l, o, none⟩ = false

theorem CharMem.start {w w1 : World} {z : Obj} (hz : z = .cells #[.int .i64 0, .int .i64 0, .int .i64 0] 32) (hb : Below (w.heap.size + 1) (w.alloc z) w1) (N lo hi : Int) :
    CharMem w w.heap.size w1.heap.size N lo hi (w1.alloc (.cells #[.int .i64 N, .int .u8 lo, .int .u8 hi] 78)) := by
  have hs := hb.size
  simp at hs
  have e : ∀ o, (w1.alloc (.cells #[.int .i64 N, .int .u8 lo, .int .u8 hi] 78)).cell? ⟨w.heap.size, o, none⟩ = (w.alloc z).cell? ⟨w.heap.size, o, none⟩ := fun o => by
    rw [← hb.cell (p := ⟨w.heap.size, o, none⟩) (by simp)]
    exact ((Below.refl w1.heap.size w1).alloc (Nat.le_refl _) _).cell (p := ⟨w.heap.size, o, none⟩) (by simp; omega)
  have ef : ∀ o, (w1.alloc (.cells #[.int .i64 N, .int .u8 lo, .int .u8 hi] 78)).frozen? ⟨w.heap.size, o, none⟩ = (w.alloc z).frozen? ⟨w.heap.size, o, none⟩ := fun o => by
    rw [← hb.frozen (p := ⟨w.heap.size, o, none⟩) (by simp)]
    exact ((Below.refl w1.heap.size w1).alloc (Nat.le_refl _) _).frozen (p := ⟨w.heap.size, o, none⟩) (by simp; omega)
  subst hz
  refine ⟨?_, Nat.le_refl _, by omega, by simp, ⟨_, (e 0).trans (by simp [go_sem]; rfl)⟩, ⟨_, (e 1).trans (by simp [go_sem]; rfl)⟩, ⟨_, (e 2).trans (by simp [go_sem]; rfl)⟩, fun o => (ef o).trans (by simp [go_sem]), by simp [go_sem], by simp [go_sem], by simp [go_sem], fun o => by simp [go_sem]⟩
  exact (((Below.refl w.heap.size w).alloc (Nat.le_refl _) _).trans (hb.mono (by omega))).alloc (by omega) _

end Go.Proofs.Ytcmgclckknpecaa
