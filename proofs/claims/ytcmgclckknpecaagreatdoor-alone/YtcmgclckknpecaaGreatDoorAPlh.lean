import Derived.Test.YtcmgclckknpecaaGreatDoorAStn
namespace Go.Proofs.YtcmgclckknpecaaGreatDoor
open Go.RowKit

theorem seven_cells {X : World} {b : Nat} (v0 v1 v2 v3 v4 v5 v6 : Value) {u0 u1 u2 u3 u4 u5 u6 : Value} (x0 : X.cell? ⟨b, 0, none⟩ = some u0) (x1 : X.cell? ⟨b, 1, none⟩ = some u1) (x2 : X.cell? ⟨b, 2, none⟩ = some u2) (x3 : X.cell? ⟨b, 3, none⟩ = some u3) (x4 : X.cell? ⟨b, 4, none⟩ = some u4) (x5 : X.cell? ⟨b, 5, none⟩ = some u5) (x6 : X.cell? ⟨b, 6, none⟩ = some u6) (W : World)
    (hW : W = (((((((X.setCell ⟨b, 0, none⟩ v0).setCell ⟨b, 1, none⟩ v1).setCell ⟨b, 2, none⟩ v2).setCell ⟨b, 3, none⟩ v3).setCell ⟨b, 4, none⟩ v4).setCell ⟨b, 5, none⟩ v5).setCell ⟨b, 6, none⟩ v6)) :
    W.cell? ⟨b, 0, none⟩ = some v0 ∧ W.cell? ⟨b, 1, none⟩ = some v1 ∧ W.cell? ⟨b, 2, none⟩ = some v2 ∧ W.cell? ⟨b, 3, none⟩ = some v3 ∧ W.cell? ⟨b, 4, none⟩ = some v4 ∧ W.cell? ⟨b, 5, none⟩ = some v5 ∧ W.cell? ⟨b, 6, none⟩ = some v6 := by
  subst hW
  refine ⟨?_, ?_, ?_, ?_, ?_, ?_, ?_⟩
  · exact ((World.cell?_setCell_other _ _ _ _ (by simp)).trans ((World.cell?_setCell_other _ _ _ _ (by simp)).trans ((World.cell?_setCell_other _ _ _ _ (by simp)).trans ((World.cell?_setCell_other _ _ _ _ (by simp)).trans ((World.cell?_setCell_other _ _ _ _ (by simp)).trans ((World.cell?_setCell_other _ _ _ _ (by simp)).trans (World.cell?_setCell_same _ _ _ x0)))))))
  · exact ((World.cell?_setCell_other _ _ _ _ (by simp)).trans ((World.cell?_setCell_other _ _ _ _ (by simp)).trans ((World.cell?_setCell_other _ _ _ _ (by simp)).trans ((World.cell?_setCell_other _ _ _ _ (by simp)).trans ((World.cell?_setCell_other _ _ _ _ (by simp)).trans (World.cell?_setCell_same _ _ _ ((World.cell?_setCell_other _ _ _ _ (by simp)).trans x1)))))))
  · exact ((World.cell?_setCell_other _ _ _ _ (by simp)).trans ((World.cell?_setCell_other _ _ _ _ (by simp)).trans ((World.cell?_setCell_other _ _ _ _ (by simp)).trans ((World.cell?_setCell_other _ _ _ _ (by simp)).trans (World.cell?_setCell_same _ _ _ ((World.cell?_setCell_other _ _ _ _ (by simp)).trans ((World.cell?_setCell_other _ _ _ _ (by simp)).trans x2)))))))
  · exact ((World.cell?_setCell_other _ _ _ _ (by simp)).trans ((World.cell?_setCell_other _ _ _ _ (by simp)).trans ((World.cell?_setCell_other _ _ _ _ (by simp)).trans (World.cell?_setCell_same _ _ _ ((World.cell?_setCell_other _ _ _ _ (by simp)).trans ((World.cell?_setCell_other _ _ _ _ (by simp)).trans ((World.cell?_setCell_other _ _ _ _ (by simp)).trans x3)))))))
  · exact ((World.cell?_setCell_other _ _ _ _ (by simp)).trans ((World.cell?_setCell_other _ _ _ _ (by simp)).trans (World.cell?_setCell_same _ _ _ ((World.cell?_setCell_other _ _ _ _ (by simp)).trans ((World.cell?_setCell_other _ _ _ _ (by simp)).trans ((World.cell?_setCell_other _ _ _ _ (by simp)).trans ((World.cell?_setCell_other _ _ _ _ (by simp)).trans x4)))))))
  · exact ((World.cell?_setCell_other _ _ _ _ (by simp)).trans (World.cell?_setCell_same _ _ _ ((World.cell?_setCell_other _ _ _ _ (by simp)).trans ((World.cell?_setCell_other _ _ _ _ (by simp)).trans ((World.cell?_setCell_other _ _ _ _ (by simp)).trans ((World.cell?_setCell_other _ _ _ _ (by simp)).trans ((World.cell?_setCell_other _ _ _ _ (by simp)).trans x5)))))))
  · exact (World.cell?_setCell_same _ _ _ ((World.cell?_setCell_other _ _ _ _ (by simp)).trans ((World.cell?_setCell_other _ _ _ _ (by simp)).trans ((World.cell?_setCell_other _ _ _ _ (by simp)).trans ((World.cell?_setCell_other _ _ _ _ (by simp)).trans ((World.cell?_setCell_other _ _ _ _ (by simp)).trans ((World.cell?_setCell_other _ _ _ _ (by simp)).trans x6)))))))
theorem Blk.seven {b : Nat} {t : TypeId} {v0 v1 v2 v3 v4 v5 v6 : Value} {W : World} (h : Blk b t #[v0, v1, v2, v3, v4, v5, v6] W) : (W.cell? ⟨b, 0, none⟩ = some v0 ∧ W.cell? ⟨b, 1, none⟩ = some v1 ∧ W.cell? ⟨b, 2, none⟩ = some v2 ∧ W.cell? ⟨b, 3, none⟩ = some v3 ∧ W.cell? ⟨b, 4, none⟩ = some v4 ∧ W.cell? ⟨b, 5, none⟩ = some v5 ∧ W.cell? ⟨b, 6, none⟩ = some v6) ∧ (∀ o, W.frozen? ⟨b, o, none⟩ = false) := by
  unfold Blk at h
  simp [World.cell?, World.frozen?, h]
theorem res19 {tmps : Array Value} {w : World} {b : Nat} {v0 v1 v2 v3 v4 v5 v6 k : Value} (hp : tmps[2]? = some (.pointer (some ⟨b, 0, none⟩))) (h5 : tmps[3]? = some k) (h : w.cell? ⟨b, 0, none⟩ = some v0 ∧ w.cell? ⟨b, 1, none⟩ = some v1 ∧ w.cell? ⟨b, 2, none⟩ = some v2 ∧ w.cell? ⟨b, 3, none⟩ = some v3 ∧ w.cell? ⟨b, 4, none⟩ = some v4 ∧ w.cell? ⟨b, 5, none⟩ = some v5 ∧ w.cell? ⟨b, 6, none⟩ = some v6) :
    (results Tryz.f63 tmps).run Tryz.prog w = .ok (.tuple #[.agg #[v0, v1, v2, v3, v4, v5, v6], k]) w := by
  obtain ⟨c0, c1, c2, c3, c4, c5, c6⟩ := h
  simp [results, Tryz.results63, go_sem, hp, h5, c0, c1, c2, c3, c4, c5, c6]
theorem Rd.seven {rb : Nat} {s : ByteArray} {a : Nat} {X : World} (h : Rd rb s a X) {b : Nat} (hne : b ≠ rb) (v0 v1 v2 v3 v4 v5 v6 : Value) : Rd rb s a (((((((X.setCell ⟨b, 0, none⟩ v0).setCell ⟨b, 1, none⟩ v1).setCell ⟨b, 2, none⟩ v2).setCell ⟨b, 3, none⟩ v3).setCell ⟨b, 4, none⟩ v4).setCell ⟨b, 5, none⟩ v5).setCell ⟨b, 6, none⟩ v6) :=
  (((((((h.other hne 0 v0).other hne 1 v1).other hne 2 v2).other hne 3 v3).other hne 4 v4).other hne 5 v5).other hne 6 v6)
theorem grown_seven {A X : World} {row : Option Nat} (h : A.grownBy X row) {b : Nat} (hb : A.heap.size ≤ b) (v0 v1 v2 v3 v4 v5 v6 : Value) : A.grownBy (((((((X.setCell ⟨b, 0, none⟩ v0).setCell ⟨b, 1, none⟩ v1).setCell ⟨b, 2, none⟩ v2).setCell ⟨b, 3, none⟩ v3).setCell ⟨b, 4, none⟩ v4).setCell ⟨b, 5, none⟩ v5).setCell ⟨b, 6, none⟩ v6) row :=
  (grown_set_new (grown_set_new (grown_set_new (grown_set_new (grown_set_new (grown_set_new (grown_set_new h hb 0 v0) hb 1 v1) hb 2 v2) hb 3 v3) hb 4 v4) hb 5 v5) hb 6 v6)

theorem info47 : (Tryz.prog.info? 96).map (fun i => (i.zero, i.size, i.bytes)) = some (some (.agg #[.string ⟨#[]⟩, .slice none 0 0, .slice none 0 0, .int .i64 0, .int .i64 0]), 5, 80) := by kernel_rfl
theorem row_ne_blk {W : World} {base : Nat} {e t : TypeId} {size : Nat} {v : Value} {n : Nat} {xs : List Value} {b : Nat} {cs : Array Value} (hr : W.ownsRow base e size v n xs) (h : Blk b t cs W) (he : e ≠ t) : v.ownBlock ≠ some b := by
  rcases hr.2 with ⟨rfl, _⟩ | ⟨g, cap, cur, rfl, _, hgb, _⟩
  · simp [Value.ownBlock]
  · intro e'
    obtain rfl : g = b := by simpa [Value.ownBlock] using e'
    rw [show W.heap[g]? = _ from h] at hgb
    simp at hgb
    exact he hgb.2.symm
/-- Behind a stage that is behind the cutter or is it. -/
def tl (s : ByteArray) (m a k : Nat) : (Bool × Nat) × Nat := if a = s.size then ((true, a), k) else if Pl.byteIn s 59 59 a = true then Pl.chn s m true (a + 1) k else ((false, a), k)
theorem chn_cut (s : ByteArray) (m : Nat) (cut : Bool) (a c b i d : Nat) (h : Pl.nm s a (if cut = true then Pl.lates else Pl.starts) 0 0 = (some i, b)) (hb : Pl.body s (if cut = true then Pl.kindL i else Pl.kindS i) b = (true, d)) (hc : cut = true ∨ 3 ≤ i) : Pl.chn s (m + 1) cut a c = tl s m d (c + 1) := by
  rw [chn_some s m cut a c b i true d h hb, if_pos rfl]
  have hcc : (cut || decide (3 ≤ i)) = true := by rcases hc with h | h <;> simp [h]
  unfold tl
  rw [hcc]
  by_cases hd : d = s.size
  · rw [if_pos ⟨hc, hd⟩, if_pos hd]
  · rw [if_neg (fun h => hd h.2), if_neg hd]
theorem chn_early (s : ByteArray) (m a c b i d : Nat) (h : Pl.nm s a Pl.starts 0 0 = (some i, b)) (hb : Pl.body s (Pl.kindS i) b = (true, d)) (hc : ¬ 3 ≤ i) : Pl.chn s (m + 1) false a c = if Pl.byteIn s 59 59 d = true then Pl.chn s m false (d + 1) (c + 1) else ((false, d), c + 1) := by
  rw [chn_some s m false a c b i true d h hb, if_pos rfl]
  simp [hc]
theorem chn_bad (s : ByteArray) (m : Nat) (cut : Bool) (a c b i d : Nat) (h : Pl.nm s a (if cut = true then Pl.lates else Pl.starts) 0 0 = (some i, b)) (hb : Pl.body s (if cut = true then Pl.kindL i else Pl.kindS i) b = (false, d)) : Pl.chn s (m + 1) cut a c = ((false, d), c + 1) := by
  rw [chn_some s m cut a c b i false d h hb]; simp
theorem nm_lt (s : ByteArray) (a : Nat) : ∀ (names : List ByteArray) (i lg j b : Nat), i + names.length ≤ j → Pl.nm s a names i lg ≠ (some j, b)
  | [], i, lg, j, b, _ => by simp [Pl.nm]
  | w :: r, i, lg, j, b, h => by
    unfold Pl.nm
    simp only [List.length_cons] at h
    by_cases hf : Pl.com s a w = w.size
    · rw [if_pos hf]; simp; omega
    · rw [if_neg hf]; exact nm_lt s a r (i + 1) _ j b (by omega)
theorem starts_nms (W : World) : Nms W.heap.size Pl.starts (W.alloc (.cells #[.string ⟨#[116, 97, 103, 115]⟩, .string ⟨#[102, 111, 108, 100]⟩, .string ⟨#[109, 97, 112, 40]⟩, .string ⟨#[119, 111, 114, 100, 115]⟩, .string ⟨#[98, 108, 97, 110, 107, 115]⟩, .string ⟨#[119, 104, 111, 108, 101]⟩] 9)) := nms_new Pl.starts W
theorem lates_nms (W : World) : Nms W.heap.size Pl.lates (W.alloc (.cells #[.string ⟨#[108, 111, 119]⟩, .string ⟨#[115, 116, 101, 109]⟩, .string ⟨#[115, 116, 111, 112, 40]⟩, .string ⟨#[115, 121, 110, 40]⟩, .string ⟨#[108, 101, 110, 40]⟩, .string ⟨#[103, 114, 97, 109, 40]⟩, .string ⟨#[101, 100, 103, 101, 40]⟩] 9)) := nms_new Pl.lates W
theorem cell_alloc {X : World} {b : Nat} (hb : b < X.heap.size) (O : Obj) (o : Nat) : (X.alloc O).cell? ⟨b, o, none⟩ = X.cell? ⟨b, o, none⟩ := ((Below.refl X.heap.size X).alloc (Nat.le_refl _) O).cell (p := ⟨b, o, none⟩) hb
theorem cells_alloc7 {X : World} {b : Nat} {v0 v1 v2 v3 v4 v5 v6 : Value} (hb : b < X.heap.size) (O : Obj) (h : X.cell? ⟨b, 0, none⟩ = some v0 ∧ X.cell? ⟨b, 1, none⟩ = some v1 ∧ X.cell? ⟨b, 2, none⟩ = some v2 ∧ X.cell? ⟨b, 3, none⟩ = some v3 ∧ X.cell? ⟨b, 4, none⟩ = some v4 ∧ X.cell? ⟨b, 5, none⟩ = some v5 ∧ X.cell? ⟨b, 6, none⟩ = some v6) : (X.alloc O).cell? ⟨b, 0, none⟩ = some v0 ∧ (X.alloc O).cell? ⟨b, 1, none⟩ = some v1 ∧ (X.alloc O).cell? ⟨b, 2, none⟩ = some v2 ∧ (X.alloc O).cell? ⟨b, 3, none⟩ = some v3 ∧ (X.alloc O).cell? ⟨b, 4, none⟩ = some v4 ∧ (X.alloc O).cell? ⟨b, 5, none⟩ = some v5 ∧ (X.alloc O).cell? ⟨b, 6, none⟩ = some v6 := by
  rw [cell_alloc hb, cell_alloc hb, cell_alloc hb, cell_alloc hb, cell_alloc hb, cell_alloc hb, cell_alloc hb]; exact h
theorem Blk.s0 {b : Nat} {t : TypeId} {v0 v1 v2 v3 v4 v5 v6 : Value} {W : World} (h : Blk b t #[v0, v1, v2, v3, v4, v5, v6] W) (u : Value) : Blk b t #[u, v1, v2, v3, v4, v5, v6] (W.setCell ⟨b, 0, none⟩ u) := heap_set W b 0 u _ t h
theorem Blk.s1 {b : Nat} {t : TypeId} {v0 v1 v2 v3 v4 v5 v6 : Value} {W : World} (h : Blk b t #[v0, v1, v2, v3, v4, v5, v6] W) (u : Value) : Blk b t #[v0, u, v2, v3, v4, v5, v6] (W.setCell ⟨b, 1, none⟩ u) := heap_set W b 1 u _ t h
theorem Blk.s2 {b : Nat} {t : TypeId} {v0 v1 v2 v3 v4 v5 v6 : Value} {W : World} (h : Blk b t #[v0, v1, v2, v3, v4, v5, v6] W) (u : Value) : Blk b t #[v0, v1, u, v3, v4, v5, v6] (W.setCell ⟨b, 2, none⟩ u) := heap_set W b 2 u _ t h
theorem Blk.s3 {b : Nat} {t : TypeId} {v0 v1 v2 v3 v4 v5 v6 : Value} {W : World} (h : Blk b t #[v0, v1, v2, v3, v4, v5, v6] W) (u : Value) : Blk b t #[v0, v1, v2, u, v4, v5, v6] (W.setCell ⟨b, 3, none⟩ u) := heap_set W b 3 u _ t h
theorem Blk.s4 {b : Nat} {t : TypeId} {v0 v1 v2 v3 v4 v5 v6 : Value} {W : World} (h : Blk b t #[v0, v1, v2, v3, v4, v5, v6] W) (u : Value) : Blk b t #[v0, v1, v2, v3, u, v5, v6] (W.setCell ⟨b, 4, none⟩ u) := heap_set W b 4 u _ t h
theorem Blk.s5 {b : Nat} {t : TypeId} {v0 v1 v2 v3 v4 v5 v6 : Value} {W : World} (h : Blk b t #[v0, v1, v2, v3, v4, v5, v6] W) (u : Value) : Blk b t #[v0, v1, v2, v3, v4, u, v6] (W.setCell ⟨b, 5, none⟩ u) := heap_set W b 5 u _ t h
theorem Blk.s6 {b : Nat} {t : TypeId} {v0 v1 v2 v3 v4 v5 v6 : Value} {W : World} (h : Blk b t #[v0, v1, v2, v3, v4, v5, v6] W) (u : Value) : Blk b t #[v0, v1, v2, v3, v4, v5, u] (W.setCell ⟨b, 6, none⟩ u) := heap_set W b 6 u _ t h
theorem Blk.alloc {b : Nat} {t : TypeId} {cs : Array Value} {W : World} (h : Blk b t cs W) (O : Obj) : Blk b t cs (W.alloc O) := h.keep (World.grownBy_alloc W O none) (by simp)
theorem Blk.setO {b : Nat} {t : TypeId} {cs : Array Value} {W : World} (h : Blk b t cs W) {b2 : Nat} (hne : b2 ≠ b) (o : Nat) (v : Value) : Blk b t cs (W.setCell ⟨b2, o, none⟩ v) := h.keep (grown_set W b2 o v) (by simpa using hne)
theorem Rd.al {rb : Nat} {s : ByteArray} {a : Nat} {w : World} (h : Rd rb s a w) (O : Obj) : Rd rb s a (w.alloc O) := h.of_below ((Below.refl _ w).alloc (Nat.le_refl _) O)

theorem starts_q : ∀ i (hi : i < Pl.starts.length), (((Pl.starts[i]).toList == [119, 111, 114, 100, 115]) || ((Pl.starts[i]).toList == [98, 108, 97, 110, 107, 115]) || ((Pl.starts[i]).toList == [119, 104, 111, 108, 101])) = decide (3 ≤ i) ∧ (Pl.starts[i]).toList.isEmpty = false := by decide +kernel

end Go.Proofs.YtcmgclckknpecaaGreatDoor
