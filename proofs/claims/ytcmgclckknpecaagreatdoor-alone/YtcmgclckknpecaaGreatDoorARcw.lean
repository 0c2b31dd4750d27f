import Derived.Test.YtcmgclckknpecaaGreatDoorAPlw
import Derived.Test.YtcmgclckknpecaaGreatDoorAStg
import Derived.Test.YtcmgclckknpecaaGreatDoorASplit
namespace Go.Proofs.YtcmgclckknpecaaGreatDoor
open Go.RowKit

theorem res13 {tmps : Array Value} {w : World} {b : Nat} {v0 v1 v2 v3 v4 v5 v6 k l : Value} (hp : tmps[2]? = some (.pointer (some ⟨b, 0, none⟩))) (h5 : tmps[3]? = some k) (h6 : tmps[4]? = some l) (h : w.cell? ⟨b, 0, none⟩ = some v0 ∧ w.cell? ⟨b, 1, none⟩ = some v1 ∧ w.cell? ⟨b, 2, none⟩ = some v2 ∧ w.cell? ⟨b, 3, none⟩ = some v3 ∧ w.cell? ⟨b, 4, none⟩ = some v4 ∧ w.cell? ⟨b, 5, none⟩ = some v5 ∧ w.cell? ⟨b, 6, none⟩ = some v6) :
    (results Tryz.f35 tmps).run Tryz.prog w = .ok (.tuple #[.agg #[v0, v1, v2, v3, v4, v5, v6], k, l]) w := by
  obtain ⟨c0, c1, c2, c3, c4, c5, c6⟩ := h
  simp [results, Tryz.results35, go_sem, hp, h5, h6, c0, c1, c2, c3, c4, c5, c6]

theorem cells_drew7 {X : World} {b : Nat} {v0 v1 v2 v3 v4 v5 v6 : Value} (h : X.cell? ⟨b, 0, none⟩ = some v0 ∧ X.cell? ⟨b, 1, none⟩ = some v1 ∧ X.cell? ⟨b, 2, none⟩ = some v2 ∧ X.cell? ⟨b, 3, none⟩ = some v3 ∧ X.cell? ⟨b, 4, none⟩ = some v4 ∧ X.cell? ⟨b, 5, none⟩ = some v5 ∧ X.cell? ⟨b, 6, none⟩ = some v6) : X.drew.cell? ⟨b, 0, none⟩ = some v0 ∧ X.drew.cell? ⟨b, 1, none⟩ = some v1 ∧ X.drew.cell? ⟨b, 2, none⟩ = some v2 ∧ X.drew.cell? ⟨b, 3, none⟩ = some v3 ∧ X.drew.cell? ⟨b, 4, none⟩ = some v4 ∧ X.drew.cell? ⟨b, 5, none⟩ = some v5 ∧ X.drew.cell? ⟨b, 6, none⟩ = some v6 := h
theorem below_seven {B : Nat} {a X : World} {b : Nat} (h : Below B a X) (hb : B ≤ b) (v0 v1 v2 v3 v4 v5 v6 : Value) : Below B a (((((((X.setCell ⟨b, 0, none⟩ v0).setCell ⟨b, 1, none⟩ v1).setCell ⟨b, 2, none⟩ v2).setCell ⟨b, 3, none⟩ v3).setCell ⟨b, 4, none⟩ v4).setCell ⟨b, 5, none⟩ v5).setCell ⟨b, 6, none⟩ v6) :=
  ((((((h.setCell (p := ⟨b, 0, none⟩) hb v0).setCell (p := ⟨b, 1, none⟩) hb v1).setCell (p := ⟨b, 2, none⟩) hb v2).setCell (p := ⟨b, 3, none⟩) hb v3).setCell (p := ⟨b, 4, none⟩) hb v4).setCell (p := ⟨b, 5, none⟩) hb v5).setCell (p := ⟨b, 6, none⟩) hb v6

set_option maxRecDepth 100000 in
set_option maxHeartbeats 2000000 in
theorem chain_words (K : Nat) (s : ByteArray) (w : World) (hm : s.size ≤ 80) (hK : K ≤ 1) (H1 : Hid (Pl.nm s 0 Pl.starts 0 0 = (some 3, 5)))
    (H2 : Hid ((K = 0 ∧ s.size = 5) ∨ (K = 1 ∧ s.size = 9 ∧ Pl.byteIn s 59 59 5 = true ∧ Pl.nm s 6 Pl.lates 0 0 = (some 0, 9)))) :
    Calls Tryz.prog 35 #[.string s] w fun e w' => ∃ p2 n2 c2 p3 n3 c3 vl ys, ∃ x z : Int, e = .returned (.tuple #[.agg #[.slice none 0 0, .string ⟨#[119, 111, 114, 100, 115]⟩, .slice p2 n2 c2, .slice p3 n3 c3, .int .i64 x, .int .i64 z, vl], .int .i64 0, .int .i64 0]) ∧ w'.ownsRow w.heap.size 96 5 vl K ys ∧ Lw K ys ∧ Below w.heap.size w w' := by
  have hm' : ¬ (80 : Int) < (s.size : Int) := by omega
  have bR0 : Blk w.heap.size 98 #[.slice none 0 0, .string ⟨#[]⟩, .slice none 0 0, .slice none 0 0, .int .i64 0, .int .i64 0, .slice none 0 0] (w.alloc (.cells #[.slice none 0 0, .string ⟨#[]⟩, .slice none 0 0, .slice none 0 0, .int .i64 0, .int .i64 0, .slice none 0 0] 98)) := heap_alloc_new w _
  have bR := bR0.alloc (.cells #[.string s, .int .i64 0] 181)
  clear bR0
  go_enter Tryz.func35, Tryz.ntmps35
  go_wp2_with fail
  refine (plan_words (w.heap.size + 1) K s _ hm ⟨by simp [go_sem], by simp [go_sem], fun o => by simp [go_sem], by simp⟩ H1 H2).mono ?_
  rintro e w2 ⟨p2, n2, c2, p3, n3, c3, vl, ys, x, z, rfl, hrow, hlw, hr2, hg⟩
  have HLW : Hid (Lw K ys) := hlw
  clear hlw
  obtain ⟨p4, c4, rfl⟩ := slice_of hrow
  have hsz := hg.size
  simp only [World.size_alloc] at hsz
  have hR2 := bR.keep hg (by simp)
  have hB2 : Below w.heap.size w w2 := (((Below.refl _ w).alloc (Nat.le_refl _) _).alloc (by simp) _).trans (below_of_grown hg (by omega) (by simp; omega))
  clear bR hg
  have h8' : ¬ (8 : Int) < ((0 : Nat) : Int) + 1 + (K : Int) := by omega
  have h8'' : ¬ (8 : Int) < 0 + 1 + (K : Int) := by omega
  go_wp2_with fail
  refine (stages_any none 0 0 ⟨#[119, 111, 114, 100, 115]⟩ p2 n2 c2 p3 n3 c3 x z p4 K c4 _ (by omega)).mono ?_
  rintro e w3 ⟨rfl, hB3⟩
  have hR3 := (hR2.alloc _).keep (grown_of_below none hB3) (by simp)
  have hP3 : Blk w2.heap.size 98 #[.slice none 0 0, .string ⟨#[119, 111, 114, 100, 115]⟩, .slice p2 n2 c2, .slice p3 n3 c3, .int .i64 x, .int .i64 z, .slice p4 K c4] w3 := Blk.keep (show Blk w2.heap.size 98 #[.slice none 0 0, .string ⟨#[119, 111, 114, 100, 115]⟩, .slice p2 n2 c2, .slice p3 n3 c3, .int .i64 x, .int .i64 z, .slice p4 K c4] (w2.alloc (.cells #[.slice none 0 0, .string ⟨#[119, 111, 114, 100, 115]⟩, .slice p2 n2 c2, .slice p3 n3 c3, .int .i64 x, .int .i64 z, .slice p4 K c4] 98)) from heap_alloc_new w2 _) (grown_of_below none hB3) (by simp)
  have hrow3 := (hrow.alloc (.cells #[.slice none 0 0, .string ⟨#[119, 111, 114, 100, 115]⟩, .slice p2 n2 c2, .slice p3 n3 c3, .int .i64 x, .int .i64 z, .slice p4 K c4] 98)).kept (grown_of_below none hB3) (by simp; cases p4 <;> simp [Value.ownBlock])
  obtain ⟨⟨r0, r1, r2, r3, r4, r5, r6⟩, rf⟩ := hR3.seven
  obtain ⟨⟨l0, l1, l2, l3, l4, l5, l6⟩, lf⟩ := hP3.seven
  go_wp2
  have hc7 := seven_cells (.slice none 0 0) (.string ⟨#[119, 111, 114, 100, 115]⟩) (.slice p2 n2 c2) (.slice p3 n3 c3) (.int .i64 x) (.int .i64 z) (.slice p4 K c4) r0 r1 r2 r3 r4 r5 r6 _ rfl
  refine bodyPost_ret (res13 rfl rfl rfl hc7) rfl ⟨_, _, _, _, _, _, _, ys, _, _, rfl, ?_, HLW.out, ?_⟩
  · have hne := row_ne_blk hrow3 hR3 (by decide)
    refine ownsRow_base (ownsRow_set_other (ownsRow_set_other (ownsRow_set_other (ownsRow_set_other (ownsRow_set_other (ownsRow_set_other (ownsRow_set_other hrow3 hne 0 _) hne 1 _) hne 2 _) hne 3 _) hne 4 _) hne 5 _) hne 6 _) ?_
    simp; omega
  · exact below_seven ((hB2.alloc (by omega) (.cells #[.slice none 0 0, .string ⟨#[119, 111, 114, 100, 115]⟩, .slice p2 n2 c2, .slice p3 n3 c3, .int .i64 x, .int .i64 z, .slice p4 K c4] 98)).trans (hB3.mono (by simp; omega))) (Nat.le_refl _) _ _ _ _ _ _ _

end Go.Proofs.YtcmgclckknpecaaGreatDoor
