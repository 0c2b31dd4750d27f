import Derived.Test.YtcmgclckknpecaaGreatDoorPla
import Derived.Test.YtcmgclckknpecaaGreatDoorStg
namespace Go.Proofs.YtcmgclckknpecaaGreatDoor
open Go.RowKit

theorem res13 {tmps : Array Value} {w : World} {b : Nat} {v0 v1 v2 v3 v4 v5 v6 k l : Value} (hp : tmps[2]? = some (.pointer (some ⟨b, 0, none⟩))) (h5 : tmps[3]? = some k) (h6 : tmps[4]? = some l) (h : w.cell? ⟨b, 0, none⟩ = some v0 ∧ w.cell? ⟨b, 1, none⟩ = some v1 ∧ w.cell? ⟨b, 2, none⟩ = some v2 ∧ w.cell? ⟨b, 3, none⟩ = some v3 ∧ w.cell? ⟨b, 4, none⟩ = some v4 ∧ w.cell? ⟨b, 5, none⟩ = some v5 ∧ w.cell? ⟨b, 6, none⟩ = some v6) :
    (results Tryz.f35 tmps).run Tryz.prog w = .ok (.tuple #[.agg #[v0, v1, v2, v3, v4, v5, v6], k, l]) w := by
  obtain ⟨c0, c1, c2, c3, c4, c5, c6⟩ := h
  simp [results, Tryz.results35, go_sem, hp, h5, h6, c0, c1, c2, c3, c4, c5, c6]

theorem cells_drew7 {X : World} {b : Nat} {v0 v1 v2 v3 v4 v5 v6 : Value} (h : X.cell? ⟨b, 0, none⟩ = some v0 ∧ X.cell? ⟨b, 1, none⟩ = some v1 ∧ X.cell? ⟨b, 2, none⟩ = some v2 ∧ X.cell? ⟨b, 3, none⟩ = some v3 ∧ X.cell? ⟨b, 4, none⟩ = some v4 ∧ X.cell? ⟨b, 5, none⟩ = some v5 ∧ X.cell? ⟨b, 6, none⟩ = some v6) : X.drew.cell? ⟨b, 0, none⟩ = some v0 ∧ X.drew.cell? ⟨b, 1, none⟩ = some v1 ∧ X.drew.cell? ⟨b, 2, none⟩ = some v2 ∧ X.drew.cell? ⟨b, 3, none⟩ = some v3 ∧ X.drew.cell? ⟨b, 4, none⟩ = some v4 ∧ X.drew.cell? ⟨b, 5, none⟩ = some v5 ∧ X.drew.cell? ⟨b, 6, none⟩ = some v6 := h
theorem below_seven {B : Nat} {a X : World} {b : Nat} (h : Below B a X) (hb : B ≤ b) (v0 v1 v2 v3 v4 v5 v6 : Value) : Below B a (((((((X.setCell ⟨b, 0, none⟩ v0).setCell ⟨b, 1, none⟩ v1).setCell ⟨b, 2, none⟩ v2).setCell ⟨b, 3, none⟩ v3).setCell ⟨b, 4, none⟩ v4).setCell ⟨b, 5, none⟩ v5).setCell ⟨b, 6, none⟩ v6) :=
  ((((((h.setCell (p := ⟨b, 0, none⟩) hb v0).setCell (p := ⟨b, 1, none⟩) hb v1).setCell (p := ⟨b, 2, none⟩) hb v2).setCell (p := ⟨b, 3, none⟩) hb v3).setCell (p := ⟨b, 4, none⟩) hb v4).setCell (p := ⟨b, 5, none⟩) hb v5).setCell (p := ⟨b, 6, none⟩) hb v6

theorem Sts.lower {base base' : Nat} {es : List Sp} {xs : List Value} {A : World} (h : Sts base es xs A) (hb : base' ≤ base) : Sts base' es xs A := by
  obtain ⟨L, h1, h2, h3⟩ := h.ex
  exact ⟨L, h1, h2, fun q hq => (h3 q hq).lower hb⟩
theorem PlanO.lower {base base' : Nat} {s : ByteArray} {T : List Sp} {v1 : Value} {n1 : Nat} {t : ByteArray} {v2 v3 : Value} {x z : Int} {v4 : Value} {n4 : Nat} {A : World} (h : PlanO base s T v1 n1 t v2 v3 x z v4 n4 A) (hb : base' ≤ base) : PlanO base' s T v1 n1 t v2 v3 x z v4 n4 A := by
  obtain ⟨es, cu, ls, xs, ys, h1, h2, h3, h4, h5, h6, h7, h8, h9, h10, h11, h12⟩ := h.ex
  exact ⟨es, cu, ls, xs, ys, h1, h2, h3, h4, h5, h6, h7, ownsRow_low h8 hb, h9.lower hb, h10.lower hb, ownsRow_low h11 hb, h12.lower hb⟩
theorem PlanO.keep {base : Nat} {s : ByteArray} {T : List Sp} {v1 : Value} {n1 : Nat} {t : ByteArray} {v2 v3 : Value} {x z : Int} {v4 : Value} {n4 : Nat} {A B : World} {row : Option Nat} (h : PlanO base s T v1 n1 t v2 v3 x z v4 n4 A) (hg : A.grownBy B row) (hr : ∀ r, row = some r → r < base ∨ ∃ c t fz, A.heap[r]? = some (.cells c t fz) ∧ t ≠ 9 ∧ t ≠ 357 ∧ t ≠ 96) : PlanO base s T v1 n1 t v2 v3 x z v4 n4 B := by
  obtain ⟨es, cu, ls, xs, ys, h1, h2, h3, h4, h5, h6, h7, h8, h9, h10, h11, h12⟩ := h.ex
  have st : Stb base A B := Stb.of_grown hg (fun r e => (hr r e).imp id (fun ⟨c, t, fz, a1, a2, a3, _⟩ => ⟨c, t, fz, a1, a2, a3⟩))
  have ne : ∀ {v : Value} {n : Nat} {us : List Value}, A.ownsRow base 96 5 v n us → ∀ r, row = some r → r < base ∨ v.ownBlock ≠ some r := fun {v n us} hv r e => (hr r e).imp id (fun ⟨c, t, fz, a1, _, _, a4⟩ => by
    rcases hv.2 with ⟨rfl, _⟩ | ⟨g, cap, cur, rfl, _, hgb, _⟩
    · simp [Value.ownBlock]
    · intro e2
      obtain rfl : g = r := by simpa [Value.ownBlock] using e2
      rw [hgb] at a1
      cases a1
      exact a4 rfl)
  exact ⟨es, cu, ls, xs, ys, h1, h2, h3, h4, h5, h6, h7, ownsRow_keep h8 hg (ne h8), h9.stb st, h10.stb st, ownsRow_keep h11 hg (ne h11), h12.stb st⟩

set_option maxRecDepth 100000 in
set_option maxHeartbeats 2000000 in
theorem chain_any (s : ByteArray) (w : World) (hm : s.size ≤ 80) (R : (Bool × Nat) × Nat) (HR : Hid (Pl.chn s (s.size + 1) false 0 0 = R)) (cd at_ : Nat) (HV : Hid (verdict R = (cd, at_))) (T : List Sp) (HT : Hid (Pl.chC s (s.size + 1) false 0 = T)) :
    Calls Tryz.prog 35 #[.string s] w fun e w' => ∃ p1 n1 c1 p2 n2 c2 p3 n3 c3 p4 n4 c4, ∃ t : ByteArray, ∃ x z : Int, e = .returned (.tuple #[.agg #[.slice p1 n1 c1, .string t, .slice p2 n2 c2, .slice p3 n3 c3, .int .i64 x, .int .i64 z, .slice p4 n4 c4], .int .i64 (cd : Int), .int .i64 (at_ : Int)]) ∧ Below w.heap.size w w' ∧ Hid (cd = 0 → PlanO w.heap.size s T (.slice p1 n1 c1) n1 t (.slice p2 n2 c2) (.slice p3 n3 c3) x z (.slice p4 n4 c4) n4 w' ∧ n1 + 1 + n4 ≤ 8) := by
  have hm' : ¬ (80 : Int) < (s.size : Int) := by omega
  obtain ⟨⟨O, D⟩, C⟩ := R
  have hC : C ≤ 0 + (s.size + 1) := by have := chn_count s (s.size + 1) false 0 0; rw [HR.out] at this; exact this
  have bR0 : Blk w.heap.size 98 #[.slice none 0 0, .string ⟨#[]⟩, .slice none 0 0, .slice none 0 0, .int .i64 0, .int .i64 0, .slice none 0 0] (w.alloc (.cells #[.slice none 0 0, .string ⟨#[]⟩, .slice none 0 0, .slice none 0 0, .int .i64 0, .int .i64 0, .slice none 0 0] 98)) := heap_alloc_new w _
  have bR := bR0.alloc (.cells #[.string s, .int .i64 0] 181)
  clear bR0
  go_enter Tryz.func35, Tryz.ntmps35
  go_wp2_with fail
  refine (plan_any (w.heap.size + 1) s _ hm ⟨by simp [go_sem], by simp [go_sem], fun o => by simp [go_sem], by simp⟩ O D C HR T HT).mono ?_
  rintro e w2 ⟨p1, n1, c1, p2, n2, c2, p3, n3, c3, p4, n4, c4, t, x, z, rfl, hr2, hn, hg, HPO⟩
  have d1 := hr2.c1
  have hsz := hg.size
  simp only [World.size_alloc] at hsz
  have hR2 := bR.keep hg (by simp)
  have hB2 : Below w.heap.size w w2 := (((Below.refl _ w).alloc (Nat.le_refl _) _).alloc (by simp) _).trans (below_of_grown hg (by omega) (by simp; omega))
  clear bR hg
  cases O with
  | false =>
    have HO : Hid (cd = 2 ∧ at_ = D) := by
      have := HV.out; simp [verdict] at this; exact ⟨this.1.symm, this.2.symm⟩
    clear hn
    obtain ⟨⟨r0, r1, r2, r3, r4, r5, r6⟩, rf⟩ := (hR2.alloc (.cells #[.slice p1 n1 c1, .string t, .slice p2 n2 c2, .slice p3 n3 c3, .int .i64 x, .int .i64 z, .slice p4 n4 c4] 98)).seven
    have d1' := (cell_alloc hr2.lt (.cells #[.slice p1 n1 c1, .string t, .slice p2 n2 c2, .slice p3 n3 c3, .int .i64 x, .int .i64 z, .slice p4 n4 c4] 98) 1).trans d1
    obtain ⟨h1, h2⟩ := HO.out
    subst h1 h2
    go_wp2
    go_region
    all_goals go_wp2
    have hc7 := seven_cells (.slice none 0 0) (.string ⟨#[]⟩) (.slice none 0 0) (.slice none 0 0) (.int .i64 0) (.int .i64 0) (.slice none 0 0) r0 r1 r2 r3 r4 r5 r6 _ rfl
    refine bodyPost_ret (res13 rfl rfl rfl (cells_drew7 hc7)) rfl ⟨_, _, _, _, _, _, _, _, _, _, _, _, _, _, _, rfl, ?_, fun h => by cases h⟩
    exact (below_seven (hB2.alloc (by omega) _) (Nat.le_refl _) _ _ _ _ _ _ _).drew
  | true =>
    have hn1 := hn rfl
    clear hn
    by_cases h8 : 8 < C
    · have HO : Hid (cd = 3 ∧ at_ = 0) := by
        have := HV.out; simp [verdict, h8] at this; exact ⟨this.1.symm, this.2.symm⟩
      have h8' : (8 : Int) < (n1 : Int) + 1 + (n4 : Int) := by omega
      obtain ⟨h1, h2⟩ := HO.out
      subst h1 h2
      go_wp2_with fail
      refine (stages_any p1 n1 c1 t p2 n2 c2 p3 n3 c3 x z p4 n4 c4 _ (by omega)).mono ?_
      rintro e w3 ⟨rfl, hB3⟩
      have hR3 := (hR2.alloc _).keep (grown_of_below none hB3) (by simp)
      obtain ⟨⟨r0, r1, r2, r3, r4, r5, r6⟩, rf⟩ := hR3.seven
      go_wp2
      have hc7 := seven_cells (.slice none 0 0) (.string ⟨#[]⟩) (.slice none 0 0) (.slice none 0 0) (.int .i64 0) (.int .i64 0) (.slice none 0 0) r0 r1 r2 r3 r4 r5 r6 _ rfl
      refine bodyPost_ret (res13 rfl rfl rfl hc7) rfl ⟨_, _, _, _, _, _, _, _, _, _, _, _, _, _, _, rfl, ?_, fun h => by cases h⟩
      exact below_seven ((hB2.alloc (by omega) (.cells #[.slice p1 n1 c1, .string t, .slice p2 n2 c2, .slice p3 n3 c3, .int .i64 x, .int .i64 z, .slice p4 n4 c4] 98)).trans (hB3.mono (by simp; omega))) (Nat.le_refl _) _ _ _ _ _ _ _
    · have HO : Hid (cd = 0 ∧ at_ = 0) := by
        have := HV.out; simp [verdict, h8] at this; exact ⟨this.1.symm, this.2.symm⟩
      have h8' : ¬ (8 : Int) < (n1 : Int) + 1 + (n4 : Int) := by omega
      obtain ⟨h1, h2⟩ := HO.out
      subst h1 h2
      go_wp2_with fail
      refine (stages_any p1 n1 c1 t p2 n2 c2 p3 n3 c3 x z p4 n4 c4 _ (by omega)).mono ?_
      rintro e w3 ⟨rfl, hB3⟩
      have hR3 := (hR2.alloc _).keep (grown_of_below none hB3) (by simp)
      have hP3 : Blk w2.heap.size 98 #[.slice p1 n1 c1, .string t, .slice p2 n2 c2, .slice p3 n3 c3, .int .i64 x, .int .i64 z, .slice p4 n4 c4] w3 := Blk.keep (show Blk w2.heap.size 98 #[.slice p1 n1 c1, .string t, .slice p2 n2 c2, .slice p3 n3 c3, .int .i64 x, .int .i64 z, .slice p4 n4 c4] (w2.alloc (.cells #[.slice p1 n1 c1, .string t, .slice p2 n2 c2, .slice p3 n3 c3, .int .i64 x, .int .i64 z, .slice p4 n4 c4] 98)) from heap_alloc_new w2 _) (grown_of_below none hB3) (by simp)
      obtain ⟨⟨r0, r1, r2, r3, r4, r5, r6⟩, rf⟩ := hR3.seven
      obtain ⟨⟨l0, l1, l2, l3, l4, l5, l6⟩, lf⟩ := hP3.seven
      go_wp2
      have hc7 := seven_cells (.slice p1 n1 c1) (.string t) (.slice p2 n2 c2) (.slice p3 n3 c3) (.int .i64 x) (.int .i64 z) (.slice p4 n4 c4) r0 r1 r2 r3 r4 r5 r6 _ rfl
      refine bodyPost_ret (res13 rfl rfl rfl hc7) rfl ⟨_, _, _, _, _, _, _, _, _, _, _, _, _, _, _, rfl, ?_, ?_⟩
      · exact below_seven ((hB2.alloc (by omega) (.cells #[.slice p1 n1 c1, .string t, .slice p2 n2 c2, .slice p3 n3 c3, .int .i64 x, .int .i64 z, .slice p4 n4 c4] 98)).trans (hB3.mono (by simp; omega))) (Nat.le_refl _) _ _ _ _ _ _ _
      · have h0 := (HPO.out (by simp)).lower (base' := w.heap.size) (by simp; omega)
        have h1 := h0.keep (World.grownBy_alloc w2 (.cells #[.slice p1 n1 c1, .string t, .slice p2 n2 c2, .slice p3 n3 c3, .int .i64 x, .int .i64 z, .slice p4 n4 c4] 98) none) (fun r e => by cases e)
        have h2 := h1.keep (grown_of_below none hB3) (fun r e => by cases e)
        exact ⟨h2.keep (grown_seven_self w3 w.heap.size (.slice p1 n1 c1) (.string t) (.slice p2 n2 c2) (.slice p3 n3 c3) (.int .i64 x) (.int .i64 z) (.slice p4 n4 c4)) (fun r e => by cases e; exact .inr ⟨_, _, _, hR3, by decide, by decide, by decide⟩), by omega⟩

end Go.Proofs.YtcmgclckknpecaaGreatDoor
