import Derived.Test.YtcmgclckknpecaaGreatDoorAng
import Derived.Test.YtcmgclckknpecaaGreatDoorPrd
namespace Go.Proofs.YtcmgclckknpecaaGreatDoor
open Go.RowKit Go.Shelf

set_option maxHeartbeats 1000000 in
/-- What both answer at a text that is too long. -/
theorem chain_long (s : ByteArray) (w : World) (hm : 80 < s.size) :
    Calls Tryz.prog 35 #[.string s] w fun e w' => ∃ p1 n1 c1 p2 n2 c2 p3 n3 c3 p4 n4 c4, ∃ t : ByteArray, ∃ x z : Int, e = .returned (.tuple #[.agg #[.slice p1 n1 c1, .string t, .slice p2 n2 c2, .slice p3 n3 c3, .int .i64 x, .int .i64 z, .slice p4 n4 c4], .int .i64 1, .int .i64 0]) ∧ Below w.heap.size w w' := by
  have hm' : (80 : Int) < (s.size : Int) := by omega
  have bR : Blk w.heap.size 98 #[.slice none 0 0, .string ⟨#[]⟩, .slice none 0 0, .slice none 0 0, .int .i64 0, .int .i64 0, .slice none 0 0] (w.alloc (.cells #[.slice none 0 0, .string ⟨#[]⟩, .slice none 0 0, .slice none 0 0, .int .i64 0, .int .i64 0, .slice none 0 0] 98)) := heap_alloc_new w _
  obtain ⟨⟨r0, r1, r2, r3, r4, r5, r6⟩, rf⟩ := bR.seven
  go_enter Tryz.func35, Tryz.ntmps35
  go_wp2
  refine bodyPost_ret (res13 rfl rfl rfl ⟨r0, r1, r2, r3, r4, r5, r6⟩) rfl ⟨_, _, _, _, _, _, _, _, _, _, _, _, _, _, _, rfl, ?_⟩
  exact (Below.refl _ w).alloc (Nat.le_refl _) _
theorem read_long (s : ByteArray) (w : World) (hm : 80 < s.size) :
    Calls Tryz.prog 37 #[.string s] w fun e w' => ∃ p n c, e = .returned (.tuple #[.slice p n c, .int .i64 1, .int .i64 0]) ∧ Below w.heap.size w w' := by
  have hm' : (80 : Int) < (s.size : Int) := by omega
  go_enter Tryz.func37, Tryz.ntmps37
  go_wp2
  go_ret3
  exact ⟨none, 0, 0, rfl, Below.refl _ _⟩

/-- The error and the place that both answer. -/
def ansOf (s : ByteArray) : Nat × Nat := if 80 < s.size then (1, 0) else verdict (Pl.chn s (s.size + 1) false 0 0)

theorem read_all (s : ByteArray) (w : World) (cd at_ : Nat) (h : Hid (ansOf s = (cd, at_))) :
    Calls Tryz.prog 37 #[.string s] w fun e w' => ∃ p n c, e = .returned (.tuple #[.slice p n c, .int .i64 (cd : Int), .int .i64 (at_ : Int)]) ∧ Below w.heap.size w w' := by
  have h0 := h.out
  unfold ansOf at h0
  by_cases hm : 80 < s.size
  · rw [if_pos hm] at h0
    simp only [Prod.mk.injEq] at h0
    obtain ⟨rfl, rfl⟩ := h0
    exact read_long s w hm
  · rw [if_neg hm] at h0
    exact read_any s w (by omega) _ rfl cd at_ h0

theorem refcheck_any (s : ByteArray) (w : World) (cd at_ : Nat) (h : Hid (ansOf s = (cd, at_))) :
    Calls Tryz.prog 19 #[.string s] w fun e w' => e = .returned (.tuple #[.int .i64 (cd : Int), .int .i64 (at_ : Int)]) ∧ Below w.heap.size w w' := by
  go_enter Tryz.func19, Tryz.ntmps19
  go_wp2_with fail
  refine (read_all s _ cd at_ h).mono ?_
  rintro e w2 ⟨p, n, c, rfl, hB⟩
  go_wp2
  go_ret2
  exact ⟨rfl, hB⟩

set_option maxHeartbeats 1000000 in
theorem analyse_clong (c s : ByteArray) (w : World) (hm : 80 < c.size) :
    Calls Tryz.prog 13 #[.string c, .string s] w fun e w' => e = .returned (.tuple #[.slice none 0 0, .int .i64 1, .int .i64 0]) ∧ Below w.heap.size w w' := by
  go_enter Tryz.func13, Tryz.ntmps13
  go_wp2_with fail
  refine (chain_long c _ hm).mono ?_
  rintro e w1 ⟨p1, n1, c1, p2, n2, c2, p3, n3, c3, p4, n4, c4, t, x, z, rfl, hB⟩
  go_wp2_with fail
  exact bodyPost_ret (by simp [results, Tryz.results13, go_sem]) rfl ⟨rfl, by first | exact hB | exact hB.alloc (by have := hB.size; omega) _⟩

namespace Pl
theorem eaAll_inv {b : Nat → Prop} : ∀ (es : List Sp) (xs : Ch3), (∀ e ∈ es, SpW e) → Inv b xs → Inv b (eaAll es xs)
  | [], _, _, h => h
  | e :: r, xs, hw, h => eaAll_inv r _ (fun x hx => hw x (by simp [hx])) (eaK_inv h _ e (hw e (by simp)))
theorem lateAll_inv {b : Nat → Prop} : ∀ (ls : List Sp) (K : Nat) (ts us : List Tc), (∀ e ∈ ls, SpW e) → TkI b K ts → lateAll ls ts = some us → us.length ≤ 300 ∧ ∃ K, TkI b K us
  | [], K, ts, us, _, h, e => by
    rw [lateAll] at e
    split at e
    · cases e
      exact ⟨by assumption, K, h⟩
    · cases e
  | l :: r, K, ts, us, hw, h, e => by
    rw [lateAll] at e
    split at e
    · exact lateAll_inv r (K + 8) _ us (fun x hx => hw x (by simp [hx])) (lgC_inv h l (hw l (by simp))) e
    · cases e
theorem takeP_inv {b : Nat → Prop} (es : List Sp) (cu : Sp) (ls : List Sp) (xs : Ch3) (he : ∀ e ∈ es, SpW e) (hl : ∀ e ∈ ls, SpW e) (h : Inv b xs) (us : List Tc) (e : takeP es cu ls xs = some us) : us.length ≤ 300 ∧ ∃ K, TkI b K us :=
  lateAll_inv ls _ _ us hl (cutC_inv (eaAll_inv es xs he h) cu _ (Nat.le_refl _)) e
theorem isE_w {c : ByteArray} (hm : c.size ≤ 80) {e : Sp} (h : isE c e) : SpW e := by
  obtain ⟨i, b, k, hi, _, e1, hb, hbs⟩ := h
  rw [e1]; exact spW_of c hm _ _ b k hbs hb
theorem isL_w {c : ByteArray} (hm : c.size ≤ 80) {e : Sp} (h : isL c e) : SpW e := by
  obtain ⟨i, b, k, hi, e1, hb, hbs⟩ := h
  rw [e1]; exact spW_of c hm _ _ b k hbs hb
end Pl

/-- What Bounds needs to know of an answer of Analyse. -/
structure AnaB (cd : Nat) (b : Nat → Prop) (n0 : Nat) (e : Ending) (w' : World) : Prop where
  ex : ∃ (v : Value) (f : Nat) (k : Int) (ts : List Pl.Tc), e = .returned (.tuple #[v, .int .i64 (f : Int), .int .i64 k]) ∧ w'.ownsRow n0 27 4 v ts.length ((ts.map Pl.tkC).flatMap tenc) ∧ (f = 0 ∨ ts = []) ∧ (cd ≠ 0 → f = cd) ∧ f ≤ 10 ∧ ts.length ≤ 300 ∧ ∃ K, Pl.TkI b K ts

theorem ownsRow_none {w : World} {base : Nat} {e : TypeId} {size : Nat} : w.ownsRow base e size (.slice none 0 0) 0 [] := by
  refine ⟨by simp, .inl ⟨rfl, rfl⟩⟩

theorem analyse_b (c s : ByteArray) (w : World) (hs : s.size ≤ 120) (cd at_ : Nat) (HA : Hid (ansOf c = (cd, at_))) (xs : Ch3) (HCS : Hid (Pl.cs (Pl.bt s) s.size s.size 0 = xs)) (HEN : Hid (Ends w)) :
    Calls Tryz.prog 13 #[.string c, .string s] w fun e w' => AnaB cd (Pl.bdr xs) w.heap.size e w' ∧ Below w.heap.size w w' := by
  have h0 := HA.out
  unfold ansOf at h0
  have hnil : Pl.TkI (Pl.bdr xs) 0 [] := ⟨(fun t h => nomatch h), List.Pairwise.nil⟩
  by_cases hm : 80 < c.size
  · rw [if_pos hm] at h0
    simp only [Prod.mk.injEq] at h0
    obtain ⟨rfl, rfl⟩ := h0
    refine (analyse_clong c s w hm).mono ?_
    rintro e w' ⟨rfl, hB⟩
    exact ⟨⟨_, 1, 0, [], rfl, ownsRow_none, .inr rfl, fun _ => rfl, by omega, by simp, 0, hnil⟩, hB⟩
  · rw [if_neg hm] at h0
    refine (analyse_any c s w (by omega) hs _ rfl cd at_ h0 _ rfl xs HCS HEN).mono ?_
    rintro e w' ⟨hA, hB⟩
    refine ⟨?_, hB⟩
    have hcd : cd ≤ 3 := by
      unfold verdict at h0
      split at h0
      · split at h0 <;> simp at h0 <;> omega
      · simp at h0; omega
    rcases hA.ex with ⟨hne, rfl⟩ | ⟨rfl, es, cu, ls, hT, hE, hC, hL, _, _, ⟨ts, v, hts, rfl, hr⟩ | ⟨hts, rfl⟩⟩
    · exact ⟨_, cd, at_, [], rfl, ownsRow_none, .inr rfl, fun _ => rfl, by omega, by simp, 0, hnil⟩
    · obtain ⟨h1, K, h2⟩ := Pl.takeP_inv es cu ls xs (fun e he => Pl.isE_w (by omega) (hE e he)) (fun e he => Pl.isL_w (by omega) (hL e he)) (Pl.cs_inv s xs HCS.out) ts hts
      exact ⟨v, 0, 0, ts, rfl, hr, .inl rfl, fun h => absurd rfl h, by omega, h1, K, h2⟩
    · exact ⟨_, 3, 0, [], rfl, ownsRow_none, .inr rfl, fun h => absurd rfl h, by omega, by simp, 0, hnil⟩

end Go.Proofs.YtcmgclckknpecaaGreatDoor
