import Derived.Test.YtcmgclckknpecaaSplit
import Derived.Test.YtcmgclckknpecaaChars
namespace Go.Proofs.Ytcmgclckknpecaa
open Go.RowKit Go.Shelf

theorem enc_getElem : ∀ (xs : List (Nat × Nat × Nat)) (i : Nat) (h : i < xs.length),
    (xs.flatMap enc)[i * 3]? = some (.int .i64 ((xs[i]).1 : Int)) ∧ (xs.flatMap enc)[i * 3 + 1]? = some (.int .i64 ((xs[i]).2.1 : Int)) ∧ (xs.flatMap enc)[i * 3 + 2]? = some (.int .i64 ((xs[i]).2.2 : Int))
  | x :: r, 0, _ => by simp [enc]
  | x :: r, i + 1, h => by
    have ih := enc_getElem r i (by simpa using h)
    have e : ∀ j, ((x :: r).flatMap enc)[(i + 1) * 3 + j]? = (r.flatMap enc)[i * 3 + j]? := fun j => by
      rw [List.flatMap_cons, List.getElem?_append_right (by simp [enc]; omega)]
      congr 1
      simp [enc]; omega
    refine ⟨(e 0).trans ih.1, (e 1).trans ih.2.1, (e 2).trans ih.2.2⟩

/-- What a slice that owns a row of characters looks like. -/
theorem row_form {w : World} {base : Nat} {e : TypeId} {v : Value} {xs : List (Nat × Nat × Nat)} (h : w.ownsRow base e 3 v xs.length (xs.flatMap enc)) :
    ∃ a cap, v = .slice a xs.length cap ∧ (0 < xs.length → ∃ g, a = some ⟨g, 0, none⟩ ∧ base ≤ g ∧ g < w.heap.size ∧ (∀ o, w.frozen? ⟨g, o, none⟩ = false) ∧
      (∀ i (hi : i < xs.length), w.cell? ⟨g, i * 3, none⟩ = some (.int .i64 ((xs[i]).1 : Int)) ∧ w.cell? ⟨g, i * 3 + 1, none⟩ = some (.int .i64 ((xs[i]).2.1 : Int)) ∧ w.cell? ⟨g, i * 3 + 2, none⟩ = some (.int .i64 ((xs[i]).2.2 : Int)))) := by
  rcases h.2 with ⟨rfl, h0⟩ | ⟨g, cap, cur, rfl, hb, hg, hcap, hmax, hcs, htake⟩
  · exact ⟨none, 0, by rw [h0], fun hp => by omega⟩
  · refine ⟨_, cap, rfl, fun hp => ⟨g, rfl, hb, (Array.getElem?_eq_some_iff.1 hg).1, fun o => by simp [World.frozen?, hg], fun i hi => ?_⟩⟩
    obtain ⟨e0, e1, e2⟩ := enc_getElem xs i hi
    have key : ∀ j (u : Value), (xs.flatMap enc)[j]? = some u → w.cell? ⟨g, j, none⟩ = some u := fun j u hu => by
      rw [← htake, List.getElem?_take] at hu
      split at hu
      · simp [World.cell?, hg]; simpa using hu
      · cases hu
    exact ⟨key _ _ e0, key _ _ e1, key _ _ e2⟩

theorem three_below' {B : Nat} {a X : World} {b : Nat} (h : Below B a X) (hb : B ≤ b) (o p q : Nat) (x y z : Value) : Below B a (((X.setCell ⟨b, o, none⟩ x).setCell ⟨b, p, none⟩ y).setCell ⟨b, q, none⟩ z) :=
  ((h.setCell (p := ⟨b, o, none⟩) hb x).setCell (p := ⟨b, p, none⟩) hb y).setCell (p := ⟨b, q, none⟩) hb z

set_option maxHeartbeats 1000000 in
theorem splits_core (s : ByteArray) (w : World) (hm : s.size ≤ 120) :
    Calls Try.prog 3 #[.string s] w fun e w' => e = .returned (.bool true) ∧ Below w.heap.size w w' := by
  obtain ⟨xs, hxs⟩ : ∃ xs, Pl.cs (Pl.bt s) s.size s.size 0 = xs := ⟨_, rfl⟩
  have hlen : xs.length ≤ 120 := by have := Pl.cs_length (Pl.bt s) s.size s.size 0; rw [hxs] at this; omega
  have HXS : Hid (Pl.cs (Pl.bt s) s.size s.size 0 = xs) := hxs
  have hrs := fun w => refsplit_any s w hm
  rw [hxs] at hrs
  have HRS : Hid (∀ w, Calls Try.prog 6 #[.string s] w fun e w' => ∃ v, e = .returned (.tuple #[v, .int .i64 0]) ∧ w'.ownsRow w.heap.size 32 3 v xs.length (xs.flatMap enc) ∧ Below w.heap.size w w') := hrs
  clear hxs hrs
  go_enter Try.func3, Try.ntmps3
  go_wp2_with fail
  refine (split_any s _ hm xs HXS).mono ?_
  rintro e wa ⟨vl, rfl, hrowl, hBa⟩
  obtain ⟨al, capl, rfl, hl⟩ := row_form hrowl
  go_wp2_with fail
  refine (split_any s _ hm xs HXS).mono ?_
  rintro e wb ⟨vz, rfl, hrowz, hBb⟩
  obtain ⟨az, capz, rfl, hz⟩ := row_form hrowz
  have hzf : ∀ g, az = some ⟨g, 0, none⟩ → ∀ o, wb.frozen? ⟨g, o, none⟩ = false := fun g e o => by
    rcases hrowz.2 with ⟨h, _⟩ | ⟨g', cap, cur, h, _, hg, _⟩
    · subst e; cases h
    · subst e
      obtain rfl : g = g' := by have := congrArg Value.ownBlock h; simpa [Value.ownBlock] using this
      simp [World.frozen?, hg]
  clear hrowl hrowz
  go_wp2
  go_loopw [7] (fun i wr => ∃ k : Nat, i = .int .i64 k ∧ k ≤ xs.length ∧ Below wa.heap.size wa wr ∧ wb.heap.size ≤ wr.heap.size ∧
    (∀ g, az = some ⟨g, 0, none⟩ → (∀ o, wr.frozen? ⟨g, o, none⟩ = false) ∧ ∀ o, o < xs.length * 3 → ∃ v, wr.cell? ⟨g, o, none⟩ = some v)) (fun i _ => xs.length - (intOf i).toNat)
  case atStart =>
    refine ⟨0, rfl, by omega, hBb, Nat.le_refl _, fun g e => ?_⟩
    by_cases h0 : 0 < xs.length
    · obtain ⟨gz, e', _, _, hf, hc⟩ := hz h0
      obtain rfl : gz = g := by rw [e] at e'; simpa using e'.symm
      refine ⟨hf, fun o ho => ?_⟩
      obtain ⟨q, r, hr, rfl⟩ : ∃ q r, r < 3 ∧ o = q * 3 + r := ⟨o / 3, o % 3, by omega, by omega⟩
      obtain ⟨d0, d1, d2⟩ := hc q (by omega)
      obtain rfl | rfl | rfl : r = 0 ∨ r = 1 ∨ r = 2 := by omega
      · exact ⟨_, d0⟩
      · exact ⟨_, d1⟩
      · exact ⟨_, d2⟩
    · exact ⟨(hzf g e), fun o ho => by omega⟩
  case round =>
    obtain ⟨k, rfl, hk, hBr, hsr, hzr⟩ := hrel
    by_cases hkl : k < xs.length
    · obtain ⟨gz, rfl, hgz, hgz2, _, _⟩ := hz (by omega)
      obtain ⟨hfz, hcz⟩ := hzr gz rfl
      obtain ⟨v0, c0⟩ := hcz (k * 3) (by omega)
      obtain ⟨v1, c1⟩ := hcz (k * 3 + 1) (by omega)
      obtain ⟨v2, c2⟩ := hcz (k * 3 + 2) (by omega)
      have hkl' : (k : Int) < (xs.length : Int) := by omega
      clear hz hzr
      go_wp2
      refine ⟨⟨k + 1, by go_num, by omega, three_below' hBr hgz _ _ _ _ _ _, by simpa using hsr, fun g e => ?_⟩, by simp [intOf]; omega⟩
      obtain rfl : gz = g := by simpa using e
      refine ⟨fun o => by rw [World.frozen?_setCell, World.frozen?_setCell, World.frozen?_setCell]; exact hfz o, fun o ho => ?_⟩
      obtain ⟨x0, y0⟩ := hcz o ho
      obtain ⟨x1, y1⟩ := cell?_setCell_some (p := ⟨gz, k * 3, none⟩) (x := .int .i64 0) y0
      obtain ⟨x2, y2⟩ := cell?_setCell_some (p := ⟨gz, k * 3 + 1, none⟩) (x := .int .i64 0) y1
      exact cell?_setCell_some (p := ⟨gz, k * 3 + 2, none⟩) (x := .int .i64 0) y2
    · clear hz hzr
      go_wp2_with fail
      refine (HRS.out _).mono ?_
      rintro e wm ⟨vm, rfl, hrowm, hBm⟩
      obtain ⟨am, capm, rfl, hmm⟩ := row_form hrowm
      clear hrowm
      go_wp2_with (go_at_call 7; refine (num_any _ _).mono ?_; rintro e w' ⟨rfl, hw⟩; rw [hw]; clear hw w')
      have hfin : Below w.heap.size w wm := hBa.trans ((hBr.mono hBa.size).trans (hBm.mono (by have := hBa.size; have := hBr.size; omega)))
      go_loopw [10] (fun i wr2 => ∃ k q : Nat, i = .int .i64 k ∧ k ≤ xs.length ∧ wr2 = wm.drewN q) (fun i _ => xs.length - (intOf i).toNat)
      case atStart => exact ⟨0, 0, rfl, by omega, rfl⟩
      case round =>
        obtain ⟨j, q, rfl, hj, rfl⟩ := hrel
        by_cases hjl : j < xs.length
        · obtain ⟨gl, rfl, hgl, hgl2, _, hcl⟩ := hl (by omega)
          obtain ⟨gm, rfl, hgm, hgm2, _, hcm⟩ := hmm (by omega)
          obtain ⟨a0, a1, a2⟩ := hcl j hjl
          obtain ⟨b0, b1, b2⟩ := hcm j hjl
          have hto : ∀ o, wm.cell? ⟨gl, o, none⟩ = wa.cell? ⟨gl, o, none⟩ := fun o =>
            (hBm.cell (p := ⟨gl, o, none⟩) (by have := hBr.size; show gl < _; omega)).trans (hBr.cell (p := ⟨gl, o, none⟩) hgl2)
          rw [← hto] at a0 a1 a2
          have hjl' : (j : Int) < (xs.length : Int) := by omega
          clear hto hcl hcm hl hmm
          go_wp2_with fail
          go_quiet (fail)
          go_wp2
          exact ⟨⟨j + 1, q + nq, by go_num, by omega, rfl⟩, by simp [intOf]; omega⟩
        · go_wp2
          go_ret
          exact ⟨rfl, below_drewN hfin q⟩

set_option maxHeartbeats 1000000 in
theorem splits_long (s : ByteArray) (w : World) (hl : 120 < s.size) :
    Calls Try.prog 3 #[.string s] w fun e w' => e = .returned (.bool true) ∧ Below w.heap.size w w' := by
  go_enter Try.func3, Try.ntmps3
  go_wp2_with fail
  refine (split_long s _ hl).mono ?_
  rintro e wa ⟨rfl, hw⟩
  rw [hw]; clear hw wa
  go_wp2_with fail
  refine (split_long s _ hl).mono ?_
  rintro e wa ⟨rfl, hw⟩
  rw [hw]; clear hw wa
  go_wp2
  go_loopw [7] (fun i wr => i = .int .i64 0 ∧ wr = w) (fun _ _ => 0)
  case atStart => exact ⟨rfl, rfl⟩
  case round =>
    obtain ⟨rfl, rfl⟩ := hrel
    go_wp2_with fail
    refine (refsplit_long s _ hl).mono ?_
    rintro e wa ⟨rfl, hw⟩
    rw [hw]; clear hw wa
    go_wp2_with (go_at_call 7; refine (num_any _ _).mono ?_; rintro e w' ⟨rfl, hw⟩; rw [hw]; clear hw w')
    go_loopw [10] (fun i wr2 => i = .int .i64 0 ∧ wr2 = wr) (fun _ _ => 0)
    case atStart => exact ⟨rfl, rfl⟩
    case round =>
      obtain ⟨rfl, rfl⟩ := hrel
      go_wp2
      go_ret
      exact ⟨rfl, Below.refl _ _⟩

theorem splits_any (s : ByteArray) (w : World) :
    Calls Try.prog 3 #[.string s] w fun e w' => e = .returned (.bool true) ∧ Below w.heap.size w w' := by
  by_cases h : s.size ≤ 120
  · exact splits_core s w h
  · exact splits_long s w (by omega)

end Go.Proofs.Ytcmgclckknpecaa
