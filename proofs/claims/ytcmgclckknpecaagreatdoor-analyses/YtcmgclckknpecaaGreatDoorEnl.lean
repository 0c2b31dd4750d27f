/- The table of endings, out of the condition that the statement gives. -/
import Derived.Test.YtcmgclckknpecaaGreatDoorHgi
import Derived.OpenShut
import Derived.MakeChecks
import Derived.LaidMore
namespace Go.Proofs.YtcmgclckknpecaaGreatDoor
open Go.RowKit

theorem flat3 : ∀ (l : List (List Value)) (cs : List Value), cs.length = l.length * 3 → (∀ i, i < l.length → some ((cs.drop (i * 3)).take 3) = l[i]?) → cs = l.flatten
  | [], cs, h, _ => by simpa using h
  | x :: r, cs, h, hi => by
    have h0 := hi 0 (by simp)
    simp only [Nat.zero_mul, List.drop_zero, List.getElem?_cons_zero, Option.some.injEq] at h0
    have ih := flat3 r (cs.drop 3) (by simp only [List.length_drop, List.length_cons] at h ⊢; omega) (fun i hl => by
      have := hi (i + 1) (by simpa using hl)
      rw [List.getElem?_cons_succ, show (i + 1) * 3 = 3 + i * 3 by omega, ← List.drop_drop] at this
      exact this)
    rw [List.flatten_cons, ← h0, ← ih, List.take_append_drop]
/-- The cells of an ending. -/
def e3 (x : List UInt8 × Int × List UInt8) : List Value := [.string ⟨x.1.toArray⟩, .int .i64 x.2.1, .string ⟨x.2.2.toArray⟩]
def d3 (x : List UInt8 × Int × List UInt8) : DataW Unit := .agg [.lit (.string x.1), .lit (.int .i64 x.2.1), .lit (.string x.2.2)]
theorem len3 {α : Type} : ∀ l : List α, l.length = 3 → ∃ a b c, l = [a, b, c]
  | [a, b, c], _ => ⟨a, b, c, rfl⟩
theorem c433 : Tryz.prog.cellsOf 433 = 3 := by kernel_rfl
theorem c434 : Tryz.prog.cellsOf 434 = 27 := by kernel_rfl
theorem c9 : Tryz.prog.cellsOf 9 = 1 := by kernel_rfl
theorem c3 : Tryz.prog.cellsOf 3 = 1 := by kernel_rfl
theorem open433 {w : World} {fuel : Nat} {cs : List Value} {p : List MemPlace} (x : List UInt8 × Int × List UInt8) (h : DataW.trod (fun _ => ()) Tryz.prog w 0 (fun _ => true) false fuel 433 cs = some (d3 x, p)) : cs = e3 x := by
  obtain ⟨ys, m, _, hx, hl, hn, hf⟩ := DataW.trod_struct Tryz.underlying433 h
  have l3 : ys.length = 3 := hn
  obtain ⟨y0, y1, y2, rfl⟩ := len3 ys l3
  have f0 := (show DataW.trod (fun _ => ()) Tryz.prog w 0 (fun _ => true) false m 9 ((cs.drop 0).take (Tryz.prog.cellsOf 9)) = some y0 from hf 0 _ rfl)
  have f1 := (show DataW.trod (fun _ => ()) Tryz.prog w 0 (fun _ => true) false m 3 ((cs.drop 1).take (Tryz.prog.cellsOf 3)) = some y1 from hf 1 _ rfl)
  have f2 := (show DataW.trod (fun _ => ()) Tryz.prog w 0 (fun _ => true) false m 9 ((cs.drop 2).take (Tryz.prog.cellsOf 9)) = some y2 from hf 2 _ rfl)
  rw [c9] at f0 f2
  rw [c3] at f1
  clear hf h
  obtain ⟨s0, a0, b0, _⟩ := DataW.trod_string Tryz.underlying9 f0
  obtain ⟨n1, a1, b1, _⟩ := DataW.trod_int Tryz.underlying3 f1
  obtain ⟨s2, a2, b2, _⟩ := DataW.trod_string Tryz.underlying9 f2
  subst b0 b1 b2
  simp only [d3, List.map_cons, List.map_nil, Prod.mk.injEq, DataW.agg.injEq, List.cons.injEq, DataW.lit.injEq, Lit.string.injEq, Lit.int.injEq, and_true, true_and] at hx
  obtain ⟨⟨e0, e1, e2⟩, _⟩ := hx
  rw [c433] at hl
  obtain ⟨k0, k1, k2, rfl⟩ := len3 cs hl
  obtain rfl : k0 = .string s0 := (List.cons.inj a0).1
  obtain rfl : k1 = .int .i64 n1 := (List.cons.inj a1).1
  obtain rfl : k2 = .string s2 := (List.cons.inj a2).1
  rw [e3, e0, e1, e2]
/-- The table, as the statement's row lists it. -/
def ends9D : List (List UInt8 × Int × List UInt8) := [([115, 115, 101, 115], 1, [115, 115]), ([105, 101, 115], 2, [121]), ([115, 115], 1, [115, 115]), ([117, 115], 1, [117, 115]), ([115], 2, []), ([105, 110, 103], 3, []), ([101, 100, 108, 121], 3, []), ([101, 100], 3, []), ([108, 121], 3, [])]
theorem ends_flat : ((ends9D.map e3).flatten).toArray = endC := by rfl
theorem open434 {w : World} {fuel : Nat} {cs : List Value} {p : List MemPlace} (h : DataW.trod (fun _ => ()) Tryz.prog w 0 (fun _ => true) false fuel 434 cs = some (.agg (ends9D.map d3), p)) : cs = (ends9D.map e3).flatten := by
  obtain ⟨ys, m, _, hx, hl, hn, hf⟩ := DataW.trod_array Tryz.underlying434 h
  simp only [Prod.mk.injEq, DataW.agg.injEq] at hx
  rw [c434] at hl
  rw [c433] at hf
  refine flat3 _ cs (by rw [hl]; rfl) (fun i hi => ?_)
  have hi9 : i < 9 := hi
  have hy := hf i hi9
  have hiy : i < ys.length := by omega
  rw [List.getElem?_eq_getElem hiy] at hy
  have hE : i < ends9D.length := hi9
  have hd : (ys[i]).1 = d3 (ends9D[i]) := by
    have e := congrArg (fun l => l[i]?) hx.1
    simp only [List.getElem?_map] at e
    rw [List.getElem?_eq_getElem hiy, List.getElem?_eq_getElem hE] at e
    exact (Option.some.inj e).symm
  have ho := open433 (ends9D[i]) (p := (ys[i]).2) (by rw [hy]; exact congrArg some (Prod.ext hd rfl))
  rw [ho, List.getElem?_map, List.getElem?_eq_getElem hE]
  rfl
theorem ends_of_laid {w : World} (h : laidMetH Tryz.prog [("seek/seek.endings", .agg (ends9D.map d3))] w) : Ends w := by
  have h' : laidMet Tryz.prog [("seek/seek.endings", .agg (ends9D.map d3))] w := h
  obtain ⟨ps, ⟨g, t, cs, fuel, p, q, h1, h2, h3, h4, _, _⟩, _⟩ := h'
  have hg : g = 0 := Option.some.inj (h1.symm.trans (by kernel_rfl))
  subst hg
  have ht : t = 434 := Option.some.inj (h2.symm.trans (by kernel_rfl))
  subst ht
  have ho := open434 h4
  unfold World.var? at h3
  rw [h1, Option.bind_some] at h3
  split at h3
  · rename_i cs' t' fr hh
    cases h3
    refine ⟨t', fr, ?_⟩
    rw [hh, ← ends_flat, ← ho]
  · cases h3
end Go.Proofs.YtcmgclckknpecaaGreatDoor
