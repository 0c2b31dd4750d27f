import Derived.RangeFuncNested
import Derived.RangeFuncBound
import Derived.RangeFuncCalls
import Derived.RangeFuncLeaves
import Derived.RangeFuncBox
import Derived.Shelf.Abstract
import Derived.Shelf.RegionOpen
import Derived.WalkKit
import Derived.OwnWalkIn
import Derived.TacticsInMore
import Derived.LoopNIn
import Derived.LoopIn
import Derived.Maps.AppendAt
import Derived.Test.YtcmgclckknpecaaGreatDoorAFirst
import Derived.Test.YtcmgclckknpecaaGreatDoorARow3
namespace Go.Proofs.YtcmgclckknpecaaGreatDoor
open Go.RowKit Go.Shelf
attribute [local go_sem] Oper.semAt_some

/-- The value that a round is handed. -/
def encs (x : Nat × Nat × Nat) : Array Value := #[.agg #[.int .i64 (x.1 : Int), .int .i64 (x.2.1 : Int), .int .i64 (x.2.2 : Int)]]

theorem grown_below {A B : World} (h : Below A.heap.size A B) : A.grownBy B none := ⟨h.os, h.tape, h.output, h.size, fun k hk _ => h.block k hk⟩

set_option maxHeartbeats 400000 in
theorem characters_in (F : Fence) (n : Nat) (h : F.fn 41) (hro : F.round = none) (s : ByteArray) (w : World) :
    CallsIn F n Tryz.prog 41 #[.string s] w fun e w' => e = .returned (.func (.func 83) #[] #[.pointer (some ⟨w.heap.size, 0, none⟩)]) ∧ w' = w.alloc (.cells #[.string s] 9) := by
  refine callsIn_of_wp Tryz.func41 rfl h ?_ hro
  simp only [Tryz.ntmps41, List.size_toArray, List.length_cons, List.length_nil, Nat.reduceAdd, Nat.reduceSub, Array.replicate_succ, Array.replicate_zero, List.push_toArray, List.append_toArray, List.nil_append, List.cons_append]
  gi_wp2
  go_ret
  exact ⟨rfl, rfl⟩

set_option maxRecDepth 100000 in
set_option maxHeartbeats 1000000 in
/-- The closure of characters, for every loop body that keeps what lay below n0. -/
theorem seq_in (n : Nat) (hn : 1 ≤ n) (l Bn n0 : Nat) (s : ByteArray) (hm : s.size ≤ 120) (xs : List (Nat × Nat × Nat)) (HXS : Hid (Pl.cs (Pl.bt s) s.size s.size 0 = xs)) (J Jx : List (Nat × Nat × Nat) → World → Prop)
    (W : World) (hBn : Bn < n0) (hJ : AbidesFrom W.heap.size J)
    (hY : ∀ pre x W, J pre W → pre.length < xs.length → YieldAt Fence.wide (n - 1) Tryz.prog l (encs x) W fun e W' =>
      (e = .returned (.bool true) ∧ J (pre ++ [x]) W' ∧ Below n0 W W') ∨ (e = .returned (.bool false) ∧ Jx (pre ++ [x]) W'))
    (hc : W.cell? ⟨Bn, 0, none⟩ = some (.string s)) (hn0 : n0 ≤ W.heap.size) (h0 : J [] W) :
    CallsIn Fence.wide n Tryz.prog 83 #[.func (.yield l) #[] #[], .pointer (some ⟨Bn, 0, none⟩)] W fun e W' => (∃ v, e = .returned v) ∧
      ((∃ ys, ys = xs ∧ J ys W') ∨ (∃ pre, pre <+: xs ∧ Jx pre W')) := by
  refine callsIn_of_wp Tryz.func83 rfl trivial ?_ rfl
  simp only [Tryz.ntmps83, List.size_toArray, List.length_cons, List.length_nil, Nat.reduceAdd, Nat.reduceSub, Array.replicate_succ, Array.replicate_zero, List.push_toArray, List.append_toArray, List.nil_append, List.cons_append]
  gi_wp2
  gi_loopw [3] (fun a wr => ∃ (k m : Nat) (pre : List (Nat × Nat × Nat)), a = .int .i64 k ∧ k ≤ s.size ∧ s.size ≤ k + m ∧ Hid (pre ++ Pl.cs (Pl.bt s) s.size m k = xs) ∧ wr.cell? ⟨Bn, 0, none⟩ = some (.string s) ∧ n0 ≤ wr.heap.size ∧ J pre wr) (fun a _ => s.size - (intOf a).toNat)
  case atStart => exact ⟨0, s.size, [], rfl, by omega, by omega, HXS, hc, hn0, h0⟩
  case round =>
    obtain ⟨k, m, pre, rfl, hk, hkm, HX, hcr, hnr, hJr⟩ := hrel
    by_cases hlt : k < s.size
    · have hlt' : (k : Int) < (s.size : Int) := by omega
      obtain ⟨m', hm', hcs⟩ := Pl.cs_cons (g := Pl.bt s) (m := m) hlt hkm
      have hsz1 := Pl.size_ge (fun j => Pl.bt s (k + j)) (s.size - k)
      have hsz2 := Pl.size_le (fun j => Pl.bt s (k + j)) (s.size - k) (by omega)
      have hes : (s.extract k s.size).size = s.size - k := by simp
      have hfi := fun w => first_any (s.extract k s.size) w (by omega) (by omega)
      have heb : Pl.bt (s.extract k s.size) = fun j => Pl.bt s (k + j) := funext fun j => Pl.bt_extract s k j (by omega)
      rw [hes, heb] at hfi
      obtain ⟨cd, hcd⟩ : ∃ cd, Pl.code (fun j => Pl.bt s (k + j)) (s.size - k) = cd := ⟨_, rfl⟩
      obtain ⟨sz, hsz⟩ : ∃ sz, Pl.size (fun j => Pl.bt s (k + j)) (s.size - k) = sz := ⟨_, rfl⟩
      rw [hcd, hsz] at hcs hfi
      rw [hsz] at hm' hsz1 hsz2
      have HX2 : Hid ((pre ++ [(cd, k, k + sz)]) ++ Pl.cs (Pl.bt s) s.size m' (k + sz) = xs) := by
        have := HX.out; rw [hcs] at this; show _ = _; rw [← this]; simp
      have hpl : pre.length < xs.length := by
        have := congrArg List.length HX2.out; simp at this; omega
      have HFI : Hid (∀ w, Calls Tryz.prog 84 #[.string (s.extract k s.size)] w fun e w' => e = .returned (.tuple #[.int .i64 (cd : Int), .int .i64 (sz : Int)]) ∧ Below w.heap.size w w') := hfi
      clear hfi hcs hcd hsz heb hes HX
      gi_wp2_with fail
      refine ⟨trivial, ?_⟩
      refine (callsIn_wide.2 (HFI.out _)).mono ?_
      rintro e w2 ⟨rfl, h2⟩
      have hJ2 : J pre w2 := hJ pre wr w2 none hJr (grown_below h2) (fun r e => by cases e)
      have hc2 : w2.cell? ⟨Bn, 0, none⟩ = some (.string s) := (h2.cell (p := ⟨Bn, 0, none⟩) (by show Bn < _; omega)).trans hcr
      have hn2 : n0 ≤ w2.heap.size := by have := h2.size; omega
      obtain ⟨fn, tmps, assign, body, hy, hR⟩ := hY pre (cd, k, k + sz) w2 hJ2 hpl
      simp only [encs, Int.natCast_add] at hy
      gi_wp2
      refine hR.mono ?_
      rintro e W3 (⟨rfl, hJ3, hk3⟩ | ⟨rfl, hJx3⟩)
      · have hc3 : W3.cell? ⟨Bn, 0, none⟩ = some (.string s) := (hk3.cell (p := ⟨Bn, 0, none⟩) hBn).trans hc2
        gi_wp2
        go_roundw
        case rel => exact ⟨k + sz, m', pre ++ [(cd, k, k + sz)], by go_num, by omega, hm', HX2, hc3, by have := hk3.size; omega, hJ3⟩
        case measure => simp [intOf]; omega
      · gi_wp2
        refine bodyPost_ret (results_none rfl _ _ _) rfl ?_
        exact ⟨⟨_, rfl⟩, .inr ⟨pre ++ [(cd, k, k + sz)], ⟨_, HX2.out⟩, hJx3⟩⟩
    · have hx : pre = xs := by have := HX.out; rw [Pl.cs_nil hlt] at this; simpa using this
      gi_wp2
      go_end0
      exact ⟨⟨_, rfl⟩, .inl ⟨pre, hx, hJr⟩⟩

end Go.Proofs.YtcmgclckknpecaaGreatDoor
