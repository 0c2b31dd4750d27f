import Derived.Test.YtcmgclckknpecaaGreatDoorHga
import Derived.Test.YtcmgclckknpecaaGreatDoorGrc
namespace Go.Proofs.YtcmgclckknpecaaGreatDoor
open Go.RowKit Go.Shelf
attribute [local go_sem] Oper.semAt_some

/-- A piece of a row of n characters: where it begins, and how many it has. -/
abbrev Pce (n : Nat) := { p : Nat × Nat // 1 ≤ p.2 ∧ p.1 + p.2 ≤ n }
/-- The pieces that a cutter finds from i on (zf: how many characters the one has that begins there; 0: none does). -/
def Pl.cutS (n : Nat) (zf : Nat → Nat) (hz : ∀ i, i < n → i + zf i ≤ n) : Nat → Nat → List (Pce n)
  | 0, _ => []
  | m + 1, i => if h : i < n then (if h0 : zf i = 0 then Pl.cutS n zf hz m (i + 1) else ⟨(i, zf i), by simp only; omega, hz i h⟩ :: Pl.cutS n zf hz m (i + zf i)) else []
theorem Pl.cutS_pass {n : Nat} {zf : Nat → Nat} {hz : ∀ i, i < n → i + zf i ≤ n} {m i : Nat} (h : i < n) (hm : n ≤ i + m) (h0 : zf i = 0) : ∃ m', n ≤ i + 1 + m' ∧ Pl.cutS n zf hz m i = Pl.cutS n zf hz m' (i + 1) := by
  obtain ⟨m', rfl⟩ : ∃ m', m = m' + 1 := ⟨m - 1, by omega⟩
  exact ⟨m', by omega, by rw [Pl.cutS, dif_pos h, dif_pos h0]⟩
theorem Pl.cutS_cons {n : Nat} {zf : Nat → Nat} {hz : ∀ i, i < n → i + zf i ≤ n} {m i : Nat} (h : i < n) (hm : n ≤ i + m) (h0 : zf i ≠ 0) : ∃ (m' : Nat) (x : Pce n), x.1 = (i, zf i) ∧ n ≤ i + zf i + m' ∧ Pl.cutS n zf hz m i = x :: Pl.cutS n zf hz m' (i + zf i) := by
  obtain ⟨m', rfl⟩ : ∃ m', m = m' + 1 := ⟨m - 1, by omega⟩
  have hp : 1 ≤ zf i ∧ i + zf i ≤ n := ⟨by omega, hz i h⟩
  exact ⟨m', ⟨(i, zf i), hp⟩, rfl, by omega, by rw [Pl.cutS, dif_pos h, dif_neg h0]⟩
theorem Pl.cutS_nil {n : Nat} {zf : Nat → Nat} {hz : ∀ i, i < n → i + zf i ≤ n} {m i : Nat} (h : ¬ i < n) : Pl.cutS n zf hz m i = [] := by
  cases m with
  | zero => rfl
  | succ m => rw [Pl.cutS, dif_neg h]

theorem Cr.below {g o n0 : Nat} {xs : List (Nat × Nat × Nat)} {w w' : World} (h : Cr g o xs w) (hb : Below n0 w w') (hg : 0 < xs.length → g < n0) : Cr g o xs w' :=
  ⟨fun i hi => by
    have hg' := hg (by omega)
    have k : ∀ j, w'.cell? ⟨g, j, none⟩ = w.cell? ⟨g, j, none⟩ := fun j => hb.cell (p := ⟨g, j, none⟩) hg'
    rw [k, k, k]; exact h.c i hi⟩

/-- What a round keeps: all blocks below n0, and one more. -/
structure KeepB (n0 Bc : Nat) (W W' : World) : Prop where
  size : W.heap.size ≤ W'.heap.size
  block : ∀ k, k < n0 ∨ k = Bc → W'.heap[k]? = W.heap[k]?
theorem KeepB.trans {n0 Bc : Nat} {A B C : World} (h : KeepB n0 Bc A B) (k : KeepB n0 Bc B C) : KeepB n0 Bc A C := ⟨Nat.le_trans h.size k.size, fun i hi => (k.block i hi).trans (h.block i hi)⟩
theorem KeepB.cell {n0 Bc : Nat} {W W' : World} (h : KeepB n0 Bc W W') {b : Nat} (hb : b < n0 ∨ b = Bc) (o : Nat) : W'.cell? ⟨b, o, none⟩ = W.cell? ⟨b, o, none⟩ := by simp [World.cell?, h.block b hb]
theorem keepB_put {n0 Bc : Nat} {w : World} (h1 : n0 ≤ w.heap.size) (h2 : Bc < w.heap.size) (W : World) (l : Nat) (o o' : Obj) (hl : w.heap.size ≤ l) (_ : W.heap[l]? = some o) (_ : o.isCells = false) (_ : o.isWalk = false) : KeepB n0 Bc W (W.putObj l o') :=
  ⟨by simp, fun k hk => World.putObj_heap_other (by omega)⟩
theorem Cr.keepB {g o n0 Bc : Nat} {xs : List (Nat × Nat × Nat)} {w w' : World} (h : Cr g o xs w) (hb : KeepB n0 Bc w w') (hg : 0 < xs.length → g < n0) : Cr g o xs w' :=
  ⟨fun i hi => by
    have hg' := hg (by omega)
    rw [hb.cell (.inl hg'), hb.cell (.inl hg'), hb.cell (.inl hg')]; exact h.c i hi⟩

/-- What a round of a cutter's loop is handed. -/
def encp (g o cap : Nat) {n : Nat} (x : Pce n) : Array Value := #[.slice (some ⟨g, o + x.1.1 * 3, none⟩) x.1.2 (cap - x.1.1)]

set_option maxRecDepth 100000 in
set_option maxHeartbeats 1000000 in
theorem rows160_in (n : Nat) (hn : 1 ≤ n) (l Bc Bs n0 g o cap : Nat) (cs : List (Nat × Nat × Nat)) (hl : cs.length ≤ 268435456) (hcap : cs.length ≤ cap) (a : Option Addr) (ha : 0 < cs.length → a = some ⟨g, o, none⟩) (hg : 0 < cs.length → g < n0)
    (zf : Nat → Nat) (hz : ∀ i, i < cs.length → i + zf i ≤ cs.length) (HF : Hid (∀ k w, Cr g o cs w → k < cs.length → Calls Tryz.prog 200 #[.slice (some ⟨g, o, none⟩) cs.length cap, .int .i64 (k : Int)] w fun e w' => e = .returned (.int .i64 ((zf k : Nat) : Int)) ∧ w' = w))
    (xs : List (Pce cs.length)) (HXS : Hid (Pl.cutS cs.length zf hz cs.length 0 = xs)) (J Jx : List (Pce cs.length) → World → Prop)
    (W : World) (hBs : Bs < n0) (_hJ : AbidesFrom W.heap.size J)
    (hY : ∀ pre x W, J pre W → pre.length < xs.length → YieldAt Fence.wide (n - 1) Tryz.prog l (encp g o cap x) W fun e W' =>
      (e = .returned (.bool true) ∧ J (pre ++ [x]) W' ∧ KeepB n0 Bc W W') ∨ (e = .returned (.bool false) ∧ Jx (pre ++ [x]) W'))
    (hc : W.cell? ⟨Bc, 0, none⟩ = some (.slice a cs.length cap)) (hs : W.cell? ⟨Bs, 0, none⟩ = some (.func (.func 200) #[] #[])) (hCr : Cr g o cs W) (hn0 : n0 ≤ W.heap.size) (h0 : J [] W) :
    CallsIn Fence.wide n Tryz.prog 297 #[.func (.yield l) #[] #[], .pointer (some ⟨Bc, 0, none⟩), .pointer (some ⟨Bs, 0, none⟩)] W fun e W' => (∃ v, e = .returned v) ∧
      ((∃ ys, ys = xs ∧ J ys W') ∨ (∃ pre, pre <+: xs ∧ Jx pre W')) := by
  refine callsIn_of_wp Tryz.func297 rfl trivial ?_ rfl
  simp only [Tryz.ntmps297, List.size_toArray, List.length_cons, List.length_nil, Nat.reduceAdd, Nat.reduceSub, Array.replicate_succ, Array.replicate_zero, List.push_toArray, List.append_toArray, List.nil_append, List.cons_append]
  gi_wp2
  gi_loopw [4] (fun b wr => ∃ (k m : Nat) (pre : List (Pce cs.length)), b = .int .i64 k ∧ k ≤ cs.length ∧ cs.length ≤ k + m ∧ Hid (pre ++ Pl.cutS cs.length zf hz m k = xs) ∧ wr.cell? ⟨Bc, 0, none⟩ = some (.slice a cs.length cap) ∧ wr.cell? ⟨Bs, 0, none⟩ = some (.func (.func 200) #[] #[]) ∧ Cr g o cs wr ∧ n0 ≤ wr.heap.size ∧ J pre wr) (fun b _ => cs.length - (intOf b).toNat)
  case atStart => exact ⟨0, cs.length, [], rfl, by omega, by omega, HXS, hc, hs, hCr, hn0, h0⟩
  case round =>
    obtain ⟨k, m, pre, rfl, hk, hkm, HX, hcr, hsr, hCrr, hnr, hJr⟩ := hrel
    by_cases hlt : k < cs.length
    · have hlt' : (k : Int) < (cs.length : Int) := by omega
      obtain rfl := ha (by omega)
      have hg' := hg (by omega)
      have hzk := hz k hlt
      have hfk := fun w h => HF.out k w h hlt
      by_cases h0k : zf k = 0
      · obtain ⟨m', hm', hcs⟩ := Pl.cutS_pass (hz := hz) hlt hkm h0k
        have HX2 : Hid (pre ++ Pl.cutS cs.length zf hz m' (k + 1) = xs) := by
          have := HX.out; rw [hcs] at this; exact this
        rw [h0k] at hfk
        have HFI : Hid (∀ w, Cr g o cs w → Calls Tryz.prog 200 #[.slice (some ⟨g, o, none⟩) cs.length cap, .int .i64 (k : Int)] w fun e w' => e = .returned (.int .i64 ((0 : Nat) : Int)) ∧ w' = w) := hfk
        clear hfk hcs HX
        gi_wp2_with fail
        refine ⟨trivial, ?_⟩
        refine (callsIn_wide.2 (HFI.out _ hCrr)).mono ?_
        rintro e w2 ⟨rfl, rfl⟩
        gi_wp2
        go_roundw
        case rel => exact ⟨k + 1, m', pre, by go_num, by omega, hm', HX2, hcr, hsr, hCrr, hnr, hJr⟩
        case measure => simp [intOf]; omega
      · obtain ⟨m', x, hx1, hm', hcs⟩ := Pl.cutS_cons (hz := hz) hlt hkm h0k
        obtain ⟨z, hzz⟩ : ∃ z, zf k = z := ⟨_, rfl⟩
        rw [hzz] at hfk hzk hm' hcs h0k hx1
        have HX2 : Hid ((pre ++ [x]) ++ Pl.cutS cs.length zf hz m' (k + z) = xs) := by
          have := HX.out; rw [hcs] at this; show _ = _; rw [← this]; simp
        have hpl : pre.length < xs.length := by
          have := congrArg List.length HX2.out; simp at this; omega
        have HFI : Hid (∀ w, Cr g o cs w → Calls Tryz.prog 200 #[.slice (some ⟨g, o, none⟩) cs.length cap, .int .i64 (k : Int)] w fun e w' => e = .returned (.int .i64 (z : Int)) ∧ w' = w) := hfk
        have hzq : ((z : Int) == 0) = false := by simp; omega
        obtain ⟨fn, tmps, assign, body, hy, hR⟩ := hY pre x wr hJr hpl
        simp only [encp, hx1] at hy
        clear hfk hcs HX hx1 hzz
        gi_wp2_with fail
        refine ⟨trivial, ?_⟩
        refine (callsIn_wide.2 (HFI.out _ hCrr)).mono ?_
        rintro e w2 ⟨rfl, rfl⟩
        gi_wp2
        refine hR.mono ?_
        rintro e W3 (⟨rfl, hJ3, hk3⟩ | ⟨rfl, hJx3⟩)
        · have hc3 : W3.cell? ⟨Bc, 0, none⟩ = some (.slice (some ⟨g, o, none⟩) cs.length cap) := (hk3.cell (.inr rfl) 0).trans hcr
          have hs3 : W3.cell? ⟨Bs, 0, none⟩ = some (.func (.func 200) #[] #[]) := (hk3.cell (.inl hBs) 0).trans hsr
          have hC3 := hCrr.keepB hk3 hg
          gi_wp2
          go_roundw
          case rel => exact ⟨k + z, m', pre ++ [x], by go_num, by omega, hm', HX2, hc3, hs3, hC3, by have := hk3.size; omega, hJ3⟩
          case measure => simp [intOf]; omega
        · gi_wp2
          refine bodyPost_ret (results_none rfl _ _ _) rfl ?_
          exact ⟨⟨_, rfl⟩, .inr ⟨pre ++ [x], ⟨_, HX2.out⟩, hJx3⟩⟩
    · have hx : pre = xs := by have := HX.out; rw [Pl.cutS_nil hlt] at this; simpa using this
      have hlt' : ¬ (k : Int) < (cs.length : Int) := by omega
      gi_wp2
      go_end0
      refine ⟨⟨_, rfl⟩, .inl ?_⟩
      first | exact ⟨pre, hx, hJr⟩ | (rw [← hx]; exact hJr)

theorem rows160_stops (n : Nat) (hn : 1 ≤ n) (Bc Bs n0 g o cap : Nat) (cs : List (Nat × Nat × Nat)) (hl : cs.length ≤ 268435456) (hcap : cs.length ≤ cap) (a : Option Addr) (ha : 0 < cs.length → a = some ⟨g, o, none⟩) (hg : 0 < cs.length → g < n0)
    (zf : Nat → Nat) (hz : ∀ i, i < cs.length → i + zf i ≤ cs.length) (HF : Hid (∀ k w, Cr g o cs w → k < cs.length → Calls Tryz.prog 200 #[.slice (some ⟨g, o, none⟩) cs.length cap, .int .i64 (k : Int)] w fun e w' => e = .returned (.int .i64 ((zf k : Nat) : Int)) ∧ w' = w))
    (xs : List (Pce cs.length)) (HXS : Hid (Pl.cutS cs.length zf hz cs.length 0 = xs)) (w : World) (hBc : Bc < w.heap.size) (hBs : Bs < n0) (hn0 : n0 ≤ w.heap.size)
    (hc : w.cell? ⟨Bc, 0, none⟩ = some (.slice a cs.length cap)) (hs : w.cell? ⟨Bs, 0, none⟩ = some (.func (.func 200) #[] #[])) (hCr : Cr g o cs w) :
    SeqStopsK Fence.wide n Tryz.prog 297 #[.pointer (some ⟨Bc, 0, none⟩), .pointer (some ⟨Bs, 0, none⟩)] (encp g o cap) (KeepB n0 Bc) (fun ys => ys = xs) (fun pre => pre <+: xs) xs.length w := fun l J Jx W hW hJ _ hY h0 =>
  rows160_in n hn l Bc Bs n0 g o cap cs hl hcap a ha hg zf hz HF xs HXS J Jx W hBs hJ hY ((hW.cell (p := ⟨Bc, 0, none⟩) (by show Bc < _; omega)).trans hc) ((hW.cell (p := ⟨Bs, 0, none⟩) (by show Bs < _; omega)).trans hs) (hCr.below hW (fun h => by have := hg h; omega)) (by have := hW.size; omega) h0

end Go.Proofs.YtcmgclckknpecaaGreatDoor
