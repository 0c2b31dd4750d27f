import Derived.Test.YtcmgclckknpecaaGreatDoorAWct
import Derived.Test.YtcmgclckknpecaaGreatDoorAWsm
namespace Go.Proofs.YtcmgclckknpecaaGreatDoor
open Go.RowKit Go.Shelf
attribute [local go_sem] Oper.semAt_some

/-- What a round keeps that appends to a row of e's and stores the slice into block B: every other block of cells, and every walk. -/
structure KeepE (B : Nat) (e : TypeId) (W W' : World) : Prop where
  size : W.heap.size ≤ W'.heap.size
  block : ∀ (k : Nat) (o : Obj), k ≠ B → W.heap[k]? = some o → (o.isWalk = true ∨ (o.isCells = true ∧ ∀ c fz, o ≠ .cells c e fz)) → W'.heap[k]? = some o
theorem KeepE.trans {B : Nat} {e : TypeId} {X Y Z : World} (h : KeepE B e X Y) (k : KeepE B e Y Z) : KeepE B e X Z := ⟨Nat.le_trans h.size k.size, fun i o hi ho hp => k.block i o hi (h.block i o hi ho hp) hp⟩
theorem keepE_put {B : Nat} {e : TypeId} {w : World} (W : World) (l : Nat) (o o' : Obj) (_ : w.heap.size ≤ l) (hl : W.heap[l]? = some o) (h1 : o.isCells = false) (h2 : o.isWalk = false) : KeepE B e W (W.putObj l o') :=
  ⟨by simp, fun k x _ hx hp => by
    have hne : k ≠ l := fun h => by
      subst h
      rw [hl] at hx
      cases hx
      rcases hp with hp | hp
      · rw [h2] at hp; cases hp
      · rw [h1] at hp; cases hp.1
    exact (World.putObj_heap_other hne).trans hx⟩
theorem KeepE.boxed {B : Nat} {e t : TypeId} {W W' : World} {b : Nat} {v : Value} (h : KeepE B e W W') (hb : Boxed W b t v) (hne : b ≠ B) (hte : t ≠ e) : Boxed W' b t v :=
  h.block b _ hne hb (.inr ⟨rfl, fun c fz hc => by cases hc; exact hte rfl⟩)

/-- A term as a round's argument. -/
def encs1 (t : ByteArray) : Array Value := #[.string t]

set_option maxHeartbeats 1000000 in
theorem onlyIf1_in (n : Nat) (_hn : 1 ≤ n) (l Bs Bt B : Nat) (st : Bool) (x : ByteArray) (J Jx : List ByteArray → World → Prop) (W : World)
    (N : Nat) (hN : 1 ≤ N) (hY : ∀ pre x W, J pre W → pre.length < N → YieldAt Fence.wide (n - 1) Tryz.prog l (encs1 x) W fun e W' =>
      (e = .returned (.bool true) ∧ J (pre ++ [x]) W' ∧ KeepE B 27 W W') ∨ (e = .returned (.bool false) ∧ Jx (pre ++ [x]) W'))
    (hs : W.cell? ⟨Bs, 0, none⟩ = some (.bool st)) (ht : W.cell? ⟨Bt, 0, none⟩ = some (.string x)) (h0 : J [] W) :
    CallsIn Fence.wide n Tryz.prog 306 #[.func (.yield l) #[] #[], .pointer (some ⟨Bs, 0, none⟩), .pointer (some ⟨Bt, 0, none⟩)] W fun e W' => (∃ v, e = .returned v) ∧
      ((∃ ys, ys = (if st = true then [x] else []) ∧ J ys W') ∨ (∃ pre, pre <+: (if st = true then [x] else []) ∧ Jx pre W')) := by
  refine callsIn_of_wp Tryz.func306 rfl trivial ?_ rfl
  simp only [Tryz.ntmps306, List.size_toArray, List.length_cons, List.length_nil, Nat.reduceAdd, Nat.reduceSub, Array.replicate_succ, Array.replicate_zero, List.push_toArray, List.append_toArray, List.nil_append, List.cons_append]
  obtain ⟨fn, tmps, assign, body, hy, hR⟩ := hY [] x W h0 (by simp; omega)
  simp only [encs1] at hy
  cases st with
  | true =>
    gi_wp2
    refine hR.mono ?_
    rintro e W3 (⟨rfl, hJ3, hk3⟩ | ⟨rfl, hJx3⟩)
    · gi_wp2
      go_end0
      exact ⟨⟨_, rfl⟩, .inl hJ3⟩
    · gi_wp2
      go_end0
      exact ⟨⟨_, rfl⟩, .inr ⟨_, List.prefix_refl _, hJx3⟩⟩
  | false =>
    gi_wp2
    go_end0
    exact ⟨⟨_, rfl⟩, .inl h0⟩

theorem onlyIf1_stops (n : Nat) (hn : 1 ≤ n) (N : Nat) (hN : 1 ≤ N) (Bs Bt B : Nat) (st : Bool) (x : ByteArray) (w : World) (hBs : Bs < w.heap.size) (hBt : Bt < w.heap.size)
    (hs : w.cell? ⟨Bs, 0, none⟩ = some (.bool st)) (ht : w.cell? ⟨Bt, 0, none⟩ = some (.string x)) :
    SeqStopsK Fence.wide n Tryz.prog 306 #[.pointer (some ⟨Bs, 0, none⟩), .pointer (some ⟨Bt, 0, none⟩)] encs1 (KeepE B 27) (fun ys => ys = (if st = true then [x] else [])) (fun pre => pre <+: (if st = true then [x] else [])) N w := fun l J Jx W hW _ _ hY h0 =>
  onlyIf1_in n hn l Bs Bt B st x J Jx W N hN hY ((hW.cell (p := ⟨Bs, 0, none⟩) hBs).trans hs) ((hW.cell (p := ⟨Bt, 0, none⟩) hBt).trans ht) h0

/-- onlyIf, only, and the stage low, called: what they make. -/
theorem onlyIf_any (st : Bool) (x : ByteArray) (w : World) : Calls Tryz.prog 209 #[.bool st, .string x] w fun e w' =>
    e = .returned (.func (.func 306) #[] #[.pointer (some ⟨w.heap.size, 0, none⟩), .pointer (some ⟨w.heap.size + 1, 0, none⟩)]) ∧ w' = (w.alloc (.cells #[.bool st] 4)).alloc (.cells #[.string x] 9) := by
  go_enter Tryz.func209, Tryz.ntmps209
  go_wp2
  go_ret
  exact ⟨rfl, rfl⟩
theorem only_any (x : ByteArray) (w : World) : Calls Tryz.prog 204 #[.string x] w fun e w' =>
    e = .returned (.func (.func 306) #[] #[.pointer (some ⟨w.heap.size, 0, none⟩), .pointer (some ⟨w.heap.size + 1, 0, none⟩)]) ∧ w' = (w.alloc (.cells #[.bool true] 4)).alloc (.cells #[.string x] 9) := by
  go_enter Tryz.func204, Tryz.ntmps204
  go_wp2_with (go_at_call 209; refine (onlyIf_any true x _).mono ?_; rintro e w' ⟨rfl, rfl⟩)
  go_ret
  exact ⟨rfl, rfl⟩
theorem low_any (x : ByteArray) (w : World) (hx : x.size ≤ 1099511627776) : Calls Tryz.prog 203 #[.string x] w fun e w' => ∃ b,
    e = .returned (.func (.func 306) #[] #[.pointer (some ⟨b, 0, none⟩), .pointer (some ⟨b + 1, 0, none⟩)]) ∧ Boxed w' b 4 (.bool true) ∧ Boxed w' (b + 1) 9 (.string (Pl.smlS x)) ∧ w.heap.size ≤ b ∧ Below w.heap.size w w' := by
  go_enter Tryz.func203, Tryz.ntmps203
  go_wp2_with (first
    | (go_at_call 205; refine (small_any x _ hx).mono ?_; rintro e w1 ⟨rfl, hB1⟩)
    | (go_at_call 204; refine (only_any _ _).mono ?_; rintro e w2 ⟨rfl, hw2⟩))
  go_ret
  subst hw2
  have h1 := Boxed.new w1 4 (.bool true)
  have h2 := Boxed.new (w1.alloc (.cells #[.bool true] 4)) 9 (.string (Pl.smlS x))
  refine ⟨w1.heap.size, rfl, h1.alloc _, by simpa using h2, hB1.size, (hB1.alloc hB1.size _).alloc (by have := hB1.size; simp; omega) _⟩

end Go.Proofs.YtcmgclckknpecaaGreatDoor
