import Derived.Test.YtcmgclckknpecaaGreatDoorHgb
import Derived.Lib.OthersKept
import Derived.Test.YtcmgclckknpecaaGreatDoorWct
import Derived.Maps.OwnIn

namespace Go.Proofs.YtcmgclckknpecaaGreatDoor
open Go.RowKit Go.Shelf

/-- A text with each character's small form, from place pos on, as range over a string goes through it. -/
def Pl.smlFrom (s : ByteArray) : Nat → Nat → List UInt8
  | 0, _ => []
  | m + 1, pos => if pos < s.size then Lib.encodeRune ((Pl.sml (Utf8.decode s pos).1 : Nat) : Int) ++ Pl.smlFrom s m (pos + (Utf8.decode s pos).2) else []
def Pl.smlS (s : ByteArray) : ByteArray := ⟨(Pl.smlFrom s s.size 0).toArray⟩
theorem Pl.smlFrom_end (s : ByteArray) (m pos : Nat) (h : ¬ pos < s.size) : Pl.smlFrom s m pos = [] := by
  cases m with
  | zero => rfl
  | succ f => simp [Pl.smlFrom, h]
theorem width_pos (s : ByteArray) (pos : Nat) (h : pos < s.size) : 1 ≤ (Utf8.decode s pos).2 := by
  by_cases ha : (s[pos]'h).toNat < 128
  · rw [decode_ascii s pos h ha]
    exact Nat.le_refl _
  · exact (decode_high s pos h (by omega)).2
theorem sml_le (c : Nat) (h : c ≤ 2147483647) : Pl.sml c ≤ 2147483647 := by
  unfold Pl.sml
  split
  · rename_i hc
    have : c ≤ 2000 := by
      unfold Pl.isCap Pl.wit at hc
      split at hc
      · simp at hc
      · simp at hc; omega
    omega
  · exact h

set_option maxHeartbeats 4000000 in
set_option maxRecDepth 1000000 in
theorem small_any (s : ByteArray) (w : World) (hs : s.size ≤ 1099511627776) :
    Calls Tryz.prog 205 #[.string s] w fun e w' => e = .returned (.string (Pl.smlS s)) ∧ Below w.heap.size w w' := by
  go_enter Tryz.func205, Tryz.ntmps205
  go_wp2
  go_loopw [] (fun wr => ∃ (pos fuel : Nat) (acc : List UInt8), Lib.IsBuilderF 166 5 w.heap.size w.heap.size (Lib.byteCells acc) wr ∧ wr.heap[w.heap.size + 1]? = some (.stringIter s pos) ∧ Below w.heap.size w wr ∧ Hid (acc ++ Pl.smlFrom s fuel pos = Pl.smlFrom s s.size 0) ∧ s.size ≤ pos + fuel ∧ acc.length ≤ 4 * pos) (fun wr => s.size - wr.iterPos (w.heap.size + 1))
  case atStart =>
    refine ⟨0, s.size, [], (Lib.IsBuilderF.of (Lib.fresh_isBuilder 166 5 w)).alloc _, ?_, ((Below.refl _ w).alloc (Nat.le_refl _) _).alloc (by simp) _, rfl, by omega, by simp⟩
    have := World.iter_heap (w.alloc (.cells #[.pointer none, .slice none 0 0] 166)) s 0
    simpa using this
  case round =>
    obtain ⟨pos, fuel, acc, hI, hit, hbw, HA, hfu, hal⟩ := hrel
    have hsz : w.heap.size + 1 < wr.heap.size := (Array.getElem?_eq_some_iff.1 hit).1
    by_cases hp : pos < s.size
    · have hnx : ∀ ty, (Instr.next (.pointer (some ⟨w.heap.size + 1, 0, none⟩)) true ty).run Tryz.prog wr = _ := fun ty => Lib.run_next_any_at wr (w.heap.size + 1) s pos ty hit hp
      have hwd := width_pos s pos hp
      have hd1 := decode_le s pos
      have hI2 := hI.iterAt hit (pos + (Utf8.decode s pos).2)
      have hit2 := Lib.iterAt_heap wr (w.heap.size + 1) s pos (pos + (Utf8.decode s pos).2) hit
      have hbw2 := Lib.below_iterAt hbw (k := w.heap.size + 1) (by omega) s (pos + (Utf8.decode s pos).2)
      have hsz2 : w.heap.size ≤ (wr.iterAt (w.heap.size + 1) s (pos + (Utf8.decode s pos).2)).heap.size := by rw [Lib.iterAt_size]; omega
      obtain ⟨f, rfl⟩ : ∃ f, fuel = f + 1 := ⟨fuel - 1, by omega⟩
      have hsl := sml_le (Utf8.decode s pos).1 hd1
      go_wp2_with (first
        | (go_at_call 304; refine (smallForm_any _ (by omega) _).mono ?_; rintro e w' ⟨rfl, rfl⟩)
        | (go_at_call 219; refine (writeRune_any w.heap.size w.heap.size _ _ (by omega) (by omega) _ hI2 (by rw [Lib.byteCells_length]; omega) hsz2).mono ?_; rintro e W1 ⟨rfl, h1, b1, k1⟩))
      have hl4 := Lib.runeCells_le ((Pl.sml (Utf8.decode s pos).1 : Nat) : Int)
      rw [Lib.runeCells_length] at hl4
      go_roundw
      case rel =>
        refine ⟨pos + (Utf8.decode s pos).2, f, acc ++ Lib.encodeRune ((Pl.sml (Utf8.decode s pos).1 : Nat) : Int), ?_, k1.iter hit2 (by omega), hbw2.trans b1, ?_, by omega, by simp; omega⟩
        · rw [Lib.byteCells_append, Lib.byteCells_encodeRune]; exact Or.inr h1
        · have := HA.out
          show _ = _
          rw [← this]; simp [Pl.smlFrom, hp]
      case measure =>
        simp only [World.iterPos, k1.iter hit2 (by omega), hit]
        omega
    · have hnx : ∀ ty, (Instr.next (.pointer (some ⟨w.heap.size + 1, 0, none⟩)) true ty).run Tryz.prog wr = _ := fun ty => Lib.run_next_end_at wr (w.heap.size + 1) s pos ty hit hp
      have hA := HA.out
      rw [Pl.smlFrom_end s fuel pos hp, List.append_nil] at hA
      have HA2 : Hid (acc = Pl.smlFrom s s.size 0) := hA
      clear hA HA
      go_wp2_with (go_at_call 59; refine (string_any w.heap.size w.heap.size acc _ hI (by omega)).mono ?_; rintro e W1 ⟨rfl, h1, b1, k1⟩)
      go_ret
      obtain rfl := HA2.out
      exact ⟨rfl, hbw.trans b1⟩

end Go.Proofs.YtcmgclckknpecaaGreatDoor

namespace Go.Proofs.YtcmgclckknpecaaGreatDoor
open Go.RowKit Go.Shelf
attribute [local go_sem] Oper.semAt_some

/-- What a round keeps that appends to a row of e's and stores the slice into block B: every other block of cells, and every walk. -/
structure KeepE (B : Nat) (e : TypeId) (W W' : World) : Prop where
  size : W.heap.size ≤ W'.heap.size
  block : ∀ (k : Nat) (o : Obj), k ≠ B → W.heap[k]? = some o → (o.isWalk = true ∨ (o.isCells = true ∧ ∀ c fz, o ≠ .cells c e fz)) → W'.heap[k]? = some o
theorem KeepE.trans {B : Nat} {e : TypeId} {X Y Z : World} (h : KeepE B e X Y) (k : KeepE B e Y Z) : KeepE B e X Z := ⟨Nat.le_trans h.size k.size, fun i o hi ho hp => k.block i o hi (h.block i o hi ho hp) hp⟩
theorem keepE_put {B : Nat} {e : TypeId} {w : World} (W : World) (l : Nat) (o o' : Obj) (_ : w.heap.size ≤ l) (hl : W.heap[l]? = some o) (h1 : o.isCells = false) (h2 : o.isWalk = false) : KeepE B e W (W.putObj l o') :=
  ⟨by simp, fun k x _ hx hp => by
    have hne : k ≠ l := fun h => by
      subst h
      rw [hl] at hx
      cases hx
      rcases hp with hp | hp
      · rw [h2] at hp; cases hp
      · rw [h1] at hp; cases hp.1
    exact (World.putObj_heap_other hne).trans hx⟩
theorem KeepE.boxed {B : Nat} {e t : TypeId} {W W' : World} {b : Nat} {v : Value} (h : KeepE B e W W') (hb : Boxed W b t v) (hne : b ≠ B) (hte : t ≠ e) : Boxed W' b t v :=
  h.block b _ hne hb (.inr ⟨rfl, fun c fz hc => by cases hc; exact hte rfl⟩)

/-- A term as a round's argument. -/
def encs1 (t : ByteArray) : Array Value := #[.string t]

set_option maxHeartbeats 1000000 in
theorem onlyIf1_in (n : Nat) (_hn : 1 ≤ n) (l Bs Bt B : Nat) (st : Bool) (x : ByteArray) (J Jx : List ByteArray → World → Prop) (W : World)
    (N : Nat) (hN : 1 ≤ N) (hY : ∀ pre x W, J pre W → pre.length < N → YieldAt Fence.wide (n - 1) Tryz.prog l (encs1 x) W fun e W' =>
      (e = .returned (.bool true) ∧ J (pre ++ [x]) W' ∧ KeepE B 27 W W') ∨ (e = .returned (.bool false) ∧ Jx (pre ++ [x]) W'))
    (hs : W.cell? ⟨Bs, 0, none⟩ = some (.bool st)) (ht : W.cell? ⟨Bt, 0, none⟩ = some (.string x)) (h0 : J [] W) :
    CallsIn Fence.wide n Tryz.prog 306 #[.func (.yield l) #[] #[], .pointer (some ⟨Bs, 0, none⟩), .pointer (some ⟨Bt, 0, none⟩)] W fun e W' => (∃ v, e = .returned v) ∧
      ((∃ ys, ys = (if st = true then [x] else []) ∧ J ys W') ∨ (∃ pre, pre <+: (if st = true then [x] else []) ∧ Jx pre W')) := by
  refine callsIn_of_wp Tryz.func306 rfl trivial ?_ rfl
  simp only [Tryz.ntmps306, List.size_toArray, List.length_cons, List.length_nil, Nat.reduceAdd, Nat.reduceSub, Array.replicate_succ, Array.replicate_zero, List.push_toArray, List.append_toArray, List.nil_append, List.cons_append]
  obtain ⟨fn, tmps, assign, body, hy, hR⟩ := hY [] x W h0 (by simp; omega)
  simp only [encs1] at hy
  cases st with
  | true =>
    gi_wp2
    refine hR.mono ?_
    rintro e W3 (⟨rfl, hJ3, hk3⟩ | ⟨rfl, hJx3⟩)
    · gi_wp2
      go_end0
      exact ⟨⟨_, rfl⟩, .inl hJ3⟩
    · gi_wp2
      go_end0
      exact ⟨⟨_, rfl⟩, .inr ⟨_, List.prefix_refl _, hJx3⟩⟩
  | false =>
    gi_wp2
    go_end0
    exact ⟨⟨_, rfl⟩, .inl h0⟩

theorem onlyIf1_stops (n : Nat) (hn : 1 ≤ n) (N : Nat) (hN : 1 ≤ N) (Bs Bt B : Nat) (st : Bool) (x : ByteArray) (w : World) (hBs : Bs < w.heap.size) (hBt : Bt < w.heap.size)
    (hs : w.cell? ⟨Bs, 0, none⟩ = some (.bool st)) (ht : w.cell? ⟨Bt, 0, none⟩ = some (.string x)) :
    SeqStopsK Fence.wide n Tryz.prog 306 #[.pointer (some ⟨Bs, 0, none⟩), .pointer (some ⟨Bt, 0, none⟩)] encs1 (KeepE B 27) (fun ys => ys = (if st = true then [x] else [])) (fun pre => pre <+: (if st = true then [x] else [])) N w := fun l J Jx W hW _ _ hY h0 =>
  onlyIf1_in n hn l Bs Bt B st x J Jx W N hN hY ((hW.cell (p := ⟨Bs, 0, none⟩) hBs).trans hs) ((hW.cell (p := ⟨Bt, 0, none⟩) hBt).trans ht) h0

/-- onlyIf, only, and the stage low, called: what they make. -/
theorem onlyIf_any (st : Bool) (x : ByteArray) (w : World) : Calls Tryz.prog 209 #[.bool st, .string x] w fun e w' =>
    e = .returned (.func (.func 306) #[] #[.pointer (some ⟨w.heap.size, 0, none⟩), .pointer (some ⟨w.heap.size + 1, 0, none⟩)]) ∧ w' = (w.alloc (.cells #[.bool st] 4)).alloc (.cells #[.string x] 9) := by
  go_enter Tryz.func209, Tryz.ntmps209
  go_wp2
  go_ret
  exact ⟨rfl, rfl⟩
theorem only_any (x : ByteArray) (w : World) : Calls Tryz.prog 204 #[.string x] w fun e w' =>
    e = .returned (.func (.func 306) #[] #[.pointer (some ⟨w.heap.size, 0, none⟩), .pointer (some ⟨w.heap.size + 1, 0, none⟩)]) ∧ w' = (w.alloc (.cells #[.bool true] 4)).alloc (.cells #[.string x] 9) := by
  go_enter Tryz.func204, Tryz.ntmps204
  go_wp2_with (go_at_call 209; refine (onlyIf_any true x _).mono ?_; rintro e w' ⟨rfl, rfl⟩)
  go_ret
  exact ⟨rfl, rfl⟩
theorem low_any (x : ByteArray) (w : World) (hx : x.size ≤ 1099511627776) : Calls Tryz.prog 203 #[.string x] w fun e w' => ∃ b,
    e = .returned (.func (.func 306) #[] #[.pointer (some ⟨b, 0, none⟩), .pointer (some ⟨b + 1, 0, none⟩)]) ∧ Boxed w' b 4 (.bool true) ∧ Boxed w' (b + 1) 9 (.string (Pl.smlS x)) ∧ w.heap.size ≤ b ∧ Below w.heap.size w w' := by
  go_enter Tryz.func203, Tryz.ntmps203
  go_wp2_with (first
    | (go_at_call 205; refine (small_any x _ hx).mono ?_; rintro e w1 ⟨rfl, hB1⟩)
    | (go_at_call 204; refine (only_any _ _).mono ?_; rintro e w2 ⟨rfl, hw2⟩))
  go_ret
  subst hw2
  have h1 := Boxed.new w1 4 (.bool true)
  have h2 := Boxed.new (w1.alloc (.cells #[.bool true] 4)) 9 (.string (Pl.smlS x))
  refine ⟨w1.heap.size, rfl, h1.alloc _, by simpa using h2, hB1.size, (hB1.alloc hB1.size _).alloc (by have := hB1.size; simp; omega) _⟩

end Go.Proofs.YtcmgclckknpecaaGreatDoor

namespace Go.Proofs.YtcmgclckknpecaaGreatDoor
open Go.RowKit Go.Shelf
attribute [local go_sem] Oper.semAt_some

/-- A row of tokens in memory, from the beginning of block g on. -/
structure Tr (g : Nat) (ts : List Tk) (w : World) : Prop where
  c : ∀ i (h : i < ts.length), w.cell? ⟨g, i * 4, none⟩ = some (.string (ts[i]).1) ∧ w.cell? ⟨g, i * 4 + 1, none⟩ = some (.int .i64 ((ts[i]).2.1 : Int)) ∧ w.cell? ⟨g, i * 4 + 2, none⟩ = some (.int .i64 ((ts[i]).2.2.1 : Int)) ∧ w.cell? ⟨g, i * 4 + 3, none⟩ = some (.int .i64 ((ts[i]).2.2.2 : Int))
theorem Tr.below {g n0 : Nat} {ts : List Tk} {w w' : World} (h : Tr g ts w) (hb : Below n0 w w') (hg : 0 < ts.length → g < n0) : Tr g ts w' :=
  ⟨fun i hi => by
    have hg' := hg (by omega)
    have k : ∀ j, w'.cell? ⟨g, j, none⟩ = w.cell? ⟨g, j, none⟩ := fun j => hb.cell (p := ⟨g, j, none⟩) hg'
    rw [k, k, k, k]; exact h.c i hi⟩

/-- Ranges over functions, one behind the other: their marks are taken up when the function leaves. -/
theorem leavesM_marks {F : Fence} {n : Nat} {P : Program} {fn : Func} {tmps : Array Value} {R : Ending → World → Prop} {base : Nat} (I : World → Prop) (hI : ∀ W D, base ≤ D → I W → W.heap[D]? = some (.deferred (some [])) → I (W.putObj D (.deferred none)))
    (hfin : ∀ W, I W → LeavesIn F n P fn tmps R [] .returning W) : ∀ (Ds : List Nat) (W : World), Ds.Nodup → (∀ D ∈ Ds, base ≤ D ∧ W.heap[D]? = some (.deferred (some []))) → I W →
      LeavesInM F n P fn tmps R (Ds.map fun D => { target := .collected D, args := #[] }) .returning W
  | [], W, _, _, h => hfin W h
  | D :: r, W, hn, hD, h => by
    obtain ⟨hb, hK⟩ := hD D (by simp)
    rw [List.nodup_cons] at hn
    refine ⟨by simp, .inl ⟨D, _, rfl, run_takeDeferred hK, leavesM_marks I hI hfin r _ hn.2 (fun D' h' => ?_) (hI W D hb h hK)⟩⟩
    obtain ⟨h1, h2⟩ := hD D' (by simp [h'])
    exact ⟨h1, (World.putObj_heap_other (fun e => hn.1 (by rw [← e]; exact h'))).trans h2⟩

theorem boxed_put {X : World} {b D : Nat} {t : TypeId} {v : Value} {o : Obj} (h : Boxed X b t v) (hK : X.heap[D]? = some (.deferred (some []))) : Boxed (X.putObj D o) b t v :=
  (World.putObj_heap_other (fun e => by subst e; rw [show X.heap[b]? = _ from h] at hK; cases hK)).trans h
theorem blk_own {β : Type} (b : Nat) (t : TypeId) (cs : Array Value) : Own (fun (_ : β) W => W.heap[b]? = some (.cells cs t (0, 0))) := fun _ _ _ _ hs hg hr => cells_own hs hg hr
theorem def_own {β : Type} (Ds : List Nat) (B : Nat) (h : ∀ D ∈ Ds, D < B) : OwnFrom B (fun (_ : β) W => ∀ D ∈ Ds, W.heap[D]? = some (.deferred (some []))) := fun _ X Y row hs hg hr D hD => by
  refine (hg.block D (Array.getElem?_eq_some_iff.1 (hs D hD)).1 (fun e => ?_)).trans (hs D hD)
  have := (hr D e.symm).1
  have := h D hD
  omega

theorem row_block {V : World} {n0 : Nat} {e : TypeId} {size : Nat} {v : Value} {k : Nat} {xs : List Value} (hrow : V.ownsRow n0 e size v k xs) {g : Nat} (hg : v.ownBlock = some g) : ∃ c fz, V.heap[g]? = some (.cells c e fz) := by
  rcases hrow.2 with ⟨rfl, _⟩ | ⟨g', cap, cur, rfl, _, hgb, _⟩
  · simp [Value.ownBlock] at hg
  · obtain rfl : g' = g := by simpa [Value.ownBlock] using hg
    exact ⟨_, _, hgb⟩
theorem keepE_append {V w1 : World} {B n0 size k : Nat} {e : TypeId} {xs : List Value} {v v' : Value} {tmp : Obj} (hrow : V.ownsRow n0 e size v k xs) (hgrow : (V.alloc tmp).grownBy w1 v.ownBlock) : KeepE B e V (w1.setCell ⟨B, 0, none⟩ v') :=
  ⟨by have := hgrow.size; simp at this ⊢; omega, fun j o hj ho hp => by
    have hlt := (Array.getElem?_eq_some_iff.1 ho).1
    have h1 : (V.alloc tmp).heap[j]? = some o := (Below.heap_alloc V tmp j hlt).trans ho
    have hne : some j ≠ v.ownBlock := fun he => by
      obtain ⟨c, fz, hc⟩ := row_block hrow he.symm
      rw [ho] at hc
      cases hc
      rcases hp with hp | hp
      · cases hp
      · exact hp.2 _ _ rfl
    have h2 : w1.heap[j]? = some o := (hgrow.block j (by simp; omega) hne).trans h1
    exact (Below.heap_setCell _ _ _ _ hj).trans h2⟩

/-- The tokens that a late stage makes of tokens (tf: the terms of a term). -/
def Pl.chg (tf : ByteArray → List ByteArray) (ts : List Tk) : List Tk := ts.flatMap fun t => (tf t.1).map fun u => (u, t.2)
theorem Pl.chg_succ (tf : ByteArray → List ByteArray) (ts : List Tk) (k : Nat) (h : k < ts.length) : Pl.chg tf (ts.take (k + 1)) = Pl.chg tf (ts.take k) ++ (tf (ts[k]).1).map fun u => (u, (ts[k]).2) := by
  rw [Pl.chg, Pl.chg, List.take_succ_eq_append_getElem h, List.flatMap_append]
  simp only [List.flatMap_cons, List.flatMap_nil, List.append_nil]
theorem Pl.chg_take_le (tf : ByteArray → List ByteArray) (ts : List Tk) (k : Nat) : (Pl.chg tf (ts.take k)).length ≤ (Pl.chg tf ts).length := by
  have : Pl.chg tf ts = Pl.chg tf (ts.take k) ++ Pl.chg tf (ts.drop k) := by
    rw [Pl.chg, Pl.chg, Pl.chg, ← List.flatMap_append, List.take_append_drop]
  rw [this]; simp

set_option maxRecDepth 100000 in
set_option maxHeartbeats 4000000 in
theorem change_in (n : Nat) (hn : 4 ≤ n) (F : Nat) (lbF : Array Value) (eF : ∀ args w, (callFunc F args).run Tryz.prog w = .ok (.enter F args) w) (g cap : Nat) (ts : List Tk) (a : Option Addr) (ha : 0 < ts.length → a = some ⟨g, 0, none⟩) (w : World) (hg : 0 < ts.length → g < w.heap.size) (hT : Tr g ts w) (hl : ts.length ≤ 300) (tf : ByteArray → List ByteArray)
    (HT : Hid (∀ (k : Nat) (hk : k < ts.length) (W : World), Below w.heap.size w W → CallsIn Fence.wide (n - 1) Tryz.prog F (#[.string (ts[k]).1] ++ lbF) W fun e W' => ∃ gf lb, e = .returned (.func (.func gf) #[] lb) ∧ Below W.heap.size W W' ∧ (∀ args w, (callFunc gf args).run Tryz.prog w = .ok (.enter gf args) w) ∧
      ∀ B, w.heap.size ≤ B → B < W.heap.size → SeqStopsK Fence.wide (n - 1) Tryz.prog gf lb encs1 (KeepE B 27) (fun ys => ys = tf (ts[k]).1) (fun pre => pre <+: tf (ts[k]).1) 2000 W')) :
    CallsIn Fence.wide n Tryz.prog 68 #[.slice a ts.length cap, .agg #[.func (.func F) #[] lbF]] w fun e W' =>
      (((Pl.chg tf ts).length ≤ 300 ∧ ∃ v, e = .returned (.tuple #[v, .bool true]) ∧ W'.ownsRow w.heap.size 27 4 v (Pl.chg tf ts).length ((Pl.chg tf ts).flatMap tenc)) ∨ (300 < (Pl.chg tf ts).length ∧ e = .returned (.tuple #[.slice none 0 0, .bool false]))) ∧ Below w.heap.size w W' := by
  have h1 : 1 ≤ n := by omega
  obtain ⟨i0, hi, hz0, hz1, hz2⟩ := info_parts info27t
  refine callsIn_of_wp_marks Tryz.func68 rfl trivial ?_ rfl
  simp only [Tryz.ntmps68, List.size_toArray, List.length_cons, List.length_nil, Nat.reduceAdd, Nat.reduceSub, Array.replicate_succ, Array.replicate_zero, List.push_toArray, List.append_toArray, List.nil_append, List.cons_append]
  gi_wp2_with fail
  obtain ⟨W0, hW0⟩ : ∃ W0, ((((w.alloc (.cells #[.func (.func F) #[] lbF] 194)).alloc (.cells #[.slice none 0 0] 22)).alloc (.cells #[.bool false] 4)).alloc (.cells #[.slice none 0 0] 22)) = W0 := ⟨_, rfl⟩
  rw [hW0]
  have hsz0 : W0.heap.size = w.heap.size + 4 := by rw [← hW0]; simp
  have hB0 : Below w.heap.size w W0 := by
    rw [← hW0]
    exact (((Below.refl _ w).alloc (Nat.le_refl _) _).alloc (by simp) _).alloc (by simp; omega) _ |>.alloc (by simp; omega) _
  have b0 : Boxed W0 w.heap.size 194 (.func (.func F) #[] lbF) := by
    rw [← hW0]
    exact (((Boxed.new w 194 (.func (.func F) #[] lbF)).alloc _).alloc _).alloc _
  have b1 : Boxed W0 (w.heap.size + 1) 22 (.slice none 0 0) := by
    rw [← hW0]
    have := Boxed.new (w.alloc (.cells #[.func (.func F) #[] lbF] 194)) 22 (.slice none 0 0)
    exact ((by simpa using this : Boxed _ (w.heap.size + 1) 22 (.slice none 0 0)).alloc _).alloc _
  have b2 : Boxed W0 (w.heap.size + 1 + 1) 4 (.bool false) := by
    rw [← hW0]
    have := Boxed.new ((w.alloc (.cells #[.func (.func F) #[] lbF] 194)).alloc (.cells #[.slice none 0 0] 22)) 4 (.bool false)
    exact (by simpa using this : Boxed _ (w.heap.size + 1 + 1) 4 (.bool false)).alloc _
  have b3 : Boxed W0 (w.heap.size + 1 + 1 + 1) 22 (.slice none 0 0) := by
    rw [← hW0]
    have := Boxed.new (((w.alloc (.cells #[.func (.func F) #[] lbF] 194)).alloc (.cells #[.slice none 0 0] 22)).alloc (.cells #[.bool false] 4)) 22 (.slice none 0 0)
    simpa using this
  clear hW0
  refine wpIn_loop (fun a' W => ∃ (k : Nat) (Ds : List Nat) (v u8 u9 u13 u14 u15 u16 u17 u18 u19 u20 u21 u22 u23 u24 u25 u26 u27 u28 u29 u30 u31 u32 u33 u34 u35 u36 u37 : Value), a' = { tmps := #[.slice a ts.length cap, .agg #[.func (.func F) #[] lbF], undef, .pointer (some ⟨w.heap.size, 0, none⟩), .pointer (some ⟨w.heap.size + 1, 0, none⟩), .pointer (some ⟨w.heap.size + 1 + 1, 0, none⟩), .pointer (some ⟨w.heap.size + 1 + 1 + 1, 0, none⟩), undef, u8, u9, .slice a ts.length cap, .int .i64 (ts.length : Int), .int .i64 (k : Int), u13, u14, u15, u16, u17, u18, u19, u20, u21, u22, u23, u24, u25, u26, u27, u28, u29, u30, u31, u32, u33, u34, u35, u36, u37], defers := Ds.map fun D => { target := .collected D, args := #[] } } ∧ k ≤ ts.length ∧ Ds.Nodup ∧ (∀ D ∈ Ds, w.heap.size ≤ D ∧ W.heap[D]? = some (.deferred (some []))) ∧
    Boxed W w.heap.size 194 (.func (.func F) #[] lbF) ∧ Boxed W (w.heap.size + 1) 22 (.slice none 0 0) ∧ Boxed W (w.heap.size + 1 + 1) 4 (.bool false) ∧ Boxed W (w.heap.size + 1 + 1 + 1) 22 v ∧ W.ownsRow w.heap.size 27 4 v (Pl.chg tf (ts.take k)).length ((Pl.chg tf (ts.take k)).flatMap tenc) ∧ (Pl.chg tf (ts.take k)).length ≤ 300 ∧ Below w.heap.size w W)
    (fun a' _ => ts.length - (intOf (a'.tmps.getD 12 undef)).toNat) ?start ?round
  case start =>
    exact ⟨0, [], .slice none 0 0, _, _, _, _, _, _, _, _, _, _, _, _, _, _, _, _, _, _, _, _, _, _, _, _, _, _, _, rfl, by omega, by simp, by simp, b0, b1, b2, b3, World.ownsRow_nil _ _ _ _, by simp [Pl.chg], hB0⟩
  case round =>
    rintro _ W ⟨k, Ds, v, u8, u9, u13, u14, u15, u16, u17, u18, u19, u20, u21, u22, u23, u24, u25, u26, u27, u28, u29, u30, u31, u32, u33, u34, u35, u36, u37, rfl, hk, hnd, hDs, d0, d1, d2, d3, hrow, h300, hB⟩
    by_cases hkl : k < ts.length
    · have hkI : (k : Int) < (ts.length : Int) := by omega
      obtain rfl := ha (by omega)
      obtain ⟨c0, c1, c2, c3⟩ := (hT.below hB hg).c k hkl
      obtain ⟨T, hTk⟩ : ∃ T, ts[k] = T := ⟨_, rfl⟩
      have hTT := fun W h => HT.out k hkl W h
      rw [hTk] at c0 c1 c2 c3 hTT
      have e0 := (d0.alloc (.cells #[.string T.1, .int .i64 (T.2.1 : Int), .int .i64 (T.2.2.1 : Int), .int .i64 (T.2.2.2 : Int)] 27)).cell
      gi_wp2_with fail
      refine ⟨trivial, ?_⟩
      have hBa : Below w.heap.size w (W.alloc (.cells #[.string T.1, .int .i64 (T.2.1 : Int), .int .i64 (T.2.2.1 : Int), .int .i64 (T.2.2.2 : Int)] 27)) := hB.alloc hB.size _
      refine (hTT _ hBa).mono ?_
      rintro e W1 ⟨gf, lb, rfl, hB1, egf, hseq⟩
      have hs1 := hB1.size
      simp only [World.size_alloc] at hs1
      have hBW : Below W.heap.size W W1 := ((Below.refl W.heap.size W).alloc (Nat.le_refl _) _).trans (hB1.mono (by simp))
      have tb : W1.heap[W.heap.size]? = some (.cells #[.string T.1, .int .i64 (T.2.1 : Int), .int .i64 (T.2.2.1 : Int), .int .i64 (T.2.2.2 : Int)] 27 (0, 0)) := (hB1.block W.heap.size (by simp)).trans (heap_alloc_new W _)
      have f0 := boxed_below d0 hBW
      have f1 := boxed_below d1 hBW
      have f2 := boxed_below d2 hBW
      have f3 := boxed_below d3 hBW
      have hrow1 := ownsRow_below hrow hBW
      have hBw1 : Below w.heap.size w W1 := hB.trans (hBW.mono hB.size)
      have hDlt : ∀ D ∈ Ds, D < W1.heap.size := fun D hD => by have := (Array.getElem?_eq_some_iff.1 (hDs D hD).2).1; omega
      have hDs1 : ∀ D ∈ Ds, W1.heap[D]? = some (.deferred (some [])) := fun D hD => (hBW.block D (Array.getElem?_eq_some_iff.1 (hDs D hD).2).1).trans (hDs D hD).2
      have hvo : v.ownBlock ≠ some W.heap.size := fun e => by have := (ownBlock_lt hrow e).1; omega
      obtain ⟨acc, hacc⟩ : ∃ acc, Pl.chg tf (ts.take k) = acc := ⟨_, rfl⟩
      rw [hacc] at hrow hrow1 h300
      gi_wp2_with fail
      refine wpIn_rangeFunc_ownH rfl h1 (gf := gf) (lb := lb) rfl trivial egf (hseq (w.heap.size + 1 + 1 + 1) (by omega) (by have := d3.lt; simp; omega)) KeepE.trans keepE_put (Below.refl _ _) (fun _ => rfl)
        (fun (pre : List ByteArray) V => ((∃ v, Boxed V (w.heap.size + 1 + 1 + 1) 22 v ∧ V.ownsRow w.heap.size 27 4 v (acc.length + pre.length) ((acc ++ pre.map fun u => (u, T.2)).flatMap tenc) ∧ (acc.length + pre.length ≤ 300 ∧ v.ownBlock ≠ some W.heap.size)) ∧ Boxed V w.heap.size 194 (.func (.func F) #[] lbF) ∧ Boxed V (w.heap.size + 1) 22 (.slice none 0 0) ∧ Boxed V (w.heap.size + 1 + 1) 4 (.bool false) ∧ V.heap[W.heap.size]? = some (.cells #[.string T.1, .int .i64 (T.2.1 : Int), .int .i64 (T.2.2.1 : Int), .int .i64 (T.2.2.2 : Int)] 27 (0, 0))) ∧ Below w.heap.size w V ∧ (∀ D ∈ Ds, V.heap[D]? = some (.deferred (some []))))
        (fun c pre V => (c = .ret ∧ 300 < acc.length + pre.length ∧ Boxed V (w.heap.size + 1) 22 (.slice none 0 0) ∧ Boxed V (w.heap.size + 1 + 1) 4 (.bool false)) ∧ Below w.heap.size w V ∧ (∀ D ∈ Ds, V.heap[D]? = some (.deferred (some []))))
        (OwnFrom.and (OwnFrom.and (Own.from (holdsRow_own w.heap.size (w.heap.size + 1 + 1 + 1) 22 27 4 (fun pre : List ByteArray => acc.length + pre.length) (fun pre => (acc ++ pre.map fun u => (u, T.2)).flatMap tenc) (fun pre v => acc.length + pre.length ≤ 300 ∧ v.ownBlock ≠ some W.heap.size)) _) (OwnFrom.and (Own.from (boxed_own _ _ _) _) (OwnFrom.and (Own.from (boxed_own _ _ _) _) (OwnFrom.and (Own.from (boxed_own _ _ _) _) (Own.from (blk_own _ _ _) _))))) (OwnFrom.and (ownFrom_below (Nat.le_refl _) (by have := hBw1.size; omega)) (def_own Ds _ hDlt)))
        (fun c => OwnFrom.and (OwnFrom.and (ownFrom_pure _ (fun _ => c = .ret)) (OwnFrom.and (ownFrom_pure _ (fun pre : List ByteArray => 300 < acc.length + pre.length)) (OwnFrom.and (Own.from (boxed_own _ _ _) _) (Own.from (boxed_own _ _ _) _)))) (OwnFrom.and (ownFrom_below (Nat.le_refl _) (by have := hBw1.size; omega)) (def_own Ds _ hDlt)))
        ⟨⟨⟨_, f3, by simpa using hrow1, by simpa using h300, hvo⟩, f0, f1, f2, tb⟩, hBw1, hDs1⟩
        (fun x a' _ => a' = { tmps := #[.slice (some ⟨g, 0, none⟩) ts.length cap, .agg #[.func (.func F) #[] lbF], undef, .pointer (some ⟨w.heap.size, 0, none⟩), .pointer (some ⟨w.heap.size + 1, 0, none⟩), .pointer (some ⟨w.heap.size + 1 + 1, 0, none⟩), .pointer (some ⟨w.heap.size + 1 + 1 + 1, 0, none⟩), undef, .pointer (some ⟨W.heap.size, 0, none⟩), .string x, .slice (some ⟨g, 0, none⟩) ts.length cap, .int .i64 (ts.length : Int), .int .i64 (k : Int), .bool true, .pointer (some ⟨g, k * 4, none⟩), .agg #[.string T.1, .int .i64 (T.2.1 : Int), .int .i64 (T.2.2.1 : Int), .int .i64 (T.2.2.2 : Int)], .pointer (some ⟨w.heap.size, 0, none⟩), .func (.func F) #[] lbF, .pointer (some ⟨W.heap.size, 0, none⟩), .string T.1, .func (.func gf) #[] lb, .string x, u22, u23, u24, u25, u26, u27, u28, u29, u30, u31, u32, u33, u34, u35, u36, u37], defers := [] })
        (fun x a' _ X Y row hs hg hr => hs)
        ?assign ?body ?done ?stop
      case assign =>
        rintro l pre x V K hi hK
        simp only [encs1]
        gi_wp2
        exact hK _ _ (KeepsFrom.refl _ _) ⟨Nat.le_refl _, fun _ _ _ h _ => h⟩ hi rfl
      case body =>
        rintro l pre x a' V hll ⟨r, hr⟩ ⟨⟨⟨v', hv, hrow', h300', hvo'⟩, q0, q1, q2, qt⟩, hBV, hDV⟩ rfl hlt
        obtain ⟨m, hm⟩ : ∃ m, acc.length + pre.length = m := ⟨_, rfl⟩
        rw [hm] at hrow' h300'
        have hcv := hv.cell
        obtain ⟨av, capv, rfl⟩ : ∃ av capv, v' = .slice av m capv := by
          rcases hrow'.2 with ⟨hv', h0⟩ | ⟨g', cap', cur, hv', _⟩
          · exact ⟨none, 0, by rw [hv', h0]⟩
          · exact ⟨_, _, hv'⟩
        have t1 : V.cell? ⟨W.heap.size, 1, none⟩ = some (.int .i64 (T.2.1 : Int)) := by simp [World.cell?, qt]
        have t2 : V.cell? ⟨W.heap.size, 2, none⟩ = some (.int .i64 (T.2.2.1 : Int)) := by simp [World.cell?, qt]
        have t3 : V.cell? ⟨W.heap.size, 3, none⟩ = some (.int .i64 (T.2.2.2 : Int)) := by simp [World.cell?, qt]
        by_cases hfull : m = 300
        · have hfI : ((m : Int) == 300) = true := by simp; omega
          have x1 := q1.cell
          have x2 := q2.cell
          have y1 := q1.frozen
          have y2 := q2.frozen
          gi_wp2_with fail
          have s1 := q1.set (.slice none 0 0)
          have s2 : Boxed (V.setCell ⟨w.heap.size + 1, 0, none⟩ (.slice none 0 0)) (w.heap.size + 1 + 1) 4 (.bool false) := q2.kept (grownBy_setCell' _ _ _) (by simp)
          have s3 := s2.set (.bool false)
          have s4 : Boxed ((V.setCell ⟨w.heap.size + 1, 0, none⟩ (.slice none 0 0)).setCell ⟨w.heap.size + 1 + 1, 0, none⟩ (.bool false)) (w.heap.size + 1) 22 (.slice none 0 0) := s1.kept (grownBy_setCell' _ _ _) (by simp)
          have hko := (KeepsOthers.setCell V ⟨w.heap.size + 1, 0, none⟩ (.slice none 0 0)).trans (KeepsOthers.setCell _ ⟨w.heap.size + 1 + 1, 0, none⟩ (.bool false))
          exact ⟨hko.from _, ⟨rfl, by simp; omega, s4, s3⟩, (hBV.setCell (p := ⟨w.heap.size + 1, 0, none⟩) (by simp) _).setCell (p := ⟨w.heap.size + 1 + 1, 0, none⟩) (by simp; omega) _, fun D hD => hko.same D _ (hDV D hD) rfl⟩
        · have hfI : ((m : Int) == 300) = false := by simp; omega
          have HNB : Hid ((V.alloc (.cells #[.string x, .int .i64 (T.2.1 : Int), .int .i64 (T.2.2.1 : Int), .int .i64 (T.2.2.2 : Int)] 27)).heap[V.heap.size]? = some (.cells #[.string x, .int .i64 (T.2.1 : Int), .int .i64 (T.2.2.1 : Int), .int .i64 (T.2.2.2 : Int)] 27 (0, 0))) := heap_alloc_new V _
          gi_wp2_with (gi_at_builtin; refine wpListIn_append_own_at _ (by rfl) _ _ 22 (by rfl) w.heap.size 27 i0 (.agg #[.string ⟨#[]⟩, .int .i64 0, .int .i64 0, .int .i64 0]) 4 40 Tryz.underlying22 hi hz0 hz1 hz2 rfl (by decide) _ m ((acc ++ pre.map fun u => (u, T.2)).flatMap tenc) (by rfl) (hrow'.alloc _) ⟨V.heap.size, 0, none⟩ 1 1 [.string x, .int .i64 (T.2.1 : Int), .int .i64 (T.2.2.1 : Int), .int .i64 (T.2.2.2 : Int)] (by rfl) rfl (World.news_of_block HNB.out) (by simp [Value.oneCell']) (by unfold maxLen; omega) (by omega) (by have := hBV.size; simp; omega) ?_; intro v'' w1 hown' hgrow _ hat; obtain ⟨g', cap', rfl⟩ := ownsRow_succ hown'; obtain ⟨hv1, hv2, hr2, hk2, hb2⟩ := hv.appended (by decide) hrow' hBV.size (by omega) hown' hgrow; have hc1 := hv1.cell; have hf1 := hv1.frozen)
          have hqt := (Array.getElem?_eq_some_iff.1 qt).1
          have hN3 := hv.lt
          have hWN : w.heap.size + 1 + 1 + 1 < W.heap.size := d3.lt
          have g0 := boxed_after (B := w.heap.size + 1 + 1 + 1) q0 (by decide) hrow' hgrow (by omega) (.slice (some ⟨g', 0, none⟩) (m + 1) cap')
          have g1 := boxed_after (B := w.heap.size + 1 + 1 + 1) q1 (by decide) hrow' hgrow (by omega) (.slice (some ⟨g', 0, none⟩) (m + 1) cap')
          have g2 := boxed_after (B := w.heap.size + 1 + 1 + 1) q2 (by decide) hrow' hgrow (by omega) (.slice (some ⟨g', 0, none⟩) (m + 1) cap')
          have gt := (Below.heap_setCell w1 ⟨w.heap.size + 1 + 1 + 1, 0, none⟩ (.slice (some ⟨g', 0, none⟩) (m + 1) cap') W.heap.size (by simp only; omega)).trans ((hgrow.block W.heap.size (by simp; omega) (fun e => hvo' e.symm)).trans ((Below.heap_alloc V _ W.heap.size hqt).trans qt))
          refine ⟨hk2.from _, keepE_append hrow' hgrow, ⟨⟨⟨_, hv2, ?_, by simp; omega, ?_⟩, g0, g1, g2, gt⟩, hBV.trans hb2, fun D hD => hk2.same D _ (hDV D hD) rfl⟩⟩
          · rw [List.length_append, ← Nat.add_assoc, hm, List.map_append, ← List.append_assoc, List.flatMap_append]
            simpa [tenc] using hr2
          · rcases hat with h | h
            · rw [h]; exact hvo'
            · rw [h]; simp; omega
      case done =>
        rintro D ys V hD rfl ⟨⟨⟨v', hv, hrow', h300', hvo'⟩, q0, q1, q2, qt⟩, hBV, hDV⟩ hK
        have hsucc := Pl.chg_succ tf ts k hkl
        rw [hacc, hTk] at hsucc
        have hnew : D ∉ Ds := fun h => by have := hDlt D h; omega
        have hbase : w.heap.size ≤ D := by have := hBw1.size; omega
        gi_wp2_with fail
        refine ⟨⟨k + 1, D :: Ds, v', _, _, _, _, _, _, _, _, _, _, _, _, _, _, _, _, _, _, _, _, _, _, _, _, _, _, _, rfl, by omega, List.nodup_cons.2 ⟨hnew, hnd⟩, ?_, q0, q1, q2, hv, ?_, ?_, hBV⟩, ?_⟩
        · intro D' hD'
          rcases List.mem_cons.1 hD' with rfl | h
          · exact ⟨hbase, hK⟩
          · exact ⟨(hDs D' h).1, hDV D' h⟩
        · rw [hsucc, List.length_append, List.length_map]; exact hrow'
        · rw [hsucc, List.length_append, List.length_map]; exact h300'
        · simp [intOf]; omega
      case stop =>
        rintro D c pre V hD hpre ⟨⟨rfl, h300', s1, s2⟩, hBV, hDV⟩ hK
        have hsucc := Pl.chg_succ tf ts k hkl
        rw [hacc, hTk] at hsucc
        have hnew : D ∉ Ds := fun h => by have := hDlt D h; omega
        have hbase : w.heap.size ≤ D := by have := hBw1.size; omega
        have htot : 300 < (Pl.chg tf ts).length := by
          have h1 := Pl.chg_take_le tf ts (k + 1)
          have h2 := hpre.length_le
          rw [hsucc, List.length_append, List.length_map] at h1
          omega
        gi_wp2_with fail
        refine leavesM_marks (base := w.heap.size) (fun X => Boxed X (w.heap.size + 1) 22 (.slice none 0 0) ∧ Boxed X (w.heap.size + 1 + 1) 4 (.bool false) ∧ Below w.heap.size w X) (fun X D' hb h hK' => ⟨boxed_put h.1 hK', boxed_put h.2.1 hK', h.2.2.trans (belowK_b (w := w) (Nat.le_refl _) X D' _ _ hb hK' rfl rfl)⟩)
          (fun X h => ⟨.tuple #[.slice none 0 0, .bool false], by simp [results, Tryz.f68, go_sem, h.1.cell, h.2.1.cell], .inr ⟨htot, rfl⟩, h.2.2⟩) (D :: Ds) V (List.nodup_cons.2 ⟨hnew, hnd⟩) ?_ ⟨s1, s2, hBV⟩
        intro D' hD'
        rcases List.mem_cons.1 hD' with rfl | h
        · exact ⟨hbase, hK⟩
        · exact ⟨(hDs D' h).1, hDV D' h⟩
    · have hkI : ¬ (k : Int) < (ts.length : Int) := by omega
      have htk : ts.take k = ts := List.take_of_length_le (by omega)
      rw [htk] at hrow h300
      have hcv := d3.cell
      obtain ⟨av, capv, rfl⟩ : ∃ av capv, v = .slice av (Pl.chg tf ts).length capv := by
        rcases hrow.2 with ⟨hv', h0⟩ | ⟨g', cap', cur, hv', _⟩
        · exact ⟨none, 0, by rw [hv', h0]⟩
        · exact ⟨_, _, hv'⟩
      have x1 := d1.cell
      have x2 := d2.cell
      have y1 := d1.frozen
      have y2 := d2.frozen
      gi_wp2_with fail
      have s1 := d1.set (.slice av (Pl.chg tf ts).length capv)
      have s2 : Boxed (W.setCell ⟨w.heap.size + 1, 0, none⟩ (.slice av (Pl.chg tf ts).length capv)) (w.heap.size + 1 + 1) 4 (.bool false) := d2.kept (grownBy_setCell' _ _ _) (by simp)
      have s3 := s2.set (.bool true)
      have s4 : Boxed ((W.setCell ⟨w.heap.size + 1, 0, none⟩ (.slice av (Pl.chg tf ts).length capv)).setCell ⟨w.heap.size + 1 + 1, 0, none⟩ (.bool true)) (w.heap.size + 1) 22 (.slice av (Pl.chg tf ts).length capv) := s1.kept (grownBy_setCell' _ _ _) (by simp)
      have hko := (KeepsOthers.setCell W ⟨w.heap.size + 1, 0, none⟩ (.slice av (Pl.chg tf ts).length capv)).trans (KeepsOthers.setCell _ ⟨w.heap.size + 1 + 1, 0, none⟩ (.bool true))
      have hrw : ((W.setCell ⟨w.heap.size + 1, 0, none⟩ (.slice av (Pl.chg tf ts).length capv)).setCell ⟨w.heap.size + 1 + 1, 0, none⟩ (.bool true)).ownsRow w.heap.size 27 4 (.slice av (Pl.chg tf ts).length capv) (Pl.chg tf ts).length ((Pl.chg tf ts).flatMap tenc) :=
        (hrow.kept (grownBy_setCell' _ _ _) (.inr (d1.not_row (by decide) hrow).symm)).kept (grownBy_setCell' _ _ _) (.inr (s2.not_row (by decide) (hrow.kept (grownBy_setCell' _ _ _) (.inr (d1.not_row (by decide) hrow).symm))).symm)
      refine leavesM_marks (base := w.heap.size) (fun X => Boxed X (w.heap.size + 1) 22 (.slice av (Pl.chg tf ts).length capv) ∧ Boxed X (w.heap.size + 1 + 1) 4 (.bool true) ∧ X.ownsRow w.heap.size 27 4 (.slice av (Pl.chg tf ts).length capv) (Pl.chg tf ts).length ((Pl.chg tf ts).flatMap tenc) ∧ Below w.heap.size w X) (fun X D' hb h hK' => ⟨boxed_put h.1 hK', boxed_put h.2.1 hK', ownsRow_putObj h.2.2.1 _ hK' rfl, h.2.2.2.trans (belowK_b (w := w) (Nat.le_refl _) X D' _ _ hb hK' rfl rfl)⟩)
        (fun X h => ⟨.tuple #[.slice av (Pl.chg tf ts).length capv, .bool true], by simp [results, Tryz.f68, go_sem, h.1.cell, h.2.1.cell], .inl ⟨_, rfl, h.2.2.1⟩, h.2.2.2⟩) Ds _ hnd (fun D' h => ⟨(hDs D' h).1, hko.same D' _ (hDs D' h).2 rfl⟩) ⟨s4, s3, hrw, (hB.setCell (p := ⟨w.heap.size + 1, 0, none⟩) (by simp) _).setCell (p := ⟨w.heap.size + 1 + 1, 0, none⟩) (by simp; omega) _⟩

end Go.Proofs.YtcmgclckknpecaaGreatDoor
