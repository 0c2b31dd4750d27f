import Derived.Test.YtcmgclckknpecaaGreatDoorAMkc
import Derived.Test.YtcmgclckknpecaaGreatDoorAPlh
namespace Go.Proofs.YtcmgclckknpecaaGreatDoor
open Go.RowKit

/-- The thirteen cells of an analyser: the plan (0 to 6), the Once (7 to 9), the stages (10 to 12). -/
def An (b : Nat) (cs : Array Value) (W : World) : Prop := Blk b 119 cs W
theorem blk_cell {b : Nat} {t : TypeId} {cs : Array Value} {W : World} (h : Blk b t cs W) (o : Nat) : W.cell? ⟨b, o, none⟩ = cs[o]? := by
  unfold Blk at h
  simp [World.cell?, h]
theorem blk_frozen {b : Nat} {t : TypeId} {cs : Array Value} {W : World} (h : Blk b t cs W) (o : Nat) : W.frozen? ⟨b, o, none⟩ = false := by
  unfold Blk at h
  simp [World.frozen?, h]
theorem info171 : (Tryz.prog.info? 194).map (fun i => (i.zero, i.size, i.bytes)) = some (some (.agg #[.nilFunc]), 1, 8) := by kernel_rfl

set_option maxRecDepth 100000 in
set_option maxHeartbeats 4000000 in
/-- makeStages, of a plan without early stages, with the cutter words, and k late stages low. -/
theorem makeStages_low (b k gl : Nat) (pe : Option Addr) (ce : Nat) (p1 p2 : Option Addr) (n1 c1 n2 c2 : Nat) (x z : Int) (al : Option Addr) (cl : Nat) (ss sm : Value) (w : World) (hk : k ≤ 8)
    (hA : Blk b 119 #[.slice pe 0 ce, .string ⟨#[119, 111, 114, 100, 115]⟩, .slice p1 n1 c1, .slice p2 n2 c2, .int .i64 x, .int .i64 z, .slice al k cl, .int .u32 0, ss, sm, .slice none 0 0, .nilFunc, .slice none 0 0] w)
    (hal : 0 < k → al = some ⟨gl, 0, none⟩ ∧ gl ≠ b ∧ gl < w.heap.size) (hlt : ∀ j, j < k → ∃ q1 m1 d1 q2 m2 d2, ∃ u v : Int, w.cell? ⟨gl, j * 5, none⟩ = some (.string ⟨#[108, 111, 119]⟩) ∧ w.cell? ⟨gl, j * 5 + 1, none⟩ = some (.slice q1 m1 d1) ∧ w.cell? ⟨gl, j * 5 + 2, none⟩ = some (.slice q2 m2 d2) ∧ w.cell? ⟨gl, j * 5 + 3, none⟩ = some (.int .i64 u) ∧ w.cell? ⟨gl, j * 5 + 4, none⟩ = some (.int .i64 v)) :
    Calls Tryz.prog 66 #[.pointer (some ⟨b, 0, none⟩)] w fun e w' => e = .returned (.tuple #[]) ∧ ∃ bs v, w.heap.size ≤ bs ∧ Boxed w' bs 372 (.func (.func 200) #[] #[]) ∧ w'.ownsRow w.heap.size 194 1 v k (List.replicate k (.func (.func 203) #[] #[])) ∧
      Blk b 119 #[.slice pe 0 ce, .string ⟨#[119, 111, 114, 100, 115]⟩, .slice p1 n1 c1, .slice p2 n2 c2, .int .i64 x, .int .i64 z, .slice al k cl, .int .u32 0, ss, sm, .slice none 0 0, .func (.func 296) #[] #[.pointer (some ⟨bs, 0, none⟩)], v] w' ∧ w.grownBy w' (some b) := by
  have hb := hA.lt
  obtain ⟨i0, hi, hz0, hz1, hz2⟩ := info_parts info171
  have a0 : w.cell? ⟨b, 0, none⟩ = some (.slice pe 0 ce) := blk_cell hA 0
  go_enter Tryz.func66, Tryz.ntmps66
  have a1 : w.cell? ⟨b, 1, none⟩ = some (.string ⟨#[119, 111, 114, 100, 115]⟩) := blk_cell hA 1
  have a2 : w.cell? ⟨b, 2, none⟩ = some (.slice p1 n1 c1) := blk_cell hA 2
  have a3 : w.cell? ⟨b, 3, none⟩ = some (.slice p2 n2 c2) := blk_cell hA 3
  have a4 : w.cell? ⟨b, 4, none⟩ = some (.int .i64 x) := blk_cell hA 4
  have a5 : w.cell? ⟨b, 5, none⟩ = some (.int .i64 z) := blk_cell hA 5
  go_wp2_with fail
  refine wp_loop_once ?_
  go_wp2_with fail
  refine (makeCutter_words p1 p2 n1 c1 n2 c2 x z w).mono ?_
  rintro e w1 ⟨bs, rfl, hbs, hbs2, hB1⟩
  have hA1 : Blk b 119 #[.slice pe 0 ce, .string ⟨#[119, 111, 114, 100, 115]⟩, .slice p1 n1 c1, .slice p2 n2 c2, .int .i64 x, .int .i64 z, .slice al k cl, .int .u32 0, ss, sm, .slice none 0 0, .nilFunc, .slice none 0 0] w1 := hA.keep (grown_of_below none hB1) (by simp)
  have e11 : w1.cell? ⟨b, 11, none⟩ = some .nilFunc := blk_cell hA1 11
  have f11 := blk_frozen hA1 11
  have hA2 : Blk b 119 #[.slice pe 0 ce, .string ⟨#[119, 111, 114, 100, 115]⟩, .slice p1 n1 c1, .slice p2 n2 c2, .int .i64 x, .int .i64 z, .slice al k cl, .int .u32 0, ss, sm, .slice none 0 0, (.func (.func 296) #[] #[.pointer (some ⟨bs, 0, none⟩)]), .slice none 0 0] (w1.setCell ⟨b, 11, none⟩ (.func (.func 296) #[] #[.pointer (some ⟨bs, 0, none⟩)])) := hA1.set 11 (.func (.func 296) #[] #[.pointer (some ⟨bs, 0, none⟩)])
  have hbs3 : Boxed (w1.setCell ⟨b, 11, none⟩ (.func (.func 296) #[] #[.pointer (some ⟨bs, 0, none⟩)])) bs 372 (.func (.func 200) #[] #[]) := hbs.kept (grown_set w1 b 11 (.func (.func 296) #[] #[.pointer (some ⟨bs, 0, none⟩)])) (by simp; omega)
  have hg2 : w.grownBy (w1.setCell ⟨b, 11, none⟩ (.func (.func 296) #[] #[.pointer (some ⟨bs, 0, none⟩)])) (some b) := grown_trans (grown_of_below _ hB1) (grown_set w1 b 11 (.func (.func 296) #[] #[.pointer (some ⟨bs, 0, none⟩)]))
  have e6 : (w1.setCell ⟨b, 11, none⟩ (.func (.func 296) #[] #[.pointer (some ⟨bs, 0, none⟩)])).cell? ⟨b, 6, none⟩ = some (.slice al k cl) := blk_cell hA2 6
  go_wp2_with fail
  go_loopw [43] (fun i wr => ∃ (j : Nat) (v : Value), i = .int .i64 (j : Int) ∧ j ≤ k ∧ Blk b 119 #[.slice pe 0 ce, .string ⟨#[119, 111, 114, 100, 115]⟩, .slice p1 n1 c1, .slice p2 n2 c2, .int .i64 x, .int .i64 z, .slice al k cl, .int .u32 0, ss, sm, .slice none 0 0, (.func (.func 296) #[] #[.pointer (some ⟨bs, 0, none⟩)]), v] wr ∧ wr.ownsRow w.heap.size 194 1 v j (List.replicate j (.func (.func 203) #[] #[])) ∧ Boxed wr bs 372 (.func (.func 200) #[] #[]) ∧ w.grownBy wr (some b)) (fun i _ => k - (intOf i).toNat)
  case atStart => exact ⟨0, _, rfl, by omega, hA2, World.ownsRow_nil _ _ _ _, hbs3, hg2⟩
  case round =>
    obtain ⟨j, v, rfl, hj, hAr, hrow, hbr, hgr⟩ := hrel
    by_cases hjk : j < k
    · have hjI : (j : Int) < (k : Int) := by omega
      obtain ⟨rfl, hglb, hglw⟩ := hal (by omega)
      obtain ⟨q1, m1, d1, q2, m2, d2, u, v', g0, g1, g2, g3, g4⟩ := hlt j hjk
      have hkeep : ∀ o, wr.cell? ⟨gl, o, none⟩ = w.cell? ⟨gl, o, none⟩ := fun o => hgr.cell_far ⟨gl, o, none⟩ hglw (by simpa using hglb)
      rw [← hkeep] at g0 g1 g2 g3 g4
      clear hkeep
      have hvf : ∃ av cv, v = .slice av j cv := by
        rcases hrow.2 with ⟨hv', h0⟩ | ⟨g', cap', cur, hv', _⟩
        · exact ⟨none, 0, by rw [hv', h0]⟩
        · exact ⟨_, _, hv'⟩
      obtain ⟨av, cv, rfl⟩ := hvf
      go_wp2_with fail
      have tb : Blk wr.heap.size 96 #[.string ⟨#[108, 111, 119]⟩, .slice q1 m1 d1, .slice q2 m2 d2, .int .i64 u, .int .i64 v'] (wr.alloc (.cells #[.string ⟨#[108, 111, 119]⟩, .slice q1 m1 d1, .slice q2 m2 d2, .int .i64 u, .int .i64 v'] 96)) := heap_alloc_new wr _
      have hAa := hAr.alloc (.cells #[.string ⟨#[108, 111, 119]⟩, .slice q1 m1 d1, .slice q2 m2 d2, .int .i64 u, .int .i64 v'] 96)
      have hba := hAr.lt
      have hS0 : (wr.alloc (.cells #[.string ⟨#[108, 111, 119]⟩, .slice q1 m1 d1, .slice q2 m2 d2, .int .i64 u, .int .i64 v'] 96)).drew.cell? ⟨b, 12, none⟩ = some (.slice av j cv) ∧ (wr.alloc (.cells #[.string ⟨#[108, 111, 119]⟩, .slice q1 m1 d1, .slice q2 m2 d2, .int .i64 u, .int .i64 v'] 96)).drew.cell? ⟨wr.heap.size, 0, none⟩ = some (.string ⟨#[108, 111, 119]⟩) ∧ (wr.alloc (.cells #[.string ⟨#[108, 111, 119]⟩, .slice q1 m1 d1, .slice q2 m2 d2, .int .i64 u, .int .i64 v'] 96)).drew.cell? ⟨wr.heap.size, 1, none⟩ = some (.slice q1 m1 d1) ∧ (wr.alloc (.cells #[.string ⟨#[108, 111, 119]⟩, .slice q1 m1 d1, .slice q2 m2 d2, .int .i64 u, .int .i64 v'] 96)).drew.cell? ⟨wr.heap.size, 2, none⟩ = some (.slice q2 m2 d2) ∧ (wr.alloc (.cells #[.string ⟨#[108, 111, 119]⟩, .slice q1 m1 d1, .slice q2 m2 d2, .int .i64 u, .int .i64 v'] 96)).drew.cell? ⟨wr.heap.size, 3, none⟩ = some (.int .i64 u) ∧ (wr.alloc (.cells #[.string ⟨#[108, 111, 119]⟩, .slice q1 m1 d1, .slice q2 m2 d2, .int .i64 u, .int .i64 v'] 96)).drew.cell? ⟨wr.heap.size, 4, none⟩ = some (.int .i64 v') := ⟨blk_cell hAa 12, blk_cell tb 0, blk_cell tb 1, blk_cell tb 2, blk_cell tb 3, blk_cell tb 4⟩
      refine wp_region_G (S := fun w' => w'.cell? ⟨b, 12, none⟩ = some (.slice av j cv) ∧ w'.cell? ⟨wr.heap.size, 0, none⟩ = some (.string ⟨#[108, 111, 119]⟩) ∧ w'.cell? ⟨wr.heap.size, 1, none⟩ = some (.slice q1 m1 d1) ∧ w'.cell? ⟨wr.heap.size, 2, none⟩ = some (.slice q2 m2 d2) ∧ w'.cell? ⟨wr.heap.size, 3, none⟩ = some (.int .i64 u) ∧ w'.cell? ⟨wr.heap.size, 4, none⟩ = some (.int .i64 v')) (c := 11) (by kernel_rfl) ?_
      refine wpAnyG_take 47 (i := 0) (v := .pointer (some ⟨b, 0, none⟩)) rfl rfl (by kernel_rfl) (by kernel_rfl) (by kernel_rfl) (by kernel_rfl) (by decide) (by kernel_rfl) (fun _ _ _ h => h) (Or.inl ⟨by rfl, ?_⟩) hS0 ?_
      · intro w' hw'
        obtain ⟨s0, s1, s2, s3, s4, s5⟩ := hw'
        go_simp
      simp only [List.setIfInBounds_toArray, List.set_cons_zero, List.set_cons_succ]
      refine wpAnyG_take 48 (i := 1) (v := .pointer (some ⟨b, 0, none⟩)) rfl rfl (by kernel_rfl) (by kernel_rfl) (by kernel_rfl) (by kernel_rfl) (by decide) (by kernel_rfl) (fun _ _ _ h => h) (Or.inl ⟨by rfl, ?_⟩) hS0 ?_
      · intro w' hw'
        obtain ⟨s0, s1, s2, s3, s4, s5⟩ := hw'
        go_simp
      simp only [List.setIfInBounds_toArray, List.set_cons_zero, List.set_cons_succ]
      refine wpAnyG_take 49 (i := 2) (v := .pointer (some ⟨b, 0, none⟩)) rfl rfl (by kernel_rfl) (by kernel_rfl) (by kernel_rfl) (by kernel_rfl) (by decide) (by kernel_rfl) (fun _ _ _ h => h) (Or.inl ⟨by rfl, ?_⟩) hS0 ?_
      · intro w' hw'
        obtain ⟨s0, s1, s2, s3, s4, s5⟩ := hw'
        go_simp
      simp only [List.setIfInBounds_toArray, List.set_cons_zero, List.set_cons_succ]
      refine wpAnyG_take 50 (i := 3) (v := .pointer (some ⟨b, 12, none⟩)) rfl rfl (by kernel_rfl) (by kernel_rfl) (by kernel_rfl) (by kernel_rfl) (by decide) (by kernel_rfl) (fun _ _ _ h => h) (Or.inl ⟨by rfl, ?_⟩) hS0 ?_
      · intro w' hw'
        obtain ⟨s0, s1, s2, s3, s4, s5⟩ := hw'
        go_simp
      simp only [List.setIfInBounds_toArray, List.set_cons_zero, List.set_cons_succ]
      refine wpAnyG_take 51 (i := 4) (v := .slice av j cv) rfl rfl (by kernel_rfl) (by kernel_rfl) (by kernel_rfl) (by kernel_rfl) (by decide) (by kernel_rfl) (fun _ _ _ h => h) (Or.inl ⟨by rfl, ?_⟩) hS0 ?_
      · intro w' hw'
        obtain ⟨s0, s1, s2, s3, s4, s5⟩ := hw'
        go_simp
      simp only [List.setIfInBounds_toArray, List.set_cons_zero, List.set_cons_succ]
      refine wpAnyG_take 52 (i := 5) (v := .agg #[.string ⟨#[108, 111, 119]⟩, .slice q1 m1 d1, .slice q2 m2 d2, .int .i64 u, .int .i64 v']) rfl rfl (by kernel_rfl) (by kernel_rfl) (by kernel_rfl) (by kernel_rfl) (by decide) (by kernel_rfl) (fun _ _ _ h => h) (Or.inl ⟨by rfl, ?_⟩) hS0 ?_
      · intro w' hw'
        obtain ⟨s0, s1, s2, s3, s4, s5⟩ := hw'
        go_simp
      simp only [List.setIfInBounds_toArray, List.set_cons_zero, List.set_cons_succ]
      refine wpAnyG_one (i := 6) rfl (by kernel_rfl) (by rfl) ?_
      go_simp
      refine (makeLate_low q1 q2 m1 d1 m2 d2 u v' _).mono ?_
      rintro e W2 ⟨rfl, hB2⟩
      have hs2 : wr.heap.size + 1 ≤ W2.heap.size := by have := hB2.size; simpa using this
      have hBd : Below (wr.alloc (.cells #[.string ⟨#[108, 111, 119]⟩, .slice q1 m1 d1, .slice q2 m2 d2, .int .i64 u, .int .i64 v'] 96)).heap.size (wr.alloc (.cells #[.string ⟨#[108, 111, 119]⟩, .slice q1 m1 d1, .slice q2 m2 d2, .int .i64 u, .int .i64 v'] 96)) W2 := (Below.refl _ _).drew.trans hB2
      have hA2' := hAa.keep (row := none) (grown_of_below none hBd) (by simp)
      have tb2 := tb.keep (row := none) (grown_of_below none hBd) (by simp)
      have hBr : Below wr.heap.size wr W2 := ((Below.refl wr.heap.size wr).alloc (Nat.le_refl _) _).trans (hBd.mono (by simp))
      have hrow2 := ownsRow_below hrow hBr
      have hb2 := boxed_below hbr hBr
      have hS2 : W2.cell? ⟨b, 12, none⟩ = some (.slice av j cv) ∧ W2.cell? ⟨wr.heap.size, 0, none⟩ = some (.string ⟨#[108, 111, 119]⟩) ∧ W2.cell? ⟨wr.heap.size, 1, none⟩ = some (.slice q1 m1 d1) ∧ W2.cell? ⟨wr.heap.size, 2, none⟩ = some (.slice q2 m2 d2) ∧ W2.cell? ⟨wr.heap.size, 3, none⟩ = some (.int .i64 u) ∧ W2.cell? ⟨wr.heap.size, 4, none⟩ = some (.int .i64 v') := ⟨blk_cell hA2' 12, blk_cell tb2 0, blk_cell tb2 1, blk_cell tb2 2, blk_cell tb2 3, blk_cell tb2 4⟩
      refine ⟨hS2, ?_⟩
      refine wpAnyG_one (i := 7) rfl (by kernel_rfl) (by rfl) ?_
      go_simp
      have hA3 := hA2'.alloc (.cells #[.func (.func 203) #[] #[]] 194)
      have tb3 := tb2.alloc (.cells #[.func (.func 203) #[] #[]] 194)
      have hS3 : (W2.alloc (.cells #[.func (.func 203) #[] #[]] 194)).cell? ⟨b, 12, none⟩ = some (.slice av j cv) ∧ (W2.alloc (.cells #[.func (.func 203) #[] #[]] 194)).cell? ⟨wr.heap.size, 0, none⟩ = some (.string ⟨#[108, 111, 119]⟩) ∧ (W2.alloc (.cells #[.func (.func 203) #[] #[]] 194)).cell? ⟨wr.heap.size, 1, none⟩ = some (.slice q1 m1 d1) ∧ (W2.alloc (.cells #[.func (.func 203) #[] #[]] 194)).cell? ⟨wr.heap.size, 2, none⟩ = some (.slice q2 m2 d2) ∧ (W2.alloc (.cells #[.func (.func 203) #[] #[]] 194)).cell? ⟨wr.heap.size, 3, none⟩ = some (.int .i64 u) ∧ (W2.alloc (.cells #[.func (.func 203) #[] #[]] 194)).cell? ⟨wr.heap.size, 4, none⟩ = some (.int .i64 v') := ⟨blk_cell hA3 12, blk_cell tb3 0, blk_cell tb3 1, blk_cell tb3 2, blk_cell tb3 3, blk_cell tb3 4⟩
      refine ⟨hS3, ?_⟩
      have HNB : Hid ((W2.alloc (.cells #[.func (.func 203) #[] #[]] 194)).heap[W2.heap.size]? = some (.cells #[.func (.func 203) #[] #[]] 194 (0, 0))) := heap_alloc_new W2 _
      refine wpAnyG_one (i := 8) rfl (by kernel_rfl) (by rfl) ?_
      refine wp_append_lies _ _ _ 117 rfl w.heap.size 194 i0 (.agg #[.nilFunc]) 1 8 Tryz.underlying117 hi hz0 hz1 hz2 rfl (by decide) _ j (List.replicate j (.func (.func 203) #[] #[])) rfl (hrow2.alloc _) ⟨W2.heap.size, 0, none⟩ 1 1 [.func (.func 203) #[] #[]] rfl rfl (World.news_of_block HNB.out) (by simp [Value.oneCell']) (by decide) (by unfold maxLen; omega) (by omega) (by have := hgr.size; simp; omega) (W2.heap.size + 1) (by simp) ?_
      intro g' cap' W4 hown hgrow hat hlt4
      have hA4 := hA3.keep hgrow (row_ne_blk hrow2 hA2' (by decide))
      have hne4 : (Value.slice av j cv).ownBlock ≠ some wr.heap.size := fun e => by have := (ownBlock_lt hrow e).1; omega
      have tb4 := tb3.keep hgrow hne4
      have hb4 : Boxed W4 bs 372 (.func (.func 200) #[] #[]) := (hb2.alloc _).kept hgrow (hb2.not_row (by decide) hrow2)
      have hS4 : W4.cell? ⟨b, 12, none⟩ = some (.slice av j cv) ∧ W4.cell? ⟨wr.heap.size, 0, none⟩ = some (.string ⟨#[108, 111, 119]⟩) ∧ W4.cell? ⟨wr.heap.size, 1, none⟩ = some (.slice q1 m1 d1) ∧ W4.cell? ⟨wr.heap.size, 2, none⟩ = some (.slice q2 m2 d2) ∧ W4.cell? ⟨wr.heap.size, 3, none⟩ = some (.int .i64 u) ∧ W4.cell? ⟨wr.heap.size, 4, none⟩ = some (.int .i64 v') := ⟨blk_cell hA4 12, blk_cell tb4 0, blk_cell tb4 1, blk_cell tb4 2, blk_cell tb4 3, blk_cell tb4 4⟩
      refine ⟨fun _ => hS4, ?_⟩
      simp only [Act.put, List.setIfInBounds_toArray]
      refine wpAnyG_one (i := 9) rfl (by kernel_rfl) (by rfl) ?_
      go_simp
      refine wpAnyG_one (i := 10) rfl (by kernel_rfl) (by rfl) ?_
      go_simp
      have x12 : W4.cell? ⟨b, 12, none⟩ = some (.slice av j cv) := hS4.1
      have y12 := blk_frozen hA4 12
      refine wpAnyG_one (i := 11) rfl (by kernel_rfl) (by rfl) ?_
      go_simp
      refine wpAnyG_done (by kernel_rfl) ?_ _
      go_wp2_with fail
      have hA5 := hA4.set 12 (.slice (some ⟨g', 0, none⟩) (j + 1) cap')
      have hb5 : Boxed (W4.setCell ⟨b, 12, none⟩ (.slice (some ⟨g', 0, none⟩) (j + 1) cap')) bs 372 (.func (.func 200) #[] #[]) := hb4.kept (grown_set W4 b 12 (.slice (some ⟨g', 0, none⟩) (j + 1) cap')) (by simp; omega)
      have hr5 := ownsRow_set_other hown (row_ne_blk hown hA4 (by decide)) 12 (.slice (some ⟨g', 0, none⟩) (j + 1) cap')
      have hg5 : w.grownBy (W4.setCell ⟨b, 12, none⟩ (.slice (some ⟨g', 0, none⟩) (j + 1) cap')) (some b) := grown_trans (grown_own (grown_alloc (grown_trans hgr (grown_of_below _ hBr)) (.cells #[.func (.func 203) #[] #[]] 194)) hgrow (fun x e => (ownBlock_lt hrow e).2)) (grown_set W4 b 12 (.slice (some ⟨g', 0, none⟩) (j + 1) cap'))
      go_roundw
      case rel => exact ⟨j + 1, (.slice (some ⟨g', 0, none⟩) (j + 1) cap'), by go_num, by omega, hA5, by rw [List.replicate_succ']; exact hr5, hb5, hg5⟩
      case measure => simp [intOf]; omega
    · have hjI : ¬ (j : Int) < (k : Int) := by omega
      obtain rfl : j = k := by omega
      go_wp2_with fail
      go_end0
      exact ⟨rfl, bs, hbs2, hbr, v, hrow, hAr, hgr⟩

end Go.Proofs.YtcmgclckknpecaaGreatDoor
