import Derived.Test.YtcmgclckknpecaaGreatDoorAPlh
namespace Go.Proofs.YtcmgclckknpecaaGreatDoor
open Go.RowKit

/-- What the row of late steps holds: each step is low. -/
def Lw (k : Nat) (ys : List Value) : Prop := ∀ j, j < k → ∃ q1 m1 d1 q2 m2 d2, ∃ u v : Int, ys[j * 5]? = some (.string ⟨#[108, 111, 119]⟩) ∧ ys[j * 5 + 1]? = some (.slice q1 m1 d1) ∧ ys[j * 5 + 2]? = some (.slice q2 m2 d2) ∧ ys[j * 5 + 3]? = some (.int .i64 u) ∧ ys[j * 5 + 4]? = some (.int .i64 v)

set_option maxRecDepth 100000 in
set_option maxHeartbeats 4000000 in
theorem plan_words (rb K : Nat) (s : ByteArray) (w : World) (hm : s.size ≤ 80) (h : Rd rb s 0 w) (H1 : Hid (Pl.nm s 0 Pl.starts 0 0 = (some 3, 5)))
    (H2 : Hid ((K = 0 ∧ s.size = 5) ∨ (K = 1 ∧ s.size = 9 ∧ Pl.byteIn s 59 59 5 = true ∧ Pl.nm s 6 Pl.lates 0 0 = (some 0, 9)))) :
    Calls Tryz.prog 63 #[.pointer (some ⟨rb, 0, none⟩)] w fun e w' => ∃ p2 n2 c2 p3 n3 c3 vl ys, ∃ x z : Int, e = .returned (.tuple #[.agg #[.slice none 0 0, .string ⟨#[119, 111, 114, 100, 115]⟩, .slice p2 n2 c2, .slice p3 n3 c3, .int .i64 x, .int .i64 z, vl], .bool true]) ∧ w'.ownsRow w.heap.size 96 5 vl K ys ∧ Lw K ys ∧ Rd rb s s.size w' ∧ w.grownBy w' (some rb) := by
  have hrb := h.lt
  obtain ⟨i0, hi, hz0, hz1, hz2⟩ := info_parts info47
  have h0 : Rd rb s 0 ((w.alloc (.cells #[.slice none 0 0, .string ⟨#[]⟩, .slice none 0 0, .slice none 0 0, .int .i64 0, .int .i64 0, .slice none 0 0] 98)).alloc (.cells #[.slice none 0 0, .string ⟨#[]⟩, .slice none 0 0, .slice none 0 0, .int .i64 0, .int .i64 0, .slice none 0 0] 98)) := (h.of_below ((Below.refl _ w).alloc (Nat.le_refl _) _)).of_below ((Below.refl _ _).alloc (Nat.le_refl _) _)
  have bR : Blk w.heap.size 98 #[.slice none 0 0, .string ⟨#[]⟩, .slice none 0 0, .slice none 0 0, .int .i64 0, .int .i64 0, .slice none 0 0] ((w.alloc (.cells #[.slice none 0 0, .string ⟨#[]⟩, .slice none 0 0, .slice none 0 0, .int .i64 0, .int .i64 0, .slice none 0 0] 98)).alloc (.cells #[.slice none 0 0, .string ⟨#[]⟩, .slice none 0 0, .slice none 0 0, .int .i64 0, .int .i64 0, .slice none 0 0] 98)) := Blk.keep (show Blk w.heap.size 98 #[.slice none 0 0, .string ⟨#[]⟩, .slice none 0 0, .slice none 0 0, .int .i64 0, .int .i64 0, .slice none 0 0] (w.alloc (.cells #[.slice none 0 0, .string ⟨#[]⟩, .slice none 0 0, .slice none 0 0, .int .i64 0, .int .i64 0, .slice none 0 0] 98)) from heap_alloc_new w _) (World.grownBy_alloc _ _ none) (by simp)
  have bL : Blk (w.heap.size + 1) 98 #[.slice none 0 0, .string ⟨#[]⟩, .slice none 0 0, .slice none 0 0, .int .i64 0, .int .i64 0, .slice none 0 0] ((w.alloc (.cells #[.slice none 0 0, .string ⟨#[]⟩, .slice none 0 0, .slice none 0 0, .int .i64 0, .int .i64 0, .slice none 0 0] 98)).alloc (.cells #[.slice none 0 0, .string ⟨#[]⟩, .slice none 0 0, .slice none 0 0, .int .i64 0, .int .i64 0, .slice none 0 0] 98)) := by
    have := heap_alloc_new (w.alloc (.cells #[.slice none 0 0, .string ⟨#[]⟩, .slice none 0 0, .slice none 0 0, .int .i64 0, .int .i64 0, .slice none 0 0] 98)) (.cells #[.slice none 0 0, .string ⟨#[]⟩, .slice none 0 0, .slice none 0 0, .int .i64 0, .int .i64 0, .slice none 0 0] 98)
    rw [World.size_alloc] at this; exact this
  have g0 : w.grownBy ((w.alloc (.cells #[.slice none 0 0, .string ⟨#[]⟩, .slice none 0 0, .slice none 0 0, .int .i64 0, .int .i64 0, .slice none 0 0] 98)).alloc (.cells #[.slice none 0 0, .string ⟨#[]⟩, .slice none 0 0, .slice none 0 0, .int .i64 0, .int .i64 0, .slice none 0 0] 98)) (some rb) := grown_alloc (World.grownBy_alloc _ _ _) _
  have hs5 : 5 ≤ s.size := by rcases H2.out with h | h <;> omega
  go_enter Tryz.func63, Tryz.ntmps63
  go_wp2
  go_loopw [6] (fun _ wr => ∃ (a : Nat) (t : ByteArray) (p2 : Option Addr) (n2 c2 : Nat) (p3 : Option Addr) (n3 c3 : Nat) (x z : Int), Rd rb s a wr ∧ Blk w.heap.size 98 #[.slice none 0 0, .string ⟨#[]⟩, .slice none 0 0, .slice none 0 0, .int .i64 0, .int .i64 0, .slice none 0 0] wr ∧ Blk (w.heap.size + 1) 98 #[.slice none 0 0, .string t, .slice p2 n2 c2, .slice p3 n3 c3, .int .i64 x, .int .i64 z, .slice none 0 0] wr ∧ w.grownBy wr (some rb) ∧
    Hid ((t = ⟨#[]⟩ ∧ a = 0) ∨ (t = ⟨#[119, 111, 114, 100, 115]⟩ ∧ a = 5))) (fun _ wr => 200 - plc rb wr)
  case atStart => exact ⟨0, _, _, _, _, _, _, _, _, _, h0, bR, bL, g0, .inl ⟨rfl, rfl⟩⟩
  case round =>
    obtain ⟨a, t, p2, n2, c2, p3, n3, c3, x, z, hr, hR, hLb, hg, HC⟩ := hrel
    clear h0 bR bL g0
    obtain ⟨⟨r0, r1, r2, r3, r4, r5, r6⟩, rf⟩ := hR.seven
    obtain ⟨⟨l0, l1, l2, l3, l4, l5, l6⟩, lf⟩ := hLb.seven
    rcases HC.out with ⟨rfl, rfl⟩ | ⟨ht, rfl⟩
    · clear HC
      go_wp2_with fail
      have hst := fun W h1 h2 => step_start rb wr.heap.size s 0 W hm (by omega) h1 h2 3 5 (by decide) H1 hs5 true 5 (show Hid _ from rfl)
      obtain ⟨y, hy⟩ : ∃ y, Pl.starts[3]'(by decide) = y := ⟨_, rfl⟩
      rw [hy] at hst
      have e1 : (y.toList == [119, 111, 114, 100, 115]) = true := by rw [← hy]; decide +kernel
      have HY : Hid (y = ⟨#[119, 111, 114, 100, 115]⟩) := hy.symm
      have HST : Hid (∀ W, Rd rb s 0 W → Nms wr.heap.size Pl.starts W → Calls Tryz.prog 123 #[.pointer (some ⟨rb, 0, none⟩), .slice (some ⟨wr.heap.size, 0, none⟩) 6 6] W fun e w' => ∃ p1 n1 d1 p2 n2 d2, ∃ x z : Int, e = .returned (.tuple #[.agg #[.string y, .slice p1 n1 d1, .slice p2 n2 d2, .int .i64 x, .int .i64 z], .bool true]) ∧ Rd rb s 5 w' ∧ W.grownBy w' (some rb)) := hst
      clear hst hy
      refine (HST.out _ (hr.al _) (starts_nms wr)).mono ?_
      rintro e w2 ⟨q1, q2, q3, q4, q5, q6, q7, q8, rfl, hr2, hg2⟩
      have hR2 := (hR.alloc _).keep hg2 (by simp; omega)
      have hLb2 := (hLb.alloc _).keep hg2 (by simp; omega)
      have hgg := grown_trans (grown_alloc hg _) hg2
      have hsz2 := hg2.size
      have hsz0 := hg.size
      have hsz3 := hLb2.lt
      simp only [World.size_alloc] at hsz2
      clear r0 r1 r2 r3 r4 r5 r6 rf l0 l1 l2 l3 l4 l5 l6 lf
      obtain ⟨⟨r0, r1, r2, r3, r4, r5, r6⟩, rf⟩ := hR2.seven
      obtain ⟨⟨l0, l1, l2, l3, l4, l5, l6⟩, lf⟩ := hLb2.seven
      go_wp2
      go_roundw
      case rel =>
        refine ⟨5, y, q1, q2, q3, q4, q5, q6, q7, q8, ?_, ?_, ?_, ?_, .inr ⟨HY.out, rfl⟩⟩
        · exact (((((hr2.other (by omega) 1 _).other (by omega) 2 _).other (by omega) 3 _).other (by omega) 4 _).other (by omega) 5 _).al _
        · exact (((((hR2.setO (by omega) 1 _).setO (by omega) 2 _).setO (by omega) 3 _).setO (by omega) 4 _).setO (by omega) 5 _).alloc _
        · exact (((((hLb2.s1 (.string y)).s2 (.slice q1 q2 q3)).s3 (.slice q4 q5 q6)).s4 (.int .i64 q7)).s5 (.int .i64 q8)).alloc _
        · exact grown_alloc (grown_set_new (grown_set_new (grown_set_new (grown_set_new (grown_set_new hgg (by omega) 1 _) (by omega) 2 _) (by omega) 3 _) (by omega) 4 _) (by omega) 5 _) _
      case measure =>
        rw [plc_eq ((((((hr2.other (b := w.heap.size + 1) (by omega) 1 (.string y)).other (b := w.heap.size + 1) (by omega) 2 (.slice q1 q2 q3)).other (b := w.heap.size + 1) (by omega) 3 (.slice q4 q5 q6)).other (b := w.heap.size + 1) (by omega) 4 (.int .i64 q7)).other (b := w.heap.size + 1) (by omega) 5 (.int .i64 q8)).al _), plc_eq hr]; omega
    · clear HC
      have hte : t.toList.isEmpty = false := by rw [ht]; decide +kernel
      have HT : Hid (t = ⟨#[119, 111, 114, 100, 115]⟩) := ht
      clear ht
      go_wp2
      go_loopw [8] (fun _ wq => ∃ (a2 k : Nat) (vl : Value) (ys : List Value), Rd rb s a2 wq ∧ Blk w.heap.size 98 #[.slice none 0 0, .string ⟨#[]⟩, .slice none 0 0, .slice none 0 0, .int .i64 0, .int .i64 0, .slice none 0 0] wq ∧ Blk (w.heap.size + 1) 98 #[.slice none 0 0, .string t, .slice p2 n2 c2, .slice p3 n3 c3, .int .i64 x, .int .i64 z, vl] wq ∧ wq.ownsRow w.heap.size 96 5 vl k ys ∧ Hid (Lw k ys) ∧ w.grownBy wq (some rb) ∧ k ≤ a2 ∧ a2 ≤ s.size ∧
        Hid ((k = K ∧ a2 = s.size) ∨ (k = 0 ∧ K = 1 ∧ a2 = 5 ∧ s.size = 9 ∧ Pl.byteIn s 59 59 5 = true ∧ Pl.nm s 6 Pl.lates 0 0 = (some 0, 9)))) (fun _ wq => 200 - plc rb wq)
      case atStart =>
        refine ⟨5, 0, _, [], hr, hR, hLb, World.ownsRow_nil _ _ _ _, fun j hj => by omega, hg, by omega, hs5, ?_⟩
        rcases H2.out with ⟨a, b⟩ | ⟨a, b, c, d⟩
        · exact .inl ⟨a.symm, b.symm⟩
        · exact .inr ⟨rfl, a, rfl, b, c, d⟩
      case round =>
        obtain ⟨a2, k, vl, ys, hr', hR', hLb', hrow', HLW, hg', hka, ha2, HC2⟩ := hrel
        obtain ⟨pl, cl, rfl⟩ := slice_of hrow'
        have c0 := hr'.c0
        have c1 := hr'.c1
        clear r0 r1 r2 r3 r4 r5 r6 rf l0 l1 l2 l3 l4 l5 l6 lf hr hR hLb hg
        obtain ⟨⟨r0, r1, r2, r3, r4, r5, r6⟩, rf⟩ := hR'.seven
        obtain ⟨⟨l0, l1, l2, l3, l4, l5, l6⟩, lf⟩ := hLb'.seven
        rcases HC2.out with ⟨hkK, hend⟩ | ⟨hk0, hK1, ha5, hs9, h59, hnm⟩
        · have hdN : decide (a2 < s.size) = false := by simp; omega
          have HE : Hid (k = K ∧ a2 = s.size) := ⟨hkK, hend⟩
          clear hend HC2 hkK
          go_wp2_with fail
          go_quiet (fail)
          go_wp2
          obtain ⟨rfl, rfl⟩ := HE.out
          have hc7 := seven_cells (X := wr.drewN nq) (.slice none 0 0) (.string t) (.slice p2 n2 c2) (.slice p3 n3 c3) (.int .i64 x) (.int .i64 z) (.slice pl k cl) r0 r1 r2 r3 r4 r5 r6 _ rfl
          obtain rfl := HT.out
          refine bodyPost_ret (res19 rfl rfl hc7) rfl ⟨_, _, _, _, _, _, _, ys, _, _, rfl, ?_, HLW.out, ?_, ?_⟩
          · have hne := row_ne_blk hrow' hR' (by decide)
            have hD := ownsRow_grown hrow' (grown_drewN wr nq (some rb)) hrb
            exact ownsRow_set_other (ownsRow_set_other (ownsRow_set_other (ownsRow_set_other (ownsRow_set_other (ownsRow_set_other (ownsRow_set_other hD hne 0 _) hne 1 _) hne 2 _) hne 3 _) hne 4 _) hne 5 _) hne 6 _
          · exact (Rd.seven (hr'.of_below (below_drewN (Below.refl _ _) _)) (by omega) _ _ _ _ _ _ _)
          · exact (grown_seven (grown_trans hg' (grown_drewN _ _ _)) (Nat.le_refl _) _ _ _ _ _ _ _)
        · subst hk0 ha5
          have hdl : ((5 : Nat) : Int) < (s.size : Int) := by omega
          have hd5 : decide (5 < s.size) = true := by simp; omega
          have HK : Hid (K = 1) := hK1
          have H9 : Hid (s.size = 9) := hs9
          have hs9' : 9 ≤ s.size := by omega
          have hsg := fun W h => sign_at rb s 5 59 59 rfl W hm ha2 h
          simp only [Pl.sign, h59, if_true] at hsg
          have HSG : Hid (∀ W, Rd rb s 5 W → Calls Tryz.prog 124 #[.pointer (some ⟨rb, 0, none⟩), .int .u8 59] W fun e w' => e = .returned (.bool true) ∧ Rd rb s 6 w' ∧ W.grownBy w' (some rb)) := hsg
          clear hsg h59 HC2 hK1 hs9
          go_wp2_with fail
          go_quiet (fail)
          go_wp2_with fail
          refine (HSG.out _ (hr'.of_below (below_drewN (Below.refl _ _) _))).mono ?_
          rintro e wS ⟨rfl, hrS, hgS⟩
          have hgd := grown_trans (grown_drewN wr nq (some rb)) hgS
          have hRS := hR'.keep hgd (by simp; omega)
          have hLbS := hLb'.keep hgd (by simp; omega)
          have hrowS := ownsRow_grown hrow' hgd hrb
          have hgS2 := grown_trans hg' hgd
          clear c0 c1 hR' hLb' hrow' hg' hgS hgd
          clear r0 r1 r2 r3 r4 r5 r6 rf l0 l1 l2 l3 l4 l5 l6 lf
          obtain ⟨⟨r0, r1, r2, r3, r4, r5, r6⟩, rf⟩ := hRS.seven
          obtain ⟨⟨l0, l1, l2, l3, l4, l5, l6⟩, lf⟩ := hLbS.seven
          go_wp2_with fail
          have hst := fun W h1 h2 => step_late rb wS.heap.size s 6 W hm (by omega) h1 h2 0 9 (by decide) hnm hs9' true 9 (show Hid _ from rfl)
          obtain ⟨y, hy⟩ : ∃ y, Pl.lates[0]'(by decide) = y := ⟨_, rfl⟩
          rw [hy] at hst
          have HY : Hid (y = ⟨#[108, 111, 119]⟩) := hy.symm
          have HST : Hid (∀ W, Rd rb s 6 W → Nms wS.heap.size Pl.lates W → Calls Tryz.prog 123 #[.pointer (some ⟨rb, 0, none⟩), .slice (some ⟨wS.heap.size, 0, none⟩) 7 7] W fun e w' => ∃ p1 n1 d1 p2 n2 d2, ∃ x z : Int, e = .returned (.tuple #[.agg #[.string y, .slice p1 n1 d1, .slice p2 n2 d2, .int .i64 x, .int .i64 z], .bool true]) ∧ Rd rb s 9 w' ∧ W.grownBy w' (some rb)) := hst
          clear hst hy
          refine (HST.out _ (hrS.al _) (lates_nms wS)).mono ?_
          rintro e w2 ⟨q1, q2, q3, q4, q5, q6, q7, q8, rfl, hr2, hg2⟩
          have hR2 := (hRS.alloc _).keep hg2 (by simp; omega)
          have hLb2 := (hLbS.alloc _).keep hg2 (by simp; omega)
          have hrow2 := ownsRow_grown (hrowS.alloc _) hg2 hrb
          have hgg := grown_trans (grown_alloc hgS2 _) hg2
          have hsz2 := hg2.size
          have hsz0 := hgS2.size
          have hsz3 := hLb2.lt
          simp only [World.size_alloc] at hsz2
          clear hRS hLbS hrowS
          clear r0 r1 r2 r3 r4 r5 r6 rf l0 l1 l2 l3 l4 l5 l6 lf
          obtain ⟨⟨r0, r1, r2, r3, r4, r5, r6⟩, rf⟩ := hR2.seven
          obtain ⟨⟨l0, l1, l2, l3, l4, l5, l6⟩, lf⟩ := hLb2.seven
          have HNM := hnm
          clear hnm HNM
          have HNB : Hid (∀ C, ((w2.alloc C).alloc (.cells #[.string y, .slice q1 q2 q3, .slice q4 q5 q6, .int .i64 q7, .int .i64 q8] 96)).heap[w2.heap.size + 1]? = some (.cells #[.string y, .slice q1 q2 q3, .slice q4 q5 q6, .int .i64 q7, .int .i64 q8] 96 (0, 0))) := fun C => by
            have := heap_alloc_new (w2.alloc C) (.cells #[.string y, .slice q1 q2 q3, .slice q4 q5 q6, .int .i64 q7, .int .i64 q8] 96)
            simpa using this
          have hs3 : Rd rb s 9 (w2.alloc (.cells #[.string y, .slice q1 q2 q3, .slice q4 q5 q6, .int .i64 q7, .int .i64 q8] 96)) := hr2.al _
          go_wp2_with (at_builtin; go_must (refine wpList_append_lies _ (by rfl) _ _ 93 (by rfl) w.heap.size 96 i0 (.agg #[.string ⟨#[]⟩, .slice none 0 0, .slice none 0 0, .int .i64 0, .int .i64 0]) 5 80 Tryz.underlying93 hi hz0 hz1 hz2 rfl (by decide) _ 0 ys (by rfl) ((hrow2.alloc _).alloc _) ⟨w2.heap.size + 1, 0, none⟩ 1 1 [.string y, .slice q1 q2 q3, .slice q4 q5 q6, .int .i64 q7, .int .i64 q8] (by rfl) rfl (World.news_of_block (HNB.out _)) (by simp [Value.oneCell']) (by decide) (by unfold maxLen; omega) (by omega) (by simp; omega) (w2.heap.size + 1 + 1) (by simp) ?_); intro g cap w3 hown hgrow hat hlt3; have hne3 := row_ne_blk hrow2 hLb2 (by decide); have hLb3 := ((hLb2.alloc (.cells #[.string y, .slice q1 q2 q3, .slice q4 q5 q6, .int .i64 q7, .int .i64 q8] 96)).alloc (.cells #[.string y, .slice q1 q2 q3, .slice q4 q5 q6, .int .i64 q7, .int .i64 q8] 96)).keep hgrow hne3; have hR3 := ((hR2.alloc (.cells #[.string y, .slice q1 q2 q3, .slice q4 q5 q6, .int .i64 q7, .int .i64 q8] 96)).alloc (.cells #[.string y, .slice q1 q2 q3, .slice q4 q5 q6, .int .i64 q7, .int .i64 q8] 96)).keep hgrow (row_ne_blk hrow2 hR2 (by decide)); obtain ⟨⟨f0, f1, f2, f3, f4, f5, f6⟩, mf⟩ := hLb3.seven)
          have hge : ∀ x, (Value.slice pl 0 cl).ownBlock = some x → w.heap.size ≤ x := fun x e => (ownBlock_lt hrow2 e).2
          have hr4 := ((hs3.al (.cells #[.string y, .slice q1 q2 q3, .slice q4 q5 q6, .int .i64 q7, .int .i64 q8] 96)).grown hgrow (by intro e; have := hge _ e; omega)).other (b := w.heap.size + 1) (by omega) 6 (Value.slice (some ⟨g, 0, none⟩) (0 + 1) cap)
          have hg4 : w.grownBy (w3.setCell ⟨w.heap.size + 1, 6, none⟩ (Value.slice (some ⟨g, 0, none⟩) (0 + 1) cap)) (some rb) := grown_set_new (grown_own (grown_alloc (grown_alloc hgg _) _) hgrow hge) (by omega) _ _
          have hrow4 := ownsRow_set_other hown (row_ne_blk hown hLb3 (by decide)) 6 (Value.slice (some ⟨g, 0, none⟩) (0 + 1) cap)
          have hLb4 := hLb3.s6 (Value.slice (some ⟨g, 0, none⟩) (0 + 1) cap)
          have hR4 := hR3.setO (b2 := w.heap.size + 1) (by omega) 6 (Value.slice (some ⟨g, 0, none⟩) (0 + 1) cap)
          go_wp2
          go_roundw
          case rel =>
            refine ⟨9, 0 + 1, _, _, hr4, hR4, hLb4, hrow4, ?_, hg4, by omega, hs9', .inl ⟨HK.out.symm, H9.out.symm⟩⟩
            have hy := HY.out
            subst hy
            have hy0 : ys = [] := by
              have := hrow2.1
              first | exact this | exact List.eq_nil_of_length_eq_zero (by simpa using this)
            subst hy0
            intro j hj
            obtain rfl : j = 0 := by omega
            exact ⟨q1, q2, q3, q4, q5, q6, q7, q8, rfl, rfl, rfl, rfl, rfl⟩
          case measure => rw [plc_eq hr4, plc_eq hr']; omega

end Go.Proofs.YtcmgclckknpecaaGreatDoor
