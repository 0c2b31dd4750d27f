import Derived.Test.YtcmgclckknpecaaPlh
namespace Go.Proofs.Ytcmgclckknpecaa
open Go.RowKit

set_option maxRecDepth 100000 in
set_option maxHeartbeats 4000000 in
theorem plan_any (rb : Nat) (s : ByteArray) (w : World) (hm : s.size ≤ 80) (h : Rd rb s 0 w) (O : Bool) (D C : Nat) (HR : Hid (Pl.chn s (s.size + 1) false 0 0 = ((O, D), C))) :
    Calls Try.prog 19 #[.pointer (some ⟨rb, 0, none⟩)] w fun e w' => ∃ p1 n1 c1 p2 n2 c2 p3 n3 c3 p4 n4 c4, ∃ t : ByteArray, ∃ x z : Int, e = .returned (.tuple #[.agg #[.slice p1 n1 c1, .string t, .slice p2 n2 c2, .slice p3 n3 c3, .int .i64 x, .int .i64 z, .slice p4 n4 c4], .bool O]) ∧ Rd rb s D w' ∧ (O = true → n1 + 1 + n4 = C) ∧ w.grownBy w' (some rb) := by
  have hrb := h.lt
  obtain ⟨i0, hi, hz0, hz1, hz2⟩ := info_parts info47
  have h0 : Rd rb s 0 ((w.alloc (.cells #[.slice none 0 0, .string ⟨#[]⟩, .slice none 0 0, .slice none 0 0, .int .i64 0, .int .i64 0, .slice none 0 0] 49)).alloc (.cells #[.slice none 0 0, .string ⟨#[]⟩, .slice none 0 0, .slice none 0 0, .int .i64 0, .int .i64 0, .slice none 0 0] 49)) := (h.of_below ((Below.refl _ w).alloc (Nat.le_refl _) _)).of_below ((Below.refl _ _).alloc (Nat.le_refl _) _)
  have bR : Blk w.heap.size 49 #[.slice none 0 0, .string ⟨#[]⟩, .slice none 0 0, .slice none 0 0, .int .i64 0, .int .i64 0, .slice none 0 0] ((w.alloc (.cells #[.slice none 0 0, .string ⟨#[]⟩, .slice none 0 0, .slice none 0 0, .int .i64 0, .int .i64 0, .slice none 0 0] 49)).alloc (.cells #[.slice none 0 0, .string ⟨#[]⟩, .slice none 0 0, .slice none 0 0, .int .i64 0, .int .i64 0, .slice none 0 0] 49)) := Blk.keep (show Blk w.heap.size 49 #[.slice none 0 0, .string ⟨#[]⟩, .slice none 0 0, .slice none 0 0, .int .i64 0, .int .i64 0, .slice none 0 0] (w.alloc (.cells #[.slice none 0 0, .string ⟨#[]⟩, .slice none 0 0, .slice none 0 0, .int .i64 0, .int .i64 0, .slice none 0 0] 49)) from heap_alloc_new w _) (World.grownBy_alloc _ _ none) (by simp)
  have bL : Blk (w.heap.size + 1) 49 #[.slice none 0 0, .string ⟨#[]⟩, .slice none 0 0, .slice none 0 0, .int .i64 0, .int .i64 0, .slice none 0 0] ((w.alloc (.cells #[.slice none 0 0, .string ⟨#[]⟩, .slice none 0 0, .slice none 0 0, .int .i64 0, .int .i64 0, .slice none 0 0] 49)).alloc (.cells #[.slice none 0 0, .string ⟨#[]⟩, .slice none 0 0, .slice none 0 0, .int .i64 0, .int .i64 0, .slice none 0 0] 49)) := by
    have := heap_alloc_new (w.alloc (.cells #[.slice none 0 0, .string ⟨#[]⟩, .slice none 0 0, .slice none 0 0, .int .i64 0, .int .i64 0, .slice none 0 0] 49)) (.cells #[.slice none 0 0, .string ⟨#[]⟩, .slice none 0 0, .slice none 0 0, .int .i64 0, .int .i64 0, .slice none 0 0] 49)
    rw [World.size_alloc] at this; exact this
  have g0 : w.grownBy ((w.alloc (.cells #[.slice none 0 0, .string ⟨#[]⟩, .slice none 0 0, .slice none 0 0, .int .i64 0, .int .i64 0, .slice none 0 0] 49)).alloc (.cells #[.slice none 0 0, .string ⟨#[]⟩, .slice none 0 0, .slice none 0 0, .int .i64 0, .int .i64 0, .slice none 0 0] 49)) (some rb) := grown_alloc (World.grownBy_alloc _ _ _) _
  go_enter Try.func19, Try.ntmps19
  go_wp2
  go_loopw [6] (fun _ wr => ∃ (a c : Nat) (ve : Value) (xs : List Value) (t : ByteArray) (p2 : Option Addr) (n2 c2 : Nat) (p3 : Option Addr) (n3 c3 : Nat) (x z : Int), a ≤ s.size ∧ Rd rb s a wr ∧ Blk w.heap.size 49 #[.slice none 0 0, .string ⟨#[]⟩, .slice none 0 0, .slice none 0 0, .int .i64 0, .int .i64 0, .slice none 0 0] wr ∧ Blk (w.heap.size + 1) 49 #[ve, .string t, .slice p2 n2 c2, .slice p3 n3 c3, .int .i64 x, .int .i64 z, .slice none 0 0] wr ∧ wr.ownsRow w.heap.size 47 5 ve c xs ∧ w.grownBy wr (some rb) ∧ c ≤ a ∧
    Hid ((t = ⟨#[]⟩ ∧ ∃ m, s.size < a + m ∧ Pl.chn s m false a c = ((O, D), C)) ∨ (t.toList.isEmpty = false ∧ ∃ m, s.size < a + m ∧ tl s m a (c + 1) = ((O, D), C)))) (fun _ wr => 200 - plc rb wr)
  case atStart => exact ⟨0, 0, _, [], _, _, _, _, _, _, _, _, _, by omega, h0, bR, bL, World.ownsRow_nil _ _ _ _, g0, by omega, .inl ⟨rfl, s.size + 1, by omega, HR.out⟩⟩
  case round =>
    obtain ⟨a, c, ve, xs, t, p2, n2, c2, p3, n3, c3, x, z, ha, hr, hR, hLb, hrow, hg, hca, HC⟩ := hrel
    clear h0 bR bL g0
    obtain ⟨⟨r0, r1, r2, r3, r4, r5, r6⟩, rf⟩ := hR.seven
    obtain ⟨⟨l0, l1, l2, l3, l4, l5, l6⟩, lf⟩ := hLb.seven
    rcases HC.out with ⟨rfl, m, hbm, hl⟩ | ⟨hte, m, hbm, hl⟩
    · obtain ⟨pv, cv, rfl⟩ := slice_of hrow
      obtain ⟨m, rfl⟩ : ∃ m', m = m' + 1 := ⟨m - 1, by omega⟩
      obtain ⟨⟨res, b⟩, hnm⟩ : ∃ r, Pl.nm s a Pl.starts 0 0 = r := ⟨_, rfl⟩
      have hbf := nm_le s a ha Pl.starts 0 0 res b (by omega) hnm
      go_wp2_with fail
      cases res with
      | none =>
        have hRv : ((O, D), C) = ((false, b), c) := by rw [← hl]; exact chn_none s m false a c b hnm
        simp only [Prod.mk.injEq] at hRv
        obtain ⟨⟨hO, rfl⟩, _⟩ := hRv
        have HO : Hid (O = false) := hO
        clear hO
        clear hl HC
        refine (step_start_no rb _ s a _ hm ha (hr.al _) (starts_nms wr) D hnm hbf.2).mono ?_
        rintro e w2 ⟨q1, q2, q3, q4, q5, q6, q7, q8, rfl, hr2, hg2⟩
        have hR2 := (hR.alloc _).keep hg2 (by simp; omega)
        have hLb2 := (hLb.alloc _).keep hg2 (by simp; omega)
        have hrow2 := ownsRow_grown (hrow.alloc _) hg2 hrb
        have hgg := grown_trans (grown_alloc hg _) hg2
        have hsz2 := hg2.size
        have hsz0 := hg.size
        have hsz3 := hLb2.lt
        simp only [World.size_alloc] at hsz2
        clear r0 r1 r2 r3 r4 r5 r6 rf l0 l1 l2 l3 l4 l5 l6 lf
        obtain ⟨⟨r0, r1, r2, r3, r4, r5, r6⟩, rf⟩ := hR2.seven
        obtain ⟨⟨l0, l1, l2, l3, l4, l5, l6⟩, lf⟩ := hLb2.seven
        clear r0 r1 r2 r3 r4 r5 r6 rf l0 l1 l2 l3 l4 l5 l6 lf
        obtain ⟨⟨r0, r1, r2, r3, r4, r5, r6⟩, rf⟩ := (hR2.alloc (.cells #[.string ⟨#[]⟩, .slice q1 q2 q3, .slice q4 q5 q6, .int .i64 q7, .int .i64 q8] 47)).seven
        obtain ⟨⟨l0, l1, l2, l3, l4, l5, l6⟩, lf⟩ := (hLb2.alloc (.cells #[.string ⟨#[]⟩, .slice q1 q2 q3, .slice q4 q5 q6, .int .i64 q7, .int .i64 q8] 47)).seven
        go_wp2
        obtain rfl := HO.out
        have hc7 := seven_cells (.slice pv c cv) (.string ⟨#[]⟩) (.slice p2 n2 c2) (.slice p3 n3 c3) (.int .i64 x) (.int .i64 z) (.slice none 0 0) r0 r1 r2 r3 r4 r5 r6 _ rfl
        refine bodyPost_ret (res19 rfl rfl hc7) rfl ⟨_, _, _, _, _, _, _, _, _, _, _, _, _, _, _, rfl, ?_, ?_, ?_⟩
        · exact (Rd.seven (hr2.al _) (by omega) _ _ _ _ _ _ _)
        · simp
        · exact (grown_seven (grown_alloc hgg _) (Nat.le_refl _) _ _ _ _ _ _ _)
      | some i =>
        have hpos := nm_pos s a Pl.starts 0 0 i b starts_pos hnm
        have hi6 : i < Pl.starts.length := by
          rcases Nat.lt_or_ge i Pl.starts.length with h' | h'
          · exact h'
          · exact absurd hnm (nm_lt s a Pl.starts 0 0 i b (by omega))
        obtain ⟨⟨o, d⟩, hbd⟩ : ∃ r, Pl.body s (Pl.kindS i) b = r := ⟨_, rfl⟩
        have hdf := body_fits s (Pl.kindS i) b hbf.2
        rw [hbd] at hdf
        have hst := fun W h1 h2 => step_start rb wr.heap.size s a W hm ha h1 h2 i b hi6 hnm hbf.2 o d hbd
        have hsq := starts_q i hi6
        obtain ⟨y, hy⟩ : ∃ y, Pl.starts[i]'hi6 = y := ⟨_, rfl⟩
        rw [hy] at hst hsq
        have HST : Hid (∀ W, Rd rb s a W → Nms wr.heap.size Pl.starts W → Calls Try.prog 31 #[.pointer (some ⟨rb, 0, none⟩), .slice (some ⟨wr.heap.size, 0, none⟩) 6 6] W fun e w' => ∃ p1 n1 d1 p2 n2 d2, ∃ x z : Int, e = .returned (.tuple #[.agg #[.string y, .slice p1 n1 d1, .slice p2 n2 d2, .int .i64 x, .int .i64 z], .bool o]) ∧ Rd rb s d w' ∧ W.grownBy w' (some rb)) := hst
        clear hst hy
        refine (HST.out _ (hr.al _) (starts_nms wr)).mono ?_
        rintro e w2 ⟨q1, q2, q3, q4, q5, q6, q7, q8, rfl, hr2, hg2⟩
        have hR2 := (hR.alloc _).keep hg2 (by simp; omega)
        have hLb2 := (hLb.alloc _).keep hg2 (by simp; omega)
        have hrow2 := ownsRow_grown (hrow.alloc _) hg2 hrb
        have hgg := grown_trans (grown_alloc hg _) hg2
        have hsz2 := hg2.size
        have hsz0 := hg.size
        have hsz3 := hLb2.lt
        simp only [World.size_alloc] at hsz2
        clear r0 r1 r2 r3 r4 r5 r6 rf l0 l1 l2 l3 l4 l5 l6 lf
        obtain ⟨⟨r0, r1, r2, r3, r4, r5, r6⟩, rf⟩ := hR2.seven
        obtain ⟨⟨l0, l1, l2, l3, l4, l5, l6⟩, lf⟩ := hLb2.seven
        cases o with
        | false =>
          have hRv : ((O, D), C) = ((false, d), c + 1) := by rw [← hl]; exact chn_bad s m false a c b i d hnm hbd
          simp only [Prod.mk.injEq] at hRv
          obtain ⟨⟨hO, rfl⟩, _⟩ := hRv
          have HO : Hid (O = false) := hO
          clear hO
          clear hl HC hbd hnm hsq
          clear r0 r1 r2 r3 r4 r5 r6 rf l0 l1 l2 l3 l4 l5 l6 lf
          obtain ⟨⟨r0, r1, r2, r3, r4, r5, r6⟩, rf⟩ := (hR2.alloc (.cells #[.string y, .slice q1 q2 q3, .slice q4 q5 q6, .int .i64 q7, .int .i64 q8] 47)).seven
          obtain ⟨⟨l0, l1, l2, l3, l4, l5, l6⟩, lf⟩ := (hLb2.alloc (.cells #[.string y, .slice q1 q2 q3, .slice q4 q5 q6, .int .i64 q7, .int .i64 q8] 47)).seven
          go_wp2
          obtain rfl := HO.out
          have hc7 := seven_cells (.slice pv c cv) (.string ⟨#[]⟩) (.slice p2 n2 c2) (.slice p3 n3 c3) (.int .i64 x) (.int .i64 z) (.slice none 0 0) r0 r1 r2 r3 r4 r5 r6 _ rfl
          refine bodyPost_ret (res19 rfl rfl hc7) rfl ⟨_, _, _, _, _, _, _, _, _, _, _, _, _, _, _, rfl, ?_, ?_, ?_⟩
          · exact (Rd.seven (hr2.al _) (by omega) _ _ _ _ _ _ _)
          · simp
          · exact (grown_seven (grown_alloc hgg _) (Nat.le_refl _) _ _ _ _ _ _ _)
        | true =>
          by_cases e1 : (y.toList == [119, 111, 114, 100, 115]) = true
          · have h3i : 3 ≤ i := by have := hsq.1; simp [e1] at this; exact this
            have HN : Hid (tl s m d (c + 1) = ((O, D), C)) := by rw [← hl]; exact (chn_cut s m false a c b i d hnm hbd (.inr h3i)).symm
            have HE : Hid (y.toList.isEmpty = false) := hsq.2
            clear hl HC hbd hnm hsq h3i
            go_wp2
            go_roundw
            case rel =>
              refine ⟨d, c, .slice pv c cv, xs, y, q1, q2, q3, q4, q5, q6, q7, q8, hdf.2, ?_, ?_, ?_, ?_, ?_, by omega, .inr ⟨HE.out, m, by omega, HN.out⟩⟩
              · exact (((((hr2.other (by omega) 1 _).other (by omega) 2 _).other (by omega) 3 _).other (by omega) 4 _).other (by omega) 5 _).al _
              · exact (((((hR2.setO (by omega) 1 _).setO (by omega) 2 _).setO (by omega) 3 _).setO (by omega) 4 _).setO (by omega) 5 _).alloc _
              · exact (((((hLb2.s1 (.string y)).s2 (.slice q1 q2 q3)).s3 (.slice q4 q5 q6)).s4 (.int .i64 q7)).s5 (.int .i64 q8)).alloc _
              · have hne := row_ne_blk hrow2 hLb2 (by decide)
                exact (ownsRow_set_other (ownsRow_set_other (ownsRow_set_other (ownsRow_set_other (ownsRow_set_other hrow2 hne 1 _) hne 2 _) hne 3 _) hne 4 _) hne 5 _).alloc _
              · exact grown_alloc (grown_set_new (grown_set_new (grown_set_new (grown_set_new (grown_set_new hgg (by omega) 1 _) (by omega) 2 _) (by omega) 3 _) (by omega) 4 _) (by omega) 5 _) _
            case measure =>
              rw [plc_eq ((((((hr2.other (b := w.heap.size + 1) (by omega) 1 (.string y)).other (b := w.heap.size + 1) (by omega) 2 (.slice q1 q2 q3)).other (b := w.heap.size + 1) (by omega) 3 (.slice q4 q5 q6)).other (b := w.heap.size + 1) (by omega) 4 (.int .i64 q7)).other (b := w.heap.size + 1) (by omega) 5 (.int .i64 q8)).al _), plc_eq hr]; omega
          · have e1 : (y.toList == [119, 111, 114, 100, 115]) = false := eq_false_of_ne_true e1
            by_cases e2 : (y.toList == [98, 108, 97, 110, 107, 115]) = true
            · have h3i : 3 ≤ i := by have := hsq.1; simp [e1, e2] at this; exact this
              have HN : Hid (tl s m d (c + 1) = ((O, D), C)) := by rw [← hl]; exact (chn_cut s m false a c b i d hnm hbd (.inr h3i)).symm
              have HE : Hid (y.toList.isEmpty = false) := hsq.2
              clear hl HC hbd hnm hsq h3i
              go_wp2
              go_roundw
              case rel =>
                refine ⟨d, c, .slice pv c cv, xs, y, q1, q2, q3, q4, q5, q6, q7, q8, hdf.2, ?_, ?_, ?_, ?_, ?_, by omega, .inr ⟨HE.out, m, by omega, HN.out⟩⟩
                · exact (((((hr2.other (by omega) 1 _).other (by omega) 2 _).other (by omega) 3 _).other (by omega) 4 _).other (by omega) 5 _).al _
                · exact (((((hR2.setO (by omega) 1 _).setO (by omega) 2 _).setO (by omega) 3 _).setO (by omega) 4 _).setO (by omega) 5 _).alloc _
                · exact (((((hLb2.s1 (.string y)).s2 (.slice q1 q2 q3)).s3 (.slice q4 q5 q6)).s4 (.int .i64 q7)).s5 (.int .i64 q8)).alloc _
                · have hne := row_ne_blk hrow2 hLb2 (by decide)
                  exact (ownsRow_set_other (ownsRow_set_other (ownsRow_set_other (ownsRow_set_other (ownsRow_set_other hrow2 hne 1 _) hne 2 _) hne 3 _) hne 4 _) hne 5 _).alloc _
                · exact grown_alloc (grown_set_new (grown_set_new (grown_set_new (grown_set_new (grown_set_new hgg (by omega) 1 _) (by omega) 2 _) (by omega) 3 _) (by omega) 4 _) (by omega) 5 _) _
              case measure =>
                rw [plc_eq ((((((hr2.other (b := w.heap.size + 1) (by omega) 1 (.string y)).other (b := w.heap.size + 1) (by omega) 2 (.slice q1 q2 q3)).other (b := w.heap.size + 1) (by omega) 3 (.slice q4 q5 q6)).other (b := w.heap.size + 1) (by omega) 4 (.int .i64 q7)).other (b := w.heap.size + 1) (by omega) 5 (.int .i64 q8)).al _), plc_eq hr]; omega
            · have e2 : (y.toList == [98, 108, 97, 110, 107, 115]) = false := eq_false_of_ne_true e2
              by_cases e3 : (y.toList == [119, 104, 111, 108, 101]) = true
              · have h3i : 3 ≤ i := by have := hsq.1; simp [e1, e2, e3] at this; exact this
                have HN : Hid (tl s m d (c + 1) = ((O, D), C)) := by rw [← hl]; exact (chn_cut s m false a c b i d hnm hbd (.inr h3i)).symm
                have HE : Hid (y.toList.isEmpty = false) := hsq.2
                clear hl HC hbd hnm hsq h3i
                go_wp2
                go_roundw
                case rel =>
                  refine ⟨d, c, .slice pv c cv, xs, y, q1, q2, q3, q4, q5, q6, q7, q8, hdf.2, ?_, ?_, ?_, ?_, ?_, by omega, .inr ⟨HE.out, m, by omega, HN.out⟩⟩
                  · exact (((((hr2.other (by omega) 1 _).other (by omega) 2 _).other (by omega) 3 _).other (by omega) 4 _).other (by omega) 5 _).al _
                  · exact (((((hR2.setO (by omega) 1 _).setO (by omega) 2 _).setO (by omega) 3 _).setO (by omega) 4 _).setO (by omega) 5 _).alloc _
                  · exact (((((hLb2.s1 (.string y)).s2 (.slice q1 q2 q3)).s3 (.slice q4 q5 q6)).s4 (.int .i64 q7)).s5 (.int .i64 q8)).alloc _
                  · have hne := row_ne_blk hrow2 hLb2 (by decide)
                    exact (ownsRow_set_other (ownsRow_set_other (ownsRow_set_other (ownsRow_set_other (ownsRow_set_other hrow2 hne 1 _) hne 2 _) hne 3 _) hne 4 _) hne 5 _).alloc _
                  · exact grown_alloc (grown_set_new (grown_set_new (grown_set_new (grown_set_new (grown_set_new hgg (by omega) 1 _) (by omega) 2 _) (by omega) 3 _) (by omega) 4 _) (by omega) 5 _) _
                case measure =>
                  rw [plc_eq ((((((hr2.other (b := w.heap.size + 1) (by omega) 1 (.string y)).other (b := w.heap.size + 1) (by omega) 2 (.slice q1 q2 q3)).other (b := w.heap.size + 1) (by omega) 3 (.slice q4 q5 q6)).other (b := w.heap.size + 1) (by omega) 4 (.int .i64 q7)).other (b := w.heap.size + 1) (by omega) 5 (.int .i64 q8)).al _), plc_eq hr]; omega
              · have e3 : (y.toList == [119, 104, 111, 108, 101]) = false := eq_false_of_ne_true e3
                have h3i : ¬ 3 ≤ i := by have := hsq.1; simp [e1, e2, e3] at this; omega
                have hce := chn_early s m a c b i d hnm hbd h3i
                rw [hl] at hce
                have HNB : Hid (∀ C, ((w2.alloc C).alloc (.cells #[.string y, .slice q1 q2 q3, .slice q4 q5 q6, .int .i64 q7, .int .i64 q8] 47)).heap[w2.heap.size + 1]? = some (.cells #[.string y, .slice q1 q2 q3, .slice q4 q5 q6, .int .i64 q7, .int .i64 q8] 47 (0, 0))) := fun C => by
                  have := heap_alloc_new (w2.alloc C) (.cells #[.string y, .slice q1 q2 q3, .slice q4 q5 q6, .int .i64 q7, .int .i64 q8] 47)
                  simpa using this
                obtain ⟨⟨o5, d5⟩, hs5⟩ : ∃ r, Pl.sign s 59 d = r := ⟨_, rfl⟩
                have hsg := fun W h => sign_at rb s d 59 59 rfl W hm hdf.2 h
                rw [hs5] at hsg
                have HSG : Hid (∀ W, Rd rb s d W → Calls Try.prog 32 #[.pointer (some ⟨rb, 0, none⟩), .int .u8 59] W fun e w' => e = .returned (.bool o5) ∧ Rd rb s d5 w' ∧ W.grownBy w' (some rb)) := hsg
                have HCE : Hid (((O, D), C) = if Pl.byteIn s 59 59 d = true then Pl.chn s m false (d + 1) (c + 1) else ((false, d), c + 1)) := hce
                have HS5 : Hid (Pl.sign s 59 d = (o5, d5)) := hs5
                clear hl HC hbd hnm hsq h3i hce hsg hs5
                have hs3 : Rd rb s d (w2.alloc (.cells #[.string y, .slice q1 q2 q3, .slice q4 q5 q6, .int .i64 q7, .int .i64 q8] 47)) := hr2.al _
                go_wp2_with (at_builtin; go_must (refine wpList_append_lies _ (by rfl) _ _ 43 (by rfl) w.heap.size 47 i0 (.agg #[.string ⟨#[]⟩, .slice none 0 0, .slice none 0 0, .int .i64 0, .int .i64 0]) 5 80 Try.underlying43 hi hz0 hz1 hz2 rfl (by decide) _ c xs (by rfl) ((hrow2.alloc _).alloc _) ⟨w2.heap.size + 1, 0, none⟩ 1 1 [.string y, .slice q1 q2 q3, .slice q4 q5 q6, .int .i64 q7, .int .i64 q8] (by rfl) rfl (World.news_of_block (HNB.out _)) (by simp [Value.oneCell']) (by decide) (by unfold maxLen; omega) (by omega) (by simp; omega) (w2.heap.size + 1 + 1) (by simp) ?_); intro g cap w3 hown hgrow hat hlt3; have hne3 := row_ne_blk hrow2 hLb2 (by decide); have hLb3 := ((hLb2.alloc (.cells #[.string y, .slice q1 q2 q3, .slice q4 q5 q6, .int .i64 q7, .int .i64 q8] 47)).alloc (.cells #[.string y, .slice q1 q2 q3, .slice q4 q5 q6, .int .i64 q7, .int .i64 q8] 47)).keep hgrow hne3; have hR3 := ((hR2.alloc (.cells #[.string y, .slice q1 q2 q3, .slice q4 q5 q6, .int .i64 q7, .int .i64 q8] 47)).alloc (.cells #[.string y, .slice q1 q2 q3, .slice q4 q5 q6, .int .i64 q7, .int .i64 q8] 47)).keep hgrow (row_ne_blk hrow2 hR2 (by decide)); obtain ⟨⟨f0, f1, f2, f3, f4, f5, f6⟩, mf⟩ := hLb3.seven)
                have hge : ∀ x, (Value.slice pv c cv).ownBlock = some x → w.heap.size ≤ x := fun x e => (ownBlock_lt hrow2 e).2
                have hr4 := ((hs3.al (.cells #[.string y, .slice q1 q2 q3, .slice q4 q5 q6, .int .i64 q7, .int .i64 q8] 47)).grown hgrow (by intro e; have := hge _ e; omega)).other (b := w.heap.size + 1) (by omega) 0 (Value.slice (some ⟨g, 0, none⟩) (c + 1) cap)
                have hg4 : w.grownBy (w3.setCell ⟨w.heap.size + 1, 0, none⟩ (Value.slice (some ⟨g, 0, none⟩) (c + 1) cap)) (some rb) := grown_set_new (grown_own (grown_alloc (grown_alloc hgg _) _) hgrow hge) (by omega) _ _
                have hrow4 := ownsRow_set_other hown (row_ne_blk hown hLb3 (by decide)) 0 (Value.slice (some ⟨g, 0, none⟩) (c + 1) cap)
                have hLb4 := hLb3.s0 (Value.slice (some ⟨g, 0, none⟩) (c + 1) cap)
                have hR4 := hR3.setO (b2 := w.heap.size + 1) (by omega) 0 (Value.slice (some ⟨g, 0, none⟩) (c + 1) cap)
                refine (HSG.out _ hr4).mono ?_
                rintro e w5 ⟨rfl, hr5, hg5⟩
                have hR5 := hR4.keep hg5 (by simp; omega)
                have hLb5 := hLb4.keep hg5 (by simp; omega)
                have hrow5 := ownsRow_grown hrow4 hg5 hrb
                have hgw5 := grown_trans hg4 hg5
                clear hR4 hLb4 hrow4 hg4 hr4 hR3 hLb3 hown hgrow hat f0 f1 f2 f3 f4 f5 f6 mf hR2 hLb2 hrow2 hr2 hs3 r0 r1 r2 r3 r4 r5 r6 rf l0 l1 l2 l3 l4 l5 l6 lf hne3
                obtain ⟨⟨r0, r1, r2, r3, r4, r5, r6⟩, rf⟩ := hR5.seven
                obtain ⟨⟨l0, l1, l2, l3, l4, l5, l6⟩, lf⟩ := hLb5.seven
                by_cases h59 : Pl.byteIn s 59 59 d = true
                · have hd59 := (Pl.byteIn_lt h59).1
                  have h6 := HS5.out
                  simp only [Pl.sign, h59, if_true, Prod.mk.injEq] at h6
                  obtain ⟨rfl, rfl⟩ := h6
                  have HN : Hid (Pl.chn s m false (d + 1) (c + 1) = ((O, D), C)) := by have := HCE.out; rw [if_pos h59] at this; exact this.symm
                  clear h59 HCE HS5
                  go_wp2
                  go_roundw
                  case rel => exact ⟨d + 1, c + 1, _, _, _, _, _, _, _, _, _, _, _, by omega, hr5, hR5, hLb5, hrow5, hgw5, by omega, .inl ⟨rfl, m, by omega, HN.out⟩⟩
                  case measure => rw [plc_eq hr5, plc_eq hr]; omega
                · have h59' : Pl.byteIn s 59 59 d = false := eq_false_of_ne_true h59
                  have h6 := HS5.out
                  simp only [Pl.sign, h59', Bool.false_eq_true, if_false, Prod.mk.injEq] at h6
                  obtain ⟨rfl, rfl⟩ := h6
                  have hRv := HCE.out
                  rw [if_neg h59] at hRv
                  simp only [Prod.mk.injEq] at hRv
                  obtain ⟨⟨hO, rfl⟩, _⟩ := hRv
                  have HO : Hid (O = false) := hO
                  clear hO
                  clear h59 h59' HCE HS5
                  go_wp2
                  obtain rfl := HO.out
                  have hc7 := seven_cells (.slice (some ⟨g, 0, none⟩) (c + 1) cap) (.string ⟨#[]⟩) (.slice p2 n2 c2) (.slice p3 n3 c3) (.int .i64 x) (.int .i64 z) (.slice none 0 0) r0 r1 r2 r3 r4 r5 r6 _ rfl
                  refine bodyPost_ret (res19 rfl rfl (hc7)) rfl ⟨_, _, _, _, _, _, _, _, _, _, _, _, _, _, _, rfl, ?_, ?_, ?_⟩
                  · exact (Rd.seven hr5 (by omega) _ _ _ _ _ _ _)
                  · simp
                  · exact (grown_seven hgw5 (Nat.le_refl _) _ _ _ _ _ _ _)
    · clear HC
      obtain ⟨pv, cv, rfl⟩ := slice_of hrow
      have HL : Hid (tl s m a (c + 1) = ((O, D), C)) := hl
      clear hl
      go_wp2
      go_loopw [8] (fun _ wq => ∃ (a2 k : Nat) (vl : Value) (ys : List Value), a2 ≤ s.size ∧ Rd rb s a2 wq ∧ Blk w.heap.size 49 #[.slice none 0 0, .string ⟨#[]⟩, .slice none 0 0, .slice none 0 0, .int .i64 0, .int .i64 0, .slice none 0 0] wq ∧ Blk (w.heap.size + 1) 49 #[.slice pv c cv, .string t, .slice p2 n2 c2, .slice p3 n3 c3, .int .i64 x, .int .i64 z, vl] wq ∧ wq.ownsRow w.heap.size 47 5 vl k ys ∧ w.grownBy wq (some rb) ∧ k ≤ a2 ∧
        Hid (∃ m, s.size < a2 + m ∧ tl s m a2 (c + 1 + k) = ((O, D), C))) (fun _ wq => 200 - plc rb wq)
      case atStart => exact ⟨a, 0, _, [], ha, hr, hR, hLb, World.ownsRow_nil _ _ _ _, hg, by omega, ⟨m, hbm, HL.out⟩⟩
      case round =>
        obtain ⟨a2, k, vl, ys, ha2, hr', hR', hLb', hrow', hg', hka, HC2⟩ := hrel
        obtain ⟨pl, cl, rfl⟩ := slice_of hrow'
        obtain ⟨m2, hbm2, hl2⟩ := HC2.out
        have c0 := hr'.c0
        have c1 := hr'.c1
        clear r0 r1 r2 r3 r4 r5 r6 rf l0 l1 l2 l3 l4 l5 l6 lf hr hR hLb hrow hg HL HC2
        obtain ⟨⟨r0, r1, r2, r3, r4, r5, r6⟩, rf⟩ := hR'.seven
        obtain ⟨⟨l0, l1, l2, l3, l4, l5, l6⟩, lf⟩ := hLb'.seven
        by_cases hend : a2 = s.size
        · have hdN : decide (a2 < s.size) = false := by simp; omega
          have hRv : ((O, D), C) = ((true, a2), c + 1 + k) := by rw [← hl2]; unfold tl; rw [if_pos hend]
          simp only [Prod.mk.injEq] at hRv
          obtain ⟨⟨hO, rfl⟩, rfl⟩ := hRv
          have HO : Hid (O = true) := hO
          clear hO
          clear hend hl2
          go_wp2_with fail
          go_quiet (fail)
          go_wp2
          obtain rfl := HO.out
          have hc7 := seven_cells (X := wr.drewN nq) (.slice pv c cv) (.string t) (.slice p2 n2 c2) (.slice p3 n3 c3) (.int .i64 x) (.int .i64 z) (.slice pl k cl) r0 r1 r2 r3 r4 r5 r6 _ rfl
          refine bodyPost_ret (res19 rfl rfl hc7) rfl ⟨_, _, _, _, _, _, _, _, _, _, _, _, _, _, _, rfl, ?_, fun _ => rfl, ?_⟩
          · exact (Rd.seven (hr'.of_below (below_drewN (Below.refl _ _) _)) (by omega) _ _ _ _ _ _ _)
          · exact (grown_seven (grown_trans hg' (grown_drewN _ _ _)) (Nat.le_refl _) _ _ _ _ _ _ _)
        · have hdl : (a2 : Int) < (s.size : Int) := by omega
          have htl : ((O, D), C) = if Pl.byteIn s 59 59 a2 = true then Pl.chn s m2 true (a2 + 1) (c + 1 + k) else ((false, a2), c + 1 + k) := by rw [← hl2]; unfold tl; rw [if_neg hend]
          have hlt2 : a2 < s.size := by omega
          clear hl2 hend
          by_cases h59 : Pl.byteIn s 59 59 a2 = true
          · rw [if_pos h59] at htl
            have hsg := fun W h => sign_at rb s a2 59 59 rfl W hm ha2 h
            simp only [Pl.sign, h59, if_true] at hsg
            have HSG : Hid (∀ W, Rd rb s a2 W → Calls Try.prog 32 #[.pointer (some ⟨rb, 0, none⟩), .int .u8 59] W fun e w' => e = .returned (.bool true) ∧ Rd rb s (a2 + 1) w' ∧ W.grownBy w' (some rb)) := hsg
            clear hsg h59
            obtain ⟨m2, rfl⟩ : ∃ m', m2 = m' + 1 := ⟨m2 - 1, by omega⟩
            obtain ⟨⟨res, b⟩, hnm⟩ : ∃ r, Pl.nm s (a2 + 1) Pl.lates 0 0 = r := ⟨_, rfl⟩
            have hbf := nm_le s (a2 + 1) (by omega) Pl.lates 0 0 res b (by omega) hnm
            go_wp2_with fail
            go_quiet (fail)
            go_wp2_with fail
            refine (HSG.out _ (hr'.of_below (below_drewN (Below.refl _ _) _))).mono ?_
            rintro e wS ⟨rfl, hrS, hgS⟩
            have hgd := grown_trans (grown_drewN wr nq (some rb)) hgS
            have hRS := hR'.keep hgd (by simp; omega)
            have hLbS := hLb'.keep hgd (by simp; omega)
            have hrowS := ownsRow_grown hrow' hgd hrb
            have hgS2 := grown_trans hg' hgd
            clear c0 c1 hR' hLb' hrow' hg' hgS hgd
            clear r0 r1 r2 r3 r4 r5 r6 rf l0 l1 l2 l3 l4 l5 l6 lf
            obtain ⟨⟨r0, r1, r2, r3, r4, r5, r6⟩, rf⟩ := hRS.seven
            obtain ⟨⟨l0, l1, l2, l3, l4, l5, l6⟩, lf⟩ := hLbS.seven
            go_wp2_with fail
            cases res with
            | none =>
              have hRv : ((O, D), C) = ((false, b), c + 1 + k) := by rw [htl]; exact chn_none s m2 true (a2 + 1) (c + 1 + k) b hnm
              simp only [Prod.mk.injEq] at hRv
              obtain ⟨⟨hO, rfl⟩, _⟩ := hRv
              have HO : Hid (O = false) := hO
              clear hO
              clear htl
              refine (step_late_no rb _ s (a2 + 1) _ hm (by omega) (hrS.al _) (lates_nms wS) D hnm hbf.2).mono ?_
              rintro e w2 ⟨q1, q2, q3, q4, q5, q6, q7, q8, rfl, hr2, hg2⟩
              have hR2 := (hRS.alloc _).keep hg2 (by simp; omega)
              have hLb2 := (hLbS.alloc _).keep hg2 (by simp; omega)
              have hgg := grown_trans (grown_alloc hgS2 _) hg2
              have hsz3 := hLb2.lt
              clear r0 r1 r2 r3 r4 r5 r6 rf l0 l1 l2 l3 l4 l5 l6 lf
              obtain ⟨⟨r0, r1, r2, r3, r4, r5, r6⟩, rf⟩ := hR2.seven
              obtain ⟨⟨l0, l1, l2, l3, l4, l5, l6⟩, lf⟩ := hLb2.seven
              clear r0 r1 r2 r3 r4 r5 r6 rf l0 l1 l2 l3 l4 l5 l6 lf
              obtain ⟨⟨r0, r1, r2, r3, r4, r5, r6⟩, rf⟩ := (hR2.alloc (.cells #[.string ⟨#[]⟩, .slice q1 q2 q3, .slice q4 q5 q6, .int .i64 q7, .int .i64 q8] 47)).seven
              obtain ⟨⟨l0, l1, l2, l3, l4, l5, l6⟩, lf⟩ := (hLb2.alloc (.cells #[.string ⟨#[]⟩, .slice q1 q2 q3, .slice q4 q5 q6, .int .i64 q7, .int .i64 q8] 47)).seven
              go_wp2
              obtain rfl := HO.out
              have hc7 := seven_cells (.slice pv c cv) (.string t) (.slice p2 n2 c2) (.slice p3 n3 c3) (.int .i64 x) (.int .i64 z) (.slice pl k cl) r0 r1 r2 r3 r4 r5 r6 _ rfl
              refine bodyPost_ret (res19 rfl rfl hc7) rfl ⟨_, _, _, _, _, _, _, _, _, _, _, _, _, _, _, rfl, ?_, ?_, ?_⟩
              · exact (Rd.seven (hr2.al _) (by omega) _ _ _ _ _ _ _)
              · simp
              · exact (grown_seven (grown_alloc hgg _) (Nat.le_refl _) _ _ _ _ _ _ _)
            | some i =>
              have hpos := nm_pos s (a2 + 1) Pl.lates 0 0 i b lates_pos hnm
              have hi6 : i < Pl.lates.length := by
                rcases Nat.lt_or_ge i Pl.lates.length with h' | h'
                · exact h'
                · exact absurd hnm (nm_lt s (a2 + 1) Pl.lates 0 0 i b (by omega))
              obtain ⟨⟨o, d⟩, hbd⟩ : ∃ r, Pl.body s (Pl.kindL i) b = r := ⟨_, rfl⟩
              have hdf := body_fits s (Pl.kindL i) b hbf.2
              rw [hbd] at hdf
              have hst := fun W h1 h2 => step_late rb wS.heap.size s (a2 + 1) W hm (by omega) h1 h2 i b hi6 hnm hbf.2 o d hbd
              obtain ⟨y, hy⟩ : ∃ y, Pl.lates[i]'hi6 = y := ⟨_, rfl⟩
              rw [hy] at hst
              have HST : Hid (∀ W, Rd rb s (a2 + 1) W → Nms wS.heap.size Pl.lates W → Calls Try.prog 31 #[.pointer (some ⟨rb, 0, none⟩), .slice (some ⟨wS.heap.size, 0, none⟩) 7 7] W fun e w' => ∃ p1 n1 d1 p2 n2 d2, ∃ x z : Int, e = .returned (.tuple #[.agg #[.string y, .slice p1 n1 d1, .slice p2 n2 d2, .int .i64 x, .int .i64 z], .bool o]) ∧ Rd rb s d w' ∧ W.grownBy w' (some rb)) := hst
              clear hst hy
              refine (HST.out _ (hrS.al _) (lates_nms wS)).mono ?_
              rintro e w2 ⟨q1, q2, q3, q4, q5, q6, q7, q8, rfl, hr2, hg2⟩
              have hR2 := (hRS.alloc _).keep hg2 (by simp; omega)
              have hLb2 := (hLbS.alloc _).keep hg2 (by simp; omega)
              have hrow2 := ownsRow_grown (hrowS.alloc _) hg2 hrb
              have hgg := grown_trans (grown_alloc hgS2 _) hg2
              have hsz2 := hg2.size
              have hsz0 := hgS2.size
              have hsz3 := hLb2.lt
              simp only [World.size_alloc] at hsz2
              clear hRS hLbS hrowS
              clear r0 r1 r2 r3 r4 r5 r6 rf l0 l1 l2 l3 l4 l5 l6 lf
              obtain ⟨⟨r0, r1, r2, r3, r4, r5, r6⟩, rf⟩ := hR2.seven
              obtain ⟨⟨l0, l1, l2, l3, l4, l5, l6⟩, lf⟩ := hLb2.seven
              cases o with
              | false =>
                have hRv : ((O, D), C) = ((false, d), c + 1 + k + 1) := by rw [htl]; exact chn_bad s m2 true (a2 + 1) (c + 1 + k) b i d hnm hbd
                simp only [Prod.mk.injEq] at hRv
                obtain ⟨⟨hO, rfl⟩, _⟩ := hRv
                have HO : Hid (O = false) := hO
                clear hO
                clear htl hbd hnm
                clear r0 r1 r2 r3 r4 r5 r6 rf l0 l1 l2 l3 l4 l5 l6 lf
                obtain ⟨⟨r0, r1, r2, r3, r4, r5, r6⟩, rf⟩ := (hR2.alloc (.cells #[.string y, .slice q1 q2 q3, .slice q4 q5 q6, .int .i64 q7, .int .i64 q8] 47)).seven
                obtain ⟨⟨l0, l1, l2, l3, l4, l5, l6⟩, lf⟩ := (hLb2.alloc (.cells #[.string y, .slice q1 q2 q3, .slice q4 q5 q6, .int .i64 q7, .int .i64 q8] 47)).seven
                go_wp2
                obtain rfl := HO.out
                have hc7 := seven_cells (.slice pv c cv) (.string t) (.slice p2 n2 c2) (.slice p3 n3 c3) (.int .i64 x) (.int .i64 z) (.slice pl k cl) r0 r1 r2 r3 r4 r5 r6 _ rfl
                refine bodyPost_ret (res19 rfl rfl hc7) rfl ⟨_, _, _, _, _, _, _, _, _, _, _, _, _, _, _, rfl, ?_, ?_, ?_⟩
                · exact (Rd.seven (hr2.al _) (by omega) _ _ _ _ _ _ _)
                · simp
                · exact (grown_seven (grown_alloc hgg _) (Nat.le_refl _) _ _ _ _ _ _ _)
              | true =>
                have HN : Hid (tl s m2 d (c + 1 + (k + 1)) = ((O, D), C)) := by rw [htl]; exact (chn_cut s m2 true (a2 + 1) (c + 1 + k) b i d hnm hbd (.inl rfl)).symm
                clear htl hbd hnm
                have HNB : Hid (∀ C, ((w2.alloc C).alloc (.cells #[.string y, .slice q1 q2 q3, .slice q4 q5 q6, .int .i64 q7, .int .i64 q8] 47)).heap[w2.heap.size + 1]? = some (.cells #[.string y, .slice q1 q2 q3, .slice q4 q5 q6, .int .i64 q7, .int .i64 q8] 47 (0, 0))) := fun C => by
                  have := heap_alloc_new (w2.alloc C) (.cells #[.string y, .slice q1 q2 q3, .slice q4 q5 q6, .int .i64 q7, .int .i64 q8] 47)
                  simpa using this
                have hs3 : Rd rb s d (w2.alloc (.cells #[.string y, .slice q1 q2 q3, .slice q4 q5 q6, .int .i64 q7, .int .i64 q8] 47)) := hr2.al _
                go_wp2_with (at_builtin; go_must (refine wpList_append_lies _ (by rfl) _ _ 43 (by rfl) w.heap.size 47 i0 (.agg #[.string ⟨#[]⟩, .slice none 0 0, .slice none 0 0, .int .i64 0, .int .i64 0]) 5 80 Try.underlying43 hi hz0 hz1 hz2 rfl (by decide) _ k ys (by rfl) ((hrow2.alloc _).alloc _) ⟨w2.heap.size + 1, 0, none⟩ 1 1 [.string y, .slice q1 q2 q3, .slice q4 q5 q6, .int .i64 q7, .int .i64 q8] (by rfl) rfl (World.news_of_block (HNB.out _)) (by simp [Value.oneCell']) (by decide) (by unfold maxLen; omega) (by omega) (by simp; omega) (w2.heap.size + 1 + 1) (by simp) ?_); intro g cap w3 hown hgrow hat hlt3; have hne3 := row_ne_blk hrow2 hLb2 (by decide); have hLb3 := ((hLb2.alloc (.cells #[.string y, .slice q1 q2 q3, .slice q4 q5 q6, .int .i64 q7, .int .i64 q8] 47)).alloc (.cells #[.string y, .slice q1 q2 q3, .slice q4 q5 q6, .int .i64 q7, .int .i64 q8] 47)).keep hgrow hne3; have hR3 := ((hR2.alloc (.cells #[.string y, .slice q1 q2 q3, .slice q4 q5 q6, .int .i64 q7, .int .i64 q8] 47)).alloc (.cells #[.string y, .slice q1 q2 q3, .slice q4 q5 q6, .int .i64 q7, .int .i64 q8] 47)).keep hgrow (row_ne_blk hrow2 hR2 (by decide)); obtain ⟨⟨f0, f1, f2, f3, f4, f5, f6⟩, mf⟩ := hLb3.seven)
                have hge : ∀ x, (Value.slice pl k cl).ownBlock = some x → w.heap.size ≤ x := fun x e => (ownBlock_lt hrow2 e).2
                have hr4 := ((hs3.al (.cells #[.string y, .slice q1 q2 q3, .slice q4 q5 q6, .int .i64 q7, .int .i64 q8] 47)).grown hgrow (by intro e; have := hge _ e; omega)).other (b := w.heap.size + 1) (by omega) 6 (Value.slice (some ⟨g, 0, none⟩) (k + 1) cap)
                have hg4 : w.grownBy (w3.setCell ⟨w.heap.size + 1, 6, none⟩ (Value.slice (some ⟨g, 0, none⟩) (k + 1) cap)) (some rb) := grown_set_new (grown_own (grown_alloc (grown_alloc hgg _) _) hgrow hge) (by omega) _ _
                have hrow4 := ownsRow_set_other hown (row_ne_blk hown hLb3 (by decide)) 6 (Value.slice (some ⟨g, 0, none⟩) (k + 1) cap)
                have hLb4 := hLb3.s6 (Value.slice (some ⟨g, 0, none⟩) (k + 1) cap)
                have hR4 := hR3.setO (b2 := w.heap.size + 1) (by omega) 6 (Value.slice (some ⟨g, 0, none⟩) (k + 1) cap)
                go_wp2
                go_roundw
                case rel => exact ⟨d, k + 1, _, _, hdf.2, hr4, hR4, hLb4, hrow4, hg4, by omega, ⟨m2, by omega, HN.out⟩⟩
                case measure => rw [plc_eq hr4, plc_eq hr']; omega
          · rw [if_neg h59] at htl
            simp only [Prod.mk.injEq] at htl
            obtain ⟨⟨hO, rfl⟩, _⟩ := htl
            have HO : Hid (O = false) := hO
            clear hO
            have h59' : Pl.byteIn s 59 59 D = false := eq_false_of_ne_true h59
            have hsg := fun W h => sign_at rb s D 59 59 rfl W hm ha2 h
            simp only [Pl.sign, h59', Bool.false_eq_true, if_false] at hsg
            have HSG : Hid (∀ W, Rd rb s D W → Calls Try.prog 32 #[.pointer (some ⟨rb, 0, none⟩), .int .u8 59] W fun e w' => e = .returned (.bool false) ∧ Rd rb s D w' ∧ W.grownBy w' (some rb)) := hsg
            clear hsg h59 h59'
            go_wp2_with fail
            go_quiet (fail)
            go_wp2_with fail
            refine (HSG.out _ (hr'.of_below (below_drewN (Below.refl _ _) _))).mono ?_
            rintro e wS ⟨rfl, hrS, hgS⟩
            have hgd := grown_trans (grown_drewN wr nq (some rb)) hgS
            have hRS := hR'.keep hgd (by simp; omega)
            have hLbS := hLb'.keep hgd (by simp; omega)
            have hgS2 := grown_trans hg' hgd
            clear c0 c1 hR' hLb' hrow' hg' hgS hgd
            clear r0 r1 r2 r3 r4 r5 r6 rf l0 l1 l2 l3 l4 l5 l6 lf
            obtain ⟨⟨r0, r1, r2, r3, r4, r5, r6⟩, rf⟩ := hRS.seven
            obtain ⟨⟨l0, l1, l2, l3, l4, l5, l6⟩, lf⟩ := hLbS.seven
            go_wp2
            obtain rfl := HO.out
            have hc7 := seven_cells (.slice pv c cv) (.string t) (.slice p2 n2 c2) (.slice p3 n3 c3) (.int .i64 x) (.int .i64 z) (.slice pl k cl) r0 r1 r2 r3 r4 r5 r6 _ rfl
            refine bodyPost_ret (res19 rfl rfl hc7) rfl ⟨_, _, _, _, _, _, _, _, _, _, _, _, _, _, _, rfl, ?_, ?_, ?_⟩
            · exact (Rd.seven hrS (by omega) _ _ _ _ _ _ _)
            · simp
            · exact (grown_seven hgS2 (Nat.le_refl _) _ _ _ _ _ _ _)

end Go.Proofs.Ytcmgclckknpecaa
