import Derived.Test.YtcmgclckknpecaaPli
import Derived.Test.YtcmgclckknpecaaRdm
namespace Go.Proofs.Ytcmgclckknpecaa
open Go.RowKit

theorem info106 : (Try.prog.info? 109).map (fun i => (i.zero, i.size, i.bytes)) = some (some (.agg #[.string ⟨#[]⟩, .string ⟨#[]⟩]), 2, 32) := by kernel_rfl

set_option maxHeartbeats 1000000 in
theorem plist_pairs (pb sb : Nat) (s : ByteArray) (a : Nat) (l t : Value) (w0 w : World) (hm : s.size ≤ 80) (ha : a ≤ s.size) (hg0 : w0.grownBy w (some pb)) (hpb : pb < w0.heap.size) (hsb : w0.heap.size ≤ sb) (h : Pn pb s a (-1) l w)
    (hS : Sb sb t (.slice none 0 0) (.slice none 0 0) (.int .i64 0) (.int .i64 0) w) (o : Bool) (d : Nat) (HR : Hid (Pl.lst s (Pl.pairP s) (s.size + 1) a = (o, d))) :
    Calls Try.prog 35 #[.pointer (some ⟨pb, 0, none⟩), .pointer (some ⟨sb, 0, none⟩), .bool true] w fun e w' => e = .returned (.tuple #[]) ∧ Pn pb s d (badOf o d) l w' ∧ w0.grownBy w' (some pb) ∧ ∃ p n c, Sb sb t (.slice none 0 0) (.slice p n c) (.int .i64 0) (.int .i64 0) w' := by
  obtain ⟨i0, hi, hz0, hz1, hz2⟩ := info_parts info106
  go_enter Try.func35, Try.ntmps35
  go_wp2
  go_loopw [6, 7, 8] (fun ag _ _ wr => ∃ (g ok : Bool) (b n : Nat) (xs : List Value) (v : Value), ag = .bool g ∧ b ≤ s.size ∧ Pn pb s b (badOf ok b) l wr ∧ w0.grownBy wr (some pb) ∧ Sb sb t (.slice none 0 0) v (.int .i64 0) (.int .i64 0) wr ∧ wr.ownsRow w0.heap.size 109 2 v n xs ∧
    Hid ((g = true ∧ ok = true ∧ n ≤ b ∧ ∃ m, s.size < b + m ∧ Pl.lst s (Pl.pairP s) m b = (o, d)) ∨ (g = false ∧ Pl.thenP (ok, b) (Pl.sign s 41) = (o, d)))) (fun ag _ _ wr => 2 * (200 - pplc pb wr) + agN ag)
  case atStart => exact ⟨true, true, a, 0, [], _, rfl, ha, h, hg0, hS, World.ownsRow_nil _ _ _ _, .inl ⟨rfl, rfl, by omega, s.size + 1, by omega, HR.out⟩⟩
  case round =>
    obtain ⟨g, ok, b, n, xs, v, rfl, hb, hp, hg, hs, hrow, HC⟩ := hrel
    rcases HC.out with ⟨rfl, rfl, hnb, m, hbm, hl⟩ | ⟨rfl, hfin⟩
    · obtain ⟨m, rfl⟩ : ∃ m', m = m' + 1 := ⟨m - 1, by omega⟩
      obtain ⟨⟨oa, ca⟩, hwa⟩ : ∃ r, Pl.word s b = r := ⟨_, rfl⟩
      have hfa := Pl.word_fits s b hb
      rw [hwa] at hfa
      obtain ⟨⟨ob, cb⟩, hwb⟩ : ∃ r, Pl.thenP (oa, ca) (Pl.sign s 61) = r := ⟨_, rfl⟩
      have hfb := Pl.thenP_fits (r := (oa, ca)) hfa (Pl.sign_fits s 61)
      rw [hwb] at hfb
      obtain ⟨⟨o1, c1⟩, hwc⟩ : ∃ r, Pl.thenP (ob, cb) (Pl.word s) = r := ⟨_, rfl⟩
      have hwf := Pl.thenP_fits (r := (ob, cb)) hfb (Pl.word_fits s)
      rw [hwc] at hwf
      have hw : Pl.pairP s b = (o1, c1) := by rw [← pair_assoc, hwa, hwb, hwc]
      have HWA : Hid (Pl.thenP (true, b) (Pl.word s) = (oa, ca)) := hwa
      have HWB : Hid (Pl.thenP (oa, ca) (Pl.sign s 61) = (ob, cb)) := hwb
      have HWC : Hid (Pl.thenP (ob, cb) (Pl.word s) = (o1, c1)) := hwc
      obtain ⟨q, hq⟩ : ∃ q, (o1 && Pl.byteIn s 44 44 c1) = q := ⟨_, rfl⟩
      have HQ : Hid ((o1 && Pl.byteIn s 44 44 c1) = q) := hq
      have HWL : Hid (Pl.pairP s b = (o1, c1)) := hw
      have HL : Hid (Pl.lst s (Pl.pairP s) (m + 1) b = (o, d)) := hl
      have hsz := hg.size
      clear hq hw hl HC hwa hwb hwc
      go_wp2_with fail
      refine (letters_st pb s true b l _ hm hb hp oa ca HWA.out).mono ?_
      rintro e wA ⟨t1, rfl, hpA, hgA⟩
      go_wp2_with fail
      refine (take_st pb s oa ca 61 61 rfl l _ hm hfa.2 hpA ob cb HWB.out).mono ?_
      rintro e wB ⟨rfl, hpB, hgB⟩
      go_wp2_with fail
      refine (letters_st pb s ob cb l _ hm hfb.2 hpB o1 c1 HWC.out).mono ?_
      rintro e w1 ⟨t2, rfl, hp1, hgC⟩
      have hg1 := grown_trans hgA (grown_trans hgB hgC)
      clear hpA hpB hgA hgB hgC
      have hs1 := hs.keep hg1 (by simp; omega)
      have hrow1 := ownsRow_grown hrow hg1 hpb
      obtain ⟨k0, k1, k2, k3, k4, kf⟩ := hs1.cell
      have hz1' := hg1.size
      go_wp2_with (at_builtin; go_must (refine wpList_append_lies _ (by rfl) _ _ 85 (by rfl) w0.heap.size 109 i0 (.agg #[.string ⟨#[]⟩, .string ⟨#[]⟩]) 2 32 Try.underlying85 hi hz0 hz1 hz2 rfl (by decide) _ n xs (by rfl) (hrow1.alloc _) ⟨w1.heap.size, 0, none⟩ 1 1 [.string t1, .string t2] (by rfl) rfl (World.news_of_block (heap_alloc_new w1 _)) (by simp [Value.oneCell']) (by decide) (by unfold maxLen; omega) (by omega) (by simp; omega) (w1.heap.size + 1) (by simp) ?_); intro g2 cap w2 hown hgrow hat hlt2; have hne2 := row_ne_sb hrow1 hs1 (by decide); have hs2 := (hs1.keep (World.grownBy_alloc w1 _ none) (by simp)).keep hgrow hne2; obtain ⟨j0, j1, j2, j3, j4, jf⟩ := hs2.cell)
      have hge2 : ∀ x, v.ownBlock = some x → w0.heap.size ≤ x := fun x e => (ownBlock_lt hrow1 e).2
      have hp2 := ((hp1.grown (World.grownBy_alloc w1 (.cells #[.string t1, .string t2] 109) none) (by simp)).grown hgrow (by intro e; have := hge2 _ e; omega)).other (b := sb) (by omega) 2 (Value.slice (some ⟨g2, 0, none⟩) (n + 1) cap)
      have hg2 : w0.grownBy (w2.setCell ⟨sb, 2, none⟩ (Value.slice (some ⟨g2, 0, none⟩) (n + 1) cap)) (some pb) := grown_set_new (grown_own (grown_alloc (grown_trans hg hg1) _) hgrow hge2) hsb _ _
      have hrow2 := ownsRow_set_other hown (row_ne_sb hown hs2 (by decide)) 2 (Value.slice (some ⟨g2, 0, none⟩) (n + 1) cap)
      have hs2' := hs2.set2 (Value.slice (some ⟨g2, 0, none⟩) (n + 1) cap)
      refine (on_st pb s o1 c1 44 44 rfl l _ hm hwf.2 hp2 q HQ.out).mono ?_
      rintro e w3 ⟨rfl, hp3, hg3⟩
      have hs3 := hs2'.keep hg3 (by simp; omega)
      have hrow3 := ownsRow_grown hrow2 hg3 hpb
      have hg03 := grown_trans hg2 hg3
      clear hs2 hs1 hs hs2' hrow2 hrow1 hrow hown hgrow hp2 hp1 hg1 hg3 hg2 j0 j1 j2 j3 j4 jf k0 k1 k2 k3 k4 kf hne2 hat
      cases q with
      | true =>
        obtain ⟨rfl, hcs, hl2⟩ := lst_more s m b o1 c1 _ _ HWL.out HL.out HQ.out
        have hbc := pair_one hb HWL.out
        have HL2 : Hid (Pl.lst s (Pl.pairP s) m (c1 + 1) = (o, d)) := hl2
        have f1 := hp3.c1
        have ff := hp3.fz
        clear hl2
        go_wp2
        go_roundw
        case rel =>
          have e1 : ((c1 + 1 : Nat) : Int) = (c1 : Int) + 1 := by omega
          refine ⟨true, true, c1 + 1, n + 1, _, _, rfl, by omega, ?_, grown_trans hg03 (grown_set _ _ _ _), hs3.keep (grown_set _ _ _ _) (by simp; omega), ownsRow_grown hrow3 (grown_set _ _ _ _) hpb, .inl ⟨rfl, rfl, by omega, m, by omega, HL2.out⟩⟩
          rw [← e1]; exact hp3.set1 _
        case measure =>
          have e1 : ((c1 + 1 : Nat) : Int) = (c1 : Int) + 1 := by omega
          rw [← e1, pplc_eq (hp3.set1 (c1 + 1)), pplc_eq hp]; simp [agN]; omega
      | false =>
        have HF : Hid (Pl.thenP (o1, c1) (Pl.sign s 41) = (o, d)) := thenP_sign s m b o1 c1 _ _ HWL.out HL.out HQ.out
        go_wp2
        go_roundw
        case rel => exact ⟨false, o1, c1, n + 1, _, _, rfl, hwf.2, hp3, hg03, hs3, hrow3, .inr ⟨rfl, HF.out⟩⟩
        case measure => rw [pplc_eq hp3, pplc_eq hp]; simp [agN]; omega
    · have HF : Hid (Pl.thenP (ok, b) (Pl.sign s 41) = (o, d)) := hfin
      clear HC hfin
      go_wp2_with fail
      refine (take_st pb s ok b 41 41 rfl l _ hm hb hp o d HF.out).mono ?_
      rintro e w1 ⟨rfl, hp1, hg1⟩
      go_wp2
      go_end0
      obtain ⟨p', n', c', hv⟩ : ∃ p' n' c', v = .slice p' n' c' := by
        rcases hrow.2 with ⟨h, _⟩ | ⟨g', cap, _, h, _⟩
        · exact ⟨_, _, _, h⟩
        · exact ⟨_, _, _, h⟩
      refine ⟨rfl, hp1, grown_trans hg hg1, p', n', c', ?_⟩
      rw [← hv]; exact hs.keep hg1 (by simp; omega)

end Go.Proofs.Ytcmgclckknpecaa
