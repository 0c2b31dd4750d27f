import Derived.Test.YtcmgclckknpecaaGreatDoorGra
import Derived.Test.YtcmgclckknpecaaGreatDoorHgd
import Derived.Deep.RegionLaw
import Derived.BigRegion
import Derived.Test.YtcmgclckknpecaaGreatDoorGrd
import Derived.Lib.Strings

namespace Go.Proofs.YtcmgclckknpecaaGreatDoor
open Go.RowKit

theorem info106 : (Tryz.prog.info? 287).map (fun i => (i.zero, i.size, i.bytes)) = some (some (.agg #[.string ⟨#[]⟩, .string ⟨#[]⟩]), 2, 32) := by kernel_rfl

set_option maxHeartbeats 1000000 in
theorem plist_pairs (pb sb : Nat) (s : ByteArray) (a : Nat) (l t : Value) (w0 w : World) (hm : s.size ≤ 80) (ha : a ≤ s.size) (hg0 : w0.grownBy w (some pb)) (hpb : pb < w0.heap.size) (hsb : w0.heap.size ≤ sb) (h : Pn pb s a (-1) l w)
    (hS : Sb sb t (.slice none 0 0) (.slice none 0 0) (.int .i64 0) (.int .i64 0) w) (o : Bool) (d : Nat) (HR : Hid (Pl.lst s (Pl.pairP s) (s.size + 1) a = (o, d))) :
    Calls Tryz.prog 133 #[.pointer (some ⟨pb, 0, none⟩), .pointer (some ⟨sb, 0, none⟩), .bool true] w fun e w' => e = .returned (.tuple #[]) ∧ Pn pb s d (badOf o d) l w' ∧ w0.grownBy w' (some pb) ∧ ∃ p n c, Sb sb t (.slice none 0 0) (.slice p n c) (.int .i64 0) (.int .i64 0) w' := by
  obtain ⟨i0, hi, hz0, hz1, hz2⟩ := info_parts info106
  go_enter Tryz.func133, Tryz.ntmps133
  go_wp2
  go_loopw [6, 7, 8] (fun ag _ _ wr => ∃ (g ok : Bool) (b n : Nat) (xs : List Value) (v : Value), ag = .bool g ∧ b ≤ s.size ∧ Pn pb s b (badOf ok b) l wr ∧ w0.grownBy wr (some pb) ∧ Sb sb t (.slice none 0 0) v (.int .i64 0) (.int .i64 0) wr ∧ wr.ownsRow w0.heap.size 287 2 v n xs ∧
    Hid ((g = true ∧ ok = true ∧ n ≤ b ∧ ∃ m, s.size < b + m ∧ Pl.lst s (Pl.pairP s) m b = (o, d)) ∨ (g = false ∧ Pl.thenP (ok, b) (Pl.sign s 41) = (o, d)))) (fun ag _ _ wr => 2 * (200 - pplc pb wr) + agN ag)
  case atStart => exact ⟨true, true, a, 0, [], _, rfl, ha, h, hg0, hS, World.ownsRow_nil _ _ _ _, .inl ⟨rfl, rfl, by omega, s.size + 1, by omega, HR.out⟩⟩
  case round =>
    obtain ⟨g, ok, b, n, xs, v, rfl, hb, hp, hg, hs, hrow, HC⟩ := hrel
    rcases HC.out with ⟨rfl, rfl, hnb, m, hbm, hl⟩ | ⟨rfl, hfin⟩
    · obtain ⟨m, rfl⟩ : ∃ m', m = m' + 1 := ⟨m - 1, by omega⟩
      obtain ⟨⟨oa, ca⟩, hwa⟩ : ∃ r, Pl.word s b = r := ⟨_, rfl⟩
      have hfa := Pl.word_fits s b hb
      rw [hwa] at hfa
      obtain ⟨⟨ob, cb⟩, hwb⟩ : ∃ r, Pl.thenP (oa, ca) (Pl.sign s 61) = r := ⟨_, rfl⟩
      have hfb := Pl.thenP_fits (r := (oa, ca)) hfa (Pl.sign_fits s 61)
      rw [hwb] at hfb
      obtain ⟨⟨o1, c1⟩, hwc⟩ : ∃ r, Pl.thenP (ob, cb) (Pl.word s) = r := ⟨_, rfl⟩
      have hwf := Pl.thenP_fits (r := (ob, cb)) hfb (Pl.word_fits s)
      rw [hwc] at hwf
      have hw : Pl.pairP s b = (o1, c1) := by rw [← pair_assoc, hwa, hwb, hwc]
      have HWA : Hid (Pl.thenP (true, b) (Pl.word s) = (oa, ca)) := hwa
      have HWB : Hid (Pl.thenP (oa, ca) (Pl.sign s 61) = (ob, cb)) := hwb
      have HWC : Hid (Pl.thenP (ob, cb) (Pl.word s) = (o1, c1)) := hwc
      obtain ⟨q, hq⟩ : ∃ q, (o1 && Pl.byteIn s 44 44 c1) = q := ⟨_, rfl⟩
      have HQ : Hid ((o1 && Pl.byteIn s 44 44 c1) = q) := hq
      have HWL : Hid (Pl.pairP s b = (o1, c1)) := hw
      have HL : Hid (Pl.lst s (Pl.pairP s) (m + 1) b = (o, d)) := hl
      have hsz := hg.size
      clear hq hw hl HC hwa hwb hwc
      go_wp2_with fail
      refine (letters_st pb s true b l _ hm hb hp oa ca HWA.out).mono ?_
      rintro e wA ⟨t1, rfl, hpA, hgA⟩
      go_wp2_with fail
      refine (take_st pb s oa ca 61 61 rfl l _ hm hfa.2 hpA ob cb HWB.out).mono ?_
      rintro e wB ⟨rfl, hpB, hgB⟩
      go_wp2_with fail
      refine (letters_st pb s ob cb l _ hm hfb.2 hpB o1 c1 HWC.out).mono ?_
      rintro e w1 ⟨t2, rfl, hp1, hgC⟩
      have hg1 := grown_trans hgA (grown_trans hgB hgC)
      clear hpA hpB hgA hgB hgC
      have hs1 := hs.keep hg1 (by simp; omega)
      have hrow1 := ownsRow_grown hrow hg1 hpb
      obtain ⟨k0, k1, k2, k3, k4, kf⟩ := hs1.cell
      have hz1' := hg1.size
      go_wp2_with (at_builtin; go_must (refine wpList_append_lies _ (by rfl) _ _ 205 (by rfl) w0.heap.size 287 i0 (.agg #[.string ⟨#[]⟩, .string ⟨#[]⟩]) 2 32 Tryz.underlying205 hi hz0 hz1 hz2 rfl (by decide) _ n xs (by rfl) (hrow1.alloc _) ⟨w1.heap.size, 0, none⟩ 1 1 [.string t1, .string t2] (by rfl) rfl (World.news_of_block (heap_alloc_new w1 _)) (by simp [Value.oneCell']) (by decide) (by unfold maxLen; omega) (by omega) (by simp; omega) (w1.heap.size + 1) (by simp) ?_); intro g2 cap w2 hown hgrow hat hlt2; have hne2 := row_ne_sb hrow1 hs1 (by decide); have hs2 := (hs1.keep (World.grownBy_alloc w1 _ none) (by simp)).keep hgrow hne2; obtain ⟨j0, j1, j2, j3, j4, jf⟩ := hs2.cell)
      have hge2 : ∀ x, v.ownBlock = some x → w0.heap.size ≤ x := fun x e => (ownBlock_lt hrow1 e).2
      have hp2 := ((hp1.grown (World.grownBy_alloc w1 (.cells #[.string t1, .string t2] 287) none) (by simp)).grown hgrow (by intro e; have := hge2 _ e; omega)).other (b := sb) (by omega) 2 (Value.slice (some ⟨g2, 0, none⟩) (n + 1) cap)
      have hg2 : w0.grownBy (w2.setCell ⟨sb, 2, none⟩ (Value.slice (some ⟨g2, 0, none⟩) (n + 1) cap)) (some pb) := grown_set_new (grown_own (grown_alloc (grown_trans hg hg1) _) hgrow hge2) hsb _ _
      have hrow2 := ownsRow_set_other hown (row_ne_sb hown hs2 (by decide)) 2 (Value.slice (some ⟨g2, 0, none⟩) (n + 1) cap)
      have hs2' := hs2.set2 (Value.slice (some ⟨g2, 0, none⟩) (n + 1) cap)
      refine (on_st pb s o1 c1 44 44 rfl l _ hm hwf.2 hp2 q HQ.out).mono ?_
      rintro e w3 ⟨rfl, hp3, hg3⟩
      have hs3 := hs2'.keep hg3 (by simp; omega)
      have hrow3 := ownsRow_grown hrow2 hg3 hpb
      have hg03 := grown_trans hg2 hg3
      clear hs2 hs1 hs hs2' hrow2 hrow1 hrow hown hgrow hp2 hp1 hg1 hg3 hg2 j0 j1 j2 j3 j4 jf k0 k1 k2 k3 k4 kf hne2 hat
      cases q with
      | true =>
        obtain ⟨rfl, hcs, hl2⟩ := lst_more s m b o1 c1 _ _ HWL.out HL.out HQ.out
        have hbc := pair_one hb HWL.out
        have HL2 : Hid (Pl.lst s (Pl.pairP s) m (c1 + 1) = (o, d)) := hl2
        have f1 := hp3.c1
        have ff := hp3.fz
        clear hl2
        go_wp2
        go_roundw
        case rel =>
          have e1 : ((c1 + 1 : Nat) : Int) = (c1 : Int) + 1 := by omega
          refine ⟨true, true, c1 + 1, n + 1, _, _, rfl, by omega, ?_, grown_trans hg03 (grown_set _ _ _ _), hs3.keep (grown_set _ _ _ _) (by simp; omega), ownsRow_grown hrow3 (grown_set _ _ _ _) hpb, .inl ⟨rfl, rfl, by omega, m, by omega, HL2.out⟩⟩
          rw [← e1]; exact hp3.set1 _
        case measure =>
          have e1 : ((c1 + 1 : Nat) : Int) = (c1 : Int) + 1 := by omega
          rw [← e1, pplc_eq (hp3.set1 (c1 + 1)), pplc_eq hp]; simp [agN]; omega
      | false =>
        have HF : Hid (Pl.thenP (o1, c1) (Pl.sign s 41) = (o, d)) := thenP_sign s m b o1 c1 _ _ HWL.out HL.out HQ.out
        go_wp2
        go_roundw
        case rel => exact ⟨false, o1, c1, n + 1, _, _, rfl, hwf.2, hp3, hg03, hs3, hrow3, .inr ⟨rfl, HF.out⟩⟩
        case measure => rw [pplc_eq hp3, pplc_eq hp]; simp [agN]; omega
    · have HF : Hid (Pl.thenP (ok, b) (Pl.sign s 41) = (o, d)) := hfin
      clear HC hfin
      go_wp2_with fail
      refine (take_st pb s ok b 41 41 rfl l _ hm hb hp o d HF.out).mono ?_
      rintro e w1 ⟨rfl, hp1, hg1⟩
      go_wp2
      go_end0
      obtain ⟨p', n', c', hv⟩ : ∃ p' n' c', v = .slice p' n' c' := by
        rcases hrow.2 with ⟨h, _⟩ | ⟨g', cap, _, h, _⟩
        · exact ⟨_, _, _, h⟩
        · exact ⟨_, _, _, h⟩
      refine ⟨rfl, hp1, grown_trans hg hg1, p', n', c', ?_⟩
      rw [← hv]; exact hs.keep hg1 (by simp; omega)

end Go.Proofs.YtcmgclckknpecaaGreatDoor

namespace Go.Proofs.YtcmgclckknpecaaGreatDoor
open Go.RowKit

def dig (s : ByteArray) (least a : Nat) : Bool × Nat := if Pl.byteIn s (48 + least) 57 a = true then (true, a + 1) else (false, a)
theorem dig_fits (s : ByteArray) (least : Nat) : Pl.Fits s (dig s least) := fun a ha => by
  unfold dig; split
  · have := Pl.byteIn_lt (by assumption); simp; omega
  · simp; omega

set_option maxHeartbeats 400000 in
theorem digit_old (pb : Nat) (s : ByteArray) (a least : Nat) (bad : Int) (hb : 0 ≤ bad) (l : Value) (w : World) (h : Pn pb s a bad l w) :
    Calls Tryz.prog 134 #[.pointer (some ⟨pb, 0, none⟩), .int .i64 (least : Int)] w fun e w' => e = .returned (.int .i64 (least : Int)) ∧ Pn pb s a bad l w' ∧ w.grownBy w' (some pb) := by
  have c0 := h.c0
  have c1 := h.c1
  have c2 := h.c2
  have hd : decide (0 ≤ bad) = true := by simp; omega
  go_enter Tryz.func134, Tryz.ntmps134
  go_wp2_with fail
  go_quiet (fail)
  go_wp2_with fail
  refine (fail_old pb s a bad hb l _ (h.drewN _)).mono ?_
  rintro e w2 ⟨rfl, hr2, hg2⟩
  go_wp2
  go_ret
  exact ⟨rfl, hr2, grown_trans (grown_drewN _ _ _) hg2⟩

set_option maxHeartbeats 400000 in
theorem digit_new (pb : Nat) (s : ByteArray) (a least : Nat) (l : Value) (w : World) (hl9 : least ≤ 9) (ha : a ≤ s.size) (hm : s.size ≤ 80) (h : Pn pb s a (-1) l w) (o : Bool) (b : Nat) (hr : dig s least a = (o, b)) :
    Calls Tryz.prog 134 #[.pointer (some ⟨pb, 0, none⟩), .int .i64 (least : Int)] w fun e w' => ∃ v : Nat, e = .returned (.int .i64 (v : Int)) ∧ (o = true → 48 + v = Pl.bt s a) ∧ v ≤ 9 ∧ Pn pb s b (badOf o b) l w' ∧ w.grownBy w' (some pb) := by
  have c0 := h.c0
  have c1 := h.c1
  have c2 := h.c2
  have fz := h.fz
  by_cases hlt : a < s.size
  · have hlt' : (a : Int) < (s.size : Int) := by omega
    have hge : decide (s.size ≤ a) = false := by simp; omega
    have hbe := Pl.bt_eq hlt
    have hb8 := UInt8.toNat_lt s[a]
    by_cases h9 : 57 < s[a].toNat
    · have h9' : decide ((57 : Int) < (s[a].toNat : Int)) = true := by simp; omega
      have hn : Pl.byteIn s (48 + least) 57 a = false := Pl.byteIn_no (by omega)
      simp only [dig, hn, Bool.false_eq_true, if_false, Prod.mk.injEq] at hr
      obtain ⟨rfl, rfl⟩ := hr
      clear hn hbe
      go_enter Tryz.func134, Tryz.ntmps134
      go_wp2_with fail
      go_quiet (fail)
      go_wp2_with fail
      refine (fail_new pb s a l _ (h.drewN _)).mono ?_
      rintro e w2 ⟨rfl, hr2, hg2⟩
      go_wp2
      go_ret
      exact ⟨least, rfl, by simp, hl9, hr2, grown_trans (grown_drewN _ _ _) hg2⟩
    · have h9' : decide ((57 : Int) < (s[a].toNat : Int)) = false := by simp; omega
      by_cases hlo : s[a].toNat < 48 + least
      · have hlo' : decide ((s[a].toNat : Int) - 48 < (least : Int)) = true := by simp; omega
        have hlo2 : (s[a].toNat : Int) - 48 < (least : Int) := by omega
        have hn : Pl.byteIn s (48 + least) 57 a = false := Pl.byteIn_no (by omega)
        simp only [dig, hn, Bool.false_eq_true, if_false, Prod.mk.injEq] at hr
        obtain ⟨rfl, rfl⟩ := hr
        have hw2 : IntKind.i64.wrap ((s[a].toNat : Int) - 48) = (s[a].toNat : Int) - 48 := by rw [IntKind.wrap_i64]; omega
        clear hn hbe
        go_enter Tryz.func134, Tryz.ntmps134
        go_wp2_with fail
        go_quiet (fail)
        go_wp2_with fail
        refine (fail_new pb s a l _ (h.drewN _)).mono ?_
        rintro e w2 ⟨rfl, hr2, hg2⟩
        go_wp2
        go_ret
        exact ⟨least, rfl, by simp, hl9, hr2, grown_trans (grown_drewN _ _ _) hg2⟩
      · have hlo2 : ¬ (s[a].toNat : Int) - 48 < (least : Int) := by omega
        have hy : Pl.byteIn s (48 + least) 57 a = true := Pl.byteIn_mk (by omega)
        simp only [dig, hy, if_true, Prod.mk.injEq] at hr
        obtain ⟨rfl, rfl⟩ := hr
        have HBE : Hid (Pl.bt s a = s[a].toNat) := hbe
        have hlo' : (48 : Int) ≤ (s[a].toNat : Int) := by omega
        have hw2 : IntKind.i64.wrap ((s[a].toNat : Int) - 48) = (s[a].toNat : Int) - 48 := by rw [IntKind.wrap_i64]; omega
        clear hy hbe
        go_enter Tryz.func134, Tryz.ntmps134
        go_wp2_with fail
        go_quiet (fail)
        go_wp2
        go_quiet (fail)
        go_wp2
        go_ret
        have e1 : ((a + 1 : Nat) : Int) = (a : Int) + 1 := by omega
        refine ⟨s[a].toNat - 48, ret_int (by omega), fun _ => by rw [HBE.out]; omega, by omega, ?_, grown_trans (grown_trans (grown_drewN _ _ _) (grown_set _ _ _ _)) (grown_drewN _ _ _)⟩
        rw [← e1]; exact ((h.drewN _).set1 _).drewN _
  · have hge : decide (s.size ≤ a) = true := by simp; omega
    have hn : Pl.byteIn s (48 + least) 57 a = false := Pl.byteIn_no (by omega)
    simp only [dig, hn, Bool.false_eq_true, if_false, Prod.mk.injEq] at hr
    obtain ⟨rfl, rfl⟩ := hr
    clear hn
    go_enter Tryz.func134, Tryz.ntmps134
    go_wp2_with fail
    go_quiet (fail)
    go_wp2_with fail
    refine (fail_new pb s a l _ (h.drewN _)).mono ?_
    rintro e w2 ⟨rfl, hr2, hg2⟩
    go_wp2
    go_ret
    exact ⟨least, rfl, by simp, hl9, hr2, grown_trans (grown_drewN _ _ _) hg2⟩

theorem digit_st (pb : Nat) (s : ByteArray) (ok : Bool) (a least : Nat) (li : Int) (hli : li = (least : Int)) (l : Value) (w : World) (hl9 : least ≤ 9) (ha : a ≤ s.size) (hm : s.size ≤ 80) (h : Pn pb s a (badOf ok a) l w) (o : Bool) (b : Nat) (hr : Pl.thenP (ok, a) (dig s least) = (o, b)) :
    Calls Tryz.prog 134 #[.pointer (some ⟨pb, 0, none⟩), .int .i64 li] w fun e w' => ∃ v : Nat, e = .returned (.int .i64 (v : Int)) ∧ (o = true → 48 + v = Pl.bt s a) ∧ v ≤ 9 ∧ Pn pb s b (badOf o b) l w' ∧ w.grownBy w' (some pb) := by
  subst hli
  cases ok with
  | true => exact digit_new pb s a least l w hl9 ha hm h o b hr
  | false =>
    simp only [Pl.thenP, Bool.false_eq_true, if_false, Prod.mk.injEq] at hr
    obtain ⟨rfl, rfl⟩ := hr
    exact (digit_old pb s a least _ (by rw [badOf_false]; omega) l w h).mono fun e w' ⟨he, hp, hg⟩ => ⟨least, he, by simp, hl9, hp, hg⟩

end Go.Proofs.YtcmgclckknpecaaGreatDoor

namespace Go.Proofs.YtcmgclckknpecaaGreatDoor
open Go.RowKit

theorem info85 : (Tryz.prog.info? 207).map (fun i => (i.zero, i.size, i.bytes)) = some (some (.agg #[.string ⟨#[]⟩, .slice none 0 0, .slice none 0 0, .int .i64 0, .int .i64 0]), 5, 80) := by kernel_rfl
theorem Pn.set3 {pb : Nat} {s : ByteArray} {a : Nat} {bad : Int} {l : Value} {w : World} (h : Pn pb s a bad l w) (b : Value) : Pn pb s a bad b (w.setCell ⟨pb, 3, none⟩ b) :=
  ⟨(World.cell?_setCell_other _ _ _ _ (by simp)).trans h.c0, (World.cell?_setCell_other _ _ _ _ (by simp)).trans h.c1, (World.cell?_setCell_other _ _ _ _ (by simp)).trans h.c2, World.cell?_setCell_same _ _ _ h.c3, fun o => (World.frozen?_setCell _ _ _ _).trans (h.fz o), by simpa using h.lt⟩
theorem own_ne {v : Value} {g n c H pb : Nat} (hat : v.ownBlock = some g ∨ g = H) (hv : v.ownBlock ≠ some pb) (hH : pb < H) : (Value.slice (some ⟨g, 0, none⟩) n c).ownBlock ≠ some pb := by
  simp only [Value.ownBlock, ne_eq, Option.some.injEq]
  rintro rfl
  rcases hat with h | h
  · exact hv h
  · omega
theorem below_of_grown {B : Nat} {A C : World} {pb : Nat} (h : A.grownBy C (some pb)) (hb : B ≤ pb) (hB : B ≤ A.heap.size) : Below B A C :=
  ⟨h.os, h.tape, h.output, h.size, fun k hk => h.block k (by omega) (by intro e; cases e; omega)⟩
theorem ownsRow_grown' {A B : World} {base : Nat} {e : TypeId} {size : Nat} {v : Value} {n : Nat} {xs : List Value} {rb : Nat} (h : A.ownsRow base e size v n xs) (hg : A.grownBy B (some rb)) (hb : v.ownBlock ≠ some rb) : B.ownsRow base e size v n xs := by
  refine ⟨h.1, ?_⟩
  rcases h.2 with h | ⟨g, cap, cur, rfl, hg2, hh, r⟩
  · exact .inl h
  · exact .inr ⟨g, cap, cur, rfl, hg2, (hg.block g (Array.getElem?_eq_some_iff.1 hh).1 (fun e => hb (by simp [Value.ownBlock, e]))).trans hh, r⟩

set_option maxRecDepth 100000 in
set_option maxHeartbeats 1000000 in
theorem stage_k0 (pb B0 : Nat) (s : ByteArray) (a : Nat) (y : ByteArray) (m : Nat) (hy : y.size = m + 1) (hm8 : m ≤ 8) (lv : Value) (n : Nat) (xs : List Value) (w : World) (hBp : B0 ≤ pb) (h : Pn pb s a (-1) lv w) (hL : w.ownsRow B0 207 5 lv n xs) (hLp : lv.ownBlock ≠ some pb) (hn : n ≤ 80) (hl : ((y[m].toNat : Int) == 40) = false) :
    Calls Tryz.prog 72 #[.pointer (some ⟨pb, 0, none⟩), .string y] w fun e w' => e = .returned (.tuple #[]) ∧ ∃ lv' xs', Pn pb s a (-1) lv' w' ∧ w'.ownsRow B0 207 5 lv' (n + 1) xs' ∧ lv'.ownBlock ≠ some pb ∧ Below B0 w w' := by
  obtain ⟨i0, hi, hz0, hz1, hz2⟩ := info_parts info85
  have hpl := h.lt
  go_enter Tryz.func72, Tryz.ntmps72
  go_wp2_with fail
  have hneS : lv.ownBlock ≠ some w.heap.size := fun e => by have := (ownBlock_lt hL e).1; omega
  have hgW : w.grownBy (w.alloc (.cells #[.string y, .slice none 0 0, .slice none 0 0, .int .i64 0, .int .i64 0] 207)) (some pb) := World.grownBy_alloc _ _ _
  have hpW : Pn pb s a (-1) lv (w.alloc (.cells #[.string y, .slice none 0 0, .slice none 0 0, .int .i64 0, .int .i64 0] 207)) := h.of_below ((Below.refl _ w).alloc (Nat.le_refl _) _)
  have hsW : Sb w.heap.size (.string y) (.slice none 0 0) (.slice none 0 0) (.int .i64 0) (.int .i64 0) (w.alloc (.cells #[.string y, .slice none 0 0, .slice none 0 0, .int .i64 0, .int .i64 0] 207)) := heap_alloc_new w _
  have hLW := hL.alloc (.cells #[.string y, .slice none 0 0, .slice none 0 0, .int .i64 0, .int .i64 0] 207)
  obtain ⟨W1, hW1⟩ : ∃ W1, w.alloc (.cells #[.string y, .slice none 0 0, .slice none 0 0, .int .i64 0, .int .i64 0] 207) = W1 := ⟨_, rfl⟩
  rw [hW1] at hgW hpW hsW hLW ⊢
  clear hW1
  have t3 := hpW.c3
  have tf := hpW.fz
  obtain ⟨k0, k1, k2, k3, k4, kf⟩ := hsW.cell
  have hlp := hpW.lt
  have hls := hsW.lt
  have hzw := hgW.size
  have HKS : Hid (∀ o, (W1).frozen? ⟨w.heap.size, o, none⟩ = false) := kf
  clear kf
  go_wp2_with fail
  go_region_law
    ((refine step_append_lies _ (by rfl) _ _ _ (by rfl) B0 207 i0 _ 5 80 Tryz.underlying122 hi hz0 hz1 hz2 rfl (by omega) lv n xs (by rfl) ((hLW.alloc _).drew) ⟨(W1).heap.size, 0, none⟩ 1 1 [.string y, .slice none 0 0, .slice none 0 0, .int .i64 0, .int .i64 0] (by rfl) (by rfl) (World.news_of_block (cs := #[.string y, .slice none 0 0, .slice none 0 0, .int .i64 0, .int .i64 0]) (t := 207) (fr := (0, 0)) (heap_alloc_new (W1) _)) (by simp [Value.oneCell']) (by omega) (by unfold maxLen; omega) (by omega) (by simp; omega) ((W1).heap.size + 1) (by simp) ?_; intro g cap w3 hown hgrow hat hlt3; have tf3 : w3.frozen? ⟨pb, 3, none⟩ = false := (hgrow.frozen_far ⟨pb, 3, none⟩ (by simp; omega) (Ne.symm hLp)).trans ((((Below.refl (W1).heap.size (W1)).alloc (Nat.le_refl _) _).drew.frozen (p := ⟨pb, 3, none⟩) hlp).trans (tf 3)); have tc3 : w3.cell? ⟨pb, 3, none⟩ = some lv := (hgrow.cell_far ⟨pb, 3, none⟩ (by simp; omega) (Ne.symm hLp)).trans ((((Below.refl (W1).heap.size (W1)).alloc (Nat.le_refl _) _).drew.cell (p := ⟨pb, 3, none⟩) hlp).trans t3)))
  all_goals
    go_wp2
    go_end0
    have hp3 := ((hpW.of_below (((Below.refl (W1).heap.size (W1)).alloc (Nat.le_refl _) _).drew)).grown hgrow hLp)
    refine ⟨rfl, _, _, hp3.set3 _, ownsRow_set_other hown (?_ : _ ≠ some pb) 3 _, ?_, ?_⟩
    · exact own_ne hat hLp (by omega)
    · exact own_ne hat hLp (by omega)
    · have hb1 : Below B0 w (W1) := below_of_grown hgW hBp (by omega)
      exact (Below.grown ((hb1.alloc (by omega) _).drew) hgrow (by simp; omega) (fun j ej => (ownBlock_lt hLW ej).2)).setCell (p := ⟨pb, 3, none⟩) hBp _


end Go.Proofs.YtcmgclckknpecaaGreatDoor

namespace Go.Proofs.YtcmgclckknpecaaGreatDoor
open Go.RowKit

set_option maxRecDepth 100000 in
set_option maxHeartbeats 1000000 in
theorem stage_map (pb B0 : Nat) (s : ByteArray) (a : Nat) (y : ByteArray) (m : Nat) (hy : y.size = m + 1) (hm8 : m ≤ 8) (lv : Value) (n : Nat) (xs : List Value) (w : World) (hBp : B0 ≤ pb) (h : Pn pb s a (-1) lv w) (hL : w.ownsRow B0 207 5 lv n xs) (hLp : lv.ownBlock ≠ some pb) (hn : n ≤ 80) (hm : s.size ≤ 80) (ha : a ≤ s.size) (hl : ((y[m].toNat : Int) == 40) = true) (hmap : ((y.extract 0 m).toList == [109, 97, 112]) = true) (o : Bool) (b : Nat) (HR : Hid (Pl.lst s (Pl.pairP s) (s.size + 1) a = (o, b))) :
    Calls Tryz.prog 72 #[.pointer (some ⟨pb, 0, none⟩), .string y] w fun e w' => e = .returned (.tuple #[]) ∧ ∃ lv' xs', Pn pb s b (badOf o b) lv' w' ∧ w'.ownsRow B0 207 5 lv' (n + 1) xs' ∧ lv'.ownBlock ≠ some pb ∧ Below B0 w w' := by
  obtain ⟨i0, hi, hz0, hz1, hz2⟩ := info_parts info85
  have hpl := h.lt
  go_enter Tryz.func72, Tryz.ntmps72
  go_wp2_with fail
  have hneS : lv.ownBlock ≠ some w.heap.size := fun e => by have := (ownBlock_lt hL e).1; omega
  have hgA : w.grownBy (w.alloc (.cells #[.string (y.extract 0 m), .slice none 0 0, .slice none 0 0, .int .i64 0, .int .i64 0] 207)) (some pb) := World.grownBy_alloc _ _ _
  have hpA : Pn pb s a (-1) lv (w.alloc (.cells #[.string (y.extract 0 m), .slice none 0 0, .slice none 0 0, .int .i64 0, .int .i64 0] 207)) := h.of_below ((Below.refl _ w).alloc (Nat.le_refl _) _)
  have hsA : Sb w.heap.size (.string (y.extract 0 m)) (.slice none 0 0) (.slice none 0 0) (.int .i64 0) (.int .i64 0) (w.alloc (.cells #[.string (y.extract 0 m), .slice none 0 0, .slice none 0 0, .int .i64 0, .int .i64 0] 207)) := heap_alloc_new w _
  refine (plist_pairs pb w.heap.size s a lv (.string (y.extract 0 m)) w _ hm ha hgA hpl (Nat.le_refl _) hpA hsA o b HR).mono ?_
  rintro e W1 ⟨rfl, hpW, hgW, p', n', c', hsW⟩
  have hLW := ownsRow_grown' hL hgW hLp
  clear hgA hpA hsA
  have t3 := hpW.c3
  have tf := hpW.fz
  obtain ⟨k0, k1, k2, k3, k4, kf⟩ := hsW.cell
  have hlp := hpW.lt
  have hls := hsW.lt
  have hzw := hgW.size
  have HKS : Hid (∀ o, (W1).frozen? ⟨w.heap.size, o, none⟩ = false) := kf
  clear kf
  go_wp2_with fail
  go_region_law
    ((refine step_append_lies _ (by rfl) _ _ _ (by rfl) B0 207 i0 _ 5 80 Tryz.underlying122 hi hz0 hz1 hz2 rfl (by omega) lv n xs (by rfl) ((hLW.alloc _).drew) ⟨(W1).heap.size, 0, none⟩ 1 1 [.string (y.extract 0 m), .slice none 0 0, .slice p' n' c', .int .i64 0, .int .i64 0] (by rfl) (by rfl) (World.news_of_block (cs := #[.string (y.extract 0 m), .slice none 0 0, .slice p' n' c', .int .i64 0, .int .i64 0]) (t := 207) (fr := (0, 0)) (heap_alloc_new (W1) _)) (by simp [Value.oneCell']) (by omega) (by unfold maxLen; omega) (by omega) (by simp; omega) ((W1).heap.size + 1) (by simp) ?_; intro g cap w3 hown hgrow hat hlt3; have tf3 : w3.frozen? ⟨pb, 3, none⟩ = false := (hgrow.frozen_far ⟨pb, 3, none⟩ (by simp; omega) (Ne.symm hLp)).trans ((((Below.refl (W1).heap.size (W1)).alloc (Nat.le_refl _) _).drew.frozen (p := ⟨pb, 3, none⟩) hlp).trans (tf 3)); have tc3 : w3.cell? ⟨pb, 3, none⟩ = some lv := (hgrow.cell_far ⟨pb, 3, none⟩ (by simp; omega) (Ne.symm hLp)).trans ((((Below.refl (W1).heap.size (W1)).alloc (Nat.le_refl _) _).drew.cell (p := ⟨pb, 3, none⟩) hlp).trans t3)))
  all_goals
    go_wp2
    go_end0
    have hp3 := ((hpW.of_below (((Below.refl (W1).heap.size (W1)).alloc (Nat.le_refl _) _).drew)).grown hgrow hLp)
    refine ⟨rfl, _, _, hp3.set3 _, ownsRow_set_other hown (?_ : _ ≠ some pb) 3 _, ?_, ?_⟩
    · exact own_ne hat hLp (by omega)
    · exact own_ne hat hLp (by omega)
    · have hb1 : Below B0 w (W1) := below_of_grown hgW hBp (by omega)
      exact (Below.grown ((hb1.alloc (by omega) _).drew) hgrow (by simp; omega) (fun j ej => (ownBlock_lt hLW ej).2)).setCell (p := ⟨pb, 3, none⟩) hBp _


set_option maxRecDepth 100000 in
set_option maxHeartbeats 1000000 in
theorem stage_syn (pb B0 : Nat) (s : ByteArray) (a : Nat) (y : ByteArray) (m : Nat) (hy : y.size = m + 1) (hm8 : m ≤ 8) (lv : Value) (n : Nat) (xs : List Value) (w : World) (hBp : B0 ≤ pb) (h : Pn pb s a (-1) lv w) (hL : w.ownsRow B0 207 5 lv n xs) (hLp : lv.ownBlock ≠ some pb) (hn : n ≤ 80) (hm : s.size ≤ 80) (ha : a ≤ s.size) (hl : ((y[m].toNat : Int) == 40) = true) (hmap : ((y.extract 0 m).toList == [109, 97, 112]) = false) (hsyn : ((y.extract 0 m).toList == [115, 121, 110]) = true) (o : Bool) (b : Nat) (HR : Hid (Pl.lst s (Pl.pairP s) (s.size + 1) a = (o, b))) :
    Calls Tryz.prog 72 #[.pointer (some ⟨pb, 0, none⟩), .string y] w fun e w' => e = .returned (.tuple #[]) ∧ ∃ lv' xs', Pn pb s b (badOf o b) lv' w' ∧ w'.ownsRow B0 207 5 lv' (n + 1) xs' ∧ lv'.ownBlock ≠ some pb ∧ Below B0 w w' := by
  obtain ⟨i0, hi, hz0, hz1, hz2⟩ := info_parts info85
  have hpl := h.lt
  go_enter Tryz.func72, Tryz.ntmps72
  go_wp2_with fail
  have hneS : lv.ownBlock ≠ some w.heap.size := fun e => by have := (ownBlock_lt hL e).1; omega
  have hgA : w.grownBy (w.alloc (.cells #[.string (y.extract 0 m), .slice none 0 0, .slice none 0 0, .int .i64 0, .int .i64 0] 207)) (some pb) := World.grownBy_alloc _ _ _
  have hpA : Pn pb s a (-1) lv (w.alloc (.cells #[.string (y.extract 0 m), .slice none 0 0, .slice none 0 0, .int .i64 0, .int .i64 0] 207)) := h.of_below ((Below.refl _ w).alloc (Nat.le_refl _) _)
  have hsA : Sb w.heap.size (.string (y.extract 0 m)) (.slice none 0 0) (.slice none 0 0) (.int .i64 0) (.int .i64 0) (w.alloc (.cells #[.string (y.extract 0 m), .slice none 0 0, .slice none 0 0, .int .i64 0, .int .i64 0] 207)) := heap_alloc_new w _
  refine (plist_pairs pb w.heap.size s a lv (.string (y.extract 0 m)) w _ hm ha hgA hpl (Nat.le_refl _) hpA hsA o b HR).mono ?_
  rintro e W1 ⟨rfl, hpW, hgW, p', n', c', hsW⟩
  have hLW := ownsRow_grown' hL hgW hLp
  clear hgA hpA hsA
  have t3 := hpW.c3
  have tf := hpW.fz
  obtain ⟨k0, k1, k2, k3, k4, kf⟩ := hsW.cell
  have hlp := hpW.lt
  have hls := hsW.lt
  have hzw := hgW.size
  have HKS : Hid (∀ o, (W1).frozen? ⟨w.heap.size, o, none⟩ = false) := kf
  clear kf
  go_wp2_with fail
  go_region_law
    ((refine step_append_lies _ (by rfl) _ _ _ (by rfl) B0 207 i0 _ 5 80 Tryz.underlying122 hi hz0 hz1 hz2 rfl (by omega) lv n xs (by rfl) ((hLW.alloc _).drew) ⟨(W1).heap.size, 0, none⟩ 1 1 [.string (y.extract 0 m), .slice none 0 0, .slice p' n' c', .int .i64 0, .int .i64 0] (by rfl) (by rfl) (World.news_of_block (cs := #[.string (y.extract 0 m), .slice none 0 0, .slice p' n' c', .int .i64 0, .int .i64 0]) (t := 207) (fr := (0, 0)) (heap_alloc_new (W1) _)) (by simp [Value.oneCell']) (by omega) (by unfold maxLen; omega) (by omega) (by simp; omega) ((W1).heap.size + 1) (by simp) ?_; intro g cap w3 hown hgrow hat hlt3; have tf3 : w3.frozen? ⟨pb, 3, none⟩ = false := (hgrow.frozen_far ⟨pb, 3, none⟩ (by simp; omega) (Ne.symm hLp)).trans ((((Below.refl (W1).heap.size (W1)).alloc (Nat.le_refl _) _).drew.frozen (p := ⟨pb, 3, none⟩) hlp).trans (tf 3)); have tc3 : w3.cell? ⟨pb, 3, none⟩ = some lv := (hgrow.cell_far ⟨pb, 3, none⟩ (by simp; omega) (Ne.symm hLp)).trans ((((Below.refl (W1).heap.size (W1)).alloc (Nat.le_refl _) _).drew.cell (p := ⟨pb, 3, none⟩) hlp).trans t3)))
  all_goals
    go_wp2
    go_end0
    have hp3 := ((hpW.of_below (((Below.refl (W1).heap.size (W1)).alloc (Nat.le_refl _) _).drew)).grown hgrow hLp)
    refine ⟨rfl, _, _, hp3.set3 _, ownsRow_set_other hown (?_ : _ ≠ some pb) 3 _, ?_, ?_⟩
    · exact own_ne hat hLp (by omega)
    · exact own_ne hat hLp (by omega)
    · have hb1 : Below B0 w (W1) := below_of_grown hgW hBp (by omega)
      exact (Below.grown ((hb1.alloc (by omega) _).drew) hgrow (by simp; omega) (fun j ej => (ownBlock_lt hLW ej).2)).setCell (p := ⟨pb, 3, none⟩) hBp _


set_option maxRecDepth 100000 in
set_option maxHeartbeats 1000000 in
theorem stage_stop (pb B0 : Nat) (s : ByteArray) (a : Nat) (y : ByteArray) (m : Nat) (hy : y.size = m + 1) (hm8 : m ≤ 8) (lv : Value) (n : Nat) (xs : List Value) (w : World) (hBp : B0 ≤ pb) (h : Pn pb s a (-1) lv w) (hL : w.ownsRow B0 207 5 lv n xs) (hLp : lv.ownBlock ≠ some pb) (hn : n ≤ 80) (hm : s.size ≤ 80) (ha : a ≤ s.size) (hl : ((y[m].toNat : Int) == 40) = true) (hmap : ((y.extract 0 m).toList == [109, 97, 112]) = false) (hsyn : ((y.extract 0 m).toList == [115, 121, 110]) = false) (hst : ((y.extract 0 m).toList == [115, 116, 111, 112]) = true) (o : Bool) (b : Nat) (HR : Hid (Pl.lst s (Pl.word s) (s.size + 1) a = (o, b))) :
    Calls Tryz.prog 72 #[.pointer (some ⟨pb, 0, none⟩), .string y] w fun e w' => e = .returned (.tuple #[]) ∧ ∃ lv' xs', Pn pb s b (badOf o b) lv' w' ∧ w'.ownsRow B0 207 5 lv' (n + 1) xs' ∧ lv'.ownBlock ≠ some pb ∧ Below B0 w w' := by
  obtain ⟨i0, hi, hz0, hz1, hz2⟩ := info_parts info85
  have hpl := h.lt
  go_enter Tryz.func72, Tryz.ntmps72
  go_wp2_with fail
  have hneS : lv.ownBlock ≠ some w.heap.size := fun e => by have := (ownBlock_lt hL e).1; omega
  have hgA : w.grownBy (w.alloc (.cells #[.string (y.extract 0 m), .slice none 0 0, .slice none 0 0, .int .i64 0, .int .i64 0] 207)) (some pb) := World.grownBy_alloc _ _ _
  have hpA : Pn pb s a (-1) lv (w.alloc (.cells #[.string (y.extract 0 m), .slice none 0 0, .slice none 0 0, .int .i64 0, .int .i64 0] 207)) := h.of_below ((Below.refl _ w).alloc (Nat.le_refl _) _)
  have hsA : Sb w.heap.size (.string (y.extract 0 m)) (.slice none 0 0) (.slice none 0 0) (.int .i64 0) (.int .i64 0) (w.alloc (.cells #[.string (y.extract 0 m), .slice none 0 0, .slice none 0 0, .int .i64 0, .int .i64 0] 207)) := heap_alloc_new w _
  refine (plist_words pb w.heap.size s a lv (.string (y.extract 0 m)) w _ hm ha hgA hpl (Nat.le_refl _) hpA hsA o b HR).mono ?_
  rintro e W1 ⟨rfl, hpW, hgW, p', n', c', hsW⟩
  have hLW := ownsRow_grown' hL hgW hLp
  clear hgA hpA hsA
  have t3 := hpW.c3
  have tf := hpW.fz
  obtain ⟨k0, k1, k2, k3, k4, kf⟩ := hsW.cell
  have hlp := hpW.lt
  have hls := hsW.lt
  have hzw := hgW.size
  have HKS : Hid (∀ o, (W1).frozen? ⟨w.heap.size, o, none⟩ = false) := kf
  clear kf
  go_wp2_with fail
  go_region_law
    ((refine step_append_lies _ (by rfl) _ _ _ (by rfl) B0 207 i0 _ 5 80 Tryz.underlying122 hi hz0 hz1 hz2 rfl (by omega) lv n xs (by rfl) ((hLW.alloc _).drew) ⟨(W1).heap.size, 0, none⟩ 1 1 [.string (y.extract 0 m), .slice p' n' c', .slice none 0 0, .int .i64 0, .int .i64 0] (by rfl) (by rfl) (World.news_of_block (cs := #[.string (y.extract 0 m), .slice p' n' c', .slice none 0 0, .int .i64 0, .int .i64 0]) (t := 207) (fr := (0, 0)) (heap_alloc_new (W1) _)) (by simp [Value.oneCell']) (by omega) (by unfold maxLen; omega) (by omega) (by simp; omega) ((W1).heap.size + 1) (by simp) ?_; intro g cap w3 hown hgrow hat hlt3; have tf3 : w3.frozen? ⟨pb, 3, none⟩ = false := (hgrow.frozen_far ⟨pb, 3, none⟩ (by simp; omega) (Ne.symm hLp)).trans ((((Below.refl (W1).heap.size (W1)).alloc (Nat.le_refl _) _).drew.frozen (p := ⟨pb, 3, none⟩) hlp).trans (tf 3)); have tc3 : w3.cell? ⟨pb, 3, none⟩ = some lv := (hgrow.cell_far ⟨pb, 3, none⟩ (by simp; omega) (Ne.symm hLp)).trans ((((Below.refl (W1).heap.size (W1)).alloc (Nat.le_refl _) _).drew.cell (p := ⟨pb, 3, none⟩) hlp).trans t3)))
  all_goals
    go_wp2
    go_end0
    have hp3 := ((hpW.of_below (((Below.refl (W1).heap.size (W1)).alloc (Nat.le_refl _) _).drew)).grown hgrow hLp)
    refine ⟨rfl, _, _, hp3.set3 _, ownsRow_set_other hown (?_ : _ ≠ some pb) 3 _, ?_, ?_⟩
    · exact own_ne hat hLp (by omega)
    · exact own_ne hat hLp (by omega)
    · have hb1 : Below B0 w (W1) := below_of_grown hgW hBp (by omega)
      exact (Below.grown ((hb1.alloc (by omega) _).drew) hgrow (by simp; omega) (fun j ej => (ownBlock_lt hLW ej).2)).setCell (p := ⟨pb, 3, none⟩) hBp _


end Go.Proofs.YtcmgclckknpecaaGreatDoor

namespace Go.Proofs.YtcmgclckknpecaaGreatDoor
open Go.RowKit

theorem bnds_eq (s : ByteArray) (a v1 : Nat) (o1 : Bool) (c1 : Nat) (h1 : Pl.thenP (true, a) (dig s 1) = (o1, c1)) (hv : o1 = true → 48 + v1 = Pl.bt s a) :
    Pl.thenP (Pl.thenP (Pl.thenP (o1, c1) (Pl.sign s 44)) (dig s v1)) (Pl.sign s 41) = Pl.bnds s a := by
  have h1' : dig s 1 a = (o1, c1) := h1
  unfold dig at h1'
  unfold Pl.bnds
  by_cases hb : Pl.byteIn s (48 + 1) 57 a = true
  · rw [if_pos hb] at h1'
    simp only [Prod.mk.injEq] at h1'
    obtain ⟨rfl, rfl⟩ := h1'
    rw [if_pos (show Pl.byteIn s 49 57 a = true from hb)]
    have hv1 := hv rfl
    unfold dig
    rw [hv1]
    simp only [Pl.thenP, if_true]
    by_cases h2 : (Pl.sign s 44 (a + 1)).1 = true
    · simp only [h2, if_true]
      by_cases h3 : Pl.byteIn s (Pl.bt s a) 57 (Pl.sign s 44 (a + 1)).2 = true
      · simp [h3]
      · simp [h3]
    · simp [h2]
  · rw [if_neg hb] at h1'
    simp only [Prod.mk.injEq] at h1'
    obtain ⟨rfl, rfl⟩ := h1'
    rw [if_neg (show ¬ Pl.byteIn s 49 57 a = true from hb)]
    simp [Pl.thenP]

set_option maxRecDepth 100000 in
set_option maxHeartbeats 1000000 in
theorem stage_num (pb B0 : Nat) (s : ByteArray) (a : Nat) (y : ByteArray) (m : Nat) (hy : y.size = m + 1) (hm8 : m ≤ 8) (lv : Value) (n : Nat) (xs : List Value) (w : World) (hBp : B0 ≤ pb) (h : Pn pb s a (-1) lv w) (hL : w.ownsRow B0 207 5 lv n xs) (hLp : lv.ownBlock ≠ some pb) (hn : n ≤ 80) (hm : s.size ≤ 80) (ha : a ≤ s.size) (hl : ((y[m].toNat : Int) == 40) = true) (hmap : ((y.extract 0 m).toList == [109, 97, 112]) = false) (hsyn : ((y.extract 0 m).toList == [115, 121, 110]) = false) (hst : ((y.extract 0 m).toList == [115, 116, 111, 112]) = false) (o : Bool) (b : Nat) (HR : Hid (Pl.bnds s a = (o, b))) :
    Calls Tryz.prog 72 #[.pointer (some ⟨pb, 0, none⟩), .string y] w fun e w' => e = .returned (.tuple #[]) ∧ ∃ lv' xs', Pn pb s b (badOf o b) lv' w' ∧ w'.ownsRow B0 207 5 lv' (n + 1) xs' ∧ lv'.ownBlock ≠ some pb ∧ Below B0 w w' := by
  obtain ⟨i0, hi, hz0, hz1, hz2⟩ := info_parts info85
  have hpl := h.lt
  go_enter Tryz.func72, Tryz.ntmps72
  go_wp2_with fail
  have hneS : lv.ownBlock ≠ some w.heap.size := fun e => by have := (ownBlock_lt hL e).1; omega
  have hgA : w.grownBy (w.alloc (.cells #[.string (y.extract 0 m), .slice none 0 0, .slice none 0 0, .int .i64 0, .int .i64 0] 207)) (some pb) := World.grownBy_alloc _ _ _
  have hpA : Pn pb s a (-1) lv (w.alloc (.cells #[.string (y.extract 0 m), .slice none 0 0, .slice none 0 0, .int .i64 0, .int .i64 0] 207)) := h.of_below ((Below.refl _ w).alloc (Nat.le_refl _) _)
  have hsA : Sb w.heap.size (.string (y.extract 0 m)) (.slice none 0 0) (.slice none 0 0) (.int .i64 0) (.int .i64 0) (w.alloc (.cells #[.string (y.extract 0 m), .slice none 0 0, .slice none 0 0, .int .i64 0, .int .i64 0] 207)) := heap_alloc_new w _
  obtain ⟨⟨o1, c1⟩, h1⟩ : ∃ r, Pl.thenP (true, a) (dig s 1) = r := ⟨_, rfl⟩
  have hf1 := Pl.thenP_fits (r := (true, a)) ⟨Nat.le_refl _, ha⟩ (dig_fits s 1)
  rw [h1] at hf1
  refine (digit_st pb s true a 1 1 rfl lv _ (by omega) ha hm hpA o1 c1 h1).mono ?_
  rintro e wA ⟨v1, rfl, hv1, hv9, hpB, hgB⟩
  have hsB := hsA.keep hgB (by simp; omega)
  obtain ⟨a0, a1, a2, a3, a4, af⟩ := hsB.cell
  obtain ⟨⟨o2, c2⟩, h2⟩ : ∃ r, Pl.thenP (o1, c1) (Pl.sign s 44) = r := ⟨_, rfl⟩
  have hf2 := Pl.thenP_fits (r := (o1, c1)) hf1 (Pl.sign_fits s 44)
  rw [h2] at hf2
  obtain ⟨⟨o3, c3⟩, h3⟩ : ∃ r, Pl.thenP (o2, c2) (dig s v1) = r := ⟨_, rfl⟩
  have hf3 := Pl.thenP_fits (r := (o2, c2)) hf2 (dig_fits s v1)
  rw [h3] at hf3
  have h4 : Pl.thenP (o3, c3) (Pl.sign s 41) = (o, b) := by rw [← h3, ← h2, bnds_eq s a v1 o1 c1 h1 hv1]; exact HR.out
  have H2 : Hid (Pl.thenP (o1, c1) (Pl.sign s 44) = (o2, c2)) := h2
  have H3 : Hid (Pl.thenP (o2, c2) (dig s v1) = (o3, c3)) := h3
  have H4 : Hid (Pl.thenP (o3, c3) (Pl.sign s 41) = (o, b)) := h4
  have hgAB := grown_trans hgA hgB
  clear h1 h2 h3 h4 hv1 hpA hsA hgA hgB
  go_wp2_with fail
  refine (take_st pb s o1 c1 44 44 rfl lv _ hm hf1.2 (hpB.other (by omega) 3 (.int .i64 (v1 : Int))) o2 c2 H2.out).mono ?_
  rintro e wB ⟨rfl, hpC, hgC⟩
  have hsC := (hsB.set3 (.int .i64 (v1 : Int))).keep hgC (by simp; omega)
  have hgD : w.grownBy wB (some pb) := grown_trans (grown_set_new hgAB (Nat.le_refl _) 3 (.int .i64 (v1 : Int))) hgC
  clear hsB hpB hgC hgAB a0 a1 a2 a3 a4 af
  obtain ⟨a0, a1, a2, a3, a4, af⟩ := hsC.cell
  go_wp2_with fail
  refine (digit_st pb s o2 c2 v1 _ rfl lv _ hv9 hf2.2 hm hpC o3 c3 H3.out).mono ?_
  rintro e wC ⟨v2, rfl, _, _, hpE, hgE⟩
  have hsE := hsC.keep hgE (by simp; omega)
  clear hsC hpC a0 a1 a2 a3 a4 af
  obtain ⟨a0, a1, a2, a3, a4, af⟩ := hsE.cell
  go_wp2_with fail
  refine (take_st pb s o3 c3 41 41 rfl lv _ hm hf3.2 (hpE.other (by omega) 4 (.int .i64 (v2 : Int))) o b H4.out).mono ?_
  rintro e W1 ⟨rfl, hpW, hgF⟩
  have hsW := (hsE.set4 (.int .i64 (v2 : Int))).keep hgF (by simp; omega)
  have hgW : w.grownBy W1 (some pb) := grown_trans (grown_set_new (grown_trans hgD hgE) (Nat.le_refl _) 4 (.int .i64 (v2 : Int))) hgF
  clear hsE hpE hgE hgF hgD a0 a1 a2 a3 a4 af
  have hLW := ownsRow_grown' hL hgW hLp
  have t3 := hpW.c3
  have tf := hpW.fz
  obtain ⟨k0, k1, k2, k3, k4, kf⟩ := hsW.cell
  have hlp := hpW.lt
  have hls := hsW.lt
  have hzw := hgW.size
  have HKS : Hid (∀ o, (W1).frozen? ⟨w.heap.size, o, none⟩ = false) := kf
  clear kf
  go_wp2_with fail
  go_region_law
    ((refine step_append_lies _ (by rfl) _ _ _ (by rfl) B0 207 i0 _ 5 80 Tryz.underlying122 hi hz0 hz1 hz2 rfl (by omega) lv n xs (by rfl) ((hLW.alloc _).drew) ⟨(W1).heap.size, 0, none⟩ 1 1 [.string (y.extract 0 m), .slice none 0 0, .slice none 0 0, .int .i64 (v1 : Int), .int .i64 (v2 : Int)] (by rfl) (by rfl) (World.news_of_block (cs := #[.string (y.extract 0 m), .slice none 0 0, .slice none 0 0, .int .i64 (v1 : Int), .int .i64 (v2 : Int)]) (t := 207) (fr := (0, 0)) (heap_alloc_new (W1) _)) (by simp [Value.oneCell']) (by omega) (by unfold maxLen; omega) (by omega) (by simp; omega) ((W1).heap.size + 1) (by simp) ?_; intro g cap w3 hown hgrow hat hlt3; have tf3 : w3.frozen? ⟨pb, 3, none⟩ = false := (hgrow.frozen_far ⟨pb, 3, none⟩ (by simp; omega) (Ne.symm hLp)).trans ((((Below.refl (W1).heap.size (W1)).alloc (Nat.le_refl _) _).drew.frozen (p := ⟨pb, 3, none⟩) hlp).trans (tf 3)); have tc3 : w3.cell? ⟨pb, 3, none⟩ = some lv := (hgrow.cell_far ⟨pb, 3, none⟩ (by simp; omega) (Ne.symm hLp)).trans ((((Below.refl (W1).heap.size (W1)).alloc (Nat.le_refl _) _).drew.cell (p := ⟨pb, 3, none⟩) hlp).trans t3)))
  all_goals
    go_wp2
    go_end0
    have hp3 := ((hpW.of_below (((Below.refl (W1).heap.size (W1)).alloc (Nat.le_refl _) _).drew)).grown hgrow hLp)
    refine ⟨rfl, _, _, hp3.set3 _, ownsRow_set_other hown (?_ : _ ≠ some pb) 3 _, ?_, ?_⟩
    · exact own_ne hat hLp (by omega)
    · exact own_ne hat hLp (by omega)
    · have hb1 : Below B0 w (W1) := below_of_grown hgW hBp (by omega)
      exact (Below.grown ((hb1.alloc (by omega) _).drew) hgrow (by simp; omega) (fun j ej => (ownBlock_lt hLW ej).2)).setCell (p := ⟨pb, 3, none⟩) hBp _


end Go.Proofs.YtcmgclckknpecaaGreatDoor

namespace Go.Proofs.YtcmgclckknpecaaGreatDoor
open Go.RowKit
namespace Pl
theorem cm_ge_iff (s : ByteArray) (a : Nat) (w : ByteArray) : ∀ m k d, k + m = w.size → k ≤ d → (d ≤ cm s a w m k ↔ ∀ j, k ≤ j → j < d → j < w.size ∧ a + j < s.size ∧ bt s (a + j) = bt w j)
  | 0, k, d, hm, hk => by
    unfold cm
    refine ⟨fun h j h1 h2 => by omega, fun h => ?_⟩
    rcases Nat.lt_or_ge k d with h' | h'
    · have := h k (Nat.le_refl _) h'; omega
    · exact h'
  | m + 1, k, d, hm, hk => by
    unfold cm
    by_cases hc : k < w.size ∧ a + k < s.size ∧ bt s (a + k) = bt w k
    · rw [if_pos hc]
      rcases Nat.lt_or_ge k d with h' | h'
      · rw [cm_ge_iff s a w m (k + 1) d (by omega) (by omega)]
        refine ⟨fun h j h1 h2 => ?_, fun h j h1 h2 => h j (by omega) h2⟩
        rcases Nat.lt_or_ge k j with h3 | h3
        · exact h j h3 h2
        · obtain rfl : j = k := by omega
          exact hc
      · refine ⟨fun _ j h1 h2 => by omega, fun _ => ?_⟩
        have := cm_ge s a w m (k + 1); omega
    · rw [if_neg hc]
      refine ⟨fun h j h1 h2 => by omega, fun h => ?_⟩
      rcases Nat.lt_or_ge k d with h' | h'
      · exact absurd (h k (Nat.le_refl _) h') hc
      · exact h'
theorem com_ge_iff (s : ByteArray) (a : Nat) (w : ByteArray) (d : Nat) : d ≤ com s a w ↔ ∀ j, j < d → j < w.size ∧ a + j < s.size ∧ bt s (a + j) = bt w j := by
  unfold com
  rw [cm_ge_iff s a w w.size 0 d (by omega) (Nat.zero_le _)]
  exact ⟨fun h j hj => h j (Nat.zero_le _) hj, fun h j _ hj => h j hj⟩

def Full (s : ByteArray) (a : Nat) (w : ByteArray) : Prop := com s a w = w.size
theorem nm_some (s : ByteArray) (a : Nat) : ∀ (names : List ByteArray) (i0 lg i : Nat) (hi : i < names.length), Full s a (names[i]) → (∀ j (hj : j < names.length), Full s a (names[j]) → j = i) → nm s a names i0 lg = (some (i0 + i), a + (names[i]).size)
  | w :: r, i0, lg, 0, _, hf, _ => by unfold nm; rw [if_pos (show com s a w = w.size from hf)]; simp
  | w :: r, i0, lg, i + 1, hi, hf, hu => by
    have hw : ¬ Full s a w := fun e => by have := hu 0 (by simp) e; omega
    unfold nm
    rw [if_neg (show ¬ com s a w = w.size from hw), nm_some s a r (i0 + 1) _ i (by simpa using hi) (by simpa using hf) (fun j hj hfj => by have := hu (j + 1) (by simpa using hj) (by simpa using hfj); omega)]
    simp; omega
theorem nm_none (s : ByteArray) (a : Nat) : ∀ (names : List ByteArray) (i0 lg M : Nat), (∀ w ∈ names, ¬ Full s a w) → lg ≤ M → (∀ w ∈ names, com s a w ≤ M) → (lg = M ∨ ∃ w ∈ names, com s a w = M) → nm s a names i0 lg = (none, a + M)
  | [], i0, lg, M, _, hlg, _, he => by
    unfold nm
    rcases he with rfl | ⟨w, hw, _⟩
    · rfl
    · simp at hw
  | w :: r, i0, lg, M, hn, hlg, hle, he => by
    unfold nm
    rw [if_neg (show ¬ com s a w = w.size from hn w (by simp))]
    refine nm_none s a r (i0 + 1) _ M (fun x hx => hn x (by simp [hx])) (by have := hle w (by simp); omega) (fun x hx => hle x (by simp [hx])) ?_
    have hw := hle w (by simp)
    rcases he with rfl | ⟨x, hx, hxe⟩
    · left; omega
    · rcases List.mem_cons.1 hx with rfl | hx
      · left; omega
      · exact .inr ⟨x, hx, hxe⟩
end Pl

theorem lates_any (w : World) : Calls Tryz.prog 69 #[] w fun e w' => e = .returned (.slice (some ⟨w.heap.size, 0, none⟩) 7 7) ∧ w' = w.alloc (.cells ((Pl.lates.map Value.string).toArray) 9) := by
  go_enter Tryz.func69, Tryz.ntmps69
  go_wp2
  go_ret
  exact ⟨rfl, rfl⟩
theorem starts_any (w : World) : Calls Tryz.prog 71 #[] w fun e w' => e = .returned (.slice (some ⟨w.heap.size, 0, none⟩) 6 6) ∧ w' = w.alloc (.cells ((Pl.starts.map Value.string).toArray) 9) := by
  go_enter Tryz.func71, Tryz.ntmps71
  go_wp2
  go_ret
  exact ⟨rfl, rfl⟩

theorem dataAt (y : ByteArray) (j : Nat) (h : j < y.size) : y.data.toList[j]? = some y[j] := by
  rw [Array.getElem?_toList]; exact Array.getElem?_eq_getElem h
theorem ext_eq (y s : ByteArray) (a k d : Nat) (hk : k = a + d) (hd : d ≤ y.size) (hs : a + d ≤ s.size) : ((y.extract 0 d).toList == (s.extract a k).toList) = decide (d ≤ Pl.com s a y) := by
  subst hk
  rw [Bool.eq_iff_iff]
  simp only [beq_iff_eq, decide_eq_true_eq]
  rw [Pl.com_ge_iff, ByteArray.toList_eq, ByteArray.toList_eq, Lib.extract_data, Lib.extract_data]
  have key : ∀ j, j < d → (((y.data.toList.drop 0).take (d - 0))[j]? = ((s.data.toList.drop a).take (a + d - a))[j]? ↔ Pl.bt s (a + j) = Pl.bt y j) := fun j hj => by
    rw [List.getElem?_take, List.getElem?_take, if_pos (by omega), if_pos (by omega), List.getElem?_drop, List.getElem?_drop, Nat.zero_add, dataAt y j (by omega), dataAt s (a + j) (by omega), Pl.bt_eq (s := s) (k := a + j) (by omega), Pl.bt_eq (s := y) (k := j) (by omega)]
    simp only [Option.some.injEq]
    exact ⟨fun e => by rw [e], fun e => (UInt8.toNat_inj.1 e).symm⟩
  constructor
  · intro h j hj
    exact ⟨by omega, by omega, (key j hj).1 (by rw [h])⟩
  · intro h
    apply List.ext_getElem?
    intro j
    by_cases hj : j < d
    · exact (key j hj).2 (h j hj).2.2
    · rw [List.getElem?_take, List.getElem?_take, if_neg (by omega), if_neg (by omega)]

set_option maxHeartbeats 400000 in
theorem begins_any (s y : ByteArray) (a k : Nat) (w : World) (hm : s.size ≤ 80) (_hy : y.size ≤ 8) (hak : a ≤ k) (hks : k ≤ s.size) :
    Calls Tryz.prog 131 #[.string y, .string s, .int .i64 (a : Int), .int .i64 (k : Int)] w fun e w' => e = .returned (.bool (decide (k - a ≤ Pl.com s a y))) ∧ ∃ q, w' = w.drewN q := by
  obtain ⟨d, hkd⟩ : ∃ d, k = a + d := ⟨k - a, by omega⟩
  have hsub : k - a = d := by omega
  rw [hsub]
  have HK : Hid (k = a + d) := hkd
  have hw1 : IntKind.i64.wrap ((k : Int) - (a : Int)) = (d : Int) := by rw [IntKind.wrap_i64]; omega
  have hd2 : a + d ≤ s.size := by omega
  clear hsub hkd
  by_cases hd : d ≤ y.size
  · have hd' : (d : Int) ≤ (y.size : Int) := by omega
    have hks' : (k : Int) ≤ (s.size : Int) := by omega
    have hak' : (a : Int) ≤ (k : Int) := by omega
    go_enter Tryz.func131, Tryz.ntmps131
    go_wp2_with fail
    go_quiet (fail)
    go_wp2
    go_ret
    refine ⟨?_, nq, rfl⟩
    rw [← ext_eq y s a k d HK.out hd hd2]
    rfl
  · have hdd : decide (d ≤ y.size) = false := by simp; omega
    have hno : decide (d ≤ Pl.com s a y) = false := by have := (Pl.com_le s a y (by omega)).1; simp; omega
    rw [hno]
    clear hno
    go_enter Tryz.func131, Tryz.ntmps131
    go_wp2_with fail
    go_quiet (fail)
    go_wp2
    go_ret
    exact ⟨rfl, nq, rfl⟩

end Go.Proofs.YtcmgclckknpecaaGreatDoor

namespace Go.Proofs.YtcmgclckknpecaaGreatDoor
open Go.RowKit

theorem Nms.grown {g : Nat} {names : List ByteArray} {w w' : World} {row : Option Nat} (h : Nms g names w) (hg : w.grownBy w' row) (hne : row ≠ some g) : Nms g names w' :=
  ⟨fun i hi => (hg.cell_far ⟨g, i, none⟩ h.lt (Ne.symm hne)).trans (h.cells i hi), Nat.lt_of_lt_of_le h.lt hg.size⟩

set_option maxHeartbeats 2000000 in
theorem pword_any (pb g : Nat) (s : ByteArray) (a : Nat) (names : List ByteArray) (l : Value) (w : World) (hm : s.size ≤ 80) (ha : a ≤ s.size) (h : Pn pb s a (-1) l w) (hN : Nms g names w)
    (hsz : ∀ i (hi : i < names.length), (names[i]).size ≤ 8) (hlen : names.length ≤ 8) (hpos : 0 < names.length)
    (hU : ∀ i (hi : i < names.length) j (hj : j < names.length), Pl.Full s a (names[i]) → Pl.Full s a (names[j]) → i = j) (res : Option Nat) (b : Nat) (HR : Hid (Pl.nm s a names 0 0 = (res, b))) :
    Calls Tryz.prog 70 #[.pointer (some ⟨pb, 0, none⟩), .slice (some ⟨g, 0, none⟩) names.length names.length] w fun e w' =>
      ((∃ i, i < names.length ∧ res = some i ∧ e = .returned (.int .i64 (i : Int)) ∧ Pn pb s b (-1) l w') ∨ (res = none ∧ e = .returned (.int .i64 (-1)) ∧ Pn pb s b (b : Int) l w')) ∧ w.grownBy w' (some pb) := by
  have HU : Hid (∀ i (hi : i < names.length) j (hj : j < names.length), Pl.Full s a (names[i]) → Pl.Full s a (names[j]) → i = j) := hU
  have HSZ : Hid (∀ i (hi : i < names.length), (names[i]).size ≤ 8) := hsz
  clear hU hsz
  have c1 := h.c1
  have c2 := h.c2
  go_enter Tryz.func70, Tryz.ntmps70
  go_wp2
  clear c1 c2
  go_loopw [5, 6, 7] (fun k _ _ wr => ∃ d : Nat, k = .int .i64 ((a + d : Nat) : Int) ∧ a + d ≤ s.size ∧ Pn pb s a (-1) l wr ∧ Nms g names wr ∧ w.grownBy wr (some pb) ∧
    Hid ((∀ i (hi : i < names.length), Pl.Full s a (names[i]) → d ≤ (names[i]).size) ∧ (d = 0 ∨ ∃ i, ∃ hi : i < names.length, d ≤ Pl.com s a (names[i]) + 1))) (fun k _ _ _ => 200 - (intOf k).toNat)
  case atStart => exact ⟨0, rfl, by omega, h, hN, World.grownBy.refl _ _, ⟨fun _ _ _ => Nat.zero_le _, .inl rfl⟩⟩
  case round =>
    obtain ⟨d, rfl, hds, hp, hn, hg, HI⟩ := hrel
    obtain ⟨k, hk⟩ : ∃ k, a + d = k := ⟨_, rfl⟩
    rw [hk] at hds ⊢
    have HK : Hid (a + d = k) := hk
    have hak : a ≤ k := by omega
    have hkd : k - a = d := by omega
    have HKD : Hid (k - a = d) := hkd
    clear hk hkd
    go_wp2
    go_loopw [6, 7] (fun sm i wr2 => ∃ (sv : Bool) (j : Nat), sm = .bool sv ∧ i = .int .i64 (j : Int) ∧ j ≤ names.length ∧ Pn pb s a (-1) l wr2 ∧ Nms g names wr2 ∧ w.grownBy wr2 (some pb) ∧
      Hid ((sv = true ↔ ∃ i, ∃ hi : i < names.length, i < j ∧ d ≤ Pl.com s a (names[i])) ∧ (∀ i (hi : i < names.length), i < j → Pl.Full s a (names[i]) → (names[i]).size ≠ d))) (fun _ i _ => 10 - (intOf i).toNat)
    case atStart => exact ⟨false, 0, rfl, rfl, by omega, hp, hn, hg, ⟨by simp, fun _ _ h => by omega⟩⟩
    case round =>
      obtain ⟨sv, j, rfl, rfl, hj, hp2, hn2, hg2, HJ⟩ := hrel
      have c0 := hp2.c0
      have c1 := hp2.c1
      have c2 := hp2.c2
      have fz := hp2.fz
      by_cases hjl : j < names.length
      · have hjl' : (j : Int) < (names.length : Int) := by omega
        have hcj := hn2.cells j hjl
        obtain ⟨y, hy⟩ : ∃ y, names[j] = y := ⟨_, rfl⟩
        have hys := HSZ.out j hjl
        rw [hy] at hcj hys
        have hbg := fun w => begins_any s y a k w hm hys hak hds
        rw [HKD.out] at hbg
        obtain ⟨C, hC⟩ : ∃ C, Pl.com s a y = C := ⟨_, rfl⟩
        rw [hC] at hbg
        have HY : Hid (names[j] = y) := hy
        have HC : Hid (Pl.com s a y = C) := hC
        clear hy hC
        by_cases hdC : d ≤ C
        · rw [decide_eq_true hdC] at hbg
          have HBG : Hid (∀ w, Calls Tryz.prog 131 #[.string y, .string s, .int .i64 (a : Int), .int .i64 (k : Int)] w fun e w' => e = .returned (.bool true) ∧ ∃ q, w' = w.drewN q) := hbg
          clear hbg
          have hwk : IntKind.i64.wrap ((k : Int) - (a : Int)) = (d : Int) := by have := HK.out; rw [IntKind.wrap_i64]; omega
          by_cases hfd : y.size = d
          · have hq : ((y.size : Int) == (d : Int)) = true := by simp; omega
            have HRES : Hid (res = some j ∧ b = k) := by
              have hfull : Pl.Full s a (names[j]) := by
                show Pl.com s a (names[j]) = _
                have hcl := (Pl.com_le s a y ha).1
                rw [HC.out] at hcl
                rw [HY.out, HC.out]; omega
              have hnm := Pl.nm_some s a names 0 0 j hjl hfull (fun i hi hfi => HU.out i hi j hjl hfi hfull)
              rw [HR.out, HY.out, hfd, HK.out] at hnm
              simp only [Prod.mk.injEq, Nat.zero_add] at hnm
              exact hnm
            clear hfd
            go_wp2_with fail
            go_quiet ((go_at_call 131; exact Calls.quiet_of (HBG.out _)))
            go_wp2
            go_quiet (fail)
            go_wp2
            go_ret
            refine ⟨.inl ⟨j, hjl, HRES.out.1, rfl, ?_⟩, grown_trans hg2 (grown_trans (grown_drewN _ _ _) (grown_set _ _ _ _))⟩
            rw [HRES.out.2]; exact (hp2.drewN _).set1 k
          · have hq : ((y.size : Int) == (d : Int)) = false := by simp; omega
            go_wp2_with fail
            go_quiet ((go_at_call 131; exact Calls.quiet_of (HBG.out _)))
            go_wp2
            go_quiet (fail)
            go_wp2
            refine ⟨⟨true, j + 1, rfl, by go_num, by omega, hp2.drewN _, hn2.of_below (below_drewN (Below.refl _ _) _), grown_trans hg2 (grown_drewN _ _ _), ⟨⟨fun _ => ⟨j, hjl, by omega, by rw [HY.out, HC.out]; exact hdC⟩, fun _ => rfl⟩, fun i hi hij hf => ?_⟩⟩, by simp [intOf]; omega⟩
            by_cases hij2 : i < j
            · exact HJ.out.2 i hi hij2 hf
            · obtain rfl : i = j := by omega
              rw [HY.out]; exact hfd
        · rw [decide_eq_false hdC] at hbg
          have HBG : Hid (∀ w, Calls Tryz.prog 131 #[.string y, .string s, .int .i64 (a : Int), .int .i64 (k : Int)] w fun e w' => e = .returned (.bool false) ∧ ∃ q, w' = w.drewN q) := hbg
          clear hbg
          go_wp2_with fail
          go_quiet ((go_at_call 131; exact Calls.quiet_of (HBG.out _)))
          go_wp2
          refine ⟨⟨sv, j + 1, rfl, by go_num, by omega, hp2.drewN _, hn2.of_below (below_drewN (Below.refl _ _) _), grown_trans hg2 (grown_drewN _ _ _), ⟨?_, fun i hi hij hf => ?_⟩⟩, by simp [intOf]; omega⟩
          · rw [HJ.out.1]
            refine ⟨fun ⟨i, hi, h1, h2⟩ => ⟨i, hi, by omega, h2⟩, fun ⟨i, hi, h1, h2⟩ => ⟨i, hi, ?_, h2⟩⟩
            by_cases hij2 : i < j
            · exact hij2
            · obtain rfl : i = j := by omega
              rw [HY.out, HC.out] at h2; exact absurd h2 hdC
          · by_cases hij2 : i < j
            · exact HJ.out.2 i hi hij2 hf
            · obtain rfl : i = j := by omega
              intro hs
              have hf' : Pl.com s a (names[i]) = (names[i]).size := hf
              rw [HY.out] at hf' hs
              rw [HC.out] at hf'
              omega
      · obtain ⟨hI1, hI2⟩ := HI.out
        obtain ⟨hJ1, hJ2⟩ := HJ.out
        have hKo := HK.out
        cases sv with
        | false =>
          have hno : ∀ i (hi : i < names.length), Pl.com s a (names[i]) < d := fun i hi => by
            rcases Nat.lt_or_ge (Pl.com s a (names[i])) d with h' | h'
            · exact h'
            · exact absurd (hJ1.2 ⟨i, hi, by omega, h'⟩) (by simp)
          have hd1 : 1 ≤ d := by have := hno 0 hpos; omega
          have HRES : Hid (res = none ∧ b = k - 1) := by
            have hnm := Pl.nm_none s a names 0 0 (d - 1) (fun x hx hf => by
                obtain ⟨i, hi, rfl⟩ := List.getElem_of_mem hx
                have := hno i hi; have h2 := hI1 i hi hf; have h3 : Pl.com s a (names[i]) = _ := hf; omega) (by omega)
              (fun x hx => by obtain ⟨i, hi, rfl⟩ := List.getElem_of_mem hx; have := hno i hi; omega)
              (by rcases hI2 with h' | ⟨i, hi, h'⟩
                  · omega
                  · exact .inr ⟨_, List.getElem_mem hi, by have := hno i hi; omega⟩)
            rw [HR.out] at hnm
            simp only [Prod.mk.injEq] at hnm
            exact ⟨hnm.1, by omega⟩
          have hk1 : 1 ≤ k := by omega
          clear hno hI1 hI2 hJ1 hJ2 hKo
          go_wp2_with fail
          have e1 : ((k - 1 : Nat) : Int) = (k : Int) - 1 := by omega
          have hp3 : Pn pb s (k - 1) (-1) l (wr.setCell ⟨pb, 1, none⟩ (.int .i64 ((k : Int) - 1))) := by rw [← e1]; exact hp2.set1 _
          refine (fail_new pb s (k - 1) l _ hp3).mono ?_
          rintro e w4 ⟨rfl, hp4, hg4⟩
          go_wp2
          go_ret
          refine ⟨.inr ⟨HRES.out.1, rfl, ?_⟩, grown_trans hg2 (grown_trans (grown_set _ _ _ _) hg4)⟩
          rw [HRES.out.2]; exact hp4
        | true =>
          obtain ⟨ix, hix, _, hdx⟩ := hJ1.1 rfl
          by_cases hend : k = s.size
          · have hq : ((k : Int) == (s.size : Int)) = true := by simp; omega
            have HRES : Hid (res = none ∧ b = k) := by
              have hle : ∀ i (hi : i < names.length), Pl.com s a (names[i]) ≤ d := fun i hi => by have := (Pl.com_le s a (names[i]) ha).2; omega
              have hnm := Pl.nm_none s a names 0 0 d (fun x hx hf => by
                  obtain ⟨i, hi, rfl⟩ := List.getElem_of_mem hx
                  have h1 := hle i hi; have h2 := hI1 i hi hf; have h3 : Pl.com s a (names[i]) = _ := hf
                  exact hJ2 i hi (by omega) hf (by omega)) (by omega)
                (fun x hx => by obtain ⟨i, hi, rfl⟩ := List.getElem_of_mem hx; exact hle i hi)
                (.inr ⟨_, List.getElem_mem hix, by have := hle ix hix; omega⟩)
              rw [HR.out] at hnm
              simp only [Prod.mk.injEq] at hnm
              exact ⟨hnm.1, by omega⟩
            clear hI1 hI2 hJ1 hJ2 hKo hdx hend
            go_wp2_with fail
            refine (fail_new pb s k l _ (hp2.set1 k)).mono ?_
            rintro e w4 ⟨rfl, hp4, hg4⟩
            go_wp2
            go_ret
            refine ⟨.inr ⟨HRES.out.1, rfl, ?_⟩, grown_trans hg2 (grown_trans (grown_set _ _ _ _) hg4)⟩
            rw [HRES.out.2]; exact hp4
          · have hq : ((k : Int) == (s.size : Int)) = false := by simp; omega
            have HN : Hid ((∀ i (hi : i < names.length), Pl.Full s a (names[i]) → d + 1 ≤ (names[i]).size) ∧ (d + 1 = 0 ∨ ∃ i, ∃ hi : i < names.length, d + 1 ≤ Pl.com s a (names[i]) + 1)) :=
              ⟨fun i hi hf => by have h1 := hI1 i hi hf; have h2 := hJ2 i hi (by omega) hf; omega, .inr ⟨ix, hix, by omega⟩⟩
            have hk3 : k < s.size := by omega
            have HKO : Hid (a + (d + 1) = k + 1) := by show _ = _; omega
            clear hI1 hI2 hJ1 hJ2 hKo hdx hend
            go_wp2
            refine ⟨⟨d + 1, by rw [HKO.out]; go_num, by have := HKO.out; omega, hp2, hn2, hg2, HN⟩, by simp [intOf]; omega⟩

end Go.Proofs.YtcmgclckknpecaaGreatDoor

namespace Go.Proofs.YtcmgclckknpecaaGreatDoor
open Go.RowKit

def cutB (y : ByteArray) : Bool := (y.toList == [119, 111, 114, 100, 115] || y.toList == [98, 108, 97, 110, 107, 115]) || y.toList == [119, 104, 111, 108, 101]
set_option maxHeartbeats 400000 in
theorem cutter_any (y : ByteArray) (w : World) : Calls Tryz.prog 73 #[.string y] w fun e w' => e = .returned (.bool (cutB y)) ∧ w' = w := by
  have hc : cutB y = ((y.toList == [119, 111, 114, 100, 115] || y.toList == [98, 108, 97, 110, 107, 115]) || y.toList == [119, 104, 111, 108, 101]) := rfl
  by_cases h1 : (y.toList == [119, 111, 114, 100, 115]) = true
  · have hq : cutB y = true := by rw [hc, h1]; rfl
    rw [hq]
    clear hq hc
    go_enter Tryz.func73, Tryz.ntmps73
    go_wp2
    go_ret
    exact ⟨rfl, rfl⟩
  · have h1' : (y.toList == [119, 111, 114, 100, 115]) = false := eq_false_of_ne_true h1
    by_cases h2 : (y.toList == [98, 108, 97, 110, 107, 115]) = true
    · have hq : cutB y = true := by rw [hc, h1', h2]; rfl
      rw [hq]
      clear hq hc h1
      go_enter Tryz.func73, Tryz.ntmps73
      go_wp2
      go_ret
      exact ⟨rfl, rfl⟩
    · have h2' : (y.toList == [98, 108, 97, 110, 107, 115]) = false := eq_false_of_ne_true h2
      obtain ⟨q, h3⟩ : ∃ q, (y.toList == [119, 104, 111, 108, 101]) = q := ⟨_, rfl⟩
      have hq : cutB y = q := by rw [hc, h1', h2', h3]; rfl
      rw [hq]
      clear hq hc h1 h2
      go_enter Tryz.func73, Tryz.ntmps73
      go_wp2
      go_ret
      exact ⟨rfl, rfl⟩

theorem starts_diff : ∀ i : Fin 6, ∀ j : Fin 6, i ≠ j → ∃ p : Fin 8, p.1 < (Pl.starts.getD i.1 ⟨#[]⟩).size ∧ p.1 < (Pl.starts.getD j.1 ⟨#[]⟩).size ∧ Pl.bt (Pl.starts.getD i.1 ⟨#[]⟩) p.1 ≠ Pl.bt (Pl.starts.getD j.1 ⟨#[]⟩) p.1 := by decide +kernel
theorem lates_diff : ∀ i : Fin 7, ∀ j : Fin 7, i ≠ j → ∃ p : Fin 8, p.1 < (Pl.lates.getD i.1 ⟨#[]⟩).size ∧ p.1 < (Pl.lates.getD j.1 ⟨#[]⟩).size ∧ Pl.bt (Pl.lates.getD i.1 ⟨#[]⟩) p.1 ≠ Pl.bt (Pl.lates.getD j.1 ⟨#[]⟩) p.1 := by decide +kernel
theorem full_at {s : ByteArray} {a : Nat} {y : ByteArray} (h : Pl.Full s a y) (p : Nat) (hp : p < y.size) : Pl.bt s (a + p) = Pl.bt y p := by
  have h' : y.size ≤ Pl.com s a y := by rw [show Pl.com s a y = y.size from h]; exact Nat.le_refl _
  exact ((Pl.com_ge_iff s a y y.size).1 h' p hp).2.2
theorem getD_get {l : List ByteArray} {i : Nat} (hi : i < l.length) : l.getD i ⟨#[]⟩ = l[i] := by simp [List.getD, hi]
theorem starts_unique (s : ByteArray) (a : Nat) : ∀ i (hi : i < Pl.starts.length) j (hj : j < Pl.starts.length), Pl.Full s a (Pl.starts[i]) → Pl.Full s a (Pl.starts[j]) → i = j := fun i hi j hj hfi hfj => by
  by_cases e : i = j
  · exact e
  · obtain ⟨p, h1, h2, h3⟩ := starts_diff ⟨i, hi⟩ ⟨j, hj⟩ (fun e' => e (congrArg Fin.val e'))
    simp only [getD_get hi, getD_get hj] at h1 h2 h3
    exact absurd ((full_at hfi p.1 h1).symm.trans (full_at hfj p.1 h2)) h3
theorem lates_unique (s : ByteArray) (a : Nat) : ∀ i (hi : i < Pl.lates.length) j (hj : j < Pl.lates.length), Pl.Full s a (Pl.lates[i]) → Pl.Full s a (Pl.lates[j]) → i = j := fun i hi j hj hfi hfj => by
  by_cases e : i = j
  · exact e
  · obtain ⟨p, h1, h2, h3⟩ := lates_diff ⟨i, hi⟩ ⟨j, hj⟩ (fun e' => e (congrArg Fin.val e'))
    simp only [getD_get hi, getD_get hj] at h1 h2 h3
    exact absurd ((full_at hfi p.1 h1).symm.trans (full_at hfj p.1 h2)) h3
theorem starts_size : ∀ i (hi : i < Pl.starts.length), (Pl.starts[i]).size ≤ 8 := by decide +kernel
theorem lates_size : ∀ i (hi : i < Pl.lates.length), (Pl.lates[i]).size ≤ 8 := by decide +kernel
theorem starts_cut : ∀ i (hi : i < Pl.starts.length), cutB (Pl.starts[i]) = decide (3 ≤ i) := by decide +kernel

theorem stage_start (pb B0 : Nat) (s : ByteArray) (a i : Nat) (hi : i < Pl.starts.length) (lv : Value) (n : Nat) (xs : List Value) (w : World) (hBp : B0 ≤ pb) (h : Pn pb s a (-1) lv w) (hL : w.ownsRow B0 207 5 lv n xs) (hLp : lv.ownBlock ≠ some pb) (hn : n ≤ 80) (hm : s.size ≤ 80) (ha : a ≤ s.size) (o : Bool) (b : Nat) (HR : Hid (Pl.body s (Pl.kindS i) a = (o, b))) :
    Calls Tryz.prog 72 #[.pointer (some ⟨pb, 0, none⟩), .string (Pl.starts[i])] w fun e w' => e = .returned (.tuple #[]) ∧ ∃ lv' xs', Pn pb s b (badOf o b) lv' w' ∧ w'.ownsRow B0 207 5 lv' (n + 1) xs' ∧ lv'.ownBlock ≠ some pb ∧ Below B0 w w' := by
  have hi6 : i < 6 := hi
  obtain rfl | rfl | rfl | rfl | rfl | rfl : i = 0 ∨ i = 1 ∨ i = 2 ∨ i = 3 ∨ i = 4 ∨ i = 5 := by omega
  · obtain ⟨rfl, rfl⟩ : true = o ∧ a = b := by simpa [Pl.body, Pl.kindS] using HR.out
    change Calls Tryz.prog 72 #[.pointer (some ⟨pb, 0, none⟩), .string (⟨#[116, 97, 103, 115]⟩ : ByteArray)] w _
    exact stage_k0 pb B0 s a _ 3 (by decide) (by decide) lv n xs w hBp h hL hLp hn rfl
  · obtain ⟨rfl, rfl⟩ : true = o ∧ a = b := by simpa [Pl.body, Pl.kindS] using HR.out
    change Calls Tryz.prog 72 #[.pointer (some ⟨pb, 0, none⟩), .string (⟨#[102, 111, 108, 100]⟩ : ByteArray)] w _
    exact stage_k0 pb B0 s a _ 3 (by decide) (by decide) lv n xs w hBp h hL hLp hn rfl
  · have hr : Pl.lst s (Pl.pairP s) (s.size + 1) a = (o, b) := by simpa [Pl.body, Pl.kindS] using HR.out
    change Calls Tryz.prog 72 #[.pointer (some ⟨pb, 0, none⟩), .string (⟨#[109, 97, 112, 40]⟩ : ByteArray)] w _
    exact stage_map pb B0 s a _ 3 (by decide) (by decide) lv n xs w hBp h hL hLp hn hm ha rfl (by decide +kernel) o b hr
  · obtain ⟨rfl, rfl⟩ : true = o ∧ a = b := by simpa [Pl.body, Pl.kindS] using HR.out
    change Calls Tryz.prog 72 #[.pointer (some ⟨pb, 0, none⟩), .string (⟨#[119, 111, 114, 100, 115]⟩ : ByteArray)] w _
    exact stage_k0 pb B0 s a _ 4 (by decide) (by decide) lv n xs w hBp h hL hLp hn rfl
  · obtain ⟨rfl, rfl⟩ : true = o ∧ a = b := by simpa [Pl.body, Pl.kindS] using HR.out
    change Calls Tryz.prog 72 #[.pointer (some ⟨pb, 0, none⟩), .string (⟨#[98, 108, 97, 110, 107, 115]⟩ : ByteArray)] w _
    exact stage_k0 pb B0 s a _ 5 (by decide) (by decide) lv n xs w hBp h hL hLp hn rfl
  · obtain ⟨rfl, rfl⟩ : true = o ∧ a = b := by simpa [Pl.body, Pl.kindS] using HR.out
    change Calls Tryz.prog 72 #[.pointer (some ⟨pb, 0, none⟩), .string (⟨#[119, 104, 111, 108, 101]⟩ : ByteArray)] w _
    exact stage_k0 pb B0 s a _ 4 (by decide) (by decide) lv n xs w hBp h hL hLp hn rfl

theorem stage_late (pb B0 : Nat) (s : ByteArray) (a i : Nat) (hi : i < Pl.lates.length) (lv : Value) (n : Nat) (xs : List Value) (w : World) (hBp : B0 ≤ pb) (h : Pn pb s a (-1) lv w) (hL : w.ownsRow B0 207 5 lv n xs) (hLp : lv.ownBlock ≠ some pb) (hn : n ≤ 80) (hm : s.size ≤ 80) (ha : a ≤ s.size) (o : Bool) (b : Nat) (HR : Hid (Pl.body s (Pl.kindL i) a = (o, b))) :
    Calls Tryz.prog 72 #[.pointer (some ⟨pb, 0, none⟩), .string (Pl.lates[i])] w fun e w' => e = .returned (.tuple #[]) ∧ ∃ lv' xs', Pn pb s b (badOf o b) lv' w' ∧ w'.ownsRow B0 207 5 lv' (n + 1) xs' ∧ lv'.ownBlock ≠ some pb ∧ Below B0 w w' := by
  have hi6 : i < 7 := hi
  obtain rfl | rfl | rfl | rfl | rfl | rfl | rfl : i = 0 ∨ i = 1 ∨ i = 2 ∨ i = 3 ∨ i = 4 ∨ i = 5 ∨ i = 6 := by omega
  · obtain ⟨rfl, rfl⟩ : true = o ∧ a = b := by simpa [Pl.body, Pl.kindL] using HR.out
    change Calls Tryz.prog 72 #[.pointer (some ⟨pb, 0, none⟩), .string (⟨#[108, 111, 119]⟩ : ByteArray)] w _
    exact stage_k0 pb B0 s a _ 2 (by decide) (by decide) lv n xs w hBp h hL hLp hn rfl
  · obtain ⟨rfl, rfl⟩ : true = o ∧ a = b := by simpa [Pl.body, Pl.kindL] using HR.out
    change Calls Tryz.prog 72 #[.pointer (some ⟨pb, 0, none⟩), .string (⟨#[115, 116, 101, 109]⟩ : ByteArray)] w _
    exact stage_k0 pb B0 s a _ 3 (by decide) (by decide) lv n xs w hBp h hL hLp hn rfl
  · have hr : Pl.lst s (Pl.word s) (s.size + 1) a = (o, b) := by simpa [Pl.body, Pl.kindL] using HR.out
    change Calls Tryz.prog 72 #[.pointer (some ⟨pb, 0, none⟩), .string (⟨#[115, 116, 111, 112, 40]⟩ : ByteArray)] w _
    exact stage_stop pb B0 s a _ 4 (by decide) (by decide) lv n xs w hBp h hL hLp hn hm ha rfl (by decide +kernel) (by decide +kernel) (by decide +kernel) o b hr
  · have hr : Pl.lst s (Pl.pairP s) (s.size + 1) a = (o, b) := by simpa [Pl.body, Pl.kindL] using HR.out
    change Calls Tryz.prog 72 #[.pointer (some ⟨pb, 0, none⟩), .string (⟨#[115, 121, 110, 40]⟩ : ByteArray)] w _
    exact stage_syn pb B0 s a _ 3 (by decide) (by decide) lv n xs w hBp h hL hLp hn hm ha rfl (by decide +kernel) (by decide +kernel) o b hr
  · have hr : Pl.bnds s a = (o, b) := by simpa [Pl.body, Pl.kindL] using HR.out
    change Calls Tryz.prog 72 #[.pointer (some ⟨pb, 0, none⟩), .string (⟨#[108, 101, 110, 40]⟩ : ByteArray)] w _
    exact stage_num pb B0 s a _ 3 (by decide) (by decide) lv n xs w hBp h hL hLp hn hm ha rfl (by decide +kernel) (by decide +kernel) (by decide +kernel) o b hr
  · have hr : Pl.bnds s a = (o, b) := by simpa [Pl.body, Pl.kindL] using HR.out
    change Calls Tryz.prog 72 #[.pointer (some ⟨pb, 0, none⟩), .string (⟨#[103, 114, 97, 109, 40]⟩ : ByteArray)] w _
    exact stage_num pb B0 s a _ 4 (by decide) (by decide) lv n xs w hBp h hL hLp hn hm ha rfl (by decide +kernel) (by decide +kernel) (by decide +kernel) o b hr
  · have hr : Pl.bnds s a = (o, b) := by simpa [Pl.body, Pl.kindL] using HR.out
    change Calls Tryz.prog 72 #[.pointer (some ⟨pb, 0, none⟩), .string (⟨#[101, 100, 103, 101, 40]⟩ : ByteArray)] w _
    exact stage_num pb B0 s a _ 4 (by decide) (by decide) lv n xs w hBp h hL hLp hn hm ha rfl (by decide +kernel) (by decide +kernel) (by decide +kernel) o b hr

end Go.Proofs.YtcmgclckknpecaaGreatDoor

namespace Go.Proofs.YtcmgclckknpecaaGreatDoor
open Go.RowKit

/-- What is told of a chain that was read. -/
def verdict (R : (Bool × Nat) × Nat) : Nat × Nat := if R.1.1 = true then (if 8 < R.2 then (3, 0) else (0, 0)) else (2, R.1.2)

theorem nms_new (names : List ByteArray) (W : World) : Nms W.heap.size names (W.alloc (.cells ((names.map Value.string).toArray) 9)) := by
  have hh := heap_alloc_new W (.cells ((names.map Value.string).toArray) 9)
  refine ⟨fun i hi => ?_, by simp⟩
  have h1 := World.news_of_block hh i (.string names[i]) (by simp [hi])
  have h2 : ((⟨W.heap.size, 0, none⟩ : Addr).add i) = ⟨W.heap.size, i, none⟩ := by
    unfold Addr.add
    by_cases h : i = 0
    · subst h; rfl
    · rw [if_neg h, Nat.zero_add]
  rw [h2] at h1; exact h1

theorem chn_none (s : ByteArray) (m : Nat) (cut : Bool) (a c b : Nat) (h : Pl.nm s a (if cut = true then Pl.lates else Pl.starts) 0 0 = (none, b)) : Pl.chn s (m + 1) cut a c = ((false, b), c) := by
  unfold Pl.chn; rw [h]
theorem chn_some (s : ByteArray) (m : Nat) (cut : Bool) (a c b i : Nat) (o : Bool) (d : Nat) (h : Pl.nm s a (if cut = true then Pl.lates else Pl.starts) 0 0 = (some i, b)) (hb : Pl.body s (if cut = true then Pl.kindL i else Pl.kindS i) b = (o, d)) :
    Pl.chn s (m + 1) cut a c = if o = true then (if (cut = true ∨ 3 ≤ i) ∧ d = s.size then ((true, d), c + 1) else if Pl.byteIn s 59 59 d = true then Pl.chn s m (cut || decide (3 ≤ i)) (d + 1) (c + 1) else ((false, d), c + 1)) else ((false, d), c + 1) := by
  rw [Pl.chn]; simp only [h, hb]

theorem Pn.below {pb : Nat} {s : ByteArray} {a : Nat} {bad : Int} {l : Value} {w : World} (h : Pn pb s a bad l w) (O : Obj) : Pn pb s a bad l (w.alloc O) := h.of_below ((Below.refl _ w).alloc (Nat.le_refl _) O)
theorem nm_le (s : ByteArray) (a : Nat) (ha : a ≤ s.size) : ∀ (names : List ByteArray) (i lg : Nat) (res : Option Nat) (b : Nat), a + lg ≤ s.size → Pl.nm s a names i lg = (res, b) → a ≤ b ∧ b ≤ s.size
  | [], i, lg, res, b, hlg, h => by simp only [Pl.nm, Prod.mk.injEq] at h; omega
  | w :: r, i, lg, res, b, hlg, h => by
    have hc := Pl.com_le s a w ha
    unfold Pl.nm at h
    by_cases hf : Pl.com s a w = w.size
    · rw [if_pos hf] at h
      simp only [Prod.mk.injEq] at h
      omega
    · rw [if_neg hf] at h
      exact nm_le s a ha r (i + 1) _ res b (by omega) h
theorem nm_pos (s : ByteArray) (a : Nat) : ∀ (names : List ByteArray) (i lg j b : Nat), (∀ w ∈ names, 1 ≤ w.size) → Pl.nm s a names i lg = (some j, b) → a < b
  | [], i, lg, j, b, _, h => by simp [Pl.nm] at h
  | w :: r, i, lg, j, b, hp, h => by
    have h1 := hp w (by simp)
    unfold Pl.nm at h
    by_cases hf : Pl.com s a w = w.size
    · rw [if_pos hf] at h
      simp only [Prod.mk.injEq] at h
      omega
    · rw [if_neg hf] at h
      exact nm_pos s a r (i + 1) _ j b (fun x hx => hp x (by simp [hx])) h
theorem lst_fits (s : ByteArray) (item : Nat → Bool × Nat) (hi : Pl.Fits s item) : ∀ m, Pl.Fits s (Pl.lst s item m)
  | 0, a, ha => ⟨Nat.le_refl _, ha⟩
  | m + 1, a, ha => by
    unfold Pl.lst
    refine Pl.thenP_fits (hi a ha) fun b hb => ?_
    split
    · have h1 := (Pl.byteIn_lt (by assumption)).1
      have := lst_fits s item hi m (b + 1) (by omega)
      omega
    · exact Pl.sign_fits s 41 b hb
theorem bnds_fits (s : ByteArray) : Pl.Fits s (Pl.bnds s) := fun a ha => by
  unfold Pl.bnds; split
  · have h1 := (Pl.byteIn_lt (by assumption)).1
    have h2 := Pl.sign_fits s 44 (a + 1) (by omega)
    have := Pl.thenP_fits (s := s) (r := Pl.sign s 44 (a + 1)) (k := fun b => if Pl.byteIn s (Pl.bt s a) 57 b = true then Pl.sign s 41 (b + 1) else (false, b)) h2 (fun b hb => by
      dsimp only
      split
      · have h3 := (Pl.byteIn_lt (by assumption)).1
        have := Pl.sign_fits s 41 (b + 1) (by omega)
        omega
      · exact ⟨Nat.le_refl _, hb⟩)
    omega
  · exact ⟨Nat.le_refl _, ha⟩
theorem body_fits (s : ByteArray) (k : Nat) : Pl.Fits s (Pl.body s k) := fun a ha => by
  unfold Pl.body
  repeat' split
  · exact lst_fits s _ (Pl.pair_fits s) _ a ha
  · exact lst_fits s _ (Pl.word_fits s) _ a ha
  · exact bnds_fits s a ha
  · exact ⟨Nat.le_refl _, ha⟩
theorem starts_pos : ∀ w ∈ Pl.starts, 1 ≤ w.size := by decide +kernel
theorem lates_pos : ∀ w ∈ Pl.lates, 1 ≤ w.size := by decide +kernel

theorem slice_of {w : World} {base : Nat} {e : TypeId} {size : Nat} {v : Value} {n : Nat} {xs : List Value} (h : w.ownsRow base e size v n xs) : ∃ p c, v = .slice p n c := by
  rcases h.2 with ⟨h1, h2⟩ | ⟨g, cap, _, h1, _⟩
  · exact ⟨none, 0, by rw [h1, h2]⟩
  · exact ⟨_, cap, h1⟩

end Go.Proofs.YtcmgclckknpecaaGreatDoor
