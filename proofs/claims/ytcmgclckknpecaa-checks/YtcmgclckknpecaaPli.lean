import Derived.Test.YtcmgclckknpecaaPes
import Derived.Test.YtcmgclckknpecaaRdl
namespace Go.Proofs.Ytcmgclckknpecaa
open Go.RowKit

/-- A stage of the document's, in block sb. -/
def Sb (sb : Nat) (v0 v1 v2 v3 v4 : Value) (W : World) : Prop := W.heap[sb]? = some (.cells #[v0, v1, v2, v3, v4] 87 (0, 0))
theorem Sb.cell {sb : Nat} {v0 v1 v2 v3 v4 : Value} {W : World} (h : Sb sb v0 v1 v2 v3 v4 W) : W.cell? ⟨sb, 0, none⟩ = some v0 ∧ W.cell? ⟨sb, 1, none⟩ = some v1 ∧ W.cell? ⟨sb, 2, none⟩ = some v2 ∧ W.cell? ⟨sb, 3, none⟩ = some v3 ∧ W.cell? ⟨sb, 4, none⟩ = some v4 ∧ (∀ o, W.frozen? ⟨sb, o, none⟩ = false) := by
  unfold Sb at h
  simp [World.cell?, World.frozen?, h]
theorem Sb.lt {sb : Nat} {v0 v1 v2 v3 v4 : Value} {W : World} (h : Sb sb v0 v1 v2 v3 v4 W) : sb < W.heap.size := (Array.getElem?_eq_some_iff.1 h).1
theorem Sb.keep {sb : Nat} {v0 v1 v2 v3 v4 : Value} {W W' : World} {row : Option Nat} (h : Sb sb v0 v1 v2 v3 v4 W) (hg : W.grownBy W' row) (hne : row ≠ some sb) : Sb sb v0 v1 v2 v3 v4 W' :=
  (hg.block sb h.lt (Ne.symm hne)).trans h
theorem heap_set (W : World) (b o : Nat) (v : Value) (cs : Array Value) (t : TypeId) (h : W.heap[b]? = some (.cells cs t (0, 0))) : (W.setCell ⟨b, o, none⟩ v).heap[b]? = some (.cells (cs.setIfInBounds o v) t (0, 0)) := by
  obtain ⟨hlt, hk⟩ := Array.getElem?_eq_some_iff.1 h
  show (W.heap.modify b _)[b]? = _
  rw [Array.getElem?_eq_getElem (by rw [Array.size_modify]; exact hlt), Array.getElem_modify_self, hk]
  rfl
theorem Sb.set1 {sb : Nat} {v0 v1 v2 v3 v4 : Value} {W : World} (h : Sb sb v0 v1 v2 v3 v4 W) (v : Value) : Sb sb v0 v v2 v3 v4 (W.setCell ⟨sb, 1, none⟩ v) := heap_set W sb 1 v _ 87 h
theorem Sb.set2 {sb : Nat} {v0 v1 v2 v3 v4 : Value} {W : World} (h : Sb sb v0 v1 v2 v3 v4 W) (v : Value) : Sb sb v0 v1 v v3 v4 (W.setCell ⟨sb, 2, none⟩ v) := heap_set W sb 2 v _ 87 h
theorem Sb.set3 {sb : Nat} {v0 v1 v2 v3 v4 : Value} {W : World} (h : Sb sb v0 v1 v2 v3 v4 W) (v : Value) : Sb sb v0 v1 v2 v v4 (W.setCell ⟨sb, 3, none⟩ v) := heap_set W sb 3 v _ 87 h
theorem Sb.set4 {sb : Nat} {v0 v1 v2 v3 v4 : Value} {W : World} (h : Sb sb v0 v1 v2 v3 v4 W) (v : Value) : Sb sb v0 v1 v2 v3 v (W.setCell ⟨sb, 4, none⟩ v) := heap_set W sb 4 v _ 87 h
theorem row_ne_sb {W : World} {base : Nat} {e : TypeId} {size : Nat} {v : Value} {n : Nat} {xs : List Value} {sb : Nat} {v0 v1 v2 v3 v4 : Value} (hr : W.ownsRow base e size v n xs) (h : Sb sb v0 v1 v2 v3 v4 W) (he : e ≠ 87) : v.ownBlock ≠ some sb := by
  rcases hr.2 with ⟨rfl, _⟩ | ⟨g, cap, cur, rfl, _, hgb, _⟩
  · simp [Value.ownBlock]
  · intro e'
    obtain rfl : g = sb := by simpa [Value.ownBlock] using e'
    rw [show W.heap[g]? = _ from h] at hgb
    simp at hgb
    exact he hgb.2.symm
theorem ownsRow_set_other {W : World} {base : Nat} {e : TypeId} {size : Nat} {v : Value} {n : Nat} {xs : List Value} {b : Nat} (hr : W.ownsRow base e size v n xs) (hne : v.ownBlock ≠ some b) (o : Nat) (u : Value) : (W.setCell ⟨b, o, none⟩ u).ownsRow base e size v n xs := by
  refine ⟨hr.1, ?_⟩
  rcases hr.2 with h | ⟨g, cap, cur, rfl, hb, hh, r⟩
  · exact .inl h
  · exact .inr ⟨g, cap, cur, rfl, hb, (Below.heap_setCell _ _ _ g (fun e => hne (by simp [Value.ownBlock, e]))).trans hh, r⟩
theorem Pn.grown {pb : Nat} {s : ByteArray} {a : Nat} {bad : Int} {l : Value} {w w' : World} {own : Option Nat} (h : Pn pb s a bad l w) (hg : w.grownBy w' own) (hne : own ≠ some pb) : Pn pb s a bad l w' :=
  ⟨(hg.cell_far ⟨pb, 0, none⟩ h.lt (Ne.symm hne)).trans h.c0, (hg.cell_far ⟨pb, 1, none⟩ h.lt (Ne.symm hne)).trans h.c1, (hg.cell_far ⟨pb, 2, none⟩ h.lt (Ne.symm hne)).trans h.c2, (hg.cell_far ⟨pb, 3, none⟩ h.lt (Ne.symm hne)).trans h.c3, fun o => (hg.frozen_far ⟨pb, o, none⟩ h.lt (Ne.symm hne)).trans (h.fz o), Nat.lt_of_lt_of_le h.lt hg.size⟩
theorem Pn.other {pb : Nat} {s : ByteArray} {a : Nat} {bad : Int} {l : Value} {w : World} (h : Pn pb s a bad l w) {b : Nat} (hne : b ≠ pb) (o : Nat) (v : Value) : Pn pb s a bad l (w.setCell ⟨b, o, none⟩ v) :=
  h.grown (grown_set w b o v) (by simpa using hne)

theorem thenP_sign (s : ByteArray) (m b : Nat) (o3 : Bool) (c3 : Nat) (item : Nat → Bool × Nat) (R : Bool × Nat) (hi : item b = (o3, c3)) (h : Pl.lst s item (m + 1) b = R) (hq : (o3 && Pl.byteIn s 44 44 c3) = false) : Pl.thenP (o3, c3) (Pl.sign s 41) = R := by
  unfold Pl.lst at h; rw [hi] at h
  cases o3 with
  | false => exact h
  | true =>
    have hq' : Pl.byteIn s 44 44 c3 = false := by simpa using hq
    simp only [Pl.thenP, if_true, hq', Bool.false_eq_true, if_false] at h
    exact h
theorem lst_more (s : ByteArray) (m b : Nat) (o3 : Bool) (c3 : Nat) (item : Nat → Bool × Nat) (R : Bool × Nat) (hi : item b = (o3, c3)) (h : Pl.lst s item (m + 1) b = R) (hq : (o3 && Pl.byteIn s 44 44 c3) = true) : o3 = true ∧ c3 < s.size ∧ Pl.lst s item m (c3 + 1) = R := by
  simp only [Bool.and_eq_true] at hq
  obtain ⟨rfl, hb⟩ := hq
  unfold Pl.lst at h; rw [hi] at h
  simp only [Pl.thenP, if_true, hb] at h
  exact ⟨rfl, (Pl.byteIn_lt hb).1, h⟩
theorem pair_assoc (s : ByteArray) (b : Nat) : Pl.thenP (Pl.thenP (Pl.word s b) (Pl.sign s 61)) (Pl.word s) = Pl.pairP s b := by
  unfold Pl.pairP Pl.thenP
  by_cases h : (Pl.word s b).1 = true <;> simp [h]

/-- A loop's bool, as a number. -/
def agN : Value → Nat
  | .bool true => 1
  | _ => 0

set_option maxHeartbeats 1000000 in
theorem plist_words (pb sb : Nat) (s : ByteArray) (a : Nat) (l t : Value) (w0 w : World) (hm : s.size ≤ 80) (ha : a ≤ s.size) (hg0 : w0.grownBy w (some pb)) (hpb : pb < w0.heap.size) (hsb : w0.heap.size ≤ sb) (h : Pn pb s a (-1) l w)
    (hS : Sb sb t (.slice none 0 0) (.slice none 0 0) (.int .i64 0) (.int .i64 0) w) (o : Bool) (d : Nat) (HR : Hid (Pl.lst s (Pl.word s) (s.size + 1) a = (o, d))) :
    Calls Try.prog 35 #[.pointer (some ⟨pb, 0, none⟩), .pointer (some ⟨sb, 0, none⟩), .bool false] w fun e w' => e = .returned (.tuple #[]) ∧ Pn pb s d (badOf o d) l w' ∧ w0.grownBy w' (some pb) ∧ ∃ p n c, Sb sb t (.slice p n c) (.slice none 0 0) (.int .i64 0) (.int .i64 0) w' := by
  obtain ⟨i0, hi, hz0, hz1, hz2⟩ := info_parts info9
  go_enter Try.func35, Try.ntmps35
  go_wp2
  go_loopw [6, 7, 8] (fun ag _ _ wr => ∃ (g ok : Bool) (b n : Nat) (xs : List Value) (v : Value), ag = .bool g ∧ b ≤ s.size ∧ Pn pb s b (badOf ok b) l wr ∧ w0.grownBy wr (some pb) ∧ Sb sb t v (.slice none 0 0) (.int .i64 0) (.int .i64 0) wr ∧ wr.ownsRow w0.heap.size 9 1 v n xs ∧
    Hid ((g = true ∧ ok = true ∧ n ≤ b ∧ ∃ m, s.size < b + m ∧ Pl.lst s (Pl.word s) m b = (o, d)) ∨ (g = false ∧ Pl.thenP (ok, b) (Pl.sign s 41) = (o, d)))) (fun ag _ _ wr => 2 * (200 - pplc pb wr) + agN ag)
  case atStart => exact ⟨true, true, a, 0, [], _, rfl, ha, h, hg0, hS, World.ownsRow_nil _ _ _ _, .inl ⟨rfl, rfl, by omega, s.size + 1, by omega, HR.out⟩⟩
  case round =>
    obtain ⟨g, ok, b, n, xs, v, rfl, hb, hp, hg, hs, hrow, HC⟩ := hrel
    rcases HC.out with ⟨rfl, rfl, hnb, m, hbm, hl⟩ | ⟨rfl, hfin⟩
    · obtain ⟨m, rfl⟩ : ∃ m', m = m' + 1 := ⟨m - 1, by omega⟩
      obtain ⟨⟨o1, c1⟩, hw⟩ : ∃ r, Pl.word s b = r := ⟨_, rfl⟩
      have hwf := Pl.word_fits s b hb
      rw [hw] at hwf
      obtain ⟨q, hq⟩ : ∃ q, (o1 && Pl.byteIn s 44 44 c1) = q := ⟨_, rfl⟩
      have HQ : Hid ((o1 && Pl.byteIn s 44 44 c1) = q) := hq
      have HW : Hid (Pl.thenP (true, b) (Pl.word s) = (o1, c1)) := hw
      have HWL : Hid (Pl.word s b = (o1, c1)) := hw
      have HL : Hid (Pl.lst s (Pl.word s) (m + 1) b = (o, d)) := hl
      have hsz := hg.size
      clear hq hw hl HC
      go_wp2_with fail
      refine (letters_st pb s true b l _ hm hb hp o1 c1 HW.out).mono ?_
      rintro e w1 ⟨t1, rfl, hp1, hg1⟩
      have hs1 := hs.keep hg1 (by simp; omega)
      have hrow1 := ownsRow_grown hrow hg1 hpb
      obtain ⟨k0, k1, k2, k3, k4, kf⟩ := hs1.cell
      have hz1' := hg1.size
      go_wp2_with (at_builtin; go_must (refine wpList_append_lies _ (by rfl) _ _ 44 (by rfl) w0.heap.size 9 i0 (.string ⟨#[]⟩) 1 16 Try.underlying44 hi hz0 hz1 hz2 rfl (by decide) _ n xs (by rfl) (hrow1.alloc _) ⟨w1.heap.size, 0, none⟩ 1 1 [.string t1] (by rfl) rfl (World.news_of_block (heap_alloc_new w1 _)) (by simp [Value.oneCell']) (by decide) (by unfold maxLen; omega) (by omega) (by simp; omega) (w1.heap.size + 1) (by simp) ?_); intro g2 cap w2 hown hgrow hat hlt2; have hne2 := row_ne_sb hrow1 hs1 (by decide); have hs2 := (hs1.keep (World.grownBy_alloc w1 _ none) (by simp)).keep hgrow hne2; obtain ⟨j0, j1, j2, j3, j4, jf⟩ := hs2.cell)
      have hge2 : ∀ x, v.ownBlock = some x → w0.heap.size ≤ x := fun x e => (ownBlock_lt hrow1 e).2
      have hp2 := ((hp1.grown (World.grownBy_alloc w1 (.cells #[.string t1] 9) none) (by simp)).grown hgrow (by intro e; have := hge2 _ e; omega)).other (b := sb) (by omega) 1 (Value.slice (some ⟨g2, 0, none⟩) (n + 1) cap)
      have hg2 : w0.grownBy (w2.setCell ⟨sb, 1, none⟩ (Value.slice (some ⟨g2, 0, none⟩) (n + 1) cap)) (some pb) := grown_set_new (grown_own (grown_alloc (grown_trans hg hg1) _) hgrow hge2) hsb _ _
      have hrow2 := ownsRow_set_other hown (row_ne_sb hown hs2 (by decide)) 1 (Value.slice (some ⟨g2, 0, none⟩) (n + 1) cap)
      have hs2' := hs2.set1 (Value.slice (some ⟨g2, 0, none⟩) (n + 1) cap)
      refine (on_st pb s o1 c1 44 44 rfl l _ hm hwf.2 hp2 q HQ.out).mono ?_
      rintro e w3 ⟨rfl, hp3, hg3⟩
      have hs3 := hs2'.keep hg3 (by simp; omega)
      have hrow3 := ownsRow_grown hrow2 hg3 hpb
      have hg03 := grown_trans hg2 hg3
      clear hs2 hs1 hs hs2' hrow2 hrow1 hrow hown hgrow hp2 hp1 hg1 hg3 hg2 j0 j1 j2 j3 j4 jf k0 k1 k2 k3 k4 kf hne2 hat
      cases q with
      | true =>
        obtain ⟨rfl, hcs, hl2⟩ := lst_more s m b o1 c1 _ _ HWL.out HL.out HQ.out
        have hbc := word_one HWL.out
        have HL2 : Hid (Pl.lst s (Pl.word s) m (c1 + 1) = (o, d)) := hl2
        have f1 := hp3.c1
        have ff := hp3.fz
        clear hl2
        go_wp2
        go_roundw
        case rel =>
          have e1 : ((c1 + 1 : Nat) : Int) = (c1 : Int) + 1 := by omega
          refine ⟨true, true, c1 + 1, n + 1, _, _, rfl, by omega, ?_, grown_trans hg03 (grown_set _ _ _ _), hs3.keep (grown_set _ _ _ _) (by simp; omega), ownsRow_grown hrow3 (grown_set _ _ _ _) hpb, .inl ⟨rfl, rfl, by omega, m, by omega, HL2.out⟩⟩
          rw [← e1]; exact hp3.set1 _
        case measure =>
          have e1 : ((c1 + 1 : Nat) : Int) = (c1 : Int) + 1 := by omega
          rw [← e1, pplc_eq (hp3.set1 (c1 + 1)), pplc_eq hp]; simp [agN]; omega
      | false =>
        have HF : Hid (Pl.thenP (o1, c1) (Pl.sign s 41) = (o, d)) := thenP_sign s m b o1 c1 _ _ HWL.out HL.out HQ.out
        go_wp2
        go_roundw
        case rel => exact ⟨false, o1, c1, n + 1, _, _, rfl, hwf.2, hp3, hg03, hs3, hrow3, .inr ⟨rfl, HF.out⟩⟩
        case measure => rw [pplc_eq hp3, pplc_eq hp]; simp [agN]; omega
    · have HF : Hid (Pl.thenP (ok, b) (Pl.sign s 41) = (o, d)) := hfin
      clear HC hfin
      go_wp2_with fail
      refine (take_st pb s ok b 41 41 rfl l _ hm hb hp o d HF.out).mono ?_
      rintro e w1 ⟨rfl, hp1, hg1⟩
      go_wp2
      go_end0
      obtain ⟨p', n', c', hv⟩ : ∃ p' n' c', v = .slice p' n' c' := by
        rcases hrow.2 with ⟨h, _⟩ | ⟨g', cap, _, h, _⟩
        · exact ⟨_, _, _, h⟩
        · exact ⟨_, _, _, h⟩
      refine ⟨rfl, hp1, grown_trans hg hg1, p', n', c', ?_⟩
      rw [← hv]; exact hs.keep hg1 (by simp; omega)

end Go.Proofs.Ytcmgclckknpecaa
