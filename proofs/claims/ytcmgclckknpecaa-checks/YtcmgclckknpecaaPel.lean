import Derived.Test.YtcmgclckknpecaaPen
namespace Go.Proofs.Ytcmgclckknpecaa
open Go.RowKit

/-- The document's reader's place, read off the world. -/
def pplc (pb : Nat) (w : World) : Nat := match w.cell? ⟨pb, 1, none⟩ with
  | some (.int _ z) => z.toNat
  | _ => 0
theorem pplc_eq {pb : Nat} {s : ByteArray} {a : Nat} {bad : Int} {l : Value} {w : World} (h : Pn pb s a bad l w) : pplc pb w = a := by
  unfold pplc; rw [h.c1]; rfl

set_option maxHeartbeats 1000000 in
theorem letters_old (pb : Nat) (s : ByteArray) (a : Nat) (bad : Int) (hb : 0 ≤ bad) (l : Value) (w : World) (_hm : s.size ≤ 80) (ha : a ≤ s.size) (h : Pn pb s a bad l w) :
    Calls Try.prog 45 #[.pointer (some ⟨pb, 0, none⟩)] w fun e w' => ∃ t, e = .returned (.string t) ∧ Pn pb s a bad l w' ∧ w.grownBy w' (some pb) := by
  have c1 := h.c1
  have hd : decide (bad < 0) = false := by simp; omega
  go_enter Try.func45, Try.ntmps45
  go_wp2
  go_loopw [8] (fun _ wr => ∃ q, wr = w.drewN q) (fun _ _ => 0)
  case atStart => exact ⟨0, rfl⟩
  case round =>
    obtain ⟨q, rfl⟩ := hrel
    have c0 := h.c0
    have c2 := h.c2
    go_wp2_with fail
    go_quiet (fail)
    go_wp2_with fail
    refine (fail_old pb s a bad hb l _ (h.drewN _)).mono ?_
    rintro e w2 ⟨rfl, hr2, hg2⟩
    have d0 := hr2.c0
    have d1 := hr2.c1
    have d2 := hr2.c2
    clear c0 c1 c2
    go_wp2
    go_quiet (fail)
    go_wp2
    go_ret
    exact ⟨_, rfl, hr2.drewN _, grown_trans (grown_drewN _ _ _) (grown_trans hg2 (grown_drewN _ _ _))⟩

set_option maxHeartbeats 2000000 in
theorem letters_new (pb : Nat) (s : ByteArray) (a : Nat) (l : Value) (w : World) (hm : s.size ≤ 80) (ha : a ≤ s.size) (h : Pn pb s a (-1) l w) (o : Bool) (E : Nat) (HW : Hid (Pl.word s a = (o, E))) :
    Calls Try.prog 45 #[.pointer (some ⟨pb, 0, none⟩)] w fun e w' => ∃ t, e = .returned (.string t) ∧ Pn pb s E (badOf o E) l w' ∧ w.grownBy w' (some pb) := by
  have hE : Pl.lets s 8 a = E := congrArg Prod.snd HW.out
  have ho : o = decide (a < E) := by rw [← hE]; exact (congrArg Prod.fst HW.out).symm
  have hfit := Pl.lets_fits s 8 a ha
  rw [hE] at hfit
  have HE : Hid (Pl.lets s 8 a = E) := hE
  clear hE
  have HO : Hid (o = decide (a < E)) := ho
  clear ho
  have c1 := h.c1
  have hwr : IntKind.i64.wrap ((a : Int) + 8) = (a : Int) + 8 := by rw [IntKind.wrap_i64]; omega
  go_enter Try.func45, Try.ntmps45
  go_wp2
  clear c1
  go_loopw [8] (fun _ wr => ∃ b m : Nat, a ≤ b ∧ b ≤ s.size ∧ b + m = a + 8 ∧ Hid (Pl.lets s m b = E) ∧ Pn pb s b (-1) l wr ∧ w.grownBy wr (some pb)) (fun _ wr => 200 - pplc pb wr)
  case atStart => exact ⟨a, 8, by omega, ha, rfl, HE, h, World.grownBy.refl _ _⟩
  case round =>
    obtain ⟨b, m, hab, hbs, hbm, HL, hr, hg⟩ := hrel
    have c0 := hr.c0
    have c1 := hr.c1
    have c2 := hr.c2
    have fz := hr.fz
    by_cases hyes : b < a + 8 ∧ Pl.byteIn s 97 122 b = true
    · obtain ⟨hb8, hy⟩ := hyes
      have HL2 : Hid (∃ m', m = m' + 1 ∧ Pl.lets s m' (b + 1) = E) := by
        have hl := HL.out
        cases m with
        | zero => omega
        | succ m => exact ⟨m, rfl, by unfold Pl.lets at hl; rw [if_pos hy] at hl; exact hl⟩
      obtain ⟨hlt, hl1, hl2⟩ := Pl.byteIn_lt hy
      rw [Pl.bt_eq hlt] at hl1 hl2
      have hlt' : (b : Int) < (s.size : Int) := by omega
      have hb8' : (b : Int) < (a : Int) + 8 := by omega
      have hg1 : (97 : Int) ≤ (s[b].toNat : Int) := by omega
      have hg2 : (s[b].toNat : Int) ≤ 122 := by omega
      clear hy
      go_wp2_with fail
      go_quiet (fail)
      go_wp2
      go_roundw
      case rel =>
        obtain ⟨m', rfl, hl⟩ := HL2.out
        have e1 : ((b + 1 : Nat) : Int) = (b : Int) + 1 := by omega
        refine ⟨b + 1, m', by omega, by omega, by omega, hl, ?_, grown_trans hg (grown_trans (grown_drewN _ _ _) (grown_set _ _ _ _))⟩
        rw [← e1]; exact (hr.drewN _).set1 _
      case measure =>
        have e1 : ((b + 1 : Nat) : Int) = (b : Int) + 1 := by omega
        rw [← e1, pplc_eq ((hr.drewN _).set1 (b + 1)), pplc_eq hr]; omega
    · have hbE : b = E := by
        have hl := HL.out
        cases m with
        | zero => exact hl
        | succ m => unfold Pl.lets at hl; rw [if_neg (fun e => hyes ⟨by omega, e⟩)] at hl; exact hl
      subst hbE
      have hcase : (¬ b < s.size) ∨ (b < s.size ∧ ¬ b < a + 8) ∨ (∃ hlt : b < s.size, b < a + 8 ∧ s[b].toNat < 97) ∨ (∃ hlt : b < s.size, b < a + 8 ∧ 97 ≤ s[b].toNat ∧ 122 < s[b].toNat) := by
        by_cases q1 : b < s.size
        · by_cases q2 : b < a + 8
          · have q3 : ¬ (97 ≤ s[b].toNat ∧ s[b].toNat ≤ 122) := fun q => hyes ⟨q2, Pl.byteIn_mk (by rw [Pl.bt_eq q1]; omega)⟩
            by_cases q4 : s[b].toNat < 97
            · exact .inr (.inr (.inl ⟨q1, q2, q4⟩))
            · exact .inr (.inr (.inr ⟨q1, q2, by omega, by omega⟩))
          · exact .inr (.inl ⟨q1, q2⟩)
        · exact .inl q1
      clear hyes
      rcases hcase with q | ⟨q1, q2⟩ | ⟨q1, q2, q3⟩ | ⟨q1, q2, q3, q4⟩
      · have hd : decide ((b : Int) < (s.size : Int)) = false := by simp; omega
        go_wp2_with fail
        go_quiet (fail)
        have hfz : o = decide (a < b) := HO.out
        by_cases hab2 : a < b
        · have hne : ((b : Int) == (a : Int)) = false := by simp; omega
          have ho : o = true := by rw [hfz]; simpa using hab2
          subst ho
          clear hfz
          go_wp2
          go_quiet (fail)
          go_wp2
          go_ret
          exact ⟨_, rfl, (hr.drewN _).drewN _, grown_trans hg (grown_trans (grown_drewN _ _ _) (grown_drewN _ _ _))⟩
        · have hne : ((b : Int) == (a : Int)) = true := by simp; omega
          have ho : o = false := by rw [hfz]; simpa using hab2
          subst ho
          clear hfz
          go_wp2_with fail
          refine (fail_new pb s b l _ (hr.drewN _)).mono ?_
          rintro e w2 ⟨rfl, hr2, hg2⟩
          have d0 := hr2.c0
          have d1 := hr2.c1
          clear c0 c1 c2 fz
          go_wp2
          go_quiet (fail)
          go_wp2
          go_ret
          exact ⟨_, rfl, hr2.drewN _, grown_trans hg (grown_trans (grown_drewN _ _ _) (grown_trans hg2 (grown_drewN _ _ _)))⟩
      · have q1' : (b : Int) < (s.size : Int) := by omega
        have hd : decide ((b : Int) < (a : Int) + 8) = false := by simp; omega
        go_wp2_with fail
        go_quiet (fail)
        have hfz : o = decide (a < b) := HO.out
        by_cases hab2 : a < b
        · have hne : ((b : Int) == (a : Int)) = false := by simp; omega
          have ho : o = true := by rw [hfz]; simpa using hab2
          subst ho
          clear hfz
          go_wp2
          go_quiet (fail)
          go_wp2
          go_ret
          exact ⟨_, rfl, (hr.drewN _).drewN _, grown_trans hg (grown_trans (grown_drewN _ _ _) (grown_drewN _ _ _))⟩
        · exfalso; omega
      · have q1' : (b : Int) < (s.size : Int) := by omega
        have q2' : (b : Int) < (a : Int) + 8 := by omega
        have hd : decide ((97 : Int) ≤ (s[b].toNat : Int)) = false := by simp; omega
        go_wp2_with fail
        go_quiet (fail)
        have hfz : o = decide (a < b) := HO.out
        by_cases hab2 : a < b
        · have hne : ((b : Int) == (a : Int)) = false := by simp; omega
          have ho : o = true := by rw [hfz]; simpa using hab2
          subst ho
          clear hfz
          go_wp2
          go_quiet (fail)
          go_wp2
          go_ret
          exact ⟨_, rfl, (hr.drewN _).drewN _, grown_trans hg (grown_trans (grown_drewN _ _ _) (grown_drewN _ _ _))⟩
        · have hne : ((b : Int) == (a : Int)) = true := by simp; omega
          have ho : o = false := by rw [hfz]; simpa using hab2
          subst ho
          clear hfz
          go_wp2_with fail
          refine (fail_new pb s b l _ (hr.drewN _)).mono ?_
          rintro e w2 ⟨rfl, hr2, hg2⟩
          have d0 := hr2.c0
          have d1 := hr2.c1
          clear c0 c1 c2 fz
          go_wp2
          go_quiet (fail)
          go_wp2
          go_ret
          exact ⟨_, rfl, hr2.drewN _, grown_trans hg (grown_trans (grown_drewN _ _ _) (grown_trans hg2 (grown_drewN _ _ _)))⟩
      · have q1' : (b : Int) < (s.size : Int) := by omega
        have q2' : (b : Int) < (a : Int) + 8 := by omega
        have q3' : (97 : Int) ≤ (s[b].toNat : Int) := by omega
        have hd : decide ((s[b].toNat : Int) ≤ 122) = false := by simp; omega
        go_wp2_with fail
        go_quiet (fail)
        have hfz : o = decide (a < b) := HO.out
        by_cases hab2 : a < b
        · have hne : ((b : Int) == (a : Int)) = false := by simp; omega
          have ho : o = true := by rw [hfz]; simpa using hab2
          subst ho
          clear hfz
          go_wp2
          go_quiet (fail)
          go_wp2
          go_ret
          exact ⟨_, rfl, (hr.drewN _).drewN _, grown_trans hg (grown_trans (grown_drewN _ _ _) (grown_drewN _ _ _))⟩
        · have hne : ((b : Int) == (a : Int)) = true := by simp; omega
          have ho : o = false := by rw [hfz]; simpa using hab2
          subst ho
          clear hfz
          go_wp2_with fail
          refine (fail_new pb s b l _ (hr.drewN _)).mono ?_
          rintro e w2 ⟨rfl, hr2, hg2⟩
          have d0 := hr2.c0
          have d1 := hr2.c1
          clear c0 c1 c2 fz
          go_wp2
          go_quiet (fail)
          go_wp2
          go_ret
          exact ⟨_, rfl, hr2.drewN _, grown_trans hg (grown_trans (grown_drewN _ _ _) (grown_trans hg2 (grown_drewN _ _ _)))⟩

end Go.Proofs.Ytcmgclckknpecaa
