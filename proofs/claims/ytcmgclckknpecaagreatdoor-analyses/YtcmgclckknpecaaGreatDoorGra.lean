import Derived.Test.YtcmgclckknpecaaGreatDoorHgd

namespace Go.Proofs.YtcmgclckknpecaaGreatDoor
open Go.RowKit

/-- The document's reader, in block pb: the text, the place, the bad place (or -1), the stages (a slice). -/
structure Pn (pb : Nat) (s : ByteArray) (a : Nat) (bad : Int) (l : Value) (w : World) : Prop where
  c0 : w.cell? ⟨pb, 0, none⟩ = some (.string s)
  c1 : w.cell? ⟨pb, 1, none⟩ = some (.int .i64 (a : Int))
  c2 : w.cell? ⟨pb, 2, none⟩ = some (.int .i64 bad)
  c3 : w.cell? ⟨pb, 3, none⟩ = some l
  fz : ∀ o, w.frozen? ⟨pb, o, none⟩ = false
  lt : pb < w.heap.size

theorem Pn.of_below {pb : Nat} {s : ByteArray} {a : Nat} {bad : Int} {l : Value} {w w' : World} (h : Pn pb s a bad l w) (hb : Below w.heap.size w w') : Pn pb s a bad l w' :=
  ⟨(hb.cell (p := ⟨pb, 0, none⟩) h.lt).trans h.c0, (hb.cell (p := ⟨pb, 1, none⟩) h.lt).trans h.c1, (hb.cell (p := ⟨pb, 2, none⟩) h.lt).trans h.c2, (hb.cell (p := ⟨pb, 3, none⟩) h.lt).trans h.c3, fun o => (hb.frozen (p := ⟨pb, o, none⟩) h.lt).trans (h.fz o), Nat.lt_of_lt_of_le h.lt hb.size⟩
theorem Pn.drewN {pb : Nat} {s : ByteArray} {a : Nat} {bad : Int} {l : Value} {w : World} (h : Pn pb s a bad l w) (n : Nat) : Pn pb s a bad l (w.drewN n) := h.of_below (below_drewN (Below.refl _ _) n)
theorem Pn.set1 {pb : Nat} {s : ByteArray} {a : Nat} {bad : Int} {l : Value} {w : World} (h : Pn pb s a bad l w) (b : Nat) : Pn pb s b bad l (w.setCell ⟨pb, 1, none⟩ (.int .i64 (b : Int))) :=
  ⟨(World.cell?_setCell_other _ _ _ _ (by simp)).trans h.c0, World.cell?_setCell_same _ _ _ h.c1, (World.cell?_setCell_other _ _ _ _ (by simp)).trans h.c2, (World.cell?_setCell_other _ _ _ _ (by simp)).trans h.c3, fun o => (World.frozen?_setCell _ _ _ _).trans (h.fz o), by simpa using h.lt⟩
theorem Pn.set2 {pb : Nat} {s : ByteArray} {a : Nat} {bad : Int} {l : Value} {w : World} (h : Pn pb s a bad l w) (b : Int) : Pn pb s a b l (w.setCell ⟨pb, 2, none⟩ (.int .i64 b)) :=
  ⟨(World.cell?_setCell_other _ _ _ _ (by simp)).trans h.c0, (World.cell?_setCell_other _ _ _ _ (by simp)).trans h.c1, World.cell?_setCell_same _ _ _ h.c2, (World.cell?_setCell_other _ _ _ _ (by simp)).trans h.c3, fun o => (World.frozen?_setCell _ _ _ _).trans (h.fz o), by simpa using h.lt⟩

/-- The state of the two readers in one: read so far without a fault, or the fault's place. -/
def badOf (ok : Bool) (a : Nat) : Int := if ok = true then -1 else (a : Int)

set_option maxHeartbeats 1000000 in
theorem fail_new (pb : Nat) (s : ByteArray) (a : Nat) (l : Value) (w : World) (h : Pn pb s a (-1) l w) :
    Calls Tryz.prog 132 #[.pointer (some ⟨pb, 0, none⟩)] w fun e w' => e = .returned (.tuple #[]) ∧ Pn pb s a (a : Int) l w' ∧ w.grownBy w' (some pb) := by
  have c1 := h.c1
  have c2 := h.c2
  have fz := h.fz
  go_enter Tryz.func132, Tryz.ntmps132
  go_wp2
  go_end0
  exact ⟨rfl, h.set2 _, grown_set _ _ _ _⟩

set_option maxHeartbeats 1000000 in
theorem fail_old (pb : Nat) (s : ByteArray) (a : Nat) (bad : Int) (hb : 0 ≤ bad) (l : Value) (w : World) (h : Pn pb s a bad l w) :
    Calls Tryz.prog 132 #[.pointer (some ⟨pb, 0, none⟩)] w fun e w' => e = .returned (.tuple #[]) ∧ Pn pb s a bad l w' ∧ w.grownBy w' (some pb) := by
  have c1 := h.c1
  have c2 := h.c2
  have fz := h.fz
  go_enter Tryz.func132, Tryz.ntmps132
  go_wp2
  go_end0
  exact ⟨rfl, h, World.grownBy.refl _ _⟩

set_option maxHeartbeats 1000000 in
theorem on_old (pb : Nat) (s : ByteArray) (a c : Nat) (bad : Int) (hb : 0 ≤ bad) (l : Value) (w : World) (h : Pn pb s a bad l w) :
    Calls Tryz.prog 135 #[.pointer (some ⟨pb, 0, none⟩), .int .u8 (c : Int)] w fun e w' => e = .returned (.bool false) ∧ Pn pb s a bad l w' ∧ w.grownBy w' (some pb) := by
  have c0 := h.c0
  have c1 := h.c1
  have c2 := h.c2
  have hd : decide (bad < 0) = false := by simp; omega
  go_enter Tryz.func135, Tryz.ntmps135
  go_wp2_with fail
  go_quiet (fail)
  go_wp2
  go_ret
  exact ⟨rfl, h.drewN _, grown_drewN _ _ _⟩

set_option maxHeartbeats 1000000 in
theorem on_new (pb : Nat) (s : ByteArray) (a c : Nat) (l : Value) (w : World) (_hm : s.size ≤ 80) (ha : a ≤ s.size) (h : Pn pb s a (-1) l w) :
    Calls Tryz.prog 135 #[.pointer (some ⟨pb, 0, none⟩), .int .u8 (c : Int)] w fun e w' => e = .returned (.bool (Pl.byteIn s c c a)) ∧ Pn pb s a (-1) l w' ∧ w.grownBy w' (some pb) := by
  have c0 := h.c0
  have c1 := h.c1
  have c2 := h.c2
  by_cases hlt : a < s.size
  · have hlt' : (a : Int) < (s.size : Int) := by omega
    have hbe := Pl.bt_eq hlt
    obtain ⟨B, hB⟩ : ∃ B, Pl.byteIn s c c a = B := ⟨_, rfl⟩
    have hq : ((s[a].toNat : Int) == (c : Int)) = B := by
      rw [← hB, Pl.byteIn, hbe, Bool.eq_iff_iff]; simp; omega
    rw [hB]
    clear hB hbe
    go_enter Tryz.func135, Tryz.ntmps135
    go_wp2_with fail
    go_quiet (fail)
    go_wp2
    go_ret
    exact ⟨rfl, h.drewN _, grown_drewN _ _ _⟩
  · have hd : decide ((a : Int) < (s.size : Int)) = false := by simp; omega
    have hb : Pl.byteIn s c c a = false := Pl.byteIn_no (by omega)
    rw [hb]
    clear hb
    go_enter Tryz.func135, Tryz.ntmps135
    go_wp2_with fail
    go_quiet (fail)
    go_wp2
    go_ret
    exact ⟨rfl, h.drewN _, grown_drewN _ _ _⟩

/-- take: where nothing is wrong yet. -/
theorem take_new (pb : Nat) (s : ByteArray) (a c : Nat) (ci : Int) (hci : ci = (c : Int)) (l : Value) (w : World) (hm : s.size ≤ 80) (ha : a ≤ s.size) (h : Pn pb s a (-1) l w) :
    Calls Tryz.prog 74 #[.pointer (some ⟨pb, 0, none⟩), .int .u8 ci] w fun e w' => e = .returned (.tuple #[]) ∧ Pn pb s (Pl.sign s c a).2 (badOf (Pl.sign s c a).1 (Pl.sign s c a).2) l w' ∧ w.grownBy w' (some pb) := by
  subst hci
  have hon := fun w h => on_new pb s a c l w hm ha h
  by_cases hb : Pl.byteIn s c c a = true
  · have hsg : Pl.sign s c a = (true, a + 1) := by simp [Pl.sign, hb]
    have hlt := (Pl.byteIn_lt hb).1
    rw [hsg]
    rw [hb] at hon
    have HON : Hid (∀ w, Pn pb s a (-1) l w → Calls Tryz.prog 135 #[.pointer (some ⟨pb, 0, none⟩), .int .u8 (c : Int)] w fun e w' => e = .returned (.bool true) ∧ Pn pb s a (-1) l w' ∧ w.grownBy w' (some pb)) := hon
    clear hon hb hsg
    go_enter Tryz.func74, Tryz.ntmps74
    go_wp2_with fail
    refine (HON.out _ h).mono ?_
    rintro e w1 ⟨rfl, hr1, hg1⟩
    have c1 := hr1.c1
    have fz := hr1.fz
    go_wp2
    go_end0
    have e1 : ((a + 1 : Nat) : Int) = (a : Int) + 1 := by omega
    refine ⟨rfl, ?_, grown_trans hg1 (grown_set _ _ _ _)⟩
    rw [← e1]; exact hr1.set1 _
  · have hb' : Pl.byteIn s c c a = false := by simpa using hb
    have hsg : Pl.sign s c a = (false, a) := by simp [Pl.sign, hb']
    rw [hsg]
    rw [hb'] at hon
    have HON : Hid (∀ w, Pn pb s a (-1) l w → Calls Tryz.prog 135 #[.pointer (some ⟨pb, 0, none⟩), .int .u8 (c : Int)] w fun e w' => e = .returned (.bool false) ∧ Pn pb s a (-1) l w' ∧ w.grownBy w' (some pb)) := hon
    clear hon hb hb' hsg
    go_enter Tryz.func74, Tryz.ntmps74
    go_wp2_with fail
    refine (HON.out _ h).mono ?_
    rintro e w1 ⟨rfl, hr1, hg1⟩
    go_wp2_with fail
    refine (fail_new pb s a l _ hr1).mono ?_
    rintro e w2 ⟨rfl, hr2, hg2⟩
    go_wp2
    go_end0
    exact ⟨rfl, hr2, grown_trans hg1 hg2⟩

/-- take: where something is wrong already. -/
theorem take_old (pb : Nat) (s : ByteArray) (a c : Nat) (ci : Int) (hci : ci = (c : Int)) (bad : Int) (hb : 0 ≤ bad) (l : Value) (w : World) (h : Pn pb s a bad l w) :
    Calls Tryz.prog 74 #[.pointer (some ⟨pb, 0, none⟩), .int .u8 ci] w fun e w' => e = .returned (.tuple #[]) ∧ Pn pb s a bad l w' ∧ w.grownBy w' (some pb) := by
  subst hci
  go_enter Tryz.func74, Tryz.ntmps74
  go_wp2_with fail
  refine (on_old pb s a c bad hb l _ h).mono ?_
  rintro e w1 ⟨rfl, hr1, hg1⟩
  go_wp2_with fail
  refine (fail_old pb s a bad hb l _ hr1).mono ?_
  rintro e w2 ⟨rfl, hr2, hg2⟩
  go_wp2
  go_end0
  exact ⟨rfl, hr2, grown_trans hg1 hg2⟩

end Go.Proofs.YtcmgclckknpecaaGreatDoor

namespace Go.Proofs.YtcmgclckknpecaaGreatDoor
open Go.RowKit

/-- The document's reader's place, read off the world. -/
def pplc (pb : Nat) (w : World) : Nat := match w.cell? ⟨pb, 1, none⟩ with
  | some (.int _ z) => z.toNat
  | _ => 0
theorem pplc_eq {pb : Nat} {s : ByteArray} {a : Nat} {bad : Int} {l : Value} {w : World} (h : Pn pb s a bad l w) : pplc pb w = a := by
  unfold pplc; rw [h.c1]; rfl

set_option maxHeartbeats 1000000 in
theorem letters_old (pb : Nat) (s : ByteArray) (a : Nat) (bad : Int) (hb : 0 ≤ bad) (l : Value) (w : World) (_hm : s.size ≤ 80) (ha : a ≤ s.size) (h : Pn pb s a bad l w) :
    Calls Tryz.prog 220 #[.pointer (some ⟨pb, 0, none⟩)] w fun e w' => ∃ t, e = .returned (.string t) ∧ Pn pb s a bad l w' ∧ w.grownBy w' (some pb) := by
  have c1 := h.c1
  have hd : decide (bad < 0) = false := by simp; omega
  go_enter Tryz.func220, Tryz.ntmps220
  go_wp2
  go_loopw [8] (fun _ wr => ∃ q, wr = w.drewN q) (fun _ _ => 0)
  case atStart => exact ⟨0, rfl⟩
  case round =>
    obtain ⟨q, rfl⟩ := hrel
    have c0 := h.c0
    have c2 := h.c2
    go_wp2_with fail
    go_quiet (fail)
    go_wp2_with fail
    refine (fail_old pb s a bad hb l _ (h.drewN _)).mono ?_
    rintro e w2 ⟨rfl, hr2, hg2⟩
    have d0 := hr2.c0
    have d1 := hr2.c1
    have d2 := hr2.c2
    clear c0 c1 c2
    go_wp2
    go_quiet (fail)
    go_wp2
    go_ret
    exact ⟨_, rfl, hr2.drewN _, grown_trans (grown_drewN _ _ _) (grown_trans hg2 (grown_drewN _ _ _))⟩

set_option maxHeartbeats 2000000 in
theorem letters_new (pb : Nat) (s : ByteArray) (a : Nat) (l : Value) (w : World) (hm : s.size ≤ 80) (ha : a ≤ s.size) (h : Pn pb s a (-1) l w) (o : Bool) (E : Nat) (HW : Hid (Pl.word s a = (o, E))) :
    Calls Tryz.prog 220 #[.pointer (some ⟨pb, 0, none⟩)] w fun e w' => ∃ t, e = .returned (.string t) ∧ Pn pb s E (badOf o E) l w' ∧ w.grownBy w' (some pb) := by
  have hE : Pl.lets s 8 a = E := congrArg Prod.snd HW.out
  have ho : o = decide (a < E) := by rw [← hE]; exact (congrArg Prod.fst HW.out).symm
  have hfit := Pl.lets_fits s 8 a ha
  rw [hE] at hfit
  have HE : Hid (Pl.lets s 8 a = E) := hE
  clear hE
  have HO : Hid (o = decide (a < E)) := ho
  clear ho
  have c1 := h.c1
  have hwr : IntKind.i64.wrap ((a : Int) + 8) = (a : Int) + 8 := by rw [IntKind.wrap_i64]; omega
  go_enter Tryz.func220, Tryz.ntmps220
  go_wp2
  clear c1
  go_loopw [8] (fun _ wr => ∃ b m : Nat, a ≤ b ∧ b ≤ s.size ∧ b + m = a + 8 ∧ Hid (Pl.lets s m b = E) ∧ Pn pb s b (-1) l wr ∧ w.grownBy wr (some pb)) (fun _ wr => 200 - pplc pb wr)
  case atStart => exact ⟨a, 8, by omega, ha, rfl, HE, h, World.grownBy.refl _ _⟩
  case round =>
    obtain ⟨b, m, hab, hbs, hbm, HL, hr, hg⟩ := hrel
    have c0 := hr.c0
    have c1 := hr.c1
    have c2 := hr.c2
    have fz := hr.fz
    by_cases hyes : b < a + 8 ∧ Pl.byteIn s 97 122 b = true
    · obtain ⟨hb8, hy⟩ := hyes
      have HL2 : Hid (∃ m', m = m' + 1 ∧ Pl.lets s m' (b + 1) = E) := by
        have hl := HL.out
        cases m with
        | zero => omega
        | succ m => exact ⟨m, rfl, by unfold Pl.lets at hl; rw [if_pos hy] at hl; exact hl⟩
      obtain ⟨hlt, hl1, hl2⟩ := Pl.byteIn_lt hy
      rw [Pl.bt_eq hlt] at hl1 hl2
      have hlt' : (b : Int) < (s.size : Int) := by omega
      have hb8' : (b : Int) < (a : Int) + 8 := by omega
      have hg1 : (97 : Int) ≤ (s[b].toNat : Int) := by omega
      have hg2 : (s[b].toNat : Int) ≤ 122 := by omega
      clear hy
      go_wp2_with fail
      go_quiet (fail)
      go_wp2
      go_roundw
      case rel =>
        obtain ⟨m', rfl, hl⟩ := HL2.out
        have e1 : ((b + 1 : Nat) : Int) = (b : Int) + 1 := by omega
        refine ⟨b + 1, m', by omega, by omega, by omega, hl, ?_, grown_trans hg (grown_trans (grown_drewN _ _ _) (grown_set _ _ _ _))⟩
        rw [← e1]; exact (hr.drewN _).set1 _
      case measure =>
        have e1 : ((b + 1 : Nat) : Int) = (b : Int) + 1 := by omega
        rw [← e1, pplc_eq ((hr.drewN _).set1 (b + 1)), pplc_eq hr]; omega
    · have hbE : b = E := by
        have hl := HL.out
        cases m with
        | zero => exact hl
        | succ m => unfold Pl.lets at hl; rw [if_neg (fun e => hyes ⟨by omega, e⟩)] at hl; exact hl
      subst hbE
      have hcase : (¬ b < s.size) ∨ (b < s.size ∧ ¬ b < a + 8) ∨ (∃ hlt : b < s.size, b < a + 8 ∧ s[b].toNat < 97) ∨ (∃ hlt : b < s.size, b < a + 8 ∧ 97 ≤ s[b].toNat ∧ 122 < s[b].toNat) := by
        by_cases q1 : b < s.size
        · by_cases q2 : b < a + 8
          · have q3 : ¬ (97 ≤ s[b].toNat ∧ s[b].toNat ≤ 122) := fun q => hyes ⟨q2, Pl.byteIn_mk (by rw [Pl.bt_eq q1]; omega)⟩
            by_cases q4 : s[b].toNat < 97
            · exact .inr (.inr (.inl ⟨q1, q2, q4⟩))
            · exact .inr (.inr (.inr ⟨q1, q2, by omega, by omega⟩))
          · exact .inr (.inl ⟨q1, q2⟩)
        · exact .inl q1
      clear hyes
      rcases hcase with q | ⟨q1, q2⟩ | ⟨q1, q2, q3⟩ | ⟨q1, q2, q3, q4⟩
      · have hd : decide ((b : Int) < (s.size : Int)) = false := by simp; omega
        go_wp2_with fail
        go_quiet (fail)
        have hfz : o = decide (a < b) := HO.out
        by_cases hab2 : a < b
        · have hne : ((b : Int) == (a : Int)) = false := by simp; omega
          have ho : o = true := by rw [hfz]; simpa using hab2
          subst ho
          clear hfz
          go_wp2
          go_quiet (fail)
          go_wp2
          go_ret
          exact ⟨_, rfl, (hr.drewN _).drewN _, grown_trans hg (grown_trans (grown_drewN _ _ _) (grown_drewN _ _ _))⟩
        · have hne : ((b : Int) == (a : Int)) = true := by simp; omega
          have ho : o = false := by rw [hfz]; simpa using hab2
          subst ho
          clear hfz
          go_wp2_with fail
          refine (fail_new pb s b l _ (hr.drewN _)).mono ?_
          rintro e w2 ⟨rfl, hr2, hg2⟩
          have d0 := hr2.c0
          have d1 := hr2.c1
          clear c0 c1 c2 fz
          go_wp2
          go_quiet (fail)
          go_wp2
          go_ret
          exact ⟨_, rfl, hr2.drewN _, grown_trans hg (grown_trans (grown_drewN _ _ _) (grown_trans hg2 (grown_drewN _ _ _)))⟩
      · have q1' : (b : Int) < (s.size : Int) := by omega
        have hd : decide ((b : Int) < (a : Int) + 8) = false := by simp; omega
        go_wp2_with fail
        go_quiet (fail)
        have hfz : o = decide (a < b) := HO.out
        by_cases hab2 : a < b
        · have hne : ((b : Int) == (a : Int)) = false := by simp; omega
          have ho : o = true := by rw [hfz]; simpa using hab2
          subst ho
          clear hfz
          go_wp2
          go_quiet (fail)
          go_wp2
          go_ret
          exact ⟨_, rfl, (hr.drewN _).drewN _, grown_trans hg (grown_trans (grown_drewN _ _ _) (grown_drewN _ _ _))⟩
        · exfalso; omega
      · have q1' : (b : Int) < (s.size : Int) := by omega
        have q2' : (b : Int) < (a : Int) + 8 := by omega
        have hd : decide ((97 : Int) ≤ (s[b].toNat : Int)) = false := by simp; omega
        go_wp2_with fail
        go_quiet (fail)
        have hfz : o = decide (a < b) := HO.out
        by_cases hab2 : a < b
        · have hne : ((b : Int) == (a : Int)) = false := by simp; omega
          have ho : o = true := by rw [hfz]; simpa using hab2
          subst ho
          clear hfz
          go_wp2
          go_quiet (fail)
          go_wp2
          go_ret
          exact ⟨_, rfl, (hr.drewN _).drewN _, grown_trans hg (grown_trans (grown_drewN _ _ _) (grown_drewN _ _ _))⟩
        · have hne : ((b : Int) == (a : Int)) = true := by simp; omega
          have ho : o = false := by rw [hfz]; simpa using hab2
          subst ho
          clear hfz
          go_wp2_with fail
          refine (fail_new pb s b l _ (hr.drewN _)).mono ?_
          rintro e w2 ⟨rfl, hr2, hg2⟩
          have d0 := hr2.c0
          have d1 := hr2.c1
          clear c0 c1 c2 fz
          go_wp2
          go_quiet (fail)
          go_wp2
          go_ret
          exact ⟨_, rfl, hr2.drewN _, grown_trans hg (grown_trans (grown_drewN _ _ _) (grown_trans hg2 (grown_drewN _ _ _)))⟩
      · have q1' : (b : Int) < (s.size : Int) := by omega
        have q2' : (b : Int) < (a : Int) + 8 := by omega
        have q3' : (97 : Int) ≤ (s[b].toNat : Int) := by omega
        have hd : decide ((s[b].toNat : Int) ≤ 122) = false := by simp; omega
        go_wp2_with fail
        go_quiet (fail)
        have hfz : o = decide (a < b) := HO.out
        by_cases hab2 : a < b
        · have hne : ((b : Int) == (a : Int)) = false := by simp; omega
          have ho : o = true := by rw [hfz]; simpa using hab2
          subst ho
          clear hfz
          go_wp2
          go_quiet (fail)
          go_wp2
          go_ret
          exact ⟨_, rfl, (hr.drewN _).drewN _, grown_trans hg (grown_trans (grown_drewN _ _ _) (grown_drewN _ _ _))⟩
        · have hne : ((b : Int) == (a : Int)) = true := by simp; omega
          have ho : o = false := by rw [hfz]; simpa using hab2
          subst ho
          clear hfz
          go_wp2_with fail
          refine (fail_new pb s b l _ (hr.drewN _)).mono ?_
          rintro e w2 ⟨rfl, hr2, hg2⟩
          have d0 := hr2.c0
          have d1 := hr2.c1
          clear c0 c1 c2 fz
          go_wp2
          go_quiet (fail)
          go_wp2
          go_ret
          exact ⟨_, rfl, hr2.drewN _, grown_trans hg (grown_trans (grown_drewN _ _ _) (grown_trans hg2 (grown_drewN _ _ _)))⟩

end Go.Proofs.YtcmgclckknpecaaGreatDoor

namespace Go.Proofs.YtcmgclckknpecaaGreatDoor
open Go.RowKit

theorem badOf_true (a : Nat) : badOf true a = -1 := rfl
theorem badOf_false (a : Nat) : badOf false a = (a : Int) := rfl

theorem letters_st (pb : Nat) (s : ByteArray) (ok : Bool) (a : Nat) (l : Value) (w : World) (hm : s.size ≤ 80) (ha : a ≤ s.size) (h : Pn pb s a (badOf ok a) l w) (o : Bool) (b : Nat) (hr : Pl.thenP (ok, a) (Pl.word s) = (o, b)) :
    Calls Tryz.prog 220 #[.pointer (some ⟨pb, 0, none⟩)] w fun e w' => ∃ t, e = .returned (.string t) ∧ Pn pb s b (badOf o b) l w' ∧ w.grownBy w' (some pb) := by
  cases ok with
  | true => exact letters_new pb s a l w hm ha h o b hr
  | false =>
    simp only [Pl.thenP, Bool.false_eq_true, if_false, Prod.mk.injEq] at hr
    obtain ⟨rfl, rfl⟩ := hr
    exact letters_old pb s a _ (by rw [badOf_false]; omega) l w hm ha h
theorem take_st (pb : Nat) (s : ByteArray) (ok : Bool) (a c : Nat) (ci : Int) (hci : ci = (c : Int)) (l : Value) (w : World) (hm : s.size ≤ 80) (ha : a ≤ s.size) (h : Pn pb s a (badOf ok a) l w) (o : Bool) (b : Nat) (hr : Pl.thenP (ok, a) (Pl.sign s c) = (o, b)) :
    Calls Tryz.prog 74 #[.pointer (some ⟨pb, 0, none⟩), .int .u8 ci] w fun e w' => e = .returned (.tuple #[]) ∧ Pn pb s b (badOf o b) l w' ∧ w.grownBy w' (some pb) := by
  cases ok with
  | true =>
    have hr' : Pl.sign s c a = (o, b) := hr
    have := take_new pb s a c ci hci l w hm ha h
    rw [hr'] at this
    exact this
  | false =>
    simp only [Pl.thenP, Bool.false_eq_true, if_false, Prod.mk.injEq] at hr
    obtain ⟨rfl, rfl⟩ := hr
    exact take_old pb s a c ci hci _ (by rw [badOf_false]; omega) l w h
theorem on_st (pb : Nat) (s : ByteArray) (ok : Bool) (a c : Nat) (ci : Int) (hci : ci = (c : Int)) (l : Value) (w : World) (hm : s.size ≤ 80) (ha : a ≤ s.size) (h : Pn pb s a (badOf ok a) l w) (q : Bool) (hq : (ok && Pl.byteIn s c c a) = q) :
    Calls Tryz.prog 135 #[.pointer (some ⟨pb, 0, none⟩), .int .u8 ci] w fun e w' => e = .returned (.bool q) ∧ Pn pb s a (badOf ok a) l w' ∧ w.grownBy w' (some pb) := by
  subst hci hq
  cases ok with
  | true => rw [Bool.true_and]; exact on_new pb s a c l w hm ha h
  | false => rw [Bool.false_and]; exact on_old pb s a c _ (by rw [badOf_false]; omega) l w h

end Go.Proofs.YtcmgclckknpecaaGreatDoor

namespace Go.Proofs.YtcmgclckknpecaaGreatDoor
open Go.RowKit

/-- A stage of the document's, in block sb. -/
def Sb (sb : Nat) (v0 v1 v2 v3 v4 : Value) (W : World) : Prop := W.heap[sb]? = some (.cells #[v0, v1, v2, v3, v4] 207 (0, 0))
theorem Sb.cell {sb : Nat} {v0 v1 v2 v3 v4 : Value} {W : World} (h : Sb sb v0 v1 v2 v3 v4 W) : W.cell? ⟨sb, 0, none⟩ = some v0 ∧ W.cell? ⟨sb, 1, none⟩ = some v1 ∧ W.cell? ⟨sb, 2, none⟩ = some v2 ∧ W.cell? ⟨sb, 3, none⟩ = some v3 ∧ W.cell? ⟨sb, 4, none⟩ = some v4 ∧ (∀ o, W.frozen? ⟨sb, o, none⟩ = false) := by
  unfold Sb at h
  simp [World.cell?, World.frozen?, h]
theorem Sb.lt {sb : Nat} {v0 v1 v2 v3 v4 : Value} {W : World} (h : Sb sb v0 v1 v2 v3 v4 W) : sb < W.heap.size := (Array.getElem?_eq_some_iff.1 h).1
theorem Sb.keep {sb : Nat} {v0 v1 v2 v3 v4 : Value} {W W' : World} {row : Option Nat} (h : Sb sb v0 v1 v2 v3 v4 W) (hg : W.grownBy W' row) (hne : row ≠ some sb) : Sb sb v0 v1 v2 v3 v4 W' :=
  (hg.block sb h.lt (Ne.symm hne)).trans h
theorem heap_set (W : World) (b o : Nat) (v : Value) (cs : Array Value) (t : TypeId) (h : W.heap[b]? = some (.cells cs t (0, 0))) : (W.setCell ⟨b, o, none⟩ v).heap[b]? = some (.cells (cs.setIfInBounds o v) t (0, 0)) := by
  obtain ⟨hlt, hk⟩ := Array.getElem?_eq_some_iff.1 h
  show (W.heap.modify b _)[b]? = _
  rw [Array.getElem?_eq_getElem (by rw [Array.size_modify]; exact hlt), Array.getElem_modify_self, hk]
  rfl
theorem Sb.set1 {sb : Nat} {v0 v1 v2 v3 v4 : Value} {W : World} (h : Sb sb v0 v1 v2 v3 v4 W) (v : Value) : Sb sb v0 v v2 v3 v4 (W.setCell ⟨sb, 1, none⟩ v) := heap_set W sb 1 v _ 207 h
theorem Sb.set2 {sb : Nat} {v0 v1 v2 v3 v4 : Value} {W : World} (h : Sb sb v0 v1 v2 v3 v4 W) (v : Value) : Sb sb v0 v1 v v3 v4 (W.setCell ⟨sb, 2, none⟩ v) := heap_set W sb 2 v _ 207 h
theorem Sb.set3 {sb : Nat} {v0 v1 v2 v3 v4 : Value} {W : World} (h : Sb sb v0 v1 v2 v3 v4 W) (v : Value) : Sb sb v0 v1 v2 v v4 (W.setCell ⟨sb, 3, none⟩ v) := heap_set W sb 3 v _ 207 h
theorem Sb.set4 {sb : Nat} {v0 v1 v2 v3 v4 : Value} {W : World} (h : Sb sb v0 v1 v2 v3 v4 W) (v : Value) : Sb sb v0 v1 v2 v3 v (W.setCell ⟨sb, 4, none⟩ v) := heap_set W sb 4 v _ 207 h
theorem row_ne_sb {W : World} {base : Nat} {e : TypeId} {size : Nat} {v : Value} {n : Nat} {xs : List Value} {sb : Nat} {v0 v1 v2 v3 v4 : Value} (hr : W.ownsRow base e size v n xs) (h : Sb sb v0 v1 v2 v3 v4 W) (he : e ≠ 207) : v.ownBlock ≠ some sb := by
  rcases hr.2 with ⟨rfl, _⟩ | ⟨g, cap, cur, rfl, _, hgb, _⟩
  · simp [Value.ownBlock]
  · intro e'
    obtain rfl : g = sb := by simpa [Value.ownBlock] using e'
    rw [show W.heap[g]? = _ from h] at hgb
    simp at hgb
    exact he hgb.2.symm
theorem ownsRow_set_other {W : World} {base : Nat} {e : TypeId} {size : Nat} {v : Value} {n : Nat} {xs : List Value} {b : Nat} (hr : W.ownsRow base e size v n xs) (hne : v.ownBlock ≠ some b) (o : Nat) (u : Value) : (W.setCell ⟨b, o, none⟩ u).ownsRow base e size v n xs := by
  refine ⟨hr.1, ?_⟩
  rcases hr.2 with h | ⟨g, cap, cur, rfl, hb, hh, r⟩
  · exact .inl h
  · exact .inr ⟨g, cap, cur, rfl, hb, (Below.heap_setCell _ _ _ g (fun e => hne (by simp [Value.ownBlock, e]))).trans hh, r⟩
theorem Pn.grown {pb : Nat} {s : ByteArray} {a : Nat} {bad : Int} {l : Value} {w w' : World} {own : Option Nat} (h : Pn pb s a bad l w) (hg : w.grownBy w' own) (hne : own ≠ some pb) : Pn pb s a bad l w' :=
  ⟨(hg.cell_far ⟨pb, 0, none⟩ h.lt (Ne.symm hne)).trans h.c0, (hg.cell_far ⟨pb, 1, none⟩ h.lt (Ne.symm hne)).trans h.c1, (hg.cell_far ⟨pb, 2, none⟩ h.lt (Ne.symm hne)).trans h.c2, (hg.cell_far ⟨pb, 3, none⟩ h.lt (Ne.symm hne)).trans h.c3, fun o => (hg.frozen_far ⟨pb, o, none⟩ h.lt (Ne.symm hne)).trans (h.fz o), Nat.lt_of_lt_of_le h.lt hg.size⟩
theorem Pn.other {pb : Nat} {s : ByteArray} {a : Nat} {bad : Int} {l : Value} {w : World} (h : Pn pb s a bad l w) {b : Nat} (hne : b ≠ pb) (o : Nat) (v : Value) : Pn pb s a bad l (w.setCell ⟨b, o, none⟩ v) :=
  h.grown (grown_set w b o v) (by simpa using hne)

theorem thenP_sign (s : ByteArray) (m b : Nat) (o3 : Bool) (c3 : Nat) (item : Nat → Bool × Nat) (R : Bool × Nat) (hi : item b = (o3, c3)) (h : Pl.lst s item (m + 1) b = R) (hq : (o3 && Pl.byteIn s 44 44 c3) = false) : Pl.thenP (o3, c3) (Pl.sign s 41) = R := by
  unfold Pl.lst at h; rw [hi] at h
  cases o3 with
  | false => exact h
  | true =>
    have hq' : Pl.byteIn s 44 44 c3 = false := by simpa using hq
    simp only [Pl.thenP, if_true, hq', Bool.false_eq_true, if_false] at h
    exact h
theorem lst_more (s : ByteArray) (m b : Nat) (o3 : Bool) (c3 : Nat) (item : Nat → Bool × Nat) (R : Bool × Nat) (hi : item b = (o3, c3)) (h : Pl.lst s item (m + 1) b = R) (hq : (o3 && Pl.byteIn s 44 44 c3) = true) : o3 = true ∧ c3 < s.size ∧ Pl.lst s item m (c3 + 1) = R := by
  simp only [Bool.and_eq_true] at hq
  obtain ⟨rfl, hb⟩ := hq
  unfold Pl.lst at h; rw [hi] at h
  simp only [Pl.thenP, if_true, hb] at h
  exact ⟨rfl, (Pl.byteIn_lt hb).1, h⟩
theorem pair_assoc (s : ByteArray) (b : Nat) : Pl.thenP (Pl.thenP (Pl.word s b) (Pl.sign s 61)) (Pl.word s) = Pl.pairP s b := by
  unfold Pl.pairP Pl.thenP
  by_cases h : (Pl.word s b).1 = true <;> simp [h]

/-- A loop's bool, as a number. -/
def agN : Value → Nat
  | .bool true => 1
  | _ => 0

set_option maxHeartbeats 1000000 in
theorem plist_words (pb sb : Nat) (s : ByteArray) (a : Nat) (l t : Value) (w0 w : World) (hm : s.size ≤ 80) (ha : a ≤ s.size) (hg0 : w0.grownBy w (some pb)) (hpb : pb < w0.heap.size) (hsb : w0.heap.size ≤ sb) (h : Pn pb s a (-1) l w)
    (hS : Sb sb t (.slice none 0 0) (.slice none 0 0) (.int .i64 0) (.int .i64 0) w) (o : Bool) (d : Nat) (HR : Hid (Pl.lst s (Pl.word s) (s.size + 1) a = (o, d))) :
    Calls Tryz.prog 133 #[.pointer (some ⟨pb, 0, none⟩), .pointer (some ⟨sb, 0, none⟩), .bool false] w fun e w' => e = .returned (.tuple #[]) ∧ Pn pb s d (badOf o d) l w' ∧ w0.grownBy w' (some pb) ∧ ∃ p n c, Sb sb t (.slice p n c) (.slice none 0 0) (.int .i64 0) (.int .i64 0) w' := by
  obtain ⟨i0, hi, hz0, hz1, hz2⟩ := info_parts info9
  go_enter Tryz.func133, Tryz.ntmps133
  go_wp2
  go_loopw [6, 7, 8] (fun ag _ _ wr => ∃ (g ok : Bool) (b n : Nat) (xs : List Value) (v : Value), ag = .bool g ∧ b ≤ s.size ∧ Pn pb s b (badOf ok b) l wr ∧ w0.grownBy wr (some pb) ∧ Sb sb t v (.slice none 0 0) (.int .i64 0) (.int .i64 0) wr ∧ wr.ownsRow w0.heap.size 9 1 v n xs ∧
    Hid ((g = true ∧ ok = true ∧ n ≤ b ∧ ∃ m, s.size < b + m ∧ Pl.lst s (Pl.word s) m b = (o, d)) ∨ (g = false ∧ Pl.thenP (ok, b) (Pl.sign s 41) = (o, d)))) (fun ag _ _ wr => 2 * (200 - pplc pb wr) + agN ag)
  case atStart => exact ⟨true, true, a, 0, [], _, rfl, ha, h, hg0, hS, World.ownsRow_nil _ _ _ _, .inl ⟨rfl, rfl, by omega, s.size + 1, by omega, HR.out⟩⟩
  case round =>
    obtain ⟨g, ok, b, n, xs, v, rfl, hb, hp, hg, hs, hrow, HC⟩ := hrel
    rcases HC.out with ⟨rfl, rfl, hnb, m, hbm, hl⟩ | ⟨rfl, hfin⟩
    · obtain ⟨m, rfl⟩ : ∃ m', m = m' + 1 := ⟨m - 1, by omega⟩
      obtain ⟨⟨o1, c1⟩, hw⟩ : ∃ r, Pl.word s b = r := ⟨_, rfl⟩
      have hwf := Pl.word_fits s b hb
      rw [hw] at hwf
      obtain ⟨q, hq⟩ : ∃ q, (o1 && Pl.byteIn s 44 44 c1) = q := ⟨_, rfl⟩
      have HQ : Hid ((o1 && Pl.byteIn s 44 44 c1) = q) := hq
      have HW : Hid (Pl.thenP (true, b) (Pl.word s) = (o1, c1)) := hw
      have HWL : Hid (Pl.word s b = (o1, c1)) := hw
      have HL : Hid (Pl.lst s (Pl.word s) (m + 1) b = (o, d)) := hl
      have hsz := hg.size
      clear hq hw hl HC
      go_wp2_with fail
      refine (letters_st pb s true b l _ hm hb hp o1 c1 HW.out).mono ?_
      rintro e w1 ⟨t1, rfl, hp1, hg1⟩
      have hs1 := hs.keep hg1 (by simp; omega)
      have hrow1 := ownsRow_grown hrow hg1 hpb
      obtain ⟨k0, k1, k2, k3, k4, kf⟩ := hs1.cell
      have hz1' := hg1.size
      go_wp2_with (at_builtin; go_must (refine wpList_append_lies _ (by rfl) _ _ 63 (by rfl) w0.heap.size 9 i0 (.string ⟨#[]⟩) 1 16 Tryz.underlying63 hi hz0 hz1 hz2 rfl (by decide) _ n xs (by rfl) (hrow1.alloc _) ⟨w1.heap.size, 0, none⟩ 1 1 [.string t1] (by rfl) rfl (World.news_of_block (heap_alloc_new w1 _)) (by simp [Value.oneCell']) (by decide) (by unfold maxLen; omega) (by omega) (by simp; omega) (w1.heap.size + 1) (by simp) ?_); intro g2 cap w2 hown hgrow hat hlt2; have hne2 := row_ne_sb hrow1 hs1 (by decide); have hs2 := (hs1.keep (World.grownBy_alloc w1 _ none) (by simp)).keep hgrow hne2; obtain ⟨j0, j1, j2, j3, j4, jf⟩ := hs2.cell)
      have hge2 : ∀ x, v.ownBlock = some x → w0.heap.size ≤ x := fun x e => (ownBlock_lt hrow1 e).2
      have hp2 := ((hp1.grown (World.grownBy_alloc w1 (.cells #[.string t1] 9) none) (by simp)).grown hgrow (by intro e; have := hge2 _ e; omega)).other (b := sb) (by omega) 1 (Value.slice (some ⟨g2, 0, none⟩) (n + 1) cap)
      have hg2 : w0.grownBy (w2.setCell ⟨sb, 1, none⟩ (Value.slice (some ⟨g2, 0, none⟩) (n + 1) cap)) (some pb) := grown_set_new (grown_own (grown_alloc (grown_trans hg hg1) _) hgrow hge2) hsb _ _
      have hrow2 := ownsRow_set_other hown (row_ne_sb hown hs2 (by decide)) 1 (Value.slice (some ⟨g2, 0, none⟩) (n + 1) cap)
      have hs2' := hs2.set1 (Value.slice (some ⟨g2, 0, none⟩) (n + 1) cap)
      refine (on_st pb s o1 c1 44 44 rfl l _ hm hwf.2 hp2 q HQ.out).mono ?_
      rintro e w3 ⟨rfl, hp3, hg3⟩
      have hs3 := hs2'.keep hg3 (by simp; omega)
      have hrow3 := ownsRow_grown hrow2 hg3 hpb
      have hg03 := grown_trans hg2 hg3
      clear hs2 hs1 hs hs2' hrow2 hrow1 hrow hown hgrow hp2 hp1 hg1 hg3 hg2 j0 j1 j2 j3 j4 jf k0 k1 k2 k3 k4 kf hne2 hat
      cases q with
      | true =>
        obtain ⟨rfl, hcs, hl2⟩ := lst_more s m b o1 c1 _ _ HWL.out HL.out HQ.out
        have hbc := word_one HWL.out
        have HL2 : Hid (Pl.lst s (Pl.word s) m (c1 + 1) = (o, d)) := hl2
        have f1 := hp3.c1
        have ff := hp3.fz
        clear hl2
        go_wp2
        go_roundw
        case rel =>
          have e1 : ((c1 + 1 : Nat) : Int) = (c1 : Int) + 1 := by omega
          refine ⟨true, true, c1 + 1, n + 1, _, _, rfl, by omega, ?_, grown_trans hg03 (grown_set _ _ _ _), hs3.keep (grown_set _ _ _ _) (by simp; omega), ownsRow_grown hrow3 (grown_set _ _ _ _) hpb, .inl ⟨rfl, rfl, by omega, m, by omega, HL2.out⟩⟩
          rw [← e1]; exact hp3.set1 _
        case measure =>
          have e1 : ((c1 + 1 : Nat) : Int) = (c1 : Int) + 1 := by omega
          rw [← e1, pplc_eq (hp3.set1 (c1 + 1)), pplc_eq hp]; simp [agN]; omega
      | false =>
        have HF : Hid (Pl.thenP (o1, c1) (Pl.sign s 41) = (o, d)) := thenP_sign s m b o1 c1 _ _ HWL.out HL.out HQ.out
        go_wp2
        go_roundw
        case rel => exact ⟨false, o1, c1, n + 1, _, _, rfl, hwf.2, hp3, hg03, hs3, hrow3, .inr ⟨rfl, HF.out⟩⟩
        case measure => rw [pplc_eq hp3, pplc_eq hp]; simp [agN]; omega
    · have HF : Hid (Pl.thenP (ok, b) (Pl.sign s 41) = (o, d)) := hfin
      clear HC hfin
      go_wp2_with fail
      refine (take_st pb s ok b 41 41 rfl l _ hm hb hp o d HF.out).mono ?_
      rintro e w1 ⟨rfl, hp1, hg1⟩
      go_wp2
      go_end0
      obtain ⟨p', n', c', hv⟩ : ∃ p' n' c', v = .slice p' n' c' := by
        rcases hrow.2 with ⟨h, _⟩ | ⟨g', cap, _, h, _⟩
        · exact ⟨_, _, _, h⟩
        · exact ⟨_, _, _, h⟩
      refine ⟨rfl, hp1, grown_trans hg hg1, p', n', c', ?_⟩
      rw [← hv]; exact hs.keep hg1 (by simp; omega)

end Go.Proofs.YtcmgclckknpecaaGreatDoor
