import Derived.Test.YtcmgclckknpecaaGreatDoorADec
import Derived.Deep.RegionHeld3
namespace Go.Proofs.YtcmgclckknpecaaGreatDoor
open Go.RowKit

theorem taken_good {lo hi : Int} {b k c : Nat} (hlo : lo = Pl.loOf b) (hhi : hi = Pl.hiOf b) : Taken lo hi k c = Pl.good b k c := by
  unfold Taken Pl.good
  subst hlo hhi
  by_cases h : k = 1
  · subst h; simp
  · have h' : ¬ (k : Int) = 1 := by omega
    rw [if_neg h', if_neg h]
    have e : (128 ≤ (c : Int) ∧ (c : Int) ≤ 191) ↔ (128 ≤ c ∧ c ≤ 191) := by omega
    simp only [e]

theorem bt_pre (t : ByteArray) (j i : Nat) (hj : j ≤ t.size) (hi : i < j) : Pl.bt (t.extract 0 j) i = Pl.bt t i := by
  unfold Pl.bt
  rw [dif_pos (by simp; omega), dif_pos (by omega)]
  simp [ByteArray.getElem_extract]
theorem codeTo_pre {f g : Nat → Nat} : ∀ (k : Nat), (∀ i, i < k → f i = g i) → Pl.codeTo f k = Pl.codeTo g k
  | 0, _ => rfl
  | k + 1, h => by
    have e := codeTo_pre k (fun i hi => h i (by omega))
    unfold Pl.codeTo
    rw [e, h k (by omega), h 0 (by omega)]

theorem decode_pre (t : ByteArray) (w : World) (j : Nat) (h1 : 1 ≤ j) (hj : j ≤ t.size) (hL : Pl.lenOf (Pl.bt t 0) = j) :
    Calls Tryz.prog 147 #[.string (t.extract 0 j)] w fun e w' => e = .returned (.int .i64 (Pl.codeTo (Pl.bt t) j)) ∧ ∃ q, w' = w.drewN q := by
  have hs : (t.extract 0 j).size = j := by simp; omega
  have h0 : Pl.bt (t.extract 0 j) 0 = Pl.bt t 0 := bt_pre t j 0 hj (by omega)
  have h4 := Pl.lenOf_le (Pl.bt t 0)
  rw [← codeTo_pre (f := Pl.bt (t.extract 0 j)) j (fun i hi => bt_pre t j i hj hi)]
  by_cases hj1 : j = 1
  · subst hj1
    refine (decode_one _ w hs).mono ?_
    rintro e w' ⟨rfl, rfl⟩
    refine ⟨ret_int ?_, 0, rfl⟩
    rw [Pl.codeTo_one, Pl.cd0, h0, hL]
    simp
  · exact decode_more _ w j hs (by omega) (by omega) (by rw [h0, hL])

theorem ret_two {a b c d : Int} (h : a = c) (h' : b = d) : Ending.returned (.tuple #[.int .i64 a, .int .i64 b]) = .returned (.tuple #[.int .i64 c, .int .i64 d]) := by rw [h, h']

set_option maxHeartbeats 1000000 in
theorem first_any (t : ByteArray) (w : World) (h1 : 1 ≤ t.size) (hm : t.size ≤ 120) :
    Calls Tryz.prog 84 #[.string t] w fun e w' => e = .returned (.tuple #[.int .i64 (Pl.code (Pl.bt t) t.size), .int .i64 (Pl.size (Pl.bt t) t.size)]) ∧ Below w.heap.size w w' := by
  have hlt : 0 < t.size := by omega
  have hb0 := UInt8.toNat_lt t[0]
  go_enter Tryz.func84, Tryz.ntmps84
  go_wp2_with (go_at_call 145; refine (shapeOf_any _ _ (by omega) (by omega)).mono ?_; rintro e w1 ⟨L, lo, hi, rfl, hsh, hb⟩)
  obtain ⟨hL, hlh⟩ := hsh
  rw [Int.toNat_natCast, ← Pl.bt_eq hlt] at hL hlh
  obtain ⟨nL, hnL⟩ : ∃ nL, Pl.lenOf (Pl.bt t 0) = nL := ⟨_, rfl⟩
  have hn4 := Pl.lenOf_le (Pl.bt t 0)
  rw [hnL] at hL hn4
  subst hL
  have HnL : Hid (Pl.lenOf (Pl.bt t 0) = nL) := hnL
  clear hnL
  obtain ⟨W0, hW0⟩ : ∃ W0, w1.alloc (.cells #[.int .i64 nL, .int .u8 lo, .int .u8 hi] 293) = W0 := ⟨_, rfl⟩
  rw [hW0]
  have hs0 : w1.heap.size < W0.heap.size := by rw [← hW0]; simp
  have hbW : Below w.heap.size w W0 := by rw [← hW0]; exact hb.alloc hb.size _
  have cc : W0.cell? ⟨w1.heap.size, 0, none⟩ = some (.int .i64 nL) ∧ W0.cell? ⟨w1.heap.size, 1, none⟩ = some (.int .u8 lo) ∧ W0.cell? ⟨w1.heap.size, 2, none⟩ = some (.int .u8 hi) := by
    rw [← hW0]; simp [go_sem]
  clear hW0
  go_loopw [3] (fun k wr => ∃ j : Nat, k = .int .i64 j ∧ 1 ≤ j ∧ j ≤ 4 ∧ j ≤ t.size ∧ Pl.sz (Pl.bt t) t.size (4 - j) j = Pl.size (Pl.bt t) t.size ∧ Below W0.heap.size W0 wr) (fun k _ => 4 - (intOf k).toNat)
  case atStart => exact ⟨1, rfl, by omega, by omega, by omega, rfl, Below.refl _ _⟩
  case round =>
    obtain ⟨j, rfl, hj1, hj4, hjn, hsz, hB⟩ := hrel
    have HS : Hid (Pl.sz (Pl.bt t) t.size (4 - j) j = Pl.size (Pl.bt t) t.size) := hsz
    clear hsz
    have c0 : wr.cell? ⟨w1.heap.size, 0, none⟩ = some (.int .i64 nL) := (hB.cell (p := ⟨w1.heap.size, 0, none⟩) hs0).trans cc.1
    have c1 : wr.cell? ⟨w1.heap.size, 1, none⟩ = some (.int .u8 lo) := (hB.cell (p := ⟨w1.heap.size, 1, none⟩) hs0).trans cc.2.1
    have c2 : wr.cell? ⟨w1.heap.size, 2, none⟩ = some (.int .u8 hi) := (hB.cell (p := ⟨w1.heap.size, 2, none⟩) hs0).trans cc.2.2
    have hbr : Below w.heap.size w wr := hbW.trans (hB.mono hbW.size)
    by_cases hk : j < nL
    · by_cases hjs : j < t.size
      · have hk' : (j : Int) < (nL : Int) := by omega
        have hjs' : (j : Int) < (t.size : Int) := by omega
        have n0 := World.new_ne wr _ c0
        have n1 := World.new_ne wr _ c1
        have n2 := World.new_ne wr _ c2
        by_cases hT : Taken lo hi j t[j].toNat = true
        · go_wp2_with fail
          go_region_held3 (fun w' => w'.cell? ⟨w1.heap.size, 0, none⟩ = some (.int .i64 nL) ∧ w'.cell? ⟨w1.heap.size, 1, none⟩ = some (.int .u8 lo) ∧ w'.cell? ⟨w1.heap.size, 2, none⟩ = some (.int .u8 hi)) (go_keep) ((go_at_call 146; refine (takes_any _ _ _ _ _ _).mono ?_; rintro e w' ⟨rfl, rfl⟩))
          go_wp2
          go_roundw
          case rel =>
            refine ⟨j + 1, by go_num, by omega, by omega, by omega, ?_, ?_⟩
            · refine Pl.sz_yes hj1 (by rw [HnL.out]; exact hk) hjs ?_ HS.out
              rw [← taken_good (hlh (by omega)).1 (hlh (by omega)).2, Pl.bt_eq hjs]; exact hT
            · exact (hB.alloc hB.size _).drew
          case measure => simp [intOf]; omega
        · have hT' : Taken lo hi j t[j].toNat = false := by simpa using hT
          have he' : ((j : Int) != (nL : Int)) = true := by simp; omega
          have HSJ : Hid (Pl.size (Pl.bt t) t.size = j) := by
            refine Pl.sz_no ?_ HS.out
            rintro ⟨_, _, hg⟩
            rw [← taken_good (hlh (by omega)).1 (hlh (by omega)).2, Pl.bt_eq hjs] at hg
            exact hT hg
          clear hT
          go_wp2_with fail
          go_region_held3 (fun w' => w'.cell? ⟨w1.heap.size, 0, none⟩ = some (.int .i64 nL) ∧ w'.cell? ⟨w1.heap.size, 1, none⟩ = some (.int .u8 lo) ∧ w'.cell? ⟨w1.heap.size, 2, none⟩ = some (.int .u8 hi)) (go_keep) ((go_at_call 146; refine (takes_any _ _ _ _ _ _).mono ?_; rintro e w' ⟨rfl, rfl⟩))
          go_wp2
          go_ret2
          refine ⟨ret_two ?_ ?_, ?_⟩
          · rw [Pl.code_no (by rw [HSJ.out, HnL.out]; omega)]; rfl
          · rw [HSJ.out]
          · exact (hbr.alloc hbr.size _).drew
      · have hk' : (j : Int) < (nL : Int) := by omega
        have hd : decide ((j : Int) < (t.size : Int)) = false := by simp; omega
        have he' : ((j : Int) != (nL : Int)) = true := by simp; omega
        have HSJ : Hid (Pl.size (Pl.bt t) t.size = j) := Pl.sz_no (by rintro ⟨_, h, _⟩; exact hjs h) HS.out
        go_wp2_with fail
        go_quiet (fail)
        go_wp2
        go_ret2
        refine ⟨ret_two ?_ ?_, ?_⟩
        · rw [Pl.code_no (by rw [HSJ.out, HnL.out]; omega)]; rfl
        · rw [HSJ.out]
        · exact below_drewN hbr _
    · have hd : decide ((j : Int) < (nL : Int)) = false := by simp; omega
      have HSJ : Hid (Pl.size (Pl.bt t) t.size = j) := Pl.sz_no (by rintro ⟨h, _⟩; rw [HnL.out] at h; exact hk h) HS.out
      go_wp2_with fail
      go_quiet (fail)
      by_cases he : j = nL
      · subst he
        have he' : ((j : Int) != (j : Int)) = false := by simp
        go_wp2_with (go_at_call 147; refine (decode_pre t _ j hj1 hjn HnL.out).mono ?_; rintro e w2 ⟨rfl, q2, rfl⟩)
        go_ret2
        refine ⟨ret_two ?_ ?_, ?_⟩
        · rw [Pl.code_yes (by rw [HSJ.out, HnL.out]), HnL.out]
        · rw [HSJ.out]
        · exact below_drewN hbr _
      · have he' : ((j : Int) != (nL : Int)) = true := by simp; omega
        go_wp2
        go_ret2
        refine ⟨ret_two ?_ ?_, ?_⟩
        · rw [Pl.code_no (by rw [HSJ.out, HnL.out]; omega)]; rfl
        · rw [HSJ.out]
        · exact below_drewN hbr _

end Go.Proofs.YtcmgclckknpecaaGreatDoor
