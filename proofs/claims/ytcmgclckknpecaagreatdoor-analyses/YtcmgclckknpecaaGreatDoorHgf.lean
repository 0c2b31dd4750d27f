import Derived.Test.YtcmgclckknpecaaGreatDoorHge
import Derived.Test.YtcmgclckknpecaaGreatDoorGrb
import Derived.Test.YtcmgclckknpecaaGreatDoorMkc
import Derived.Test.YtcmgclckknpecaaGreatDoorHgb

namespace Go.Proofs.YtcmgclckknpecaaGreatDoor
open Go.RowKit

theorem step_start (rb g : Nat) (s : ByteArray) (a : Nat) (w : World) (hm : s.size ≤ 80) (ha : a ≤ s.size) (h : Rd rb s a w) (hN : Nms g Pl.starts w) (i b : Nat) (hi : i < Pl.starts.length) (HR : Hid (Pl.nm s a Pl.starts 0 0 = (some i, b))) (hb : b ≤ s.size) (o : Bool) (c : Nat) (HB : Hid (Pl.body s (Pl.kindS i) b = (o, c))) :
    Calls Tryz.prog 123 #[.pointer (some ⟨rb, 0, none⟩), .slice (some ⟨g, 0, none⟩) 6 6] w fun e w' => ∃ p1 n1 d1 p2 n2 d2, ∃ x z : Int, e = .returned (.tuple #[.agg #[.string (Pl.starts[i]), .slice p1 n1 d1, .slice p2 n2 d2, .int .i64 x, .int .i64 z], .bool o]) ∧ Rd rb s c w' ∧ w.grownBy w' (some rb) ∧ Hid (o = true → StO w.heap.size (Pl.spC s (Pl.starts[i]) (Pl.kindS i) b) (.slice p1 n1 d1) (.slice p2 n2 d2) x z w') := by
  have hi6 : i < 6 := hi
  obtain rfl | rfl | rfl | rfl | rfl | rfl : i = 0 ∨ i = 1 ∨ i = 2 ∨ i = 3 ∨ i = 4 ∨ i = 5 := by omega
  · obtain ⟨rfl, rfl⟩ : true = o ∧ b = c := by simpa [Pl.body, Pl.kindS] using HB.out
    exact (step_k0 rb g s a Pl.starts w hm ha h hN starts_size (by decide) (some 0) b HR hb (⟨#[116, 97, 103, 115]⟩ : ByteArray) true (.inl ⟨0, hi, rfl, rfl, rfl⟩) (by decide +kernel) (by decide +kernel) (by decide +kernel) (by decide +kernel) (by decide +kernel) (by decide +kernel)).mono fun e w' ⟨p1, n1, d1, p2, n2, d2, x, z, he, hr, hg, HS⟩ => ⟨p1, n1, d1, p2, n2, d2, x, z, he, hr, hg, fun _ => HS.out⟩
  · obtain ⟨rfl, rfl⟩ : true = o ∧ b = c := by simpa [Pl.body, Pl.kindS] using HB.out
    exact (step_k0 rb g s a Pl.starts w hm ha h hN starts_size (by decide) (some 1) b HR hb (⟨#[102, 111, 108, 100]⟩ : ByteArray) true (.inl ⟨1, hi, rfl, rfl, rfl⟩) (by decide +kernel) (by decide +kernel) (by decide +kernel) (by decide +kernel) (by decide +kernel) (by decide +kernel)).mono fun e w' ⟨p1, n1, d1, p2, n2, d2, x, z, he, hr, hg, HS⟩ => ⟨p1, n1, d1, p2, n2, d2, x, z, he, hr, hg, fun _ => HS.out⟩
  · have hr : Pl.lst s (Pl.pairP s) (s.size + 1) b = (o, c) := by simpa [Pl.body, Pl.kindS] using HB.out
    exact step_map rb g s a Pl.starts w hm ha h hN starts_size (by decide) (some 2) b HR hb (⟨#[109, 97, 112, 40]⟩ : ByteArray) true (.inl ⟨2, hi, rfl, rfl, rfl⟩) (by decide +kernel) o c hr
  · obtain ⟨rfl, rfl⟩ : true = o ∧ b = c := by simpa [Pl.body, Pl.kindS] using HB.out
    exact (step_k0 rb g s a Pl.starts w hm ha h hN starts_size (by decide) (some 3) b HR hb (⟨#[119, 111, 114, 100, 115]⟩ : ByteArray) true (.inl ⟨3, hi, rfl, rfl, rfl⟩) (by decide +kernel) (by decide +kernel) (by decide +kernel) (by decide +kernel) (by decide +kernel) (by decide +kernel)).mono fun e w' ⟨p1, n1, d1, p2, n2, d2, x, z, he, hr, hg, HS⟩ => ⟨p1, n1, d1, p2, n2, d2, x, z, he, hr, hg, fun _ => HS.out⟩
  · obtain ⟨rfl, rfl⟩ : true = o ∧ b = c := by simpa [Pl.body, Pl.kindS] using HB.out
    exact (step_k0 rb g s a Pl.starts w hm ha h hN starts_size (by decide) (some 4) b HR hb (⟨#[98, 108, 97, 110, 107, 115]⟩ : ByteArray) true (.inl ⟨4, hi, rfl, rfl, rfl⟩) (by decide +kernel) (by decide +kernel) (by decide +kernel) (by decide +kernel) (by decide +kernel) (by decide +kernel)).mono fun e w' ⟨p1, n1, d1, p2, n2, d2, x, z, he, hr, hg, HS⟩ => ⟨p1, n1, d1, p2, n2, d2, x, z, he, hr, hg, fun _ => HS.out⟩
  · obtain ⟨rfl, rfl⟩ : true = o ∧ b = c := by simpa [Pl.body, Pl.kindS] using HB.out
    exact (step_k0 rb g s a Pl.starts w hm ha h hN starts_size (by decide) (some 5) b HR hb (⟨#[119, 104, 111, 108, 101]⟩ : ByteArray) true (.inl ⟨5, hi, rfl, rfl, rfl⟩) (by decide +kernel) (by decide +kernel) (by decide +kernel) (by decide +kernel) (by decide +kernel) (by decide +kernel)).mono fun e w' ⟨p1, n1, d1, p2, n2, d2, x, z, he, hr, hg, HS⟩ => ⟨p1, n1, d1, p2, n2, d2, x, z, he, hr, hg, fun _ => HS.out⟩

theorem step_late (rb g : Nat) (s : ByteArray) (a : Nat) (w : World) (hm : s.size ≤ 80) (ha : a ≤ s.size) (h : Rd rb s a w) (hN : Nms g Pl.lates w) (i b : Nat) (hi : i < Pl.lates.length) (HR : Hid (Pl.nm s a Pl.lates 0 0 = (some i, b))) (hb : b ≤ s.size) (o : Bool) (c : Nat) (HB : Hid (Pl.body s (Pl.kindL i) b = (o, c))) :
    Calls Tryz.prog 123 #[.pointer (some ⟨rb, 0, none⟩), .slice (some ⟨g, 0, none⟩) 7 7] w fun e w' => ∃ p1 n1 d1 p2 n2 d2, ∃ x z : Int, e = .returned (.tuple #[.agg #[.string (Pl.lates[i]), .slice p1 n1 d1, .slice p2 n2 d2, .int .i64 x, .int .i64 z], .bool o]) ∧ Rd rb s c w' ∧ w.grownBy w' (some rb) ∧ Hid (o = true → StO w.heap.size (Pl.spC s (Pl.lates[i]) (Pl.kindL i) b) (.slice p1 n1 d1) (.slice p2 n2 d2) x z w') := by
  have hi6 : i < 7 := hi
  obtain rfl | rfl | rfl | rfl | rfl | rfl | rfl : i = 0 ∨ i = 1 ∨ i = 2 ∨ i = 3 ∨ i = 4 ∨ i = 5 ∨ i = 6 := by omega
  · obtain ⟨rfl, rfl⟩ : true = o ∧ b = c := by simpa [Pl.body, Pl.kindL] using HB.out
    exact (step_k0 rb g s a Pl.lates w hm ha h hN lates_size (by decide) (some 0) b HR hb (⟨#[108, 111, 119]⟩ : ByteArray) true (.inl ⟨0, hi, rfl, rfl, rfl⟩) (by decide +kernel) (by decide +kernel) (by decide +kernel) (by decide +kernel) (by decide +kernel) (by decide +kernel)).mono fun e w' ⟨p1, n1, d1, p2, n2, d2, x, z, he, hr, hg, HS⟩ => ⟨p1, n1, d1, p2, n2, d2, x, z, he, hr, hg, fun _ => HS.out⟩
  · obtain ⟨rfl, rfl⟩ : true = o ∧ b = c := by simpa [Pl.body, Pl.kindL] using HB.out
    exact (step_k0 rb g s a Pl.lates w hm ha h hN lates_size (by decide) (some 1) b HR hb (⟨#[115, 116, 101, 109]⟩ : ByteArray) true (.inl ⟨1, hi, rfl, rfl, rfl⟩) (by decide +kernel) (by decide +kernel) (by decide +kernel) (by decide +kernel) (by decide +kernel) (by decide +kernel)).mono fun e w' ⟨p1, n1, d1, p2, n2, d2, x, z, he, hr, hg, HS⟩ => ⟨p1, n1, d1, p2, n2, d2, x, z, he, hr, hg, fun _ => HS.out⟩
  · have hr : Pl.lst s (Pl.word s) (s.size + 1) b = (o, c) := by simpa [Pl.body, Pl.kindL] using HB.out
    exact step_stop rb g s a Pl.lates w hm ha h hN lates_size (by decide) (some 2) b HR hb (⟨#[115, 116, 111, 112, 40]⟩ : ByteArray) true (.inl ⟨2, hi, rfl, rfl, rfl⟩) (by decide +kernel) (by decide +kernel) (by decide +kernel) o c hr
  · have hr : Pl.lst s (Pl.pairP s) (s.size + 1) b = (o, c) := by simpa [Pl.body, Pl.kindL] using HB.out
    exact step_syn rb g s a Pl.lates w hm ha h hN lates_size (by decide) (some 3) b HR hb (⟨#[115, 121, 110, 40]⟩ : ByteArray) true (.inl ⟨3, hi, rfl, rfl, rfl⟩) (by decide +kernel) (by decide +kernel) o c hr
  · have hr : Pl.bnds s b = (o, c) := by simpa [Pl.body, Pl.kindL] using HB.out
    exact step_len rb g s a Pl.lates w hm ha h hN lates_size (by decide) (some 4) b HR hb (⟨#[108, 101, 110, 40]⟩ : ByteArray) true (.inl ⟨4, hi, rfl, rfl, rfl⟩) (by decide +kernel) (by decide +kernel) (by decide +kernel) (by decide +kernel) o c hr
  · have hr : Pl.bnds s b = (o, c) := by simpa [Pl.body, Pl.kindL] using HB.out
    exact step_gram rb g s a Pl.lates w hm ha h hN lates_size (by decide) (some 5) b HR hb (⟨#[103, 114, 97, 109, 40]⟩ : ByteArray) true (.inl ⟨5, hi, rfl, rfl, rfl⟩) (by decide +kernel) (by decide +kernel) (by decide +kernel) (by decide +kernel) (by decide +kernel) o c hr
  · have hr : Pl.bnds s b = (o, c) := by simpa [Pl.body, Pl.kindL] using HB.out
    exact step_edge rb g s a Pl.lates w hm ha h hN lates_size (by decide) (some 6) b HR hb (⟨#[101, 100, 103, 101, 40]⟩ : ByteArray) true (.inl ⟨6, hi, rfl, rfl, rfl⟩) (by decide +kernel) (by decide +kernel) (by decide +kernel) (by decide +kernel) (by decide +kernel) (by decide +kernel) o c hr

theorem step_start_no (rb g : Nat) (s : ByteArray) (a : Nat) (w : World) (hm : s.size ≤ 80) (ha : a ≤ s.size) (h : Rd rb s a w) (hN : Nms g Pl.starts w) (b : Nat) (HR : Hid (Pl.nm s a Pl.starts 0 0 = (none, b))) (hb : b ≤ s.size) :
    Calls Tryz.prog 123 #[.pointer (some ⟨rb, 0, none⟩), .slice (some ⟨g, 0, none⟩) 6 6] w fun e w' => ∃ p1 n1 d1 p2 n2 d2, ∃ x z : Int, e = .returned (.tuple #[.agg #[.string ⟨#[]⟩, .slice p1 n1 d1, .slice p2 n2 d2, .int .i64 x, .int .i64 z], .bool false]) ∧ Rd rb s b w' ∧ w.grownBy w' (some rb) :=
  (step_k0 rb g s a Pl.starts w hm ha h hN starts_size (by decide) none b HR hb (⟨#[]⟩ : ByteArray) false (.inr ⟨rfl, rfl, rfl⟩) (by decide +kernel) (by decide +kernel) (by decide +kernel) (by decide +kernel) (by decide +kernel) (by decide +kernel)).mono fun e w' ⟨p1, n1, d1, p2, n2, d2, x, z, he, hr, hg, _⟩ => ⟨p1, n1, d1, p2, n2, d2, x, z, he, hr, hg⟩

theorem step_late_no (rb g : Nat) (s : ByteArray) (a : Nat) (w : World) (hm : s.size ≤ 80) (ha : a ≤ s.size) (h : Rd rb s a w) (hN : Nms g Pl.lates w) (b : Nat) (HR : Hid (Pl.nm s a Pl.lates 0 0 = (none, b))) (hb : b ≤ s.size) :
    Calls Tryz.prog 123 #[.pointer (some ⟨rb, 0, none⟩), .slice (some ⟨g, 0, none⟩) 7 7] w fun e w' => ∃ p1 n1 d1 p2 n2 d2, ∃ x z : Int, e = .returned (.tuple #[.agg #[.string ⟨#[]⟩, .slice p1 n1 d1, .slice p2 n2 d2, .int .i64 x, .int .i64 z], .bool false]) ∧ Rd rb s b w' ∧ w.grownBy w' (some rb) :=
  (step_k0 rb g s a Pl.lates w hm ha h hN lates_size (by decide) none b HR hb (⟨#[]⟩ : ByteArray) false (.inr ⟨rfl, rfl, rfl⟩) (by decide +kernel) (by decide +kernel) (by decide +kernel) (by decide +kernel) (by decide +kernel) (by decide +kernel)).mono fun e w' ⟨p1, n1, d1, p2, n2, d2, x, z, he, hr, hg, _⟩ => ⟨p1, n1, d1, p2, n2, d2, x, z, he, hr, hg⟩

end Go.Proofs.YtcmgclckknpecaaGreatDoor

namespace Go.Proofs.YtcmgclckknpecaaGreatDoor
open Go.RowKit

theorem seven_cells {X : World} {b : Nat} (v0 v1 v2 v3 v4 v5 v6 : Value) {u0 u1 u2 u3 u4 u5 u6 : Value} (x0 : X.cell? ⟨b, 0, none⟩ = some u0) (x1 : X.cell? ⟨b, 1, none⟩ = some u1) (x2 : X.cell? ⟨b, 2, none⟩ = some u2) (x3 : X.cell? ⟨b, 3, none⟩ = some u3) (x4 : X.cell? ⟨b, 4, none⟩ = some u4) (x5 : X.cell? ⟨b, 5, none⟩ = some u5) (x6 : X.cell? ⟨b, 6, none⟩ = some u6) (W : World)
    (hW : W = (((((((X.setCell ⟨b, 0, none⟩ v0).setCell ⟨b, 1, none⟩ v1).setCell ⟨b, 2, none⟩ v2).setCell ⟨b, 3, none⟩ v3).setCell ⟨b, 4, none⟩ v4).setCell ⟨b, 5, none⟩ v5).setCell ⟨b, 6, none⟩ v6)) :
    W.cell? ⟨b, 0, none⟩ = some v0 ∧ W.cell? ⟨b, 1, none⟩ = some v1 ∧ W.cell? ⟨b, 2, none⟩ = some v2 ∧ W.cell? ⟨b, 3, none⟩ = some v3 ∧ W.cell? ⟨b, 4, none⟩ = some v4 ∧ W.cell? ⟨b, 5, none⟩ = some v5 ∧ W.cell? ⟨b, 6, none⟩ = some v6 := by
  subst hW
  refine ⟨?_, ?_, ?_, ?_, ?_, ?_, ?_⟩
  · exact ((World.cell?_setCell_other _ _ _ _ (by simp)).trans ((World.cell?_setCell_other _ _ _ _ (by simp)).trans ((World.cell?_setCell_other _ _ _ _ (by simp)).trans ((World.cell?_setCell_other _ _ _ _ (by simp)).trans ((World.cell?_setCell_other _ _ _ _ (by simp)).trans ((World.cell?_setCell_other _ _ _ _ (by simp)).trans (World.cell?_setCell_same _ _ _ x0)))))))
  · exact ((World.cell?_setCell_other _ _ _ _ (by simp)).trans ((World.cell?_setCell_other _ _ _ _ (by simp)).trans ((World.cell?_setCell_other _ _ _ _ (by simp)).trans ((World.cell?_setCell_other _ _ _ _ (by simp)).trans ((World.cell?_setCell_other _ _ _ _ (by simp)).trans (World.cell?_setCell_same _ _ _ ((World.cell?_setCell_other _ _ _ _ (by simp)).trans x1)))))))
  · exact ((World.cell?_setCell_other _ _ _ _ (by simp)).trans ((World.cell?_setCell_other _ _ _ _ (by simp)).trans ((World.cell?_setCell_other _ _ _ _ (by simp)).trans ((World.cell?_setCell_other _ _ _ _ (by simp)).trans (World.cell?_setCell_same _ _ _ ((World.cell?_setCell_other _ _ _ _ (by simp)).trans ((World.cell?_setCell_other _ _ _ _ (by simp)).trans x2)))))))
  · exact ((World.cell?_setCell_other _ _ _ _ (by simp)).trans ((World.cell?_setCell_other _ _ _ _ (by simp)).trans ((World.cell?_setCell_other _ _ _ _ (by simp)).trans (World.cell?_setCell_same _ _ _ ((World.cell?_setCell_other _ _ _ _ (by simp)).trans ((World.cell?_setCell_other _ _ _ _ (by simp)).trans ((World.cell?_setCell_other _ _ _ _ (by simp)).trans x3)))))))
  · exact ((World.cell?_setCell_other _ _ _ _ (by simp)).trans ((World.cell?_setCell_other _ _ _ _ (by simp)).trans (World.cell?_setCell_same _ _ _ ((World.cell?_setCell_other _ _ _ _ (by simp)).trans ((World.cell?_setCell_other _ _ _ _ (by simp)).trans ((World.cell?_setCell_other _ _ _ _ (by simp)).trans ((World.cell?_setCell_other _ _ _ _ (by simp)).trans x4)))))))
  · exact ((World.cell?_setCell_other _ _ _ _ (by simp)).trans (World.cell?_setCell_same _ _ _ ((World.cell?_setCell_other _ _ _ _ (by simp)).trans ((World.cell?_setCell_other _ _ _ _ (by simp)).trans ((World.cell?_setCell_other _ _ _ _ (by simp)).trans ((World.cell?_setCell_other _ _ _ _ (by simp)).trans ((World.cell?_setCell_other _ _ _ _ (by simp)).trans x5)))))))
  · exact (World.cell?_setCell_same _ _ _ ((World.cell?_setCell_other _ _ _ _ (by simp)).trans ((World.cell?_setCell_other _ _ _ _ (by simp)).trans ((World.cell?_setCell_other _ _ _ _ (by simp)).trans ((World.cell?_setCell_other _ _ _ _ (by simp)).trans ((World.cell?_setCell_other _ _ _ _ (by simp)).trans ((World.cell?_setCell_other _ _ _ _ (by simp)).trans x6)))))))
theorem Blk.seven {b : Nat} {t : TypeId} {v0 v1 v2 v3 v4 v5 v6 : Value} {W : World} (h : Blk b t #[v0, v1, v2, v3, v4, v5, v6] W) : (W.cell? ⟨b, 0, none⟩ = some v0 ∧ W.cell? ⟨b, 1, none⟩ = some v1 ∧ W.cell? ⟨b, 2, none⟩ = some v2 ∧ W.cell? ⟨b, 3, none⟩ = some v3 ∧ W.cell? ⟨b, 4, none⟩ = some v4 ∧ W.cell? ⟨b, 5, none⟩ = some v5 ∧ W.cell? ⟨b, 6, none⟩ = some v6) ∧ (∀ o, W.frozen? ⟨b, o, none⟩ = false) := by
  unfold Blk at h
  simp [World.cell?, World.frozen?, h]
theorem res19 {tmps : Array Value} {w : World} {b : Nat} {v0 v1 v2 v3 v4 v5 v6 k : Value} (hp : tmps[2]? = some (.pointer (some ⟨b, 0, none⟩))) (h5 : tmps[3]? = some k) (h : w.cell? ⟨b, 0, none⟩ = some v0 ∧ w.cell? ⟨b, 1, none⟩ = some v1 ∧ w.cell? ⟨b, 2, none⟩ = some v2 ∧ w.cell? ⟨b, 3, none⟩ = some v3 ∧ w.cell? ⟨b, 4, none⟩ = some v4 ∧ w.cell? ⟨b, 5, none⟩ = some v5 ∧ w.cell? ⟨b, 6, none⟩ = some v6) :
    (results Tryz.f63 tmps).run Tryz.prog w = .ok (.tuple #[.agg #[v0, v1, v2, v3, v4, v5, v6], k]) w := by
  obtain ⟨c0, c1, c2, c3, c4, c5, c6⟩ := h
  simp [results, Tryz.results63, go_sem, hp, h5, c0, c1, c2, c3, c4, c5, c6]
theorem Rd.seven {rb : Nat} {s : ByteArray} {a : Nat} {X : World} (h : Rd rb s a X) {b : Nat} (hne : b ≠ rb) (v0 v1 v2 v3 v4 v5 v6 : Value) : Rd rb s a (((((((X.setCell ⟨b, 0, none⟩ v0).setCell ⟨b, 1, none⟩ v1).setCell ⟨b, 2, none⟩ v2).setCell ⟨b, 3, none⟩ v3).setCell ⟨b, 4, none⟩ v4).setCell ⟨b, 5, none⟩ v5).setCell ⟨b, 6, none⟩ v6) :=
  (((((((h.other hne 0 v0).other hne 1 v1).other hne 2 v2).other hne 3 v3).other hne 4 v4).other hne 5 v5).other hne 6 v6)
theorem grown_seven {A X : World} {row : Option Nat} (h : A.grownBy X row) {b : Nat} (hb : A.heap.size ≤ b) (v0 v1 v2 v3 v4 v5 v6 : Value) : A.grownBy (((((((X.setCell ⟨b, 0, none⟩ v0).setCell ⟨b, 1, none⟩ v1).setCell ⟨b, 2, none⟩ v2).setCell ⟨b, 3, none⟩ v3).setCell ⟨b, 4, none⟩ v4).setCell ⟨b, 5, none⟩ v5).setCell ⟨b, 6, none⟩ v6) row :=
  (grown_set_new (grown_set_new (grown_set_new (grown_set_new (grown_set_new (grown_set_new (grown_set_new h hb 0 v0) hb 1 v1) hb 2 v2) hb 3 v3) hb 4 v4) hb 5 v5) hb 6 v6)

theorem info47 : (Tryz.prog.info? 96).map (fun i => (i.zero, i.size, i.bytes)) = some (some (.agg #[.string ⟨#[]⟩, .slice none 0 0, .slice none 0 0, .int .i64 0, .int .i64 0]), 5, 80) := by kernel_rfl
theorem row_ne_blk {W : World} {base : Nat} {e t : TypeId} {size : Nat} {v : Value} {n : Nat} {xs : List Value} {b : Nat} {cs : Array Value} (hr : W.ownsRow base e size v n xs) (h : Blk b t cs W) (he : e ≠ t) : v.ownBlock ≠ some b := by
  rcases hr.2 with ⟨rfl, _⟩ | ⟨g, cap, cur, rfl, _, hgb, _⟩
  · simp [Value.ownBlock]
  · intro e'
    obtain rfl : g = b := by simpa [Value.ownBlock] using e'
    rw [show W.heap[g]? = _ from h] at hgb
    simp at hgb
    exact he hgb.2.symm
/-- Behind a stage that is behind the cutter or is it. -/
def tl (s : ByteArray) (m a k : Nat) : (Bool × Nat) × Nat := if a = s.size then ((true, a), k) else if Pl.byteIn s 59 59 a = true then Pl.chn s m true (a + 1) k else ((false, a), k)
theorem chn_cut (s : ByteArray) (m : Nat) (cut : Bool) (a c b i d : Nat) (h : Pl.nm s a (if cut = true then Pl.lates else Pl.starts) 0 0 = (some i, b)) (hb : Pl.body s (if cut = true then Pl.kindL i else Pl.kindS i) b = (true, d)) (hc : cut = true ∨ 3 ≤ i) : Pl.chn s (m + 1) cut a c = tl s m d (c + 1) := by
  rw [chn_some s m cut a c b i true d h hb, if_pos rfl]
  have hcc : (cut || decide (3 ≤ i)) = true := by rcases hc with h | h <;> simp [h]
  unfold tl
  rw [hcc]
  by_cases hd : d = s.size
  · rw [if_pos ⟨hc, hd⟩, if_pos hd]
  · rw [if_neg (fun h => hd h.2), if_neg hd]
theorem chn_early (s : ByteArray) (m a c b i d : Nat) (h : Pl.nm s a Pl.starts 0 0 = (some i, b)) (hb : Pl.body s (Pl.kindS i) b = (true, d)) (hc : ¬ 3 ≤ i) : Pl.chn s (m + 1) false a c = if Pl.byteIn s 59 59 d = true then Pl.chn s m false (d + 1) (c + 1) else ((false, d), c + 1) := by
  rw [chn_some s m false a c b i true d h hb, if_pos rfl]
  simp [hc]
theorem chn_bad (s : ByteArray) (m : Nat) (cut : Bool) (a c b i d : Nat) (h : Pl.nm s a (if cut = true then Pl.lates else Pl.starts) 0 0 = (some i, b)) (hb : Pl.body s (if cut = true then Pl.kindL i else Pl.kindS i) b = (false, d)) : Pl.chn s (m + 1) cut a c = ((false, d), c + 1) := by
  rw [chn_some s m cut a c b i false d h hb]; simp
theorem nm_lt (s : ByteArray) (a : Nat) : ∀ (names : List ByteArray) (i lg j b : Nat), i + names.length ≤ j → Pl.nm s a names i lg ≠ (some j, b)
  | [], i, lg, j, b, _ => by simp [Pl.nm]
  | w :: r, i, lg, j, b, h => by
    unfold Pl.nm
    simp only [List.length_cons] at h
    by_cases hf : Pl.com s a w = w.size
    · rw [if_pos hf]; simp; omega
    · rw [if_neg hf]; exact nm_lt s a r (i + 1) _ j b (by omega)
theorem starts_nms (W : World) : Nms W.heap.size Pl.starts (W.alloc (.cells #[.string ⟨#[116, 97, 103, 115]⟩, .string ⟨#[102, 111, 108, 100]⟩, .string ⟨#[109, 97, 112, 40]⟩, .string ⟨#[119, 111, 114, 100, 115]⟩, .string ⟨#[98, 108, 97, 110, 107, 115]⟩, .string ⟨#[119, 104, 111, 108, 101]⟩] 9)) := nms_new Pl.starts W
theorem lates_nms (W : World) : Nms W.heap.size Pl.lates (W.alloc (.cells #[.string ⟨#[108, 111, 119]⟩, .string ⟨#[115, 116, 101, 109]⟩, .string ⟨#[115, 116, 111, 112, 40]⟩, .string ⟨#[115, 121, 110, 40]⟩, .string ⟨#[108, 101, 110, 40]⟩, .string ⟨#[103, 114, 97, 109, 40]⟩, .string ⟨#[101, 100, 103, 101, 40]⟩] 9)) := nms_new Pl.lates W
theorem cell_alloc {X : World} {b : Nat} (hb : b < X.heap.size) (O : Obj) (o : Nat) : (X.alloc O).cell? ⟨b, o, none⟩ = X.cell? ⟨b, o, none⟩ := ((Below.refl X.heap.size X).alloc (Nat.le_refl _) O).cell (p := ⟨b, o, none⟩) hb
theorem cells_alloc7 {X : World} {b : Nat} {v0 v1 v2 v3 v4 v5 v6 : Value} (hb : b < X.heap.size) (O : Obj) (h : X.cell? ⟨b, 0, none⟩ = some v0 ∧ X.cell? ⟨b, 1, none⟩ = some v1 ∧ X.cell? ⟨b, 2, none⟩ = some v2 ∧ X.cell? ⟨b, 3, none⟩ = some v3 ∧ X.cell? ⟨b, 4, none⟩ = some v4 ∧ X.cell? ⟨b, 5, none⟩ = some v5 ∧ X.cell? ⟨b, 6, none⟩ = some v6) : (X.alloc O).cell? ⟨b, 0, none⟩ = some v0 ∧ (X.alloc O).cell? ⟨b, 1, none⟩ = some v1 ∧ (X.alloc O).cell? ⟨b, 2, none⟩ = some v2 ∧ (X.alloc O).cell? ⟨b, 3, none⟩ = some v3 ∧ (X.alloc O).cell? ⟨b, 4, none⟩ = some v4 ∧ (X.alloc O).cell? ⟨b, 5, none⟩ = some v5 ∧ (X.alloc O).cell? ⟨b, 6, none⟩ = some v6 := by
  rw [cell_alloc hb, cell_alloc hb, cell_alloc hb, cell_alloc hb, cell_alloc hb, cell_alloc hb, cell_alloc hb]; exact h
theorem Blk.s0 {b : Nat} {t : TypeId} {v0 v1 v2 v3 v4 v5 v6 : Value} {W : World} (h : Blk b t #[v0, v1, v2, v3, v4, v5, v6] W) (u : Value) : Blk b t #[u, v1, v2, v3, v4, v5, v6] (W.setCell ⟨b, 0, none⟩ u) := heap_set W b 0 u _ t h
theorem Blk.s1 {b : Nat} {t : TypeId} {v0 v1 v2 v3 v4 v5 v6 : Value} {W : World} (h : Blk b t #[v0, v1, v2, v3, v4, v5, v6] W) (u : Value) : Blk b t #[v0, u, v2, v3, v4, v5, v6] (W.setCell ⟨b, 1, none⟩ u) := heap_set W b 1 u _ t h
theorem Blk.s2 {b : Nat} {t : TypeId} {v0 v1 v2 v3 v4 v5 v6 : Value} {W : World} (h : Blk b t #[v0, v1, v2, v3, v4, v5, v6] W) (u : Value) : Blk b t #[v0, v1, u, v3, v4, v5, v6] (W.setCell ⟨b, 2, none⟩ u) := heap_set W b 2 u _ t h
theorem Blk.s3 {b : Nat} {t : TypeId} {v0 v1 v2 v3 v4 v5 v6 : Value} {W : World} (h : Blk b t #[v0, v1, v2, v3, v4, v5, v6] W) (u : Value) : Blk b t #[v0, v1, v2, u, v4, v5, v6] (W.setCell ⟨b, 3, none⟩ u) := heap_set W b 3 u _ t h
theorem Blk.s4 {b : Nat} {t : TypeId} {v0 v1 v2 v3 v4 v5 v6 : Value} {W : World} (h : Blk b t #[v0, v1, v2, v3, v4, v5, v6] W) (u : Value) : Blk b t #[v0, v1, v2, v3, u, v5, v6] (W.setCell ⟨b, 4, none⟩ u) := heap_set W b 4 u _ t h
theorem Blk.s5 {b : Nat} {t : TypeId} {v0 v1 v2 v3 v4 v5 v6 : Value} {W : World} (h : Blk b t #[v0, v1, v2, v3, v4, v5, v6] W) (u : Value) : Blk b t #[v0, v1, v2, v3, v4, u, v6] (W.setCell ⟨b, 5, none⟩ u) := heap_set W b 5 u _ t h
theorem Blk.s6 {b : Nat} {t : TypeId} {v0 v1 v2 v3 v4 v5 v6 : Value} {W : World} (h : Blk b t #[v0, v1, v2, v3, v4, v5, v6] W) (u : Value) : Blk b t #[v0, v1, v2, v3, v4, v5, u] (W.setCell ⟨b, 6, none⟩ u) := heap_set W b 6 u _ t h
theorem Blk.alloc {b : Nat} {t : TypeId} {cs : Array Value} {W : World} (h : Blk b t cs W) (O : Obj) : Blk b t cs (W.alloc O) := h.keep (World.grownBy_alloc W O none) (by simp)
theorem Blk.setO {b : Nat} {t : TypeId} {cs : Array Value} {W : World} (h : Blk b t cs W) {b2 : Nat} (hne : b2 ≠ b) (o : Nat) (v : Value) : Blk b t cs (W.setCell ⟨b2, o, none⟩ v) := h.keep (grown_set W b2 o v) (by simpa using hne)
theorem Rd.al {rb : Nat} {s : ByteArray} {a : Nat} {w : World} (h : Rd rb s a w) (O : Obj) : Rd rb s a (w.alloc O) := h.of_below ((Below.refl _ w).alloc (Nat.le_refl _) O)

theorem starts_q : ∀ i (hi : i < Pl.starts.length), (((Pl.starts[i]).toList == [119, 111, 114, 100, 115]) || ((Pl.starts[i]).toList == [98, 108, 97, 110, 107, 115]) || ((Pl.starts[i]).toList == [119, 104, 111, 108, 101])) = decide (3 ≤ i) ∧ (Pl.starts[i]).toList.isEmpty = false := by decide +kernel

end Go.Proofs.YtcmgclckknpecaaGreatDoor

namespace Go.Proofs.YtcmgclckknpecaaGreatDoor
open Go.RowKit

/-- The thirteen cells of an analyser: the plan (0 to 6), the Once (7 to 9), the stages (10 to 12). -/
def An (b : Nat) (cs : Array Value) (W : World) : Prop := Blk b 119 cs W
theorem blk_cell {b : Nat} {t : TypeId} {cs : Array Value} {W : World} (h : Blk b t cs W) (o : Nat) : W.cell? ⟨b, o, none⟩ = cs[o]? := by
  unfold Blk at h
  simp [World.cell?, h]
theorem blk_frozen {b : Nat} {t : TypeId} {cs : Array Value} {W : World} (h : Blk b t cs W) (o : Nat) : W.frozen? ⟨b, o, none⟩ = false := by
  unfold Blk at h
  simp [World.frozen?, h]
theorem info171 : (Tryz.prog.info? 194).map (fun i => (i.zero, i.size, i.bytes)) = some (some (.agg #[.nilFunc]), 1, 8) := by kernel_rfl

set_option maxRecDepth 100000 in
set_option maxHeartbeats 4000000 in
/-- makeStages, of a plan without early stages, with the cutter words, and k late stages low. -/
theorem makeStages_low (b k gl : Nat) (pe : Option Addr) (ce : Nat) (p1 p2 : Option Addr) (n1 c1 n2 c2 : Nat) (x z : Int) (al : Option Addr) (cl : Nat) (ss sm : Value) (w : World) (hk : k ≤ 8)
    (hA : Blk b 119 #[.slice pe 0 ce, .string ⟨#[119, 111, 114, 100, 115]⟩, .slice p1 n1 c1, .slice p2 n2 c2, .int .i64 x, .int .i64 z, .slice al k cl, .int .u32 0, ss, sm, .slice none 0 0, .nilFunc, .slice none 0 0] w)
    (hal : 0 < k → al = some ⟨gl, 0, none⟩ ∧ gl ≠ b ∧ gl < w.heap.size) (hlt : ∀ j, j < k → ∃ q1 m1 d1 q2 m2 d2, ∃ u v : Int, w.cell? ⟨gl, j * 5, none⟩ = some (.string ⟨#[108, 111, 119]⟩) ∧ w.cell? ⟨gl, j * 5 + 1, none⟩ = some (.slice q1 m1 d1) ∧ w.cell? ⟨gl, j * 5 + 2, none⟩ = some (.slice q2 m2 d2) ∧ w.cell? ⟨gl, j * 5 + 3, none⟩ = some (.int .i64 u) ∧ w.cell? ⟨gl, j * 5 + 4, none⟩ = some (.int .i64 v)) :
    Calls Tryz.prog 66 #[.pointer (some ⟨b, 0, none⟩)] w fun e w' => e = .returned (.tuple #[]) ∧ ∃ bs v, w.heap.size ≤ bs ∧ Boxed w' bs 372 (.func (.func 200) #[] #[]) ∧ w'.ownsRow w.heap.size 194 1 v k (List.replicate k (.func (.func 203) #[] #[])) ∧
      Blk b 119 #[.slice pe 0 ce, .string ⟨#[119, 111, 114, 100, 115]⟩, .slice p1 n1 c1, .slice p2 n2 c2, .int .i64 x, .int .i64 z, .slice al k cl, .int .u32 0, ss, sm, .slice none 0 0, .func (.func 296) #[] #[.pointer (some ⟨bs, 0, none⟩)], v] w' ∧ w.grownBy w' (some b) := by
  have hb := hA.lt
  obtain ⟨i0, hi, hz0, hz1, hz2⟩ := info_parts info171
  have a0 : w.cell? ⟨b, 0, none⟩ = some (.slice pe 0 ce) := blk_cell hA 0
  go_enter Tryz.func66, Tryz.ntmps66
  have a1 : w.cell? ⟨b, 1, none⟩ = some (.string ⟨#[119, 111, 114, 100, 115]⟩) := blk_cell hA 1
  have a2 : w.cell? ⟨b, 2, none⟩ = some (.slice p1 n1 c1) := blk_cell hA 2
  have a3 : w.cell? ⟨b, 3, none⟩ = some (.slice p2 n2 c2) := blk_cell hA 3
  have a4 : w.cell? ⟨b, 4, none⟩ = some (.int .i64 x) := blk_cell hA 4
  have a5 : w.cell? ⟨b, 5, none⟩ = some (.int .i64 z) := blk_cell hA 5
  go_wp2_with fail
  refine wp_loop_once ?_
  go_wp2_with fail
  refine (makeCutter_words p1 p2 n1 c1 n2 c2 x z w).mono ?_
  rintro e w1 ⟨bs, rfl, hbs, hbs2, hB1⟩
  have hA1 : Blk b 119 #[.slice pe 0 ce, .string ⟨#[119, 111, 114, 100, 115]⟩, .slice p1 n1 c1, .slice p2 n2 c2, .int .i64 x, .int .i64 z, .slice al k cl, .int .u32 0, ss, sm, .slice none 0 0, .nilFunc, .slice none 0 0] w1 := hA.keep (grown_of_below none hB1) (by simp)
  have e11 : w1.cell? ⟨b, 11, none⟩ = some .nilFunc := blk_cell hA1 11
  have f11 := blk_frozen hA1 11
  have hA2 : Blk b 119 #[.slice pe 0 ce, .string ⟨#[119, 111, 114, 100, 115]⟩, .slice p1 n1 c1, .slice p2 n2 c2, .int .i64 x, .int .i64 z, .slice al k cl, .int .u32 0, ss, sm, .slice none 0 0, (.func (.func 296) #[] #[.pointer (some ⟨bs, 0, none⟩)]), .slice none 0 0] (w1.setCell ⟨b, 11, none⟩ (.func (.func 296) #[] #[.pointer (some ⟨bs, 0, none⟩)])) := hA1.set 11 (.func (.func 296) #[] #[.pointer (some ⟨bs, 0, none⟩)])
  have hbs3 : Boxed (w1.setCell ⟨b, 11, none⟩ (.func (.func 296) #[] #[.pointer (some ⟨bs, 0, none⟩)])) bs 372 (.func (.func 200) #[] #[]) := hbs.kept (grown_set w1 b 11 (.func (.func 296) #[] #[.pointer (some ⟨bs, 0, none⟩)])) (by simp; omega)
  have hg2 : w.grownBy (w1.setCell ⟨b, 11, none⟩ (.func (.func 296) #[] #[.pointer (some ⟨bs, 0, none⟩)])) (some b) := grown_trans (grown_of_below _ hB1) (grown_set w1 b 11 (.func (.func 296) #[] #[.pointer (some ⟨bs, 0, none⟩)]))
  have e6 : (w1.setCell ⟨b, 11, none⟩ (.func (.func 296) #[] #[.pointer (some ⟨bs, 0, none⟩)])).cell? ⟨b, 6, none⟩ = some (.slice al k cl) := blk_cell hA2 6
  go_wp2_with fail
  go_loopw [43] (fun i wr => ∃ (j : Nat) (v : Value), i = .int .i64 (j : Int) ∧ j ≤ k ∧ Blk b 119 #[.slice pe 0 ce, .string ⟨#[119, 111, 114, 100, 115]⟩, .slice p1 n1 c1, .slice p2 n2 c2, .int .i64 x, .int .i64 z, .slice al k cl, .int .u32 0, ss, sm, .slice none 0 0, (.func (.func 296) #[] #[.pointer (some ⟨bs, 0, none⟩)]), v] wr ∧ wr.ownsRow w.heap.size 194 1 v j (List.replicate j (.func (.func 203) #[] #[])) ∧ Boxed wr bs 372 (.func (.func 200) #[] #[]) ∧ w.grownBy wr (some b)) (fun i _ => k - (intOf i).toNat)
  case atStart => exact ⟨0, _, rfl, by omega, hA2, World.ownsRow_nil _ _ _ _, hbs3, hg2⟩
  case round =>
    obtain ⟨j, v, rfl, hj, hAr, hrow, hbr, hgr⟩ := hrel
    by_cases hjk : j < k
    · have hjI : (j : Int) < (k : Int) := by omega
      obtain ⟨rfl, hglb, hglw⟩ := hal (by omega)
      obtain ⟨q1, m1, d1, q2, m2, d2, u, v', g0, g1, g2, g3, g4⟩ := hlt j hjk
      have hkeep : ∀ o, wr.cell? ⟨gl, o, none⟩ = w.cell? ⟨gl, o, none⟩ := fun o => hgr.cell_far ⟨gl, o, none⟩ hglw (by simpa using hglb)
      rw [← hkeep] at g0 g1 g2 g3 g4
      clear hkeep
      have hvf : ∃ av cv, v = .slice av j cv := by
        rcases hrow.2 with ⟨hv', h0⟩ | ⟨g', cap', cur, hv', _⟩
        · exact ⟨none, 0, by rw [hv', h0]⟩
        · exact ⟨_, _, hv'⟩
      obtain ⟨av, cv, rfl⟩ := hvf
      go_wp2_with fail
      have tb : Blk wr.heap.size 96 #[.string ⟨#[108, 111, 119]⟩, .slice q1 m1 d1, .slice q2 m2 d2, .int .i64 u, .int .i64 v'] (wr.alloc (.cells #[.string ⟨#[108, 111, 119]⟩, .slice q1 m1 d1, .slice q2 m2 d2, .int .i64 u, .int .i64 v'] 96)) := heap_alloc_new wr _
      have hAa := hAr.alloc (.cells #[.string ⟨#[108, 111, 119]⟩, .slice q1 m1 d1, .slice q2 m2 d2, .int .i64 u, .int .i64 v'] 96)
      have hba := hAr.lt
      have hS0 : (wr.alloc (.cells #[.string ⟨#[108, 111, 119]⟩, .slice q1 m1 d1, .slice q2 m2 d2, .int .i64 u, .int .i64 v'] 96)).drew.cell? ⟨b, 12, none⟩ = some (.slice av j cv) ∧ (wr.alloc (.cells #[.string ⟨#[108, 111, 119]⟩, .slice q1 m1 d1, .slice q2 m2 d2, .int .i64 u, .int .i64 v'] 96)).drew.cell? ⟨wr.heap.size, 0, none⟩ = some (.string ⟨#[108, 111, 119]⟩) ∧ (wr.alloc (.cells #[.string ⟨#[108, 111, 119]⟩, .slice q1 m1 d1, .slice q2 m2 d2, .int .i64 u, .int .i64 v'] 96)).drew.cell? ⟨wr.heap.size, 1, none⟩ = some (.slice q1 m1 d1) ∧ (wr.alloc (.cells #[.string ⟨#[108, 111, 119]⟩, .slice q1 m1 d1, .slice q2 m2 d2, .int .i64 u, .int .i64 v'] 96)).drew.cell? ⟨wr.heap.size, 2, none⟩ = some (.slice q2 m2 d2) ∧ (wr.alloc (.cells #[.string ⟨#[108, 111, 119]⟩, .slice q1 m1 d1, .slice q2 m2 d2, .int .i64 u, .int .i64 v'] 96)).drew.cell? ⟨wr.heap.size, 3, none⟩ = some (.int .i64 u) ∧ (wr.alloc (.cells #[.string ⟨#[108, 111, 119]⟩, .slice q1 m1 d1, .slice q2 m2 d2, .int .i64 u, .int .i64 v'] 96)).drew.cell? ⟨wr.heap.size, 4, none⟩ = some (.int .i64 v') := ⟨blk_cell hAa 12, blk_cell tb 0, blk_cell tb 1, blk_cell tb 2, blk_cell tb 3, blk_cell tb 4⟩
      refine wp_region_G (S := fun w' => w'.cell? ⟨b, 12, none⟩ = some (.slice av j cv) ∧ w'.cell? ⟨wr.heap.size, 0, none⟩ = some (.string ⟨#[108, 111, 119]⟩) ∧ w'.cell? ⟨wr.heap.size, 1, none⟩ = some (.slice q1 m1 d1) ∧ w'.cell? ⟨wr.heap.size, 2, none⟩ = some (.slice q2 m2 d2) ∧ w'.cell? ⟨wr.heap.size, 3, none⟩ = some (.int .i64 u) ∧ w'.cell? ⟨wr.heap.size, 4, none⟩ = some (.int .i64 v')) (c := 11) (by kernel_rfl) ?_
      refine wpAnyG_take 47 (i := 0) (v := .pointer (some ⟨b, 0, none⟩)) rfl rfl (by kernel_rfl) (by kernel_rfl) (by kernel_rfl) (by kernel_rfl) (by decide) (by kernel_rfl) (fun _ _ _ h => h) (Or.inl ⟨by rfl, ?_⟩) hS0 ?_
      · intro w' hw'
        obtain ⟨s0, s1, s2, s3, s4, s5⟩ := hw'
        go_simp
      simp only [List.setIfInBounds_toArray, List.set_cons_zero, List.set_cons_succ]
      refine wpAnyG_take 48 (i := 1) (v := .pointer (some ⟨b, 0, none⟩)) rfl rfl (by kernel_rfl) (by kernel_rfl) (by kernel_rfl) (by kernel_rfl) (by decide) (by kernel_rfl) (fun _ _ _ h => h) (Or.inl ⟨by rfl, ?_⟩) hS0 ?_
      · intro w' hw'
        obtain ⟨s0, s1, s2, s3, s4, s5⟩ := hw'
        go_simp
      simp only [List.setIfInBounds_toArray, List.set_cons_zero, List.set_cons_succ]
      refine wpAnyG_take 49 (i := 2) (v := .pointer (some ⟨b, 0, none⟩)) rfl rfl (by kernel_rfl) (by kernel_rfl) (by kernel_rfl) (by kernel_rfl) (by decide) (by kernel_rfl) (fun _ _ _ h => h) (Or.inl ⟨by rfl, ?_⟩) hS0 ?_
      · intro w' hw'
        obtain ⟨s0, s1, s2, s3, s4, s5⟩ := hw'
        go_simp
      simp only [List.setIfInBounds_toArray, List.set_cons_zero, List.set_cons_succ]
      refine wpAnyG_take 50 (i := 3) (v := .pointer (some ⟨b, 12, none⟩)) rfl rfl (by kernel_rfl) (by kernel_rfl) (by kernel_rfl) (by kernel_rfl) (by decide) (by kernel_rfl) (fun _ _ _ h => h) (Or.inl ⟨by rfl, ?_⟩) hS0 ?_
      · intro w' hw'
        obtain ⟨s0, s1, s2, s3, s4, s5⟩ := hw'
        go_simp
      simp only [List.setIfInBounds_toArray, List.set_cons_zero, List.set_cons_succ]
      refine wpAnyG_take 51 (i := 4) (v := .slice av j cv) rfl rfl (by kernel_rfl) (by kernel_rfl) (by kernel_rfl) (by kernel_rfl) (by decide) (by kernel_rfl) (fun _ _ _ h => h) (Or.inl ⟨by rfl, ?_⟩) hS0 ?_
      · intro w' hw'
        obtain ⟨s0, s1, s2, s3, s4, s5⟩ := hw'
        go_simp
      simp only [List.setIfInBounds_toArray, List.set_cons_zero, List.set_cons_succ]
      refine wpAnyG_take 52 (i := 5) (v := .agg #[.string ⟨#[108, 111, 119]⟩, .slice q1 m1 d1, .slice q2 m2 d2, .int .i64 u, .int .i64 v']) rfl rfl (by kernel_rfl) (by kernel_rfl) (by kernel_rfl) (by kernel_rfl) (by decide) (by kernel_rfl) (fun _ _ _ h => h) (Or.inl ⟨by rfl, ?_⟩) hS0 ?_
      · intro w' hw'
        obtain ⟨s0, s1, s2, s3, s4, s5⟩ := hw'
        go_simp
      simp only [List.setIfInBounds_toArray, List.set_cons_zero, List.set_cons_succ]
      refine wpAnyG_one (i := 6) rfl (by kernel_rfl) (by rfl) ?_
      go_simp
      refine (makeLate_low q1 q2 m1 d1 m2 d2 u v' _).mono ?_
      rintro e W2 ⟨rfl, hB2⟩
      have hs2 : wr.heap.size + 1 ≤ W2.heap.size := by have := hB2.size; simpa using this
      have hBd : Below (wr.alloc (.cells #[.string ⟨#[108, 111, 119]⟩, .slice q1 m1 d1, .slice q2 m2 d2, .int .i64 u, .int .i64 v'] 96)).heap.size (wr.alloc (.cells #[.string ⟨#[108, 111, 119]⟩, .slice q1 m1 d1, .slice q2 m2 d2, .int .i64 u, .int .i64 v'] 96)) W2 := (Below.refl _ _).drew.trans hB2
      have hA2' := hAa.keep (row := none) (grown_of_below none hBd) (by simp)
      have tb2 := tb.keep (row := none) (grown_of_below none hBd) (by simp)
      have hBr : Below wr.heap.size wr W2 := ((Below.refl wr.heap.size wr).alloc (Nat.le_refl _) _).trans (hBd.mono (by simp))
      have hrow2 := ownsRow_below hrow hBr
      have hb2 := boxed_below hbr hBr
      have hS2 : W2.cell? ⟨b, 12, none⟩ = some (.slice av j cv) ∧ W2.cell? ⟨wr.heap.size, 0, none⟩ = some (.string ⟨#[108, 111, 119]⟩) ∧ W2.cell? ⟨wr.heap.size, 1, none⟩ = some (.slice q1 m1 d1) ∧ W2.cell? ⟨wr.heap.size, 2, none⟩ = some (.slice q2 m2 d2) ∧ W2.cell? ⟨wr.heap.size, 3, none⟩ = some (.int .i64 u) ∧ W2.cell? ⟨wr.heap.size, 4, none⟩ = some (.int .i64 v') := ⟨blk_cell hA2' 12, blk_cell tb2 0, blk_cell tb2 1, blk_cell tb2 2, blk_cell tb2 3, blk_cell tb2 4⟩
      refine ⟨hS2, ?_⟩
      refine wpAnyG_one (i := 7) rfl (by kernel_rfl) (by rfl) ?_
      go_simp
      have hA3 := hA2'.alloc (.cells #[.func (.func 203) #[] #[]] 194)
      have tb3 := tb2.alloc (.cells #[.func (.func 203) #[] #[]] 194)
      have hS3 : (W2.alloc (.cells #[.func (.func 203) #[] #[]] 194)).cell? ⟨b, 12, none⟩ = some (.slice av j cv) ∧ (W2.alloc (.cells #[.func (.func 203) #[] #[]] 194)).cell? ⟨wr.heap.size, 0, none⟩ = some (.string ⟨#[108, 111, 119]⟩) ∧ (W2.alloc (.cells #[.func (.func 203) #[] #[]] 194)).cell? ⟨wr.heap.size, 1, none⟩ = some (.slice q1 m1 d1) ∧ (W2.alloc (.cells #[.func (.func 203) #[] #[]] 194)).cell? ⟨wr.heap.size, 2, none⟩ = some (.slice q2 m2 d2) ∧ (W2.alloc (.cells #[.func (.func 203) #[] #[]] 194)).cell? ⟨wr.heap.size, 3, none⟩ = some (.int .i64 u) ∧ (W2.alloc (.cells #[.func (.func 203) #[] #[]] 194)).cell? ⟨wr.heap.size, 4, none⟩ = some (.int .i64 v') := ⟨blk_cell hA3 12, blk_cell tb3 0, blk_cell tb3 1, blk_cell tb3 2, blk_cell tb3 3, blk_cell tb3 4⟩
      refine ⟨hS3, ?_⟩
      have HNB : Hid ((W2.alloc (.cells #[.func (.func 203) #[] #[]] 194)).heap[W2.heap.size]? = some (.cells #[.func (.func 203) #[] #[]] 194 (0, 0))) := heap_alloc_new W2 _
      refine wpAnyG_one (i := 8) rfl (by kernel_rfl) (by rfl) ?_
      refine wp_append_lies _ _ _ 117 rfl w.heap.size 194 i0 (.agg #[.nilFunc]) 1 8 Tryz.underlying117 hi hz0 hz1 hz2 rfl (by decide) _ j (List.replicate j (.func (.func 203) #[] #[])) rfl (hrow2.alloc _) ⟨W2.heap.size, 0, none⟩ 1 1 [.func (.func 203) #[] #[]] rfl rfl (World.news_of_block HNB.out) (by simp [Value.oneCell']) (by decide) (by unfold maxLen; omega) (by omega) (by have := hgr.size; simp; omega) (W2.heap.size + 1) (by simp) ?_
      intro g' cap' W4 hown hgrow hat hlt4
      have hA4 := hA3.keep hgrow (row_ne_blk hrow2 hA2' (by decide))
      have hne4 : (Value.slice av j cv).ownBlock ≠ some wr.heap.size := fun e => by have := (ownBlock_lt hrow e).1; omega
      have tb4 := tb3.keep hgrow hne4
      have hb4 : Boxed W4 bs 372 (.func (.func 200) #[] #[]) := (hb2.alloc _).kept hgrow (hb2.not_row (by decide) hrow2)
      have hS4 : W4.cell? ⟨b, 12, none⟩ = some (.slice av j cv) ∧ W4.cell? ⟨wr.heap.size, 0, none⟩ = some (.string ⟨#[108, 111, 119]⟩) ∧ W4.cell? ⟨wr.heap.size, 1, none⟩ = some (.slice q1 m1 d1) ∧ W4.cell? ⟨wr.heap.size, 2, none⟩ = some (.slice q2 m2 d2) ∧ W4.cell? ⟨wr.heap.size, 3, none⟩ = some (.int .i64 u) ∧ W4.cell? ⟨wr.heap.size, 4, none⟩ = some (.int .i64 v') := ⟨blk_cell hA4 12, blk_cell tb4 0, blk_cell tb4 1, blk_cell tb4 2, blk_cell tb4 3, blk_cell tb4 4⟩
      refine ⟨fun _ => hS4, ?_⟩
      simp only [Act.put, List.setIfInBounds_toArray]
      refine wpAnyG_one (i := 9) rfl (by kernel_rfl) (by rfl) ?_
      go_simp
      refine wpAnyG_one (i := 10) rfl (by kernel_rfl) (by rfl) ?_
      go_simp
      have x12 : W4.cell? ⟨b, 12, none⟩ = some (.slice av j cv) := hS4.1
      have y12 := blk_frozen hA4 12
      refine wpAnyG_one (i := 11) rfl (by kernel_rfl) (by rfl) ?_
      go_simp
      refine wpAnyG_done (by kernel_rfl) ?_ _
      go_wp2_with fail
      have hA5 := hA4.set 12 (.slice (some ⟨g', 0, none⟩) (j + 1) cap')
      have hb5 : Boxed (W4.setCell ⟨b, 12, none⟩ (.slice (some ⟨g', 0, none⟩) (j + 1) cap')) bs 372 (.func (.func 200) #[] #[]) := hb4.kept (grown_set W4 b 12 (.slice (some ⟨g', 0, none⟩) (j + 1) cap')) (by simp; omega)
      have hr5 := ownsRow_set_other hown (row_ne_blk hown hA4 (by decide)) 12 (.slice (some ⟨g', 0, none⟩) (j + 1) cap')
      have hg5 : w.grownBy (W4.setCell ⟨b, 12, none⟩ (.slice (some ⟨g', 0, none⟩) (j + 1) cap')) (some b) := grown_trans (grown_own (grown_alloc (grown_trans hgr (grown_of_below _ hBr)) (.cells #[.func (.func 203) #[] #[]] 194)) hgrow (fun x e => (ownBlock_lt hrow e).2)) (grown_set W4 b 12 (.slice (some ⟨g', 0, none⟩) (j + 1) cap'))
      go_roundw
      case rel => exact ⟨j + 1, (.slice (some ⟨g', 0, none⟩) (j + 1) cap'), by go_num, by omega, hA5, by rw [List.replicate_succ']; exact hr5, hb5, hg5⟩
      case measure => simp [intOf]; omega
    · have hjI : ¬ (j : Int) < (k : Int) := by omega
      obtain rfl : j = k := by omega
      go_wp2_with fail
      go_end0
      exact ⟨rfl, bs, hbs2, hbr, v, hrow, hAr, hgr⟩

end Go.Proofs.YtcmgclckknpecaaGreatDoor

namespace Go.Proofs.YtcmgclckknpecaaGreatDoor
open Go.RowKit Go.Shelf

theorem ownsRow_base {w : World} {b b' : Nat} {e : TypeId} {size : Nat} {v : Value} {n : Nat} {xs : List Value} (h : w.ownsRow b e size v n xs) (hb : b' ≤ b) : w.ownsRow b' e size v n xs := by
  refine ⟨h.1, ?_⟩
  rcases h.2 with h | ⟨g, cap, cur, hv, hg, r⟩
  · exact .inl h
  · exact .inr ⟨g, cap, cur, hv, by omega, r⟩

set_option maxHeartbeats 400000 in
theorem collect_any (Bn : Nat) (s : ByteArray) (hm : s.size ≤ 120) (xs : List (Nat × Nat × Nat)) (hlen : xs.length ≤ 120) (HXS : Hid (Pl.cs (Pl.bt s) s.size s.size 0 = xs)) (w : World) (hBn : Bn < w.heap.size)
    (hc : w.cell? ⟨Bn, 0, none⟩ = some (.string s)) :
    Calls Tryz.prog 40 #[.func (.func 83) #[] #[.pointer (some ⟨Bn, 0, none⟩)]] w fun e W' => ∃ v, e = .returned v ∧ W'.ownsRow w.heap.size 38 3 v xs.length (xs.flatMap enc) ∧ Below w.heap.size w W' := by
  go_enter Tryz.func40, Tryz.ntmps40
  go_wp2_with (go_at_call 82; refine (callsIn_wide.1 (appendseq_in 3 (by omega) Bn s hm xs hlen HXS _ hBn hc)).mono ?_; rintro e w1 ⟨v, rfl, hrow, hB⟩)
  go_ret
  exact ⟨v, rfl, hrow, hB⟩

set_option maxHeartbeats 400000 in
theorem split_long (s : ByteArray) (w : World) (hl : 120 < s.size) :
    Calls Tryz.prog 17 #[.string s] w fun e w' => e = .returned (.tuple #[.slice none 0 0, .int .i64 1]) ∧ w' = w := by
  have hl' : (120 : Int) < (s.size : Int) := by omega
  go_enter Tryz.func17, Tryz.ntmps17
  go_wp2
  go_ret2
  exact ⟨rfl, rfl⟩

set_option maxHeartbeats 400000 in
theorem split_any (s : ByteArray) (w : World) (hm : s.size ≤ 120) (xs : List (Nat × Nat × Nat)) (HXS : Hid (Pl.cs (Pl.bt s) s.size s.size 0 = xs)) :
    Calls Tryz.prog 17 #[.string s] w fun e w' => ∃ v, e = .returned (.tuple #[v, .int .i64 0]) ∧ w'.ownsRow w.heap.size 38 3 v xs.length (xs.flatMap enc) ∧ Below w.heap.size w w' := by
  have hl' : ¬ (120 : Int) < (s.size : Int) := by omega
  have hlen : xs.length ≤ 120 := by have := Pl.cs_length (Pl.bt s) s.size s.size 0; rw [HXS.out] at this; omega
  have hB0 : Below w.heap.size w (w.alloc (.cells #[.string s] 9)) := (Below.refl _ w).alloc (Nat.le_refl _) _
  have HCol : Hid (Calls Tryz.prog 40 #[.func (.func 83) #[] #[.pointer (some ⟨w.heap.size, 0, none⟩)]] (w.alloc (.cells #[.string s] 9)) fun e W' => ∃ v, e = .returned v ∧ W'.ownsRow w.heap.size 38 3 v xs.length (xs.flatMap enc) ∧ Below w.heap.size w W') :=
    (collect_any w.heap.size s hm xs hlen HXS (w.alloc (.cells #[.string s] 9)) (by simp) (by simp [go_sem])).mono fun e W' ⟨v, he, hr, hB⟩ => ⟨v, he, ownsRow_base hr (by simp), hB0.trans (hB.mono (by simp))⟩
  go_enter Tryz.func17, Tryz.ntmps17
  go_wp2_with fail
  refine (callsIn_wide.1 (characters_in Fence.wide 3 trivial rfl s _)).mono ?_
  rintro e w1 ⟨rfl, rfl⟩
  go_wp2_with fail
  refine HCol.out.mono ?_
  rintro e w1 ⟨v, rfl, hrow, hB⟩
  go_wp2
  go_ret2
  exact ⟨v, rfl, hrow, hB⟩

end Go.Proofs.YtcmgclckknpecaaGreatDoor
