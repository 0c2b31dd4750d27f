import Derived.Test.YtcmgclckknpecaaGreatDoorAStq
import Derived.Test.YtcmgclckknpecaaGreatDoorAStr
import Derived.Test.YtcmgclckknpecaaGreatDoorAGrb
namespace Go.Proofs.YtcmgclckknpecaaGreatDoor
open Go.RowKit

theorem step_start (rb g : Nat) (s : ByteArray) (a : Nat) (w : World) (hm : s.size ≤ 80) (ha : a ≤ s.size) (h : Rd rb s a w) (hN : Nms g Pl.starts w) (i b : Nat) (hi : i < Pl.starts.length) (HR : Hid (Pl.nm s a Pl.starts 0 0 = (some i, b))) (hb : b ≤ s.size) (o : Bool) (c : Nat) (HB : Hid (Pl.body s (Pl.kindS i) b = (o, c))) :
    Calls Tryz.prog 123 #[.pointer (some ⟨rb, 0, none⟩), .slice (some ⟨g, 0, none⟩) 6 6] w fun e w' => ∃ p1 n1 d1 p2 n2 d2, ∃ x z : Int, e = .returned (.tuple #[.agg #[.string (Pl.starts[i]), .slice p1 n1 d1, .slice p2 n2 d2, .int .i64 x, .int .i64 z], .bool o]) ∧ Rd rb s c w' ∧ w.grownBy w' (some rb) := by
  have hi6 : i < 6 := hi
  obtain rfl | rfl | rfl | rfl | rfl | rfl : i = 0 ∨ i = 1 ∨ i = 2 ∨ i = 3 ∨ i = 4 ∨ i = 5 := by omega
  · obtain ⟨rfl, rfl⟩ : true = o ∧ b = c := by simpa [Pl.body, Pl.kindS] using HB.out
    exact step_k0 rb g s a Pl.starts w hm ha h hN starts_size (by decide) (some 0) b HR hb (⟨#[116, 97, 103, 115]⟩ : ByteArray) true (.inl ⟨0, hi, rfl, rfl, rfl⟩) (by decide +kernel) (by decide +kernel) (by decide +kernel) (by decide +kernel) (by decide +kernel) (by decide +kernel)
  · obtain ⟨rfl, rfl⟩ : true = o ∧ b = c := by simpa [Pl.body, Pl.kindS] using HB.out
    exact step_k0 rb g s a Pl.starts w hm ha h hN starts_size (by decide) (some 1) b HR hb (⟨#[102, 111, 108, 100]⟩ : ByteArray) true (.inl ⟨1, hi, rfl, rfl, rfl⟩) (by decide +kernel) (by decide +kernel) (by decide +kernel) (by decide +kernel) (by decide +kernel) (by decide +kernel)
  · have hr : Pl.lst s (Pl.pairP s) (s.size + 1) b = (o, c) := by simpa [Pl.body, Pl.kindS] using HB.out
    exact step_map rb g s a Pl.starts w hm ha h hN starts_size (by decide) (some 2) b HR hb (⟨#[109, 97, 112, 40]⟩ : ByteArray) true (.inl ⟨2, hi, rfl, rfl, rfl⟩) (by decide +kernel) o c hr
  · obtain ⟨rfl, rfl⟩ : true = o ∧ b = c := by simpa [Pl.body, Pl.kindS] using HB.out
    exact step_k0 rb g s a Pl.starts w hm ha h hN starts_size (by decide) (some 3) b HR hb (⟨#[119, 111, 114, 100, 115]⟩ : ByteArray) true (.inl ⟨3, hi, rfl, rfl, rfl⟩) (by decide +kernel) (by decide +kernel) (by decide +kernel) (by decide +kernel) (by decide +kernel) (by decide +kernel)
  · obtain ⟨rfl, rfl⟩ : true = o ∧ b = c := by simpa [Pl.body, Pl.kindS] using HB.out
    exact step_k0 rb g s a Pl.starts w hm ha h hN starts_size (by decide) (some 4) b HR hb (⟨#[98, 108, 97, 110, 107, 115]⟩ : ByteArray) true (.inl ⟨4, hi, rfl, rfl, rfl⟩) (by decide +kernel) (by decide +kernel) (by decide +kernel) (by decide +kernel) (by decide +kernel) (by decide +kernel)
  · obtain ⟨rfl, rfl⟩ : true = o ∧ b = c := by simpa [Pl.body, Pl.kindS] using HB.out
    exact step_k0 rb g s a Pl.starts w hm ha h hN starts_size (by decide) (some 5) b HR hb (⟨#[119, 104, 111, 108, 101]⟩ : ByteArray) true (.inl ⟨5, hi, rfl, rfl, rfl⟩) (by decide +kernel) (by decide +kernel) (by decide +kernel) (by decide +kernel) (by decide +kernel) (by decide +kernel)

theorem step_late (rb g : Nat) (s : ByteArray) (a : Nat) (w : World) (hm : s.size ≤ 80) (ha : a ≤ s.size) (h : Rd rb s a w) (hN : Nms g Pl.lates w) (i b : Nat) (hi : i < Pl.lates.length) (HR : Hid (Pl.nm s a Pl.lates 0 0 = (some i, b))) (hb : b ≤ s.size) (o : Bool) (c : Nat) (HB : Hid (Pl.body s (Pl.kindL i) b = (o, c))) :
    Calls Tryz.prog 123 #[.pointer (some ⟨rb, 0, none⟩), .slice (some ⟨g, 0, none⟩) 7 7] w fun e w' => ∃ p1 n1 d1 p2 n2 d2, ∃ x z : Int, e = .returned (.tuple #[.agg #[.string (Pl.lates[i]), .slice p1 n1 d1, .slice p2 n2 d2, .int .i64 x, .int .i64 z], .bool o]) ∧ Rd rb s c w' ∧ w.grownBy w' (some rb) := by
  have hi6 : i < 7 := hi
  obtain rfl | rfl | rfl | rfl | rfl | rfl | rfl : i = 0 ∨ i = 1 ∨ i = 2 ∨ i = 3 ∨ i = 4 ∨ i = 5 ∨ i = 6 := by omega
  · obtain ⟨rfl, rfl⟩ : true = o ∧ b = c := by simpa [Pl.body, Pl.kindL] using HB.out
    exact step_k0 rb g s a Pl.lates w hm ha h hN lates_size (by decide) (some 0) b HR hb (⟨#[108, 111, 119]⟩ : ByteArray) true (.inl ⟨0, hi, rfl, rfl, rfl⟩) (by decide +kernel) (by decide +kernel) (by decide +kernel) (by decide +kernel) (by decide +kernel) (by decide +kernel)
  · obtain ⟨rfl, rfl⟩ : true = o ∧ b = c := by simpa [Pl.body, Pl.kindL] using HB.out
    exact step_k0 rb g s a Pl.lates w hm ha h hN lates_size (by decide) (some 1) b HR hb (⟨#[115, 116, 101, 109]⟩ : ByteArray) true (.inl ⟨1, hi, rfl, rfl, rfl⟩) (by decide +kernel) (by decide +kernel) (by decide +kernel) (by decide +kernel) (by decide +kernel) (by decide +kernel)
  · have hr : Pl.lst s (Pl.word s) (s.size + 1) b = (o, c) := by simpa [Pl.body, Pl.kindL] using HB.out
    exact step_stop rb g s a Pl.lates w hm ha h hN lates_size (by decide) (some 2) b HR hb (⟨#[115, 116, 111, 112, 40]⟩ : ByteArray) true (.inl ⟨2, hi, rfl, rfl, rfl⟩) (by decide +kernel) (by decide +kernel) (by decide +kernel) o c hr
  · have hr : Pl.lst s (Pl.pairP s) (s.size + 1) b = (o, c) := by simpa [Pl.body, Pl.kindL] using HB.out
    exact step_syn rb g s a Pl.lates w hm ha h hN lates_size (by decide) (some 3) b HR hb (⟨#[115, 121, 110, 40]⟩ : ByteArray) true (.inl ⟨3, hi, rfl, rfl, rfl⟩) (by decide +kernel) (by decide +kernel) o c hr
  · have hr : Pl.bnds s b = (o, c) := by simpa [Pl.body, Pl.kindL] using HB.out
    exact step_len rb g s a Pl.lates w hm ha h hN lates_size (by decide) (some 4) b HR hb (⟨#[108, 101, 110, 40]⟩ : ByteArray) true (.inl ⟨4, hi, rfl, rfl, rfl⟩) (by decide +kernel) (by decide +kernel) (by decide +kernel) (by decide +kernel) o c hr
  · have hr : Pl.bnds s b = (o, c) := by simpa [Pl.body, Pl.kindL] using HB.out
    exact step_gram rb g s a Pl.lates w hm ha h hN lates_size (by decide) (some 5) b HR hb (⟨#[103, 114, 97, 109, 40]⟩ : ByteArray) true (.inl ⟨5, hi, rfl, rfl, rfl⟩) (by decide +kernel) (by decide +kernel) (by decide +kernel) (by decide +kernel) (by decide +kernel) o c hr
  · have hr : Pl.bnds s b = (o, c) := by simpa [Pl.body, Pl.kindL] using HB.out
    exact step_edge rb g s a Pl.lates w hm ha h hN lates_size (by decide) (some 6) b HR hb (⟨#[101, 100, 103, 101, 40]⟩ : ByteArray) true (.inl ⟨6, hi, rfl, rfl, rfl⟩) (by decide +kernel) (by decide +kernel) (by decide +kernel) (by decide +kernel) (by decide +kernel) (by decide +kernel) o c hr

theorem step_start_no (rb g : Nat) (s : ByteArray) (a : Nat) (w : World) (hm : s.size ≤ 80) (ha : a ≤ s.size) (h : Rd rb s a w) (hN : Nms g Pl.starts w) (b : Nat) (HR : Hid (Pl.nm s a Pl.starts 0 0 = (none, b))) (hb : b ≤ s.size) :
    Calls Tryz.prog 123 #[.pointer (some ⟨rb, 0, none⟩), .slice (some ⟨g, 0, none⟩) 6 6] w fun e w' => ∃ p1 n1 d1 p2 n2 d2, ∃ x z : Int, e = .returned (.tuple #[.agg #[.string ⟨#[]⟩, .slice p1 n1 d1, .slice p2 n2 d2, .int .i64 x, .int .i64 z], .bool false]) ∧ Rd rb s b w' ∧ w.grownBy w' (some rb) :=
  step_k0 rb g s a Pl.starts w hm ha h hN starts_size (by decide) none b HR hb (⟨#[]⟩ : ByteArray) false (.inr ⟨rfl, rfl, rfl⟩) (by decide +kernel) (by decide +kernel) (by decide +kernel) (by decide +kernel) (by decide +kernel) (by decide +kernel)

theorem step_late_no (rb g : Nat) (s : ByteArray) (a : Nat) (w : World) (hm : s.size ≤ 80) (ha : a ≤ s.size) (h : Rd rb s a w) (hN : Nms g Pl.lates w) (b : Nat) (HR : Hid (Pl.nm s a Pl.lates 0 0 = (none, b))) (hb : b ≤ s.size) :
    Calls Tryz.prog 123 #[.pointer (some ⟨rb, 0, none⟩), .slice (some ⟨g, 0, none⟩) 7 7] w fun e w' => ∃ p1 n1 d1 p2 n2 d2, ∃ x z : Int, e = .returned (.tuple #[.agg #[.string ⟨#[]⟩, .slice p1 n1 d1, .slice p2 n2 d2, .int .i64 x, .int .i64 z], .bool false]) ∧ Rd rb s b w' ∧ w.grownBy w' (some rb) :=
  step_k0 rb g s a Pl.lates w hm ha h hN lates_size (by decide) none b HR hb (⟨#[]⟩ : ByteArray) false (.inr ⟨rfl, rfl, rfl⟩) (by decide +kernel) (by decide +kernel) (by decide +kernel) (by decide +kernel) (by decide +kernel) (by decide +kernel)

end Go.Proofs.YtcmgclckknpecaaGreatDoor
