import Derived.Test.YtcmgclckknpecaaCharw
import Derived.Test.YtcmgclckknpecaaRow3
namespace Go.Proofs.Ytcmgclckknpecaa
open Go.RowKit

theorem info32 : (Try.prog.info? 32).map (fun i => (i.zero, i.size, i.bytes)) = some (some (.agg #[.int .i64 0, .int .i64 0, .int .i64 0]), 3, 24) := by kernel_rfl
theorem info27 : (Try.prog.info? 27).map (fun i => (i.zero, i.size, i.bytes)) = some (some (.agg #[.int .i64 0, .int .i64 0, .int .i64 0]), 3, 24) := by kernel_rfl

set_option maxHeartbeats 1000000 in
theorem chars_any (s : ByteArray) (w : World) (hm : s.size ≤ 120) :
    Calls Try.prog 12 #[.string s] w fun e w' => ∃ v, e = .returned v ∧ w'.ownsRow w.heap.size 32 3 v (Pl.cs (Pl.bt s) s.size s.size 0).length ((Pl.cs (Pl.bt s) s.size s.size 0).flatMap enc) ∧ Below w.heap.size w w' := by
  obtain ⟨i0, hi, hz0, hz1, hz2⟩ := info_parts info32
  obtain ⟨xs, hxs⟩ : ∃ xs, Pl.cs (Pl.bt s) s.size s.size 0 = xs := ⟨_, rfl⟩
  rw [hxs]
  have hlen : xs.length ≤ 120 := by have := Pl.cs_length (Pl.bt s) s.size s.size 0; rw [hxs] at this; omega
  have HXS : Hid (Pl.cs (Pl.bt s) s.size s.size 0 = xs) := hxs
  clear hxs
  go_enter Try.func12, Try.ntmps12
  go_wp2
  go_loopw [3, 4] (fun l i wr => ∃ (k m : Nat) (pre : List (Nat × Nat × Nat)), i = .int .i64 k ∧ k ≤ s.size ∧ s.size ≤ k + m ∧ Hid (pre ++ Pl.cs (Pl.bt s) s.size m k = xs) ∧
    wr.ownsRow w.heap.size 32 3 l pre.length (pre.flatMap enc) ∧ Below w.heap.size w wr) (fun _ i _ => s.size - (intOf i).toNat)
  case atStart => exact ⟨0, s.size, [], rfl, by omega, by omega, HXS, World.ownsRow_nil _ _ _ _, Below.refl _ _⟩
  case round =>
    obtain ⟨k, m, pre, rfl, hk, hkm, HX, hrow, hB⟩ := hrel
    by_cases hlt : k < s.size
    · have hlt' : (k : Int) < (s.size : Int) := by omega
      obtain ⟨m', hm', hcs⟩ := Pl.cs_cons (g := Pl.bt s) (m := m) hlt hkm
      have hsz1 := Pl.size_ge (fun j => Pl.bt s (k + j)) (s.size - k)
      have hsz2 := Pl.size_le (fun j => Pl.bt s (k + j)) (s.size - k) (by omega)
      have hch := char_any s k
      obtain ⟨cd, hcd⟩ : ∃ cd, Pl.code (fun j => Pl.bt s (k + j)) (s.size - k) = cd := ⟨_, rfl⟩
      obtain ⟨to, hto⟩ : ∃ to, k + Pl.size (fun j => Pl.bt s (k + j)) (s.size - k) = to := ⟨_, rfl⟩
      have hto1 : k < to := by omega
      have hto2 : to ≤ s.size := by omega
      rw [hcd, hto] at hcs hch
      rw [hto] at hm'
      have HX2 : Hid ((pre ++ [(cd, k, to)]) ++ Pl.cs (Pl.bt s) s.size m' to = xs) := by
        have := HX.out; rw [hcs] at this; show _ = _; rw [← this]; simp
      have hpl : pre.length < 120 := by
        have := congrArg List.length HX2.out; simp at this; omega
      have HCH : Hid (∀ w, k < s.size → s.size ≤ 120 → Calls Try.prog 18 #[.string s, .int .i64 k] w fun e w' => e = .returned (.agg #[.int .i64 cd, .int .i64 k, .int .i64 (to : Int)]) ∧ Below w.heap.size w w') := hch
      clear hch hcs hcd hto hsz1 hsz2 HX
      go_wp2_with fail
      refine (HCH.out _ hlt hm).mono ?_
      rintro e w2 ⟨rfl, h2⟩
      have hrow2 := ownsRow_below hrow h2
      have hs2 := h2.size
      have hs1 := hB.size
      have hnb : ∀ C, ((w2.alloc C).alloc (.cells #[.int .i64 (cd : Int), .int .i64 (k : Int), .int .i64 (to : Int)] 32)).heap[w2.heap.size + 1]? = some (.cells #[.int .i64 (cd : Int), .int .i64 (k : Int), .int .i64 (to : Int)] 32 (0, 0)) := fun C => by
        have := heap_alloc_new (w2.alloc C) (.cells #[.int .i64 (cd : Int), .int .i64 (k : Int), .int .i64 (to : Int)] 32)
        simpa using this
      have HNB : Hid (∀ C, ((w2.alloc C).alloc (.cells #[.int .i64 (cd : Int), .int .i64 (k : Int), .int .i64 (to : Int)] 32)).heap[w2.heap.size + 1]? = some (.cells #[.int .i64 (cd : Int), .int .i64 (k : Int), .int .i64 (to : Int)] 32 (0, 0))) := hnb
      clear hnb
      go_wp2_with (at_builtin; go_must (refine wpList_append_lies _ (by rfl) _ _ 28 (by rfl) w.heap.size 32 i0 (.agg #[.int .i64 0, .int .i64 0, .int .i64 0]) 3 24 Try.underlying28 hi hz0 hz1 hz2 rfl (by decide) _ pre.length (pre.flatMap enc) (by rfl) ((hrow2.alloc _).alloc _) ⟨w2.heap.size + 1, 0, none⟩ 1 1 (enc (cd, k, to)) (by rfl) rfl (World.news_of_block (HNB.out _)) (enc_one _) (by decide) (by unfold maxLen; omega) (by omega) (by simp; omega) (w2.heap.size + 1 + 1) (by simp) ?_); intro g cap w3 hown1 hgrow hat hlt1; obtain ⟨hc3, hB3⟩ := step3 hrow hB hs1 h2 hgrow; have hc32 : w3.cell? ⟨w2.heap.size, 2, none⟩ = some (.int .i64 (to : Int)) := (hc3 2).trans (by simp [go_sem]); clear hc3)
      refine ⟨⟨to, m', pre ++ [(cd, k, to)], rfl, hto2, hm', HX2, ?_, hB3⟩, by simp [intOf]; omega⟩
      rw [enc_snoc, List.length_append]
      exact hown1
    · have hx : pre = xs := by have := HX.out; rw [Pl.cs_nil hlt] at this; simpa using this
      subst hx
      go_wp2
      go_ret
      exact ⟨_, rfl, hrow, hB⟩

set_option maxHeartbeats 400000 in
theorem refsplit_long (s : ByteArray) (w : World) (hl : 120 < s.size) :
    Calls Try.prog 6 #[.string s] w fun e w' => e = .returned (.tuple #[.slice none 0 0, .int .i64 1]) ∧ w' = w := by
  have hl' : (120 : Int) < (s.size : Int) := by omega
  go_enter Try.func6, Try.ntmps6
  go_wp2
  go_ret2
  exact ⟨rfl, rfl⟩

set_option maxHeartbeats 400000 in
theorem refsplit_any (s : ByteArray) (w : World) (hm : s.size ≤ 120) :
    Calls Try.prog 6 #[.string s] w fun e w' => ∃ v, e = .returned (.tuple #[v, .int .i64 0]) ∧ w'.ownsRow w.heap.size 32 3 v (Pl.cs (Pl.bt s) s.size s.size 0).length ((Pl.cs (Pl.bt s) s.size s.size 0).flatMap enc) ∧ Below w.heap.size w w' := by
  have hl' : ¬ (120 : Int) < (s.size : Int) := by omega
  go_enter Try.func6, Try.ntmps6
  go_wp2_with (go_at_call 12; refine (chars_any s _ hm).mono ?_; rintro e w1 ⟨v, rfl, hrow, hB⟩)
  go_ret2
  exact ⟨v, rfl, hrow, hB⟩

end Go.Proofs.Ytcmgclckknpecaa
