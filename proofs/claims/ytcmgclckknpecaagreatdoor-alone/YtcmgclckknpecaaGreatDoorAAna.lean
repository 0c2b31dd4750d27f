import Derived.Test.YtcmgclckknpecaaGreatDoorARcw
import Derived.Test.YtcmgclckknpecaaGreatDoorATak
namespace Go.Proofs.YtcmgclckknpecaaGreatDoor
open Go.RowKit

theorem take_long (b : Nat) (s : ByteArray) (hs : 120 < s.size) (w : World) :
    Calls Tryz.prog 36 #[.pointer (some ⟨b, 0, none⟩), .string s] w fun e w' => e = .returned (.tuple #[.slice none 0 0, .int .i64 1]) ∧ Below w.heap.size w w' := by
  go_enter Tryz.func36, Tryz.ntmps36
  go_wp2_with fail
  refine (split_long s _ hs).mono ?_
  rintro e w1 ⟨rfl, rfl⟩
  go_wp2
  go_ret2
  exact ⟨rfl, Below.refl _ _⟩

set_option maxRecDepth 100000 in
set_option maxHeartbeats 4000000 in
theorem analyse_words (K : Nat) (c s : ByteArray) (w : World) (hm : c.size ≤ 80) (hK : K ≤ 1) (H1 : Hid (Pl.nm c 0 Pl.starts 0 0 = (some 3, 5)))
    (H2 : Hid ((K = 0 ∧ c.size = 5) ∨ (K = 1 ∧ c.size = 9 ∧ Pl.byteIn c 59 59 5 = true ∧ Pl.nm c 6 Pl.lates 0 0 = (some 0, 9)))) (Q : Ending → World → Prop)
    (HT : Hid (∀ (b gl : Nat) (p1 p2 : Option Addr) (n1 c1 n2 c2 : Nat) (x z : Int) (al : Option Addr) (cl : Nat) (W : World), Blk b 119 #[.slice none 0 0, .string ⟨#[119, 111, 114, 100, 115]⟩, .slice p1 n1 c1, .slice p2 n2 c2, .int .i64 x, .int .i64 z, .slice al K cl, .int .u32 0, .int .i32 0, .int .u32 0, .slice none 0 0, .nilFunc, .slice none 0 0] W →
      (0 < K → al = some ⟨gl, 0, none⟩ ∧ gl ≠ b ∧ gl < W.heap.size) → (∀ j, j < K → ∃ q1 m1 d1 q2 m2 d2, ∃ u v : Int, W.cell? ⟨gl, j * 5, none⟩ = some (.string ⟨#[108, 111, 119]⟩) ∧ W.cell? ⟨gl, j * 5 + 1, none⟩ = some (.slice q1 m1 d1) ∧ W.cell? ⟨gl, j * 5 + 2, none⟩ = some (.slice q2 m2 d2) ∧ W.cell? ⟨gl, j * 5 + 3, none⟩ = some (.int .i64 u) ∧ W.cell? ⟨gl, j * 5 + 4, none⟩ = some (.int .i64 v)) → w.heap.size ≤ b → Below w.heap.size w W →
      Calls Tryz.prog 36 #[.pointer (some ⟨b, 0, none⟩), .string s] W fun e w' => ∃ v, ∃ k : Int, e = .returned (.tuple #[v, .int .i64 k]) ∧ Q (.returned (.tuple #[v, .int .i64 k, .int .i64 0])) w')) :
    Calls Tryz.prog 13 #[.string c, .string s] w Q := by
  go_enter Tryz.func13, Tryz.ntmps13
  go_wp2_with fail
  refine (chain_words K c _ hm hK H1 H2).mono ?_
  rintro e w1 ⟨p2, n2, c2, p3, n3, c3, vl, ys, x, z, rfl, hrow, hlw, hB⟩
  have HLW : Hid (Lw K ys) := hlw
  clear hlw
  obtain ⟨p4, c4, hv4, hcap, hp⟩ := row_form hrow
  subst hv4
  have hgx : ∃ gl, 0 < K → p4 = some ⟨gl, 0, none⟩ ∧ gl < w1.heap.size ∧ ∀ j u, ys[j]? = some u → w1.cell? ⟨gl, j, none⟩ = some u := by
    by_cases h0 : 0 < K
    · obtain ⟨g, e, _, hl, _, hc⟩ := hp h0
      exact ⟨g, fun _ => ⟨e, hl, hc⟩⟩
    · exact ⟨0, fun h => absurd h h0⟩
  obtain ⟨gl, hgl⟩ := hgx
  have HG : Hid (0 < K → p4 = some ⟨gl, 0, none⟩ ∧ gl < w1.heap.size ∧ ∀ j u, ys[j]? = some u → w1.cell? ⟨gl, j, none⟩ = some u) := hgl
  clear hgl hp
  have hs1 := hB.size
  go_wp2_with fail
  refine (HT.out (w1.heap.size + 1) gl p2 p3 n2 c2 n3 c3 x z p4 c4 _ ?_ ?_ ?_ (by omega) ?_).mono ?_
  · have := heap_alloc_new (w1.alloc (.cells #[.slice none 0 0, .string ⟨#[119, 111, 114, 100, 115]⟩, .slice p2 n2 c2, .slice p3 n3 c3, .int .i64 x, .int .i64 z, .slice p4 K c4] 98)) (.cells #[.slice none 0 0, .string ⟨#[119, 111, 114, 100, 115]⟩, .slice p2 n2 c2, .slice p3 n3 c3, .int .i64 x, .int .i64 z, .slice p4 K c4, .int .u32 0, .int .i32 0, .int .u32 0, .slice none 0 0, .nilFunc, .slice none 0 0] 119)
    rw [World.size_alloc] at this; exact this
  · intro h
    obtain ⟨e, hl, _⟩ := HG.out h
    exact ⟨e, by omega, by simp; omega⟩
  · intro j hj
    obtain ⟨_, hl, hc⟩ := HG.out (by omega)
    obtain ⟨q1, m1, d1, q2, m2, d2, u, v, y0, y1, y2, y3, y4⟩ := HLW.out j hj
    refine ⟨q1, m1, d1, q2, m2, d2, u, v, ?_, ?_, ?_, ?_, ?_⟩
    all_goals rw [cell_alloc (by simp; omega), cell_alloc hl]
    · exact hc _ _ y0
    · exact hc _ _ y1
    · exact hc _ _ y2
    · exact hc _ _ y3
    · exact hc _ _ y4
  · exact (hB.alloc (by omega) _).alloc (by simp; omega) _
  rintro e w3 ⟨v, k, rfl, hQ⟩
  have HQ : Hid (Q (.returned (.tuple #[v, .int .i64 k, .int .i64 0])) w3) := hQ
  clear hQ HT HG HLW
  go_wp2_with fail
  exact bodyPost_ret (by simp [results, Tryz.results13, go_sem]) rfl HQ.out

theorem analyse_low (K : Nat) (c s : ByteArray) (w : World) (hm : c.size ≤ 80) (hK : K ≤ 1) (H1 : Hid (Pl.nm c 0 Pl.starts 0 0 = (some 3, 5)))
    (H2 : Hid ((K = 0 ∧ c.size = 5) ∨ (K = 1 ∧ c.size = 9 ∧ Pl.byteIn c 59 59 5 = true ∧ Pl.nm c 6 Pl.lates 0 0 = (some 0, 9)))) (hs : s.size ≤ 120) (cs : List (Nat × Nat × Nat)) (HCS : Hid (Pl.cs (Pl.bt s) s.size s.size 0 = cs)) :
    Calls Tryz.prog 13 #[.string c, .string s] w fun e w' => ∃ v, e = .returned (.tuple #[v, .int .i64 0, .int .i64 0]) ∧ w'.ownsRow w.heap.size 27 4 v (Pl.lows K (Pl.wtk cs)).length ((Pl.lows K (Pl.wtk cs)).flatMap tenc) ∧ Below w.heap.size w w' := by
  refine analyse_words K c s w hm hK H1 H2 _ ?_
  intro b gl p1 p2 n1 c1 n2 c2 x z al cl W hA hal hlt hwb hBW
  refine (take_low b K gl none 0 p1 p2 n1 c1 n2 c2 x z al cl (.int .u32 0) s hs cs HCS W hK hA hal hlt).mono ?_
  rintro e w' ⟨v, rfl, hrow, hg⟩
  have := hBW.size
  exact ⟨v, 0, rfl, v, rfl, ownsRow_base hrow this, hBW.trans (below_of_grown hg hwb this)⟩

theorem analyse_long (K : Nat) (c s : ByteArray) (w : World) (hm : c.size ≤ 80) (hK : K ≤ 1) (H1 : Hid (Pl.nm c 0 Pl.starts 0 0 = (some 3, 5)))
    (H2 : Hid ((K = 0 ∧ c.size = 5) ∨ (K = 1 ∧ c.size = 9 ∧ Pl.byteIn c 59 59 5 = true ∧ Pl.nm c 6 Pl.lates 0 0 = (some 0, 9)))) (hs : 120 < s.size) :
    Calls Tryz.prog 13 #[.string c, .string s] w fun e w' => e = .returned (.tuple #[.slice none 0 0, .int .i64 1, .int .i64 0]) ∧ Below w.heap.size w w' := by
  refine analyse_words K c s w hm hK H1 H2 _ ?_
  intro b gl p1 p2 n1 c1 n2 c2 x z al cl W hA hal hlt hwb hBW
  refine (take_long b s hs W).mono ?_
  rintro e w' ⟨rfl, hB⟩
  exact ⟨_, 1, rfl, rfl, hBW.trans (hB.mono hBW.size)⟩

end Go.Proofs.YtcmgclckknpecaaGreatDoor
