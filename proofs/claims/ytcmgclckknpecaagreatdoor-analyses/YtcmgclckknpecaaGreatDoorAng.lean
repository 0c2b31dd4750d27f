/- Analyse, of any chain and any text. -/
import Derived.Test.YtcmgclckknpecaaGreatDoorHgn
import Derived.Test.YtcmgclckknpecaaGreatDoorRch
namespace Go.Proofs.YtcmgclckknpecaaGreatDoor
open Go.RowKit Go.Shelf

theorem senc_getElem : ∀ (xs : List Sq) (i : Nat) (h : i < xs.length),
    (xs.flatMap senc)[i * 5]? = some (.string (xs[i]).1.nm) ∧ (xs.flatMap senc)[i * 5 + 1]? = some (xs[i]).2.1 ∧ (xs.flatMap senc)[i * 5 + 2]? = some (xs[i]).2.2.1 ∧ (xs.flatMap senc)[i * 5 + 3]? = some (.int .i64 (xs[i]).2.2.2.1) ∧ (xs.flatMap senc)[i * 5 + 4]? = some (.int .i64 (xs[i]).2.2.2.2)
  | x :: r, 0, _ => by simp [senc]
  | x :: r, i + 1, h => by
    have ih := senc_getElem r i (by simpa using h)
    have e : ∀ j, ((x :: r).flatMap senc)[(i + 1) * 5 + j]? = (r.flatMap senc)[i * 5 + j]? := fun j => by
      rw [List.flatMap_cons, List.getElem?_append_right (by simp [senc]; omega)]
      congr 1
      simp [senc]; omega
    refine ⟨(e 0).trans ih.1, (e 1).trans ih.2.1, (e 2).trans ih.2.2.1, (e 3).trans ih.2.2.2.1, (e 4).trans ih.2.2.2.2⟩

/-- A row of steps, out of what the reader leaves. -/
theorem srow_of {base : Nat} {es : List Sp} {xs : List Value} {v : Value} {w : World} (hr : w.ownsRow base 96 5 v es.length xs) (hs : Sts base es xs w) :
    ∃ (L : List Sq) (a : Option Addr) (cap g : Nat), es = L.map (·.1) ∧ v = .slice a L.length cap ∧ (0 < L.length → a = some ⟨g, 0, none⟩ ∧ g < w.heap.size) ∧ Srow base g L w := by
  obtain ⟨L, rfl, rfl, ho⟩ := hs.ex
  rw [List.length_map] at hr
  obtain ⟨a, cap, rfl, _, hp⟩ := row_form hr
  have hf : ∀ q ∈ L, ∃ q1 m1 d1 q2 m2 d2, q.2.1 = .slice q1 m1 d1 ∧ q.2.2.1 = .slice q2 m2 d2 := fun q hq => by
    obtain ⟨a1, c1, h1, _⟩ := row_form (ho q hq).r1
    obtain ⟨a2, c2, h2, _⟩ := row_form (ho q hq).r2
    exact ⟨_, _, _, _, _, _, h1, h2⟩
  by_cases h0 : 0 < L.length
  · obtain ⟨g, rfl, _, hlt, _, hc⟩ := hp h0
    refine ⟨L, _, cap, g, rfl, rfl, fun _ => ⟨rfl, hlt⟩, ⟨fun j hj => ?_, ho⟩⟩
    obtain ⟨q1, m1, d1, q2, m2, d2, e1, e2⟩ := hf _ (List.getElem_mem hj)
    obtain ⟨g0, g1, g2, g3, g4⟩ := senc_getElem L j hj
    rw [e1] at g1
    rw [e2] at g2
    refine ⟨q1, m1, d1, q2, m2, d2, (L[j]).2.2.2.1, (L[j]).2.2.2.2, by rw [← e1, ← e2], hc _ _ g0, hc _ _ g1, hc _ _ g2, hc _ _ g3, hc _ _ g4⟩
  · refine ⟨L, a, cap, 0, rfl, rfl, fun h => absurd h h0, ⟨fun j hj => by omega, ho⟩⟩

/-- What Analyse answers of a chain of at most 80 bytes and a text of at most 120. -/
structure AnaO (cd at_ : Nat) (c : ByteArray) (T : List Sp) (xs : Ch3) (n0 : Nat) (e : Ending) (w' : World) : Prop where
  ex : (cd ≠ 0 ∧ e = .returned (.tuple #[.slice none 0 0, .int .i64 (cd : Int), .int .i64 (at_ : Int)])) ∨
    (cd = 0 ∧ ∃ (es : List Sp) (cu : Sp) (ls : List Sp), T = es ++ cu :: ls ∧ (∀ e ∈ es, Pl.isE c e) ∧ Pl.isC c cu ∧ (∀ e ∈ ls, Pl.isL c e) ∧ es.length ≤ 7 ∧ ls.length ≤ 7 ∧
      ((∃ ts v, Pl.takeP es cu ls xs = some ts ∧ e = .returned (.tuple #[v, .int .i64 0, .int .i64 0]) ∧ w'.ownsRow n0 27 4 v ts.length ((ts.map Pl.tkC).flatMap tenc)) ∨ (Pl.takeP es cu ls xs = none ∧ e = .returned (.tuple #[.slice none 0 0, .int .i64 3, .int .i64 0]))))

set_option maxRecDepth 100000 in
set_option maxHeartbeats 4000000 in
theorem analyse_any (c s : ByteArray) (w : World) (hm : c.size ≤ 80) (hs : s.size ≤ 120) (R : (Bool × Nat) × Nat) (HR : Hid (Pl.chn c (c.size + 1) false 0 0 = R)) (cd at_ : Nat) (HV : Hid (verdict R = (cd, at_))) (T : List Sp) (HT : Hid (Pl.chC c (c.size + 1) false 0 = T)) (xs : Ch3) (HCS : Hid (Pl.cs (Pl.bt s) s.size s.size 0 = xs)) (HEN : Hid (Ends w)) :
    Calls Tryz.prog 13 #[.string c, .string s] w fun e w' => AnaO cd at_ c T xs w.heap.size e w' ∧ Below w.heap.size w w' := by
  have hw0 : 0 < w.heap.size := by
    obtain ⟨t, fr, h⟩ := HEN.out
    exact (Array.getElem?_eq_some_iff.1 h).1
  go_enter Tryz.func13, Tryz.ntmps13
  go_wp2_with fail
  refine (chain_any c _ hm R HR cd at_ HV T HT).mono ?_
  rintro e w1 ⟨p1, n1, c1, p2, n2, c2, p3, n3, c3, p4, n4, c4, t, x, z, rfl, hB, HP⟩
  by_cases hcd : cd = 0
  · obtain ⟨⟨es, cu, ls, ys1, ys4, hT, hn1, hn4, hnm, hE, hC, hL, r1, s1, sC, r4, s4⟩, hn⟩ := HP.out hcd
    subst hcd hn1 hn4
    obtain ⟨LE, a1, k1, ge, he1, hv1, hg1, hS1⟩ := srow_of r1 s1
    obtain ⟨LL, a4, k4, gl, he4, hv4, hg4, hS4⟩ := srow_of r4 s4
    have hlE : es.length = LE.length := by rw [he1]; simp
    have hlL : ls.length = LL.length := by rw [he4]; simp
    rw [hlE] at hv1
    rw [hlL] at hv4
    cases hv1
    cases hv4
    rw [hlE, hlL] at hn
    rw [hlE, hlL]
    obtain ⟨jC, bC, cC, hjC, hjC3, heC, hbC, hbC'⟩ := hC
    have HIE : Hid (∀ q ∈ LE, ∃ i, ∃ hi : i < Pl.starts.length, i < 3 ∧ q.1.nm = Pl.starts[i] ∧ SpW q.1) := fun q hq => by
      obtain ⟨i, b, k, hi, h3, e, hb, hbs⟩ := hE q.1 (by rw [he1]; exact List.mem_map_of_mem hq)
      exact ⟨i, hi, h3, by rw [e]; rfl, by rw [e]; exact Pl.spW_of c hm _ _ b k hbs hb⟩
    have HIL : Hid (∀ q ∈ LL, ∃ i, ∃ hi : i < Pl.lates.length, q.1.nm = Pl.lates[i] ∧ SpW q.1) := fun q hq => by
      obtain ⟨i, b, k, hi, e, hb, hbs⟩ := hL q.1 (by rw [he4]; exact List.mem_map_of_mem hq)
      exact ⟨i, hi, by rw [e]; rfl, by rw [e]; exact Pl.spW_of c hm _ _ b k hbs hb⟩
    have HCN : Hid (cu.nm = Pl.starts[jC]) := by rw [heC]; rfl
    have HIN : Hid (Pl.Inv (fun _ => True) xs) := (Pl.cs_inv s xs HCS.out).weak fun _ _ => trivial
    obtain ⟨RR, hRR⟩ : ∃ RR, Pl.takeP es cu ls xs = RR := ⟨_, rfl⟩
    have HRR : Hid (Pl.takeP (LE.map (·.1)) cu (LL.map (·.1)) xs = RR) := by rw [← he1, ← he4]; exact hRR
    have HAO : Hid (∀ e w3, (∃ ts v, RR = some ts ∧ e = .returned (.tuple #[v, .int .i64 0, .int .i64 0]) ∧ w3.ownsRow w.heap.size 27 4 v ts.length ((ts.map Pl.tkC).flatMap tenc)) ∨ (RR = none ∧ e = .returned (.tuple #[.slice none 0 0, .int .i64 3, .int .i64 0])) → AnaO 0 at_ c T xs w.heap.size e w3) := fun e w3 h =>
      ⟨.inr ⟨rfl, es, cu, ls, hT, hE, ⟨jC, bC, cC, hjC, hjC3, heC, hbC, hbC'⟩, hL, by omega, by omega, by rw [hRR]; exact h⟩⟩
    have hat : at_ = 0 := by
      have := HV.out
      unfold verdict at this
      split at this
      · split at this
        · simp at this
        · simpa using this.symm
      · simp at this
    have HS1 : Hid (Srow w.heap.size ge LE w1) := hS1
    have HS4 : Hid (Srow w.heap.size gl LL w1) := hS4
    have HSC : Hid (StO w.heap.size cu (.slice p2 n2 c2) (.slice p3 n3 c3) x z w1) := sC
    have HG1 : Hid (0 < LE.length → p1 = some ⟨ge, 0, none⟩ ∧ ge < w1.heap.size) := hg1
    have HG4 : Hid (0 < LL.length → p4 = some ⟨gl, 0, none⟩ ∧ gl < w1.heap.size) := hg4
    have hsz := hB.size
    have hlE7 : LE.length ≤ 7 := by omega
    have hlL7 : LL.length ≤ 8 := by omega
    subst hnm hat
    clear hE hL hT hRR he1 he4 hS1 hS4 s1 s4 r1 r4 sC hg1 hg4 HR HV HT HP heC hbC hn hlE hlL
    go_wp2_with fail
    have hB2 : Below w1.heap.size w1 ((w1.alloc (.cells #[.slice p1 LE.length c1, .string cu.nm, .slice p2 n2 c2, .slice p3 n3 c3, .int .i64 x, .int .i64 z, .slice p4 LL.length c4] 98)).alloc (.cells #[.slice p1 LE.length c1, .string cu.nm, .slice p2 n2 c2, .slice p3 n3 c3, .int .i64 x, .int .i64 z, .slice p4 LL.length c4, .int .u32 0, .int .i32 0, .int .u32 0, .slice none 0 0, .nilFunc, .slice none 0 0] 119)) := ((Below.refl _ w1).alloc (Nat.le_refl _) _).alloc (by simp) _
    have hB3 := hB.trans (hB2.mono hsz)
    refine (take_ok w.heap.size (w1.heap.size + 1) ge gl LE LL cu jC p1 c1 p2 p3 n2 c2 n3 c3 x z p4 c4 (.int .u32 0) s hs xs HCS HIN _ hlE7 hlL7 (by omega) ?_ ?_ ?_ ?_ ?_ ?_ ?_ HIE HIL hjC hjC3 HCN RR HRR).mono ?_
    · have := heap_alloc_new (w1.alloc (.cells #[.slice p1 LE.length c1, .string cu.nm, .slice p2 n2 c2, .slice p3 n3 c3, .int .i64 x, .int .i64 z, .slice p4 LL.length c4] 98)) (.cells #[.slice p1 LE.length c1, .string cu.nm, .slice p2 n2 c2, .slice p3 n3 c3, .int .i64 x, .int .i64 z, .slice p4 LL.length c4, .int .u32 0, .int .i32 0, .int .u32 0, .slice none 0 0, .nilFunc, .slice none 0 0] 119)
      rw [World.size_alloc] at this; exact this
    · intro h
      obtain ⟨e, hl⟩ := HG1.out h
      exact ⟨e, by omega, by simp; omega⟩
    · intro h
      obtain ⟨e, hl⟩ := HG4.out h
      exact ⟨e, by omega, by simp; omega⟩
    · exact HS1.out.keep (Agr.below hB2) (fun h o => hB2.cell (p := ⟨ge, o, none⟩) (HG1.out h).2)
    · exact HS4.out.keep (Agr.below hB2) (fun h o => hB2.cell (p := ⟨gl, o, none⟩) (HG4.out h).2)
    · exact HSC.out.agr (Agr.below hB2)
    · exact HEN.out.below hB3
    rintro e w3 ⟨hto, hg3⟩
    have hs3 := hB3.size
    have hBf : Below w.heap.size w w3 := hB3.trans (below_of_grown hg3 (by omega) hs3)
    obtain ⟨v, k, rfl, hQ⟩ : ∃ v, ∃ k : Int, e = .returned (.tuple #[v, .int .i64 k]) ∧ AnaO 0 0 c T xs w.heap.size (.returned (.tuple #[v, .int .i64 k, .int .i64 0])) w3 := by
      rcases hto.ex with ⟨ts, v, h1, rfl, h2⟩ | ⟨h1, rfl⟩
      · exact ⟨v, 0, rfl, HAO.out _ _ (.inl ⟨ts, v, h1, rfl, ownsRow_low h2 hs3⟩)⟩
      · exact ⟨_, 3, rfl, HAO.out _ _ (.inr ⟨h1, rfl⟩)⟩
    have HQ : Hid (AnaO 0 0 c T xs w.heap.size (.returned (.tuple #[v, .int .i64 k, .int .i64 0])) w3) := hQ
    clear hQ HAO hto HIE HIL HS1 HS4 HSC HG1 HG4 HRR
    go_wp2_with fail
    exact bodyPost_ret (by simp [results, Tryz.results13, go_sem]) rfl ⟨HQ.out, hBf⟩
  · have hcdI : ¬ (cd : Int) = 0 := by omega
    have HAO : Hid (AnaO cd at_ c T xs w.heap.size (.returned (.tuple #[.slice none 0 0, .int .i64 (cd : Int), .int .i64 (at_ : Int)])) w1) := ⟨.inl ⟨hcd, rfl⟩⟩
    clear HP
    go_wp2_with fail
    exact bodyPost_ret (by simp [results, Tryz.results13, go_sem]) rfl ⟨⟨.inl ⟨hcd, rfl⟩⟩, by first | exact hB | exact hB.alloc (by have := hB.size; omega) _⟩

end Go.Proofs.YtcmgclckknpecaaGreatDoor
