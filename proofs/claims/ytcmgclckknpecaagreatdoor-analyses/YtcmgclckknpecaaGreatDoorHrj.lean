import Derived.Test.YtcmgclckknpecaaGreatDoorRta
import Derived.Test.YtcmgclckknpecaaGreatDoorLck
import Derived.Deep.RegionHeld3

/- Both sides' Analyse: a text that is too long; the document's own Analyse; two rows of tokens held against each other. -/
namespace Go.Proofs.YtcmgclckknpecaaGreatDoor
open Go.RowKit Go.Shelf

set_option maxHeartbeats 1000000 in
theorem take_slong (b : Nat) (s : ByteArray) (w : World) (hs : 120 < s.size) : Calls Tryz.prog 36 #[.pointer (some ⟨b, 0, none⟩), .string s] w fun e w' => e = .returned (.tuple #[.slice none 0 0, .int .i64 1]) ∧ w' = w := by
  go_enter Tryz.func36, Tryz.ntmps36
  go_wp2_with fail
  refine (split_long s _ hs).mono ?_
  rintro e w2 ⟨rfl, hw⟩
  rw [hw]; clear hw w2
  go_wp2
  go_ret2
  exact ⟨rfl, rfl⟩
set_option maxRecDepth 100000 in
set_option maxHeartbeats 2000000 in
theorem analyse_slong (c s : ByteArray) (w : World) (hm : c.size ≤ 80) (hs : 120 < s.size) (R : (Bool × Nat) × Nat) (HR : Hid (Pl.chn c (c.size + 1) false 0 0 = R)) (cd at_ : Nat) (HV : Hid (verdict R = (cd, at_))) :
    Calls Tryz.prog 13 #[.string c, .string s] w fun e w' => e = .returned (.tuple #[.slice none 0 0, .int .i64 (if cd = 0 then 1 else (cd : Int)), .int .i64 (if cd = 0 then 0 else (at_ : Int))]) ∧ Below w.heap.size w w' := by
  obtain ⟨T, hT⟩ : ∃ T, Pl.chC c (c.size + 1) false 0 = T := ⟨_, rfl⟩
  by_cases hcd : cd = 0
  · subst hcd
    go_enter Tryz.func13, Tryz.ntmps13
    go_wp2_with fail
    refine (chain_any c _ hm R HR 0 at_ HV T hT).mono ?_
    rintro e w1 ⟨p1, n1, c1, p2, n2, c2, p3, n3, c3, p4, n4, c4, t, x, z, rfl, hB, HP⟩
    clear HP HR HV hT
    have hsz := hB.size
    go_wp2_with fail
    refine (take_slong _ s _ hs).mono ?_
    rintro e w3 ⟨rfl, hw⟩
    rw [hw]; clear hw w3
    go_wp2_with fail
    exact bodyPost_ret (by simp [results, Tryz.results13, go_sem]) rfl ⟨rfl, (hB.alloc hsz _).alloc (by simp; omega) _⟩
  · have hcdI : ¬ (cd : Int) = 0 := by omega
    rw [if_neg hcd, if_neg hcd]
    go_enter Tryz.func13, Tryz.ntmps13
    go_wp2_with fail
    refine (chain_any c _ hm R HR cd at_ HV T hT).mono ?_
    rintro e w1 ⟨p1, n1, c1, p2, n2, c2, p3, n3, c3, p4, n4, c4, t, x, z, rfl, hB, HP⟩
    clear HP HR HV hT
    go_wp2_with fail
    exact bodyPost_ret (by simp [results, Tryz.results13, go_sem]) rfl ⟨rfl, by first | exact hB | exact hB.alloc (by have := hB.size; omega) _⟩

set_option maxHeartbeats 1000000 in
theorem ranalyse_bad (c s : ByteArray) (w : World) (cd at_ : Nat) (h : Hid (ansOf c = (cd, at_))) (hcd : cd ≠ 0) :
    Calls Tryz.prog 14 #[.string c, .string s] w fun e w' => e = .returned (.tuple #[.slice none 0 0, .int .i64 (cd : Int), .int .i64 (at_ : Int)]) ∧ Below w.heap.size w w' := by
  have hcdI : ¬ (cd : Int) = 0 := by omega
  go_enter Tryz.func14, Tryz.ntmps14
  go_wp2_with fail
  refine (read_all c _ cd at_ h).mono ?_
  rintro e w2 ⟨p, n, k, rfl, hB⟩
  go_wp2_with fail
  go_ret3
  exact ⟨rfl, hB⟩
set_option maxHeartbeats 1000000 in
theorem ranalyse_long (c s : ByteArray) (w : World) (at_ : Nat) (h : Hid (ansOf c = (0, at_))) (hs : 120 < s.size) :
    Calls Tryz.prog 14 #[.string c, .string s] w fun e w' => e = .returned (.tuple #[.slice none 0 0, .int .i64 1, .int .i64 0]) ∧ Below w.heap.size w w' := by
  have hsI : (120 : Int) < (s.size : Int) := by omega
  go_enter Tryz.func14, Tryz.ntmps14
  go_wp2_with fail
  refine (read_all c _ 0 at_ h).mono ?_
  rintro e w2 ⟨p, n, k, rfl, hB⟩
  go_wp2_with fail
  go_ret3
  exact ⟨rfl, hB⟩
/-- What the document's Analyse answers. -/
structure RefO (R : Option (List Pl.Tc)) (n0 : Nat) (e : Ending) (w' : World) : Prop where
  ex : (∃ ts v, R = some ts ∧ e = .returned (.tuple #[v, .int .i64 0, .int .i64 0]) ∧ Tkr n0 v ts w') ∨ (R = none ∧ e = .returned (.tuple #[.slice none 0 0, .int .i64 3, .int .i64 0]))
set_option maxHeartbeats 2000000 in
theorem ranalyse_ok (c s : ByteArray) (w : World) (hm : c.size ≤ 80) (hs : s.size ≤ 120) (R : (Bool × Nat) × Nat) (HR : Hid (Pl.chn c (c.size + 1) false 0 0 = R)) (at_ : Nat) (HV : Hid (verdict R = (0, at_))) (es : List Sp) (cu : Sp) (ls : List Sp) (HT : Hid (Pl.chC c (c.size + 1) false 0 = es ++ cu :: ls)) (hE : ∀ e ∈ es, Pl.isE c e) (hC : Pl.isC c cu) (hL : ∀ e ∈ ls, Pl.isL c e) (he7 : es.length ≤ 7) (hl7 : ls.length ≤ 7) (xs : Ch3) (HCS : Hid (Pl.cs (Pl.bt s) s.size s.size 0 = xs)) (RR : Option (List Pl.Tc)) (HRR : Hid (Pl.takeP es cu ls xs = RR)) :
    Calls Tryz.prog 14 #[.string c, .string s] w fun e w' => RefO RR w.heap.size e w' ∧ Below w.heap.size w w' := by
  have hsI : ¬ (120 : Int) < (s.size : Int) := by omega
  obtain ⟨kC, hc3, hc6⟩ := kst_C hm hC
  have hlS : ∀ l ∈ ls, ¬ Pl.iS l.nm < 6 := fun l hl => (kst_L hm (hL l hl)).2
  have heS : ∀ e ∈ es, Pl.iS e.nm < 3 := fun e he => (kst_E hm (hE e he)).2
  have HRU : Hid (Pl.runT (es ++ cu :: ls) (xs, []) = RR) := by rw [← HRR.out]; exact Pl.runT_take cu ls ⟨hc3, hc6⟩ hlS es heS xs
  have HKS : Hid (∀ q ∈ es ++ cu :: ls, Kst q) := fun q hq => by
    rcases List.mem_append.1 hq with h | h
    · exact (kst_E hm (hE q h)).1
    · rcases List.mem_cons.1 h with rfl | h
      · exact kC
      · exact (kst_L hm (hL q h)).1
  have HEC : Hid (Pl.ec (es ++ cu :: ls) ≤ 7) := Nat.le_trans (Pl.ec_take cu ls hc3 hlS es) he7
  have hat : at_ = 0 := by
    have := HV.out
    unfold verdict at this
    split at this
    · split at this
      · simp at this
      · simpa using this.symm
    · simp at this
  subst hat
  have HLN : Hid ((es ++ cu :: ls).length ≤ 15) := by show _ ≤ _; rw [List.length_append, List.length_cons]; omega
  clear hE hC hL kC hc3 hc6 hlS heS
  go_enter Tryz.func14, Tryz.ntmps14
  go_wp2_with fail
  refine (read_anyC c _ hm R HR 0 0 HV _ HT).mono ?_
  rintro e w1 ⟨p, n, k, rfl, hB, hRd⟩
  obtain ⟨xs0, hrow, hQ⟩ := hRd.h rfl
  have hs1 := hB.size
  have HTK : Hid (Calls Tryz.prog 38 #[.slice p n k, .string s] w1 fun e w' => TkA RR w1.heap.size e w' ∧ Below w1.heap.size w1 w') := rtake_any s hs _ HKS.out HLN.out HEC.out _ _ xs0 _ n w1 hrow hQ xs HCS RR HRU
  clear hRd hrow hQ HKS HLN HEC HRU
  go_wp2_with fail
  refine HTK.out.mono ?_
  rintro e w2 ⟨hTA, hB2⟩
  rcases hTA.ex with ⟨ts, v, h1, rfl, hTk⟩ | ⟨h1, rfl⟩
  · go_wp2_with fail
    go_ret3
    exact ⟨⟨.inl ⟨ts, _, h1, rfl, hTk.base hs1⟩⟩, hB.trans (hB2.mono hs1)⟩
  · go_wp2_with fail
    go_ret3
    exact ⟨⟨.inr ⟨h1, rfl⟩⟩, hB.trans (hB2.mono hs1)⟩
end Go.Proofs.YtcmgclckknpecaaGreatDoor

/- Two rows of tokens held against each other; the law on Analyse. -/
namespace Go.Proofs.YtcmgclckknpecaaGreatDoor
open Go.RowKit Go.Shelf

set_option maxRecDepth 100000 in
set_option maxHeartbeats 4000000 in
theorem tokens_any (gl lc b mc : Nat) (la ma : Option Addr) (ts : List Pl.Tc) (w : World) (hT : Tr gl (ts.map Pl.tkC) w) (hla : 0 < ts.length → la = some ⟨gl, 0, none⟩) (hgl : 0 < ts.length → gl < w.heap.size) (hM : Tkr b (.slice ma ts.length mc) ts w) (hok : ∀ t ∈ ts, (∀ c ∈ t.1, Pl.okc c) ∧ t.1.length ≤ 300000000) (h300 : ts.length ≤ 300) :
    Calls Tryz.prog 15 #[.slice la ts.length lc, .slice ma ts.length mc] w fun e w' => e = .returned (.bool true) ∧ Below w.heap.size w w' := by
  go_enter Tryz.func15, Tryz.ntmps15
  go_wp2_with fail
  go_loopw [5] (fun iv wr => Below w.heap.size w wr ∧ ∃ j : Nat, iv = .int .i64 (j : Int) ∧ j ≤ ts.length) (fun iv _ => ts.length - (intOf iv).toNat)
  case atStart => exact ⟨Below.refl _ _, 0, rfl, by omega⟩
  case round =>
    obtain ⟨hB, j, rfl, hj⟩ := hrel
    by_cases hjl : j < ts.length
    · have hjI : (j : Int) < (ts.length : Int) := by omega
      obtain rfl := hla (by omega)
      have hg := hgl (by omega)
      obtain ⟨c0, c1, c2, c3⟩ := (hT.below hB (fun _ => hg)).c j (by simpa using hjl)
      rw [List.getElem_map] at c0 c1 c2 c3
      obtain ⟨gm, capm, sv, hv, _, hgm, m0, m1, m2, m3, hco⟩ := (hM.below hB).at hjl
      obtain ⟨rfl, rfl⟩ : ma = some ⟨gm, 0, none⟩ ∧ mc = capm := by have := Value.slice.inj hv; exact ⟨this.1, this.2.2⟩
      clear hv
      have hti := hok _ (List.getElem_mem hjl)
      obtain ⟨⟨cs, P, F, T⟩, hx⟩ : ∃ x, ts[j] = x := ⟨_, rfl⟩
      rw [hx] at c0 c1 c2 c3 m1 m2 m3 hco hti
      simp only [Pl.tkC] at c0 c1 c2 c3 m1 m2 m3 hco hti
      obtain ⟨ca, cc, cg, rfl, hC, hca, hcg⟩ := hco.co
      have HTM : Hid (∀ W, Below wr.heap.size wr W → Calls Tryz.prog 39 #[.agg #[.slice ca cs.length cc, .int .i64 (P : Int), .int .i64 (F : Int), .int .i64 (T : Int)]] W fun e w' => e = .returned (.string (Pl.en cs)) ∧ Below W.heap.size W w') := fun W hW => rterm_any cg cc cs ca W (hC.below hW hcg) hca (fun h => by have := hcg h; have := hW.size; omega) hti.1 (by omega) _ _ _
      obtain ⟨E, hE⟩ : ∃ E, Pl.en cs = E := ⟨_, rfl⟩
      rw [hE] at c0 HTM
      clear hx hE
      go_wp2_with fail
      go_region_held3 (fun w' => w'.cell? ⟨gl, j * 4, none⟩ = some (.string E) ∧ w'.cell? ⟨gl, j * 4 + 1, none⟩ = some (.int .i64 (P : Int)) ∧ w'.cell? ⟨gl, j * 4 + 2, none⟩ = some (.int .i64 (F : Int)) ∧ w'.cell? ⟨gl, j * 4 + 3, none⟩ = some (.int .i64 (T : Int)) ∧ w'.cell? ⟨gm, j * 4, none⟩ = some (.slice ca cs.length cc) ∧ w'.cell? ⟨gm, j * 4 + 1, none⟩ = some (.int .i64 (P : Int)) ∧ w'.cell? ⟨gm, j * 4 + 2, none⟩ = some (.int .i64 (F : Int)) ∧ w'.cell? ⟨gm, j * 4 + 3, none⟩ = some (.int .i64 (T : Int))) (first | exact ⟨d0, d1, d2, d3, e0, e1, e2, e3⟩ | go_keep) ((go_at_call 39; refine (HTM.out _ (Below.refl _ wr).drew).mono ?_; rintro e w2 ⟨rfl, h2⟩; have hB2 : Below wr.heap.size wr w2 := (Below.refl _ wr).drew.trans h2; have hgw : gl < wr.heap.size := Nat.lt_of_lt_of_le hg hB.size; have d0 := (hB2.cell (p := ⟨gl, j * 4, none⟩) hgw).trans c0; have d1 := (hB2.cell (p := ⟨gl, j * 4 + 1, none⟩) hgw).trans c1; have d2 := (hB2.cell (p := ⟨gl, j * 4 + 2, none⟩) hgw).trans c2; have d3 := (hB2.cell (p := ⟨gl, j * 4 + 3, none⟩) hgw).trans c3; have e0 := (hB2.cell (p := ⟨gm, j * 4, none⟩) hgm).trans m0; have e1 := (hB2.cell (p := ⟨gm, j * 4 + 1, none⟩) hgm).trans m1; have e2 := (hB2.cell (p := ⟨gm, j * 4 + 2, none⟩) hgm).trans m2; have e3 := (hB2.cell (p := ⟨gm, j * 4 + 3, none⟩) hgm).trans m3))
      go_wp2_with fail
      exact ⟨⟨hB.trans (hB2.mono hB.size), j + 1, by go_num, by omega⟩, by simp [intOf]; omega⟩
    · have hjI : ¬ (j : Int) < (ts.length : Int) := by omega
      go_wp2_with fail
      go_ret
      exact ⟨rfl, hB⟩
end Go.Proofs.YtcmgclckknpecaaGreatDoor

/- The law on Analyse: its walk. -/
namespace Go.Proofs.YtcmgclckknpecaaGreatDoor
open Go.RowKit Go.Shelf

/-- A row of tokens that may be overwritten. -/
structure ZR (g n : Nat) (w : World) : Prop where
  ex : ∃ cur, w.heap[g]? = some (Obj.cells cur 27 (0, 0)) ∧ n * 4 ≤ cur.size
theorem ZR.set {g n : Nat} {w : World} (h : ZR g n w) (o : Nat) (u : Value) : ZR g n (w.setCell ⟨g, o, none⟩ u) := by
  obtain ⟨cur, h1, h2⟩ := h.ex
  exact ⟨_, heap_set w g o u cur 27 h1, by simpa using h2⟩
theorem ZR.cell {g n : Nat} {w : World} (h : ZR g n w) {j : Nat} (hj : j < n * 4) : ∃ u, w.cell? ⟨g, j, none⟩ = some u := by
  obtain ⟨cur, h1, h2⟩ := h.ex
  exact ⟨cur[j]'(by omega), by simp [World.cell?, h1, show j < cur.size by omega]⟩
theorem ZR.fr {g n : Nat} {w : World} (h : ZR g n w) (o : Nat) : w.frozen? ⟨g, o, none⟩ = false := by
  obtain ⟨cur, h1, h2⟩ := h.ex
  simp [World.frozen?, h1]
def PP (RR : Option (List Pl.Tc)) (ts : List Pl.Tc) (f : Nat) : Prop := (RR = some ts ∧ f = 0) ∨ (RR = none ∧ f = 3 ∧ ts = [])
theorem ana_uni {at_ : Nat} {c : ByteArray} {T : List Sp} {xs : Ch3} {n0 : Nat} {e : Ending} {w' : World} (h : AnaO 0 at_ c T xs n0 e w') : ∃ (es : List Sp) (cu : Sp) (ls : List Sp), T = es ++ cu :: ls ∧ (∀ e ∈ es, Pl.isE c e) ∧ Pl.isC c cu ∧ (∀ e ∈ ls, Pl.isL c e) ∧ es.length ≤ 7 ∧ ls.length ≤ 7 ∧ ∃ (v : Value) (f : Nat) (ts : List Pl.Tc), e = .returned (.tuple #[v, .int .i64 (f : Int), .int .i64 0]) ∧ w'.ownsRow n0 27 4 v ts.length ((ts.map Pl.tkC).flatMap tenc) ∧ PP (Pl.takeP es cu ls xs) ts f := by
  rcases h.ex with ⟨h, _⟩ | ⟨_, es, cu, ls, h1, h2, h3, h4, h5, h6, ⟨ts, v, h7, rfl, h8⟩ | ⟨h7, rfl⟩⟩
  · exact absurd rfl h
  · exact ⟨es, cu, ls, h1, h2, h3, h4, h5, h6, v, 0, ts, rfl, h8, .inl ⟨h7, rfl⟩⟩
  · exact ⟨es, cu, ls, h1, h2, h3, h4, h5, h6, _, 3, [], rfl, ownsRow_none, .inr ⟨h7, rfl, rfl⟩⟩
theorem ref_uni {RR : Option (List Pl.Tc)} {ts : List Pl.Tc} {f n0 : Nat} {e : Ending} {w' : World} (h : RefO RR n0 e w') (hp : PP RR ts f) : ∃ a cap, e = .returned (.tuple #[.slice a ts.length cap, .int .i64 (f : Int), .int .i64 0]) ∧ Tkr n0 (.slice a ts.length cap) ts w' := by
  rcases h.ex with ⟨ts', v, h1, rfl, h2⟩ | ⟨h1, rfl⟩
  · rcases hp with ⟨h3, rfl⟩ | ⟨h3, _⟩
    · rw [h1] at h3
      cases h3
      obtain ⟨a, cap, rfl⟩ := h2.len
      exact ⟨a, cap, rfl, h2⟩
    · rw [h1] at h3; cases h3
  · rcases hp with ⟨h3, _⟩ | ⟨_, rfl, rfl⟩
    · rw [h1] at h3; cases h3
    · exact ⟨none, 0, rfl, Tkr.nil _ _⟩

theorem Ends.below' {w W : World} (h : Ends w) (hB : Below w.heap.size w W) : Ends W := h.below hB
set_option maxRecDepth 100000 in
set_option maxHeartbeats 4000000 in
/-- The law, where seek answers a row of tokens twice and the document the first of them. -/
theorem law_any (c s : ByteArray) (w : World) (f k : Nat) (ts : List Pl.Tc) (D : Prop) (HD : Hid (D → ts.length ≤ 300 ∧ ∀ t ∈ ts, (∀ c ∈ t.1, Pl.okc c) ∧ t.1.length ≤ 300000000))
    (H1 : Hid (Calls Tryz.prog 13 #[.string c, .string s] w fun e w' => (∃ v, e = .returned (.tuple #[v, .int .i64 (f : Int), .int .i64 (k : Int)]) ∧ w'.ownsRow w.heap.size 27 4 v ts.length ((ts.map Pl.tkC).flatMap tenc) ∧ D) ∧ Below w.heap.size w w'))
    (H2 : Hid (∀ W, Below w.heap.size w W → Calls Tryz.prog 13 #[.string c, .string s] W fun e w' => (∃ v f2 k2 n, ∃ vs : List Value, e = .returned (.tuple #[v, .int .i64 f2, .int .i64 k2]) ∧ n ≤ 1000 ∧ w'.ownsRow W.heap.size 27 4 v n vs) ∧ Below W.heap.size W w'))
    (H3 : Hid (D → ∀ W, Calls Tryz.prog 14 #[.string c, .string s] W fun e w' => (∃ a cap, e = .returned (.tuple #[.slice a ts.length cap, .int .i64 (f : Int), .int .i64 (k : Int)]) ∧ Tkr W.heap.size (.slice a ts.length cap) ts w') ∧ Below W.heap.size W w')) :
    Calls Tryz.prog 3 #[.string c, .string s] w fun e w' => e = .returned (.bool true) ∧ Below w.heap.size w w' := by
  go_enter Tryz.func3, Tryz.ntmps3
  go_wp2_with fail
  refine H1.out.mono ?_
  rintro e w1 ⟨⟨v1, rfl, hr1, hDD⟩, hB1⟩
  obtain ⟨h300, hok⟩ := HD.out hDD
  have H4 : Hid (∀ W, Calls Tryz.prog 14 #[.string c, .string s] W fun e w' => (∃ a cap, e = .returned (.tuple #[.slice a ts.length cap, .int .i64 (f : Int), .int .i64 (k : Int)]) ∧ Tkr W.heap.size (.slice a ts.length cap) ts w') ∧ Below W.heap.size W w') := H3.out hDD
  clear hDD H3
  obtain ⟨a1, cap1, g1, hv1, ha1, hg1, hT1⟩ := tr_form (xs := ts.map Pl.tkC) (by rw [List.length_map]; exact hr1)
  rw [List.length_map] at hv1 ha1 hg1
  subst hv1
  have HT1 : Hid (Tr g1 (ts.map Pl.tkC) w1) := hT1
  clear hr1 hT1
  go_wp2_with fail
  refine (H2.out _ hB1).mono ?_
  rintro e w2 ⟨⟨v2, f2, k2, n, vs, rfl, hn, hr2⟩, hB2⟩
  have hs1 := hB1.size
  have hs2 := hB2.size
  obtain ⟨a2, cap2, g2, hv2, ha2, hZ⟩ : ∃ a2 cap2 g2, v2 = .slice a2 n cap2 ∧ (0 < n → a2 = some ⟨g2, 0, none⟩ ∧ w1.heap.size ≤ g2) ∧ (0 < n → ZR g2 n w2) := by
    rcases hr2.2 with ⟨h, h0⟩ | ⟨g', cap, cur, h, hb, hh, hcap, _, hsz, _⟩
    · exact ⟨none, 0, 0, by rw [h, h0], fun h => by omega, fun h => by omega⟩
    · exact ⟨_, cap, g', h, fun _ => ⟨rfl, hb⟩, fun _ => ⟨cur, hh, by rw [hsz]; exact Nat.mul_le_mul_right _ hcap⟩⟩
  subst hv2
  clear hr2
  go_wp2_with fail
  go_loopw [11] (fun iv wr => Below w1.heap.size w1 wr ∧ ∃ j : Nat, iv = .int .i64 (j : Int) ∧ j ≤ n ∧ Hid (0 < n → ZR g2 n wr)) (fun iv _ => n - (intOf iv).toNat)
  case atStart => exact ⟨hB2, 0, rfl, by omega, hZ⟩
  case round =>
    obtain ⟨hB3, j, rfl, hj, HZ⟩ := hrel
    by_cases hjl : j < n
    · have hjI : (j : Int) < (n : Int) := by omega
      obtain ⟨rfl, hg2⟩ := ha2 (by omega)
      have hz := HZ.out (by omega)
      obtain ⟨u0, c0⟩ := hz.cell (j := j * 4) (by omega)
      obtain ⟨u1, c1⟩ := hz.cell (j := j * 4 + 1) (by omega)
      obtain ⟨u2, c2⟩ := hz.cell (j := j * 4 + 2) (by omega)
      obtain ⟨u3, c3⟩ := hz.cell (j := j * 4 + 3) (by omega)
      have fz := hz.fr
      go_wp2_with fail
      refine ⟨⟨?_, j + 1, by go_num, by omega, fun _ => (((hz.set _ _).set _ _).set _ _).set _ _⟩, by simp [intOf]; omega⟩
      exact (((hB3.setCell (p := ⟨g2, j * 4, none⟩) hg2 _).setCell (p := ⟨g2, j * 4 + 1, none⟩) hg2 _).setCell (p := ⟨g2, j * 4 + 2, none⟩) hg2 _).setCell (p := ⟨g2, j * 4 + 3, none⟩) hg2 _
    · have hjI : ¬ (j : Int) < (n : Int) := by omega
      clear HZ hZ ha2
      go_wp2_with fail
      refine (H4.out _).mono ?_
      rintro e w4 ⟨⟨a4, cap4, rfl, hM⟩, hB4⟩
      have hB14 : Below w1.heap.size w1 w4 := hB3.trans (hB4.mono hB3.size)
      have hs4 := hB14.size
      have HTO : Hid (Calls Tryz.prog 15 #[.slice a1 ts.length cap1, .slice a4 ts.length cap4] w4 fun e w' => e = .returned (.bool true) ∧ Below w4.heap.size w4 w') := tokens_any g1 cap1 _ cap4 a1 a4 ts w4 (HT1.out.below hB14 (fun h => hg1 (by simpa using h))) ha1 (fun h => by have := hg1 h; omega) hM hok h300
      go_wp2_with fail
      refine HTO.out.mono ?_
      rintro e w5 ⟨rfl, hB5⟩
      have hBB : Below w.heap.size w w5 := hB1.trans ((hB14.trans (hB5.mono hs4)).mono hs1)
      go_wp2_with (go_at_call 16; refine (num_any _ _).mono ?_; rintro e w' ⟨rfl, hw⟩; rw [hw]; clear hw w')
      go_ret
      exact ⟨rfl, hBB⟩

namespace Pl
theorem eaAll_len : ∀ (es : List Sp) (xs : Ch3), (∀ e ∈ es, SpW e) → (eaAll es xs).length ≤ 8 ^ es.length * xs.length
  | [], xs, _ => by simp [eaAll]
  | e :: r, xs, h => by
    have h1 := eaAll_len r (eaS e xs) (fun q hq => h q (List.mem_cons_of_mem _ hq))
    have h2 : (eaS e xs).length ≤ 8 * xs.length := eaK_len _ e (h e (List.mem_cons_self ..)) xs
    rw [eaAll, List.length_cons, Nat.pow_succ, Nat.mul_assoc]
    exact Nat.le_trans h1 (Nat.mul_le_mul_left _ h2)
theorem lateAll_inv2 {b : Nat → Prop} : ∀ (ls : List Sp) (K : Nat) (ts us : List Tc), (∀ e ∈ ls, SpW e) → TkI b K ts → lateAll ls ts = some us → us.length ≤ 300 ∧ TkI b (K + 8 * ls.length) us
  | [], K, ts, us, _, h, e => by
    rw [lateAll] at e
    split at e
    · cases e
      exact ⟨by assumption, h⟩
    · cases e
  | l :: r, K, ts, us, hw, h, e => by
    rw [lateAll] at e
    split at e
    · have := lateAll_inv2 r (K + 8) _ us (fun x hx => hw x (by simp [hx])) (lgC_inv h l (hw l (by simp))) e
      rw [List.length_cons, show K + 8 * (r.length + 1) = K + 8 + 8 * r.length by omega]
      exact this
    · cases e
theorem take_ok300 (c : ByteArray) (hm : c.size ≤ 80) (es : List Sp) (cu : Sp) (ls : List Sp) (xs : Ch3) (hE : ∀ e ∈ es, isE c e) (hL : ∀ e ∈ ls, isL c e) (he7 : es.length ≤ 7) (hl7 : ls.length ≤ 7) (hI : Inv (fun _ => True) xs) (hx : xs.length ≤ 120) (us : List Tc) (e : takeP es cu ls xs = some us) : us.length ≤ 300 ∧ ∀ t ∈ us, (∀ c ∈ t.1, okc c) ∧ t.1.length ≤ 300000000 := by
  have hl := eaAll_len es xs (fun q hq => isE_w hm (hE q hq))
  have hb : (eaAll es xs).length ≤ 268435456 := by
    have h1 : 8 ^ es.length ≤ 8 ^ 7 := Nat.pow_le_pow_right (by omega) he7
    have h2 : (8 : Nat) ^ 7 = 2097152 := by decide
    rw [h2] at h1
    exact Nat.le_trans hl (Nat.le_trans (Nat.mul_le_mul h1 hx) (by decide))
  obtain ⟨h3, h4⟩ := lateAll_inv2 ls 268435456 _ us (fun q hq => isL_w hm (hL q hq)) (cutC_inv (eaAll_inv es xs (fun q hq => isE_w hm (hE q hq)) hI) cu 268435456 hb) e
  exact ⟨h3, fun t ht => ⟨(h4.ok t ht).1, by have := (h4.ok t ht).2.2.1; omega⟩⟩
end Pl
theorem Tkr.nil' (W : World) : Tkr W.heap.size (.slice none ([] : List Pl.Tc).length 0) [] W := Tkr.nil _ _

theorem analyse_bad (c s : ByteArray) (w : World) (HEN : Hid (Ends w)) (cd at_ : Nat) (HA : Hid (ansOf c = (cd, at_))) (hcd : cd ≠ 0) :
    Calls Tryz.prog 13 #[.string c, .string s] w fun e w' => e = .returned (.tuple #[.slice none 0 0, .int .i64 (cd : Int), .int .i64 (at_ : Int)]) ∧ Below w.heap.size w w' := by
  have h0 := HA.out
  unfold ansOf at h0
  by_cases hm : 80 < c.size
  · rw [if_pos hm] at h0
    simp only [Prod.mk.injEq] at h0
    obtain ⟨rfl, rfl⟩ := h0
    exact analyse_clong c s w hm
  · rw [if_neg hm] at h0
    by_cases hs : s.size ≤ 120
    · refine (analyse_any c s w (by omega) hs _ rfl cd at_ h0 _ rfl _ rfl HEN).mono ?_
      rintro e w' ⟨hA, hB⟩
      rcases hA.ex with ⟨_, rfl⟩ | ⟨h, _⟩
      · exact ⟨rfl, hB⟩
      · exact absurd h hcd
    · have := analyse_slong c s w (by omega) (by omega) _ rfl cd at_ h0
      rw [if_neg hcd, if_neg hcd] at this
      exact this
theorem law_nil (c s : ByteArray) (w : World) (f k : Nat) (HA : Hid (∀ W, Below w.heap.size w W → Calls Tryz.prog 13 #[.string c, .string s] W fun e w' => e = .returned (.tuple #[.slice none 0 0, .int .i64 (f : Int), .int .i64 (k : Int)]) ∧ Below W.heap.size W w')) (HB : Hid (∀ W, Calls Tryz.prog 14 #[.string c, .string s] W fun e w' => e = .returned (.tuple #[.slice none 0 0, .int .i64 (f : Int), .int .i64 (k : Int)]) ∧ Below W.heap.size W w')) :
    Calls Tryz.prog 3 #[.string c, .string s] w fun e w' => e = .returned (.bool true) ∧ Below w.heap.size w w' := by
  refine law_any c s w f k [] True (fun _ => ⟨by simp, by simp⟩) ((HA.out w (Below.refl _ _)).mono ?_) (fun W hW => (HA.out W hW).mono ?_) (fun _ W => (HB.out W).mono ?_)
  · rintro e w' ⟨rfl, hB⟩
    exact ⟨⟨_, rfl, ownsRow_none, trivial⟩, hB⟩
  · rintro e w' ⟨rfl, hB⟩
    exact ⟨⟨_, _, _, 0, [], rfl, by omega, ownsRow_none⟩, hB⟩
  · rintro e w' ⟨rfl, hB⟩
    exact ⟨⟨none, 0, rfl, Tkr.nil _ _⟩, hB⟩
theorem analyses_all (c s : ByteArray) (w : World) (HEN : Hid (Ends w)) :
    Calls Tryz.prog 3 #[.string c, .string s] w fun e w' => e = .returned (.bool true) ∧ Below w.heap.size w w' := by
  obtain ⟨cd, at_, hA⟩ : ∃ cd at_, ansOf c = (cd, at_) := ⟨_, _, rfl⟩
  by_cases hcd : cd = 0
  · subst hcd
    have hm : ¬ 80 < c.size := fun h => by unfold ansOf at hA; rw [if_pos h] at hA; simp at hA
    have hV : verdict (Pl.chn c (c.size + 1) false 0 0) = (0, at_) := by unfold ansOf at hA; rw [if_neg hm] at hA; exact hA
    have hat : at_ = 0 := by
      have := hV
      unfold verdict at this
      split at this
      · split at this
        · simp at this
        · simpa using this.symm
      · simp at this
    subst hat
    by_cases hs : s.size ≤ 120
    · obtain ⟨xs, hxs⟩ : ∃ xs, Pl.cs (Pl.bt s) s.size s.size 0 = xs := ⟨_, rfl⟩
      obtain ⟨T, hT⟩ : ∃ T, Pl.chC c (c.size + 1) false 0 = T := ⟨_, rfl⟩
      have hxl : xs.length ≤ 120 := by have := Pl.cs_length (Pl.bt s) s.size s.size 0; rw [hxs] at this; omega
      have hI : Pl.Inv (fun _ => True) xs := (Pl.cs_inv s xs hxs).weak fun _ _ => trivial
      have hru : ∀ (es : List Sp) (cu : Sp) (ls : List Sp), T = es ++ cu :: ls → (∀ e ∈ es, Pl.isE c e) → Pl.isC c cu → (∀ e ∈ ls, Pl.isL c e) → Pl.takeP es cu ls xs = Pl.runT T (xs, []) := fun es cu ls h1 h2 h3 h4 => by
        rw [h1]
        exact (Pl.runT_take cu ls (kst_C (by omega) h3).2 (fun l hl => (kst_L (by omega) (h4 l hl)).2) es (fun e he => (kst_E (by omega) (h2 e he)).2) xs).symm
      obtain ⟨RR, hRR⟩ : ∃ RR, Pl.runT T (xs, []) = RR := ⟨_, rfl⟩
      obtain ⟨ts, f, hPP⟩ : ∃ ts f, PP RR ts f := by
        cases RR with
        | none => exact ⟨[], 3, .inr ⟨rfl, rfl, rfl⟩⟩
        | some ts => exact ⟨ts, 0, .inl ⟨rfl, rfl⟩⟩
      have hpp : ∀ ts' f', PP RR ts' f' → ts' = ts ∧ f' = f := fun ts' f' h => by
        rcases h with ⟨h1, rfl⟩ | ⟨h1, rfl, rfl⟩ <;> rcases hPP with ⟨h2, rfl⟩ | ⟨h2, rfl, rfl⟩
        · rw [h1] at h2; cases h2; exact ⟨rfl, rfl⟩
        · rw [h1] at h2; cases h2
        · rw [h1] at h2; cases h2
        · exact ⟨rfl, rfl⟩
      refine law_any c s w f 0 ts (∃ (es : List Sp) (cu : Sp) (ls : List Sp), T = es ++ cu :: ls ∧ (∀ e ∈ es, Pl.isE c e) ∧ Pl.isC c cu ∧ (∀ e ∈ ls, Pl.isL c e) ∧ es.length ≤ 7 ∧ ls.length ≤ 7) ?_ ?_ ?_ ?_
      · rintro ⟨es, cu, ls, h1, h2, h3, h4, h5, h6⟩
        rcases hPP with ⟨h, _⟩ | ⟨_, _, rfl⟩
        · exact Pl.take_ok300 c (by omega) es cu ls xs h2 h4 h5 h6 hI hxl ts (by rw [hru es cu ls h1 h2 h3 h4, hRR, h])
        · exact ⟨by simp, by simp⟩
      · refine (analyse_any c s w (by omega) hs _ rfl 0 0 hV T hT xs hxs HEN).mono ?_
        rintro e w' ⟨hAO, hB⟩
        obtain ⟨es, cu, ls, h1, h2, h3, h4, h5, h6, v, f', ts', rfl, h7, h8⟩ := ana_uni hAO
        rw [hru es cu ls h1 h2 h3 h4, hRR] at h8
        obtain ⟨rfl, rfl⟩ := hpp _ _ h8
        exact ⟨⟨v, rfl, h7, es, cu, ls, h1, h2, h3, h4, h5, h6⟩, hB⟩
      · intro W hW
        refine (analyse_any c s W (by omega) hs _ rfl 0 0 hV T hT xs hxs (HEN.out.below' hW)).mono ?_
        rintro e w' ⟨hAO, hB⟩
        obtain ⟨es, cu, ls, h1, h2, h3, h4, h5, h6, v, f', ts', rfl, h7, h8⟩ := ana_uni hAO
        refine ⟨⟨v, _, _, ts'.length, _, rfl, ?_, h7⟩, hB⟩
        rcases h8 with ⟨h, _⟩ | ⟨_, _, rfl⟩
        · have := (Pl.take_ok300 c (by omega) es cu ls xs h2 h4 h5 h6 hI hxl ts' h).1
          omega
        · simp
      · rintro ⟨es, cu, ls, h1, h2, h3, h4, h5, h6⟩ W
        refine (ranalyse_ok c s W (by omega) hs _ rfl 0 hV es cu ls (hT.trans h1) h2 h3 h4 h5 h6 xs hxs RR (by rw [← hRR]; exact hru es cu ls h1 h2 h3 h4)).mono ?_
        rintro e w' ⟨hRO, hB⟩
        exact ⟨ref_uni hRO hPP, hB⟩
    · refine law_nil c s w 1 0 (fun W hW => ?_) (fun W => ranalyse_long c s W 0 hA (by omega))
      exact analyse_slong c s W (by omega) (by omega) _ rfl 0 0 hV
  · exact law_nil c s w cd at_ (fun W hW => analyse_bad c s W (HEN.out.below' hW) cd at_ hA hcd) (fun W => ranalyse_bad c s W cd at_ hA hcd)
end Go.Proofs.YtcmgclckknpecaaGreatDoor
