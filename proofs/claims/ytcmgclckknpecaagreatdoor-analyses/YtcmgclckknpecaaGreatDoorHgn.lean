import Derived.Test.YtcmgclckknpecaaGreatDoorApl
import Derived.Test.YtcmgclckknpecaaGreatDoorPpl
import Derived.Test.YtcmgclckknpecaaGreatDoorMkg

namespace Go.Proofs.YtcmgclckknpecaaGreatDoor
open Go.RowKit Go.Shelf

theorem u8_eq {a b : Nat} (ha : a < 256) (hb : b < 256) (h : a.toUInt8 = b.toUInt8) : a = b := by
  have := congrArg UInt8.toNat h
  rwa [u8nat a ha, u8nat b hb] at this
theorem code_ok (f : Nat → Nat) (n : Nat) (hb : ∀ j, f j < 256) : Pl.okc (Pl.code f n) := by
  by_cases h : Pl.code f n = 65533
  · rw [h]; unfold Pl.okc; omega
  · refine Classical.byContradiction fun hno => h ?_
    have e := Pl.enc_code f n hb h
    have hbad : Lib.encodeRuneZ ((Pl.code f n : Nat) : Int) = [239, 191, 189] := Lib.encodeRuneZ_bad (by unfold Pl.okc at hno; omega)
    unfold Lib.encodeRune at e
    rw [hbad] at e
    have hl : Pl.size f n = 3 := by
      have := congrArg List.length e
      simpa using this.symm
    rw [hl] at e
    have e3 : (List.range 3).map (fun j => (f j).toUInt8) = [(f 0).toUInt8, (f 1).toUInt8, (f 2).toUInt8] := rfl
    rw [e3] at e
    simp only [List.map_cons, List.map_nil, List.cons.injEq, and_true] at e
    obtain ⟨q0, q1, q2⟩ := e
    have f0 : 239 = f 0 := u8_eq (by omega) (hb 0) q0
    have f1 : 191 = f 1 := u8_eq (by omega) (hb 1) q1
    have f2 : 189 = f 2 := u8_eq (by omega) (hb 2) q2
    have hs : Pl.size f n = Pl.lenOf (f 0) := by
      rcases Nat.decEq (Pl.size f n) (Pl.lenOf (f 0)) with h' | h'
      · exact absurd (Pl.code_no h') h
      · exact h'
    rw [Pl.code_yes hs, ← f0]
    show Pl.codeTo f 3 = 65533
    rw [Pl.codeTo_succ f (k := 2) (by omega), Pl.codeTo_succ f (k := 1) (by omega), Pl.codeTo_one, ← f0, ← f1, ← f2]
    rfl
theorem cs_ok (s : ByteArray) : ∀ m i, ∀ x ∈ Pl.cs (Pl.bt s) s.size m i, Pl.okc x.1 := by
  intro m
  induction m with
  | zero => intro i x hx; simp [Pl.cs] at hx
  | succ m ih =>
    intro i x hx
    rw [Pl.cs] at hx
    split at hx
    · rcases List.mem_cons.1 hx with rfl | hx
      · exact code_ok _ _ (fun j => Pl.bt_lt s _)
      · exact ih _ x hx
    · simp at hx

theorem tgs_okc {xs : Ch3} (h : ∀ x ∈ xs, Pl.okc x.1) : ∀ m i, ∀ y ∈ Pl.tgs xs m i, Pl.okc y.1
  | 0, i, y, hy => by simp [Pl.tgs] at hy
  | m + 1, i, y, hy => by
    rw [Pl.tgs] at hy
    split at hy
    · split at hy
      · rcases List.mem_cons.1 hy with rfl | hy
        · exact h _ (List.getElem_mem _)
        · exact tgs_okc h m _ y hy
      · rcases List.mem_cons.1 hy with rfl | hy
        · unfold Pl.okc; simp
        · exact tgs_okc h m _ y hy
    · simp at hy
theorem exs_okc {xs : Ch3} (h : ∀ x ∈ xs, Pl.okc x.1) (ps : List (ByteArray × ByteArray)) : ∀ m i, ∀ y ∈ Pl.exs ps xs m i, Pl.okc y.1
  | 0, i, y, hy => by simp [Pl.exs] at hy
  | m + 1, i, y, hy => by
    rw [Pl.exs] at hy
    split at hy
    · split at hy
      · rcases List.mem_cons.1 hy with rfl | hy
        · exact h _ (List.getElem_mem _)
        · exact exs_okc h ps m _ y hy
      · rcases List.mem_append.1 hy with hy | hy
        · obtain ⟨c, hc, rfl⟩ := List.mem_map.1 hy
          exact Pl.rns_ok _ _ _ c hc
        · exact exs_okc h ps m _ y hy
    · simp at hy
theorem eaK_okc (i : Nat) (sp : Sp) (xs : Ch3) (h : ∀ x ∈ xs, Pl.okc x.1) : ∀ y ∈ Pl.eaK i sp xs, Pl.okc y.1 := by
  unfold Pl.eaK
  split
  · exact tgs_okc h _ _
  · split
    · intro y hy
      obtain ⟨x, hx, hy⟩ := List.mem_flatMap.1 hy
      exact (Pl.fdC_two x (h x hx) y hy).2
    · exact exs_okc h _ _ _

end Go.Proofs.YtcmgclckknpecaaGreatDoor

namespace Go.Proofs.YtcmgclckknpecaaGreatDoor
open Go.RowKit Go.Shelf

theorem Srow.keep {base g : Nat} {L : List Sq} {w W : World} (h : Srow base g L w) (ha : Agr w W) (hc : 0 < L.length → ∀ o, W.cell? ⟨g, o, none⟩ = w.cell? ⟨g, o, none⟩) : Srow base g L W :=
  ⟨fun j hj => by
    obtain ⟨q1, m1, d1, q2, m2, d2, u, v, h0, g0, g1, g2, g3, g4⟩ := h.c j hj
    have k := hc (by omega)
    exact ⟨q1, m1, d1, q2, m2, d2, u, v, h0, (k _).trans g0, (k _).trans g1, (k _).trans g2, (k _).trans g3, (k _).trans g4⟩, fun q hq => (h.o q hq).agr ha⟩
theorem All2.get {α β : Type} {R : α → β → Prop} : ∀ {l : List α} {m : List β}, All2 R l m → ∀ j (h : j < l.length), ∃ f, m[j]? = some f ∧ R (l[j]) f
  | _ :: _, _ :: _, h, 0, _ => ⟨_, rfl, h.1⟩
  | _ :: _, _ :: _, h, j + 1, hj => by
    obtain ⟨f, h1, h2⟩ := All2.get h.2 j (by simpa using hj)
    exact ⟨f, h1, h2⟩
/-- What take answers, R being what the document makes of it. -/
structure TakO (R : Option (List Pl.Tc)) (n0 : Nat) (e : Ending) (w' : World) : Prop where
  ex : (∃ ts v, R = some ts ∧ e = .returned (.tuple #[v, .int .i64 0]) ∧ w'.ownsRow n0 27 4 v ts.length ((ts.map Pl.tkC).flatMap tenc)) ∨ (R = none ∧ e = .returned (.tuple #[.slice none 0 0, .int .i64 3]))
/-- The analyser with its stages made. -/
structure StgO (n0 b : Nat) (LE LL : List Sq) (jC : Nat) (cells : Value → Value → Value → Array Value) (w' : World) : Prop where
  ex : ∃ vE fC vL fE fL, Blk b 119 (cells vE fC vL) w' ∧ w'.ownsRow n0 189 1 vE LE.length fE ∧ w'.ownsRow n0 194 1 vL LL.length fL ∧ All2 (RE w') LE fE ∧ All2 (RL w') LL fL ∧ COk fC jC w'

theorem cdx_inv {xs : Ch3} (h : ∀ x ∈ xs, Pl.okc x.1) (k : Nat) : Pl.cdx xs k ≤ 67108863 := by
  by_cases hk : k < xs.length
  · rw [Pl.cdx_eq hk]
    have := h _ (List.getElem_mem hk)
    unfold Pl.okc at this
    omega
  · simp [Pl.cdx, hk]
theorem lateAll_many {ls : List Sp} {ts : List Pl.Tc} (h : 300 < ts.length) : Pl.lateAll ls ts = none := by
  cases ls <;> simp [Pl.lateAll] <;> omega
/-- What the late loop knows. -/
structure LtR (n0 : Nat) (LL : List Sq) (R : Option (List Pl.Tc)) (w4 : World) (tk ok i : Value) (wr : World) : Prop where
  ex : (∃ (j : Nat) (ts : List Pl.Tc), i = .int .i64 (j : Int) ∧ j ≤ LL.length ∧ ok = .bool true ∧ wr.ownsRow n0 27 4 tk ts.length ((ts.map Pl.tkC).flatMap tenc) ∧ Pl.lateAll ((LL.drop j).map (·.1)) ts = R ∧ ts.length ≤ 300 ∧ Pl.TkI (fun _ => True) (268435456 + 8 * j) ts ∧ Below w4.heap.size w4 wr) ∨ (∃ j : Nat, i = .int .i64 (j : Int) ∧ j ≤ LL.length ∧ ok = .bool false ∧ R = none ∧ tk = .slice none 0 0 ∧ Below w4.heap.size w4 wr)

set_option maxRecDepth 100000 in
set_option maxHeartbeats 8000000 in
theorem take_ok (base b ge gl : Nat) (LE LL : List Sq) (cu : Sp) (jC : Nat) (pe : Option Addr) (ce : Nat) (p1 p2 : Option Addr) (n1 c1 n2 c2 : Nat) (x z : Int) (al : Option Addr) (cl : Nat) (sm : Value) (s : ByteArray) (hs : s.size ≤ 120) (xs : Ch3) (HCS : Hid (Pl.cs (Pl.bt s) s.size s.size 0 = xs)) (HIN : Hid (Pl.Inv (fun _ => True) xs)) (w : World) (hkE : LE.length ≤ 7) (hkL : LL.length ≤ 8) (hb0 : b ≠ 0)
    (hA : Blk b 119 #[.slice pe LE.length ce, .string cu.nm, .slice p1 n1 c1, .slice p2 n2 c2, .int .i64 x, .int .i64 z, .slice al LL.length cl, .int .u32 0, .int .i32 0, sm, .slice none 0 0, .nilFunc, .slice none 0 0] w)
    (hpe : 0 < LE.length → pe = some ⟨ge, 0, none⟩ ∧ ge ≠ b ∧ ge < w.heap.size) (hal : 0 < LL.length → al = some ⟨gl, 0, none⟩ ∧ gl ≠ b ∧ gl < w.heap.size) (HSE : Hid (Srow base ge LE w)) (HSL : Hid (Srow base gl LL w)) (hSC : StO base cu (.slice p1 n1 c1) (.slice p2 n2 c2) x z w) (HEN : Hid (Ends w))
    (HIE : Hid (∀ q ∈ LE, ∃ i, ∃ hi : i < Pl.starts.length, i < 3 ∧ q.1.nm = Pl.starts[i] ∧ SpW q.1)) (HIL : Hid (∀ q ∈ LL, ∃ i, ∃ hi : i < Pl.lates.length, q.1.nm = Pl.lates[i] ∧ SpW q.1)) (hjC : jC < Pl.starts.length) (hjC3 : 3 ≤ jC) (HCN : Hid (cu.nm = Pl.starts[jC]))
    (R : Option (List Pl.Tc)) (HR : Hid (Pl.takeP (LE.map (·.1)) cu (LL.map (·.1)) xs = R)) :
    Calls Tryz.prog 36 #[.pointer (some ⟨b, 0, none⟩), .string s] w fun e w' => TakO R w.heap.size e w' ∧ w.grownBy w' (some b) := by
  have hb := hA.lt
  have hcs : xs.length ≤ 120 := by have := Pl.cs_length (Pl.bt s) s.size s.size 0; rw [HCS.out] at this; omega
  go_enter Tryz.func36, Tryz.ntmps36
  go_wp2_with fail
  refine (split_any s _ hs xs HCS).mono ?_
  rintro e w1 ⟨vc, rfl, hrowc, hB1⟩
  obtain ⟨ac, capc, hvc, hcapc, hpc⟩ := row_form hrowc
  subst hvc
  have hA1 := hA.keep (row := none) (grown_of_below none hB1) (by simp)
  have hs1 := hB1.size
  have g8 : w1.cell? ⟨b, 8, none⟩ = some (.int .i32 0) := blk_cell hA1 8
  have g7 : w1.cell? ⟨b, 7, none⟩ = some (.int .u32 0) := blk_cell hA1 7
  have hA1' : Blk b 119 #[.slice pe LE.length ce, .string cu.nm, .slice p1 n1 c1, .slice p2 n2 c2, .int .i64 x, .int .i64 z, .slice al LL.length cl, .int .u32 0, .int .i32 1, sm, .slice none 0 0, .nilFunc, .slice none 0 0] (w1.setCell ⟨b, 8, none⟩ (.int .i32 1)) := hA1.set 8 (.int .i32 1)
  have hgw : w.grownBy (w1.setCell ⟨b, 8, none⟩ (.int .i32 1)) (some b) := grown_trans (grown_of_below _ hB1) (grown_set w1 b 8 _)
  have ag1 : Agr w (w1.setCell ⟨b, 8, none⟩ (.int .i32 1)) := (Agr.below hB1).trans (agr_set hA1 hb0 8 _)
  have hms := makeStages_ok base b ge gl LE LL cu jC pe ce p1 p2 n1 c1 n2 c2 x z al cl (.int .i32 1) sm (w1.setCell ⟨b, 8, none⟩ (.int .i32 1)) (by omega) hkL hb0 hA1' (fun h => ⟨(hpe h).1, (hpe h).2.1, by have := (hpe h).2.2; simp; omega⟩) (fun h => ⟨(hal h).1, (hal h).2.1, by have := (hal h).2.2; simp; omega⟩)
    (HSE.out.keep ag1 (fun h o => hgw.cell_far ⟨ge, o, none⟩ (hpe h).2.2 (by simpa using (hpe h).2.1))) (HSL.out.keep ag1 (fun h o => hgw.cell_far ⟨gl, o, none⟩ (hal h).2.2 (by simpa using (hal h).2.1))) (hSC.agr ag1) (HEN.out.agr ag1) HIE HIL hjC hjC3 HCN
  have HM : Hid (Calls Tryz.prog 66 #[.pointer (some ⟨b, 0, none⟩)] (w1.setCell ⟨b, 8, none⟩ (.int .i32 1)) fun e w2 => e = .returned (.tuple #[]) ∧ MadeO (w1.setCell ⟨b, 8, none⟩ (.int .i32 1)) LE LL jC b (fun vE fC vL => #[.slice pe LE.length ce, .string cu.nm, .slice p1 n1 c1, .slice p2 n2 c2, .int .i64 x, .int .i64 z, .slice al LL.length cl, .int .u32 0, .int .i32 1, sm, vE, fC, vL]) w2 ∧ w2.cell? ⟨b, 7, none⟩ = some (.int .u32 0) ∧ w2.cell? ⟨b, 8, none⟩ = some (.int .i32 1) ∧ (∀ o, w2.frozen? ⟨b, o, none⟩ = false)) := hms.mono fun e w2 ⟨he, hm⟩ => by
    obtain ⟨vE, fC, vL, fE, fL, h1, h2⟩ := hm.ex
    exact ⟨he, hm, blk_cell h1 7, blk_cell h1 8, fun o => blk_frozen h1 o⟩
  clear hms
  go_wp2_with fail
  refine (do_first b w1 _ g7 g8 (blk_frozen hA1 8) HM).mono ?_
  rintro e w3 ⟨rfl, w2, hmade, _, hw3⟩
  obtain ⟨vE, fC, vL, fE, fL, hA2, hrE, hrL, haE, haL, hcO, hag2, hg2⟩ := hmade.ex
  simp only [World.size_setCell] at hrE hrL
  have hA3 : Blk b 119 #[.slice pe LE.length ce, .string cu.nm, .slice p1 n1 c1, .slice p2 n2 c2, .int .i64 x, .int .i64 z, .slice al LL.length cl, .int .u32 1, .int .i32 0, sm, vE, fC, vL] w3 := by
    rw [hw3]
    exact Blk.set (Blk.set (show Blk b 119 #[.slice pe LE.length ce, .string cu.nm, .slice p1 n1 c1, .slice p2 n2 c2, .int .i64 x, .int .i64 z, .slice al LL.length cl, .int .u32 0, .int .i32 1, sm, vE, fC, vL] w2.drew from hA2) 7 (.int .u32 1)) 8 (.int .i32 0)
  have hg3 : w2.grownBy w3 (some b) := by
    rw [hw3]
    exact grown_trans (grown_trans (⟨rfl, rfl, rfl, Nat.le_refl _, fun _ _ _ => rfl⟩ : w2.grownBy w2.drew (some b)) (grown_set _ b 7 _)) (grown_set _ b 8 _)
  have ag3 : Agr w2 w3 := Agr.of_grown hg3 (fun r o e ho hk => by
    cases e
    rw [show w2.heap[b]? = _ from hA2] at ho
    cases ho
    rcases hk with h | ⟨c, t, fz, h1, h2⟩
    · exact hb0 h
    · cases h1
      exact absurd h2 (by decide))
  have hrE3 := hrE.kept hg3 (.inr (row_ne_blk hrE hA2 (by decide)))
  have hrL3 := hrL.kept hg3 (.inr (row_ne_blk hrL hA2 (by decide)))
  have haE3 := All2.mono (RE.agr ag3) haE
  have haL3 := All2.mono (RL.agr ag3) haL
  have hcO3 := hcO.agr ag3
  have hg13 : w1.grownBy w3 (some b) := grown_trans (grown_trans (grown_set w1 b 8 (.int .i32 1)) hg2) hg3
  have hrc3 := hrowc.kept hg13 (.inr (row_ne_blk hrowc hA1 (by decide)))
  have hs3 := hg13.size
  have hgw3 : w.grownBy w3 (some b) := grown_trans (grown_of_below _ hB1) hg13
  have hrc0 : w3.ownsRow w.heap.size 38 3 (.slice ac xs.length capc) xs.length (xs.flatMap enc) := hrc3
  obtain ⟨aE, capE, hvE, _, hpE⟩ := row_form hrE3
  obtain ⟨aL, capL, hvL, _, hpL⟩ := row_form hrL3
  subst hvE hvL
  obtain ⟨bsC, hfC, hbC⟩ := hcO3.ex
  have HAE : Hid (All2 (RE w3) LE fE) := haE3
  have HAL : Hid (All2 (RL w3) LL fL) := haL3
  have HCO : Hid (COk fC jC w3) := hcO3
  have HPE : Hid (0 < LE.length → ∃ g, aE = some ⟨g, 0, none⟩ ∧ g < w3.heap.size ∧ ∀ j u, fE[j]? = some u → w3.cell? ⟨g, j, none⟩ = some u) := fun h => by
    obtain ⟨g, h1, _, h2, _, h3⟩ := hpE h
    exact ⟨g, h1, h2, h3⟩
  have HPL : Hid (0 < LL.length → ∃ g, aL = some ⟨g, 0, none⟩ ∧ g < w3.heap.size ∧ ∀ j u, fL[j]? = some u → w3.cell? ⟨g, j, none⟩ = some u) := fun h => by
    obtain ⟨g, h1, _, h2, _, h3⟩ := hpL h
    exact ⟨g, h1, h2, h3⟩
  have e10 : w3.cell? ⟨b, 10, none⟩ = some (.slice aE LE.length capE) := blk_cell hA3 10
  clear hw3 HM hmade hrE hrL haE haL hcO hA2 hag2 hg2 hg3 ag3 hrE3 hrL3 haE3 haL3 hcO3 hpE hpL hrc3 hg13 hpc hrowc hA1 hA1' hgw ag1 g7 g8 hbC HSE HSL hSC HEN hpe hal hA
  go_wp2_with fail
  go_loopw [6, 33] (fun vch i wr => ∃ (j : Nat) (ys : Ch3), i = .int .i64 (j : Int) ∧ j ≤ LE.length ∧ wr.ownsRow w.heap.size 38 3 vch ys.length (ys.flatMap enc) ∧ Hid (Pl.takeP ((LE.drop j).map (·.1)) cu (LL.map (·.1)) ys = R ∧ ys.length ≤ 120 * 8 ^ j ∧ Pl.Inv (fun _ => True) ys) ∧ Below w3.heap.size w3 wr) (fun _ i _ => LE.length - (intOf i).toNat)
  case atStart => exact ⟨0, xs, rfl, by omega, hrc0, ⟨HR.out, by simpa using hcs, HIN.out⟩, Below.refl _ _⟩
  case round =>
    obtain ⟨j, ys, rfl, hj, hrow, HY, hB5⟩ := hrel
    obtain ⟨a5, cap5, g5, hv5, hcap5, ha5, hg5, hC5⟩ := cr_form hrow
    subst hv5
    have hyl : ys.length ≤ 268435456 := by
      have h1 := HY.out.2.1
      have h2 : 8 ^ j ≤ 8 ^ 7 := Nat.pow_le_pow_right (by omega) (by omega)
      omega
    by_cases hjk : j < LE.length
    · have hjI : (j : Int) < (LE.length : Int) := by omega
      obtain ⟨gE, hgE, hgEl, hcE⟩ := HPE.out (by omega)
      obtain ⟨f, hf, hRE⟩ := HAE.out.get j hjk
      have hij := HIE.out (LE[j]) (List.getElem_mem hjk)
      have hdr : LE.drop j = LE[j] :: LE.drop (j + 1) := List.drop_eq_getElem_cons hjk
      obtain ⟨q, hq⟩ : ∃ q, LE[j] = q := ⟨_, rfl⟩
      rw [hq] at hRE hij hdr
      obtain ⟨ix, hix, hi3, hnx, hEO⟩ := hRE.agr (Agr.below hB5)
      obtain ⟨F, lb, hfF, eF, hcall⟩ := hEO.ex
      have hcell : wr.cell? ⟨gE, j, none⟩ = some f := (hB5.cell (p := ⟨gE, j, none⟩) hgEl).trans (hcE j f hf)
      have hw : SpW q.1 := by
        obtain ⟨_, _, _, _, h⟩ := hij
        exact h
      have hB6 : Below wr.heap.size wr (wr.alloc (.cells #[f] 189)) := (Below.refl _ wr).alloc (Nat.le_refl _) _
      have hcl := hcall (wr.alloc (.cells #[f] 189)) (Agr.below hB6) g5 cap5 ys a5 (hC5.below hB6 hg5) ha5 (fun h => by have := hg5 h; simp; omega) hcap5 hyl
      have hlen := Pl.eaK_len ix q.1 hw ys
      have hes : Pl.eaS q.1 ys = Pl.eaK ix q.1 ys := by rw [Pl.eaS, hnx, Pl.iS_at ix hix]
      obtain ⟨zs, hzs⟩ : ∃ zs, Pl.eaK ix q.1 ys = zs := ⟨_, rfl⟩
      rw [hzs] at hcl hlen hes
      have HZ : Hid (Pl.takeP ((LE.drop (j + 1)).map (·.1)) cu (LL.map (·.1)) zs = R ∧ zs.length ≤ 120 * 8 ^ (j + 1) ∧ Pl.Inv (fun _ => True) zs) := by
        obtain ⟨h1, h2, h3⟩ := HY.out
        rw [hdr] at h1
        refine ⟨?_, ?_, ?_⟩
        · rw [← h1, ← hes]; rfl
        · rw [Nat.pow_succ]; omega
        · rw [← hzs]
          exact Pl.eaK_inv h3 ix q.1 hw
      have HCL : Hid (Calls Tryz.prog F (#[.slice a5 ys.length cap5] ++ lb) (wr.alloc (.cells #[f] 189)) fun e w' => ∃ v, e = .returned v ∧ w'.ownsRow (wr.alloc (.cells #[f] 189)).heap.size 38 3 v zs.length (zs.flatMap enc) ∧ Below (wr.alloc (.cells #[f] 189)).heap.size (wr.alloc (.cells #[f] 189)) w') := hcl
      subst hfF hgE
      clear hcl hcall hEO hRE hij hnx hzs hes hlen hdr hq HY hcE
      go_wp2_with fail
      refine HCL.out.mono ?_
      rintro e w6 ⟨v6, rfl, hr6, hB7⟩
      have hB8 : Below w3.heap.size w3 w6 := hB5.trans ((hB6.trans (hB7.mono (by simp))).mono hB5.size)
      have hs5 := hB5.size
      have hsw := hgw3.size
      have hr7 := ownsRow_low (base' := w.heap.size) hr6 (by simp; omega)
      obtain ⟨a7, cap7, hv7, _, _⟩ := row_form hr7
      subst hv7
      go_wp2_with fail
      go_roundw
      case rel => exact ⟨j + 1, zs, by go_num, by omega, hr7, HZ, hB8⟩
      case measure => simp [intOf]; omega
    · have hjI : ¬ (j : Int) < (LE.length : Int) := by omega
      have hj0 : LE.drop j = [] := List.drop_of_length_le (by omega)
      obtain ⟨hR0, hyl0, hiv⟩ := HY.out
      rw [hj0] at hR0
      have hic : Pl.iS cu.nm = jC := by rw [HCN.out]; exact Pl.iS_at jC hjC
      have hR1 : Pl.lateAll (LL.map (·.1)) (Pl.toksC ys 0 (Pl.pcs jC ys)) = R := by rw [← hic]; exact hR0
      have hTI : Pl.TkI (fun _ => True) 268435456 (Pl.toksC ys 0 (Pl.pcs jC ys)) := by
        have := Pl.cutC_inv hiv cu 268435456 hyl
        rw [Pl.cutC, hic] at this
        exact this
      have e11 : wr.cell? ⟨b, 11, none⟩ = some fC := (hB5.cell (p := ⟨b, 11, none⟩) (by have := hgw3.size; show b < _; omega)).trans (blk_cell hA3 11)
      have e12 : w3.cell? ⟨b, 12, none⟩ = some (.slice aL LL.length capL) := blk_cell hA3 12
      have hcl := cut_ok jC (by have : Pl.starts.length = 6 := by decide +kernel
                                omega) hjC3 fC wr (HCO.out.agr (Agr.below hB5)) g5 cap5 ys a5 hC5 ha5 hg5 hcap5 hyl (cdx_inv hiv.ok)
      have hlt := Pl.toksC_length ys 0 (Pl.pcs jC ys)
      have het := Pl.toks_eq ys 0 (Pl.pcs jC ys)
      rw [het] at hcl
      rw [← hlt] at hcl
      obtain ⟨tz, htz⟩ : ∃ tz, Pl.toksC ys 0 (Pl.pcs jC ys) = tz := ⟨_, rfl⟩
      rw [htz] at hcl hR1 hTI
      have HCL : Hid (Calls Tryz.prog 67 #[.slice a5 ys.length cap5, .agg #[fC]] wr fun e W' => ((tz.length ≤ 300 ∧ ∃ v, e = .returned (.tuple #[v, .bool true]) ∧ W'.ownsRow wr.heap.size 27 4 v tz.length ((tz.map Pl.tkC).flatMap tenc)) ∨ (300 < tz.length ∧ e = .returned (.tuple #[.slice none 0 0, .bool false]))) ∧ Below wr.heap.size wr W') := hcl
      have HR1 : Hid (Pl.lateAll (LL.map (·.1)) tz = R) := hR1
      have HTI : Hid (Pl.TkI (fun _ => True) 268435456 tz) := hTI
      clear hcl hlt het htz hR1 hTI hic hR0 hyl0 hiv hj0 HY HR HCS HIN HAE HPE HIE HCO hfC hrow hrc0
      go_wp2_with fail
      refine HCL.out.mono ?_
      rintro e w4 ⟨hres, hB4⟩
      have hs5 := hB5.size
      have hsw := hgw3.size
      have hB34 : Below w3.heap.size w3 w4 := hB5.trans (hB4.mono hs5)
      have hs4 := hB34.size
      have hgw4 : w.grownBy w4 (some b) := grown_trans hgw3 (grown_of_below _ hB34)
      have e12' : w4.cell? ⟨b, 12, none⟩ = some (.slice aL LL.length capL) := (hB34.cell (p := ⟨b, 12, none⟩) (by show b < _; omega)).trans e12
      have HPL4 : Hid (0 < LL.length → ∃ g, aL = some ⟨g, 0, none⟩ ∧ g < w4.heap.size ∧ ∀ j u, fL[j]? = some u → w4.cell? ⟨g, j, none⟩ = some u) := fun h => by
        obtain ⟨g, h1, h2, h3⟩ := HPL.out h
        exact ⟨g, h1, by omega, fun j u hu => (hB34.cell (p := ⟨g, j, none⟩) h2).trans (h3 j u hu)⟩
      have HAL4 : Hid (All2 (RL w4) LL fL) := All2.mono (RL.agr (Agr.below hB34)) HAL.out
      obtain ⟨tv, okv, rfl, hst⟩ : ∃ tv okv, e = .returned (.tuple #[tv, okv]) ∧ LtR w.heap.size LL R w4 tv okv (.int .i64 0) w4 := by
        rcases hres with ⟨h3, v, rfl, hr⟩ | ⟨h3, rfl⟩
        · exact ⟨_, _, rfl, ⟨.inl ⟨0, tz, rfl, by omega, rfl, ownsRow_low hr (by omega), HR1.out, h3, HTI.out, Below.refl _ _⟩⟩⟩
        · refine ⟨_, _, rfl, ⟨.inr ⟨0, rfl, by omega, rfl, ?_, rfl, Below.refl _ _⟩⟩⟩
          rw [← HR1.out]
          exact lateAll_many h3
      clear hres HCL HR1 HTI HPL HAL hC5 ha5 hg5 hcap5 hyl e11 e12
      go_wp2_with fail
      go_loopw [10, 11, 56] (fun tk ok i wr => LtR w.heap.size LL R w4 tk ok i wr) (fun _ _ i _ => LL.length - (intOf i).toNat)
      case atStart => exact hst
      case round =>
        rcases hrel.ex with ⟨j, ts, rfl, hj, rfl, hrow, hR, h300, hTI, hB5⟩ | ⟨j, rfl, hj, rfl, hR, rfl, hB5⟩
        · have HRR : Hid (Pl.lateAll ((LL.drop j).map (·.1)) ts = R) := hR
          clear hR hrel hst
          by_cases hjk : j < LL.length
          · have hjI : (j : Int) < (LL.length : Int) := by omega
            obtain ⟨gL, hgL, hgLl, hcL⟩ := HPL4.out (by omega)
            obtain ⟨f, hf, hRL⟩ := HAL4.out.get j hjk
            have hij := HIL.out (LL[j]) (List.getElem_mem hjk)
            have hdr : LL.drop j = LL[j] :: LL.drop (j + 1) := List.drop_eq_getElem_cons hjk
            obtain ⟨q, hq⟩ : ∃ q, LL[j] = q := ⟨_, rfl⟩
            rw [hq] at hRL hij hdr
            obtain ⟨ix, hix, hnx, hLO⟩ := hRL.agr (Agr.below hB5)
            obtain ⟨F, lb, hfF, eF, hcall⟩ := hLO.ex
            have hw : SpW q.1 := by
              obtain ⟨_, _, _, h⟩ := hij
              exact h
            have hcell : wr.cell? ⟨gL, j, none⟩ = some f := (hB5.cell (p := ⟨gL, j, none⟩) hgLl).trans (hcL j f hf)
            have hB6 : Below wr.heap.size wr (wr.alloc (.cells #[f] 194)) := (Below.refl _ wr).alloc (Nat.le_refl _) _
            obtain ⟨a5, cap5, g5, hv5, ha5, hg5, hT5⟩ := tr_form (xs := ts.map Pl.tkC) (by rw [List.length_map]; exact hrow)
            subst hv5
            have hes : ∀ cs, Pl.laS q.1 cs = Pl.laK ix q.1 cs := fun cs => by rw [Pl.laS, hnx, Pl.iL_at ix hix]
            have hHT : ∀ (k : Nat) (hk : k < (ts.map Pl.tkC).length) (W : World), Below (wr.alloc (.cells #[f] 194)).heap.size (wr.alloc (.cells #[f] 194)) W → CallsIn Fence.wide (8 - 1) Tryz.prog F (#[.string ((ts.map Pl.tkC)[k]).1] ++ lb) W fun e W' => ∃ gf lb, e = .returned (.func (.func gf) #[] lb) ∧ Below W.heap.size W W' ∧ (∀ args w, (callFunc gf args).run Tryz.prog w = .ok (.enter gf args) w) ∧
                ∀ B, (wr.alloc (.cells #[f] 194)).heap.size ≤ B → B < W.heap.size → SeqStopsO Fence.wide (8 - 1) Tryz.prog gf lb encs1 (KeepO B 27) (fun ys => ys = (fun x => (Pl.laS q.1 (Pl.dc x)).map Pl.en) ((ts.map Pl.tkC)[k]).1) (fun pre => pre <+: (fun x => (Pl.laS q.1 (Pl.dc x)).map Pl.en) ((ts.map Pl.tkC)[k]).1) 10995116277760 W' := fun k hk W hW => by
              have hk' : k < ts.length := by simpa using hk
              have ek : ((ts.map Pl.tkC)[k]).1 = Pl.en (ts[k]).1 := by rw [List.getElem_map]; rfl
              obtain ⟨o1, o2, o3, _⟩ := hTI.ok _ (List.getElem_mem hk')
              rw [ek]
              simp only [Pl.dc_en _ o1, hes]
              have hz : (Pl.en (ts[k]).1).size ≤ 1099511627776 := by
                rw [Pl.en_size]
                have := (Pl.eb_le (ts[k]).1).2
                omega
              refine (hcall W ((Agr.below hB6).trans (Agr.below hW)) _ o1 hz).mono ?_
              rintro e W' ⟨gf, lb', a1, a2, a3, a4⟩
              exact ⟨gf, lb', a1, a2, a3, fun B hB hB2 => a4 B (by simp at hB; omega) hB2⟩
            have hch := callsIn_wide.1 (changeO_in 10995116277760 8 (by omega) F lb eF g5 cap5 (ts.map Pl.tkC) a5 ha5 (wr.alloc (.cells #[f] 194)) (fun h => by have := hg5 h; simp; omega) (hT5.below hB6 hg5) (by simpa using h300) (fun x => (Pl.laS q.1 (Pl.dc x)).map Pl.en) hHT)
            rw [Pl.chg_eq q.1 ts (fun t ht => (hTI.ok t ht).1), List.length_map] at hch
            have hTI2 := Pl.lgC_inv hTI q.1 hw
            have HR2 : Hid (Pl.TkI (fun _ => True) (268435456 + 8 * (j + 1)) (Pl.lgC q.1 ts) ∧ Pl.lateAll ((LL.drop (j + 1)).map (·.1)) (Pl.lgC q.1 ts) = R) := by
              refine ⟨by rw [show 268435456 + 8 * (j + 1) = 268435456 + 8 * j + 8 by omega]; exact hTI2, ?_⟩
              have h1 := HRR.out
              rw [hdr, List.map_cons, Pl.lateAll, if_pos h300] at h1
              exact h1
            obtain ⟨zs, hzs⟩ : ∃ zs, Pl.lgC q.1 ts = zs := ⟨_, rfl⟩
            rw [hzs] at hch HR2
            rw [List.length_map] at hch
            have HCH : Hid (Calls Tryz.prog 68 #[.slice a5 ts.length cap5, .agg #[f]] (wr.alloc (.cells #[f] 194)) fun e W' => ((zs.length ≤ 300 ∧ ∃ v, e = .returned (.tuple #[v, .bool true]) ∧ W'.ownsRow (wr.alloc (.cells #[f] 194)).heap.size 27 4 v zs.length ((zs.map Pl.tkC).flatMap tenc)) ∨ (300 < zs.length ∧ e = .returned (.tuple #[.slice none 0 0, .bool false]))) ∧ Below (wr.alloc (.cells #[f] 194)).heap.size (wr.alloc (.cells #[f] 194)) W') := by rw [← hfF] at hch; exact hch
            have hlm : (ts.map Pl.tkC).length = ts.length := List.length_map _
            rw [hlm]
            subst hgL hfF
            clear hch hHT hcall hLO hRL hij hnx hes hzs hTI2 hTI HRR hdr hq hcL hT5 hrow eF hlm ha5 hg5
            go_wp2_with fail
            refine HCH.out.mono ?_
            rintro e w6 ⟨hres, hB7⟩
            have hB8 : Below w4.heap.size w4 w6 := hB5.trans ((hB6.trans (hB7.mono (by simp))).mono hB5.size)
            have hs6 := hB5.size
            obtain ⟨tv6, okv6, rfl, hst6⟩ : ∃ tv okv, e = .returned (.tuple #[tv, okv]) ∧ LtR w.heap.size LL R w4 tv okv (.int .i64 ((j + 1 : Nat) : Int)) w6 := by
              rcases hres with ⟨h3, v, rfl, hr⟩ | ⟨h3, rfl⟩
              · exact ⟨_, _, rfl, ⟨.inl ⟨j + 1, zs, rfl, by omega, rfl, ownsRow_low hr (by simp; omega), HR2.out.2, h3, HR2.out.1, hB8⟩⟩⟩
              · refine ⟨_, _, rfl, ⟨.inr ⟨j + 1, rfl, by omega, rfl, ?_, rfl, hB8⟩⟩⟩
                rw [← HR2.out.2]
                exact lateAll_many h3
            clear hres HCH HR2
            go_wp2_with fail
            go_roundw
            case rel => exact (show LtR _ _ _ _ _ _ (.int .i64 ((j : Int) + 1)) _ from hst6)
            case measure => simp [intOf]; omega
          · have hjI : ¬ (j : Int) < (LL.length : Int) := by omega
            have hfin : w.grownBy wr (some b) := grown_trans hgw4 (grown_of_below _ hB5)
            have hR : some ts = R := by
              have h1 := HRR.out
              rw [List.drop_of_length_le (by omega), List.map_nil, Pl.lateAll, if_pos h300] at h1
              exact h1
            obtain ⟨a5, cap5, hv5, _, _⟩ := row_form hrow
            subst hv5
            have hfi : TakO R w.heap.size (.returned (.tuple #[.slice a5 ts.length cap5, .int .i64 0])) wr := ⟨.inl ⟨ts, _, hR.symm, rfl, hrow⟩⟩
            clear HRR hR hrow hTI
            go_wp2_with fail
            go_ret2
            exact ⟨hfi, hfin⟩
        · have hfin : w.grownBy wr (some b) := grown_trans hgw4 (grown_of_below _ hB5)
          have HRN : Hid (R = none) := hR
          clear hR hrel hst
          by_cases hjk : j < LL.length
          · have hjI : (j : Int) < (LL.length : Int) := by omega
            obtain ⟨gL, hgL, hgLl, hcL⟩ := HPL4.out (by omega)
            obtain ⟨f, hf, hRL⟩ := HAL4.out.get j hjk
            obtain ⟨ix, hix, _, hLO⟩ := hRL.agr (Agr.below hB5)
            obtain ⟨F, lb, hfF, _, _⟩ := hLO.ex
            have hcell : wr.cell? ⟨gL, j, none⟩ = some f := (hB5.cell (p := ⟨gL, j, none⟩) hgLl).trans (hcL j f hf)
            subst hgL hfF
            clear hcL hLO hRL
            go_wp2_with fail
            go_ret2
            exact ⟨⟨.inr ⟨HRN.out, rfl⟩⟩, grown_trans hfin (grown_of_below _ ((Below.refl _ wr).alloc (Nat.le_refl _) _))⟩
          · have hjI : ¬ (j : Int) < (LL.length : Int) := by omega
            go_wp2_with fail
            go_ret2
            exact ⟨⟨.inr ⟨HRN.out, rfl⟩⟩, hfin⟩

end Go.Proofs.YtcmgclckknpecaaGreatDoor

/- What the reader reads keeps to the bounds that the stages need; where characters begin and end. -/
namespace Go.Proofs.YtcmgclckknpecaaGreatDoor
namespace Pl

theorem lets_in (s : ByteArray) : ∀ m a j, a ≤ j → j < lets s m a → byteIn s 97 122 j = true
  | 0, a, j, h1, h2 => by simp only [lets] at h2; omega
  | m + 1, a, j, h1, h2 => by
    rw [lets] at h2
    split at h2
    · rename_i hb
      by_cases h : j = a
      · rw [h]; exact hb
      · exact lets_in s m (a + 1) j (by omega) h2
    · omega
theorem lets_max (s : ByteArray) : ∀ m a, lets s m a ≤ a + m
  | 0, a => Nat.le_refl _
  | m + 1, a => by
    rw [lets]
    split
    · have := lets_max s m (a + 1); omega
    · omega
theorem bt_get (s : ByteArray) (i : Nat) (h : i < s.size) : bt s i = (s[i]).toNat := by
  simp [bt, h]
theorem wordC_size (s : ByteArray) (a : Nat) (ha : a ≤ s.size) : (wordC s a).size = (word s a).2 - a := by
  have := lets_fits s 8 a ha
  unfold wordC
  rw [ByteArray.size_extract]
  show min (lets s 8 a) s.size - a = lets s 8 a - a
  omega
theorem wordC_asc (s : ByteArray) (a : Nat) (ha : a ≤ s.size) : Asc (wordC s a) := by
  intro i hi
  have hz := wordC_size s a ha
  have hlt : a + i < lets s 8 a := by
    have : (word s a).2 = lets s 8 a := rfl
    omega
  obtain ⟨h1, h2, h3⟩ := byteIn_lt (lets_in s 8 a (a + i) (by omega) hlt)
  have e : (wordC s a)[i] = s[a + i] := by
    unfold wordC
    exact ByteArray.getElem_extract (by simpa [wordC] using hi)
  rw [e]
  rw [bt_get s _ h1] at h3
  omega
theorem asc_data {s : ByteArray} (h : Asc s) : ∀ x ∈ s.data.toList, x.toNat < 128 := by
  intro x hx
  obtain ⟨i, hi, rfl⟩ := List.mem_iff_getElem.1 hx
  have hi' : i < s.size := by rw [Array.length_toList] at hi; exact hi
  exact h i hi'
theorem rowC_len {α : Type} (s : ByteArray) (item : Nat → Bool × Nat) (cont : Nat → α) : ∀ m a, (rowC s item cont m a).length ≤ m
  | 0, _ => Nat.le_refl _
  | m + 1, a => by
    rw [rowC]
    split
    · have := rowC_len s item cont m ((item a).2 + 1)
      simp only [List.length_cons]; omega
    · simp
theorem rowC_mem {α : Type} (s : ByteArray) (item : Nat → Bool × Nat) (cont : Nat → α) : ∀ m a c, a ≤ s.size → lst s item m a = (true, c) → ∀ x ∈ rowC s item cont m a, ∃ a', a' ≤ s.size ∧ (item a').1 = true ∧ x = cont a'
  | 0, a, c, _, h, x, hx => by simp [rowC] at hx
  | m + 1, a, c, ha, h, x, hx => by
    rw [lst, thenP] at h
    have h1 : (item a).1 = true := by
      split at h
      · assumption
      · simp at h
    rw [if_pos h1] at h
    rw [rowC] at hx
    rcases List.mem_cons.1 hx with rfl | hx
    · exact ⟨a, ha, h1, rfl⟩
    · split at hx
      · rename_i hb
        rw [if_pos hb] at h
        have := (byteIn_lt hb).1
        exact rowC_mem s item cont m _ c (by omega) h x hx
      · simp at hx
theorem spW_of (s : ByteArray) (hm : s.size ≤ 80) (y : ByteArray) (k b c : Nat) (hb : b ≤ s.size) (h : body s k b = (true, c)) : SpW (spC s y k b) := by
  refine ⟨?_, ?_, ?_, ?_⟩
  · simp only [spC]
    split
    · have := rowC_len s (word s) (wordC s) (s.size + 1) b
      unfold wordsC; omega
    · simp
  · simp only [spC]
    split
    · have := rowC_len s (pairP s) (pairC s) (s.size + 1) b
      unfold pairsC; omega
    · simp
  · intro p hp
    simp only [spC] at hp
    split at hp
    · rename_i hk
      rw [body, if_pos hk] at h
      obtain ⟨a, ha, h1, rfl⟩ := rowC_mem s (pairP s) (pairC s) _ b c hb h p hp
      rw [pairP, thenP] at h1
      have w1 : (word s a).1 = true := by
        split at h1
        · assumption
        · simp at h1
      rw [if_pos w1, thenP] at h1
      have s1 : (sign s 61 (word s a).2).1 = true := by
        split at h1
        · assumption
        · simp at h1
      rw [if_pos s1] at h1
      have hs : (word s a).2 < s.size ∧ (sign s 61 (word s a).2).2 = (word s a).2 + 1 := by
        unfold sign at s1 ⊢
        split at s1
        · rename_i hbb
          rw [if_pos hbb]
          exact ⟨(byteIn_lt hbb).1, rfl⟩
        · simp at s1
      rw [hs.2] at h1
      have z1 : a < lets s 8 a := of_decide_eq_true w1
      have z2 : (word s a).2 + 1 < lets s 8 ((word s a).2 + 1) := of_decide_eq_true h1
      have y1 := wordC_size s a ha
      have y2 := wordC_size s ((word s a).2 + 1) (by omega)
      have m2 := lets_max s 8 ((word s a).2 + 1)
      have q1 : (word s a).2 = lets s 8 a := rfl
      have q2 : (word s ((word s a).2 + 1)).2 = lets s 8 ((word s a).2 + 1) := rfl
      refine ⟨wordC_asc s a ha, asc_data (wordC_asc s _ (by omega)), ?_, ?_, ?_⟩
      · show 1 ≤ (wordC s a).size; omega
      · show 1 ≤ (wordC s ((word s a).2 + 1)).size; omega
      · show (wordC s ((word s a).2 + 1)).size ≤ 8; omega
    · simp at hp
  · simp only [spC]
    split
    · rename_i hk
      subst hk
      simp only [body, bnds] at h
      have hq : byteIn s 49 57 b = true := by
        by_cases hq : byteIn s 49 57 b = true
        · exact hq
        · simp [hq] at h
      rw [if_neg (by omega), if_neg (by omega), if_pos trivial, if_pos hq, thenP] at h
      have s1 : (sign s 44 (b + 1)).1 = true := by
        split at h
        · assumption
        · simp at h
      rw [if_pos s1] at h
      have hs : (sign s 44 (b + 1)).2 = b + 2 := by
        unfold sign at s1 ⊢
        split at s1
        · rename_i hbb
          rw [if_pos hbb]
        · simp at s1
      rw [hs] at h
      have hz : byteIn s (bt s b) 57 (b + 2) = true := by
        by_cases hz : byteIn s (bt s b) 57 (b + 2) = true
        · exact hz
        · simp [hz] at h
      have := (byteIn_lt hz).2.2
      show bt s (b + 2) - 48 ≤ 9
      omega
    · simp

/-- The borders of characters. -/
def bdr (xs : Ch3) (p : Nat) : Prop := p = 0 ∨ ∃ x ∈ xs, x.2.2 = p
theorem cs_ch (g : Nat → Nat) (n : Nat) : ∀ m i p (hp : p < (cs g n m i).length), (p = 0 → ((cs g n m i)[p]).2.1 = i) ∧ (∀ q (hq : q < (cs g n m i).length), p = q + 1 → ((cs g n m i)[p]).2.1 = ((cs g n m i)[q]).2.2) ∧ ((cs g n m i)[p]).2.1 < ((cs g n m i)[p]).2.2 ∧ i ≤ ((cs g n m i)[p]).2.1
  | 0, i, p, hp => by simp [cs] at hp
  | m + 1, i, p, hp => by
    by_cases hi : i < n
    · have e : cs g n (m + 1) i = (code (fun j => g (i + j)) (n - i), i, i + size (fun j => g (i + j)) (n - i)) :: cs g n m (i + size (fun j => g (i + j)) (n - i)) := by rw [cs, if_pos hi]
      have hsz := size_ge (fun j => g (i + j)) (n - i)
      have ih := cs_ch g n m (i + size (fun j => g (i + j)) (n - i))
      simp only [e] at hp ⊢
      cases p with
      | zero => exact ⟨fun _ => rfl, fun q _ h => by omega, by show i < i + _; omega, Nat.le_refl _⟩
      | succ p =>
        have hp' : p < (cs g n m (i + size (fun j => g (i + j)) (n - i))).length := by simpa using hp
        obtain ⟨a1, a2, a3, a4⟩ := ih p hp'
        simp only [List.getElem_cons_succ]
        refine ⟨fun h => by omega, fun q hq h => ?_, a3, by omega⟩
        cases q with
        | zero => exact a1 (by omega)
        | succ q => exact a2 q (by simpa using hq) (by omega)
    · have e : cs g n (m + 1) i = [] := by rw [cs, if_neg hi]
      simp [e] at hp
theorem cs_inv (s : ByteArray) (xs : Ch3) (h : cs (bt s) s.size s.size 0 = xs) : Inv (bdr xs) xs := by
  have hc := cs_ch (bt s) s.size s.size 0
  have ho := cs_ok s s.size 0
  rw [h] at hc ho
  refine ⟨ho, fun p hp => ?_, ?_⟩
  · rw [(frx_get hp).1, (frx_get hp).2]
    obtain ⟨a1, a2, a3, _⟩ := hc p hp
    refine ⟨?_, .inr ⟨_, List.getElem_mem hp, rfl⟩, a3⟩
    cases p with
    | zero => exact .inl (a1 rfl)
    | succ p => exact .inr ⟨_, List.getElem_mem (by omega : p < xs.length), (a2 p (by omega) rfl).symm⟩
  · intro p q hpq
    induction q with
    | zero => intro hq; obtain rfl : p = 0 := by omega
              exact Nat.le_refl _
    | succ q ih =>
      intro hq
      by_cases e : p = q + 1
      · rw [e]; exact Nat.le_refl _
      · have := ih (by omega) (by omega)
        have a := hc (q + 1) hq
        have b := hc q (by omega)
        rw [(frx_get hq).1, a.2.1 q (by omega) rfl]
        rw [(frx_get (by omega : q < xs.length)).1] at this
        have := b.2.2.1
        omega
theorem Inv.weak {b b' : Nat → Prop} {xs : Ch3} (h : Inv b xs) (hb : ∀ p, b p → b' p) : Inv b' xs := ⟨h.ok, fun p hp => ⟨hb _ (h.pt p hp).1, hb _ (h.pt p hp).2.1, (h.pt p hp).2.2⟩, h.mo⟩
end Pl
end Go.Proofs.YtcmgclckknpecaaGreatDoor
