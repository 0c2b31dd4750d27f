import Derived.Test.YtcmgclckknpecaaGreatDoorHra
import Derived.Test.YtcmgclckknpecaaGreatDoorPpl
import Derived.Deep.AppendLies
import Derived.Test.YtcmgclckknpecaaGreatDoorLeafs
import Derived.WalkKit
import Derived.Test.YtcmgclckknpecaaGreatDoorHgh
import Derived.Deep.RegionHeld3
import Derived.Deep.RegionLaw
import Derived.BigRegion
import Derived.Test.YtcmgclckknpecaaGreatDoorGrc
import Derived.Lib.Strings

/- The document's own side: rows of codes and of tokens in memory, and what leaves them. -/
namespace Go.Proofs.YtcmgclckknpecaaGreatDoor
open Go.RowKit

/-- Rows of whole numbers stay as they are. -/
structure Kp (w w' : World) : Prop where
  b : ∀ (g : Nat) (cur : Array Value), w.heap[g]? = some (Obj.cells cur 3 (0, 0)) → w'.heap[g]? = some (Obj.cells cur 3 (0, 0))
theorem Kp.refl (w : World) : Kp w w := ⟨fun _ _ h => h⟩
theorem Kp.trans {a b c : World} (h : Kp a b) (k : Kp b c) : Kp a c := ⟨fun g cur e => k.b g cur (h.b g cur e)⟩
theorem Kp.of_below {n : Nat} {w w' : World} (h : Below n w w') (hn : w.heap.size ≤ n) : Kp w w' :=
  ⟨fun g _ e => (h.block g (Nat.lt_of_lt_of_le (Array.getElem?_eq_some_iff.1 e).1 hn)).trans e⟩
theorem Kp.alloc (w : World) (o : Obj) : Kp w (w.alloc o) := Kp.of_below ((Below.refl w.heap.size w).alloc (Nat.le_refl _) o) (Nat.le_refl _)
theorem Kp.of_grown {w w' : World} {base : Nat} {t : TypeId} {sz n : Nat} {v : Value} {xs : List Value} (h : w.ownsRow base t sz v n xs) (ht : t ≠ 3) (hg : w.grownBy w' v.ownBlock) : Kp w w' := by
  refine ⟨fun g cur e => (hg.block g (Array.getElem?_eq_some_iff.1 e).1 fun hs => ?_).trans e⟩
  rcases h.2 with ⟨rfl, _⟩ | ⟨g', cap, c2, rfl, _, hh, _⟩
  · simp [Value.ownBlock] at hs
  · have : g = g' := by simpa [Value.ownBlock] using hs
    subst this
    rw [e] at hh
    injection hh with hh
    injection hh with _ h2 _
    exact ht h2.symm
def iv (c : Nat) : Value := .int .i64 (c : Int)
/-- A slice of codes in memory. -/
structure CoR (w : World) (sv : Value) (cs : List Nat) : Prop where
  r : w.ownsRow 0 3 1 sv cs.length (cs.map iv)
theorem CoR.kp {w w' : World} {sv : Value} {cs : List Nat} (h : CoR w sv cs) (hk : Kp w w') : CoR w' sv cs := by
  refine ⟨h.r.1, ?_⟩
  rcases h.r.2 with h | ⟨g, cap, cur, hv, hg, hh, r⟩
  · exact .inl h
  · exact .inr ⟨g, cap, cur, hv, hg, hk.b _ _ hh, r⟩
theorem CoR.of_own {w : World} {base : Nat} {sv : Value} {n : Nat} {cs : List Nat} (h : w.ownsRow base 3 1 sv n (cs.map iv)) : CoR w sv cs ∧ n = cs.length := by
  have hn : n = cs.length := by have := h.1; simp at this; omega
  subst hn
  refine ⟨⟨h.1, ?_⟩, rfl⟩
  rcases h.2 with h | ⟨g, cap, cur, hv, hg, hh, r⟩
  · exact .inl h
  · exact .inr ⟨g, cap, cur, hv, Nat.zero_le _, hh, r⟩
theorem CoR.co {w : World} {sv : Value} {cs : List Nat} (h : CoR w sv cs) : ∃ a cap g, sv = .slice a cs.length cap ∧ Co g cs w ∧ (0 < cs.length → a = some ⟨g, 0, none⟩) ∧ (0 < cs.length → g < w.heap.size) := by
  rcases h.r.2 with ⟨rfl, hn⟩ | ⟨g, cap, cur, hv, _, hh, _, _, _, ht⟩
  · exact ⟨none, 0, 0, by rw [hn], ⟨fun i hi => by omega⟩, fun h => by omega, fun h => by omega⟩
  · refine ⟨some ⟨g, 0, none⟩, cap, g, hv, ⟨fun i hi => ?_⟩, fun _ => rfl, fun _ => (Array.getElem?_eq_some_iff.1 hh).1⟩
    have h1 : (cur.toList.take (cs.length * 1))[i]? = some (iv (cs[i])) := by rw [ht]; simp [hi]
    rw [List.getElem?_take_of_lt (by omega)] at h1
    have h2 : cur[i]? = some (iv (cs[i])) := by simpa using h1
    simp [World.cell?, hh, h2, iv]

/-- A token with the slice that holds its codes. -/
abbrev Tu := Value × List Nat × Nat × Nat × Nat
def enc4 (u : Tu) : List Value := [u.1, .int .i64 (u.2.2.1 : Int), .int .i64 (u.2.2.2.1 : Int), .int .i64 (u.2.2.2.2 : Int)]
theorem enc4_len : ∀ us : List Tu, (us.flatMap enc4).length = us.length * 4
  | [] => rfl
  | x :: r => by rw [List.flatMap_cons, List.length_append, enc4_len r]; simp [enc4]; omega
theorem enc4_snoc (us : List Tu) (u : Tu) : (us ++ [u]).flatMap enc4 = us.flatMap enc4 ++ enc4 u := by simp [List.flatMap_append]
/-- A row of tokens in memory. -/
structure Tkr (base : Nat) (v : Value) (ts : List Pl.Tc) (w : World) : Prop where
  r : ∃ us : List Tu, us.map (·.2) = ts ∧ w.ownsRow base 128 4 v us.length (us.flatMap enc4) ∧ ∀ u ∈ us, CoR w u.1 u.2.1
theorem Tkr.nil (base : Nat) (w : World) : Tkr base (.slice none 0 0) [] w := ⟨[], rfl, World.ownsRow_nil _ _ _ _, by simp⟩
theorem Tkr.below {base : Nat} {v : Value} {ts : List Pl.Tc} {w w' : World} (h : Tkr base v ts w) (hb : Below w.heap.size w w') : Tkr base v ts w' := by
  obtain ⟨us, h1, h2, h3⟩ := h.r
  exact ⟨us, h1, ownsRow_below h2 hb, fun u hu => (h3 u hu).kp (Kp.of_below hb (Nat.le_refl _))⟩
theorem Tkr.len {base : Nat} {v : Value} {ts : List Pl.Tc} {w : World} (h : Tkr base v ts w) : ∃ a cap, v = .slice a ts.length cap := by
  obtain ⟨us, rfl, h2, h3⟩ := h.r
  rcases h2.2 with ⟨rfl, hn⟩ | ⟨g, cap, cur, rfl, _⟩
  · exact ⟨none, 0, by simp [hn]⟩
  · exact ⟨some ⟨g, 0, none⟩, cap, by simp⟩
theorem Tkr.base {b b' : Nat} {v : Value} {ts : List Pl.Tc} {w : World} (h : Tkr b v ts w) (hb : b' ≤ b) : Tkr b' v ts w := by
  obtain ⟨us, h1, h2, h3⟩ := h.r
  refine ⟨us, h1, ⟨h2.1, ?_⟩, h3⟩
  rcases h2.2 with h | ⟨g, cap, cur, hv, hg, r⟩
  · exact .inl h
  · exact .inr ⟨g, cap, cur, hv, Nat.le_trans hb hg, r⟩
/-- Token k's four cells. -/
theorem Tkr.at {base : Nat} {v : Value} {ts : List Pl.Tc} {w : World} (h : Tkr base v ts w) {k : Nat} (hk : k < ts.length) : ∃ g cap sv, v = .slice (some ⟨g, 0, none⟩) ts.length cap ∧ base ≤ g ∧ g < w.heap.size ∧
    w.cell? ⟨g, k * 4, none⟩ = some sv ∧ w.cell? ⟨g, k * 4 + 1, none⟩ = some (.int .i64 ((ts[k]).2.1 : Int)) ∧ w.cell? ⟨g, k * 4 + 2, none⟩ = some (.int .i64 ((ts[k]).2.2.1 : Int)) ∧ w.cell? ⟨g, k * 4 + 3, none⟩ = some (.int .i64 ((ts[k]).2.2.2 : Int)) ∧ CoR w sv (ts[k]).1 := by
  obtain ⟨us, rfl, h2, h3⟩ := h.r
  have hk' : k < us.length := by simpa using hk
  rcases h2.2 with ⟨rfl, hn⟩ | ⟨g, cap, cur, rfl, hb, hh, _, _, _, ht⟩
  · omega
  · have hc : ∀ j, j < 4 → w.cell? ⟨g, k * 4 + j, none⟩ = (enc4 (us[k]))[j]? := fun j hj => by
      have e1 : (us.flatMap enc4)[k * 4 + j]? = (enc4 (us[k]))[j]? := by
        rename_i hx1 hx2 hx3
        clear hx1 hx2 hx3 ht h2 h3 hk h
        induction us generalizing k with
        | nil => simp at hk'
        | cons u r ih =>
          rw [List.flatMap_cons]
          cases k with
          | zero => rw [List.getElem?_append_left (by simp [enc4]; omega)]; simp
          | succ k =>
            rw [List.getElem?_append_right (by simp [enc4]; omega)]
            have := ih (k := k) (by simpa using hk')
            rw [show (k + 1) * 4 + j - (enc4 u).length = k * 4 + j by simp [enc4]; omega]
            simpa using this
      have h4 : k * 4 + j < us.length * 4 := by omega
      have h1 : (cur.toList.take (us.length * 4))[k * 4 + j]? = (enc4 (us[k]))[j]? := by rw [ht, e1]
      rw [List.getElem?_take_of_lt h4] at h1
      have h5 : cur[k * 4 + j]? = (enc4 (us[k]))[j]? := by simpa using h1
      simp [World.cell?, hh, h5]
    have e : (us.map (·.2))[k] = (us[k]).2 := by simp
    refine ⟨g, cap, (us[k]).1, by simp, hb, (Array.getElem?_eq_some_iff.1 hh).1, ?_, ?_, ?_, ?_, ?_⟩
    · have := hc 0 (by omega); simpa [enc4] using this
    · rw [hc 1 (by omega), e]; simp [enc4]
    · rw [hc 2 (by omega), e]; simp [enc4]
    · rw [hc 3 (by omega), e]; simp [enc4]
    · rw [e]; exact h3 _ (List.getElem_mem hk')
end Go.Proofs.YtcmgclckknpecaaGreatDoor

/- The document's own types. -/
namespace Go.Proofs.YtcmgclckknpecaaGreatDoor
open Go.RowKit
theorem info283 : (Tryz.prog.info? 283).map (fun i => (i.zero, i.size, i.bytes)) = some (some (.agg #[.int .i64 0, .int .i64 0, .int .i64 0]), 3, 24) := by kernel_rfl
theorem info3 : (Tryz.prog.info? 3).map (fun i => (i.zero, i.size, i.bytes)) = some (some (.int .i64 0), 1, 8) := by kernel_rfl
theorem info128 : (Tryz.prog.info? 128).map (fun i => (i.zero, i.size, i.bytes)) = some (some (.agg #[.slice none 0 0, .int .i64 0, .int .i64 0, .int .i64 0]), 4, 48) := by kernel_rfl
theorem info287 : (Tryz.prog.info? 287).map (fun i => (i.zero, i.size, i.bytes)) = some (some (.agg #[.string ⟨#[]⟩, .string ⟨#[]⟩]), 2, 32) := by kernel_rfl
theorem info207 : (Tryz.prog.info? 207).map (fun i => (i.zero, i.size, i.bytes)) = some (some (.agg #[.string ⟨#[]⟩, .slice none 0 0, .slice none 0 0, .int .i64 0, .int .i64 0]), 5, 80) := by kernel_rfl
end Go.Proofs.YtcmgclckknpecaaGreatDoor

/- The document's own side: a token of characters. -/
namespace Go.Proofs.YtcmgclckknpecaaGreatDoor
open Go.RowKit

theorem Blk.four {b : Nat} {t : TypeId} {v0 v1 v2 v3 : Value} {W : World} (h : Blk b t #[v0, v1, v2, v3] W) : (W.cell? ⟨b, 0, none⟩ = some v0 ∧ W.cell? ⟨b, 1, none⟩ = some v1 ∧ W.cell? ⟨b, 2, none⟩ = some v2 ∧ W.cell? ⟨b, 3, none⟩ = some v3) ∧ (∀ o, W.frozen? ⟨b, o, none⟩ = false) := by
  unfold Blk at h
  simp [World.cell?, World.frozen?, h]
theorem Blk.f0 {b : Nat} {t : TypeId} {v0 v1 v2 v3 : Value} {W : World} (h : Blk b t #[v0, v1, v2, v3] W) (u : Value) : Blk b t #[u, v1, v2, v3] (W.setCell ⟨b, 0, none⟩ u) := heap_set W b 0 u _ t h
theorem Blk.f1 {b : Nat} {t : TypeId} {v0 v1 v2 v3 : Value} {W : World} (h : Blk b t #[v0, v1, v2, v3] W) (u : Value) : Blk b t #[v0, u, v2, v3] (W.setCell ⟨b, 1, none⟩ u) := heap_set W b 1 u _ t h
theorem Blk.f2 {b : Nat} {t : TypeId} {v0 v1 v2 v3 : Value} {W : World} (h : Blk b t #[v0, v1, v2, v3] W) (u : Value) : Blk b t #[v0, v1, u, v3] (W.setCell ⟨b, 2, none⟩ u) := heap_set W b 2 u _ t h
theorem Blk.f3 {b : Nat} {t : TypeId} {v0 v1 v2 v3 : Value} {W : World} (h : Blk b t #[v0, v1, v2, v3] W) (u : Value) : Blk b t #[v0, v1, v2, u] (W.setCell ⟨b, 3, none⟩ u) := heap_set W b 3 u _ t h
theorem res139 {tmps : Array Value} {w : World} {b : Nat} {v0 v1 v2 v3 : Value} (hp : tmps[8]? = some (.pointer (some ⟨b, 0, none⟩))) (h : Blk b 128 #[v0, v1, v2, v3] w) :
    (results Tryz.f139 tmps).run Tryz.prog w = .ok (.agg #[v0, v1, v2, v3]) w := by
  obtain ⟨⟨c0, c1, c2, c3⟩, _⟩ := h.four
  simp [results, Tryz.results139, go_sem, hp, c0, c1, c2, c3]
theorem Pl.sub_snoc (xs : List (Nat × Nat × Nat)) (i q : Nat) (hiq : i ≤ q) (hq : q < xs.length) : (Pl.sub xs i (q + 1 - i)).map (·.1) = (Pl.sub xs i (q - i)).map (·.1) ++ [Pl.cdx xs q] := by
  unfold Pl.sub
  rw [show q + 1 - i = (q - i) + 1 by omega, List.take_add_one, List.map_append, List.getElem?_drop, show i + (q - i) = q by omega, List.getElem?_eq_getElem hq, Pl.cdx_eq hq]
  rfl
set_option maxRecDepth 100000 in
set_option maxHeartbeats 2000000 in
theorem rtoken_any' (g cap : Nat) (xs : List (Nat × Nat × Nat)) (i p pos : Nat) (w : World) (hC : Cr g 0 xs w) (hg : g < w.heap.size) (hik : i ≤ p) (hk : p < xs.length) (hl : xs.length ≤ 268435456) :
    Calls Tryz.prog 139 #[.slice (some ⟨g, 0, none⟩) xs.length cap, .int .i64 (i : Int), .int .i64 ((p : Int) + 1), .int .i64 (pos : Int)] w fun e w' => ∃ sv, e = .returned (.agg #[sv, .int .i64 (pos : Int), .int .i64 (Pl.frx xs i : Int), .int .i64 (Pl.tox xs p : Int)]) ∧ CoR w' sv ((Pl.sub xs i (p + 1 - i)).map (·.1)) ∧ Below w.heap.size w w' := by
  obtain ⟨i0, hi, hz0, hz1, hz2⟩ := info_parts info3
  obtain ⟨_, a1, _⟩ := hC.c i (by omega)
  obtain ⟨_, _, b2⟩ := hC.c p (by omega)
  have hF : Pl.frx xs i = (xs[i]).2.1 := by simp [Pl.frx, show i < xs.length by omega]
  have hT : Pl.tox xs p = (xs[p]).2.2 := by simp [Pl.tox, hk]
  rw [← hF, Nat.zero_add] at a1
  rw [← hT, Nat.zero_add] at b2
  obtain ⟨F, hF2⟩ : ∃ F, Pl.frx xs i = F := ⟨_, rfl⟩
  obtain ⟨T, hT2⟩ : ∃ T, Pl.tox xs p = T := ⟨_, rfl⟩
  rw [hF2] at a1 ⊢
  rw [hT2] at b2 ⊢
  clear hF hT hF2 hT2
  have hiI : (i : Int) < (xs.length : Int) := by omega
  have hkI : (p : Int) < (xs.length : Int) := by omega
  have hw1 : IntKind.i64.wrap (p : Int) = (p : Int) := by rw [IntKind.wrap_i64]; omega
  go_enter Tryz.func139, Tryz.ntmps139
  go_wp2_with fail
  go_region_held3 (fun w' => w'.cell? ⟨g, i * 3 + 1, none⟩ = some (.int .i64 (F : Int)) ∧ w'.cell? ⟨g, p * 3 + 2, none⟩ = some (.int .i64 (T : Int))) (first | go_keep) (fail)
  go_wp2_with fail
  go_loopw [10] (fun jv wr => ∃ (q : Nat) (sv : Value), jv = .int .i64 (q : Int) ∧ i ≤ q ∧ q ≤ p + 1 ∧ Blk w.heap.size 128 #[.slice none 0 0, .int .i64 0, .int .i64 0, .int .i64 0] wr ∧ Blk (w.heap.size + 1) 128 #[sv, .int .i64 (pos : Int), .int .i64 (F : Int), .int .i64 (T : Int)] wr ∧ wr.ownsRow w.heap.size 3 1 sv (q - i) (((Pl.sub xs i (q - i)).map (·.1)).map iv) ∧ Below w.heap.size w wr) (fun jv _ => p + 1 - (intOf jv).toNat)
  case atStart =>
    refine ⟨i, .slice none 0 0, rfl, by omega, by omega, ?_, ?_, by rw [Nat.sub_self]; exact World.ownsRow_nil _ _ _ _, ((((Below.refl _ w).alloc (Nat.le_refl _) _).alloc (by simp) _)).drew⟩
    · have h : Blk w.heap.size 128 #[.slice none 0 0, .int .i64 0, .int .i64 0, .int .i64 0] (w.alloc (.cells #[.slice none 0 0, .int .i64 0, .int .i64 0, .int .i64 0] 128)) := heap_alloc_new w _
      exact h.alloc _
    · have h := heap_alloc_new (w.alloc (.cells #[.slice none 0 0, .int .i64 0, .int .i64 0, .int .i64 0] 128)) (.cells #[.slice none 0 0, .int .i64 (pos : Int), .int .i64 (F : Int), .int .i64 (T : Int)] 128)
      rw [World.size_alloc] at h
      exact h
  case round =>
    obtain ⟨q, sv, rfl, hiq, hqk, hres, hblk, hrow, hB⟩ := hrel
    have hs1 := hB.size
    have hbl := hblk.lt
    by_cases hlt : q < p + 1
    · have hltI : (q : Int) < (p : Int) + 1 := by omega
      have hqI : (q : Int) < (xs.length : Int) := by omega
      obtain ⟨⟨t0, t1, t2, t3⟩, tf⟩ := hblk.four
      have q0 := (hC.below hB fun _ => hg).code (k := q) (by omega)
      rw [Nat.zero_add] at q0
      have HT : Hid ((Pl.sub xs i (q + 1 - i)).map (·.1) = (Pl.sub xs i (q - i)).map (·.1) ++ [Pl.cdx xs q]) := Pl.sub_snoc xs i q hiq (by omega)
      obtain ⟨d, hd⟩ : ∃ d, Pl.cdx xs q = d := ⟨_, rfl⟩
      rw [hd] at q0 HT
      have hne : sv.ownBlock ≠ some (w.heap.size + 1) := row_ne_blk hrow hblk (by decide)
      have hne0 : sv.ownBlock ≠ some w.heap.size := row_ne_blk hrow hres (by decide)
      have hq1 : q + 1 - i = q - i + 1 := by omega
      have HK : Hid (∀ o w3, ((wr.alloc o).drew).grownBy w3 sv.ownBlock → Blk w.heap.size 128 #[.slice none 0 0, .int .i64 0, .int .i64 0, .int .i64 0] w3 ∧ Blk (w.heap.size + 1) 128 #[sv, .int .i64 (pos : Int), .int .i64 (F : Int), .int .i64 (T : Int)] w3) := fun o w3 hgw =>
        ⟨Blk.keep (show Blk w.heap.size 128 #[.slice none 0 0, .int .i64 0, .int .i64 0, .int .i64 0] ((wr.alloc o).drew) from hres.alloc o) hgw hne0, Blk.keep (show Blk (w.heap.size + 1) 128 #[sv, .int .i64 (pos : Int), .int .i64 (F : Int), .int .i64 (T : Int)] ((wr.alloc o).drew) from hblk.alloc o) hgw hne⟩
      clear hd
      go_wp2_with fail
      go_region_law
        ((refine step_append_lies _ (by rfl) _ _ _ (by rfl) w.heap.size 3 i0 _ 1 8 Tryz.underlying55 hi hz0 hz1 hz2 rfl (by omega) sv (q - i) (((Pl.sub xs i (q - i)).map (·.1)).map iv) (by rfl) ((hrow.alloc _).drew) ⟨wr.heap.size, 0, none⟩ 1 1 [.int .i64 (d : Int)] (by rfl) (by rfl) (World.news_of_block (cs := #[.int .i64 (d : Int)]) (t := 3) (fr := (0, 0)) (heap_alloc_new wr _)) (by simp [Value.oneCell']) (by omega) (by unfold maxLen; omega) (by omega) (by simp; omega) (wr.heap.size + 1) (by simp) ?_; intro gn capn w3 hown1 hgrow hat hlt1; obtain ⟨hr3, hb3⟩ := HK.out _ _ hgrow; obtain ⟨⟨j0, j1, j2, j3⟩, jf⟩ := hb3.four; have jf0 := jf 0; clear jf))
      all_goals
        go_wp2
        have hB3 : Below w.heap.size w w3 := Below.grown ((hB.alloc hs1 _).drew) hgrow (by simp; omega) fun j ej => (ownBlock_lt hrow ej).2
        refine ⟨⟨q + 1, _, by go_num, by omega, by omega, ?_, hb3.f0 _, ?_, hB3.setCell (p := ⟨w.heap.size + 1, 0, none⟩) (Nat.le_succ _) _⟩, by simp [intOf]; omega⟩
        · exact hr3.setO (by omega) 0 _
        · rw [HT.out, hq1, List.map_append]
          exact ownsRow_set_other hown1 (row_ne_blk hown1 hb3 (by decide)) 0 _
    · have hltI : ¬ (q : Int) < (p : Int) + 1 := by omega
      obtain rfl : q = p + 1 := by omega
      obtain ⟨⟨t0, t1, t2, t3⟩, tf⟩ := hblk.four
      obtain ⟨⟨r0, r1, r2, r3⟩, rf⟩ := hres.four
      obtain ⟨va, vc, vg, rfl, _⟩ := (CoR.of_own hrow).1.co
      obtain ⟨vn, hvn⟩ : ∃ n, ((Pl.sub xs i (p + 1 - i)).map (·.1)).length = n := ⟨_, rfl⟩
      rw [hvn] at hrow hblk t0
      go_wp2_with fail
      have g1 := ownsRow_set_other hrow (row_ne_blk hrow hres (by decide)) 0 (.slice va vn vc)
      have b1 := hres.f0 (.slice va vn vc)
      have g2 := ownsRow_set_other g1 (row_ne_blk g1 b1 (by decide)) 1 (.int .i64 (pos : Int))
      have b2 := b1.f1 (.int .i64 (pos : Int))
      have g3 := ownsRow_set_other g2 (row_ne_blk g2 b2 (by decide)) 2 (.int .i64 (F : Int))
      have b3 := b2.f2 (.int .i64 (F : Int))
      have g4 := ownsRow_set_other g3 (row_ne_blk g3 b3 (by decide)) 3 (.int .i64 (T : Int))
      have b4 := b3.f3 (.int .i64 (T : Int))
      refine bodyPost_ret (res139 rfl b4) rfl ?_
      refine ⟨_, rfl, (CoR.of_own g4).1, ?_⟩
      exact (((hB.setCell (p := ⟨w.heap.size, 0, none⟩) (Nat.le_refl _) _).setCell (p := ⟨w.heap.size, 1, none⟩) (Nat.le_refl _) _).setCell (p := ⟨w.heap.size, 2, none⟩) (Nat.le_refl _) _).setCell (p := ⟨w.heap.size, 3, none⟩) (Nat.le_refl _) _
theorem rtoken_any (g cap : Nat) (xs : List (Nat × Nat × Nat)) (i k pos : Nat) (w : World) (hC : Cr g 0 xs w) (hg : g < w.heap.size) (hik : i < k) (hk : k ≤ xs.length) (hl : xs.length ≤ 268435456) :
    Calls Tryz.prog 139 #[.slice (some ⟨g, 0, none⟩) xs.length cap, .int .i64 (i : Int), .int .i64 (k : Int), .int .i64 (pos : Int)] w fun e w' => ∃ sv, e = .returned (.agg #[sv, .int .i64 (pos : Int), .int .i64 (Pl.frx xs i : Int), .int .i64 (Pl.tox xs (k - 1) : Int)]) ∧ CoR w' sv ((Pl.sub xs i (k - i)).map (·.1)) ∧ Below w.heap.size w w' := by
  obtain ⟨p, rfl⟩ : ∃ p, k = p + 1 := ⟨k - 1, by omega⟩
  have := rtoken_any' g cap xs i p pos w hC hg (by omega) (by omega) hl
  rw [Nat.add_sub_cancel]
  exact this
end Go.Proofs.YtcmgclckknpecaaGreatDoor

/- The document's own side: its kinds of characters. -/
namespace Go.Proofs.YtcmgclckknpecaaGreatDoor
open Go.RowKit

theorem pl_wit (c a b : Nat) : Pl.wit c a b = decide (a ≤ c ∧ c ≤ b) := by simp [Pl.wit]
set_option maxHeartbeats 1000000 in
theorem rdig_any (c : Nat) (w : World) : Calls Tryz.prog 226 #[.int .i64 (c : Int)] w fun e w' => e = .returned (.bool (Pl.isDig c)) ∧ w' = w := by
  go_enter Tryz.func226, Tryz.ntmps226
  go_wp2_with fail
  all_goals go_ret
  all_goals refine ⟨ret_bool ?_, rfl⟩
  all_goals (rw [Bool.eq_iff_iff]; simp only [Pl.isDig, pl_wit, decide_eq_true_eq, Bool.false_eq_true, false_iff] at *; omega)
set_option maxHeartbeats 1000000 in
theorem rsgn_any (c : Nat) (w : World) : Calls Tryz.prog 223 #[.int .i64 (c : Int)] w fun e w' => e = .returned (.bool (Pl.isSgn c)) ∧ w' = w := by
  go_enter Tryz.func223, Tryz.ntmps223
  go_wp2_with fail
  all_goals go_ret
  all_goals refine ⟨ret_bool ?_, rfl⟩
  all_goals (rw [Bool.eq_iff_iff]; simp only [Pl.isSgn, pl_wit, decide_eq_true_eq, Bool.false_eq_true, false_iff] at *; omega)
set_option maxHeartbeats 1000000 in
theorem rmrk_any (c : Nat) (w : World) : Calls Tryz.prog 224 #[.int .i64 (c : Int)] w fun e w' => e = .returned (.bool (Pl.isMrk c)) ∧ w' = w := by
  go_enter Tryz.func224, Tryz.ntmps224
  go_wp2_with fail
  all_goals go_ret
  all_goals refine ⟨ret_bool ?_, rfl⟩
  all_goals (rw [Bool.eq_iff_iff]; simp only [Pl.isMrk, pl_wit, decide_eq_true_eq, Bool.false_eq_true, false_iff] at *; omega)
set_option maxHeartbeats 1000000 in
theorem rblk_any (c : Nat) (w : World) : Calls Tryz.prog 222 #[.int .i64 (c : Int)] w fun e w' => e = .returned (.bool (Pl.isBlk c)) ∧ w' = w := by
  go_enter Tryz.func222, Tryz.ntmps222
  go_wp2_with fail
  all_goals go_ret
  all_goals refine ⟨ret_bool ?_, rfl⟩
  all_goals (rw [Bool.eq_iff_iff]; simp only [Pl.isBlk, Bool.or_eq_true, decide_eq_true_eq, beq_iff_eq, true_iff] at *; first | done | omega)
theorem isLet_iff (c : Nat) : Pl.isLet c = true ↔ ((65 ≤ c ∧ c ≤ 90) ∨ (97 ≤ c ∧ c ≤ 122) ∨ (192 ≤ c ∧ c ≤ 255 ∧ c ≠ 215 ∧ c ≠ 247) ∨ (913 ≤ c ∧ c ≤ 969 ∧ c ≠ 930) ∨ (1040 ≤ c ∧ c ≤ 1103)) := by
  unfold Pl.isLet
  split
  · simp only [Bool.false_eq_true, false_iff]; omega
  · simp only [pl_wit, Bool.or_eq_true, decide_eq_true_eq]; omega
theorem isCap_iff (c : Nat) : Pl.isCap c = true ↔ ((65 ≤ c ∧ c ≤ 90) ∨ (192 ≤ c ∧ c ≤ 222 ∧ c ≠ 215) ∨ (913 ≤ c ∧ c ≤ 937 ∧ c ≠ 930) ∨ (1040 ≤ c ∧ c ≤ 1071)) := by
  unfold Pl.isCap
  split
  · simp only [Bool.false_eq_true, false_iff]; omega
  · simp only [pl_wit, Bool.or_eq_true, decide_eq_true_eq]; omega
set_option maxHeartbeats 1000000 in
theorem rlet_any (c : Nat) (w : World) : Calls Tryz.prog 225 #[.int .i64 (c : Int)] w fun e w' => e = .returned (.bool (Pl.isLet c)) ∧ w' = w := by
  go_enter Tryz.func225, Tryz.ntmps225
  go_wp2_with fail
  all_goals go_ret
  all_goals refine ⟨ret_bool ?_, rfl⟩
  all_goals (rw [Bool.eq_iff_iff, isLet_iff])
  all_goals (first | (simp only [true_iff]; omega) | (simp only [Bool.false_eq_true, false_iff]; omega) | (simp only [decide_eq_true_eq]; omega) | (simp_all; omega))
set_option maxHeartbeats 1000000 in
theorem rsml_any (c : Nat) (hc : c ≤ 67108863) (w : World) : Calls Tryz.prog 140 #[.int .i64 (c : Int)] w fun e w' => e = .returned (.int .i64 (Pl.sml c : Int)) ∧ w' = w := by
  have hw : wrap64 ((c : Int) + 32) = (c : Int) + 32 := by unfold wrap64; omega
  go_enter Tryz.func140, Tryz.ntmps140
  go_wp2_with fail
  all_goals go_ret
  all_goals refine ⟨?_, rfl⟩
  all_goals first
    | (have hp : Pl.isCap c = true := (isCap_iff c).2 (by omega)
       rw [Pl.sml, if_pos hp]; simp)
    | (have hn : ¬ Pl.isCap c = true := fun h => by have := (isCap_iff c).1 h; omega
       rw [Pl.sml, if_neg hn]; done)
    | (have hn : ¬ Pl.isCap c = true := fun h => by have := (isCap_iff c).1 h; omega
       rw [Pl.sml, if_neg hn]; simp_all; done)
    | (have hp : Pl.isCap c = true := (isCap_iff c).2 (by simp_all; omega)
       rw [Pl.sml, if_pos hp]; simp)
    | (have hn : ¬ Pl.isCap c = true := fun h => by have := (isCap_iff c).1 h; simp_all; omega
       rw [Pl.sml, if_neg hn])
end Go.Proofs.YtcmgclckknpecaaGreatDoor

/- The document's own side: is a term among words? -/
namespace Go.Proofs.YtcmgclckknpecaaGreatDoor
open Go.RowKit

/-- A row of texts in memory. -/
structure Tx (g : Nat) (ws : List ByteArray) (w : World) : Prop where
  c : ∀ i (h : i < ws.length), w.cell? ⟨g, i, none⟩ = some (.string (ws[i]))
def Pl.amg (x : ByteArray) : List ByteArray → Bool
  | [] => false
  | y :: r => if y = x then true else Pl.amg x r
set_option maxRecDepth 100000 in
set_option maxHeartbeats 1000000 in
theorem rin_any (g cap : Nat) (ws : List ByteArray) (a : Option Addr) (x : ByteArray) (w : World) (hT : Tx g ws w) (ha : 0 < ws.length → a = some ⟨g, 0, none⟩) (hl : ws.length ≤ 1000) (r : Bool) (HR : Hid (Pl.amg x ws = r)) :
    Calls Tryz.prog 143 #[.slice a ws.length cap, .string x] w fun e w' => e = .returned (.bool r) ∧ w' = w := by
  go_enter Tryz.func143, Tryz.ntmps143
  go_wp2_with fail
  go_loopw [5] (fun i wr => ∃ j : Nat, i = .int .i64 (j : Int) ∧ j ≤ ws.length ∧ Hid (Pl.amg x (ws.drop j) = r) ∧ wr = w) (fun i _ => ws.length - (intOf i).toNat)
  case atStart => exact ⟨0, rfl, by omega, HR, rfl⟩
  case round =>
    obtain ⟨j, rfl, hj, HJ, hw⟩ := hrel
    subst hw
    by_cases hjl : j < ws.length
    · have hjI : (j : Int) < (ws.length : Int) := by omega
      obtain rfl := ha (by omega)
      have hc := hT.c j hjl
      have hd : ws.drop j = ws[j] :: ws.drop (j + 1) := List.drop_eq_getElem_cons hjl
      obtain ⟨y, hy⟩ : ∃ y, ws[j] = y := ⟨_, rfl⟩
      rw [hy] at hc hd
      have hJ := HJ.out
      rw [hd, Pl.amg] at hJ
      clear hd hy
      by_cases hyx : y = x
      · subst hyx
        rw [if_pos rfl] at hJ
        subst hJ
        go_wp2_with fail
        go_ret
        exact ⟨rfl, rfl⟩
      · rw [if_neg hyx] at hJ
        have HJ2 : Hid (Pl.amg x (ws.drop (j + 1)) = r) := hJ
        clear hJ
        go_wp2_with fail
        · exfalso
          rename_i hno
          rw [ByteArray.toList_eq, ByteArray.toList_eq, beq_iff_eq] at hno
          exact hyx (ByteArray.ext (Array.toList_inj.1 hno))
        exact ⟨⟨j + 1, by go_num, by omega, HJ2, by trivial⟩, by simp [intOf]; omega⟩
    · have hjI : ¬ (j : Int) < (ws.length : Int) := by omega
      have hJ := HJ.out
      rw [List.drop_of_length_le (by omega)] at hJ
      have hr : r = false := hJ.symm
      subst hr
      go_wp2_with fail
      go_ret
      exact ⟨rfl, rfl⟩
end Go.Proofs.YtcmgclckknpecaaGreatDoor
