import Derived.Test.YtcmgclckknpecaaGreatDoorHrb
import Derived.Test.YtcmgclckknpecaaGreatDoorHgi
import Derived.Lib.Strings
import Derived.Test.YtcmgclckknpecaaGreatDoorHgg
import Derived.Deep.RegionHeld3

/- The document's own side: what a late stage makes of a token. -/
namespace Go.Proofs.YtcmgclckknpecaaGreatDoor
open Go.RowKit

theorem Tkr.one {base : Nat} {sv : Value} {cs : List Nat} {pos F T : Nat} {w : World} (hb : base ≤ w.heap.size) (h : CoR w sv cs) :
    Tkr base (.slice (some ⟨w.heap.size, 0, none⟩) 1 1) [(cs, pos, F, T)] (w.alloc (.cells #[sv, .int .i64 (pos : Int), .int .i64 (F : Int), .int .i64 (T : Int)] 128)) := by
  refine ⟨[(sv, cs, pos, F, T)], rfl, ⟨rfl, .inr ⟨w.heap.size, 1, #[sv, .int .i64 (pos : Int), .int .i64 (F : Int), .int .i64 (T : Int)], rfl, hb, heap_alloc_new w _, Nat.le_refl _, by decide, rfl, rfl⟩⟩, ?_⟩
  intro u hu
  obtain rfl := List.mem_singleton.1 hu
  exact h.kp (Kp.alloc w _)
set_option maxRecDepth 100000 in
set_option maxHeartbeats 4000000 in
theorem rlen_any (cs : List Nat) (sa : Option Addr) (sc pos F T A B : Nat) (wa pa : Option Addr) (wn wc pn pc : Nat) (w : World) (hco : CoR w (.slice sa cs.length sc) cs) :
    Calls Tryz.prog 80 #[.agg #[.slice sa cs.length sc, .int .i64 (pos : Int), .int .i64 (F : Int), .int .i64 (T : Int)], .agg #[.string ⟨#[108, 101, 110]⟩, .slice wa wn wc, .slice pa pn pc, .int .i64 (A : Int), .int .i64 (B : Int)]] w fun e w' => ∃ v, e = .returned v ∧ Tkr w.heap.size v ((if A ≤ cs.length ∧ cs.length ≤ B then [cs] else []).map fun u => (u, pos, F, T)) w' ∧ Below w.heap.size w w' := by
  obtain ⟨w0, hw0⟩ : ∃ w0, (w.alloc (.cells #[.slice sa cs.length sc, .int .i64 (pos : Int), .int .i64 (F : Int), .int .i64 (T : Int)] 128)).alloc (.cells #[.string ⟨#[108, 101, 110]⟩, .slice wa wn wc, .slice pa pn pc, .int .i64 (A : Int), .int .i64 (B : Int)] 207) = w0 := ⟨_, rfl⟩
  have hT : Blk w.heap.size 128 #[.slice sa cs.length sc, .int .i64 (pos : Int), .int .i64 (F : Int), .int .i64 (T : Int)] w0 := by
    rw [← hw0]
    have h : Blk w.heap.size 128 #[.slice sa cs.length sc, .int .i64 (pos : Int), .int .i64 (F : Int), .int .i64 (T : Int)] (w.alloc (.cells #[.slice sa cs.length sc, .int .i64 (pos : Int), .int .i64 (F : Int), .int .i64 (T : Int)] 128)) := heap_alloc_new w _
    exact h.alloc _
  have hS : Blk (w.heap.size + 1) 207 #[.string ⟨#[108, 101, 110]⟩, .slice wa wn wc, .slice pa pn pc, .int .i64 (A : Int), .int .i64 (B : Int)] w0 := by
    rw [← hw0]
    have h := heap_alloc_new (w.alloc (.cells #[.slice sa cs.length sc, .int .i64 (pos : Int), .int .i64 (F : Int), .int .i64 (T : Int)] 128)) (.cells #[.string ⟨#[108, 101, 110]⟩, .slice wa wn wc, .slice pa pn pc, .int .i64 (A : Int), .int .i64 (B : Int)] 207)
    rw [World.size_alloc] at h
    exact h
  have hB0 : Below w.heap.size w w0 := by rw [← hw0]; exact ((Below.refl _ w).alloc (Nat.le_refl _) _).alloc (by simp) _
  have hsz0 : w0.heap.size = w.heap.size + 2 := by rw [← hw0]; simp
  have hco0 := hco.kp (Kp.of_below hB0 (Nat.le_refl _))
  go_enter Tryz.func80, Tryz.ntmps80
  by_cases h1 : A ≤ cs.length
  · have h1I : ¬ (cs.length : Int) < (A : Int) := by omega
    by_cases h2 : cs.length ≤ B
    · have h2I : ¬ (B : Int) < (cs.length : Int) := by omega
      rw [if_pos ⟨h1, h2⟩]
      obtain ⟨⟨t0, t1, t2, t3⟩, tf⟩ := hT.four
      obtain ⟨s0, s1, s2, s3, s4, sf⟩ := hS.five
      go_wp2_with fail
      go_ret
      have ho := Tkr.one (base := w.heap.size) (w := w0) (pos := pos) (F := F) (T := T) (by omega) hco0
      rw [hsz0] at ho
      exact ⟨_, rfl, ho, hB0.alloc (by omega) _⟩
    · have h2I : (B : Int) < (cs.length : Int) := by omega
      rw [if_neg (fun h => h2 h.2)]
      obtain ⟨⟨t0, t1, t2, t3⟩, tf⟩ := hT.four
      obtain ⟨s0, s1, s2, s3, s4, sf⟩ := hS.five
      go_wp2_with fail
      go_ret
      exact ⟨_, rfl, Tkr.nil _ _, hB0⟩
  · have h1I : (cs.length : Int) < (A : Int) := by omega
    rw [if_neg (fun h => h1 h.1)]
    obtain ⟨⟨t0, t1, t2, t3⟩, tf⟩ := hT.four
    obtain ⟨s0, s1, s2, s3, s4, sf⟩ := hS.five
    go_wp2_with fail
    go_ret
    exact ⟨_, rfl, Tkr.nil _ _, hB0⟩
set_option maxRecDepth 100000 in
set_option maxHeartbeats 4000000 in
theorem rlow_any (cs : List Nat) (sa : Option Addr) (sc pos F T A B : Nat) (wa pa : Option Addr) (wn wc pn pc : Nat) (w : World) (hco : CoR w (.slice sa cs.length sc) cs) (hok : ∀ c ∈ cs, Pl.okc c) (hl : cs.length ≤ 300000000) :
    Calls Tryz.prog 80 #[.agg #[.slice sa cs.length sc, .int .i64 (pos : Int), .int .i64 (F : Int), .int .i64 (T : Int)], .agg #[.string ⟨#[108, 111, 119]⟩, .slice wa wn wc, .slice pa pn pc, .int .i64 (A : Int), .int .i64 (B : Int)]] w fun e w' => ∃ v, e = .returned v ∧ Tkr w.heap.size v ([cs.map Pl.sml].map fun u => (u, pos, F, T)) w' ∧ Below w.heap.size w w' := by
  obtain ⟨w0, hw0⟩ : ∃ w0, (w.alloc (.cells #[.slice sa cs.length sc, .int .i64 (pos : Int), .int .i64 (F : Int), .int .i64 (T : Int)] 128)).alloc (.cells #[.string ⟨#[108, 111, 119]⟩, .slice wa wn wc, .slice pa pn pc, .int .i64 (A : Int), .int .i64 (B : Int)] 207) = w0 := ⟨_, rfl⟩
  have hT : Blk w.heap.size 128 #[.slice sa cs.length sc, .int .i64 (pos : Int), .int .i64 (F : Int), .int .i64 (T : Int)] w0 := by
    rw [← hw0]
    have h : Blk w.heap.size 128 #[.slice sa cs.length sc, .int .i64 (pos : Int), .int .i64 (F : Int), .int .i64 (T : Int)] (w.alloc (.cells #[.slice sa cs.length sc, .int .i64 (pos : Int), .int .i64 (F : Int), .int .i64 (T : Int)] 128)) := heap_alloc_new w _
    exact h.alloc _
  have hS : Blk (w.heap.size + 1) 207 #[.string ⟨#[108, 111, 119]⟩, .slice wa wn wc, .slice pa pn pc, .int .i64 (A : Int), .int .i64 (B : Int)] w0 := by
    rw [← hw0]
    have h := heap_alloc_new (w.alloc (.cells #[.slice sa cs.length sc, .int .i64 (pos : Int), .int .i64 (F : Int), .int .i64 (T : Int)] 128)) (.cells #[.string ⟨#[108, 111, 119]⟩, .slice wa wn wc, .slice pa pn pc, .int .i64 (A : Int), .int .i64 (B : Int)] 207)
    rw [World.size_alloc] at h
    exact h
  have hB0 : Below w.heap.size w w0 := by rw [← hw0]; exact ((Below.refl _ w).alloc (Nat.le_refl _) _).alloc (by simp) _
  have hsz0 : w0.heap.size = w.heap.size + 2 := by rw [← hw0]; simp
  have hco0 := hco.kp (Kp.of_below hB0 (Nat.le_refl _))
  obtain ⟨i0, hi, hz0, hz1, hz2⟩ := info_parts info3
  obtain ⟨ca, cc, cg, hsv, hC, hca, hcg⟩ := hco0.co
  obtain ⟨rfl, _, rfl⟩ : sa = ca ∧ cs.length = cs.length ∧ sc = cc := by injection hsv with a b c; exact ⟨a, b, c⟩
  clear hsv
  have hU0 : Blk w0.heap.size 128 #[.slice none 0 0, .int .i64 (pos : Int), .int .i64 (F : Int), .int .i64 (T : Int)] (w0.alloc (.cells #[.slice none 0 0, .int .i64 (pos : Int), .int .i64 (F : Int), .int .i64 (T : Int)] 128)) := heap_alloc_new w0 _
  have hBU : Below w0.heap.size w0 (w0.alloc (.cells #[.slice none 0 0, .int .i64 (pos : Int), .int .i64 (F : Int), .int .i64 (T : Int)] 128)) := (Below.refl _ w0).alloc (Nat.le_refl _) _
  go_enter Tryz.func80, Tryz.ntmps80
  obtain ⟨⟨t0, t1, t2, t3⟩, tf⟩ := hT.four
  obtain ⟨s0, s1, s2, s3, s4, sf⟩ := hS.five
  go_wp2_with fail
  go_loopw [6] (fun iv_ wr => ∃ (q : Nat) (uv : Value), iv_ = .int .i64 (q : Int) ∧ q ≤ cs.length ∧ Blk w0.heap.size 128 #[uv, .int .i64 (pos : Int), .int .i64 (F : Int), .int .i64 (T : Int)] wr ∧ wr.ownsRow w0.heap.size 3 1 uv q (((cs.take q).map Pl.sml).map iv) ∧ Below w0.heap.size w0 wr) (fun iv_ _ => cs.length - (intOf iv_).toNat)
  case atStart => exact ⟨0, .slice none 0 0, rfl, by omega, by first | exact hU0 | (rw [hsz0] at hU0; exact hU0), World.ownsRow_nil _ _ _ _, hBU⟩
  case round =>
    clear hU0 hBU t0 t1 t2 t3 tf s0 s1 s2 s3 s4 sf hw0
    obtain ⟨q, uv, rfl, hq, hU, hrow, h2⟩ := hrel
    obtain ⟨w2, hw2⟩ : ∃ w2, w2 = wr := ⟨_, rfl⟩
    subst hw2
    have hs2 := h2.size
    have hUl := hU.lt
    have hT2 := hT.below h2
    obtain ⟨⟨a0, a1, a2, a3⟩, af⟩ := hT2.four
    obtain ⟨⟨u0, u1, u2, u3⟩, uf⟩ := hU.four
    rw [hsz0] at u0 u1 u2 u3 uf hUl
    have hTl := hT2.lt
    by_cases hql : q < cs.length
    · have hqI : (q : Int) < (cs.length : Int) := by omega
      obtain rfl := hca (by omega)
      have c0 := (hC.below h2 (fun h => hcg h)).c q hql
      have hokd := hok _ (List.getElem_mem hql)
      obtain ⟨d, hd⟩ : ∃ d, cs[q] = d := ⟨_, rfl⟩
      have HD : Hid ((cs.take (q + 1)).map Pl.sml = (cs.take q).map Pl.sml ++ [Pl.sml d]) := by
        show _ = _; rw [List.take_succ_eq_append_getElem hql, List.map_append, hd]; rfl
      rw [hd] at c0 hokd
      clear hd
      have hneU : uv.ownBlock ≠ some w0.heap.size := row_ne_blk hrow hU (by decide)
      have HSM : Hid (∀ w, Calls Tryz.prog 140 #[.int .i64 (d : Int)] w fun e w' => e = .returned (.int .i64 (Pl.sml d : Int)) ∧ w' = w) := fun w => rsml_any d (by unfold Pl.okc at hokd; omega) w
      have HK : Hid (∀ o w3, ((w2.alloc o).drew).grownBy w3 uv.ownBlock → Blk (w.heap.size + 2) 128 #[uv, .int .i64 (pos : Int), .int .i64 (F : Int), .int .i64 (T : Int)] w3) := fun o w3 hgw => by
        have := Blk.keep (show Blk w0.heap.size 128 #[uv, .int .i64 (pos : Int), .int .i64 (F : Int), .int .i64 (T : Int)] ((w2.alloc o).drew) from hU.alloc o) hgw hneU
        rw [hsz0] at this
        exact this
      go_wp2_with fail
      go_region_law
        (first | (refine step_append_lies _ (by rfl) _ _ _ (by rfl) w0.heap.size 3 i0 _ 1 8 Tryz.underlying55 hi hz0 hz1 hz2 rfl (by omega) uv q (((cs.take q).map Pl.sml).map iv) (by rfl) ((hrow.alloc _).drew) ⟨w2.heap.size, 0, none⟩ 1 1 [.int .i64 (Pl.sml d : Int)] (by rfl) (by rfl) (World.news_of_block (cs := #[.int .i64 (Pl.sml d : Int)]) (t := 3) (fr := (0, 0)) (heap_alloc_new w2 _)) (by simp [Value.oneCell']) (by omega) (by unfold maxLen; omega) (by omega) (by simp; omega) (w2.heap.size + 1) (by simp) ?_; intro gn capn w3 hown1 hgrow hat hlt1; have hb3 := HK.out _ _ hgrow; obtain ⟨⟨j0, j1, j2, j3⟩, jf⟩ := hb3.four; have jf0 := jf 0; clear jf) | (go_simp; refine (HSM.out _).mono ?_; rintro e w' ⟨rfl, hw⟩; rw [hw]; clear hw w'))
      all_goals
        go_wp2
        have hB3 : Below w0.heap.size w0 w3 := Below.grown ((h2.alloc hs2 _).drew) hgrow (by simp; omega) fun j ej => (ownBlock_lt hrow ej).2
        refine ⟨⟨q + 1, _, by go_num, by omega, by rw [hsz0]; exact hb3.f0 _, ?_, hB3.setCell (p := ⟨w.heap.size + 2, 0, none⟩) (by show w0.heap.size ≤ w.heap.size + 2; omega) _⟩, by simp [intOf]; omega⟩
        rw [HD.out, List.map_append]
        exact ownsRow_set_other hown1 (row_ne_blk hown1 hb3 (by decide)) 0 _
    · have hqI : ¬ (q : Int) < (cs.length : Int) := by omega
      obtain rfl : q = cs.length := by omega
      rw [List.take_length] at hrow
      have hcu := (CoR.of_own hrow).1
      obtain ⟨ua, uc, ug, rfl, _⟩ := hcu.co
      obtain ⟨un, hun⟩ : ∃ k, (cs.map Pl.sml).length = k := ⟨_, rfl⟩
      rw [hun] at hcu hrow hU u0
      go_wp2_with fail
      go_ret
      exact ⟨_, rfl, Tkr.one (base := w.heap.size) (w := w2) (by omega) hcu, (hB0.trans (h2.mono (by omega))).alloc (by omega) _⟩
end Go.Proofs.YtcmgclckknpecaaGreatDoor

/- The document's own side: the stem of a term. -/
namespace Go.Proofs.YtcmgclckknpecaaGreatDoor
open Go.RowKit

theorem decode_az (s : ByteArray) (i : Nat) (h : i < s.size) : (Pl.bt s i < 128 → Utf8.decode s i = (Pl.bt s i, 1)) ∧ (128 ≤ Pl.bt s i → 128 ≤ (Utf8.decode s i).1) := by
  have e : (s.get! i).toNat = Pl.bt s i := by
    simp [Pl.bt, h, ByteArray.get!, ByteArray.getElem_eq_getElem_data]
  rw [Lib.decode_at, e]
  unfold Lib.decodeN
  refine ⟨fun hl => by rw [if_pos hl], fun hl => ?_⟩
  rw [if_neg (by omega)]
  repeat' split
  all_goals (simp only; omega)
/-- Are the bytes from i on letters a to z? -/
def Pl.azF (s : ByteArray) : Nat → Nat → Bool
  | 0, _ => true
  | m + 1, i => if i < s.size then Pl.wit (Pl.bt s i) 97 122 && Pl.azF s m (i + 1) else true
theorem Pl.plF_az (s : ByteArray) : ∀ m i, Pl.plF s m i = Pl.azF s m i
  | 0, _ => rfl
  | m + 1, i => by
    rw [Pl.plF, Pl.azF]
    by_cases h : i < s.size
    · rw [if_pos h, if_pos h]
      obtain ⟨h1, h2⟩ := decode_az s i h
      by_cases hb : Pl.bt s i < 128
      · rw [h1 hb, Pl.plF_az s m]
      · have := h2 (by omega)
        have e1 : Pl.wit (Utf8.decode s i).1 97 122 = false := by simp [Pl.wit]; omega
        have e2 : Pl.wit (Pl.bt s i) 97 122 = false := by simp [Pl.wit]; omega
        rw [e1, e2, Bool.false_and, Bool.false_and]
    · rw [if_neg h, if_neg h]
theorem ba_list (s : ByteArray) : s.data.toList.length = s.size := (Lib.size_eq s).symm
theorem Pl.stF_cons (s o nw : ByteArray) (l : Nat) (r : List (ByteArray × Nat × ByteArray)) : Pl.stF s ((o, l, nw) :: r) = if o.size ≤ s.size ∧ l ≤ s.size - o.size ∧ s.extract (s.size - o.size) s.size = o then s.extract 0 (s.size - o.size) ++ nw else Pl.stF s r := by
  rw [Pl.stF]
  have hd : (s.extract (s.size - o.size) s.size).data.toList = s.data.toList.drop (s.size - o.size) := by
    rw [ByteArray.data_extract, Array.toList_extract]
    show (s.data.toList.drop (s.size - o.size)).take (s.size - (s.size - o.size)) = _
    exact List.take_of_length_le (by rw [List.length_drop, ba_list]; omega)
  have ht : (s.extract 0 (s.size - o.size)).data.toList = s.data.toList.take (s.size - o.size) := by
    rw [ByteArray.data_extract, Array.toList_extract]; simp
  have hsuf : Lib.hasSuffix s.data.toList o.data.toList = true ↔ (o.size ≤ s.size ∧ s.extract (s.size - o.size) s.size = o) := by
    unfold Lib.hasSuffix
    rw [List.isSuffixOf_iff_suffix, List.suffix_iff_eq_drop, ba_list, ba_list]
    constructor
    · intro h
      have hl := congrArg List.length h
      rw [ba_list, List.length_drop, ba_list] at hl
      refine ⟨by omega, ByteArray.ext (Array.toList_inj.1 ?_)⟩
      rw [hd, ← h]
    · rintro ⟨_, h⟩
      rw [← hd, h]
  by_cases hs : Lib.hasSuffix s.data.toList o.data.toList = true
  · have hs2 := hsuf.1 hs
    have htr : Lib.trimSuffix s.data.toList o.data.toList = s.data.toList.take (s.size - o.size) := by unfold Lib.trimSuffix; rw [if_pos hs, ba_list, ba_list]
    simp only [htr, hs, true_and]
    have hlen : (s.data.toList.take (s.size - o.size)).length = s.size - o.size := by rw [List.length_take, ba_list]; omega
    rw [hlen]
    by_cases hl : l ≤ s.size - o.size
    · rw [if_pos hl, if_pos ⟨hs2.1, hl, hs2.2⟩]
      congr 1
      apply ByteArray.ext
      apply Array.toList_inj.1
      rw [ht]
    · rw [if_neg hl, if_neg (fun h => hl h.2.1)]
  · rw [if_neg (fun h => hs h.1), if_neg (fun h => hs (hsuf.2 ⟨h.1, h.2.2⟩))]
theorem rule_at (q : Nat) (hq : q < 9) : ∃ (o : ByteArray) (l : Nat) (nw : ByteArray), endC[q * 3]? = some (.string o) ∧ endC[q * 3 + 1]? = some (.int .i64 (l : Int)) ∧ endC[q * 3 + 2]? = some (.string nw) ∧ Pl.ends9.drop q = (o, l, nw) :: Pl.ends9.drop (q + 1) ∧ 1 ≤ l ∧ l ≤ 3 ∧ nw.size ≤ 8 ∧ o.size ≤ 8 := by
  obtain rfl | rfl | rfl | rfl | rfl | rfl | rfl | rfl | rfl : q = 0 ∨ q = 1 ∨ q = 2 ∨ q = 3 ∨ q = 4 ∨ q = 5 ∨ q = 6 ∨ q = 7 ∨ q = 8 := by omega
  · exact ⟨⟨#[115, 115, 101, 115]⟩, 1, ⟨#[115, 115]⟩, rfl, rfl, rfl, rfl, by decide, by decide, by decide, by decide⟩
  · exact ⟨⟨#[105, 101, 115]⟩, 2, ⟨#[121]⟩, rfl, rfl, rfl, rfl, by decide, by decide, by decide, by decide⟩
  · exact ⟨⟨#[115, 115]⟩, 1, ⟨#[115, 115]⟩, rfl, rfl, rfl, rfl, by decide, by decide, by decide, by decide⟩
  · exact ⟨⟨#[117, 115]⟩, 1, ⟨#[117, 115]⟩, rfl, rfl, rfl, rfl, by decide, by decide, by decide, by decide⟩
  · exact ⟨⟨#[115]⟩, 2, ⟨#[]⟩, rfl, rfl, rfl, rfl, by decide, by decide, by decide, by decide⟩
  · exact ⟨⟨#[105, 110, 103]⟩, 3, ⟨#[]⟩, rfl, rfl, rfl, rfl, by decide, by decide, by decide, by decide⟩
  · exact ⟨⟨#[101, 100, 108, 121]⟩, 3, ⟨#[]⟩, rfl, rfl, rfl, rfl, by decide, by decide, by decide, by decide⟩
  · exact ⟨⟨#[101, 100]⟩, 3, ⟨#[]⟩, rfl, rfl, rfl, rfl, by decide, by decide, by decide, by decide⟩
  · exact ⟨⟨#[108, 121]⟩, 3, ⟨#[]⟩, rfl, rfl, rfl, rfl, by decide, by decide, by decide, by decide⟩

set_option maxRecDepth 100000 in
set_option maxHeartbeats 2000000 in
theorem rrules_any (w : World) :
    Calls Tryz.prog 228 #[] w fun e w' => ∃ g, e = .returned (.slice (some ⟨g, 0, none⟩) 9 9) ∧ w.heap.size ≤ g ∧ w'.heap[g]? = some (.cells endC 384 (0, 0)) ∧ Below w.heap.size w w' := by
  go_enter Tryz.func228, Tryz.ntmps228
  go_wp2
  go_ret
  exact ⟨w.heap.size, rfl, Nat.le_refl _, heap_alloc_new w _, (Below.refl _ w).alloc (Nat.le_refl _) _⟩

set_option maxRecDepth 100000 in
set_option maxHeartbeats 4000000 in
theorem rstem_any (s : ByteArray) (w : World) (hs : s.size ≤ 1099511627776) :
    Calls Tryz.prog 141 #[.string s] w fun e w' => e = .returned (.string (Pl.stm s)) ∧ Below w.heap.size w w' := by
  obtain ⟨R, hR⟩ : ∃ R, Pl.stm s = R := ⟨_, rfl⟩
  rw [hR]
  unfold Pl.stm at hR
  rw [Pl.plF_az] at hR
  obtain ⟨P, hP⟩ : ∃ P, Pl.azF s s.size 0 = P := ⟨_, rfl⟩
  rw [hP] at hR
  have HP : Hid (Pl.azF s s.size 0 = P) := hP
  have HR : Hid ((if P = true then Pl.stF s Pl.ends9 else s) = R) := hR
  clear hP hR
  go_enter Tryz.func141, Tryz.ntmps141
  go_wp2
  go_loopw [3] (fun i wr => Below w.heap.size w wr ∧ ∃ (q m : Nat), i = .int .i64 (q : Int) ∧ q ≤ s.size ∧ s.size ≤ q + m ∧ Hid (Pl.azF s m q = P)) (fun i _ => s.size - (intOf i).toNat)
  case atStart => exact ⟨Below.refl _ _, 0, s.size, rfl, by omega, by omega, HP⟩
  case round =>
    obtain ⟨hB, q, m, rfl, hq, hqm, HQ⟩ := hrel
    obtain ⟨w0, hw0⟩ : ∃ w0, w0 = wr := ⟨_, rfl⟩
    subst hw0
    have hs0 := hB.size
    by_cases hlt : q < s.size
    · have hltI : (q : Int) < (s.size : Int) := by omega
      obtain ⟨m', rfl⟩ : ∃ m', m = m' + 1 := ⟨m - 1, by omega⟩
      have hQ := HQ.out
      rw [Pl.azF, if_pos hlt] at hQ
      have hbe := Pl.bt_eq hlt
      rw [hbe] at hQ
      have hb8 := UInt8.toNat_lt s[q]
      obtain ⟨c, hc⟩ : ∃ c, (s[q]).toNat = c := ⟨_, rfl⟩
      rw [hc] at hQ hb8
      clear hbe HQ
      by_cases h1 : c < 97
      · have hPf : P = false := by rw [← hQ]; simp [Pl.wit]; omega
        subst hPf
        have HX : Hid (s = R) := by have := HR.out; rw [if_neg (by simp)] at this; exact this
        have h1I : (c : Int) < 97 := by omega
        have h1d : decide ((c : Int) < 97) = true := by simp; omega
        clear hQ
        go_wp2_with fail
        go_ret
        exact ⟨by rw [HX.out]; rfl, hB⟩
      · have h1I : ¬ (c : Int) < 97 := by omega
        by_cases h2 : 122 < c
        · have hPf : P = false := by rw [← hQ]; simp [Pl.wit]; omega
          subst hPf
          have HX : Hid (s = R) := by have := HR.out; rw [if_neg (by simp)] at this; exact this
          have h2I : (122 : Int) < (c : Int) := by omega
          clear hQ
          go_wp2_with fail
          go_ret
          exact ⟨by rw [HX.out]; rfl, hB⟩
        · have h2I : ¬ (122 : Int) < (c : Int) := by omega
          have HQ2 : Hid (Pl.azF s m' (q + 1) = P) := by
            have e : Pl.wit c 97 122 = true := by simp [Pl.wit]; omega
            rw [e, Bool.true_and] at hQ; exact hQ
          clear hQ
          go_wp2_with fail
          exact ⟨⟨hB, q + 1, m', by go_num, by omega, by omega, HQ2⟩, by simp [intOf]; omega⟩
    · have hltI : ¬ (q : Int) < (s.size : Int) := by omega
      have hPt : P = true := by
        rw [← HQ.out]
        cases m with
        | zero => rfl
        | succ m => rw [Pl.azF, if_neg hlt]
      subst hPt
      have HR2 : Hid (Pl.stF s (Pl.ends9.drop 0) = R) := by have := HR.out; rw [if_pos rfl] at this; exact this
      clear HQ HR HP
      go_wp2_with fail
      refine (rrules_any _).mono ?_
      rintro e w1 ⟨gr, rfl, hgr, hblk, h1⟩
      have hB1 : Below w.heap.size w w1 := hB.trans (h1.mono hs0)
      obtain ⟨V, hV⟩ : ∃ V, endC = V := ⟨_, rfl⟩
      have hat := rule_at
      rw [hV] at hblk hat
      have HAT : Hid (∀ q, q < 9 → ∃ (o : ByteArray) (l : Nat) (nw : ByteArray), V[q * 3]? = some (.string o) ∧ V[q * 3 + 1]? = some (.int .i64 (l : Int)) ∧ V[q * 3 + 2]? = some (.string nw) ∧ Pl.ends9.drop q = (o, l, nw) :: Pl.ends9.drop (q + 1) ∧ 1 ≤ l ∧ l ≤ 3 ∧ nw.size ≤ 8 ∧ o.size ≤ 8) := hat
      have hgl := (Array.getElem?_eq_some_iff.1 hblk).1
      clear hat hV
      go_wp2_with fail
      go_loopw [5] (fun i wr => Below w1.heap.size w1 wr ∧ ∃ q : Nat, i = .int .i64 (q : Int) ∧ q ≤ 9 ∧ Hid (Pl.stF s (Pl.ends9.drop q) = R)) (fun i _ => 9 - (intOf i).toNat)
      case atStart => exact ⟨Below.refl _ _, 0, rfl, by omega, HR2⟩
      case round =>
        obtain ⟨h2, q, rfl, hq9, HQ⟩ := hrel
        obtain ⟨w2, hw2⟩ : ∃ w2, w2 = wr := ⟨_, rfl⟩
        subst hw2
        have hB2 : Below w.heap.size w w2 := hB1.trans (h2.mono hB1.size)
        by_cases hql : q < 9
        · have hqI : (q : Int) < 9 := by omega
          obtain ⟨o, l, nw, c0, c1, c2, hd, hl1, hl3, hn8, ho8⟩ := HAT.out q hql
          have hb2 : w2.heap[gr]? = some (.cells V 384 (0, 0)) := (h2.block gr hgl).trans hblk
          have e0 : w2.cell? ⟨gr, q * 3, none⟩ = some (.string o) := by simp [World.cell?, hb2, c0]
          have e1 : w2.cell? ⟨gr, q * 3 + 1, none⟩ = some (.int .i64 (l : Int)) := by simp [World.cell?, hb2, c1]
          have e2 : w2.cell? ⟨gr, q * 3 + 2, none⟩ = some (.string nw) := by simp [World.cell?, hb2, c2]
          have hQ := HQ.out
          rw [hd, Pl.stF_cons] at hQ
          clear HQ hd c0 c1 c2 hb2
          have hw0 : wrap64 ((s.size : Int) - (o.size : Int)) = (s.size : Int) - (o.size : Int) := by unfold wrap64; omega
          by_cases hlo : o.size + l ≤ s.size
          · obtain ⟨n, hn⟩ : ∃ n, s.size - o.size = n := ⟨_, rfl⟩
            have hnI : (s.size : Int) - (o.size : Int) = (n : Int) := by omega
            have hge : (l : Int) ≤ (n : Int) := by omega
            have hgd : decide (l ≤ n) = true := by simp; omega
            have hn0 : (0 : Int) ≤ (n : Int) := by omega
            have hns : n ≤ s.size := by omega
            have hnsI : (n : Int) ≤ (s.size : Int) := by omega
            rw [hn] at hQ
            by_cases heq : s.extract n s.size = o
            · rw [if_pos ⟨by omega, by omega, heq⟩] at hQ
              have HX : Hid (s.extract 0 n ++ nw = R) := hQ
              have hcat : ¬ 9223372036854775807 < (s.extract 0 n).size + nw.size := by rw [ByteArray.size_extract]; omega
              have hee : ((s.extract n s.size).toList == o.toList) = true := by rw [heq]; simp
              clear hQ heq
              go_wp2_with fail
              go_quiet (fail)
              go_wp2_with fail
              go_quiet (fail)
              go_wp2
              go_ret
              exact ⟨by rw [← HX.out]; rfl, below_drewN (below_drewN hB2 _) _⟩
            · rw [if_neg (fun h => heq h.2.2)] at hQ
              have HX : Hid (Pl.stF s (Pl.ends9.drop (q + 1)) = R) := hQ
              have hee : ((s.extract n s.size).toList == o.toList) = false := by
                rw [beq_eq_false_iff_ne]
                intro h
                rw [ByteArray.toList_eq, ByteArray.toList_eq] at h
                exact heq (ByteArray.ext (Array.toList_inj.1 h))
              clear hQ heq
              go_wp2_with fail
              go_quiet (fail)
              go_wp2_with fail
              exact ⟨⟨below_drewN h2 _, q + 1, by go_num, by omega, HX⟩, by simp [intOf]; omega⟩
          · rw [if_neg (fun h => hlo (by omega))] at hQ
            have HX : Hid (Pl.stF s (Pl.ends9.drop (q + 1)) = R) := hQ
            have hge : ¬ (l : Int) ≤ (s.size : Int) - (o.size : Int) := by omega
            have hgd : decide ((l : Int) ≤ (s.size : Int) - (o.size : Int)) = false := by simp; omega
            clear hQ
            go_wp2_with fail
            go_quiet (fail)
            go_wp2_with fail
            exact ⟨⟨below_drewN h2 _, q + 1, by go_num, by omega, HX⟩, by simp [intOf]; omega⟩
        · have hqI : ¬ (q : Int) < 9 := by omega
          obtain rfl : q = 9 := by omega
          have HX : Hid (s = R) := HQ.out
          clear HQ
          go_wp2_with fail
          go_ret
          exact ⟨by rw [HX.out]; rfl, hB2⟩
end Go.Proofs.YtcmgclckknpecaaGreatDoor

namespace Go.Proofs.YtcmgclckknpecaaGreatDoor
open Go.RowKit

theorem Pl.run_shift (p : Nat → Bool) (n i : Nat) (hi : i ≤ n) : ∀ m k, i + Pl.run (fun j => p (i + j)) (n - i) m k = Pl.run p n m (i + k)
  | 0, k => rfl
  | m + 1, k => by
    unfold Pl.run
    by_cases h : k < n - i ∧ p (i + k) = true
    · rw [if_pos h, if_pos ⟨by omega, h.2⟩, Pl.run_shift p n i hi m (k + 1)]; rfl
    · rw [if_neg h, if_neg (fun h2 => h ⟨by omega, h2.2⟩)]
theorem Pl.cdx_drop (xs : List (Nat × Nat × Nat)) (i k : Nat) : Pl.cdx (xs.drop i) k = Pl.cdx xs (i + k) := by simp [Pl.cdx, List.getElem?_drop]
theorem Pl.tgAt_no (xs : List (Nat × Nat × Nat)) (i : Nat) (h : Pl.cdx xs i ≠ 60) : Pl.tgAt xs i = 0 := by
  unfold Pl.tgAt Pl.tgz
  rw [Pl.cdx_drop, Nat.add_zero, if_neg h]
theorem Pl.tgAt_run (xs : List (Nat × Nat × Nat)) (i : Nat) (h : i < xs.length) (h60 : Pl.cdx xs i = 60) : ∃ m R, xs.length ≤ i + 1 + m ∧ Pl.run (fun k => !decide (Pl.cdx xs k = 62)) xs.length m (i + 1) = R ∧ Pl.tgAt xs i = if R < xs.length then R + 1 - i else 0 := by
  obtain ⟨m, hm⟩ : ∃ m, xs.length - i = m + 1 := ⟨xs.length - i - 1, by omega⟩
  refine ⟨m, _, by omega, rfl, ?_⟩
  have hs := Pl.run_shift (fun k => !decide (Pl.cdx xs k = 62)) xs.length i (by omega) m 1
  have hr : Pl.run (fun j => !decide (Pl.cdx xs (i + j) = 62)) (xs.length - i) (xs.length - i) 0 = Pl.run (fun j => !decide (Pl.cdx xs (i + j) = 62)) (xs.length - i) m 1 := by
    conv => lhs; rw [hm]; unfold Pl.run
    rw [← hm, if_pos ⟨by omega, by rw [Nat.add_zero, h60]; rfl⟩]
  unfold Pl.tgAt Pl.tgz
  simp only [Pl.cdx_drop, List.length_drop, Nat.add_zero]
  rw [if_pos h60, hr, ← hs]
  by_cases hR : Pl.run (fun j => !decide (Pl.cdx xs (i + j) = 62)) (xs.length - i) m 1 < xs.length - i
  · rw [if_pos hR, if_pos (by omega)]; omega
  · rw [if_neg hR, if_neg (by omega)]

set_option maxRecDepth 100000 in
set_option maxHeartbeats 4000000 in
theorem rtags_any (g cap : Nat) (xs : List (Nat × Nat × Nat)) (a : Option Addr) (w : World) (hC : Cr g 0 xs w) (ha : 0 < xs.length → a = some ⟨g, 0, none⟩) (hg : 0 < xs.length → g < w.heap.size) (hl : xs.length ≤ 268435456) :
    Calls Tryz.prog 76 #[.slice a xs.length cap] w fun e w' => ∃ v, e = .returned v ∧ w'.ownsRow w.heap.size 283 3 v (Pl.tgs xs xs.length 0).length ((Pl.tgs xs xs.length 0).flatMap enc) ∧ Below w.heap.size w w' := by
  obtain ⟨i0, hi, hz0, hz1, hz2⟩ := info_parts info283
  obtain ⟨ys, hys⟩ : ∃ ys, Pl.tgs xs xs.length 0 = ys := ⟨_, rfl⟩
  rw [hys]
  have hlen : ys.length ≤ xs.length := by have := Pl.tgs_length xs xs.length 0 (by omega); rw [hys] at this; omega
  have HYS : Hid (Pl.tgs xs xs.length 0 = ys) := hys
  clear hys
  go_enter Tryz.func76, Tryz.ntmps76
  go_wp2
  go_loopw [3, 4] (fun l i wr => ∃ (k m : Nat) (pre : List (Nat × Nat × Nat)), i = .int .i64 (k : Int) ∧ k ≤ xs.length ∧ xs.length ≤ k + m ∧ Hid (pre ++ Pl.tgs xs m k = ys) ∧
    wr.ownsRow w.heap.size 283 3 l pre.length (pre.flatMap enc) ∧ Below w.heap.size w wr) (fun _ i _ => xs.length - (intOf i).toNat)
  case atStart => exact ⟨0, xs.length, [], rfl, by omega, by omega, HYS, World.ownsRow_nil _ _ _ _, Below.refl _ _⟩
  case round =>
    obtain ⟨k, m, pre, rfl, hk, hkm, HX, hrow, hB⟩ := hrel
    by_cases hlt : k < xs.length
    · obtain rfl := ha (by omega)
      have hg' := hg (by omega)
      have hs1 := hB.size
      have hltI : (k : Int) < (xs.length : Int) := by omega
      obtain ⟨⟨c, f, t⟩, hx⟩ : ∃ x, xs[k] = x := ⟨_, rfl⟩
      obtain ⟨k0, k1, k2⟩ := (hC.below hB fun _ => hg').c k hlt
      rw [hx] at k0 k1 k2
      rw [Nat.zero_add] at k0 k1 k2
      simp only at k0 k1 k2
      have hcx : Pl.cdx xs k = c := by rw [Pl.cdx_eq hlt, hx]
      have hfx : Pl.frx xs k = f := by simp [Pl.frx, hlt, hx]
      have HP : Hid (Pl.tgAt xs k = 0 → ∃ m', xs.length ≤ k + 1 + m' ∧ (pre ++ [(c, f, t)]) ++ Pl.tgs xs m' (k + 1) = ys ∧ pre.length < xs.length) := fun hz => by
        obtain ⟨m', hm', hcs⟩ := Pl.tgs_pass hlt hkm hz
        have := HX.out
        rw [hcs, hx] at this
        have e : (pre ++ [(c, f, t)]) ++ Pl.tgs xs m' (k + 1) = ys := by rw [← this]; simp
        refine ⟨m', hm', e, ?_⟩
        have := congrArg List.length e; simp at this; omega
      by_cases h60 : c = 60
      · obtain ⟨m2, R, hm2, hR, hz⟩ := Pl.tgAt_run xs k hlt (by rw [hcx, h60])
        have HZ : Hid (Pl.tgAt xs k = if R < xs.length then R + 1 - k else 0) := hz
        have HR : Hid (Pl.run (fun k => !decide (Pl.cdx xs k = 62)) xs.length m2 (k + 1) = R) := hR
        have HQ : Hid (k < R → R < xs.length → ∃ m', xs.length ≤ R + 1 + m' ∧ (pre ++ [(32, f, Pl.tox xs R)]) ++ Pl.tgs xs m' (R + 1) = ys ∧ pre.length < xs.length) := fun h1 h2 => by
          have hz' : Pl.tgAt xs k = R + 1 - k := by rw [hz, if_pos h2]
          obtain ⟨m', hm', hcs⟩ := Pl.tgs_tag hlt hkm (by rw [hz']; omega)
          rw [hz', show k + (R + 1 - k) = R + 1 by omega] at hm' hcs
          have := HX.out
          rw [hcs, hfx, show R + 1 - 1 = R by omega] at this
          have e : (pre ++ [(32, f, Pl.tox xs R)]) ++ Pl.tgs xs m' (R + 1) = ys := by rw [← this]; simp
          refine ⟨m', hm', e, ?_⟩
          have := congrArg List.length e; simp at this; omega
        subst h60
        clear hz hR hcx hx hfx HX
        go_wp2_with fail
        go_loopw [5, 6] (fun en kv wi => wi = wr ∧ ∃ (q mm : Nat) (fd : Bool), kv = .int .i64 (q : Int) ∧ k + 1 ≤ q ∧ q ≤ xs.length ∧ en = .int .i64 ((if fd = true then R else k : Nat) : Int) ∧ Hid (if fd = true then k < R ∧ R < xs.length else xs.length ≤ q + mm ∧ Pl.run (fun k => !decide (Pl.cdx xs k = 62)) xs.length mm q = R)) (fun _ kv _ => xs.length - (intOf kv).toNat)
        case atStart => exact ⟨rfl, k + 1, m2, false, by go_num, by omega, by omega, rfl, ⟨by omega, HR.out⟩⟩
        case round =>
          obtain ⟨rfl, q, mm, fd, rfl, hq1, hq2, rfl, HH⟩ := hrel
          cases fd with
          | true =>
            have hh := HH.out
            simp only [if_true] at hh
            obtain ⟨hR1, hR2⟩ := hh
            simp only [if_true]
            have hne : ¬ (R : Int) = (k : Int) := by omega
            have hgt : (k : Int) < (R : Int) := by omega
            have hRI : (R : Int) < (xs.length : Int) := by omega
            obtain ⟨m', hm', HX2, hpl⟩ := HQ.out hR1 hR2
            obtain ⟨_, _, r2⟩ := (hC.below hB fun _ => hg').c R hR2
            rw [Nat.zero_add] at r2
            have htx : Pl.tox xs R = (xs[R]).2.2 := by simp [Pl.tox, hR2]
            rw [← htx] at r2
            obtain ⟨T, hT⟩ : ∃ T, Pl.tox xs R = T := ⟨_, rfl⟩
            rw [hT] at r2 HX2
            have HX3 : Hid ((pre ++ [(32, f, T)]) ++ Pl.tgs xs m' (R + 1) = ys) := HX2
            clear HX2 htx hT HQ HP HZ HR HH
            have HNB : Hid (∀ W, (World.alloc W (.cells #[.int .i64 32, .int .i64 (f : Int), .int .i64 (T : Int)] 283)).heap[W.heap.size]? = some (.cells #[.int .i64 32, .int .i64 (f : Int), .int .i64 (T : Int)] 283 (0, 0))) := fun W => heap_alloc_new W _
            by_cases hqn : q < xs.length
            · have hqI : (q : Int) < (xs.length : Int) := by omega
              go_wp2_with fail
              go_region_held3 (fun w' => w'.cell? ⟨g, k * 3 + 1, none⟩ = some (.int .i64 (f : Int)) ∧ w'.cell? ⟨g, R * 3 + 2, none⟩ = some (.int .i64 (T : Int))) (first | go_keep | (refine ⟨?_, ?_⟩; exact (hB3.cell (p := ⟨g, k * 3 + 1, none⟩) hg').trans ((hB.cell (p := ⟨g, k * 3 + 1, none⟩) hg').symm.trans k1); exact (hB3.cell (p := ⟨g, R * 3 + 2, none⟩) hg').trans ((hB.cell (p := ⟨g, R * 3 + 2, none⟩) hg').symm.trans r2))) ((refine step_append_lies _ (by rfl) _ _ 203 (by rfl) w.heap.size 283 i0 (.agg #[.int .i64 0, .int .i64 0, .int .i64 0]) 3 24 Tryz.underlying203 hi hz0 hz1 hz2 rfl (by decide) _ pre.length (pre.flatMap enc) (by rfl) (hrow.drew.alloc _) ⟨wr.heap.size, 0, none⟩ 1 1 (enc (32, f, T)) (by rfl) rfl (World.news_of_block (HNB.out wr.drew)) (enc_one _) (by decide) (by unfold maxLen; omega) (by omega) (by simp; omega) (wr.heap.size + 1) (by simp) ?_; intro gn capn w3 hown1 hgrow hat hlt1; have hB3 : Below w.heap.size w w3 := Below.grown (hB.drew.alloc (by simp; omega) _) hgrow (by simp; omega) fun j ej => (ownBlock_lt hrow ej).2))
              go_wp2_with fail
              refine ⟨⟨R + 1, m', pre ++ [(32, f, T)], by go_num, by omega, hm', HX3, ?_, hB3⟩, by simp [intOf]; omega⟩
              rw [enc_snoc, List.length_append]
              exact hown1
            · have hqI : ¬ (q : Int) < (xs.length : Int) := by omega
              go_wp2_with fail
              go_region_held3 (fun w' => w'.cell? ⟨g, k * 3 + 1, none⟩ = some (.int .i64 (f : Int)) ∧ w'.cell? ⟨g, R * 3 + 2, none⟩ = some (.int .i64 (T : Int))) (first | go_keep | (refine ⟨?_, ?_⟩; exact (hB3.cell (p := ⟨g, k * 3 + 1, none⟩) hg').trans ((hB.cell (p := ⟨g, k * 3 + 1, none⟩) hg').symm.trans k1); exact (hB3.cell (p := ⟨g, R * 3 + 2, none⟩) hg').trans ((hB.cell (p := ⟨g, R * 3 + 2, none⟩) hg').symm.trans r2))) ((refine step_append_lies _ (by rfl) _ _ 203 (by rfl) w.heap.size 283 i0 (.agg #[.int .i64 0, .int .i64 0, .int .i64 0]) 3 24 Tryz.underlying203 hi hz0 hz1 hz2 rfl (by decide) _ pre.length (pre.flatMap enc) (by rfl) (hrow.drew.alloc _) ⟨wr.heap.size, 0, none⟩ 1 1 (enc (32, f, T)) (by rfl) rfl (World.news_of_block (HNB.out wr.drew)) (enc_one _) (by decide) (by unfold maxLen; omega) (by omega) (by simp; omega) (wr.heap.size + 1) (by simp) ?_; intro gn capn w3 hown1 hgrow hat hlt1; have hB3 : Below w.heap.size w w3 := Below.grown (hB.drew.alloc (by simp; omega) _) hgrow (by simp; omega) fun j ej => (ownBlock_lt hrow ej).2))
              go_wp2_with fail
              refine ⟨⟨R + 1, m', pre ++ [(32, f, T)], by go_num, by omega, hm', HX3, ?_, hB3⟩, by simp [intOf]; omega⟩
              rw [enc_snoc, List.length_append]
              exact hown1
          | false =>
            have hh := HH.out
            simp only [Bool.false_eq_true, if_false] at hh
            obtain ⟨hqm, hrun⟩ := hh
            simp only [Bool.false_eq_true, if_false]
            by_cases hqn : q < xs.length
            · have hqI : (q : Int) < (xs.length : Int) := by omega
              obtain ⟨q0, _, _⟩ := (hC.below hB fun _ => hg').c q hqn
              rw [← Pl.cdx_eq hqn, Nat.zero_add] at q0
              obtain ⟨d, hd⟩ : ∃ d, Pl.cdx xs q = d := ⟨_, rfl⟩
              rw [hd] at q0
              by_cases h62 : d = 62
              · have hx := Pl.run_no (fun h => by have := h.2; rw [hd, h62] at this; simp at this) hrun
                subst h62
                clear hrun hd HH HQ HP HZ HR
                go_wp2_with fail
                subst hx
                exact ⟨⟨by trivial, R + 1, 0, true, by go_num, by omega, by omega, by trivial, ⟨by omega, hqn⟩⟩, by simp [intOf]; omega⟩
              · obtain ⟨m3, hm3, hr3⟩ := Pl.run_yes hqn (by rw [hd]; simp [h62]) hqm hrun
                have h62I : ¬ (d : Int) = 62 := by omega
                have HK2 : Hid (if false = true then k < R ∧ R < xs.length else xs.length ≤ q + 1 + m3 ∧ Pl.run (fun k => !decide (Pl.cdx xs k = 62)) xs.length m3 (q + 1) = R) := ⟨by omega, hr3⟩
                clear hrun hr3 hd HH HQ HP HZ HR
                go_wp2_with fail
                exact ⟨⟨by trivial, q + 1, m3, false, by go_num, by omega, by omega, by trivial, HK2⟩, by simp [intOf]; omega⟩
            · have hqI : ¬ (q : Int) < (xs.length : Int) := by omega
              have hx := Pl.run_no (fun h => hqn h.1) hrun
              obtain ⟨m', hm', HX2, hpl⟩ := HP.out (by rw [HZ.out, if_neg (by omega)])
              have HX3 : Hid ((pre ++ [(60, f, t)]) ++ Pl.tgs xs m' (k + 1) = ys) := HX2
              clear HX2 hrun hx HH HQ HP HZ HR
              go_wp2_with (at_builtin; go_must (refine wpList_append_lies _ (by rfl) _ _ 203 (by rfl) w.heap.size 283 i0 (.agg #[.int .i64 0, .int .i64 0, .int .i64 0]) 3 24 Tryz.underlying203 hi hz0 hz1 hz2 rfl (by decide) _ pre.length (pre.flatMap enc) (by rfl) (hrow.alloc _) ⟨wr.heap.size, 0, none⟩ 1 1 (enc (60, f, t)) (by rfl) rfl (World.news_of_block (heap_alloc_new wr _)) (enc_one _) (by decide) (by unfold maxLen; omega) (by omega) (by simp; omega) (wr.heap.size + 1) (by simp) ?_); intro gn capn w3 hown1 hgrow hat hlt1; have hB3 : Below w.heap.size w w3 := Below.grown (hB.alloc hs1 _) hgrow (by simp; omega) fun j ej => (ownBlock_lt hrow ej).2)
              refine ⟨⟨k + 1, m', pre ++ [(60, f, t)], by go_num, by omega, hm', HX3, ?_, hB3⟩, by simp [intOf]; omega⟩
              rw [enc_snoc, List.length_append]
              exact hown1
      · have h60I : ¬ (c : Int) = 60 := by omega
        obtain ⟨m', hm', HX2, hpl⟩ := HP.out (Pl.tgAt_no xs k (by rw [hcx]; exact h60))
        have HX3 : Hid ((pre ++ [(c, f, t)]) ++ Pl.tgs xs m' (k + 1) = ys) := HX2
        clear HX2 HP hcx hx hfx HX
        go_wp2_with (at_builtin; go_must (refine wpList_append_lies _ (by rfl) _ _ 203 (by rfl) w.heap.size 283 i0 (.agg #[.int .i64 0, .int .i64 0, .int .i64 0]) 3 24 Tryz.underlying203 hi hz0 hz1 hz2 rfl (by decide) _ pre.length (pre.flatMap enc) (by rfl) (hrow.alloc _) ⟨wr.heap.size, 0, none⟩ 1 1 (enc (c, f, t)) (by rfl) rfl (World.news_of_block (heap_alloc_new wr _)) (enc_one _) (by decide) (by unfold maxLen; omega) (by omega) (by simp; omega) (wr.heap.size + 1) (by simp) ?_); intro gn capn w3 hown1 hgrow hat hlt1; have hB3 : Below w.heap.size w w3 := Below.grown (hB.alloc hs1 _) hgrow (by simp; omega) fun j ej => (ownBlock_lt hrow ej).2)
        refine ⟨⟨k + 1, m', pre ++ [(c, f, t)], by go_num, by omega, hm', HX3, ?_, hB3⟩, by simp [intOf]; omega⟩
        rw [enc_snoc, List.length_append]
        exact hown1
    · have hltI : ¬ (k : Int) < (xs.length : Int) := by omega
      have hx : pre = ys := by have := HX.out; rw [Pl.tgs_nil hlt] at this; simpa using this
      subst hx
      go_wp2
      go_ret
      exact ⟨_, rfl, hrow, hB⟩

end Go.Proofs.YtcmgclckknpecaaGreatDoor
