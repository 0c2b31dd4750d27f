import Derived.Test.YtcmgclckknpecaaGreatDoorHgf
namespace Go.Proofs.YtcmgclckknpecaaGreatDoor
open Go.RowKit Go.Shelf

theorem enc_getElem : ∀ (xs : List (Nat × Nat × Nat)) (i : Nat) (h : i < xs.length),
    (xs.flatMap enc)[i * 3]? = some (.int .i64 ((xs[i]).1 : Int)) ∧ (xs.flatMap enc)[i * 3 + 1]? = some (.int .i64 ((xs[i]).2.1 : Int)) ∧ (xs.flatMap enc)[i * 3 + 2]? = some (.int .i64 ((xs[i]).2.2 : Int))
  | x :: r, 0, _ => by simp [enc]
  | x :: r, i + 1, h => by
    have ih := enc_getElem r i (by simpa using h)
    have e : ∀ j, ((x :: r).flatMap enc)[(i + 1) * 3 + j]? = (r.flatMap enc)[i * 3 + j]? := fun j => by
      rw [List.flatMap_cons, List.getElem?_append_right (by simp [enc]; omega)]
      congr 1
      simp [enc]; omega
    refine ⟨(e 0).trans ih.1, (e 1).trans ih.2.1, (e 2).trans ih.2.2⟩
theorem tenc_getElem : ∀ (xs : List Tk) (i : Nat) (h : i < xs.length),
    (xs.flatMap tenc)[i * 4]? = some (.string (xs[i]).1) ∧ (xs.flatMap tenc)[i * 4 + 1]? = some (.int .i64 ((xs[i]).2.1 : Int)) ∧ (xs.flatMap tenc)[i * 4 + 2]? = some (.int .i64 ((xs[i]).2.2.1 : Int)) ∧ (xs.flatMap tenc)[i * 4 + 3]? = some (.int .i64 ((xs[i]).2.2.2 : Int))
  | x :: r, 0, _ => by simp [tenc]
  | x :: r, i + 1, h => by
    have ih := tenc_getElem r i (by simpa using h)
    have e : ∀ j, ((x :: r).flatMap tenc)[(i + 1) * 4 + j]? = (r.flatMap tenc)[i * 4 + j]? := fun j => by
      rw [List.flatMap_cons, List.getElem?_append_right (by simp [tenc]; omega)]
      congr 1
      simp [tenc]; omega
    refine ⟨(e 0).trans ih.1, (e 1).trans ih.2.1, (e 2).trans ih.2.2.1, (e 3).trans ih.2.2.2⟩
/-- What a slice that owns a row looks like. -/
theorem row_form {w : World} {base n size : Nat} {e : TypeId} {v : Value} {vs : List Value} (h : w.ownsRow base e size v n vs) :
    ∃ a cap, v = .slice a n cap ∧ n ≤ cap ∧ (0 < n → ∃ g, a = some ⟨g, 0, none⟩ ∧ base ≤ g ∧ g < w.heap.size ∧ (∀ o, w.frozen? ⟨g, o, none⟩ = false) ∧ ∀ j u, vs[j]? = some u → w.cell? ⟨g, j, none⟩ = some u) := by
  rcases h.2 with ⟨rfl, h0⟩ | ⟨g, cap, cur, rfl, hb, hg, hcap, hmax, hcs, htake⟩
  · exact ⟨none, 0, by rw [h0], by omega, fun hp => by omega⟩
  · refine ⟨_, cap, rfl, hcap, fun hp => ⟨g, rfl, hb, (Array.getElem?_eq_some_iff.1 hg).1, fun o => by simp [World.frozen?, hg], fun j u hu => ?_⟩⟩
    rw [← htake, List.getElem?_take] at hu
    split at hu
    · simp [World.cell?, hg]; simpa using hu
    · cases hu
theorem cr_form {w : World} {base : Nat} {e : TypeId} {v : Value} {xs : List (Nat × Nat × Nat)} (h : w.ownsRow base e 3 v xs.length (xs.flatMap enc)) :
    ∃ a cap g, v = .slice a xs.length cap ∧ xs.length ≤ cap ∧ (0 < xs.length → a = some ⟨g, 0, none⟩) ∧ (0 < xs.length → g < w.heap.size) ∧ Cr g 0 xs w := by
  obtain ⟨a, cap, rfl, hcap, hp⟩ := row_form h
  by_cases h0 : 0 < xs.length
  · obtain ⟨g, rfl, _, hlt, _, hc⟩ := hp h0
    refine ⟨_, cap, g, rfl, hcap, fun _ => rfl, fun _ => hlt, ⟨fun i hi => ?_⟩⟩
    obtain ⟨e0, e1, e2⟩ := enc_getElem xs i hi
    rw [Nat.zero_add]
    exact ⟨hc _ _ e0, hc _ _ e1, hc _ _ e2⟩
  · exact ⟨a, cap, 0, rfl, hcap, fun h => absurd h h0, fun h => absurd h h0, ⟨fun i hi => by omega⟩⟩
theorem tr_form {w : World} {base : Nat} {e : TypeId} {v : Value} {xs : List Tk} (h : w.ownsRow base e 4 v xs.length (xs.flatMap tenc)) :
    ∃ a cap g, v = .slice a xs.length cap ∧ (0 < xs.length → a = some ⟨g, 0, none⟩) ∧ (0 < xs.length → g < w.heap.size) ∧ Tr g xs w := by
  obtain ⟨a, cap, rfl, hcap, hp⟩ := row_form h
  by_cases h0 : 0 < xs.length
  · obtain ⟨g, rfl, _, hlt, _, hc⟩ := hp h0
    refine ⟨_, cap, g, rfl, fun _ => rfl, fun _ => hlt, ⟨fun i hi => ?_⟩⟩
    obtain ⟨e0, e1, e2, e3⟩ := tenc_getElem xs i hi
    exact ⟨hc _ _ e0, hc _ _ e1, hc _ _ e2, hc _ _ e3⟩
  · exact ⟨a, cap, 0, rfl, fun h => absurd h h0, fun h => absurd h h0, ⟨fun i hi => by omega⟩⟩

/-- The pieces that are words; the tokens of the chain words; behind k stages low. -/
def Pl.wps (cs : List (Nat × Nat × Nat)) : List (Pce cs.length) := Pl.cutS cs.length (Pl.wsz (Pl.cdx cs) cs.length) (fun i h => Pl.wsz_le (Pl.cdx cs) cs.length i h) cs.length 0
def Pl.wtk (cs : List (Nat × Nat × Nat)) : List Tk := Pl.toks cs 0 (Pl.wps cs)
def Pl.lows : Nat → List Tk → List Tk
  | 0, ts => ts
  | k + 1, ts => Pl.lows k (Pl.chg (fun t => [Pl.smlS t]) ts)
theorem Pl.chg_one (f : ByteArray → ByteArray) (ts : List Tk) : (Pl.chg (fun t => [f t]) ts).length = ts.length := by
  induction ts with
  | nil => rfl
  | cons x r ih =>
    simp only [Pl.chg, List.flatMap_cons, List.length_append, List.length_map, List.length_cons, List.length_nil] at ih ⊢
    omega
theorem Pl.wtk_small (cs : List (Nat × Nat × Nat)) (t : Tk) (ht : t ∈ Pl.wtk cs) : t.1.size ≤ 4 * cs.length := by
  have key : ∀ (l : List (Pce cs.length)) (i : Nat), ∀ t ∈ Pl.toks cs i l, t.1.size ≤ 4 * cs.length := fun l => by
    induction l with
    | nil => intro i t h; simp [Pl.toks] at h
    | cons x r ih =>
      intro i t h
      rcases List.mem_cons.1 h with rfl | h
      · have h1 := Pl.tbs_le (Pl.sub cs x.1.1 x.1.2)
        have h2 : (Pl.sub cs x.1.1 x.1.2).length ≤ cs.length := by simp [Pl.sub]; omega
        simp only [Pl.tok, ByteArray.size, List.size_toArray]
        omega
      · exact ih _ t h
  exact key _ 0 t ht
theorem low_terms (ts : List Tk) (w : World) (hb : ∀ t ∈ ts, t.1.size ≤ 1099511627776) : Hid (∀ (k : Nat) (hk : k < ts.length) (W : World), Below w.heap.size w W → CallsIn Fence.wide (4 - 1) Tryz.prog 203 (#[.string (ts[k]).1] ++ #[]) W fun e W' => ∃ gf lb, e = .returned (.func (.func gf) #[] lb) ∧ Below W.heap.size W W' ∧ (∀ args w, (callFunc gf args).run Tryz.prog w = .ok (.enter gf args) w) ∧
      ∀ B, w.heap.size ≤ B → B < W.heap.size → SeqStopsK Fence.wide (4 - 1) Tryz.prog gf lb encs1 (KeepE B 27) (fun ys => ys = (fun t => [Pl.smlS t]) (ts[k]).1) (fun pre => pre <+: (fun t => [Pl.smlS t]) (ts[k]).1) 2000 W') := by
  intro k hk W _
  refine (callsIn_wide.2 (low_any (ts[k]).1 W (hb _ (List.getElem_mem hk)))).mono ?_
  rintro e W' ⟨b, rfl, h1, h2, _, hB⟩
  refine ⟨306, _, rfl, hB, enters_of Tryz.func306 (by kernel_rfl) rfl, fun B _ _ => ?_⟩
  have := onlyIf1_stops (4 - 1) (by omega) 2000 (by omega) b (b + 1) B true (Pl.smlS (ts[k]).1) W' h1.lt h2.lt h1.cell h2.cell
  simpa using this
theorem Pl.cutS_length {n : Nat} {zf : Nat → Nat} {hz : ∀ i, i < n → i + zf i ≤ n} : ∀ m i, (Pl.cutS n zf hz m i).length ≤ n - i
  | 0, _ => Nat.zero_le _
  | m + 1, i => by
    unfold Pl.cutS
    split
    · rename_i h
      split
      · have := Pl.cutS_length (zf := zf) (hz := hz) m (i + 1); omega
      · rename_i h0
        have := Pl.cutS_length (zf := zf) (hz := hz) m (i + zf i)
        have := hz i h
        simp only [List.length_cons]; omega
    · exact Nat.zero_le _
theorem Pl.cdx_cs_le (s : ByteArray) (k : Nat) : Pl.cdx (Pl.cs (Pl.bt s) s.size s.size 0) k ≤ 67108863 := by
  have key : ∀ m i, ∀ x ∈ Pl.cs (Pl.bt s) s.size m i, x.1 ≤ 67108863 := fun m => by
    induction m with
    | zero => intro i x hx; simp [Pl.cs] at hx
    | succ m ih =>
      intro i x hx
      rw [Pl.cs] at hx
      split at hx
      · rcases List.mem_cons.1 hx with rfl | hx
        · exact Pl.code_le _ _ (Pl.bt_lt s _)
        · exact ih _ x hx
      · simp at hx
  unfold Pl.cdx
  cases h : (Pl.cs (Pl.bt s) s.size s.size 0)[k]? with
  | none => simp
  | some x => exact key _ _ x (List.mem_of_getElem? h)

set_option maxRecDepth 100000 in
set_option maxHeartbeats 4000000 in
theorem take_low (b k gl : Nat) (pe : Option Addr) (ce : Nat) (p1 p2 : Option Addr) (n1 c1 n2 c2 : Nat) (x z : Int) (al : Option Addr) (cl : Nat) (sm : Value) (s : ByteArray) (hs : s.size ≤ 120) (cs : List (Nat × Nat × Nat)) (HCS : Hid (Pl.cs (Pl.bt s) s.size s.size 0 = cs)) (w : World) (hk : k ≤ 1)
    (hA : Blk b 119 #[.slice pe 0 ce, .string ⟨#[119, 111, 114, 100, 115]⟩, .slice p1 n1 c1, .slice p2 n2 c2, .int .i64 x, .int .i64 z, .slice al k cl, .int .u32 0, .int .i32 0, sm, .slice none 0 0, .nilFunc, .slice none 0 0] w)
    (hal : 0 < k → al = some ⟨gl, 0, none⟩ ∧ gl ≠ b ∧ gl < w.heap.size) (hlt : ∀ j, j < k → ∃ q1 m1 d1 q2 m2 d2, ∃ u v : Int, w.cell? ⟨gl, j * 5, none⟩ = some (.string ⟨#[108, 111, 119]⟩) ∧ w.cell? ⟨gl, j * 5 + 1, none⟩ = some (.slice q1 m1 d1) ∧ w.cell? ⟨gl, j * 5 + 2, none⟩ = some (.slice q2 m2 d2) ∧ w.cell? ⟨gl, j * 5 + 3, none⟩ = some (.int .i64 u) ∧ w.cell? ⟨gl, j * 5 + 4, none⟩ = some (.int .i64 v)) :
    Calls Tryz.prog 36 #[.pointer (some ⟨b, 0, none⟩), .string s] w fun e w' => ∃ v, e = .returned (.tuple #[v, .int .i64 0]) ∧ w'.ownsRow w.heap.size 27 4 v (Pl.lows k (Pl.wtk cs)).length ((Pl.lows k (Pl.wtk cs)).flatMap tenc) ∧ w.grownBy w' (some b) := by
  have hb := hA.lt
  have hcs : cs.length ≤ 120 := by have := Pl.cs_length (Pl.bt s) s.size s.size 0; rw [HCS.out] at this; omega
  have hcd : ∀ k, Pl.cdx cs k ≤ 67108863 := fun k => by rw [← HCS.out]; exact Pl.cdx_cs_le s k
  go_enter Tryz.func36, Tryz.ntmps36
  go_wp2_with fail
  refine (split_any s _ hs cs HCS).mono ?_
  rintro e w1 ⟨vc, rfl, hrowc, hB1⟩
  obtain ⟨ac, capc, gc, rfl, hcap, hac, hgc, hCr⟩ := cr_form hrowc
  have hA1 := hA.keep (grown_of_below none hB1) (by simp)
  have hs1 := hB1.size
  have g8 : w1.cell? ⟨b, 8, none⟩ = some (.int .i32 0) := blk_cell hA1 8
  have g7 : w1.cell? ⟨b, 7, none⟩ = some (.int .u32 0) := blk_cell hA1 7
  have hA1' : Blk b 119 #[.slice pe 0 ce, .string ⟨#[119, 111, 114, 100, 115]⟩, .slice p1 n1 c1, .slice p2 n2 c2, .int .i64 x, .int .i64 z, .slice al k cl, .int .u32 0, .int .i32 1, sm, .slice none 0 0, .nilFunc, .slice none 0 0] (w1.setCell ⟨b, 8, none⟩ (.int .i32 1)) := hA1.set 8 (.int .i32 1)
  have hgw : w.grownBy (w1.setCell ⟨b, 8, none⟩ (.int .i32 1)) (some b) := grown_trans (grown_of_below _ hB1) (grown_set w1 b 8 _)
  have hms := makeStages_low b k gl pe ce p1 p2 n1 c1 n2 c2 x z al cl (.int .i32 1) sm (w1.setCell ⟨b, 8, none⟩ (.int .i32 1)) (by omega) hA1' (fun h => ⟨(hal h).1, (hal h).2.1, by have := (hal h).2.2; simp; omega⟩) (fun j hj => by
    obtain ⟨q1, m1, d1, q2, m2, d2, u, v, g0, g1, g2, g3, g4⟩ := hlt j hj
    have hh := hal (by omega)
    have hkp : ∀ o, (w1.setCell ⟨b, 8, none⟩ (.int .i32 1)).cell? ⟨gl, o, none⟩ = w.cell? ⟨gl, o, none⟩ := fun o => hgw.cell_far ⟨gl, o, none⟩ hh.2.2 (by simpa using hh.2.1)
    exact ⟨q1, m1, d1, q2, m2, d2, u, v, (hkp _).trans g0, (hkp _).trans g1, (hkp _).trans g2, (hkp _).trans g3, (hkp _).trans g4⟩)
  have HM : Hid (Calls Tryz.prog 66 #[.pointer (some ⟨b, 0, none⟩)] (w1.setCell ⟨b, 8, none⟩ (.int .i32 1)) fun e w2 => e = .returned (.tuple #[]) ∧ (∃ bs v, w1.heap.size ≤ bs ∧ Boxed w2 bs 372 (.func (.func 200) #[] #[]) ∧ w2.ownsRow w1.heap.size 194 1 v k (List.replicate k (.func (.func 203) #[] #[])) ∧ Blk b 119 #[.slice pe 0 ce, .string ⟨#[119, 111, 114, 100, 115]⟩, .slice p1 n1 c1, .slice p2 n2 c2, .int .i64 x, .int .i64 z, .slice al k cl, .int .u32 0, .int .i32 1, sm, .slice none 0 0, (.func (.func 296) #[] #[.pointer (some ⟨bs, 0, none⟩)]), v] w2 ∧ (w1.setCell ⟨b, 8, none⟩ (.int .i32 1)).grownBy w2 (some b)) ∧ w2.cell? ⟨b, 7, none⟩ = some (.int .u32 0) ∧ w2.cell? ⟨b, 8, none⟩ = some (.int .i32 1) ∧ (∀ o, w2.frozen? ⟨b, o, none⟩ = false)) := hms.mono fun e w2 ⟨he, bs, v, h1, h2, h3, h4, h5⟩ => ⟨he, ⟨bs, v, by simpa using h1, h2, by simpa using h3, h4, h5⟩, blk_cell h4 7, blk_cell h4 8, fun o => blk_frozen h4 o⟩
  clear hms
  go_wp2_with fail
  refine (do_first b w1 _ g7 g8 (blk_frozen hA1 8) HM).mono ?_
  rintro e w3 ⟨rfl, w2, ⟨bs, v, hbs, hbx, hrv, hA2, hg2⟩, _, hw3⟩
  have hA3 : Blk b 119 #[.slice pe 0 ce, .string ⟨#[119, 111, 114, 100, 115]⟩, .slice p1 n1 c1, .slice p2 n2 c2, .int .i64 x, .int .i64 z, .slice al k cl, .int .u32 1, .int .i32 0, sm, .slice none 0 0, (.func (.func 296) #[] #[.pointer (some ⟨bs, 0, none⟩)]), v] w3 := by
    rw [hw3]
    exact Blk.set (Blk.set (show Blk b 119 #[.slice pe 0 ce, .string ⟨#[119, 111, 114, 100, 115]⟩, .slice p1 n1 c1, .slice p2 n2 c2, .int .i64 x, .int .i64 z, .slice al k cl, .int .u32 0, .int .i32 1, sm, .slice none 0 0, (.func (.func 296) #[] #[.pointer (some ⟨bs, 0, none⟩)]), v] w2.drew from hA2) 7 (.int .u32 1)) 8 (.int .i32 0)
  have hg3 : w2.grownBy w3 (some b) := by
    rw [hw3]
    exact grown_trans (grown_trans (⟨rfl, rfl, rfl, Nat.le_refl _, fun _ _ _ => rfl⟩ : w2.grownBy w2.drew (some b)) (grown_set _ b 7 _)) (grown_set _ b 8 _)
  have hbx3 : Boxed w3 bs 372 (.func (.func 200) #[] #[]) := hbx.kept hg3 (by simp; omega)
  have hrv3 := hrv.kept hg3 (.inr (row_ne_blk hrv hA2 (by decide)))
  have hg13 : w1.grownBy w3 (some b) := grown_trans (grown_trans (grown_set w1 b 8 (.int .i32 1)) hg2) hg3
  have hgcb : 0 < cs.length → gc ≠ b := fun h e => by
    have := row_ne_blk hrowc hA1 (by decide)
    rw [hac h] at this
    exact this (by simp [Value.ownBlock, e])
  have hCr3 : Cr gc 0 cs w3 := ⟨fun i hi => by
    have hp : 0 < cs.length := by omega
    have kk : ∀ o, w3.cell? ⟨gc, o, none⟩ = w1.cell? ⟨gc, o, none⟩ := fun o => hg13.cell_far ⟨gc, o, none⟩ (hgc hp) (by simpa using hgcb hp)
    rw [kk, kk, kk]; exact hCr.c i hi⟩
  have hs3 := hg13.size
  clear hw3 HM
  have e10 : w3.cell? ⟨b, 10, none⟩ = some (.slice none 0 0) := blk_cell hA3 10
  have e11 : w3.cell? ⟨b, 11, none⟩ = some (.func (.func 296) #[] #[.pointer (some ⟨bs, 0, none⟩)]) := blk_cell hA3 11
  go_wp2_with fail
  refine wp_loop_once ?_
  go_wp2_with fail
  have HF : Hid (∀ k w, Cr gc 0 cs w → k < cs.length → Calls Tryz.prog 200 #[.slice (some ⟨gc, 0, none⟩) cs.length capc, .int .i64 (k : Int)] w fun e w' => e = .returned (.int .i64 ((Pl.wsz (Pl.cdx cs) cs.length k : Nat) : Int)) ∧ w' = w) := fun k w h hk => wordSize_any gc 0 capc cs k w h hk (by omega)
  have hcut := callsIn_wide.1 (cut160_in 3 (by omega) bs gc 0 capc cs (by omega) hcap ac hac hcd (Pl.wsz (Pl.cdx cs) cs.length) (fun i h => Pl.wsz_le (Pl.cdx cs) cs.length i h) HF (Pl.wps cs) rfl w3 (fun h => by have := hgc h; omega) hbx3.lt hbx3.cell hCr3)
  have hwl : (Pl.wps cs).length ≤ 300 := by have := Pl.cutS_length (n := cs.length) (zf := Pl.wsz (Pl.cdx cs) cs.length) (hz := fun i h => Pl.wsz_le (Pl.cdx cs) cs.length i h) cs.length 0; unfold Pl.wps; omega
  refine hcut.mono ?_
  rintro e w4 ⟨hres, hB4⟩
  obtain ⟨vt, rfl, hrt⟩ : ∃ vt, e = .returned (.tuple #[vt, .bool true]) ∧ w4.ownsRow w3.heap.size 27 4 vt (Pl.wps cs).length ((Pl.toks cs 0 (Pl.wps cs)).flatMap tenc) := by
    rcases hres with ⟨_, h⟩ | ⟨h, _⟩
    · exact h
    · omega
  clear hres hcut
  have hA4 := hA3.keep (grown_of_below none hB4) (by simp)
  have hrv4 := ownsRow_below hrv3 hB4
  obtain ⟨av, capv, rfl, hcv, hpv⟩ := row_form hrv4
  have e12 : w4.cell? ⟨b, 12, none⟩ = some (.slice av k capv) := blk_cell hA4 12
  have hlen0 := Pl.toks_length cs 0 (Pl.wps cs)
  rw [← hlen0] at hrt
  obtain ⟨at_, capt, gt, rfl, hat, hgt, hTt⟩ := tr_form hrt
  go_wp2_with fail
  have hsm : ∀ t ∈ Pl.wtk cs, t.1.size ≤ 1099511627776 := fun t ht => by have := Pl.wtk_small cs t ht; omega
  have hrt0 : w4.ownsRow w.heap.size 27 4 (.slice at_ (Pl.toks cs 0 (Pl.wps cs)).length capt) (Pl.wtk cs).length ((Pl.wtk cs).flatMap tenc) := ownsRow_base hrt (by have := hgw.size; simp at this; omega)
  rw [hlen0] at hrt0
  have hgw4 : w.grownBy w4 (some b) := grown_trans (grown_trans (grown_of_below _ hB1) hg13) (grown_of_below _ hB4)
  have hwlen : (Pl.wtk cs).length ≤ 300 := by unfold Pl.wtk; rw [hlen0]; exact hwl
  clear hcv hTt hgt hat hrt
  go_loopw [10, 11, 56] (fun tk ok i wr => ∃ (j : Nat) (ts : List Tk), i = .int .i64 (j : Int) ∧ ok = .bool true ∧ j ≤ k ∧ wr.ownsRow w.heap.size 27 4 tk ts.length (ts.flatMap tenc) ∧ Hid (Pl.lows (k - j) ts = Pl.lows k (Pl.wtk cs)) ∧ ts.length ≤ 300 ∧ (j = 0 → ∀ t ∈ ts, t.1.size ≤ 1099511627776) ∧ Below w4.heap.size w4 wr) (fun _ _ i _ => k - (intOf i).toNat)
  case atStart => exact ⟨0, Pl.wtk cs, rfl, rfl, by omega, by rw [show (Pl.wps cs).length = (Pl.wtk cs).length from hlen0.symm] at hrt0 ⊢; exact hrt0, rfl, hwlen, fun _ => hsm, Below.refl _ _⟩
  case round =>
    obtain ⟨j, ts, rfl, rfl, hj, hrow, HL, h300, hsz, hB5⟩ := hrel
    by_cases hjk : j < k
    · have hjI : (j : Int) < (k : Int) := by omega
      obtain ⟨gv, rfl, hgv, hgv2, _, hcv⟩ := hpv (by omega)
      obtain rfl : j = 0 := by omega
      have hv0 : wr.cell? ⟨gv, 0, none⟩ = some (.func (.func 203) #[] #[]) := (hB5.cell (p := ⟨gv, 0, none⟩) hgv2).trans (hcv 0 _ (by rw [List.getElem?_replicate, if_pos hjk]))
      obtain ⟨a5, cap5, g5, rfl, ha5, hg5, hT5⟩ := tr_form hrow
      have hHT := low_terms ts (wr.alloc (.cells #[.func (.func 203) #[] #[]] 194)) (hsz rfl)
      have hB6 : Below wr.heap.size wr (wr.alloc (.cells #[.func (.func 203) #[] #[]] 194)) := (Below.refl _ wr).alloc (Nat.le_refl _) _
      have hch := callsIn_wide.1 (change_in 4 (by omega) 203 #[] (enters_of Tryz.func203 (by kernel_rfl) rfl) g5 cap5 ts a5 ha5 (wr.alloc (.cells #[.func (.func 203) #[] #[]] 194)) (fun h => by have := hg5 h; simp; omega) (hT5.below hB6 hg5) h300 (fun t => [Pl.smlS t]) hHT)
      rw [Pl.chg_one] at hch
      obtain ⟨k', hk'⟩ : ∃ k', k - 0 = k' + 1 := ⟨k - 1, by omega⟩
      have HL2 : Hid (Pl.lows (k - (0 + 1)) (Pl.chg (fun t => [Pl.smlS t]) ts) = Pl.lows k (Pl.wtk cs)) := by
        have := HL.out
        rw [hk'] at this
        rw [show k - (0 + 1) = k' by omega]
        exact this
      go_wp2_with fail
      refine hch.mono ?_
      rintro e w6 ⟨hres, hB7⟩
      obtain ⟨v6, rfl, hr6⟩ : ∃ v6, e = .returned (.tuple #[v6, .bool true]) ∧ w6.ownsRow (wr.alloc (.cells #[.func (.func 203) #[] #[]] 194)).heap.size 27 4 v6 ts.length ((Pl.chg (fun t => [Pl.smlS t]) ts).flatMap tenc) := by
        rcases hres with ⟨_, h⟩ | ⟨h, _⟩
        · exact h
        · omega
      have hB8 : Below w4.heap.size w4 w6 := hB5.trans ((hB6.trans (hB7.mono (by simp))).mono hB5.size)
      have hsw := hgw4.size
      have hs5 := hB5.size
      have hr7 := ownsRow_base (b' := w.heap.size) hr6 (by simp; omega)
      have hln := Pl.chg_one Pl.smlS ts
      clear hres hch hHT
      go_wp2_with fail
      go_roundw
      case rel => exact ⟨1, Pl.chg (fun t => [Pl.smlS t]) ts, by go_num, rfl, by omega, by rw [hln]; exact hr7, HL2, by omega, fun h => by omega, hB8⟩
      case measure => simp [intOf]; omega
    · have hjI : ¬ (j : Int) < (k : Int) := by omega
      have hl := HL.out
      rw [show k - j = 0 by omega] at hl
      have hl' : ts = Pl.lows k (Pl.wtk cs) := hl
      have hfin : w.grownBy wr (some b) := grown_trans hgw4 (grown_of_below _ hB5)
      go_wp2_with fail
      go_ret2
      exact ⟨_, rfl, by rw [← hl']; exact hrow, hfin⟩

end Go.Proofs.YtcmgclckknpecaaGreatDoor
