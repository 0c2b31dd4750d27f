import Derived.Test.YtcmgclckknpecaaGreatDoorHgi
import Derived.Test.YtcmgclckknpecaaGreatDoorGrc
import Derived.Laws.IdiomStrings
import Derived.Deep.AppendLies

/- The document's own side: a code as bytes. -/
namespace Go.Proofs.YtcmgclckknpecaaGreatDoor
open Go.RowKit

/-- A row of bytes just made, as a string. -/
theorem conv_new (w : World) (l : List UInt8) (cap : Nat) :
    (convert 164 9 (.slice (some ⟨w.heap.size, 0, none⟩) l.length cap)).run Tryz.prog (w.alloc (.cells ((l.map fun b => Value.int .u8 (b.toNat : Int)).toArray) 5)) = .ok (.string ⟨l.toArray⟩) (w.alloc (.cells ((l.map fun b => Value.int .u8 (b.toNat : Int)).toArray) 5)) := by
  refine run_convert_bytes_back _ 164 9 5 _ cap l Tryz.underlying164 Tryz.underlying5 Tryz.underlying9 (fun j hj => ?_)
  have hh := heap_alloc_new w (.cells ((l.map fun b => Value.int .u8 (b.toNat : Int)).toArray) 5)
  exact World.news_of_block hh j _ (by simp [hj])
theorem conv_code (w : World) (c : Nat) (zs : List Int) (hz : Lib.encodeRuneZ (c : Int) = zs) (n : Nat) (hn : zs.length = n) (A : Array Value) (hA : A = (zs.map (Value.int .u8)).toArray) (cap : Nat) :
    (convert 164 9 (.slice (some ⟨w.heap.size, 0, none⟩) n cap)).run Tryz.prog (w.alloc (.cells A 5)) = .ok (.string (Pl.en [c])) (w.alloc (.cells A 5)) := by
  have hb : Pl.eb [c] = zs.map (fun z => z.toNat.toUInt8) := by
    simp only [Pl.eb, List.flatMap_cons, List.flatMap_nil, List.append_nil, Lib.encodeRune, hz]
  have h := conv_new w (Pl.eb [c]) cap
  have e : (Pl.eb [c]).map (fun b => Value.int .u8 (b.toNat : Int)) = zs.map (Value.int .u8) := by
    rw [hb, List.map_map]
    refine List.map_congr_left (fun z hzm => ?_)
    obtain ⟨h0, h1⟩ := Lib.encodeRuneZ_byte (c : Int) z (by rw [hz]; exact hzm)
    have : z.toNat.toUInt8.toNat = z.toNat := u8nat _ (by omega)
    show Value.int .u8 ((z.toNat.toUInt8.toNat : Nat) : Int) = Value.int .u8 z
    rw [this, Int.toNat_of_nonneg h0]
  have hl : (Pl.eb [c]).length = n := by rw [hb, List.length_map, hn]
  rw [e, hl] at h
  rw [hA]
  exact h
set_option maxRecDepth 100000 in
set_option maxHeartbeats 1000000 in
theorem rby_one (c : Nat) (hc : c < 128) (w : World) : Calls Tryz.prog 81 #[.int .i64 (c : Int)] w fun e w' => e = .returned (.string (Pl.en [c])) ∧ Below w.heap.size w w' := by
  have h1 : (c : Int) < 128 := by omega
  have hcv := conv_code w c [(c : Int)] (Lib.encodeRuneZ_one (by omega) (by omega)) 1 rfl #[.int .u8 (c : Int)] rfl 1
  generalize Pl.en [c] = S at hcv ⊢
  go_enter Tryz.func81, Tryz.ntmps81
  go_wp2_with fail
  go_ret
  exact ⟨rfl, (Below.refl _ w).alloc (Nat.le_refl _) _⟩
set_option maxRecDepth 100000 in
set_option maxHeartbeats 1000000 in
theorem rby_two (c : Nat) (hc : 128 ≤ c) (hc2 : c < 2048) (w : World) : Calls Tryz.prog 81 #[.int .i64 (c : Int)] w fun e w' => e = .returned (.string (Pl.en [c])) ∧ Below w.heap.size w w' := by
  have h1 : ¬ (c : Int) < 128 := by omega
  have h2 : (c : Int) < 2048 := by omega
  have hcv := conv_code w c [192 + (c : Int) / 64, 128 + (c : Int) % 64] (Lib.encodeRuneZ_two (by omega) (by omega)) 2 rfl #[.int .u8 (192 + (c : Int) / 64), .int .u8 (128 + (c : Int) % 64)] rfl 2
  generalize Pl.en [c] = S at hcv ⊢
  go_enter Tryz.func81, Tryz.ntmps81
  go_wp2_with fail
  go_ret
  exact ⟨rfl, (Below.refl _ w).alloc (Nat.le_refl _) _⟩
set_option maxRecDepth 100000 in
set_option maxHeartbeats 1000000 in
theorem rby_three (c : Nat) (hc : 2048 ≤ c) (hc2 : c < 65536) (ho : c < 55296 ∨ 57343 < c) (w : World) : Calls Tryz.prog 81 #[.int .i64 (c : Int)] w fun e w' => e = .returned (.string (Pl.en [c])) ∧ Below w.heap.size w w' := by
  have h1 : ¬ (c : Int) < 128 := by omega
  have h2 : ¬ (c : Int) < 2048 := by omega
  have h3 : (c : Int) < 65536 := by omega
  have hcv := conv_code w c [224 + (c : Int) / 4096, 128 + (c : Int) / 64 % 64, 128 + (c : Int) % 64] (Lib.encodeRuneZ_three (by omega)) 3 rfl #[.int .u8 (224 + (c : Int) / 4096), .int .u8 (128 + (c : Int) / 64 % 64), .int .u8 (128 + (c : Int) % 64)] rfl 3
  generalize Pl.en [c] = S at hcv ⊢
  go_enter Tryz.func81, Tryz.ntmps81
  go_wp2_with fail
  go_ret
  exact ⟨rfl, (Below.refl _ w).alloc (Nat.le_refl _) _⟩
set_option maxRecDepth 100000 in
set_option maxHeartbeats 1000000 in
theorem rby_four (c : Nat) (hc : 65536 ≤ c) (hc2 : c ≤ 1114111) (w : World) : Calls Tryz.prog 81 #[.int .i64 (c : Int)] w fun e w' => e = .returned (.string (Pl.en [c])) ∧ Below w.heap.size w w' := by
  have h1 : ¬ (c : Int) < 128 := by omega
  have h2 : ¬ (c : Int) < 2048 := by omega
  have h3 : ¬ (c : Int) < 65536 := by omega
  have hcv := conv_code w c [240 + (c : Int) / 262144, 128 + (c : Int) / 4096 % 64, 128 + (c : Int) / 64 % 64, 128 + (c : Int) % 64] (Lib.encodeRuneZ_four (by omega) (by omega)) 4 rfl #[.int .u8 (240 + (c : Int) / 262144), .int .u8 (128 + (c : Int) / 4096 % 64), .int .u8 (128 + (c : Int) / 64 % 64), .int .u8 (128 + (c : Int) % 64)] rfl 4
  generalize Pl.en [c] = S at hcv ⊢
  go_enter Tryz.func81, Tryz.ntmps81
  go_wp2_with fail
  go_ret
  exact ⟨rfl, (Below.refl _ w).alloc (Nat.le_refl _) _⟩
theorem rby_any (c : Nat) (hc : Pl.okc c) (w : World) : Calls Tryz.prog 81 #[.int .i64 (c : Int)] w fun e w' => e = .returned (.string (Pl.en [c])) ∧ Below w.heap.size w w' := by
  unfold Pl.okc at hc
  by_cases h1 : c < 128
  · exact rby_one c h1 w
  · by_cases h2 : c < 2048
    · exact rby_two c (by omega) h2 w
    · by_cases h3 : c < 65536
      · exact rby_three c (by omega) h3 (by omega) w
      · exact rby_four c (by omega) (by omega) w
end Go.Proofs.YtcmgclckknpecaaGreatDoor

/- The document's own side: a token's term. -/
namespace Go.Proofs.YtcmgclckknpecaaGreatDoor
open Go.RowKit

/-- A row of codes in memory. -/
structure Co (g : Nat) (cs : List Nat) (w : World) : Prop where
  c : ∀ i (h : i < cs.length), w.cell? ⟨g, i, none⟩ = some (.int .i64 (cs[i] : Int))
theorem Co.below {g n0 : Nat} {cs : List Nat} {w w' : World} (h : Co g cs w) (hb : Below n0 w w') (hg : 0 < cs.length → g < n0) : Co g cs w' :=
  ⟨fun i hi => (hb.cell (p := ⟨g, i, none⟩) (hg (by omega))).trans (h.c i hi)⟩
theorem en_snoc (cs : List Nat) (i : Nat) (h : i < cs.length) : Pl.en (cs.take i) ++ Pl.en [cs[i]] = Pl.en (cs.take (i + 1)) := by
  have e : cs.take (i + 1) = cs.take i ++ [cs[i]] := by rw [List.take_succ_eq_append_getElem h]
  apply ByteArray.ext
  rw [e, ByteArray.data_append]
  simp only [Pl.en, Pl.eb, List.flatMap_append, List.flatMap_cons, List.flatMap_nil, List.append_nil, List.append_toArray]
set_option maxRecDepth 100000 in
set_option maxHeartbeats 1000000 in
theorem rterm_any (g cap : Nat) (cs : List Nat) (a : Option Addr) (w : World) (hC : Co g cs w) (ha : 0 < cs.length → a = some ⟨g, 0, none⟩) (hg : 0 < cs.length → g < w.heap.size) (hok : ∀ c ∈ cs, Pl.okc c) (hl : cs.length ≤ 1073741824) (x y z : Int) :
    Calls Tryz.prog 39 #[.agg #[.slice a cs.length cap, .int .i64 x, .int .i64 y, .int .i64 z]] w fun e w' => e = .returned (.string (Pl.en cs)) ∧ Below w.heap.size w w' := by
  go_enter Tryz.func39, Tryz.ntmps39
  obtain ⟨w0, hw0⟩ : ∃ w0, w.alloc (.cells #[.slice a cs.length cap, .int .i64 x, .int .i64 y, .int .i64 z] 128) = w0 := ⟨_, rfl⟩
  have hB0 : Below w.heap.size w w0 := by rw [← hw0]; exact (Below.refl _ w).alloc (Nat.le_refl _) _
  have hsz0 : w0.heap.size = w.heap.size + 1 := by rw [← hw0]; simp
  have ht0 : w0.cell? ⟨w.heap.size, 0, none⟩ = some (.slice a cs.length cap) := by rw [← hw0]; simp [go_sem]
  have hC0 := hC.below hB0 hg
  go_wp2_with fail
  go_loopw [3, 4] (fun s i wr => ∃ j : Nat, i = .int .i64 (j : Int) ∧ s = .string (Pl.en (cs.take j)) ∧ j ≤ cs.length ∧ Below w0.heap.size w0 wr) (fun _ i _ => cs.length - (intOf i).toNat)
  case atStart => exact ⟨0, rfl, rfl, by omega, Below.refl _ _⟩
  case round =>
    obtain ⟨j, rfl, rfl, hj, hB⟩ := hrel
    by_cases hjl : j < cs.length
    · have hjI : (j : Int) < (cs.length : Int) := by omega
      obtain rfl := ha (by omega)
      have hc := (hC0.below hB (fun h => by have := hg h; omega)).c j hjl
      have ht := (hB.cell (p := ⟨w.heap.size, 0, none⟩) (by show w.heap.size < _; omega)).trans ht0
      have hs := en_snoc cs j hjl
      have hk := hok _ (List.getElem_mem hjl)
      obtain ⟨d, hd⟩ : ∃ d, cs[j] = d := ⟨_, rfl⟩
      rw [hd] at hc hs hk
      have HS : Hid (Pl.en (cs.take j) ++ Pl.en [d] = Pl.en (cs.take (j + 1))) := hs
      clear hs
      go_wp2_with fail
      refine (rby_any d hk _).mono ?_
      rintro e w2 ⟨rfl, hB2⟩
      have hB3 : Below w0.heap.size w0 w2 := hB.trans (hB2.mono hB.size)
      go_wp2_with fail
      · exfalso
        rename_i hbig
        rw [Pl.en_size, Pl.en_size] at hbig
        have e1 := (Pl.eb_le (cs.take j)).2
        have e2 := (Pl.eb_le [d]).2
        have e3 : (cs.take j).length ≤ cs.length := by simp; omega
        simp only [List.length_singleton] at e2
        omega
      exact ⟨⟨j + 1, by go_num, by rw [← HS.out], by omega, hB3⟩, by simp [intOf]; omega⟩
    · have hjI : ¬ (j : Int) < (cs.length : Int) := by omega
      have he : cs.take j = cs := List.take_of_length_le (by omega)
      rw [he]
      have ht := (hB.cell (p := ⟨w.heap.size, 0, none⟩) (by show w.heap.size < _; omega)).trans ht0
      go_wp2_with fail
      go_ret
      exact ⟨rfl, hB0.trans (hB.mono (by omega))⟩
end Go.Proofs.YtcmgclckknpecaaGreatDoor
