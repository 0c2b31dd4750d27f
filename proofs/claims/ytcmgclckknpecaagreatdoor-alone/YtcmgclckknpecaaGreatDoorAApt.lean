import Derived.Test.YtcmgclckknpecaaGreatDoorAApw
import Derived.Test.YtcmgclckknpecaaGreatDoorAAna
namespace Go.Proofs.YtcmgclckknpecaaGreatDoor
namespace Pl

def lw : Nat → ByteArray → ByteArray
  | 0, t => t
  | _ + 1, t => smlS t
theorem lows_map (K : Nat) (hK : K ≤ 1) (ts : List Tk) : lows K ts = ts.map fun t => (lw K t.1, t.2) := by
  obtain rfl | rfl : K = 0 ∨ K = 1 := by omega
  · show ts = ts.map fun t => (t.1, t.2)
    simp
  · show chg (fun t => [smlS t]) ts = ts.map fun t => (smlS t.1, t.2)
    induction ts with
    | nil => rfl
    | cons x r ih => simp only [chg, List.flatMap_cons, List.map_cons, List.map_nil, List.cons_append, List.nil_append] at ih ⊢; rw [ih]
theorem toks_get (cs : List (Nat × Nat × Nat)) {n : Nat} : ∀ (l : List (Pce n)) (i j : Nat) (h : j < l.length), (toks cs i l)[j]? = some (tok cs (i + j) (l[j]).1)
  | x :: r, i, 0, _ => rfl
  | x :: r, i, j + 1, h => by
    have := toks_get cs r (i + 1) j (by simpa using h)
    simp only [toks, List.getElem?_cons_succ, this, List.getElem_cons_succ]
    rw [show i + 1 + j = i + (j + 1) by omega]

/-- What the tokens of a text are, each taken apart alone. -/
theorem alone_all (K : Nat) (hK : K ≤ 1) (s : ByteArray) (ts : List Tk) (h : lows K (wtk (Pl.cs (bt s) s.size s.size 0)) = ts) (j : Nat) (hj : j < ts.length) :
    ∃ t F T, ts[j]? = some (t, j, F, T) ∧ F < T ∧ T ≤ s.size ∧ lows K (wtk (Pl.cs (bt (s.extract F T)) (s.extract F T).size (s.extract F T).size 0)) = [(t, 0, 0, T - F)] ∧ (K = 0 → t = s.extract F T) := by
  obtain ⟨l, hl⟩ : ∃ l, Pl.cs (bt s) s.size s.size 0 = l := ⟨_, rfl⟩
  rw [hl, lows_map K hK] at h
  subst h
  rw [List.length_map, wtk, toks_length] at hj
  have hg := toks_get l (wps l) 0 j hj
  have hm := cutS_mem _ _ _ (show (wps l)[j] ∈ wps l from List.getElem_mem hj)
  obtain ⟨⟨⟨i, z⟩, hp⟩, hx⟩ : ∃ x, (wps l)[j] = x := ⟨_, rfl⟩
  rw [hx] at hg hm
  simp only at hm hp hg
  have ha := alone_tok s l hl i z _ _ hm.1 hm.2.symm hp.1 rfl rfl
  refine ⟨lw K ⟨(tbs (sub l i z)).toArray⟩, frx l i, tox l (i + z - 1), ?_, ha.1, ha.2.1, ?_, ?_⟩
  · rw [List.getElem?_map, wtk, hg]
    simp only [tok, Option.map_some, Nat.zero_add]
  · rw [lows_map K hK, ha.2.2.2]
    rfl
  · rintro rfl
    show (⟨(tbs (sub l i z)).toArray⟩ : ByteArray) = _
    rw [ha.2.2.1]
theorem alone_a (K : Nat) (hK : K ≤ 1) : lows K (wtk (Pl.cs (bt ⟨#[97]⟩) (⟨#[97]⟩ : ByteArray).size (⟨#[97]⟩ : ByteArray).size 0)) = [(⟨#[97]⟩, 0, 0, 1)] := by
  obtain rfl | rfl : K = 0 ∨ K = 1 := by omega
  · decide +kernel
  · decide +kernel

end Pl
end Go.Proofs.YtcmgclckknpecaaGreatDoor
