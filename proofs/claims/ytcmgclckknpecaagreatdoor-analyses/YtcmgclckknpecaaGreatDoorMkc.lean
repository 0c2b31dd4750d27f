import Derived.Test.YtcmgclckknpecaaGreatDoorOnc
import Derived.Test.YtcmgclckknpecaaGreatDoorHgc
import Derived.Laws.EntriesVeiled
namespace Go.Proofs.YtcmgclckknpecaaGreatDoor
open Go.RowKit

theorem rows_any (F : Nat) (w : World) : Calls Tryz.prog 199 #[.func (.func F) #[] #[]] w fun e w' => e = .returned (.func (.func 296) #[] #[.pointer (some ⟨w.heap.size, 0, none⟩)]) ∧ w' = w.alloc (.cells #[.func (.func F) #[] #[]] 372) := by
  go_enter Tryz.func199, Tryz.ntmps199
  go_wp2
  go_ret
  exact ⟨rfl, rfl⟩

theorem res101 {tmps : Array Value} {w : World} {b : Nat} {v : Value} (hp : tmps[2]? = some (.pointer (some ⟨b, 0, none⟩))) (hc : w.cell? ⟨b, 0, none⟩ = some v) : (results Tryz.f128 tmps).run Tryz.prog w = .ok (.agg #[v]) w := by
  simp [results, Tryz.results128, go_sem, hp, hc]
theorem res102 {tmps : Array Value} {w : World} {b : Nat} {v : Value} (hp : tmps[2]? = some (.pointer (some ⟨b, 0, none⟩))) (hc : w.cell? ⟨b, 0, none⟩ = some v) : (results Tryz.f129 tmps).run Tryz.prog w = .ok (.agg #[v]) w := by
  simp [results, Tryz.results129, go_sem, hp, hc]

set_option maxRecDepth 100000 in
set_option maxHeartbeats 1000000 in
theorem makeCutter_words (p1 p2 : Option Addr) (n1 c1 n2 c2 : Nat) (x z : Int) (w : World) :
    Calls Tryz.prog 128 #[.agg #[.string ⟨#[119, 111, 114, 100, 115]⟩, .slice p1 n1 c1, .slice p2 n2 c2, .int .i64 x, .int .i64 z]] w fun e w' => ∃ bs, e = .returned (.agg #[.func (.func 296) #[] #[.pointer (some ⟨bs, 0, none⟩)]]) ∧ Boxed w' bs 372 (.func (.func 200) #[] #[]) ∧ w.heap.size ≤ bs ∧ Below w.heap.size w w' := by
  have bx : Boxed ((w.alloc (.cells #[.string ⟨#[119, 111, 114, 100, 115]⟩, .slice p1 n1 c1, .slice p2 n2 c2, .int .i64 x, .int .i64 z] 96)).alloc (.cells #[(.func (.func 296) #[] #[.pointer (some ⟨w.heap.size + 1 + 1, 0, none⟩)])] 116)) (w.heap.size + 1) 116 (.func (.func 296) #[] #[.pointer (some ⟨w.heap.size + 1 + 1, 0, none⟩)]) := by
    have := Boxed.new (w.alloc (.cells #[.string ⟨#[119, 111, 114, 100, 115]⟩, .slice p1 n1 c1, .slice p2 n2 c2, .int .i64 x, .int .i64 z] 96)) 116 (.func (.func 296) #[] #[.pointer (some ⟨w.heap.size + 1 + 1, 0, none⟩)])
    simpa using this
  have by1 := bx.alloc (.cells #[.func (.func 200) #[] #[]] 372)
  have bz : Boxed (((w.alloc (.cells #[.string ⟨#[119, 111, 114, 100, 115]⟩, .slice p1 n1 c1, .slice p2 n2 c2, .int .i64 x, .int .i64 z] 96)).alloc (.cells #[(.func (.func 296) #[] #[.pointer (some ⟨w.heap.size + 1 + 1, 0, none⟩)])] 116)).alloc (.cells #[.func (.func 200) #[] #[]] 372)) (w.heap.size + 1 + 1) 372 (.func (.func 200) #[] #[]) := by
    have := Boxed.new ((w.alloc (.cells #[.string ⟨#[119, 111, 114, 100, 115]⟩, .slice p1 n1 c1, .slice p2 n2 c2, .int .i64 x, .int .i64 z] 96)).alloc (.cells #[(.func (.func 296) #[] #[.pointer (some ⟨w.heap.size + 1 + 1, 0, none⟩)])] 116)) 372 (.func (.func 200) #[] #[])
    simpa using this
  go_enter Tryz.func128, Tryz.ntmps128
  go_wp2_with (go_at_call 199; refine (rows_any 200 _).mono ?_; rintro e w' ⟨rfl, rfl⟩)
  have hB : Below w.heap.size w (((w.alloc (.cells #[.string ⟨#[119, 111, 114, 100, 115]⟩, .slice p1 n1 c1, .slice p2 n2 c2, .int .i64 x, .int .i64 z] 96)).alloc (.cells #[(.func (.func 296) #[] #[.pointer (some ⟨w.heap.size + 1 + 1, 0, none⟩)])] 116)).alloc (.cells #[.func (.func 200) #[] #[]] 372)) := ((Below.refl _ w).alloc (Nat.le_refl _) _).alloc (by simp) _ |>.alloc (by simp; omega) _
  refine bodyPost_ret (res101 rfl by1.cell) rfl ?_
  exact ⟨w.heap.size + 1 + 1, rfl, bz, by omega, hB⟩

set_option maxRecDepth 100000 in
set_option maxHeartbeats 1000000 in
theorem makeLate_low (p1 p2 : Option Addr) (n1 c1 n2 c2 : Nat) (x z : Int) (w : World) :
    Calls Tryz.prog 129 #[.agg #[.string ⟨#[108, 111, 119]⟩, .slice p1 n1 c1, .slice p2 n2 c2, .int .i64 x, .int .i64 z]] w fun e w' => e = .returned (.agg #[.func (.func 203) #[] #[]]) ∧ Below w.heap.size w w' := by
  have bx : Boxed ((w.alloc (.cells #[.string ⟨#[108, 111, 119]⟩, .slice p1 n1 c1, .slice p2 n2 c2, .int .i64 x, .int .i64 z] 96)).alloc (.cells #[.func (.func 203) #[] #[]] 194)) (w.heap.size + 1) 194 (.func (.func 203) #[] #[]) := by
    have := Boxed.new (w.alloc (.cells #[.string ⟨#[108, 111, 119]⟩, .slice p1 n1 c1, .slice p2 n2 c2, .int .i64 x, .int .i64 z] 96)) 194 (.func (.func 203) #[] #[])
    simpa using this
  go_enter Tryz.func129, Tryz.ntmps129
  go_wp2
  have hB : Below w.heap.size w ((w.alloc (.cells #[.string ⟨#[108, 111, 119]⟩, .slice p1 n1 c1, .slice p2 n2 c2, .int .i64 x, .int .i64 z] 96)).alloc (.cells #[.func (.func 203) #[] #[]] 194)) := ((Below.refl _ w).alloc (Nat.le_refl _) _).alloc (by simp) _
  refine bodyPost_ret (res102 rfl bx.cell) rfl ?_
  exact ⟨rfl, hB⟩

end Go.Proofs.YtcmgclckknpecaaGreatDoor
