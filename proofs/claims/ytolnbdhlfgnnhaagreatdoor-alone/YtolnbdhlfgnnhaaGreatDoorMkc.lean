import Derived.Test.YtolnbdhlfgnnhaaGreatDoorOnc
import Derived.Test.YtolnbdhlfgnnhaaGreatDoorWch
import Derived.Laws.EntriesVeiled
namespace Go.Proofs.YtolnbdhlfgnnhaaGreatDoor
open Go.RowKit

theorem rows_any (F : Nat) (w : World) : Calls Tryz.prog 159 #[.func (.func F) #[] #[]] w fun e w' => e = .returned (.func (.func 229) #[] #[.pointer (some ⟨w.heap.size, 0, none⟩)]) ∧ w' = w.alloc (.cells #[.func (.func F) #[] #[]] 333) := by
  go_enter Tryz.func159, Tryz.ntmps159
  go_wp2
  go_ret
  exact ⟨rfl, rfl⟩

theorem res101 {tmps : Array Value} {w : World} {b : Nat} {v : Value} (hp : tmps[2]? = some (.pointer (some ⟨b, 0, none⟩))) (hc : w.cell? ⟨b, 0, none⟩ = some v) : (results Tryz.f101 tmps).run Tryz.prog w = .ok (.agg #[v]) w := by
  simp [results, Tryz.results101, go_sem, hp, hc]
theorem res102 {tmps : Array Value} {w : World} {b : Nat} {v : Value} (hp : tmps[2]? = some (.pointer (some ⟨b, 0, none⟩))) (hc : w.cell? ⟨b, 0, none⟩ = some v) : (results Tryz.f102 tmps).run Tryz.prog w = .ok (.agg #[v]) w := by
  simp [results, Tryz.results102, go_sem, hp, hc]

set_option maxRecDepth 100000 in
set_option maxHeartbeats 1000000 in
theorem makeCutter_words (p1 p2 : Option Addr) (n1 c1 n2 c2 : Nat) (x z : Int) (w : World) :
    Calls Tryz.prog 101 #[.agg #[.string ⟨#[119, 111, 114, 100, 115]⟩, .slice p1 n1 c1, .slice p2 n2 c2, .int .i64 x, .int .i64 z]] w fun e w' => ∃ bs, e = .returned (.agg #[.func (.func 229) #[] #[.pointer (some ⟨bs, 0, none⟩)]]) ∧ Boxed w' bs 333 (.func (.func 160) #[] #[]) ∧ w.heap.size ≤ bs ∧ Below w.heap.size w w' := by
  have bx : Boxed ((w.alloc (.cells #[.string ⟨#[119, 111, 114, 100, 115]⟩, .slice p1 n1 c1, .slice p2 n2 c2, .int .i64 x, .int .i64 z] 92)).alloc (.cells #[(.func (.func 229) #[] #[.pointer (some ⟨w.heap.size + 1 + 1, 0, none⟩)])] 112)) (w.heap.size + 1) 112 (.func (.func 229) #[] #[.pointer (some ⟨w.heap.size + 1 + 1, 0, none⟩)]) := by
    have := Boxed.new (w.alloc (.cells #[.string ⟨#[119, 111, 114, 100, 115]⟩, .slice p1 n1 c1, .slice p2 n2 c2, .int .i64 x, .int .i64 z] 92)) 112 (.func (.func 229) #[] #[.pointer (some ⟨w.heap.size + 1 + 1, 0, none⟩)])
    simpa using this
  have by1 := bx.alloc (.cells #[.func (.func 160) #[] #[]] 333)
  have bz : Boxed (((w.alloc (.cells #[.string ⟨#[119, 111, 114, 100, 115]⟩, .slice p1 n1 c1, .slice p2 n2 c2, .int .i64 x, .int .i64 z] 92)).alloc (.cells #[(.func (.func 229) #[] #[.pointer (some ⟨w.heap.size + 1 + 1, 0, none⟩)])] 112)).alloc (.cells #[.func (.func 160) #[] #[]] 333)) (w.heap.size + 1 + 1) 333 (.func (.func 160) #[] #[]) := by
    have := Boxed.new ((w.alloc (.cells #[.string ⟨#[119, 111, 114, 100, 115]⟩, .slice p1 n1 c1, .slice p2 n2 c2, .int .i64 x, .int .i64 z] 92)).alloc (.cells #[(.func (.func 229) #[] #[.pointer (some ⟨w.heap.size + 1 + 1, 0, none⟩)])] 112)) 333 (.func (.func 160) #[] #[])
    simpa using this
  go_enter Tryz.func101, Tryz.ntmps101
  go_wp2_with (go_at_call 159; refine (rows_any 160 _).mono ?_; rintro e w' ⟨rfl, rfl⟩)
  have hB : Below w.heap.size w (((w.alloc (.cells #[.string ⟨#[119, 111, 114, 100, 115]⟩, .slice p1 n1 c1, .slice p2 n2 c2, .int .i64 x, .int .i64 z] 92)).alloc (.cells #[(.func (.func 229) #[] #[.pointer (some ⟨w.heap.size + 1 + 1, 0, none⟩)])] 112)).alloc (.cells #[.func (.func 160) #[] #[]] 333)) := ((Below.refl _ w).alloc (Nat.le_refl _) _).alloc (by simp) _ |>.alloc (by simp; omega) _
  refine bodyPost_ret (res101 rfl by1.cell) rfl ?_
  exact ⟨w.heap.size + 1 + 1, rfl, bz, by omega, hB⟩

set_option maxRecDepth 100000 in
set_option maxHeartbeats 1000000 in
theorem makeLate_low (p1 p2 : Option Addr) (n1 c1 n2 c2 : Nat) (x z : Int) (w : World) :
    Calls Tryz.prog 102 #[.agg #[.string ⟨#[108, 111, 119]⟩, .slice p1 n1 c1, .slice p2 n2 c2, .int .i64 x, .int .i64 z]] w fun e w' => e = .returned (.agg #[.func (.func 163) #[] #[]]) ∧ Below w.heap.size w w' := by
  have bx : Boxed ((w.alloc (.cells #[.string ⟨#[108, 111, 119]⟩, .slice p1 n1 c1, .slice p2 n2 c2, .int .i64 x, .int .i64 z] 92)).alloc (.cells #[.func (.func 163) #[] #[]] 171)) (w.heap.size + 1) 171 (.func (.func 163) #[] #[]) := by
    have := Boxed.new (w.alloc (.cells #[.string ⟨#[108, 111, 119]⟩, .slice p1 n1 c1, .slice p2 n2 c2, .int .i64 x, .int .i64 z] 92)) 171 (.func (.func 163) #[] #[])
    simpa using this
  go_enter Tryz.func102, Tryz.ntmps102
  go_wp2
  have hB : Below w.heap.size w ((w.alloc (.cells #[.string ⟨#[108, 111, 119]⟩, .slice p1 n1 c1, .slice p2 n2 c2, .int .i64 x, .int .i64 z] 92)).alloc (.cells #[.func (.func 163) #[] #[]] 171)) := ((Below.refl _ w).alloc (Nat.le_refl _) _).alloc (by simp) _
  refine bodyPost_ret (res102 rfl bx.cell) rfl ?_
  exact ⟨rfl, hB⟩

end Go.Proofs.YtolnbdhlfgnnhaaGreatDoor
