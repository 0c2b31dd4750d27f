import Derived.Test.YtcmgclckknpecaaGreatDoorRows
import Derived.Tactics
import Derived.Tactics2
import Derived.WalkKit
import Derived.Defers
import Derived.Laws.Pointers
import Derived.Laws.LoneSync
import Derived.Laws.NewBlocks
import Derived.RegionTactic
import Derived.RegionCalls
namespace Go.Proofs.YtcmgclckknpecaaGreatDoor
open Go.RowKit

theorem sy_disable (w : World) : (callFunc 239 #[]).run Tryz.prog w = .ok (.value (.tuple #[])) w := run_call_mark0 Tryz.func239 (by kernel_rfl) (by kernel_rfl) (by kernel_rfl) .disable (by kernel_rfl) w
theorem sy_enable (w : World) : (callFunc 241 #[]).run Tryz.prog w = .ok (.value (.tuple #[])) w := run_call_mark0 Tryz.func241 (by kernel_rfl) (by kernel_rfl) (by kernel_rfl) .enable (by kernel_rfl) w
theorem sy_acquire (a : Addr) (w : World) : (callFunc 242 #[.pointer (some a)]).run Tryz.prog w = .ok (.value (.tuple #[])) w := run_call_marked Tryz.func242 (by kernel_rfl) (by kernel_rfl) (by kernel_rfl) .acquire (by kernel_rfl) a w
theorem sy_releaseMerge (a : Addr) (w : World) : (callFunc 325 #[.pointer (some a)]).run Tryz.prog w = .ok (.value (.tuple #[])) w := run_call_marked Tryz.func325 (by kernel_rfl) (by kernel_rfl) (by kernel_rfl) .releaseMerge (by kernel_rfl) a w

theorem store_deferred (a : Addr) (x : Value) (u : FrameMode) (w : World) (hc : w.cell? a = some x) (hz : w.frozen? a = false) :
    CallsD Tryz.prog 194 #[.pointer (some a), .bool true] u w fun e u' w' => u' = u ∧ (e = .returned (.tuple #[]) ∧ w' = w.drew.setCell a (.int .u32 1)) := by
  have hc' : w.drew.cell? a = some x := by go_simp
  have hz' : w.drew.frozen? a = false := by go_simp
  have hst := run_call_store (P := Tryz.prog) Tryz.func290 (by kernel_rfl) (by kernel_rfl) (by kernel_rfl) (by kernel_rfl) (k := .u32) (y := 1) hc' hz'
  go_enter_d Tryz.func194, Tryz.ntmps194
  go_wp2
  go_region_calls
  all_goals (go_end0; exact ⟨rfl, rfl⟩)

set_option maxRecDepth 100000 in
theorem unlock_deferred (a : Addr) (u : FrameMode) (w : World) (hc : w.cell? a = some (.int .i32 1)) (hz : w.frozen? a = false) :
    CallsD Tryz.prog 193 #[.pointer (some a)] u w fun e u' w' => u' = u ∧ (e = .returned (.tuple #[]) ∧ w' = w.setCell a (.int .i32 0)) := by
  have hd := sy_disable
  have he := sy_enable
  have hr := sy_releaseMerge
  have hadd := run_call_add (P := Tryz.prog) Tryz.func361 (by kernel_rfl) (by kernel_rfl) (by kernel_rfl) .i32 (by kernel_rfl) (y := -1) (s := 0) hc hz (by simp [go_sem]; rfl)
  have hcv := run_convert_to_unsafe (P := Tryz.prog) (src := 476) (dst := 345) Tryz.underlying476 Tryz.underlying345 (by kernel_rfl) hc
  go_enter_d Tryz.func193, Tryz.ntmps193
  go_wp2
  go_end0
  go_wp2
  go_end0
  exact ⟨rfl, rfl⟩

set_option maxRecDepth 100000 in
theorem lock_free (a : Addr) (w : World) (hc : w.cell? a = some (.int .i32 0)) (hz : w.frozen? a = false) :
    Calls Tryz.prog 192 #[.pointer (some a)] w fun e w' => e = .returned (.tuple #[]) ∧ w' = w.setCell a (.int .i32 1) := by
  have hd := sy_disable
  have he := sy_enable
  have ha := sy_acquire
  have hcas := run_call_cas_hit (P := Tryz.prog) Tryz.func359 (by kernel_rfl) (by kernel_rfl) (by kernel_rfl) .i32 (by kernel_rfl) (y := 1) hc hz
  have hc' : (w.setCell a (.int .i32 1)).cell? a = some (.int .i32 1) := World.cell?_setCell_same w a _ hc
  have hcv := run_convert_to_unsafe (P := Tryz.prog) (src := 476) (dst := 345) Tryz.underlying476 Tryz.underlying345 (by kernel_rfl) hc'
  go_enter Tryz.func192, Tryz.ntmps192
  go_wp2
  first | go_end0 | (simp only [Exit.inBlock, Exit.then]; refine bodyPost_ret (results_none rfl _ _ _) rfl ?_) | refine bodyPost_ret (results_none rfl _ _ _) rfl ?_
  go_wp2
  go_end0
  exact ⟨rfl, rfl⟩

set_option maxRecDepth 100000 in
set_option maxHeartbeats 1600000 in
/-- The slow way of once.Do: of the function it is asked that it leaves the two cells as they are. -/
theorem slow_any (b : Nat) (w : World) (M : World → Prop) (h0 : w.cell? ⟨b, 7, none⟩ = some (.int .u32 0)) (h1 : w.cell? ⟨b, 8, none⟩ = some (.int .i32 0)) (f1 : w.frozen? ⟨b, 8, none⟩ = false)
    (HM : Hid (Calls Tryz.prog 66 #[.pointer (some ⟨b, 0, none⟩)] (w.setCell ⟨b, 8, none⟩ (.int .i32 1)) fun e w2 => e = .returned (.tuple #[]) ∧ M w2 ∧ w2.cell? ⟨b, 7, none⟩ = some (.int .u32 0) ∧ w2.cell? ⟨b, 8, none⟩ = some (.int .i32 1) ∧ (∀ o, w2.frozen? ⟨b, o, none⟩ = false))) :
    Calls Tryz.prog 126 #[.pointer (some ⟨b, 7, none⟩), .func (.func 66) #[.pointer (some ⟨b, 0, none⟩)] #[]] w fun e w' => e = .returned (.tuple #[]) ∧ ∃ w2, M w2 ∧ w2.cell? ⟨b, 8, none⟩ = some (.int .i32 1) ∧ w' = (w2.drew.setCell ⟨b, 7, none⟩ (.int .u32 1)).setCell ⟨b, 8, none⟩ (.int .i32 0) := by
  have hl := run_call_load (P := Tryz.prog) Tryz.func191 (by kernel_rfl) (by kernel_rfl) (by kernel_rfl) .u32 (by kernel_rfl) (w := w.setCell ⟨b, 8, none⟩ (.int .i32 1)) (a := ⟨b, 7, none⟩) (x := 0) ((World.cell?_setCell_other _ ⟨b, 8, none⟩ ⟨b, 7, none⟩ _ (by simp)).trans h0)
  have hnot : ∀ (x : Bool) (w : World), (Op.unary .not (.bool x)).run Tryz.prog w = .ok (.bool (!x)) w := fun _ _ => rfl
  go_enter_defers Tryz.func126, Tryz.ntmps126
  go_wp2_with (first
    | (go_at_call 192; refine (lock_free ⟨b, 8, none⟩ _ (by go_simp) (by go_simp)).mono ?_; rintro e w' ⟨rfl, rfl⟩)
    | (go_at_call 125; go_in))
  refine HM.out.mono ?_
  rintro e w2 ⟨rfl, hM2, c7, c8, fz⟩
  go_wp2
  refine leaves_cons (f := 194) (args := #[.pointer (some ⟨b, 7, none⟩), .bool true]) (by simp) (by simp [go_sem]) ?_
  refine (store_deferred ⟨b, 7, none⟩ (.int .u32 0) .returning _ c7 (fz 7)).mono ?_
  rintro e u' w'' ⟨rfl, rfl, rfl⟩
  refine leaves_cons (f := 193) (args := #[.pointer (some ⟨b, 8, none⟩)]) (by simp [settle]) (by simp [go_sem]) ?_
  refine (unlock_deferred ⟨b, 8, none⟩ _ _ ((World.cell?_setCell_other _ ⟨b, 7, none⟩ ⟨b, 8, none⟩ _ (by simp)).trans (by rw [World.cell?_drew]; exact c8)) (by simp [fz 8])).mono ?_
  rintro e u' w'' ⟨rfl, rfl, rfl⟩
  exact ⟨.tuple #[], by simp [results, Tryz.results126], rfl, w2, hM2, c8, rfl⟩

set_option maxRecDepth 100000 in
set_option maxHeartbeats 1600000 in
theorem do_first (b : Nat) (w : World) (M : World → Prop) (h0 : w.cell? ⟨b, 7, none⟩ = some (.int .u32 0)) (h1 : w.cell? ⟨b, 8, none⟩ = some (.int .i32 0)) (f1 : w.frozen? ⟨b, 8, none⟩ = false)
    (HM : Hid (Calls Tryz.prog 66 #[.pointer (some ⟨b, 0, none⟩)] (w.setCell ⟨b, 8, none⟩ (.int .i32 1)) fun e w2 => e = .returned (.tuple #[]) ∧ M w2 ∧ w2.cell? ⟨b, 7, none⟩ = some (.int .u32 0) ∧ w2.cell? ⟨b, 8, none⟩ = some (.int .i32 1) ∧ (∀ o, w2.frozen? ⟨b, o, none⟩ = false))) :
    Calls Tryz.prog 65 #[.pointer (some ⟨b, 7, none⟩), .func (.func 66) #[.pointer (some ⟨b, 0, none⟩)] #[]] w fun e w' => e = .returned (.tuple #[]) ∧ ∃ w2, M w2 ∧ w2.cell? ⟨b, 8, none⟩ = some (.int .i32 1) ∧ w' = (w2.drew.setCell ⟨b, 7, none⟩ (.int .u32 1)).setCell ⟨b, 8, none⟩ (.int .i32 0) := by
  have hl := run_call_load (P := Tryz.prog) Tryz.func191 (by kernel_rfl) (by kernel_rfl) (by kernel_rfl) .u32 (by kernel_rfl) h0
  have hnot : ∀ (x : Bool) (w : World), (Op.unary .not (.bool x)).run Tryz.prog w = .ok (.bool (!x)) w := fun _ _ => rfl
  go_enter Tryz.func65, Tryz.ntmps65
  go_wp2_with (first
    | (go_at_call 126; refine (slow_any b _ M h0 h1 f1 HM).mono ?_; rintro e w' ⟨rfl, hw'⟩)
    | (go_at_call 125; go_in))
  go_end0
  exact ⟨rfl, hw'⟩

end Go.Proofs.YtcmgclckknpecaaGreatDoor
