/- Trials: how many tests a set has. -/
import Derived.Test.YtkmacpkjobdffaaTiQ
namespace Go.Proofs.Ytkmacpkjobdffaa
open Go.RowKit Go.Maps
theorem ret_iT {u : Value} {a b : Int} (hu : u = .int .i64 a) (h : a = b) : Ending.returned u = Ending.returned (.int .i64 b) := by rw [hu, h]
set_option maxRecDepth 100000 in
set_option maxHeartbeats 4000000 in
theorem ones64_any (s : Nat) (hs : s < 64) (w : World) : Calls Try.prog 81 #[.int .u64 s] w fun e w' => e = .returned (.int .i64 ((Ti.listTo s 6).length : Int)) ∧ Below w.heap.size w w' := by
  go_enter Try.func81, Try.ntmps81
  go_wp2_with fail
  go_returns
  refine ⟨ret_iT rfl ?_, Below.refl _ _⟩
  clear w
  revert s
  decide +kernel
set_option maxHeartbeats 4000000 in
theorem ones_any (s : Nat) (hs : s < 64) (w : World) : Calls Try.prog 70 #[.int .u64 s] w fun e w' => e = .returned (.int .i64 ((Ti.listTo s 6).length : Int)) ∧ Below w.heap.size w w' := by
  have H := Lib.hid (fun W => ones64_any s hs W)
  generalize (Ti.listTo s 6).length = L at *
  go_enter Try.func70, Try.ntmps70
  go_wp2_with fail
  refine (H.out _).mono ?_
  rintro e w2 ⟨rfl, hb2⟩
  go_wp2_with fail
  go_returns
  exact ⟨rfl, hb2⟩
set_option maxHeartbeats 4000000 in
theorem count_any (s : Nat) (hs : s < 64) (w : World) : Calls Try.prog 48 #[.int .u64 s] w fun e w' => e = .returned (.int .i64 ((Ti.listTo s 6).length : Int)) ∧ Below w.heap.size w w' := by
  have H := Lib.hid (fun W => ones_any s hs W)
  generalize (Ti.listTo s 6).length = L at *
  go_enter Try.func48, Try.ntmps48
  go_wp2_with fail
  refine (H.out _).mono ?_
  rintro e w2 ⟨rfl, hb2⟩
  go_wp2_with fail
  go_returns
  exact ⟨rfl, hb2⟩
end Go.Proofs.Ytkmacpkjobdffaa
