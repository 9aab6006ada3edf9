/- Sheets: the small functions. -/
import Derived.Test.YtgpmnkdagpcffaaLoops
import Derived.Test.YtgpmnkdagpcffaaFence3
import Derived.Test.YtgpmnkdagpcffaaPairs
namespace Go.Proofs.Ytgpmnkdagpcffaa
open Go.RowKit
namespace Sh
/-- A control: its way, what is true, what was read, and how far it can be off. -/
abbrev Ct := Int × Int × Int × Int
abbrev Fa := Int × Int
def spanB (l h : Int) : Bool := (decide (900 ≤ l) && decide (l ≤ h)) && decide (h ≤ 1100)
def wayB (n : Int) : Bool := decide (n = 1) || decide (n = 2)
def ctB (c : Ct) : Bool := ((wayB c.1 && inB c.2.1 1 9999) && inB c.2.2.1 0 9999) && inB c.2.2.2 0 9999
def ofV (f : Fa) (way : Int) : Int := if way = 1 then f.1 else f.2
def dist (a b : Int) : Int := max (a - b) (b - a)
def fitB (f : Fa) (c : Ct) : Bool := decide (dist (c.2.1 * ofV f c.1) (1000 * c.2.2.1) ≤ 1000 * c.2.2.2)
def fsm (f : Fa) : Prop := (1 ≤ f.1 ∧ f.1 ≤ 2000) ∧ (1 ≤ f.2 ∧ f.2 ≤ 2000)
def csm (c : Ct) : Prop := (-10000 ≤ c.2.1 ∧ c.2.1 ≤ 10000) ∧ (-10000 ≤ c.2.2.1 ∧ c.2.2.1 ≤ 10000) ∧ (-10000 ≤ c.2.2.2 ∧ c.2.2.2 ≤ 10000)
theorem ctB_sm {c : Ct} (h : ctB c = true) : csm c := by
  unfold ctB inB at h
  simp at h
  unfold csm
  omega
end Sh
set_option maxHeartbeats 400000 in
theorem within_any (n l h : Int) (w : World) : Calls Try.prog 82 #[.int .i64 n, .int .i64 l, .int .i64 h] w fun e w' => e = .returned (.bool (inB n l h)) ∧ w' = w := by
  go_enter Try.func82, Try.ntmps82
  go_wp2
  all_goals
    go_ret
    refine ⟨ret_b ?_, rfl⟩
    rw [Bool.eq_iff_iff]
    simp [inB]
    try omega
set_option maxHeartbeats 400000 in
theorem isWay_any (n : Int) (w : World) : Calls Try.prog 63 #[.int .i64 n] w fun e w' => e = .returned (.bool (Sh.wayB n)) ∧ w' = w := by
  go_enter Try.func63, Try.ntmps63
  go_wp2
  all_goals
    go_ret
    refine ⟨ret_b ?_, rfl⟩
    rw [Bool.eq_iff_iff]
    simp [Sh.wayB]
    try omega
set_option maxHeartbeats 400000 in
theorem distance_any (a b : Int) (w : World) (ha : -1000000000000000000 ≤ a ∧ a ≤ 1000000000000000000) (hb : -1000000000000000000 ≤ b ∧ b ≤ 1000000000000000000) :
    Calls Try.prog 84 #[.int .i64 a, .int .i64 b] w fun e w' => e = .returned (.int .i64 (Sh.dist a b)) ∧ w' = w := by
  have h1 : IntKind.i64.wrap (a - b) = a - b := IntWalk.i64_in _ (by omega)
  have h2 : IntKind.i64.wrap (b - a) = b - a := IntWalk.i64_in _ (by omega)
  have hd : Hid (Sh.dist a b = if b - a > a - b then b - a else a - b) := by unfold Hid Sh.dist; split <;> omega
  go_enter Try.func84, Try.ntmps84
  go_wp2
  all_goals
    go_ret
    refine ⟨ret_i ?_, rfl⟩
    rw [hd.out]
    split <;> omega
set_option maxHeartbeats 400000 in
theorem of_any (a b n : Int) (w : World) : Calls Try.prog 64 #[.agg #[.int .i64 a, .int .i64 b], .int .i64 n] w fun e w' => e = .returned (.int .i64 (Sh.ofV (a, b) n)) ∧ Below w.heap.size w w' := by
  go_enter Try.func64, Try.ntmps64
  by_cases hn : n = 1
  · have hd : Sh.ofV (a, b) n = a := by unfold Sh.ofV; rw [if_pos hn]
    rw [hd]
    go_wp2
    go_ret
    exact ⟨rfl, (Below.refl _ _).alloc (Nat.le_refl _) _⟩
  · have hd : Sh.ofV (a, b) n = b := by unfold Sh.ofV; rw [if_neg hn]
    rw [hd]
    go_wp2
    go_ret
    exact ⟨rfl, (Below.refl _ _).alloc (Nat.le_refl _) _⟩
set_option maxHeartbeats 400000 in
theorem validSpan_any (a b : Int) (w : World) : Calls Try.prog 96 #[.agg #[.int .i64 a, .int .i64 b]] w fun e w' => e = .returned (.bool (Sh.spanB a b)) ∧ Below w.heap.size w w' := by
  go_enter Try.func96, Try.ntmps96
  go_wp2
  all_goals
    go_ret
    refine ⟨ret_b ?_, (Below.refl _ _).alloc (Nat.le_refl _) _⟩
    rw [Bool.eq_iff_iff]
    simp [Sh.spanB]
    try omega
end Go.Proofs.Ytgpmnkdagpcffaa
