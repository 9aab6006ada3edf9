/- The sums and products of three ratios, as the walk of ArmsLaws meets them. -/
import Derived.Test.YtfjcmmdfipppoaaArmsT
import Derived.Test.YtfjcmmdfipppoaaArmsLp
import Derived.Test.YtfjcmmdfipppoaaArmsS
namespace Go.Proofs.Ytfjcmmdfipppoaa
open Go.RowKit
set_option maxHeartbeats 400000 in
theorem isSum_any (E : Int) (w : World) (h : E = 0 ∨ E = 2) : Calls Try.prog 39 #[.int .i64 E] w fun e w' => e = .returned (.bool true) ∧ w = w' := by
  rcases h with rfl | rfl
  all_goals
    go_enter Try.func39, Try.ntmps39
    go_wp2
    go_returns
    exact ⟨rfl, rfl⟩
theorem call_eq {P : Program} {k : FuncId} {vs : Array Value} {x y z x' y' z' : Int} (h : ∀ W, Calls P k vs W fun e w' => e = .returned (.tuple #[.agg #[.int .i64 x, .int .i64 y], .int .i64 z]) ∧ Below W.heap.size W w') (hx : x = x') (hy : y = y') (hz : z = z') :
    ∀ W, Calls P k vs W fun e w' => e = .returned (.tuple #[.agg #[.int .i64 x', .int .i64 y'], .int .i64 z']) ∧ Below W.heap.size W w' := by subst hx hy hz; exact h
theorem Add_ok (a b c d : Int) (h1 : Arm.okB a b = true) (h2 : Arm.okB c d = true) : ∀ W, Calls Try.prog 15 #[.agg #[.int .i64 a, .int .i64 b], .agg #[.int .i64 c, .int .i64 d]] W fun e w' => e = .returned (.tuple #[.agg #[.int .i64 (Arm.sN (a * d + c * b) (b * d)), .int .i64 (Arm.sD (a * d + c * b) (b * d))], .int .i64 (Arm.sE (a * d + c * b) (b * d))]) ∧ Below W.heap.size W w' :=
  call_eq (fun W => Add_any a b c d W) (Arm.two_yes ⟨h1, h2⟩) (Arm.two_yes ⟨h1, h2⟩) (Arm.two_yes ⟨h1, h2⟩)
theorem Mul_ok (a b c d : Int) (h1 : Arm.okB a b = true) (h2 : Arm.okB c d = true) : ∀ W, Calls Try.prog 17 #[.agg #[.int .i64 a, .int .i64 b], .agg #[.int .i64 c, .int .i64 d]] W fun e w' => e = .returned (.tuple #[.agg #[.int .i64 (Arm.sN (a * c) (b * d)), .int .i64 (Arm.sD (a * c) (b * d))], .int .i64 (Arm.sE (a * c) (b * d))]) ∧ Below W.heap.size W w' :=
  call_eq (fun W => Mul_any a b c d W) (Arm.two_yes ⟨h1, h2⟩) (Arm.two_yes ⟨h1, h2⟩) (Arm.two_yes ⟨h1, h2⟩)
/-- What the walk is given of three valid ratios. -/
def Pack (a b c d e f : Int) : Prop := ∃ sa sb sc pa pb pc ta tb tc qa qb qc ra rb rc : Int, (sc = 0 ∨ sc = 2) ∧ (pc = 0 ∨ pc = 2) ∧ (tc = 0 ∨ tc = 2) ∧ (qc = 0 ∨ qc = 2) ∧ (rc = 0 ∨ rc = 2) ∧
  (∀ W, Calls Try.prog 15 #[.agg #[.int .i64 a, .int .i64 b], .agg #[.int .i64 c, .int .i64 d]] W fun o w' => o = .returned (.tuple #[.agg #[.int .i64 sa, .int .i64 sb], .int .i64 sc]) ∧ Below W.heap.size W w') ∧
  (∀ W, Calls Try.prog 15 #[.agg #[.int .i64 c, .int .i64 d], .agg #[.int .i64 a, .int .i64 b]] W fun o w' => o = .returned (.tuple #[.agg #[.int .i64 sa, .int .i64 sb], .int .i64 sc]) ∧ Below W.heap.size W w') ∧
  (∀ W, Calls Try.prog 17 #[.agg #[.int .i64 a, .int .i64 b], .agg #[.int .i64 c, .int .i64 d]] W fun o w' => o = .returned (.tuple #[.agg #[.int .i64 pa, .int .i64 pb], .int .i64 pc]) ∧ Below W.heap.size W w') ∧
  (∀ W, Calls Try.prog 17 #[.agg #[.int .i64 c, .int .i64 d], .agg #[.int .i64 a, .int .i64 b]] W fun o w' => o = .returned (.tuple #[.agg #[.int .i64 pa, .int .i64 pb], .int .i64 pc]) ∧ Below W.heap.size W w') ∧
  (∀ W, Calls Try.prog 15 #[.agg #[.int .i64 c, .int .i64 d], .agg #[.int .i64 e, .int .i64 f]] W fun o w' => o = .returned (.tuple #[.agg #[.int .i64 ta, .int .i64 tb], .int .i64 tc]) ∧ Below W.heap.size W w') ∧
  (∀ W, Calls Try.prog 17 #[.agg #[.int .i64 c, .int .i64 d], .agg #[.int .i64 e, .int .i64 f]] W fun o w' => o = .returned (.tuple #[.agg #[.int .i64 qa, .int .i64 qb], .int .i64 qc]) ∧ Below W.heap.size W w') ∧
  (∀ W, Calls Try.prog 17 #[.agg #[.int .i64 a, .int .i64 b], .agg #[.int .i64 e, .int .i64 f]] W fun o w' => o = .returned (.tuple #[.agg #[.int .i64 ra, .int .i64 rb], .int .i64 rc]) ∧ Below W.heap.size W w') ∧
  (sc = 0 → (∀ W, Calls Try.prog 40 #[.agg #[.int .i64 sa, .int .i64 sb]] W fun o w' => o = .returned (.bool true) ∧ Below W.heap.size W w')) ∧
  (pc = 0 → (∀ W, Calls Try.prog 40 #[.agg #[.int .i64 pa, .int .i64 pb]] W fun o w' => o = .returned (.bool true) ∧ Below W.heap.size W w')) ∧
  (sc = 0 → tc = 0 → (∃ x y z : Int, (z = 0 ∨ z = 2) ∧ (∀ W, Calls Try.prog 15 #[.agg #[.int .i64 sa, .int .i64 sb], .agg #[.int .i64 e, .int .i64 f]] W fun o w' => o = .returned (.tuple #[.agg #[.int .i64 x, .int .i64 y], .int .i64 z]) ∧ Below W.heap.size W w') ∧ (∀ W, Calls Try.prog 15 #[.agg #[.int .i64 a, .int .i64 b], .agg #[.int .i64 ta, .int .i64 tb]] W fun o w' => o = .returned (.tuple #[.agg #[.int .i64 x, .int .i64 y], .int .i64 z]) ∧ Below W.heap.size W w'))) ∧
  (pc = 0 → qc = 0 → (∃ x y z : Int, (z = 0 ∨ z = 2) ∧ (∀ W, Calls Try.prog 17 #[.agg #[.int .i64 pa, .int .i64 pb], .agg #[.int .i64 e, .int .i64 f]] W fun o w' => o = .returned (.tuple #[.agg #[.int .i64 x, .int .i64 y], .int .i64 z]) ∧ Below W.heap.size W w') ∧ (∀ W, Calls Try.prog 17 #[.agg #[.int .i64 a, .int .i64 b], .agg #[.int .i64 qa, .int .i64 qb]] W fun o w' => o = .returned (.tuple #[.agg #[.int .i64 x, .int .i64 y], .int .i64 z]) ∧ Below W.heap.size W w'))) ∧
  (tc = 0 → pc = 0 → rc = 0 → (∃ x y z : Int, (z = 0 ∨ z = 2) ∧ (∀ W, Calls Try.prog 17 #[.agg #[.int .i64 a, .int .i64 b], .agg #[.int .i64 ta, .int .i64 tb]] W fun o w' => o = .returned (.tuple #[.agg #[.int .i64 x, .int .i64 y], .int .i64 z]) ∧ Below W.heap.size W w') ∧ (∀ W, Calls Try.prog 15 #[.agg #[.int .i64 pa, .int .i64 pb], .agg #[.int .i64 ra, .int .i64 rb]] W fun o w' => o = .returned (.tuple #[.agg #[.int .i64 x, .int .i64 y], .int .i64 z]) ∧ Below W.heap.size W w')))
theorem pack_of (a b c d e f : Int) (h1 : Arm.okB a b = true) (h2 : Arm.okB c d = true) (h3 : Arm.okB e f = true) : Pack a b c d e f := by
  have o1 := Arm.okB_true.1 h1
  have o2 := Arm.okB_true.1 h2
  have o3 := Arm.okB_true.1 h3
  have hb := o1.1.1
  have hd := o2.1.1
  have hf := o3.1.1
  have pbd := Int.mul_pos (a := b) (b := d) (by omega) (by omega)
  have pdf := Int.mul_pos (a := d) (b := f) (by omega) (by omega)
  have pbf := Int.mul_pos (a := b) (b := f) (by omega) (by omega)
  have sw := Arm.add_swap a b c d
  refine ⟨_, _, _, _, _, _, _, _, _, _, _, _, _, _, _, Arm.sE_cases _ _, Arm.sE_cases _ _, Arm.sE_cases _ _, Arm.sE_cases _ _, Arm.sE_cases _ _,
    Add_ok a b c d h1 h2, ?_, Mul_ok a b c d h1 h2, ?_, Add_ok c d e f h2 h3, Mul_ok c d e f h2 h3, Mul_ok a b e f h1 h3, ?_, ?_, ?_, ?_, ?_⟩
  · exact call_eq (Add_ok c d a b h2 h1) (by rw [sw.1, sw.2.1]) (by rw [sw.1, sw.2.1]) (by rw [sw.1, sw.2.1])
  · exact call_eq (Mul_ok c d a b h2 h1) (by rw [sw.2.2, sw.2.1]) (by rw [sw.2.2, sw.2.1]) (by rw [sw.2.2, sw.2.1])
  · intro he W
    have k := Arm.s_some (by omega) he
    exact lawReduced_yes _ _ W (Arm.okB_true.2 k.1) k.2.2.2.1 k.2.2.2.2
  · intro he W
    have k := Arm.s_some (by omega) he
    exact lawReduced_yes _ _ W (Arm.okB_true.2 k.1) k.2.2.2.1 k.2.2.2.2
  · intro he hi
    have k := Arm.s_some (by omega) he
    have l := Arm.s_some (by omega) hi
    have m := Arm.add_three hb hd hf k.2.1 l.2.1 k.2.2.1 l.2.2.1
    exact ⟨_, _, _, Arm.sE_cases _ _, Add_ok _ _ e f (Arm.okB_true.2 k.1) h3, call_eq (Add_ok a b _ _ h1 (Arm.okB_true.2 l.1)) m.1.symm m.2.1.symm m.2.2.symm⟩
  · intro he hi
    have k := Arm.s_some (by omega) he
    have l := Arm.s_some (by omega) hi
    have m := Arm.mul_three hb hd hf k.2.1 l.2.1 k.2.2.1 l.2.2.1
    exact ⟨_, _, _, Arm.sE_cases _ _, Mul_ok _ _ e f (Arm.okB_true.2 k.1) h3, call_eq (Mul_ok a b _ _ h1 (Arm.okB_true.2 l.1)) m.1.symm m.2.1.symm m.2.2.symm⟩
  · intro hi hg hk
    have k := Arm.s_some (by omega) hg
    have l := Arm.s_some (by omega) hi
    have n := Arm.s_some (by omega) hk
    have m := Arm.mul_sum hb hd hf k.2.1 l.2.1 n.2.1 k.2.2.1 l.2.2.1 n.2.2.1
    exact ⟨_, _, _, Arm.sE_cases _ _, Mul_ok a b _ _ h1 (Arm.okB_true.2 l.1), call_eq (Add_ok _ _ _ _ (Arm.okB_true.2 k.1) (Arm.okB_true.2 n.1)) m.1.symm m.2.1.symm m.2.2.symm⟩
end Go.Proofs.Ytfjcmmdfipppoaa
