/- Trials: the iterator over each gain with each skew. -/
import Derived.Test.YtkmacpkjobdffaaGreatTiE
import Derived.Test.YtkmacpkjobdffaaGreatWhD
namespace Go.Proofs.YtkmacpkjobdffaaGreat
open Go.RowKit Go.Shelf
attribute [local go_sem] Oper.semAt_some
namespace Ti
instance (f : Gk) : Decidable (gsm f) := by unfold gsm; infer_instance
/-- Truths that are small enough to be reckoned with. -/
abbrev GkS := { f : Gk // gsm f }
def gkOf (f : Gk) : GkS := if h : gsm f then ⟨f, h⟩ else ⟨(1, 1), by unfold gsm; omega⟩
theorem gkOf_val {f : Gk} (h : gsm f) : (gkOf f).1 = f := by unfold gkOf; rw [dif_pos h]
def rowTo (t : Tri) (i k : Nat) : List GkS := (List.range k).map fun j : Nat => gkOf (-t.gain + (i : Int), -t.d.skew + (j : Int))
def casesTo (t : Tri) (k : Nat) : List GkS := (List.range k).flatMap fun i => rowTo t i (nS t)
def casesL (t : Tri) : List GkS := casesTo t (nG t)
theorem rowTo_succ (t : Tri) (i k : Nat) : rowTo t i (k + 1) = rowTo t i k ++ [gkOf (-t.gain + (i : Int), -t.d.skew + (k : Int))] := by
  unfold rowTo
  rw [List.range_succ, List.map_append]
  rfl
theorem casesTo_succ (t : Tri) (k : Nat) : casesTo t (k + 1) = casesTo t k ++ rowTo t k (nS t) := by
  unfold casesTo
  rw [List.range_succ, List.flatMap_append]
  simp
theorem casesTo_len (t : Tri) : ∀ k, (casesTo t k).length = k * nS t
  | 0 => by simp [casesTo]
  | k + 1 => by
    rw [casesTo_succ, List.length_append, casesTo_len t k, Nat.succ_mul]
    unfold rowTo
    simp
theorem casesTo_pre (t : Tri) {i j : Nat} (h : i ≤ j) : casesTo t i <+: casesTo t j := by
  induction h with
  | refl => exact List.prefix_refl _
  | step _ ih => exact ih.trans (by rw [casesTo_succ]; exact List.prefix_append _ _)
theorem rowTo_pre (t : Tri) (r : Nat) {i j : Nat} (h : i ≤ j) : rowTo t r i <+: rowTo t r j := by
  induction h with
  | refl => exact List.prefix_refl _
  | step _ ih => exact ih.trans (by rw [rowTo_succ]; exact List.prefix_append _ _)
theorem part_pre (t : Tri) {i j : Nat} (hi : i < nG t) (hj : j ≤ nS t) : casesTo t i ++ rowTo t i j <+: casesL t := by
  refine List.IsPrefix.trans ?_ (casesTo_pre t (show i + 1 ≤ nG t by omega))
  rw [casesTo_succ]
  exact (List.prefix_append_right_inj _).2 (rowTo_pre t i hj)
end Ti
def encGk (x : Ti.GkS) : Array Value := #[.agg #[.int .i64 x.1.1, .int .i64 x.1.2]]
theorem encGk_of {f : Ti.Gk} (h : Ti.gsm f) : encGk (Ti.gkOf f) = #[.agg #[.int .i64 f.1, .int .i64 f.2]] := by unfold encGk; rw [Ti.gkOf_val h]

set_option maxRecDepth 100000 in
set_option maxHeartbeats 4000000 in
theorem casesT_far (t : Ti.Tri) (hg : 0 ≤ t.gain ∧ t.gain ≤ 50) (hk : 0 ≤ t.d.skew ∧ t.d.skew ≤ 20) (A : Option Addr) (c : Nat) (AL : Option Addr) (m cm : Nat) (n₀ : Nat) (w : World) :
    SeqFar Tryz.prog 94 #[.agg (fV t A c AL m cm)] #[] encGk n₀ (fun ys => ys = Ti.casesL t) (fun pre => pre <+: Ti.casesL t) 5000 w := by
  intro l J Jx W hW hJ hJx hY h0
  have ha : ((Ti.nG t : Nat) : Int) = 2 * t.gain + 1 := by unfold Ti.nG; omega
  have hb : ((Ti.nS t : Nat) : Int) = 2 * t.d.skew + 1 := by unfold Ti.nS; omega
  have HP : Hid (∀ i j, i < Ti.nG t → j ≤ Ti.nS t → Ti.casesTo t i ++ Ti.rowTo t i j <+: Ti.casesL t) := fun i j hi hj => Ti.part_pre t hi hj
  have HCS : Hid (∀ i, Ti.casesTo t (i + 1) = Ti.casesTo t i ++ Ti.rowTo t i (Ti.nS t)) := Ti.casesTo_succ t
  have HRS : Hid (∀ i j, Ti.rowTo t i (j + 1) = Ti.rowTo t i j ++ [Ti.gkOf (-t.gain + (i : Int), -t.d.skew + (j : Int))]) := Ti.rowTo_succ t
  have HCL : Hid (Ti.casesL t = Ti.casesTo t (Ti.nG t)) := rfl
  have HLEN : Hid (∀ i j, i < Ti.nG t → j < Ti.nS t → (Ti.casesTo t i ++ Ti.rowTo t i j).length < 5000) := fun i j hi hj => by
    rw [List.length_append, Ti.casesTo_len]
    have h1 : (Ti.rowTo t i j).length = j := by unfold Ti.rowTo; simp
    have h2 : i * Ti.nS t ≤ 101 * 41 := Nat.mul_le_mul (by omega) (by omega)
    omega
  have HR0 : Hid (∀ i, Ti.rowTo t i 0 = []) := fun i => rfl
  have H0 : Hid (J (Ti.casesTo t 0) W) := h0
  clear h0
  generalize Ti.casesTo t = cT at *
  generalize Ti.rowTo t = rT at *
  generalize Ti.casesL t = CL at *
  generalize Ti.nG t = na at *
  generalize Ti.nS t = nb at *
  obtain ⟨d, gain, ts⟩ := t
  obtain ⟨full, read, slip, skew, circ, glo, ghi, wrn, dws⟩ := d
  unfold fV
  dsimp only at *
  show Calls Tryz.prog _ #[.agg #[.int .i64 full, .int .i64 read, .int .i64 slip, .int .i64 skew, .int .i64 circ, .int .i64 glo, .int .i64 ghi, .int .i64 wrn, .int .i64 gain, .slice A ts.length c, .slice AL m cm], .func (.yield l) #[] #[]] W _
  refine (callsIn_wide (n := 8)).1 ?_
  refine callsIn_of_wp Tryz.func94 rfl trivial ?_ rfl
  simp only [Tryz.ntmps94, List.size_toArray, List.length_cons, List.length_nil, Nat.reduceAdd, Nat.reduceSub, Array.replicate_succ, Array.replicate_zero, List.push_toArray, List.append_toArray, List.nil_append, List.cons_append]
  gi_wp2
  have bD0 := BoxS.new W 84 #[.int .i64 full, .int .i64 read, .int .i64 slip, .int .i64 skew, .int .i64 circ, .int .i64 glo, .int .i64 ghi, .int .i64 wrn, .int .i64 gain, .slice A ts.length c, .slice AL m cm]
  have J0 : J (cT 0) (W.alloc (.cells #[.int .i64 full, .int .i64 read, .int .i64 slip, .int .i64 skew, .int .i64 circ, .int .i64 glo, .int .i64 ghi, .int .i64 wrn, .int .i64 gain, .slice A ts.length c, .slice AL m cm] 84)) := hJ.alloc _ H0.out
  have z0 : W.heap.size ≤ (W.alloc (.cells #[.int .i64 full, .int .i64 read, .int .i64 slip, .int .i64 skew, .int .i64 circ, .int .i64 glo, .int .i64 ghi, .int .i64 wrn, .int .i64 gain, .slice A ts.length c, .slice AL m cm] 84)).heap.size := by simp
  clear H0
  generalize World.alloc W _ = W0 at *
  gi_loopw [4] (fun x wr => ∃ i : Nat, (i : Int) ≤ na ∧ x = .int .i64 (-gain + (i : Int)) ∧ Hid (J (cT i) wr) ∧ BoxS wr W.heap.size 84 #[.int .i64 full, .int .i64 read, .int .i64 slip, .int .i64 skew, .int .i64 circ, .int .i64 glo, .int .i64 ghi, .int .i64 wrn, .int .i64 gain, .slice A ts.length c, .slice AL m cm] ∧ W.heap.size ≤ wr.heap.size) (fun x _ => (gain + 1 - intOf x).toNat)
  case atStart => exact ⟨0, by omega, by simp, J0, bD0, z0⟩
  case round =>
    obtain ⟨i, hi, rfl, hJi, bD, hz⟩ := hrel
    have hi0 := Int.natCast_nonneg i
    have d3 := bD.cell 3 rfl
    have d8 := bD.cell 8 rfl
    have hw1 : IntKind.i64.wrap (-gain + (i : Int) + 1) = -gain + ((i + 1 : Nat) : Int) := by rw [IntWalk.i64_in _ (by omega)]; omega
    by_cases hlt : -gain + (i : Int) ≤ gain
    · gi_wp2
      clear d3 d8
      gi_loopw [5] (fun x wr => ∃ j : Nat, (j : Int) ≤ nb ∧ x = .int .i64 ((-skew) + (j : Int)) ∧ Hid (J (cT i ++ rT i j) wr) ∧ BoxS wr W.heap.size 84 #[.int .i64 full, .int .i64 read, .int .i64 slip, .int .i64 skew, .int .i64 circ, .int .i64 glo, .int .i64 ghi, .int .i64 wrn, .int .i64 gain, .slice A ts.length c, .slice AL m cm] ∧ W.heap.size ≤ wr.heap.size) (fun x _ => (skew + 1 - intOf x).toNat)
      case atStart => exact ⟨0, by omega, by simp, by rw [HR0.out, List.append_nil]; exact hJi, bD, hz⟩
      case round =>
        obtain ⟨j, hj, rfl, hJj, bD2, hz2⟩ := hrel
        have hj0 := Int.natCast_nonneg j
        have d3 := bD2.cell 3 rfl
        have hw2 : IntKind.i64.wrap ((-skew) + (j : Int) + 1) = (-skew) + ((j + 1 : Nat) : Int) := by rw [IntWalk.i64_in _ (by omega)]; omega
        by_cases hlt2 : (-skew) + (j : Int) ≤ skew
        · have hin : i < na := by omega
          have hjn : j < nb := by omega
          obtain ⟨fn, tmps, assign, body, hy, hR⟩ := hY 7 _ (Ti.gkOf (-gain + (i : Int), (-skew) + (j : Int))) _ hJj.out (HLEN.out i j hin hjn)
          rw [encGk_of (by unfold Ti.gsm; dsimp only; omega)] at hy
          have HR := Lib.hid hR
          have HX := Lib.hid (HP.out i (j + 1) hin (by omega))
          have HS := Lib.hid (HRS.out i j)
          clear hR hJj hY HP HRS HCS HLEN
          generalize Ti.gkOf (-gain + (i : Int), (-skew) + (j : Int)) = fa at *
          gi_wp2
          refine HR.out.mono ?_
          rintro e W3 (⟨rfl, hJ3, hk3⟩ | ⟨rfl, hJx3, hk3⟩)
          · gi_wp2
            go_roundw
            case rel => exact ⟨j + 1, by omega, by go_num, by unfold Hid; rw [HS.out, ← List.append_assoc]; exact hJ3, hk3.obj bD2 (.inr (Nat.le_refl _)), by have := hk3.size; omega⟩
            case measure => simp [intOf]; omega
          · gi_wp2
            refine bodyPost_ret (results_none rfl _ _ _) rfl ?_
            exact ⟨⟨_, rfl⟩, .inr ⟨_, by have := HX.out; rw [HS.out, ← List.append_assoc] at this; exact this, hJx3⟩⟩
        · have hjn : j = nb := by omega
          gi_wp2
          go_roundw
          case rel => exact ⟨i + 1, by omega, by go_num, by unfold Hid; rw [HCS.out, ← hjn]; exact hJj, bD2, hz2⟩
          case measure => simp [intOf]; omega
    · have hin : i = na := by omega
      gi_wp2
      go_end0
      exact ⟨⟨_, rfl⟩, .inl (by rw [HCL.out, ← hin]; exact hJi.out)⟩
end Go.Proofs.YtkmacpkjobdffaaGreat
