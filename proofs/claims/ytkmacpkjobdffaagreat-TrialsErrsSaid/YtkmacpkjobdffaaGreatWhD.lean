/- Desks: the iterator over all factors of both spans. -/
import Derived.Test.YtkmacpkjobdffaaGreatWhB
import Derived.Test.YtkmacpkjobdffaaGreatFar
import Derived.Stop.RegionWithIn
namespace Go.Proofs.YtkmacpkjobdffaaGreat
open Go.RowKit Go.Shelf
attribute [local go_sem] Oper.semAt_some
namespace Wh
instance (f : Tr) : Decidable (tsm f) := by unfold tsm; infer_instance
/-- Factors that are small enough to be reckoned with. -/
abbrev TrS := { f : Tr // tsm f }
def trOf (f : Tr) : TrS := if h : tsm f then ⟨f, h⟩ else ⟨(1, 1), by unfold tsm; omega⟩
theorem trOf_val {f : Tr} (h : tsm f) : (trOf f).1 = f := by unfold trOf; rw [dif_pos h]
def na (s : Wh.Desk) : Nat := (s.ghi - s.glo + 1).toNat
def nb (s : Wh.Desk) : Nat := (2 * s.skew + 1).toNat
def rowTo (s : Wh.Desk) (i k : Nat) : List TrS := (List.range k).map fun j : Nat => trOf (s.glo + (i : Int), -s.skew + (j : Int))
def casesTo (s : Wh.Desk) (k : Nat) : List TrS := (List.range k).flatMap fun i => rowTo s i (nb s)
def casesL (s : Wh.Desk) : List TrS := casesTo s (na s)
theorem rowTo_succ (s : Wh.Desk) (i k : Nat) : rowTo s i (k + 1) = rowTo s i k ++ [trOf (s.glo + (i : Int), -s.skew + (k : Int))] := by
  unfold rowTo
  rw [List.range_succ, List.map_append]
  rfl
theorem casesTo_succ (s : Wh.Desk) (k : Nat) : casesTo s (k + 1) = casesTo s k ++ rowTo s k (nb s) := by
  unfold casesTo
  rw [List.range_succ, List.flatMap_append]
  simp
theorem casesTo_len (s : Wh.Desk) : ∀ k, (casesTo s k).length = k * nb s
  | 0 => by simp [casesTo]
  | k + 1 => by
    rw [casesTo_succ, List.length_append, casesTo_len s k, Nat.succ_mul]
    unfold rowTo
    simp
theorem casesTo_pre (s : Wh.Desk) {i j : Nat} (h : i ≤ j) : casesTo s i <+: casesTo s j := by
  induction h with
  | refl => exact List.prefix_refl _
  | step _ ih => exact ih.trans (by rw [casesTo_succ]; exact List.prefix_append _ _)
theorem rowTo_pre (s : Wh.Desk) (r : Nat) {i j : Nat} (h : i ≤ j) : rowTo s r i <+: rowTo s r j := by
  induction h with
  | refl => exact List.prefix_refl _
  | step _ ih => exact ih.trans (by rw [rowTo_succ]; exact List.prefix_append _ _)
theorem part_pre (s : Wh.Desk) {i j : Nat} (hi : i < na s) (hj : j ≤ nb s) : casesTo s i ++ rowTo s i j <+: casesL s := by
  refine List.IsPrefix.trans ?_ (casesTo_pre s (show i + 1 ≤ na s by omega))
  rw [casesTo_succ]
  exact (List.prefix_append_right_inj _).2 (rowTo_pre s i hj)
end Wh
def encTr (x : Wh.TrS) : Array Value := #[.agg #[.int .i64 x.1.1, .int .i64 x.1.2]]
theorem encTr_of {f : Wh.Tr} (h : Wh.tsm f) : encTr (Wh.trOf f) = #[.agg #[.int .i64 f.1, .int .i64 f.2]] := by unfold encTr; rw [Wh.trOf_val h]

set_option maxRecDepth 100000 in
set_option maxHeartbeats 4000000 in
theorem cases_far (s : Wh.Desk) (hs : Wh.Ok s) (A : Option Addr) (c : Nat) (n₀ : Nat) (w : World) :
    SeqFar Tryz.prog 125 #[.agg (dkV s A c)] #[] encTr n₀ (fun ys => ys = Wh.casesL s) (fun pre => pre <+: Wh.casesL s) 500000 w := by
  intro l J Jx W hW hJ hJx hY h0
  have ha : ((Wh.na s : Nat) : Int) = s.ghi - s.glo + 1 := by unfold Wh.na; have := hs.g2; omega
  have hb : ((Wh.nb s : Nat) : Int) = 2 * s.skew + 1 := by unfold Wh.nb; have := hs.k1; omega
  obtain ⟨-, -, -, -, -, -, b1, b2, -, -, a1, a2, a3, -, -⟩ := hs
  have HP : Hid (∀ i j, i < Wh.na s → j ≤ Wh.nb s → Wh.casesTo s i ++ Wh.rowTo s i j <+: Wh.casesL s) := fun i j hi hj => Wh.part_pre s hi hj
  have HCS : Hid (∀ i, Wh.casesTo s (i + 1) = Wh.casesTo s i ++ Wh.rowTo s i (Wh.nb s)) := Wh.casesTo_succ s
  have HRS : Hid (∀ i j, Wh.rowTo s i (j + 1) = Wh.rowTo s i j ++ [Wh.trOf (s.glo + (i : Int), -s.skew + (j : Int))]) := Wh.rowTo_succ s
  have HCL : Hid (Wh.casesL s = Wh.casesTo s (Wh.na s)) := rfl
  have HLEN : Hid (∀ i j, i < Wh.na s → j < Wh.nb s → (Wh.casesTo s i ++ Wh.rowTo s i j).length < 500000) := fun i j hi hj => by
    rw [List.length_append, Wh.casesTo_len]
    have h1 : (Wh.rowTo s i j).length = j := by unfold Wh.rowTo; simp
    have h2 : i * Wh.nb s ≤ 10000 * 41 := Nat.mul_le_mul (by omega) (by omega)
    omega
  have HR0 : Hid (∀ i, Wh.rowTo s i 0 = []) := fun i => rfl
  have hJ0 := h0
  have H0 : Hid (J (Wh.casesTo s 0) W) := h0
  clear h0 hJ0
  obtain ⟨full, read, slip, skew, circ, glo, ghi, wrn, cs⟩ := s
  dsimp only at *
  generalize hcT : Wh.casesTo ⟨full, read, slip, skew, circ, glo, ghi, wrn, cs⟩ = cT at *
  generalize hrT : Wh.rowTo ⟨full, read, slip, skew, circ, glo, ghi, wrn, cs⟩ = rT at *
  generalize Wh.casesL ⟨full, read, slip, skew, circ, glo, ghi, wrn, cs⟩ = CL at *
  generalize Wh.na ⟨full, read, slip, skew, circ, glo, ghi, wrn, cs⟩ = na at *
  generalize Wh.nb ⟨full, read, slip, skew, circ, glo, ghi, wrn, cs⟩ = nb at *
  clear hcT hrT
  show Calls Tryz.prog _ #[.agg #[.int .i64 full, .int .i64 read, .int .i64 slip, .int .i64 skew, .int .i64 circ, .int .i64 glo, .int .i64 ghi, .int .i64 wrn, .slice A cs.length c], .func (.yield l) #[] #[]] W _
  refine (callsIn_wide (n := 8)).1 ?_
  refine callsIn_of_wp Tryz.func125 rfl trivial ?_ rfl
  simp only [Tryz.ntmps125, List.size_toArray, List.length_cons, List.length_nil, Nat.reduceAdd, Nat.reduceSub, Array.replicate_succ, Array.replicate_zero, List.push_toArray, List.append_toArray, List.nil_append, List.cons_append]
  gi_wp2
  have bD0 := BoxS.new W 115 #[.int .i64 full, .int .i64 read, .int .i64 slip, .int .i64 skew, .int .i64 circ, .int .i64 glo, .int .i64 ghi, .int .i64 wrn, .slice A cs.length c]
  have J0 : J (cT 0) (W.alloc (.cells #[.int .i64 full, .int .i64 read, .int .i64 slip, .int .i64 skew, .int .i64 circ, .int .i64 glo, .int .i64 ghi, .int .i64 wrn, .slice A cs.length c] 115)) := hJ.alloc _ H0.out
  have z0 : W.heap.size ≤ (W.alloc (.cells #[.int .i64 full, .int .i64 read, .int .i64 slip, .int .i64 skew, .int .i64 circ, .int .i64 glo, .int .i64 ghi, .int .i64 wrn, .slice A cs.length c] 115)).heap.size := by simp
  clear H0
  generalize World.alloc W _ = W0 at *
  gi_loopw [4] (fun x wr => ∃ i : Nat, (i : Int) ≤ na ∧ x = .int .i64 (glo + (i : Int)) ∧ Hid (J (cT i) wr) ∧ BoxS wr W.heap.size 115 #[.int .i64 full, .int .i64 read, .int .i64 slip, .int .i64 skew, .int .i64 circ, .int .i64 glo, .int .i64 ghi, .int .i64 wrn, .slice A cs.length c] ∧ W.heap.size ≤ wr.heap.size) (fun x _ => (ghi + 1 - intOf x).toNat)
  case atStart => exact ⟨0, by omega, by simp, J0, bD0, z0⟩
  case round =>
    obtain ⟨i, hi, rfl, hJi, bD, hz⟩ := hrel
    have hi0 := Int.natCast_nonneg i
    obtain ⟨⟨⟨d0, d1, d2⟩, d3, d4, d5⟩, d6, d7, d8⟩ := boxS9 bD
    have hw1 : IntKind.i64.wrap (glo + (i : Int) + 1) = glo + ((i + 1 : Nat) : Int) := by rw [IntWalk.i64_in _ (by omega)]; omega
    by_cases hlt : glo + (i : Int) ≤ ghi
    · gi_wp2
      clear d0 d1 d2 d3 d4 d5 d6 d7 d8
      gi_loopw [5] (fun x wr => ∃ j : Nat, (j : Int) ≤ nb ∧ x = .int .i64 ((-skew) + (j : Int)) ∧ Hid (J (cT i ++ rT i j) wr) ∧ BoxS wr W.heap.size 115 #[.int .i64 full, .int .i64 read, .int .i64 slip, .int .i64 skew, .int .i64 circ, .int .i64 glo, .int .i64 ghi, .int .i64 wrn, .slice A cs.length c] ∧ W.heap.size ≤ wr.heap.size) (fun x _ => (skew + 1 - intOf x).toNat)
      case atStart => exact ⟨0, by omega, by simp, by rw [HR0.out, List.append_nil]; exact hJi, bD, hz⟩
      case round =>
        obtain ⟨j, hj, rfl, hJj, bD2, hz2⟩ := hrel
        have hj0 := Int.natCast_nonneg j
        obtain ⟨⟨⟨d0, d1, d2⟩, d3, d4, d5⟩, d6, d7, d8⟩ := boxS9 bD2
        have hw2 : IntKind.i64.wrap ((-skew) + (j : Int) + 1) = (-skew) + ((j + 1 : Nat) : Int) := by rw [IntWalk.i64_in _ (by omega)]; omega
        by_cases hlt2 : (-skew) + (j : Int) ≤ skew
        · have hin : i < na := by omega
          have hjn : j < nb := by omega
          obtain ⟨fn, tmps, assign, body, hy, hR⟩ := hY 7 _ (Wh.trOf (glo + (i : Int), (-skew) + (j : Int))) _ hJj.out (HLEN.out i j hin hjn)
          rw [encTr_of (by unfold Wh.tsm; dsimp only; omega)] at hy
          have HR := Lib.hid hR
          have HX := Lib.hid (HP.out i (j + 1) hin (by omega))
          have HS := Lib.hid (HRS.out i j)
          clear hR hJj hY HP HRS HCS HLEN
          generalize Wh.trOf (glo + (i : Int), (-skew) + (j : Int)) = fa at *
          gi_wp2
          refine HR.out.mono ?_
          rintro e W3 (⟨rfl, hJ3, hk3⟩ | ⟨rfl, hJx3, hk3⟩)
          · gi_wp2
            go_roundw
            case rel => exact ⟨j + 1, by omega, by go_num, by unfold Hid; rw [HS.out, ← List.append_assoc]; exact hJ3, hk3.obj bD2 (.inr (Nat.le_refl _)), by have := hk3.size; omega⟩
            case measure => simp [intOf]; omega
          · gi_wp2
            refine bodyPost_ret (results_none rfl _ _ _) rfl ?_
            exact ⟨⟨_, rfl⟩, .inr ⟨_, by have := HX.out; rw [HS.out, ← List.append_assoc] at this; exact this, hJx3⟩⟩
        · have hjn : j = nb := by omega
          gi_wp2
          go_roundw
          case rel => exact ⟨i + 1, by omega, by go_num, by unfold Hid; rw [HCS.out, ← hjn]; exact hJj, bD2, hz2⟩
          case measure => simp [intOf]; omega
    · have hin : i = na := by omega
      gi_wp2
      go_end0
      exact ⟨⟨_, rfl⟩, .inl (by rw [HCL.out, ← hin]; exact hJi.out)⟩
end Go.Proofs.YtkmacpkjobdffaaGreat
