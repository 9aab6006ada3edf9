/- Sheets: the iterator over all factors of both spans. -/
import Derived.Test.YtgpmnkdagpcffaaShA
import Derived.Test.YtgpmnkdagpcffaaFar
import Derived.Stop.RegionWithIn
namespace Go.Proofs.Ytgpmnkdagpcffaa
open Go.RowKit Go.Shelf
attribute [local go_sem] Oper.semAt_some
namespace Sh
instance (f : Fa) : Decidable (fsm f) := by unfold fsm; infer_instance
/-- Factors that are small enough to be reckoned with. -/
abbrev FaS := { f : Fa // fsm f }
def faOf (f : Fa) : FaS := if h : fsm f then ⟨f, h⟩ else ⟨(1, 1), by unfold fsm; omega⟩
theorem faOf_val {f : Fa} (h : fsm f) : (faOf f).1 = f := by unfold faOf; rw [dif_pos h]
/-- A valid sheet, as far as its numbers go. -/
structure Ok (s : Sheet) : Prop where
  a1 : 900 ≤ s.al
  a2 : s.al ≤ s.ah
  a3 : s.ah ≤ 1100
  b1 : 900 ≤ s.bl
  b2 : s.bl ≤ s.bh
  b3 : s.bh ≤ 1100
  n : s.cs.length ≤ 8
  c : ∀ k, k < s.cs.length → ctB (ctAt s.cs k) = true
  w1 : 0 ≤ s.wr
  w2 : s.wr ≤ 8
def na (s : Sheet) : Nat := (s.ah - s.al + 1).toNat
def nb (s : Sheet) : Nat := (s.bh - s.bl + 1).toNat
def rowTo (s : Sheet) (i k : Nat) : List FaS := (List.range k).map fun j : Nat => faOf (s.al + (i : Int), s.bl + (j : Int))
def casesTo (s : Sheet) (k : Nat) : List FaS := (List.range k).flatMap fun i => rowTo s i (nb s)
def casesL (s : Sheet) : List FaS := casesTo s (na s)
theorem rowTo_succ (s : Sheet) (i k : Nat) : rowTo s i (k + 1) = rowTo s i k ++ [faOf (s.al + (i : Int), s.bl + (k : Int))] := by
  unfold rowTo
  rw [List.range_succ, List.map_append]
  rfl
theorem casesTo_succ (s : Sheet) (k : Nat) : casesTo s (k + 1) = casesTo s k ++ rowTo s k (nb s) := by
  unfold casesTo
  rw [List.range_succ, List.flatMap_append]
  simp
theorem casesTo_len (s : Sheet) : ∀ k, (casesTo s k).length = k * nb s
  | 0 => by simp [casesTo]
  | k + 1 => by
    rw [casesTo_succ, List.length_append, casesTo_len s k, Nat.succ_mul]
    unfold rowTo
    simp
theorem casesTo_pre (s : Sheet) {i j : Nat} (h : i ≤ j) : casesTo s i <+: casesTo s j := by
  induction h with
  | refl => exact List.prefix_refl _
  | step _ ih => exact ih.trans (by rw [casesTo_succ]; exact List.prefix_append _ _)
theorem rowTo_pre (s : Sheet) (r : Nat) {i j : Nat} (h : i ≤ j) : rowTo s r i <+: rowTo s r j := by
  induction h with
  | refl => exact List.prefix_refl _
  | step _ ih => exact ih.trans (by rw [rowTo_succ]; exact List.prefix_append _ _)
theorem part_pre (s : Sheet) {i j : Nat} (hi : i < na s) (hj : j ≤ nb s) : casesTo s i ++ rowTo s i j <+: casesL s := by
  refine List.IsPrefix.trans ?_ (casesTo_pre s (show i + 1 ≤ na s by omega))
  rw [casesTo_succ]
  exact (List.prefix_append_right_inj _).2 (rowTo_pre s i hj)
end Sh
def encFa (x : Sh.FaS) : Array Value := #[.agg #[.int .i64 x.1.1, .int .i64 x.1.2]]
theorem encFa_of {f : Sh.Fa} (h : Sh.fsm f) : encFa (Sh.faOf f) = #[.agg #[.int .i64 f.1, .int .i64 f.2]] := by unfold encFa; rw [Sh.faOf_val h]

set_option maxRecDepth 100000 in
set_option maxHeartbeats 4000000 in
theorem cases_far (s : Sheet) (hs : Sh.Ok s) (A : Option Addr) (c : Nat) (n₀ : Nat) (w : World) :
    SeqFar Try.prog 58 #[.agg (shV s A c)] #[] encFa n₀ (fun ys => ys = Sh.casesL s) (fun pre => pre <+: Sh.casesL s) 50000 w := by
  intro l J Jx W hW hJ hJx hY h0
  have ha : ((Sh.na s : Nat) : Int) = s.ah - s.al + 1 := by unfold Sh.na; have := hs.a2; omega
  have hb : ((Sh.nb s : Nat) : Int) = s.bh - s.bl + 1 := by unfold Sh.nb; have := hs.b2; omega
  obtain ⟨a1, a2, a3, b1, b2, b3, -, -, -, -⟩ := hs
  have HP : Hid (∀ i j, i < Sh.na s → j ≤ Sh.nb s → Sh.casesTo s i ++ Sh.rowTo s i j <+: Sh.casesL s) := fun i j hi hj => Sh.part_pre s hi hj
  have HCS : Hid (∀ i, Sh.casesTo s (i + 1) = Sh.casesTo s i ++ Sh.rowTo s i (Sh.nb s)) := Sh.casesTo_succ s
  have HRS : Hid (∀ i j, Sh.rowTo s i (j + 1) = Sh.rowTo s i j ++ [Sh.faOf (s.al + (i : Int), s.bl + (j : Int))]) := Sh.rowTo_succ s
  have HCL : Hid (Sh.casesL s = Sh.casesTo s (Sh.na s)) := rfl
  have HLEN : Hid (∀ i j, i < Sh.na s → j < Sh.nb s → (Sh.casesTo s i ++ Sh.rowTo s i j).length < 50000) := fun i j hi hj => by
    rw [List.length_append, Sh.casesTo_len]
    have h1 : (Sh.rowTo s i j).length = j := by unfold Sh.rowTo; simp
    have h2 : i * Sh.nb s ≤ 201 * 201 := Nat.mul_le_mul (by omega) (by omega)
    omega
  have HR0 : Hid (∀ i, Sh.rowTo s i 0 = []) := fun i => rfl
  have hJ0 := h0
  have H0 : Hid (J (Sh.casesTo s 0) W) := h0
  clear h0 hJ0
  obtain ⟨al, ah, bl, bh, cs, wrn⟩ := s
  dsimp only at *
  generalize hcT : Sh.casesTo ⟨al, ah, bl, bh, cs, wrn⟩ = cT at *
  generalize hrT : Sh.rowTo ⟨al, ah, bl, bh, cs, wrn⟩ = rT at *
  generalize Sh.casesL ⟨al, ah, bl, bh, cs, wrn⟩ = CL at *
  generalize Sh.na ⟨al, ah, bl, bh, cs, wrn⟩ = na at *
  generalize Sh.nb ⟨al, ah, bl, bh, cs, wrn⟩ = nb at *
  clear hcT hrT
  show Calls Try.prog _ #[.agg #[.int .i64 al, .int .i64 ah, .int .i64 bl, .int .i64 bh, .slice A cs.length c, .int .i64 wrn], .func (.yield l) #[] #[]] W _
  refine (callsIn_wide (n := 8)).1 ?_
  refine callsIn_of_wp Try.func58 rfl trivial ?_ rfl
  simp only [Try.ntmps58, List.size_toArray, List.length_cons, List.length_nil, Nat.reduceAdd, Nat.reduceSub, Array.replicate_succ, Array.replicate_zero, List.push_toArray, List.append_toArray, List.nil_append, List.cons_append]
  gi_wp2
  have bD0 := BoxS.new W 87 #[.int .i64 al, .int .i64 ah, .int .i64 bl, .int .i64 bh, .slice A cs.length c, .int .i64 wrn]
  have J0 : J (cT 0) (W.alloc (.cells #[.int .i64 al, .int .i64 ah, .int .i64 bl, .int .i64 bh, .slice A cs.length c, .int .i64 wrn] 87)) := hJ.alloc _ H0.out
  have z0 : W.heap.size ≤ (W.alloc (.cells #[.int .i64 al, .int .i64 ah, .int .i64 bl, .int .i64 bh, .slice A cs.length c, .int .i64 wrn] 87)).heap.size := by simp
  clear H0
  generalize World.alloc W _ = W0 at *
  gi_loopw [4] (fun x wr => ∃ i : Nat, (i : Int) ≤ na ∧ x = .int .i64 (al + (i : Int)) ∧ Hid (J (cT i) wr) ∧ BoxS wr W.heap.size 87 #[.int .i64 al, .int .i64 ah, .int .i64 bl, .int .i64 bh, .slice A cs.length c, .int .i64 wrn] ∧ W.heap.size ≤ wr.heap.size) (fun x _ => (ah + 1 - intOf x).toNat)
  case atStart => exact ⟨0, by omega, by simp, J0, bD0, z0⟩
  case round =>
    obtain ⟨i, hi, rfl, hJi, bD, hz⟩ := hrel
    have hi0 := Int.natCast_nonneg i
    obtain ⟨⟨d0, d1, d2⟩, d3, d4, d5⟩ := boxS6 bD
    have hw1 : IntKind.i64.wrap (al + (i : Int) + 1) = al + ((i + 1 : Nat) : Int) := by rw [IntWalk.i64_in _ (by omega)]; omega
    by_cases hlt : al + (i : Int) ≤ ah
    · gi_wp2
      clear d0 d1 d2 d3 d4 d5
      gi_loopw [5] (fun x wr => ∃ j : Nat, (j : Int) ≤ nb ∧ x = .int .i64 (bl + (j : Int)) ∧ Hid (J (cT i ++ rT i j) wr) ∧ BoxS wr W.heap.size 87 #[.int .i64 al, .int .i64 ah, .int .i64 bl, .int .i64 bh, .slice A cs.length c, .int .i64 wrn] ∧ W.heap.size ≤ wr.heap.size) (fun x _ => (bh + 1 - intOf x).toNat)
      case atStart => exact ⟨0, by omega, by simp, by rw [HR0.out, List.append_nil]; exact hJi, bD, hz⟩
      case round =>
        obtain ⟨j, hj, rfl, hJj, bD2, hz2⟩ := hrel
        have hj0 := Int.natCast_nonneg j
        obtain ⟨⟨d0, d1, d2⟩, d3, d4, d5⟩ := boxS6 bD2
        have hw2 : IntKind.i64.wrap (bl + (j : Int) + 1) = bl + ((j + 1 : Nat) : Int) := by rw [IntWalk.i64_in _ (by omega)]; omega
        by_cases hlt2 : bl + (j : Int) ≤ bh
        · have hin : i < na := by omega
          have hjn : j < nb := by omega
          obtain ⟨fn, tmps, assign, body, hy, hR⟩ := hY 7 _ (Sh.faOf (al + (i : Int), bl + (j : Int))) _ hJj.out (HLEN.out i j hin hjn)
          rw [encFa_of (by unfold Sh.fsm; dsimp only; omega)] at hy
          have HR := Lib.hid hR
          have HX := Lib.hid (HP.out i (j + 1) hin (by omega))
          have HS := Lib.hid (HRS.out i j)
          clear hR hJj hY HP HRS HCS HLEN
          generalize Sh.faOf (al + (i : Int), bl + (j : Int)) = fa at *
          gi_wp2
          refine HR.out.mono ?_
          rintro e W3 (⟨rfl, hJ3, hk3⟩ | ⟨rfl, hJx3, hk3⟩)
          · gi_wp2
            go_roundw
            case rel => exact ⟨j + 1, by omega, by go_num, by unfold Hid; rw [HS.out, ← List.append_assoc]; exact hJ3, hk3.obj bD2 (.inr (Nat.le_refl _)), by have := hk3.size; omega⟩
            case measure => simp [intOf]; omega
          · gi_wp2
            refine bodyPost_ret (results_none rfl _ _ _) rfl ?_
            exact ⟨⟨_, rfl⟩, .inr ⟨_, by have := HX.out; rw [HS.out, ← List.append_assoc] at this; exact this, hJx3⟩⟩
        · have hjn : j = nb := by omega
          gi_wp2
          go_roundw
          case rel => exact ⟨i + 1, by omega, by go_num, by unfold Hid; rw [HCS.out, ← hjn]; exact hJj, bD2, hz2⟩
          case measure => simp [intOf]; omega
    · have hin : i = na := by omega
      gi_wp2
      go_end0
      exact ⟨⟨_, rfl⟩, .inl (by rw [HCL.out, ← hin]; exact hJi.out)⟩
end Go.Proofs.Ytgpmnkdagpcffaa
