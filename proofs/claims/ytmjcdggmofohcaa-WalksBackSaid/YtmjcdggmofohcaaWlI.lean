/- Walks: the iterator over points that follow each other, by its contract. -/
import Derived.Test.YtmjcdggmofohcaaIter
namespace Go.Proofs.Ytmjcdggmofohcaa
open Go.RowKit Go.Shelf
attribute [local go_sem] Oper.semAt_some
def encA (s : Side) : Value := .agg #[.int .i64 s.1.1.1, .int .i64 s.1.1.2]
def encB (s : Side) : Value := .agg #[.int .i64 s.1.2.1, .int .i64 s.1.2.2]
theorem encA_at {ps : List (Int × Int)} {h : ∀ p ∈ ps, Geo.sm p} {k : Nat} {p : Int × Int} (hp : ps[k]? = some p) : encA (sideAt ps h k) = .agg #[.int .i64 p.1, .int .i64 p.2] := by
  unfold encA sideAt
  simp [hp]
theorem encB_at {ps : List (Int × Int)} {h : ∀ p ∈ ps, Geo.sm p} {k : Nat} {q : Int × Int} (hq : ps[(k + 1) % ps.length]? = some q) : encB (sideAt ps h k) = .agg #[.int .i64 q.1, .int .i64 q.2] := by
  unfold encB sideAt
  simp [hq]
set_option maxRecDepth 100000 in
set_option maxHeartbeats 4000000 in
/-- The closure of around: for every loop body that keeps what lay below n₀. -/
theorem around1_in (F : Fence) (n : Nat) (hF : F.fn 99) (hro : F.round = none) (hn : 1 ≤ n) (l Bs n₀ : Nat) (A : Option Addr) (c : Nat) (ps : List (Int × Int)) (hps : ∀ p ∈ ps, Geo.sm p) (hlen : ps.length ≤ 100) (J Jx : List Side → World → Prop)
    (hY : ∀ pre x W, J pre W → pre.length < ps.length → YieldAt F (n - 1) Try.prog l #[encA x, encB x] W fun e W' =>
      (e = .returned (.bool true) ∧ J (pre ++ [x]) W' ∧ KpS n₀ Bs W W') ∨ (e = .returned (.bool false) ∧ Jx (pre ++ [x]) W'))
    (W : World) (hJ : AbidesFrom W.heap.size J) (hBs : Boxed W Bs 22 (.slice A ps.length c)) (hn0 : n₀ ≤ W.heap.size) (hP : Prs W n₀ A ps) (h0 : J [] W) :
    CallsIn F n Try.prog 99 #[.func (.yield l) #[] #[], .pointer (some ⟨Bs, 0, none⟩)] W fun e W' => (∃ v, e = .returned v) ∧
      ((∃ ys, ys = sidesTo ps hps ps.length ∧ J ys W') ∨ (∃ pre, (∃ k, k ≤ ps.length ∧ pre = sidesTo ps hps k) ∧ Jx pre W')) := by
  refine callsIn_of_wp Try.func99 rfl hF ?_ hro
  have hBc := hBs.cell
  simp only [Try.ntmps99, List.size_toArray, List.length_cons, List.length_nil, Nat.reduceAdd, Nat.reduceSub, Array.replicate_succ, Array.replicate_zero, List.push_toArray, List.append_toArray, List.nil_append, List.cons_append]
  gi_wp2
  gi_loopw [7] (fun i wr => ∃ k : Nat, (k : Int) ≤ ps.length ∧ i = .int .i64 k ∧ KpS n₀ Bs W wr ∧ W.heap.size ≤ wr.heap.size ∧ J (sidesTo ps hps k) wr) (fun i _ => (ps.length - intOf i).toNat)
  case atStart => exact ⟨0, by omega, rfl, KpS.refl _ _ _, Nat.le_refl _, h0⟩
  case round =>
    obtain ⟨k, hk, rfl, hB, hsz, hJs⟩ := hrel
    have hk0 := Int.natCast_nonneg k
    by_cases hlt : (k : Int) < ps.length
    · have hkl : k < ps.length := by omega
      have hpk : ps[k]? = some ps[k] := List.getElem?_eq_getElem hkl
      have hm : (k + 1) % ps.length < ps.length := Nat.mod_lt _ (by omega)
      have hqk : ps[(k + 1) % ps.length]? = some ps[(k + 1) % ps.length] := List.getElem?_eq_getElem hm
      obtain ⟨b, off, rfl, hb, hc⟩ := hP (by omega)
      have d0 := (hB.1.cell (p := ⟨b, off + k * 2, none⟩) hb).trans (hc k _ hpk).1
      have d1 := (hB.1.cell (p := ⟨b, off + k * 2 + 1, none⟩) hb).trans (hc k _ hpk).2
      have d2 := (hB.1.cell (p := ⟨b, off + (k + 1) % ps.length * 2, none⟩) hb).trans (hc _ _ hqk).1
      have d3 := (hB.1.cell (p := ⟨b, off + (k + 1) % ps.length * 2 + 1, none⟩) hb).trans (hc _ _ hqk).2
      have hBs4 : Boxed wr Bs 22 (.slice (some ⟨b, off, none⟩) ps.length c) := hB.2 _ hBs
      have d4 := hBs4.cell
      have hbr : b < wr.heap.size := by omega
      have hBr : Bs < wr.heap.size := hBs4.lt
      clear hBs4
      have HE := encA_at (h := hps) hpk
      have HE2 := encB_at (h := hps) hqk
      have hr1 : ((k : Int) + 1) % (ps.length : Int) = (((k + 1) % ps.length : Nat) : Int) := by rw [Int.natCast_emod]; rfl
      have hr2 : ((k : Int) + 1).tmod (ps.length : Int) = (((k + 1) % ps.length : Nat) : Int) := by rw [Int.tmod_eq_emod_of_nonneg (by omega)]; exact hr1
      have hss := sidesTo_succ ps hps k
      have hpl : (sidesTo ps hps k).length < ps.length := by unfold sidesTo; simp; omega
      generalize sideAt ps hps k = sd at *
      generalize (k + 1) % ps.length = r at *
      generalize hpe : ps[k] = p at *
      generalize hqe : ps[r] = q at *
      have hw1 : IntKind.i64.wrap ((k : Int) + 1) = (k : Int) + 1 := IntWalk.i64_in _ (by omega)
      have hw2 : IntKind.i64.wrap (r : Int) = (r : Int) := IntWalk.i64_in _ (by omega)
      have hne : ¬ (ps.length : Int) = 0 := by omega
      have hne2 : ¬ ps.length = 0 := by omega
      have hne3 : ¬ ps = [] := by intro e; subst e; simp at hne2
      have hr0 : (0 : Int) ≤ (r : Int) := Int.natCast_nonneg r
      have hrl : (r : Int) < (ps.length : Int) := by omega
      obtain ⟨fn, tmps, assign, body, hy, hR⟩ := hY (sidesTo ps hps k) sd ((wr.alloc (.cells #[.int .i64 p.1, .int .i64 p.2] 28)).drew) (hJ _ _ _ none hJs ((World.grownBy_alloc wr _ none).trans ⟨rfl, rfl, rfl, Nat.le_refl _, fun _ _ _ => rfl⟩) (fun r e => by cases e)) hpl
      rw [HE, HE2] at hy
      have HSS := Lib.hid hss
      have hk2 : KpS n₀ Bs wr ((wr.alloc (.cells #[.int .i64 p.1, .int .i64 p.2] 28)).drew) := (KpS.alloc _ (by omega) _).trans (KpS.drew _)
      have HR := Lib.hid hR
      clear hpe hqe hpk hqk hss HE HE2 hR hm hJs hY
      gi_wp2
      have hmo : Try.prog.follows .mixedOrders = true := by kernel_rfl
      refine wpIn_region_held (fun W => W = (wr.alloc (.cells #[.int .i64 p.1, .int .i64 p.2] 28)).drew) 10 hmo ?_
      refine wpHeldIn_take (i := 0) (v := ?_) (plain_of (by kernel_rfl)) rfl (by kernel_rfl) (fun _ _ _ h => h) (yieldsSoIn_of (by kernel_rfl) ?_ (fun _ => rfl)) rfl ?_; rotate_left; focus (intro w hw; cases hw; go_simp; try (with_reducible rfl))
      refine wpHeldIn_take (i := 1) (v := ?_) (plain_of (by kernel_rfl)) rfl (by kernel_rfl) (fun _ _ _ h => h) (yieldsSoIn_of (by kernel_rfl) ?_ (fun _ => rfl)) rfl ?_; rotate_left; focus (intro w hw; cases hw; go_simp; try (with_reducible rfl))
      refine wpHeldIn_take (i := 2) (v := ?_) (plain_of (by kernel_rfl)) rfl (by kernel_rfl) (fun _ _ _ h => h) (yieldsSoIn_of (by kernel_rfl) ?_ (fun _ => rfl)) rfl ?_; rotate_left; focus (intro w hw; cases hw; go_simp; try (with_reducible rfl))
      refine wpHeldIn_take (i := 3) (v := ?_) (plain_of (by kernel_rfl)) rfl (by kernel_rfl) (fun _ _ _ h => h) (yieldsSoIn_of (by kernel_rfl) ?_ (fun _ => rfl)) rfl ?_; rotate_left; focus (intro w hw; cases hw; go_simp; try (with_reducible rfl))
      refine wpHeldIn_take (i := 4) (v := ?_) (plain_of (by kernel_rfl)) rfl (by kernel_rfl) (fun _ _ _ h => h) (yieldsSoIn_of (by kernel_rfl) ?_ (fun _ => rfl)) rfl ?_; rotate_left; focus (intro w hw; cases hw; go_simp; try (with_reducible rfl))
      refine wpHeldIn_take (i := 5) (v := ?_) (plain_of (by kernel_rfl)) rfl (by kernel_rfl) (fun _ _ _ h => h) (yieldsSoIn_of (by kernel_rfl) ?_ (fun _ => rfl)) rfl ?_; rotate_left; focus (intro w hw; cases hw; go_simp; try (with_reducible rfl))
      refine wpHeldIn_take (i := 6) (v := ?_) (plain_of (by kernel_rfl)) rfl (by kernel_rfl) (fun _ _ _ h => h) (yieldsSoIn_of (by kernel_rfl) ?_ (fun _ => rfl)) rfl ?_; rotate_left; focus (intro w hw; cases hw; go_simp; try (with_reducible rfl))
      refine wpHeldIn_take (i := 7) (v := ?_) (plain_of (by kernel_rfl)) rfl (by kernel_rfl) (fun _ _ _ h => h) (yieldsSoIn_of (by kernel_rfl) ?_ (fun _ => rfl)) rfl ?_; rotate_left; focus (intro w hw; cases hw; go_simp; try (with_reducible rfl))
      refine wpHeldIn_take (i := 8) (v := ?_) (plain_of (by kernel_rfl)) rfl (by kernel_rfl) (fun _ _ _ h => h) (yieldsSoIn_of (by kernel_rfl) ?_ (fun _ => rfl)) rfl ?_; rotate_left; focus (intro w hw; cases hw; go_simp; try (with_reducible rfl))
      refine wpHeldIn_take (i := 9) (v := ?_) (plain_of (by kernel_rfl)) rfl (by kernel_rfl) (fun _ _ _ h => h) (yieldsSoIn_of (by kernel_rfl) ?_ (fun _ => rfl)) rfl ?_; rotate_left; focus (intro w hw; cases hw; go_simp; try (with_reducible rfl))
      refine wpHeldIn_last (by kernel_rfl) rfl (by rfl) (fun K' hK' => ?_)
      go_simp
      refine HR.out.mono ?_
      rintro e W3 (⟨rfl, hJ3, hk3⟩ | ⟨rfl, hJx3⟩)
      · refine hK' _ _ ?_
        refine wpHeldIn_take (i := 11) (v := ?_) (plain_of (by kernel_rfl)) rfl (by kernel_rfl) (fun _ _ _ h => h) (yieldsSoIn_of (by kernel_rfl) ?_ (fun _ => rfl)) trivial ?_; rotate_left; focus (intro w _; go_simp; try (with_reducible rfl))
        refine wpHeldIn_done (by kernel_rfl) ?_ _
        gi_wp2
        go_roundw
        case rel => exact ⟨k + 1, by omega, by go_num, hB.trans (hk2.trans hk3), by have := hk2.1.size; have := hk3.1.size; omega, by rw [HSS.out]; exact hJ3⟩
        case measure => simp [intOf]; omega
      · refine hK' _ _ ?_
        refine wpHeldIn_take (i := 11) (v := ?_) (plain_of (by kernel_rfl)) rfl (by kernel_rfl) (fun _ _ _ h => h) (yieldsSoIn_of (by kernel_rfl) ?_ (fun _ => rfl)) trivial ?_; rotate_left; focus (intro w _; go_simp; try (with_reducible rfl))
        refine wpHeldIn_done (by kernel_rfl) ?_ _
        gi_wp2
        refine bodyPost_ret (results_none rfl _ _ _) rfl ?_
        exact ⟨⟨_, rfl⟩, .inr ⟨_, ⟨k + 1, by omega, HSS.out.symm⟩, hJx3⟩⟩
    · obtain rfl : k = ps.length := by omega
      gi_wp2
      go_end0
      exact ⟨⟨_, rfl⟩, .inl hJs⟩
end Go.Proofs.Ytmjcdggmofohcaa
