/- Divisors, and Twice and Points of package corners. -/
import Derived.Test.YtkfnngcphcfbjaaSums
namespace Go.Proofs.Ytkfnngcphcfbjaa
open Go.RowKit Go.Shelf

set_option maxHeartbeats 400000 in
theorem withoutSign_any (n : Int) (w : World) (h : -1000000000000000000 ≤ n ∧ n ≤ 1000000000000000000) :
    Calls Try.prog 51 #[.int .i64 n] w fun e w' => e = .returned (.int .i64 (n.natAbs : Int)) ∧ w = w' := by
  by_cases hn : 0 ≤ n
  · have HV : Hid ((n.natAbs : Int) = n) := Lib.hid (by omega)
    go_enter Try.func51, Try.ntmps51
    go_wp2
    all_goals
      go_ret
      exact ⟨ret_i (by rw [HV.out]; try omega), rfl⟩
  · have HV : Hid ((n.natAbs : Int) = -n) := Lib.hid (by omega)
    go_enter Try.func51, Try.ntmps51
    go_wp2
    all_goals
      go_ret
      exact ⟨ret_i (by rw [HV.out]; try omega), rfl⟩

namespace Geo
theorem gcd_step (a b : Int) : Int.gcd b (a.tmod b) = Int.gcd a b := by
  unfold Int.gcd
  rw [Int.natAbs_tmod, Nat.gcd_comm, ← Nat.gcd_rec, Nat.gcd_comm]
theorem tmod_lt {a b : Int} (hb : b ≠ 0) : (a.tmod b).natAbs < b.natAbs := by
  rw [Int.natAbs_tmod]
  exact Nat.mod_lt _ (by omega)
end Geo

set_option maxHeartbeats 1000000 in
theorem divisor_any (a b : Int) (w : World) (ha : -1000000000000000000 ≤ a ∧ a ≤ 1000000000000000000) (hb : -1000000000000000000 ≤ b ∧ b ≤ 1000000000000000000) :
    Calls Try.prog 50 #[.int .i64 a, .int .i64 b] w fun e w' => e = .returned (.int .i64 (Int.gcd a b : Int)) ∧ Below w.heap.size w w' := by
  obtain ⟨G, hG⟩ : ∃ G : Nat, G = Int.gcd a b := ⟨_, rfl⟩
  rw [← hG]
  have HG := Lib.hid hG.symm
  clear hG
  go_enter Try.func50, Try.ntmps50
  go_wp2_with fail
  go_loopw [0, 1] (fun x y wr => ∃ p q : Int, x = .int .i64 p ∧ y = .int .i64 q ∧ (-1000000000000000000 ≤ p ∧ p ≤ 1000000000000000000) ∧ (-1000000000000000000 ≤ q ∧ q ≤ 1000000000000000000) ∧ Hid (Int.gcd p q = G) ∧ Below w.heap.size w wr) (fun _ y _ => (intOf y).natAbs)
  case atStart => exact ⟨a, b, rfl, rfl, ha, hb, HG, Below.refl _ _⟩
  case round =>
    clear ha hb
    obtain ⟨p, q, rfl, rfl, hp, hq, hg, hB⟩ := hrel
    by_cases hq0 : q = 0
    · subst hq0
      have HV : Hid ((p.natAbs : Int) = (G : Int)) := Lib.hid (by rw [← hg.out]; simp [Int.gcd])
      go_wp2_with fail
      refine (withoutSign_any p _ hp).mono ?_
      rintro e w1 ⟨rfl, rfl⟩
      go_wp2_with fail
      go_returns
      exact ⟨ret_i HV.out, hB⟩
    · have h1 : (q == 0) = false := by simpa using hq0
      have hlt := Geo.tmod_lt (a := p) hq0
      have hst := Lib.hid ((Geo.gcd_step p q).trans hg.out)
      have hmb : -1000000000000000000 ≤ p.tmod q ∧ p.tmod q ≤ 1000000000000000000 := by omega
      have hw : IntKind.i64.wrap (p.tmod q) = p.tmod q := IntWalk.i64_in _ (by omega)
      have HLT := Lib.hid hlt
      have HMB := Lib.hid hmb
      have HP := Lib.hid hp
      have HQ := Lib.hid hq
      clear hlt hmb hp hq
      go_wp2_with fail
      go_quiet (fail)
      go_wp2_with fail
      go_roundw
      case rel => exact ⟨_, _, rfl, rfl, HQ.out, HMB.out, hst, by (repeat' (first | (with_reducible exact Below.refl _ _) | (with_reducible assumption) | (with_reducible refine Below.alloc ?_ ?_ _) | (with_reducible refine below_drewN ?_ _) | (with_reducible refine Below.drew ?_) | (with_reducible refine Below.setCell ?_ ?_ _) | go_size))⟩
      case measure => show (p.tmod q).natAbs < q.natAbs; exact HLT.out
-- GEN
namespace Geo
def dvV (s : Pt × Pt) : Int := (Int.gcd (s.2.1 - s.1.1) (s.2.2 - s.1.2) : Int)
theorem gcd_le {a b : Int} {M : Nat} (ha : a.natAbs ≤ M) (hb : b.natAbs ≤ M) : Int.gcd a b ≤ M := by
  unfold Int.gcd
  rcases Nat.eq_zero_or_pos a.natAbs with h | h
  · rw [h, Nat.gcd_zero_left]; exact hb
  · exact Nat.le_trans (Nat.gcd_le_left _ h) ha
theorem dv_bd {s : Pt × Pt} (h1 : sm s.1) (h2 : sm s.2) : 0 ≤ dvV s ∧ dvV s ≤ 2000 := by
  unfold sm at h1 h2
  have := gcd_le (a := s.2.1 - s.1.1) (b := s.2.2 - s.1.2) (M := 2000) (by omega) (by omega)
  unfold dvV
  omega
theorem dv_bd2 {s : Pt × Pt} (h1 : sm s.1) (h2 : sm s.2) : -1000000000000000 ≤ dvV s ∧ dvV s ≤ 1000000000000000 := by
  have := dv_bd h1 h2
  omega
def inV (ps : List Pt) : Int := (((tot fanV ps).natAbs : Int) - tot dvV ps + 2).tdiv 2
end Geo
theorem tot_bd {f : Geo.Pt × Geo.Pt → Int} {M : Int} {ps : List Geo.Pt} (h : ∀ p ∈ ps, Geo.sm p) (hf : ∀ s : Geo.Pt × Geo.Pt, Geo.sm s.1 → Geo.sm s.2 → -M ≤ f s ∧ f s ≤ M) : -(M * ps.length) ≤ Geo.tot f ps ∧ Geo.tot f ps ≤ M * ps.length := by
  have := sumOf_bd (val := fun s : Side => f s.1) (M := M) (fun x => hf x.1 x.2.1 x.2.2) (sidesTo ps h ps.length)
  rw [sumOf_tot, sidesTo_len] at this
  exact this

set_option maxRecDepth 100000 in
set_option maxHeartbeats 1000000 in
theorem dv_any (x1 y1 x2 y2 : Int) (w : World) (h1 : Geo.sm (x1, y1)) (h2 : Geo.sm (x2, y2)) :
    Calls Try.prog 49 #[.agg #[.int .i64 x1, .int .i64 y1, .int .i64 x2, .int .i64 y2]] w
      fun e w' => e = .returned (.int .i64 (Geo.dvV ((x1, y1), (x2, y2)))) ∧ Below w.heap.size w w' := by
  obtain ⟨⟨a1, a2⟩, a3, a4⟩ := h1
  obtain ⟨⟨b1, b2⟩, b3, b4⟩ := h2
  dsimp only at a1 a2 a3 a4 b1 b2 b3 b4
  have x0 : Hid (∀ W, Calls Try.prog 50 #[.int .i64 (x2 - x1), .int .i64 (y2 - y1)] W fun e w' => e = .returned (.int .i64 (Geo.dvV ((x1, y1), (x2, y2)))) ∧ Below W.heap.size W w') := fun W => divisor_any _ _ W (by omega) (by omega)
  generalize Geo.dvV ((x1, y1), (x2, y2)) = V at *
  go_enter Try.func49, Try.ntmps49
  go_wp2_with fail
  refine (x0.out _).mono ?_
  rintro e w1 ⟨rfl, hb1⟩
  have hB1 : Below w.heap.size w w1 := Below.trans (by (repeat' (first | (with_reducible exact Below.refl _ _) | (with_reducible assumption) | (with_reducible refine Below.alloc ?_ ?_ _) | (with_reducible refine below_drewN ?_ _) | (with_reducible refine Below.drew ?_) | (with_reducible refine Below.setCell ?_ ?_ _) | go_size))) (hb1.mono (by first | omega | (simp; done) | (simp; omega))); have hz1 := hb1.size; try simp at hz1
  go_wp2_with fail
  go_returns
  exact ⟨rfl, by (repeat' (first | (with_reducible exact Below.refl _ _) | (with_reducible assumption) | (with_reducible refine Below.alloc ?_ ?_ _) | (with_reducible refine below_drewN ?_ _) | (with_reducible refine Below.drew ?_) | (with_reducible refine Below.setCell ?_ ?_ _) | go_size))⟩

set_option maxRecDepth 100000 in
set_option maxHeartbeats 1000000 in
theorem Twice_any (A : Option Addr) (c : Nat) (ps : List Geo.Pt) (hlen : ps.length ≤ 100) (w : World) (hP : Prs w w.heap.size A ps) :
    Calls Try.prog 22 #[.slice A ps.length c] w fun e w' => e = .returned (.tuple #[.int .i64 (Geo.whenV ps (Geo.tot Geo.fanV ps)), .int .i64 (Geo.errV ps)]) ∧ Below w.heap.size w w' := by
  have HC : Hid (Calls Try.prog 33 #[.slice A ps.length c] w (ChkPost (Geo.errV ps) w)) := Check_any A c ps hlen w hP
  cases hv : Geo.validB ps with
  | false =>
    rw [Geo.errV_no hv] at HC
    have HV := Lib.hid hv
    clear hP hlen hv
    go_enter Try.func22, Try.ntmps22
    go_wp2_with fail
    refine HC.out.mono ?_
    rintro e w1 ⟨rfl, hb1⟩
    go_wp2_with fail
    go_returns
    refine ⟨ret_tup (by simp only [Geo.whenV_no HV.out, Geo.errV_no HV.out]; try rfl), hb1⟩
  | true =>
    rw [Geo.errV_yes hv] at HC
    have hsm := Geo.valid_sm hv
    have HV := Lib.hid hv
    have T0 : Hid (∀ W, Below w.heap.size w W → Calls Try.prog 52 #[.slice A ps.length c] W fun e w' => e = .returned (.int .i64 (Geo.tot Geo.fanV ps)) ∧ Below W.heap.size W w') := fun W hW =>
      doubled_any A c ps hsm hlen W (prs_keep hP hW)
    clear hP hlen hv hsm
    obtain ⟨v0, hv0⟩ : ∃ v0, v0 = Geo.tot Geo.fanV ps := ⟨_, rfl⟩
    rw [← hv0] at T0
    have HV0 := Lib.hid hv0
    clear hv0
    go_enter Try.func22, Try.ntmps22
    go_wp2_with fail
    refine HC.out.mono ?_
    rintro e w0 ⟨rfl, hB0⟩
    go_wp2_with fail
    refine (T0.out _ hB0).mono ?_
    rintro e w1 ⟨rfl, hb⟩
    have hB1 : Below w.heap.size w w1 := hB0.trans (hb.mono hB0.size)
    clear hb
    go_wp2_with fail
    go_returns
    refine ⟨ret_tup (by simp only [Geo.whenV_yes HV.out, Geo.errV_yes HV.out, ← HV0.out]; try rfl), hB1⟩

set_option maxRecDepth 100000 in
set_option maxHeartbeats 1000000 in
theorem Points_any (A : Option Addr) (c : Nat) (ps : List Geo.Pt) (hlen : ps.length ≤ 100) (w : World) (hP : Prs w w.heap.size A ps) :
    Calls Try.prog 19 #[.slice A ps.length c] w fun e w' => e = .returned (.tuple #[.int .i64 (Geo.whenV ps (Geo.inV ps)), .int .i64 (Geo.whenV ps (Geo.tot Geo.dvV ps)), .int .i64 (Geo.errV ps)]) ∧ Below w.heap.size w w' := by
  have HC : Hid (Calls Try.prog 33 #[.slice A ps.length c] w (ChkPost (Geo.errV ps) w)) := Check_any A c ps hlen w hP
  cases hv : Geo.validB ps with
  | false =>
    rw [Geo.errV_no hv] at HC
    have HV := Lib.hid hv
    clear hP hlen hv
    go_enter Try.func19, Try.ntmps19
    go_wp2_with fail
    refine HC.out.mono ?_
    rintro e w1 ⟨rfl, hb1⟩
    go_wp2_with fail
    go_returns
    refine ⟨ret_tup (by simp only [Geo.whenV_no HV.out, Geo.errV_no HV.out]; try rfl), hb1⟩
  | true =>
    rw [Geo.errV_yes hv] at HC
    have hsm := Geo.valid_sm hv
    have HV := Lib.hid hv
    have T0 : Hid (∀ W, Below w.heap.size w W → Calls Try.prog 48 #[.slice A ps.length c, .func (.func 49) #[] #[]] W fun e w' => e = .returned (.int .i64 (Geo.tot Geo.dvV ps)) ∧ Below W.heap.size W w') := fun W hW =>
      total_any A c ps hsm hlen 49 Geo.dvV (fun s h1 h2 => Geo.dv_bd2 h1 h2) (enters_of Try.func49 (by kernel_rfl) rfl) (fun x1 y1 x2 y2 W h1 h2 => dv_any x1 y1 x2 y2 W h1 h2) W (prs_keep hP hW)
    have T1 : Hid (∀ W, Below w.heap.size w W → Calls Try.prog 52 #[.slice A ps.length c] W fun e w' => e = .returned (.int .i64 (Geo.tot Geo.fanV ps)) ∧ Below W.heap.size W w') := fun W hW => doubled_any A c ps hsm hlen W (prs_keep hP hW)
    have bd1 := tot_bd (f := Geo.dvV) (M := 2000) hsm (fun s h1 h2 => by have := Geo.dv_bd h1 h2; omega)
    have bd2 := tot_bd (f := Geo.fanV) (M := 8000000) hsm (fun s h1 h2 => by have := Geo.fan_bd h1 h2; omega)
    have HI : Hid (Geo.inV ps = (((Geo.tot Geo.fanV ps).natAbs : Int) - Geo.tot Geo.dvV ps + 2).tdiv 2) := rfl
    have HVD := Lib.hid (Geo.whenV_yes hv (Geo.tot Geo.dvV ps))
    generalize Geo.tot Geo.dvV ps = D at *
    generalize Geo.tot Geo.fanV ps = T at *
    have bdn : 0 ≤ (T.natAbs : Int) ∧ (T.natAbs : Int) ≤ 800000000 := by omega
    have bdd : -200000 ≤ D ∧ D ≤ 200000 := by omega
    have HS : Hid (∀ W, Calls Try.prog 51 #[.int .i64 T] W fun e w' => e = .returned (.int .i64 (T.natAbs : Int)) ∧ W = w') := fun W => withoutSign_any T W (by omega)
    clear hP hlen hv hsm bd1 bd2
    generalize (T.natAbs : Int) = N at *
    obtain ⟨n1, n2⟩ := bdn
    obtain ⟨d1, d2⟩ := bdd
    have ht : (N - D + 2).tdiv 2 ≤ 1000000000 ∧ -1000000000 ≤ (N - D + 2).tdiv 2 := by
      have h1 : ((N - D + 2).tdiv 2).natAbs = (N - D + 2).natAbs / 2 := Int.natAbs_tdiv _ _
      omega
    have hw1 : IntKind.i64.wrap (N - D) = N - D := IntWalk.i64_in _ (by omega)
    have hw2 : IntKind.i64.wrap (N - D + 2) = N - D + 2 := IntWalk.i64_in _ (by omega)
    have hw3 : IntKind.i64.wrap ((N - D + 2).tdiv 2) = (N - D + 2).tdiv 2 := IntWalk.i64_in _ (by omega)
    clear ht
    go_enter Try.func19, Try.ntmps19
    go_wp2_with fail
    refine HC.out.mono ?_
    rintro e w0 ⟨rfl, hB0⟩
    go_wp2_with fail
    refine (T0.out _ hB0).mono ?_
    rintro e w1 ⟨rfl, hb⟩
    have hB1 : Below w.heap.size w w1 := hB0.trans (hb.mono hB0.size)
    clear hb
    go_wp2_with fail
    refine (T1.out _ hB1).mono ?_
    rintro e w2 ⟨rfl, hb⟩
    have hB2 : Below w.heap.size w w2 := hB1.trans (hb.mono hB1.size)
    clear hb
    go_wp2_with fail
    refine (HS.out _).mono ?_
    rintro e w3 ⟨rfl, rfl⟩
    go_wp2_with fail
    go_returns
    refine ⟨ret_tup (by rw [Geo.whenV_yes HV.out, HI.out, Geo.errV_yes HV.out, HVD.out]; try rfl), hB2⟩
end Go.Proofs.Ytkfnngcphcfbjaa
