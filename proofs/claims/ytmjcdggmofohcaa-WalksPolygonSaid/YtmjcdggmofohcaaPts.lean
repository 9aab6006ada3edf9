/- Divisors, and Twice and Points of package corners. -/
import Derived.Test.YtmjcdggmofohcaaMom
namespace Go.Proofs.Ytmjcdggmofohcaa
open Go.RowKit Go.Shelf

namespace Geo
theorem gcd_step (a b : Int) : Int.gcd b (a.tmod b) = Int.gcd a b := by
  unfold Int.gcd
  rw [Int.natAbs_tmod, Nat.gcd_comm, ← Nat.gcd_rec, Nat.gcd_comm]
theorem tmod_lt {a b : Int} (hb : b ≠ 0) : (a.tmod b).natAbs < b.natAbs := by
  rw [Int.natAbs_tmod]
  exact Nat.mod_lt _ (by omega)
end Geo

namespace Geo
def dvV (s : Pt × Pt) : Int := (Int.gcd (s.2.1 - s.1.1) (s.2.2 - s.1.2) : Int)
theorem gcd_le {a b : Int} {M : Nat} (ha : a.natAbs ≤ M) (hb : b.natAbs ≤ M) : Int.gcd a b ≤ M := by
  unfold Int.gcd
  rcases Nat.eq_zero_or_pos a.natAbs with h | h
  · rw [h, Nat.gcd_zero_left]; exact hb
  · exact Nat.le_trans (Nat.gcd_le_left _ h) ha
theorem dv_bd {s : Pt × Pt} (h1 : sm s.1) (h2 : sm s.2) : 0 ≤ dvV s ∧ dvV s ≤ 2000 := by
  unfold sm at h1 h2
  have := gcd_le (a := s.2.1 - s.1.1) (b := s.2.2 - s.1.2) (M := 2000) (by omega) (by omega)
  unfold dvV
  omega
theorem dv_bd2 {s : Pt × Pt} (h1 : sm s.1) (h2 : sm s.2) : -1000000000000000 ≤ dvV s ∧ dvV s ≤ 1000000000000000 := by
  have := dv_bd h1 h2
  omega
def inV (ps : List Pt) : Int := (((tot fanV ps).natAbs : Int) - tot dvV ps + 2).tdiv 2
end Geo
theorem tot_bd {f : Geo.Pt × Geo.Pt → Int} {M : Int} {ps : List Geo.Pt} (h : ∀ p ∈ ps, Geo.sm p) (hf : ∀ s : Geo.Pt × Geo.Pt, Geo.sm s.1 → Geo.sm s.2 → -M ≤ f s ∧ f s ≤ M) : -(M * ps.length) ≤ Geo.tot f ps ∧ Geo.tot f ps ≤ M * ps.length := by
  have := sumOf_bd (val := fun s : Side => f s.1) (M := M) (fun x => hf x.1 x.2.1 x.2.2) (sidesTo ps h ps.length)
  rw [sumOf_tot, sidesTo_len] at this
  exact this

set_option maxRecDepth 100000 in
set_option maxHeartbeats 1000000 in
theorem Twice_any (A : Option Addr) (c : Nat) (ps : List Geo.Pt) (hlen : ps.length ≤ 100) (w : World) (hP : Prs w w.heap.size A ps) :
    Calls Try.prog 40 #[.slice A ps.length c] w fun e w' => e = .returned (.tuple #[.int .i64 (Geo.whenV ps (Geo.tot Geo.fanV ps)), .int .i64 (Geo.errV ps)]) ∧ Below w.heap.size w w' := by
  have HC : Hid (Calls Try.prog 41 #[.slice A ps.length c] w (ChkPost (Geo.errV ps) w)) := Check_any A c ps hlen w hP
  cases hv : Geo.validB ps with
  | false =>
    rw [Geo.errV_no hv] at HC
    have HV := Lib.hid hv
    clear hP hlen hv
    go_enter Try.func40, Try.ntmps40
    go_wp2_with fail
    refine HC.out.mono ?_
    rintro e w1 ⟨rfl, hb1⟩
    go_wp2_with fail
    go_returns
    refine ⟨ret_tup (by simp only [Geo.whenV_no HV.out, Geo.errV_no HV.out]; try rfl), hb1⟩
  | true =>
    rw [Geo.errV_yes hv] at HC
    have hsm := Geo.valid_sm hv
    have HV := Lib.hid hv
    have T0 : Hid (∀ W, Below w.heap.size w W → Calls Try.prog 74 #[.slice A ps.length c] W fun e w' => e = .returned (.int .i64 (Geo.tot Geo.fanV ps)) ∧ Below W.heap.size W w') := fun W hW =>
      doubled_any A c ps hsm hlen W (prs_keep hP hW)
    clear hP hlen hv hsm
    obtain ⟨v0, hv0⟩ : ∃ v0, v0 = Geo.tot Geo.fanV ps := ⟨_, rfl⟩
    rw [← hv0] at T0
    have HV0 := Lib.hid hv0
    clear hv0
    go_enter Try.func40, Try.ntmps40
    go_wp2_with fail
    refine HC.out.mono ?_
    rintro e w0 ⟨rfl, hB0⟩
    go_wp2_with fail
    refine (T0.out _ hB0).mono ?_
    rintro e w1 ⟨rfl, hb⟩
    have hB1 : Below w.heap.size w w1 := hB0.trans (hb.mono hB0.size)
    clear hb
    go_wp2_with fail
    go_returns
    refine ⟨ret_tup (by simp only [Geo.whenV_yes HV.out, Geo.errV_yes HV.out, ← HV0.out]; try rfl), hB1⟩

end Go.Proofs.Ytmjcdggmofohcaa
