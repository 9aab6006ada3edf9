/- Walks: doubled and Area, by the program. -/
import Derived.Test.YtmjcdggmofohcaaWlJ
import Derived.Test.YtmjcdggmofohcaaWlC
import Derived.Test.YtmjcdggmofohcaaWlE
namespace Go.Proofs.Ytmjcdggmofohcaa
open Go.RowKit
namespace Wl
theorem sum_to (ps : List Pt) (h : ∀ p ∈ ps, Geo.sm p) : ∀ k, sumOf crS (sidesTo ps h k) = dblTo ps k
  | 0 => rfl
  | k + 1 => by
    rw [sidesTo_succ, sumOf_snoc, sum_to ps h k]
    rfl
theorem pts_all {ps : List Pt} (h : ptsB ps = true) : (∀ p ∈ ps, Geo.sm p) ∧ ps.length ≤ 8 := by
  refine ⟨fun p hp => ?_, ?_⟩
  · obtain ⟨k, hk, rfl⟩ := List.getElem_of_mem hp
    have := pts_sm h hk
    unfold ptAt at this
    rwa [List.getElem?_eq_getElem hk] at this
  · unfold ptsB inB at h
    simp only [Bool.and_eq_true, decide_eq_true_eq] at h
    omega
end Wl
theorem doubledW_any (A : Option Addr) (c : Nat) (ps : List Wl.Pt) (hps : ∀ p ∈ ps, Geo.sm p) (hlen : ps.length ≤ 100) (w : World) (hP : Prs w w.heap.size A ps) :
    Calls Try.prog 52 #[.slice A ps.length c] w fun e w' => e = .returned (.int .i64 (Wl.dbl ps)) ∧ Below w.heap.size w w' := by
  have := doubled_in 9 (by omega) A c ps hps hlen w hP
  rw [Wl.sum_to] at this
  exact (callsIn_wide (n := 9)).1 this
set_option maxHeartbeats 1000000 in
theorem AreaW_any (A : Option Addr) (c : Nat) (ps : List Wl.Pt) (hl : ps.length ≤ 1000000000) (w : World) (hP : Prs w w.heap.size A ps) :
    Calls Try.prog 16 #[.slice A ps.length c] w (TwoPost (if Wl.ptsB ps then Wl.dbl ps else 0) (if Wl.ptsB ps then 0 else 51) w) := by
  have HV := Lib.hid (validWalkW_any A c ps hl w hP)
  cases hb : Wl.ptsB ps
  · rw [hb] at HV
    clear hP hb
    go_enter Try.func16, Try.ntmps16
    go_wp2_with fail
    refine HV.out.mono ?_
    rintro e w1 ⟨rfl, hb1⟩
    go_wp2_with fail
    go_returns
    exact ⟨rfl, hb1⟩
  · rw [hb] at HV
    obtain ⟨h1, h2⟩ := Wl.pts_all hb
    have HD : Hid (∀ W, Below w.heap.size w W → Calls Try.prog 52 #[.slice A ps.length c] W fun e w' => e = .returned (.int .i64 (Wl.dbl ps)) ∧ Below W.heap.size W w') := fun W hW => doubledW_any A c ps h1 (by omega) W (prs_keep hP hW)
    generalize Wl.dbl ps = D at *
    clear hP hb h1 h2
    go_enter Try.func16, Try.ntmps16
    go_wp2_with fail
    refine HV.out.mono ?_
    rintro e w1 ⟨rfl, hb1⟩
    go_wp2_with fail
    refine (HD.out _ hb1).mono ?_
    rintro e w2 ⟨rfl, hb2⟩
    have hB2 := hb1.trans (hb2.mono hb1.size)
    go_wp2_with fail
    go_returns
    exact ⟨rfl, hB2⟩
end Go.Proofs.Ytmjcdggmofohcaa
