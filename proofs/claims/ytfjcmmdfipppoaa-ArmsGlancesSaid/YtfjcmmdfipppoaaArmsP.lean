/- Contracts of the verniers of package arms. -/
import Derived.Test.YtfjcmmdfipppoaaArmsE
import Derived.Test.YtfjcmmdfipppoaaArmsVp
import Derived.Deep.LoopGhost
import Derived.Deep.AppendLies
import Derived.Laws.OwnMore
import Derived.Deep.Draws
namespace Go.Proofs.Ytfjcmmdfipppoaa
open Go.RowKit

set_option maxHeartbeats 1000000 in
theorem checkVernier_any (p s : Int) (w : World) :
    Calls Try.prog 74 #[.agg #[.int .i64 p, .int .i64 s]] w fun e w' => e = .returned (.int .i64 (Ver.vE p s)) ∧ Below w.heap.size w w' := by
  go_enter Try.func74, Try.ntmps74
  go_wp2
  all_goals go_returns
  all_goals refine ⟨ret_i ?_, by (repeat' (first | (with_reducible exact Below.refl _ _) | (with_reducible assumption) | (with_reducible refine Below.alloc ?_ ?_ _) | (with_reducible refine below_drewN ?_ _) | (with_reducible refine Below.drew ?_) | (with_reducible refine Below.setCell ?_ ?_ _) | go_size))⟩
  all_goals first | exact (Ver.vE_no (by unfold Ver.vP; omega)).symm | exact (Ver.vE_yes (by unfold Ver.vP; omega)).symm

set_option maxHeartbeats 1000000 in
theorem fits_any (p s n l : Int) (w : World) (hv : Ver.vP p s) (h0 : 0 ≤ n) (h1 : n ≤ 10000) (h2 : 0 ≤ l) (h3 : l < p) :
    Calls Try.prog 75 #[.agg #[.int .i64 p, .int .i64 s], .int .i64 n, .int .i64 l] w fun e w' => e = .returned (.bool (Ver.fitB p s n l)) ∧ Below w.heap.size w w' := by
  unfold Ver.vP at hv
  have m0 := Int.emod_nonneg n (b := p) (by omega)
  have m1 := Int.emod_lt_of_pos n (b := p) (by omega)
  have hne : ¬ p = 0 := by omega
  go_enter Try.func75, Try.ntmps75
  go_wp2_with fail
  refine (withoutSign_any (n % p - l) _ (by omega) (by omega)).mono ?_
  rintro e w1 ⟨rfl, rfl⟩
  go_wp2_with fail
  all_goals go_returns
  all_goals refine ⟨ret_b ?_, by (repeat' (first | (with_reducible exact Below.refl _ _) | (with_reducible assumption) | (with_reducible refine Below.alloc ?_ ?_ _) | (with_reducible refine below_drewN ?_ _) | (with_reducible refine Below.drew ?_) | (with_reducible refine Below.setCell ?_ ?_ _) | go_size))⟩
  all_goals rw [Bool.eq_iff_iff]
  all_goals unfold Ver.fitB
  all_goals simp only [decide_eq_true_eq]
  all_goals omega

/-- A slice of glances reads as a list. -/
def Gls (w : World) (B : Nat) (A : Option Addr) (gs : List (Int × Int)) : Prop :=
  0 < gs.length → ∃ b off, A = some ⟨b, off, none⟩ ∧ b < B ∧ ∀ (k : Nat) (g : Int × Int), gs[k]? = some g → w.cell? ⟨b, off + k * 2, none⟩ = some (.int .i64 g.1) ∧ w.cell? ⟨b, off + k * 2 + 1, none⟩ = some (.int .i64 g.2)
theorem Gls.keep {w w' : World} {B : Nat} {A : Option Addr} {gs : List (Int × Int)} (h : Gls w B A gs) (hb : Below B w w') : Gls w' B A gs := fun hn => by
  obtain ⟨b, off, e, hB, hc⟩ := h hn
  exact ⟨b, off, e, hB, fun k g hg => ⟨(hb.cell (p := ⟨b, _, none⟩) hB).trans (hc k g hg).1, (hb.cell (p := ⟨b, _, none⟩) hB).trans (hc k g hg).2⟩⟩

set_option maxHeartbeats 1000000 in
theorem checkGlances_any (p s : Int) (A : Option Addr) (c : Nat) (gs : List (Int × Int)) (w : World) (hl : gs.length ≤ 140737488355328) (hg : Gls w w.heap.size A gs) :
    Calls Try.prog 77 #[.agg #[.int .i64 p, .int .i64 s], .slice A gs.length c] w fun e w' => e = .returned (.int .i64 (Ver.glE p gs)) ∧ Below w.heap.size w w' := by
  by_cases h6 : 1 ≤ gs.length ∧ gs.length ≤ 6
  · obtain ⟨b, off, rfl, hbB, hc⟩ := hg (by omega)
    have HC := Lib.hid hc
    clear hg hc hl
    go_enter Try.func77, Try.ntmps77
    go_wp2_with fail
    go_loopw [17] (fun x wr => ∃ k : Nat, k ≤ gs.length ∧ x = .int .i64 k ∧ Below w.heap.size w wr ∧ w.heap.size < wr.heap.size ∧ wr.cell? ⟨w.heap.size, 0, none⟩ = some (.int .i64 p) ∧ wr.cell? ⟨w.heap.size, 1, none⟩ = some (.int .i64 s) ∧ Hid (∀ j (g : Int × Int), j < k → gs[j]? = some g → Ver.glP p g)) (fun x _ => gs.length - (intOf x).toNat)
    case atStart => exact ⟨0, by omega, rfl, by (repeat' (first | (with_reducible exact Below.refl _ _) | (with_reducible assumption) | (with_reducible refine Below.alloc ?_ ?_ _) | (with_reducible refine below_drewN ?_ _) | (with_reducible refine Below.drew ?_) | (with_reducible refine Below.setCell ?_ ?_ _) | go_size)), by first | omega | (simp; done) | (simp; omega), by go_cell, by go_cell, fun j g hj => by omega⟩
    case round =>
      obtain ⟨k, hk, rfl, hB, hz, p0, p1, hall⟩ := hrel
      by_cases hlt : k < gs.length
      · have hgk : gs[k]? = some gs[k] := List.getElem?_eq_getElem hlt
        obtain ⟨c0, c1⟩ := HC.out k _ hgk
        have d0 := (hB.cell (p := ⟨b, off + k * 2, none⟩) hbB).trans c0
        have d1 := (hB.cell (p := ⟨b, off + k * 2 + 1, none⟩) hbB).trans c1
        have hbr : b < wr.heap.size := by have := hB.size; omega
        have HK := Lib.hid hgk
        clear c0 c1 hgk
        generalize gs[k] = g at *
        go_wp2_with fail
        all_goals first
          | (go_roundw
             case rel => exact ⟨k + 1, by omega, by go_num, by (repeat' (first | (with_reducible exact Below.refl _ _) | (with_reducible assumption) | (with_reducible refine Below.alloc ?_ ?_ _) | (with_reducible refine below_drewN ?_ _) | (with_reducible refine Below.drew ?_) | (with_reducible refine Below.setCell ?_ ?_ _) | go_size)), by simp; omega, by go_cell, by go_cell, fun j g' hj hg' => by
               by_cases e : j = k
               · subst e
                 have : g' = g := by have := HK.out; rw [hg'] at this; injection this
                 subst this
                 unfold Ver.glP; omega
               · exact hall.out j g' (by omega) hg'⟩
             case measure => simp [intOf]; omega)
          | (go_returns
             refine ⟨ret_i (Ver.glE_no (fun hh => ?_)).symm, by (repeat' (first | (with_reducible exact Below.refl _ _) | (with_reducible assumption) | (with_reducible refine Below.alloc ?_ ?_ _) | (with_reducible refine below_drewN ?_ _) | (with_reducible refine Below.drew ?_) | (with_reducible refine Below.setCell ?_ ?_ _) | go_size))⟩
             have := hh.2 g (List.mem_of_getElem? HK.out)
             unfold Ver.glP at this
             omega)
      · have e : k = gs.length := by omega
        have E := Lib.hid e
        clear e
        go_wp2_with fail
        go_returns
        refine ⟨ret_i (Ver.glE_yes ⟨h6, fun g hg => ?_⟩).symm, by (repeat' (first | (with_reducible exact Below.refl _ _) | (with_reducible assumption) | (with_reducible refine Below.alloc ?_ ?_ _) | (with_reducible refine below_drewN ?_ _) | (with_reducible refine Below.drew ?_) | (with_reducible refine Below.setCell ?_ ?_ _) | go_size))⟩
        obtain ⟨j, hj, hjg⟩ := List.getElem_of_mem hg
        exact hall.out j g (by rw [E.out]; exact hj) (by rw [← hjg]; exact List.getElem?_eq_getElem hj)
  · have hno := Lib.hid (Ver.glE_no (p := p) (gs := gs) (fun hh => h6 hh.1))
    clear hg
    by_cases h1 : gs.length < 1
    all_goals
      go_enter Try.func77, Try.ntmps77
      go_wp2_with fail
      all_goals first
        | (exfalso; omega)
        | (go_returns; exact ⟨ret_i hno.out.symm, by (repeat' (first | (with_reducible exact Below.refl _ _) | (with_reducible assumption) | (with_reducible refine Below.alloc ?_ ?_ _) | (with_reducible refine below_drewN ?_ _) | (with_reducible refine Below.drew ?_) | (with_reducible refine Below.setCell ?_ ?_ _) | go_size))⟩)
end Go.Proofs.Ytfjcmmdfipppoaa
