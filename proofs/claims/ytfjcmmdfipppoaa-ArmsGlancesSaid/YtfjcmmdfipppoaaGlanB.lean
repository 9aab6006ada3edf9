/- The contract of the specification's check of glances, for any number of them. -/
import Derived.Test.YtfjcmmdfipppoaaSeenC
namespace Go.Proofs.Ytfjcmmdfipppoaa
open Go.RowKit
set_option maxRecDepth 100000 in
set_option maxHeartbeats 2000000 in
theorem AreGlances_big (p s : Int) (A : Option Addr) (c : Nat) (gs : List (Int × Int)) (w : World) (hv : Ver.vP p s) (hl : gs.length ≤ 9223372036854775807) (hg : Gls w w.heap.size A gs) :
    Calls Try.prog 48 #[.agg #[.int .i64 p, .int .i64 s], .slice A gs.length c] w fun e w' => e = .returned (.bool (Ver.glsB p gs)) ∧ Below w.heap.size w w' := by
  have HG := Lib.hid hg
  unfold Ver.vP at hv
  clear hg
  go_enter Try.func48, Try.ntmps48
  go_wp2_with fail
  go_loopw [5] (fun x wr => ∃ k : Nat, (k : Int) ≤ gs.length ∧ x = .int .i64 k ∧ Below w.heap.size w wr ∧ w.heap.size < wr.heap.size ∧ wr.cell? ⟨w.heap.size, 0, none⟩ = some (.int .i64 p) ∧ Hid (∀ j (g : Int × Int), j < k → gs[j]? = some g → Ver.glP p g)) (fun x _ => (gs.length - intOf x).toNat)
  case atStart => exact ⟨0, by omega, rfl, by (repeat' (first | (with_reducible exact Below.refl _ _) | (with_reducible assumption) | (with_reducible refine Below.alloc ?_ ?_ _) | (with_reducible refine below_drewN ?_ _) | (with_reducible refine Below.drew ?_) | (with_reducible refine Below.setCell ?_ ?_ _) | go_size)), by first | omega | (simp; done) | (simp; omega), by go_cell, fun j g hj => by omega⟩
  case round =>
    obtain ⟨k, hk, rfl, hB, hz, p0, hall⟩ := hrel
    have hkn := Int.natCast_nonneg k
    by_cases hlt : (k : Int) < gs.length
    · have hkl : k < gs.length := by omega
      have hgk : gs[k]? = some gs[k] := List.getElem?_eq_getElem hkl
      obtain ⟨b, off, rfl, hbB, hcc⟩ := HG.out (by omega)
      obtain ⟨c0, c1⟩ := hcc k _ hgk
      have d0 := (hB.cell (p := ⟨b, off + k * 2, none⟩) hbB).trans c0
      have d1 := (hB.cell (p := ⟨b, off + k * 2 + 1, none⟩) hbB).trans c1
      have hbr : b < wr.heap.size := by have := hB.size; omega
      have HK := Lib.hid hgk
      clear c0 c1 hgk hcc HG
      generalize gs[k] = g at *
      have wp : IntKind.i64.wrap (p - 1) = p - 1 := IntWalk.i64_in _ (by omega)
      have HB := Lib.hid hB
      clear hB hbB
      by_cases h1 : 0 ≤ g.1 ∧ g.1 ≤ 10000
      · have y1 : Hid (∀ W, Calls Try.prog 46 #[.int .i64 g.1, .int .i64 0, .int .i64 10000] W fun e w' => e = .returned (.bool true) ∧ w' = W) := fun W => (Within_yes h1 W).mono fun _ _ h => ⟨h.1, h.2.symm⟩
        have y2 : Hid (∀ W, Calls Try.prog 46 #[.int .i64 g.2, .int .i64 0, .int .i64 (p - 1)] W fun e w' => e = .returned (.bool (inB g.2 0 (p - 1))) ∧ w' = W) := fun W => (Within_any g.2 0 (p - 1) W).mono fun _ _ h => ⟨h.1, h.2.symm⟩
        go_wp2_with fail
        go_quiet ((go_at_call 46; first | (with_reducible exact Calls.quiet_of_same (y1.out _)) | (with_reducible exact Calls.quiet_of_same (y2.out _))))
        clear y1 y2 wp
        cases hin : inB g.2 0 (p - 1)
        · have hno : Hid (Ver.glsB p gs = false) := Ver.glsB_no HK.out (fun h => inB_false.1 hin ⟨h.2.1, by have := h.2.2; omega⟩)
          clear hin
          go_wp2_with fail
          go_returns
          exact ⟨ret_b hno.out.symm, below_drewN HB.out _⟩
        · have hin' := inB_true.1 hin
          clear hin
          go_wp2_with fail
          go_roundw
          case rel => exact ⟨k + 1, by omega, by go_num, below_drewN HB.out _, by simpa using hz, by simpa using p0, fun j g' hj hg' => by
            by_cases e : j = k
            · subst e
              have := HK.out
              rw [hg'] at this
              injection this with this
              subst this
              exact ⟨h1, by omega⟩
            · exact hall.out j g' (by omega) hg'⟩
          case measure => simp [intOf]; omega
      · have hno : Hid (Ver.glsB p gs = false) := Ver.glsB_no HK.out (fun h => h1 h.1)
        have y1 : Hid (∀ W, Calls Try.prog 46 #[.int .i64 g.1, .int .i64 0, .int .i64 10000] W fun e w' => e = .returned (.bool false) ∧ w' = W) := fun W => (Within_no h1 W).mono fun _ _ h => ⟨h.1, h.2.symm⟩
        clear h1
        go_wp2_with fail
        go_quiet ((go_at_call 46; (with_reducible exact Calls.quiet_of_same (y1.out _))))
        go_wp2_with fail
        go_returns
        exact ⟨ret_b hno.out.symm, below_drewN HB.out _⟩
    · have hyes : Hid (Ver.glsB p gs = inB (gs.length : Int) 1 6) := Ver.glsB_all (fun j g hj => hall.out j g (by have := (List.getElem?_eq_some_iff.1 hj).1; omega) hj)
      go_wp2_with fail
      refine (Within_any _ _ _ _).mono ?_
      rintro e w2 ⟨rfl, rfl⟩
      go_wp2_with fail
      go_returns
      exact ⟨ret_b hyes.out.symm, hB⟩
end Go.Proofs.Ytfjcmmdfipppoaa
