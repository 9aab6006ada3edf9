/- Wheels: what is valid, by the reference. -/
import Derived.Test.YtecmlakcpgkfbaaWhBd
import Derived.Test.YtecmlakcpgkfbaaArmsA
namespace Go.Proofs.Ytecmlakcpgkfbaa
open Go.RowKit
theorem within3_any (n l h : Int) (w : World) : Calls Try.prog 68 #[.int .i64 n, .int .i64 l, .int .i64 h] w fun e w' => e = .returned (.bool (inB n l h)) ∧ w' = w := by
  go_enter Try.func68, Try.ntmps68
  go_wp2_with fail
  refine (Within1_any n l h _).mono ?_
  rintro e w1 ⟨rfl, rfl⟩
  go_wp2_with fail
  go_returns
  exact ⟨rfl, rfl⟩
set_option maxHeartbeats 400000 in
theorem isOne3_any (n : Int) (w : World) : Calls Try.prog 65 #[.int .i64 n] w fun e w' => e = .returned (.bool (Wh.signB n)) ∧ w' = w := by
  go_enter Try.func65, Try.ntmps65
  go_wp2
  all_goals
    go_ret
    refine ⟨ret_b ?_, rfl⟩
    rw [Bool.eq_iff_iff]
    simp [Wh.signB]
    try omega
set_option maxRecDepth 100000 in
set_option maxHeartbeats 4000000 in
theorem isWheel3_any (d : Wh.Desk) (w : World) :
    Calls Try.prog 51 #[.agg (whV d)] w fun e w' => e = .returned (.bool (Wh.whB d)) ∧ Below w.heap.size w w' := by
  obtain ⟨full, read, slip, skew, circ, glo, ghi, wrn, ws⟩ := d
  unfold whV
  dsimp only
  have H0 : Hid (∀ W, Calls Try.prog 68 #[.int .i64 full, .int .i64 10, .int .i64 10000] W fun e w' => e = .returned (.bool (inB full 10 10000)) ∧ w' = W) := fun W => within3_any full 10 10000 W
  have H1 : Hid (∀ W, Calls Try.prog 68 #[.int .i64 read, .int .i64 0, .int .i64 20] W fun e w' => e = .returned (.bool (inB read 0 20)) ∧ w' = W) := fun W => within3_any read 0 20 W
  have H2 : Hid (∀ W, Calls Try.prog 68 #[.int .i64 slip, .int .i64 0, .int .i64 20] W fun e w' => e = .returned (.bool (inB slip 0 20)) ∧ w' = W) := fun W => within3_any slip 0 20 W
  have H3 : Hid (∀ W, Calls Try.prog 68 #[.int .i64 skew, .int .i64 0, .int .i64 20] W fun e w' => e = .returned (.bool (inB skew 0 20)) ∧ w' = W) := fun W => within3_any skew 0 20 W
  have H4 : Hid (∀ W, Calls Try.prog 68 #[.int .i64 circ, .int .i64 0, .int .i64 9999] W fun e w' => e = .returned (.bool (inB circ 0 9999)) ∧ w' = W) := fun W => within3_any circ 0 9999 W
  have H5 : Hid (∀ W, Calls Try.prog 68 #[.int .i64 glo, .int .i64 0, .int .i64 ghi] W fun e w' => e = .returned (.bool (inB glo 0 ghi)) ∧ w' = W) := fun W => within3_any glo 0 ghi W
  have H7 : Hid (∀ W, Calls Try.prog 68 #[.int .i64 wrn, .int .i64 0, .int .i64 8] W fun e w' => e = .returned (.bool (inB wrn 0 8)) ∧ w' = W) := fun W => within3_any wrn 0 8 W
  have HR : Hid (Wh.whB ⟨full, read, slip, skew, circ, glo, ghi, wrn, ws⟩ = (((((((inB full 10 10000 && inB read 0 20) && inB slip 0 20) && inB skew 0 20) && inB circ 0 9999) && inB glo 0 ghi) && decide (ghi ≤ 9999)) && inB wrn 0 8)) := rfl
  generalize Wh.whB ⟨full, read, slip, skew, circ, glo, ghi, wrn, ws⟩ = R at *
  generalize inB full 10 10000 = b0 at *
  generalize inB read 0 20 = b1 at *
  generalize inB slip 0 20 = b2 at *
  generalize inB skew 0 20 = b3 at *
  generalize inB circ 0 9999 = b4 at *
  generalize inB glo 0 ghi = b5 at *
  generalize inB wrn 0 8 = b7 at *
  cases b0 with
  | false =>
    go_enter Try.func51, Try.ntmps51
    go_wp2_with fail
    refine (H0.out _).mono ?_
    rintro e w1 ⟨rfl, rfl⟩
    go_wp2_with fail
    go_returns
    exact ⟨by rw [HR.out]; first | rfl | simp [*], (Below.refl _ _).alloc (Nat.le_refl _) _⟩
  | true =>
    cases b1 with
    | false =>
      go_enter Try.func51, Try.ntmps51
      go_wp2_with fail
      refine (H0.out _).mono ?_
      rintro e w1 ⟨rfl, rfl⟩
      go_wp2_with fail
      refine (H1.out _).mono ?_
      rintro e w2 ⟨rfl, rfl⟩
      go_wp2_with fail
      go_returns
      exact ⟨by rw [HR.out]; first | rfl | simp [*], (Below.refl _ _).alloc (Nat.le_refl _) _⟩
    | true =>
      cases b2 with
      | false =>
        go_enter Try.func51, Try.ntmps51
        go_wp2_with fail
        refine (H0.out _).mono ?_
        rintro e w1 ⟨rfl, rfl⟩
        go_wp2_with fail
        refine (H1.out _).mono ?_
        rintro e w2 ⟨rfl, rfl⟩
        go_wp2_with fail
        refine (H2.out _).mono ?_
        rintro e w3 ⟨rfl, rfl⟩
        go_wp2_with fail
        go_returns
        exact ⟨by rw [HR.out]; first | rfl | simp [*], (Below.refl _ _).alloc (Nat.le_refl _) _⟩
      | true =>
        cases b3 with
        | false =>
          go_enter Try.func51, Try.ntmps51
          go_wp2_with fail
          refine (H0.out _).mono ?_
          rintro e w1 ⟨rfl, rfl⟩
          go_wp2_with fail
          refine (H1.out _).mono ?_
          rintro e w2 ⟨rfl, rfl⟩
          go_wp2_with fail
          refine (H2.out _).mono ?_
          rintro e w3 ⟨rfl, rfl⟩
          go_wp2_with fail
          refine (H3.out _).mono ?_
          rintro e w4 ⟨rfl, rfl⟩
          go_wp2_with fail
          go_returns
          exact ⟨by rw [HR.out]; first | rfl | simp [*], (Below.refl _ _).alloc (Nat.le_refl _) _⟩
        | true =>
          cases b4 with
          | false =>
            go_enter Try.func51, Try.ntmps51
            go_wp2_with fail
            refine (H0.out _).mono ?_
            rintro e w1 ⟨rfl, rfl⟩
            go_wp2_with fail
            refine (H1.out _).mono ?_
            rintro e w2 ⟨rfl, rfl⟩
            go_wp2_with fail
            refine (H2.out _).mono ?_
            rintro e w3 ⟨rfl, rfl⟩
            go_wp2_with fail
            refine (H3.out _).mono ?_
            rintro e w4 ⟨rfl, rfl⟩
            go_wp2_with fail
            refine (H4.out _).mono ?_
            rintro e w5 ⟨rfl, rfl⟩
            go_wp2_with fail
            go_returns
            exact ⟨by rw [HR.out]; first | rfl | simp [*], (Below.refl _ _).alloc (Nat.le_refl _) _⟩
          | true =>
            cases b5 with
            | false =>
              go_enter Try.func51, Try.ntmps51
              go_wp2_with fail
              refine (H0.out _).mono ?_
              rintro e w1 ⟨rfl, rfl⟩
              go_wp2_with fail
              refine (H1.out _).mono ?_
              rintro e w2 ⟨rfl, rfl⟩
              go_wp2_with fail
              refine (H2.out _).mono ?_
              rintro e w3 ⟨rfl, rfl⟩
              go_wp2_with fail
              refine (H3.out _).mono ?_
              rintro e w4 ⟨rfl, rfl⟩
              go_wp2_with fail
              refine (H4.out _).mono ?_
              rintro e w5 ⟨rfl, rfl⟩
              go_wp2_with fail
              refine (H5.out _).mono ?_
              rintro e w6 ⟨rfl, rfl⟩
              go_wp2_with fail
              go_returns
              exact ⟨by rw [HR.out]; first | rfl | simp [*], (Below.refl _ _).alloc (Nat.le_refl _) _⟩
            | true =>
              by_cases hd6 : ghi ≤ 9999
              · have dd6 : decide (ghi ≤ 9999) = true := decide_eq_true hd6
                cases b7 with
                | false =>
                  go_enter Try.func51, Try.ntmps51
                  go_wp2_with fail
                  refine (H0.out _).mono ?_
                  rintro e w1 ⟨rfl, rfl⟩
                  go_wp2_with fail
                  refine (H1.out _).mono ?_
                  rintro e w2 ⟨rfl, rfl⟩
                  go_wp2_with fail
                  refine (H2.out _).mono ?_
                  rintro e w3 ⟨rfl, rfl⟩
                  go_wp2_with fail
                  refine (H3.out _).mono ?_
                  rintro e w4 ⟨rfl, rfl⟩
                  go_wp2_with fail
                  refine (H4.out _).mono ?_
                  rintro e w5 ⟨rfl, rfl⟩
                  go_wp2_with fail
                  refine (H5.out _).mono ?_
                  rintro e w6 ⟨rfl, rfl⟩
                  go_wp2_with fail
                  refine (H7.out _).mono ?_
                  rintro e w8 ⟨rfl, rfl⟩
                  go_wp2_with fail
                  go_returns
                  exact ⟨by rw [HR.out]; first | rfl | simp [*], (Below.refl _ _).alloc (Nat.le_refl _) _⟩
                | true =>
                  go_enter Try.func51, Try.ntmps51
                  go_wp2_with fail
                  refine (H0.out _).mono ?_
                  rintro e w1 ⟨rfl, rfl⟩
                  go_wp2_with fail
                  refine (H1.out _).mono ?_
                  rintro e w2 ⟨rfl, rfl⟩
                  go_wp2_with fail
                  refine (H2.out _).mono ?_
                  rintro e w3 ⟨rfl, rfl⟩
                  go_wp2_with fail
                  refine (H3.out _).mono ?_
                  rintro e w4 ⟨rfl, rfl⟩
                  go_wp2_with fail
                  refine (H4.out _).mono ?_
                  rintro e w5 ⟨rfl, rfl⟩
                  go_wp2_with fail
                  refine (H5.out _).mono ?_
                  rintro e w6 ⟨rfl, rfl⟩
                  go_wp2_with fail
                  refine (H7.out _).mono ?_
                  rintro e w8 ⟨rfl, rfl⟩
                  go_wp2_with fail
                  go_returns
                  exact ⟨by rw [HR.out]; first | rfl | simp [*], (Below.refl _ _).alloc (Nat.le_refl _) _⟩
              · have dd6 : decide (ghi ≤ 9999) = false := decide_eq_false hd6
                go_enter Try.func51, Try.ntmps51
                go_wp2_with fail
                refine (H0.out _).mono ?_
                rintro e w1 ⟨rfl, rfl⟩
                go_wp2_with fail
                refine (H1.out _).mono ?_
                rintro e w2 ⟨rfl, rfl⟩
                go_wp2_with fail
                refine (H2.out _).mono ?_
                rintro e w3 ⟨rfl, rfl⟩
                go_wp2_with fail
                refine (H3.out _).mono ?_
                rintro e w4 ⟨rfl, rfl⟩
                go_wp2_with fail
                refine (H4.out _).mono ?_
                rintro e w5 ⟨rfl, rfl⟩
                go_wp2_with fail
                refine (H5.out _).mono ?_
                rintro e w6 ⟨rfl, rfl⟩
                go_wp2_with fail
                go_returns
                exact ⟨by rw [HR.out]; first | rfl | simp [*], (Below.refl _ _).alloc (Nat.le_refl _) _⟩

set_option maxRecDepth 100000 in
set_option maxHeartbeats 4000000 in
theorem IsWalk3_any (d : Wh.Desk) (hf : 0 ≤ d.full ∧ d.full ≤ 10000) (k : Wh.Wk) (w : World) :
    Calls Try.prog 42 #[.agg (whV d), .agg #[.int .i64 k.1, .int .i64 k.2.1, .int .i64 k.2.2.1, .int .i64 k.2.2.2.1, .int .i64 k.2.2.2.2]] w fun e w' => e = .returned (.bool (Wh.wkB d.full k)) ∧ Below w.heap.size w w' := by
  obtain ⟨full, read, slip, skew, circ, glo, ghi, wrn, ws⟩ := d
  obtain ⟨se, si, ins, st, en⟩ := k
  unfold whV
  dsimp only at *
  have hw1 : IntKind.i64.wrap (full - 1) = full - 1 := IntWalk.i64_in _ (by omega)
  have H0 : Hid (∀ W, Calls Try.prog 65 #[.int .i64 se] W fun e w' => e = .returned (.bool (Wh.signB se)) ∧ w' = W) := fun W => isOne3_any se W
  have H1 : Hid (∀ W, Calls Try.prog 65 #[.int .i64 si] W fun e w' => e = .returned (.bool (Wh.signB si)) ∧ w' = W) := fun W => isOne3_any si W
  have H2 : Hid (∀ W, Calls Try.prog 68 #[.int .i64 ins, .int .i64 0, .int .i64 1] W fun e w' => e = .returned (.bool (inB ins 0 1)) ∧ w' = W) := fun W => within3_any ins 0 1 W
  have H3 : Hid (∀ W, Calls Try.prog 68 #[.int .i64 st, .int .i64 0, .int .i64 (full - 1)] W fun e w' => e = .returned (.bool (inB st 0 (full - 1))) ∧ w' = W) := fun W => within3_any st 0 (full - 1) W
  have H4 : Hid (∀ W, Calls Try.prog 68 #[.int .i64 en, .int .i64 0, .int .i64 (full - 1)] W fun e w' => e = .returned (.bool (inB en 0 (full - 1))) ∧ w' = W) := fun W => within3_any en 0 (full - 1) W
  have HR : Hid (Wh.wkB full (se, si, ins, st, en) = ((((Wh.signB se && Wh.signB si) && inB ins 0 1) && inB st 0 (full - 1)) && inB en 0 (full - 1))) := rfl
  generalize Wh.wkB full (se, si, ins, st, en) = R at *
  generalize Wh.signB se = b0 at *
  generalize Wh.signB si = b1 at *
  generalize inB ins 0 1 = b2 at *
  generalize inB st 0 (full - 1) = b3 at *
  generalize inB en 0 (full - 1) = b4 at *
  cases b0 with
  | false =>
    go_enter Try.func42, Try.ntmps42
    go_wp2_with fail
    refine (H0.out _).mono ?_
    rintro e w1 ⟨rfl, rfl⟩
    go_wp2_with fail
    go_returns
    exact ⟨by rw [HR.out]; first | rfl | simp [*], by (repeat' (first | (with_reducible exact Below.refl _ _) | (with_reducible assumption) | (with_reducible refine Below.alloc ?_ ?_ _) | (with_reducible refine Below.drew ?_) | (with_reducible refine Below.setCell ?_ ?_ _) | go_size | (exact (by simp)) | omega))⟩
  | true =>
    cases b1 with
    | false =>
      go_enter Try.func42, Try.ntmps42
      go_wp2_with fail
      refine (H0.out _).mono ?_
      rintro e w1 ⟨rfl, rfl⟩
      go_wp2_with fail
      refine (H1.out _).mono ?_
      rintro e w2 ⟨rfl, rfl⟩
      go_wp2_with fail
      go_returns
      exact ⟨by rw [HR.out]; first | rfl | simp [*], by (repeat' (first | (with_reducible exact Below.refl _ _) | (with_reducible assumption) | (with_reducible refine Below.alloc ?_ ?_ _) | (with_reducible refine Below.drew ?_) | (with_reducible refine Below.setCell ?_ ?_ _) | go_size | (exact (by simp)) | omega))⟩
    | true =>
      cases b2 with
      | false =>
        go_enter Try.func42, Try.ntmps42
        go_wp2_with fail
        refine (H0.out _).mono ?_
        rintro e w1 ⟨rfl, rfl⟩
        go_wp2_with fail
        refine (H1.out _).mono ?_
        rintro e w2 ⟨rfl, rfl⟩
        go_wp2_with fail
        refine (H2.out _).mono ?_
        rintro e w3 ⟨rfl, rfl⟩
        go_wp2_with fail
        go_returns
        exact ⟨by rw [HR.out]; first | rfl | simp [*], by (repeat' (first | (with_reducible exact Below.refl _ _) | (with_reducible assumption) | (with_reducible refine Below.alloc ?_ ?_ _) | (with_reducible refine Below.drew ?_) | (with_reducible refine Below.setCell ?_ ?_ _) | go_size | (exact (by simp)) | omega))⟩
      | true =>
        cases b3 with
        | false =>
          go_enter Try.func42, Try.ntmps42
          go_wp2_with fail
          refine (H0.out _).mono ?_
          rintro e w1 ⟨rfl, rfl⟩
          go_wp2_with fail
          refine (H1.out _).mono ?_
          rintro e w2 ⟨rfl, rfl⟩
          go_wp2_with fail
          refine (H2.out _).mono ?_
          rintro e w3 ⟨rfl, rfl⟩
          go_wp2_with fail
          refine (H3.out _).mono ?_
          rintro e w4 ⟨rfl, rfl⟩
          go_wp2_with fail
          go_returns
          exact ⟨by rw [HR.out]; first | rfl | simp [*], by (repeat' (first | (with_reducible exact Below.refl _ _) | (with_reducible assumption) | (with_reducible refine Below.alloc ?_ ?_ _) | (with_reducible refine Below.drew ?_) | (with_reducible refine Below.setCell ?_ ?_ _) | go_size | (exact (by simp)) | omega))⟩
        | true =>
          cases b4 with
          | false =>
            go_enter Try.func42, Try.ntmps42
            go_wp2_with fail
            refine (H0.out _).mono ?_
            rintro e w1 ⟨rfl, rfl⟩
            go_wp2_with fail
            refine (H1.out _).mono ?_
            rintro e w2 ⟨rfl, rfl⟩
            go_wp2_with fail
            refine (H2.out _).mono ?_
            rintro e w3 ⟨rfl, rfl⟩
            go_wp2_with fail
            refine (H3.out _).mono ?_
            rintro e w4 ⟨rfl, rfl⟩
            go_wp2_with fail
            refine (H4.out _).mono ?_
            rintro e w5 ⟨rfl, rfl⟩
            go_wp2_with fail
            go_returns
            exact ⟨by rw [HR.out]; first | rfl | simp [*], by (repeat' (first | (with_reducible exact Below.refl _ _) | (with_reducible assumption) | (with_reducible refine Below.alloc ?_ ?_ _) | (with_reducible refine Below.drew ?_) | (with_reducible refine Below.setCell ?_ ?_ _) | go_size | (exact (by simp)) | omega))⟩
          | true =>
            go_enter Try.func42, Try.ntmps42
            go_wp2_with fail
            refine (H0.out _).mono ?_
            rintro e w1 ⟨rfl, rfl⟩
            go_wp2_with fail
            refine (H1.out _).mono ?_
            rintro e w2 ⟨rfl, rfl⟩
            go_wp2_with fail
            refine (H2.out _).mono ?_
            rintro e w3 ⟨rfl, rfl⟩
            go_wp2_with fail
            refine (H3.out _).mono ?_
            rintro e w4 ⟨rfl, rfl⟩
            go_wp2_with fail
            refine (H4.out _).mono ?_
            rintro e w5 ⟨rfl, rfl⟩
            go_wp2_with fail
            go_returns
            exact ⟨by rw [HR.out]; first | rfl | simp [*], by (repeat' (first | (with_reducible exact Below.refl _ _) | (with_reducible assumption) | (with_reducible refine Below.alloc ?_ ?_ _) | (with_reducible refine Below.drew ?_) | (with_reducible refine Below.setCell ?_ ?_ _) | go_size | (exact (by simp)) | omega))⟩

end Go.Proofs.Ytecmlakcpgkfbaa

namespace Go.Proofs.Ytecmlakcpgkfbaa
open Go.RowKit
set_option maxRecDepth 100000 in
set_option maxHeartbeats 4000000 in
theorem Check3_any (d : Wh.Desk) (A : Option Addr) (c : Nat) (w : World) (hl : d.ws.length ≤ 1000000000) (hg : Wks w w.heap.size A d.ws) :
    Calls Try.prog 15 #[.agg (whV d), .slice A d.ws.length c] w (ErrPost (Wh.chkE d) w) := by
  have H1 : Hid (∀ W, Calls Try.prog 51 #[.agg (whV d)] W fun e w' => e = .returned (.bool (Wh.whB d)) ∧ Below W.heap.size W w') := fun W => isWheel3_any d W
  have HVC : Hid (Wh.whB d = true → ∀ k W, Calls Try.prog 42 #[.agg (whV d), .agg #[.int .i64 (Wh.wkAt d.ws k).1, .int .i64 (Wh.wkAt d.ws k).2.1, .int .i64 (Wh.wkAt d.ws k).2.2.1, .int .i64 (Wh.wkAt d.ws k).2.2.2.1, .int .i64 (Wh.wkAt d.ws k).2.2.2.2]] W fun e w' => e = .returned (.bool (Wh.wkB d.full (Wh.wkAt d.ws k))) ∧ Below W.heap.size W w') := fun h k W => IsWalk3_any d (by have := Wh.ok_wh h; have := this.f1; have := (Wh.ok_wh h).f2; omega) _ W
  have HE : Hid (Wh.chkE d = if Wh.whB d then (if decide (d.ws.length ≤ 8) && Wh.allTo d.full d.ws d.ws.length then 0 else 31) else 30) := rfl
  have HS0 : Hid (∀ k, Wh.allTo d.full d.ws (k + 1) = (Wh.allTo d.full d.ws k && Wh.wkB d.full (Wh.wkAt d.ws k))) := fun k => rfl
  have HA0 : Hid (Wh.allTo d.full d.ws 0 = true) := rfl
  have HNO : Hid (∀ k, k < d.ws.length → Wh.wkB d.full (Wh.wkAt d.ws k) = false → Wh.allTo d.full d.ws d.ws.length = false) := fun k hk => Wh.allTo_no hk
  have HG := Lib.hid hg
  have hll : (d.ws.length : Int) ≤ 1000000000 := by omega
  clear hg
  generalize Wh.chkE d = E at *
  generalize Wh.allTo d.full d.ws = AT at *
  generalize Wh.wkB d.full = WB at *
  generalize Wh.whB d = HB at *
  obtain ⟨full, read, slip, skew, circ, glo, ghi, wrn, ws⟩ := d
  unfold whV at *
  dsimp only at *
  cases HB with
  | false =>
    have HE2 : Hid (E = 30) := HE.out
    go_enter Try.func15, Try.ntmps15
    go_wp2_with fail
    have hB1 : Below w.heap.size w (w.alloc (.cells #[.int .i64 full, .int .i64 read, .int .i64 slip, .int .i64 skew, .int .i64 circ, .int .i64 glo, .int .i64 ghi, .int .i64 wrn] 25)) := by (repeat' (first | (with_reducible exact Below.refl _ _) | (with_reducible assumption) | (with_reducible refine Below.alloc ?_ ?_ _) | (with_reducible refine Below.drew ?_) | (with_reducible refine Below.setCell ?_ ?_ _) | go_size | (exact (by simp)) | omega))
    generalize World.alloc w _ = w1 at *
    refine (H1.out _).mono ?_
    rintro e w2 ⟨rfl, hb2⟩
    have hB2 := hB1.trans (hb2.mono hB1.size)
    clear hB1 hb2
    go_wp2_with fail
    go_returns
    exact ⟨by rw [HE2.out]; rfl, hB2⟩
  | true =>
    have HVC2 := Lib.hid (HVC.out rfl)
    clear HVC
    go_enter Try.func15, Try.ntmps15
    go_wp2_with fail
    have bS1 := BoxS.new w 25 #[.int .i64 full, .int .i64 read, .int .i64 slip, .int .i64 skew, .int .i64 circ, .int .i64 glo, .int .i64 ghi, .int .i64 wrn]
    have hB1 : Below w.heap.size w (w.alloc (.cells #[.int .i64 full, .int .i64 read, .int .i64 slip, .int .i64 skew, .int .i64 circ, .int .i64 glo, .int .i64 ghi, .int .i64 wrn] 25)) := by (repeat' (first | (with_reducible exact Below.refl _ _) | (with_reducible assumption) | (with_reducible refine Below.alloc ?_ ?_ _) | (with_reducible refine Below.drew ?_) | (with_reducible refine Below.setCell ?_ ?_ _) | go_size | (exact (by simp)) | omega))
    generalize World.alloc w _ = w1 at *
    refine (H1.out _).mono ?_
    rintro e w2 ⟨rfl, hb2⟩
    have bS2 := bS1.below hb2
    have hB2 := hB1.trans (hb2.mono hB1.size)
    clear bS1 hB1 hb2
    go_wp2_with fail
    go_loopw [5] (fun x wr => ∃ k : Nat, (k : Int) ≤ ws.length ∧ x = .int .i64 k ∧ Hid (AT k = true) ∧ BoxS wr w.heap.size 25 #[.int .i64 full, .int .i64 read, .int .i64 slip, .int .i64 skew, .int .i64 circ, .int .i64 glo, .int .i64 ghi, .int .i64 wrn] ∧ Below w.heap.size w wr) (fun x _ => (ws.length - intOf x).toNat)
    case atStart => exact ⟨0, by omega, rfl, HA0.out, bS2, hB2⟩
    case round =>
      clear bS2 hB2
      obtain ⟨k, hk, rfl, hall, bS, hB⟩ := hrel
      have hk0 := Int.natCast_nonneg k
      by_cases hlt : (k : Int) < ws.length
      · have hkn : k < ws.length := by omega
        obtain ⟨bb, off, rfl, hbb, hc⟩ := HG.out (by omega)
        have hck := hc k hkn
        have hbr : bb < wr.heap.size := by have := hB.size; omega
        have HV1 := Lib.hid (HVC2.out k)
        have HS := Lib.hid (HS0.out k)
        have HN1 := Lib.hid (HNO.out k hkn)
        have hw1 : IntKind.i64.wrap ((k : Int) + 1) = (k : Int) + 1 := IntWalk.i64_in _ (by omega)
        clear hc HVC2
        generalize WB (Wh.wkAt ws k) = b at *
        generalize Wh.wkAt ws k = ct at *
        obtain ⟨c0, c1, c2, c3, c4⟩ := ct
        dsimp only at hck HV1
        have q0 : Below wr.heap.size wr wr.drew := (Below.refl _ _).drew
        have KC : Hid (∀ W', Below wr.heap.size wr W' → ((W'.cell? ⟨w.heap.size, 0, none⟩ = some (.int .i64 full) ∧ W'.cell? ⟨w.heap.size, 1, none⟩ = some (.int .i64 read) ∧ W'.cell? ⟨w.heap.size, 2, none⟩ = some (.int .i64 slip)) ∧ W'.cell? ⟨w.heap.size, 3, none⟩ = some (.int .i64 skew) ∧ W'.cell? ⟨w.heap.size, 4, none⟩ = some (.int .i64 circ) ∧ W'.cell? ⟨w.heap.size, 5, none⟩ = some (.int .i64 glo)) ∧ W'.cell? ⟨w.heap.size, 6, none⟩ = some (.int .i64 ghi) ∧ W'.cell? ⟨w.heap.size, 7, none⟩ = some (.int .i64 wrn)) := fun W' h => boxS8 (bS.below h)
        have KD : Hid (∀ W', Below wr.heap.size wr W' → W'.cell? ⟨bb, off + k * 5, none⟩ = some (.int .i64 c0) ∧ W'.cell? ⟨bb, off + k * 5 + 1, none⟩ = some (.int .i64 c1) ∧ W'.cell? ⟨bb, off + k * 5 + 2, none⟩ = some (.int .i64 c2) ∧ W'.cell? ⟨bb, off + k * 5 + 3, none⟩ = some (.int .i64 c3) ∧ W'.cell? ⟨bb, off + k * 5 + 4, none⟩ = some (.int .i64 c4)) := fun W' h =>
          ⟨(h.cell (p := ⟨bb, _, none⟩) hbr).trans ((hB.cell (p := ⟨bb, _, none⟩) hbb).trans hck.1), (h.cell (p := ⟨bb, _, none⟩) hbr).trans ((hB.cell (p := ⟨bb, _, none⟩) hbb).trans hck.2.1), (h.cell (p := ⟨bb, _, none⟩) hbr).trans ((hB.cell (p := ⟨bb, _, none⟩) hbb).trans hck.2.2.1), (h.cell (p := ⟨bb, _, none⟩) hbr).trans ((hB.cell (p := ⟨bb, _, none⟩) hbb).trans hck.2.2.2.1), (h.cell (p := ⟨bb, _, none⟩) hbr).trans ((hB.cell (p := ⟨bb, _, none⟩) hbb).trans hck.2.2.2.2)⟩
        clear hck HG
        go_wp2_with fail
        refine (wpIn_wide (n := 4)).1 ?_
        have hmo : Try.prog.follows .mixedOrders = true := by kernel_rfl
        refine wpIn_region_held (fun W' => Below wr.heap.size wr W') 40 hmo ?_
        refine wpHeldIn_take (i := 0) (v := ?_) (plain_of (by kernel_rfl)) rfl (by kernel_rfl) (fun _ _ _ h => h) (yieldsSoIn_of (by kernel_rfl) ?_ (fun _ => rfl)) q0 ?_; rotate_left; focus (intro wq hw; have kq := KC.out wq hw; clear hw; go_simp; try (with_reducible rfl))
        refine wpHeldIn_take (i := 1) (v := ?_) (plain_of (by kernel_rfl)) rfl (by kernel_rfl) (fun _ _ _ h => h) (yieldsSoIn_of (by kernel_rfl) ?_ (fun _ => rfl)) q0 ?_; rotate_left; focus (intro wq hw; clear hw; go_simp; try (with_reducible rfl))
        refine wpHeldIn_take (i := 2) (v := ?_) (plain_of (by kernel_rfl)) rfl (by kernel_rfl) (fun _ _ _ h => h) (yieldsSoIn_of (by kernel_rfl) ?_ (fun _ => rfl)) q0 ?_; rotate_left; focus (intro wq hw; clear hw; go_simp; try (with_reducible rfl))
        refine wpHeldIn_take (i := 3) (v := ?_) (plain_of (by kernel_rfl)) rfl (by kernel_rfl) (fun _ _ _ h => h) (yieldsSoIn_of (by kernel_rfl) ?_ (fun _ => rfl)) q0 ?_; rotate_left; focus (intro wq hw; clear hw; go_simp; try (with_reducible rfl))
        refine wpHeldIn_take (i := 4) (v := ?_) (plain_of (by kernel_rfl)) rfl (by kernel_rfl) (fun _ _ _ h => h) (yieldsSoIn_of (by kernel_rfl) ?_ (fun _ => rfl)) q0 ?_; rotate_left; focus (intro wq hw; have kq := KD.out wq hw; clear hw; go_simp; try (with_reducible rfl))
        refine wpHeldIn_one (i := 5) (by kernel_rfl) (by kernel_rfl) rfl (by kernel_rfl) (fun K2 hK2 => ?_)
        go_simp
        refine ⟨trivial, (callsIn_wide.2 (HV1.out _)).mono ?_⟩
        rintro e w6 ⟨rfl, hb6⟩
        have q1 := q0.trans (hb6.mono q0.size)
        refine hK2 _ _ q1 ?_
        refine wpHeldIn_take (i := 6) (v := ?_) (plain_of (by kernel_rfl)) rfl (by kernel_rfl) (fun _ _ _ h => h) (yieldsSoIn_of (by kernel_rfl) ?_ (fun _ => rfl)) q1 ?_; rotate_left; focus (intro wq hw; clear hw; go_simp; try (with_reducible rfl))
        refine wpHeldIn_done (by kernel_rfl) ?_ _
        go_simp
        have bS6 := bS.below q1
        have hB6 := hB.trans (q1.mono hB.size)
        clear KC KD q0 q1 hb6 bS hB hmo
        cases b with
        | false =>
          have HE2 : Hid (E = 31) := by
            have h1 := HE.out
            rw [HN1.out rfl, Bool.and_false] at h1
            exact h1
          go_wp2_with fail
          go_returns
          exact ⟨by rw [HE2.out]; rfl, hB6⟩
        | true =>
          have hall2 : Hid (AT (k + 1) = true) := by rw [Hid, HS.out, hall.out]; rfl
          go_wp2_with fail
          go_roundw
          case rel => exact ⟨k + 1, by omega, by go_num, hall2, bS6, hB6⟩
          case measure => simp [intOf]; omega
      · have e : ws.length = k := by omega
        have HE1 := HE.out
        rw [e, hall.out, Bool.and_true] at HE1
        by_cases h8 : ws.length ≤ 8
        · have h8i : decide ((8 : Int) < (ws.length : Int)) = false := decide_eq_false (by omega)
          have HE2 : Hid (E = 0) := by rw [Hid, HE1, if_pos trivial, if_pos (decide_eq_true (by omega : k ≤ 8))]
          clear HE1
          go_wp2_with fail
          go_returns
          exact ⟨by rw [HE2.out]; rfl, hB⟩
        · have h8i : decide ((8 : Int) < (ws.length : Int)) = true := decide_eq_true (by omega)
          have HE2 : Hid (E = 31) := by rw [Hid, HE1, if_pos trivial, if_neg (fun h => absurd (of_decide_eq_true h) (by omega : ¬ k ≤ 8))]
          clear HE1
          go_wp2_with fail
          go_returns
          exact ⟨by rw [HE2.out]; rfl, hB⟩
end Go.Proofs.Ytecmlakcpgkfbaa
