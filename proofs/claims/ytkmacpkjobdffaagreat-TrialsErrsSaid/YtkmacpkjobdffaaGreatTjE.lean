/- Trials: what is valid, by the reference. -/
import Derived.Test.YtkmacpkjobdffaaGreatTiC
import Derived.Test.YtkmacpkjobdffaaGreatTjD
namespace Go.Proofs.YtkmacpkjobdffaaGreat
open Go.RowKit
theorem Within1_any (n l h : Int) (w : World) :
    Calls Tryz.prog 91 #[.int .i64 n, .int .i64 l, .int .i64 h] w fun e w' => e = .returned (.bool (inB n l h)) ∧ w = w' := by
  go_enter Tryz.func91, Tryz.ntmps91
  go_wp2
  · have hl : l ≤ n := by assumption
    go_ret
    exact ⟨ret_b (by simp [inB, hl]), rfl⟩
  · have hl : n < l := by assumption
    go_ret
    exact ⟨ret_b (by simp [inB]; omega), rfl⟩
theorem within3_any (n l h : Int) (w : World) : Calls Tryz.prog 82 #[.int .i64 n, .int .i64 l, .int .i64 h] w fun e w' => e = .returned (.bool (inB n l h)) ∧ w' = w := by
  go_enter Tryz.func82, Tryz.ntmps82
  go_wp2_with fail
  refine (Within1_any n l h _).mono ?_
  rintro e w1 ⟨rfl, rfl⟩
  go_wp2_with fail
  go_returns
  exact ⟨rfl, rfl⟩
set_option maxHeartbeats 400000 in
theorem isOne3_any (n : Int) (w : World) : Calls Tryz.prog 81 #[.int .i64 n] w fun e w' => e = .returned (.bool (Wh.signB n)) ∧ w' = w := by
  go_enter Tryz.func81, Tryz.ntmps81
  go_wp2
  all_goals
    go_ret
    refine ⟨ret_b ?_, rfl⟩
    rw [Bool.eq_iff_iff]
    simp [Wh.signB]
    try omega
set_option maxRecDepth 100000 in
set_option maxHeartbeats 4000000 in
theorem isWheel3_any (d : Wh.Desk) (w : World) :
    Calls Tryz.prog 92 #[.agg (whV d)] w fun e w' => e = .returned (.bool (Wh.whB d)) ∧ Below w.heap.size w w' := by
  obtain ⟨full, read, slip, skew, circ, glo, ghi, wrn, ws⟩ := d
  unfold whV
  dsimp only
  have H0 : Hid (∀ W, Calls Tryz.prog 82 #[.int .i64 full, .int .i64 10, .int .i64 10000] W fun e w' => e = .returned (.bool (inB full 10 10000)) ∧ w' = W) := fun W => within3_any full 10 10000 W
  have H1 : Hid (∀ W, Calls Tryz.prog 82 #[.int .i64 read, .int .i64 0, .int .i64 20] W fun e w' => e = .returned (.bool (inB read 0 20)) ∧ w' = W) := fun W => within3_any read 0 20 W
  have H2 : Hid (∀ W, Calls Tryz.prog 82 #[.int .i64 slip, .int .i64 0, .int .i64 20] W fun e w' => e = .returned (.bool (inB slip 0 20)) ∧ w' = W) := fun W => within3_any slip 0 20 W
  have H3 : Hid (∀ W, Calls Tryz.prog 82 #[.int .i64 skew, .int .i64 0, .int .i64 20] W fun e w' => e = .returned (.bool (inB skew 0 20)) ∧ w' = W) := fun W => within3_any skew 0 20 W
  have H4 : Hid (∀ W, Calls Tryz.prog 82 #[.int .i64 circ, .int .i64 0, .int .i64 9999] W fun e w' => e = .returned (.bool (inB circ 0 9999)) ∧ w' = W) := fun W => within3_any circ 0 9999 W
  have H5 : Hid (∀ W, Calls Tryz.prog 82 #[.int .i64 glo, .int .i64 0, .int .i64 ghi] W fun e w' => e = .returned (.bool (inB glo 0 ghi)) ∧ w' = W) := fun W => within3_any glo 0 ghi W
  have H7 : Hid (∀ W, Calls Tryz.prog 82 #[.int .i64 wrn, .int .i64 0, .int .i64 8] W fun e w' => e = .returned (.bool (inB wrn 0 8)) ∧ w' = W) := fun W => within3_any wrn 0 8 W
  have HR : Hid (Wh.whB ⟨full, read, slip, skew, circ, glo, ghi, wrn, ws⟩ = (((((((inB full 10 10000 && inB read 0 20) && inB slip 0 20) && inB skew 0 20) && inB circ 0 9999) && inB glo 0 ghi) && decide (ghi ≤ 9999)) && inB wrn 0 8)) := rfl
  generalize Wh.whB ⟨full, read, slip, skew, circ, glo, ghi, wrn, ws⟩ = R at *
  generalize inB full 10 10000 = b0 at *
  generalize inB read 0 20 = b1 at *
  generalize inB slip 0 20 = b2 at *
  generalize inB skew 0 20 = b3 at *
  generalize inB circ 0 9999 = b4 at *
  generalize inB glo 0 ghi = b5 at *
  generalize inB wrn 0 8 = b7 at *
  cases b0 with
  | false =>
    go_enter Tryz.func92, Tryz.ntmps92
    go_wp2_with fail
    refine (H0.out _).mono ?_
    rintro e w1 ⟨rfl, rfl⟩
    go_wp2_with fail
    go_returns
    exact ⟨by rw [HR.out]; first | rfl | simp [*], (Below.refl _ _).alloc (Nat.le_refl _) _⟩
  | true =>
    cases b1 with
    | false =>
      go_enter Tryz.func92, Tryz.ntmps92
      go_wp2_with fail
      refine (H0.out _).mono ?_
      rintro e w1 ⟨rfl, rfl⟩
      go_wp2_with fail
      refine (H1.out _).mono ?_
      rintro e w2 ⟨rfl, rfl⟩
      go_wp2_with fail
      go_returns
      exact ⟨by rw [HR.out]; first | rfl | simp [*], (Below.refl _ _).alloc (Nat.le_refl _) _⟩
    | true =>
      cases b2 with
      | false =>
        go_enter Tryz.func92, Tryz.ntmps92
        go_wp2_with fail
        refine (H0.out _).mono ?_
        rintro e w1 ⟨rfl, rfl⟩
        go_wp2_with fail
        refine (H1.out _).mono ?_
        rintro e w2 ⟨rfl, rfl⟩
        go_wp2_with fail
        refine (H2.out _).mono ?_
        rintro e w3 ⟨rfl, rfl⟩
        go_wp2_with fail
        go_returns
        exact ⟨by rw [HR.out]; first | rfl | simp [*], (Below.refl _ _).alloc (Nat.le_refl _) _⟩
      | true =>
        cases b3 with
        | false =>
          go_enter Tryz.func92, Tryz.ntmps92
          go_wp2_with fail
          refine (H0.out _).mono ?_
          rintro e w1 ⟨rfl, rfl⟩
          go_wp2_with fail
          refine (H1.out _).mono ?_
          rintro e w2 ⟨rfl, rfl⟩
          go_wp2_with fail
          refine (H2.out _).mono ?_
          rintro e w3 ⟨rfl, rfl⟩
          go_wp2_with fail
          refine (H3.out _).mono ?_
          rintro e w4 ⟨rfl, rfl⟩
          go_wp2_with fail
          go_returns
          exact ⟨by rw [HR.out]; first | rfl | simp [*], (Below.refl _ _).alloc (Nat.le_refl _) _⟩
        | true =>
          cases b4 with
          | false =>
            go_enter Tryz.func92, Tryz.ntmps92
            go_wp2_with fail
            refine (H0.out _).mono ?_
            rintro e w1 ⟨rfl, rfl⟩
            go_wp2_with fail
            refine (H1.out _).mono ?_
            rintro e w2 ⟨rfl, rfl⟩
            go_wp2_with fail
            refine (H2.out _).mono ?_
            rintro e w3 ⟨rfl, rfl⟩
            go_wp2_with fail
            refine (H3.out _).mono ?_
            rintro e w4 ⟨rfl, rfl⟩
            go_wp2_with fail
            refine (H4.out _).mono ?_
            rintro e w5 ⟨rfl, rfl⟩
            go_wp2_with fail
            go_returns
            exact ⟨by rw [HR.out]; first | rfl | simp [*], (Below.refl _ _).alloc (Nat.le_refl _) _⟩
          | true =>
            cases b5 with
            | false =>
              go_enter Tryz.func92, Tryz.ntmps92
              go_wp2_with fail
              refine (H0.out _).mono ?_
              rintro e w1 ⟨rfl, rfl⟩
              go_wp2_with fail
              refine (H1.out _).mono ?_
              rintro e w2 ⟨rfl, rfl⟩
              go_wp2_with fail
              refine (H2.out _).mono ?_
              rintro e w3 ⟨rfl, rfl⟩
              go_wp2_with fail
              refine (H3.out _).mono ?_
              rintro e w4 ⟨rfl, rfl⟩
              go_wp2_with fail
              refine (H4.out _).mono ?_
              rintro e w5 ⟨rfl, rfl⟩
              go_wp2_with fail
              refine (H5.out _).mono ?_
              rintro e w6 ⟨rfl, rfl⟩
              go_wp2_with fail
              go_returns
              exact ⟨by rw [HR.out]; first | rfl | simp [*], (Below.refl _ _).alloc (Nat.le_refl _) _⟩
            | true =>
              by_cases hd6 : ghi ≤ 9999
              · have dd6 : decide (ghi ≤ 9999) = true := decide_eq_true hd6
                cases b7 with
                | false =>
                  go_enter Tryz.func92, Tryz.ntmps92
                  go_wp2_with fail
                  refine (H0.out _).mono ?_
                  rintro e w1 ⟨rfl, rfl⟩
                  go_wp2_with fail
                  refine (H1.out _).mono ?_
                  rintro e w2 ⟨rfl, rfl⟩
                  go_wp2_with fail
                  refine (H2.out _).mono ?_
                  rintro e w3 ⟨rfl, rfl⟩
                  go_wp2_with fail
                  refine (H3.out _).mono ?_
                  rintro e w4 ⟨rfl, rfl⟩
                  go_wp2_with fail
                  refine (H4.out _).mono ?_
                  rintro e w5 ⟨rfl, rfl⟩
                  go_wp2_with fail
                  refine (H5.out _).mono ?_
                  rintro e w6 ⟨rfl, rfl⟩
                  go_wp2_with fail
                  refine (H7.out _).mono ?_
                  rintro e w8 ⟨rfl, rfl⟩
                  go_wp2_with fail
                  go_returns
                  exact ⟨by rw [HR.out]; first | rfl | simp [*], (Below.refl _ _).alloc (Nat.le_refl _) _⟩
                | true =>
                  go_enter Tryz.func92, Tryz.ntmps92
                  go_wp2_with fail
                  refine (H0.out _).mono ?_
                  rintro e w1 ⟨rfl, rfl⟩
                  go_wp2_with fail
                  refine (H1.out _).mono ?_
                  rintro e w2 ⟨rfl, rfl⟩
                  go_wp2_with fail
                  refine (H2.out _).mono ?_
                  rintro e w3 ⟨rfl, rfl⟩
                  go_wp2_with fail
                  refine (H3.out _).mono ?_
                  rintro e w4 ⟨rfl, rfl⟩
                  go_wp2_with fail
                  refine (H4.out _).mono ?_
                  rintro e w5 ⟨rfl, rfl⟩
                  go_wp2_with fail
                  refine (H5.out _).mono ?_
                  rintro e w6 ⟨rfl, rfl⟩
                  go_wp2_with fail
                  refine (H7.out _).mono ?_
                  rintro e w8 ⟨rfl, rfl⟩
                  go_wp2_with fail
                  go_returns
                  exact ⟨by rw [HR.out]; first | rfl | simp [*], (Below.refl _ _).alloc (Nat.le_refl _) _⟩
              · have dd6 : decide (ghi ≤ 9999) = false := decide_eq_false hd6
                go_enter Tryz.func92, Tryz.ntmps92
                go_wp2_with fail
                refine (H0.out _).mono ?_
                rintro e w1 ⟨rfl, rfl⟩
                go_wp2_with fail
                refine (H1.out _).mono ?_
                rintro e w2 ⟨rfl, rfl⟩
                go_wp2_with fail
                refine (H2.out _).mono ?_
                rintro e w3 ⟨rfl, rfl⟩
                go_wp2_with fail
                refine (H3.out _).mono ?_
                rintro e w4 ⟨rfl, rfl⟩
                go_wp2_with fail
                refine (H4.out _).mono ?_
                rintro e w5 ⟨rfl, rfl⟩
                go_wp2_with fail
                refine (H5.out _).mono ?_
                rintro e w6 ⟨rfl, rfl⟩
                go_wp2_with fail
                go_returns
                exact ⟨by rw [HR.out]; first | rfl | simp [*], (Below.refl _ _).alloc (Nat.le_refl _) _⟩

set_option maxRecDepth 100000 in
set_option maxHeartbeats 4000000 in
theorem IsWalk3_any (d : Wh.Desk) (hf : 0 ≤ d.full ∧ d.full ≤ 10000) (k : Wh.Wk) (w : World) :
    Calls Tryz.prog 43 #[.agg (whV d), .agg #[.int .i64 k.1, .int .i64 k.2.1, .int .i64 k.2.2.1, .int .i64 k.2.2.2.1, .int .i64 k.2.2.2.2]] w fun e w' => e = .returned (.bool (Wh.wkB d.full k)) ∧ Below w.heap.size w w' := by
  obtain ⟨full, read, slip, skew, circ, glo, ghi, wrn, ws⟩ := d
  obtain ⟨se, si, ins, st, en⟩ := k
  unfold whV
  dsimp only at *
  have hw1 : IntKind.i64.wrap (full - 1) = full - 1 := IntWalk.i64_in _ (by omega)
  have H0 : Hid (∀ W, Calls Tryz.prog 81 #[.int .i64 se] W fun e w' => e = .returned (.bool (Wh.signB se)) ∧ w' = W) := fun W => isOne3_any se W
  have H1 : Hid (∀ W, Calls Tryz.prog 81 #[.int .i64 si] W fun e w' => e = .returned (.bool (Wh.signB si)) ∧ w' = W) := fun W => isOne3_any si W
  have H2 : Hid (∀ W, Calls Tryz.prog 82 #[.int .i64 ins, .int .i64 0, .int .i64 1] W fun e w' => e = .returned (.bool (inB ins 0 1)) ∧ w' = W) := fun W => within3_any ins 0 1 W
  have H3 : Hid (∀ W, Calls Tryz.prog 82 #[.int .i64 st, .int .i64 0, .int .i64 (full - 1)] W fun e w' => e = .returned (.bool (inB st 0 (full - 1))) ∧ w' = W) := fun W => within3_any st 0 (full - 1) W
  have H4 : Hid (∀ W, Calls Tryz.prog 82 #[.int .i64 en, .int .i64 0, .int .i64 (full - 1)] W fun e w' => e = .returned (.bool (inB en 0 (full - 1))) ∧ w' = W) := fun W => within3_any en 0 (full - 1) W
  have HR : Hid (Wh.wkB full (se, si, ins, st, en) = ((((Wh.signB se && Wh.signB si) && inB ins 0 1) && inB st 0 (full - 1)) && inB en 0 (full - 1))) := rfl
  generalize Wh.wkB full (se, si, ins, st, en) = R at *
  generalize Wh.signB se = b0 at *
  generalize Wh.signB si = b1 at *
  generalize inB ins 0 1 = b2 at *
  generalize inB st 0 (full - 1) = b3 at *
  generalize inB en 0 (full - 1) = b4 at *
  cases b0 with
  | false =>
    go_enter Tryz.func43, Tryz.ntmps43
    go_wp2_with fail
    refine (H0.out _).mono ?_
    rintro e w1 ⟨rfl, rfl⟩
    go_wp2_with fail
    go_returns
    exact ⟨by rw [HR.out]; first | rfl | simp [*], by (repeat' (first | (with_reducible exact Below.refl _ _) | (with_reducible assumption) | (with_reducible refine Below.alloc ?_ ?_ _) | (with_reducible refine Below.drew ?_) | (with_reducible refine Below.setCell ?_ ?_ _) | go_size | (exact (by simp)) | omega))⟩
  | true =>
    cases b1 with
    | false =>
      go_enter Tryz.func43, Tryz.ntmps43
      go_wp2_with fail
      refine (H0.out _).mono ?_
      rintro e w1 ⟨rfl, rfl⟩
      go_wp2_with fail
      refine (H1.out _).mono ?_
      rintro e w2 ⟨rfl, rfl⟩
      go_wp2_with fail
      go_returns
      exact ⟨by rw [HR.out]; first | rfl | simp [*], by (repeat' (first | (with_reducible exact Below.refl _ _) | (with_reducible assumption) | (with_reducible refine Below.alloc ?_ ?_ _) | (with_reducible refine Below.drew ?_) | (with_reducible refine Below.setCell ?_ ?_ _) | go_size | (exact (by simp)) | omega))⟩
    | true =>
      cases b2 with
      | false =>
        go_enter Tryz.func43, Tryz.ntmps43
        go_wp2_with fail
        refine (H0.out _).mono ?_
        rintro e w1 ⟨rfl, rfl⟩
        go_wp2_with fail
        refine (H1.out _).mono ?_
        rintro e w2 ⟨rfl, rfl⟩
        go_wp2_with fail
        refine (H2.out _).mono ?_
        rintro e w3 ⟨rfl, rfl⟩
        go_wp2_with fail
        go_returns
        exact ⟨by rw [HR.out]; first | rfl | simp [*], by (repeat' (first | (with_reducible exact Below.refl _ _) | (with_reducible assumption) | (with_reducible refine Below.alloc ?_ ?_ _) | (with_reducible refine Below.drew ?_) | (with_reducible refine Below.setCell ?_ ?_ _) | go_size | (exact (by simp)) | omega))⟩
      | true =>
        cases b3 with
        | false =>
          go_enter Tryz.func43, Tryz.ntmps43
          go_wp2_with fail
          refine (H0.out _).mono ?_
          rintro e w1 ⟨rfl, rfl⟩
          go_wp2_with fail
          refine (H1.out _).mono ?_
          rintro e w2 ⟨rfl, rfl⟩
          go_wp2_with fail
          refine (H2.out _).mono ?_
          rintro e w3 ⟨rfl, rfl⟩
          go_wp2_with fail
          refine (H3.out _).mono ?_
          rintro e w4 ⟨rfl, rfl⟩
          go_wp2_with fail
          go_returns
          exact ⟨by rw [HR.out]; first | rfl | simp [*], by (repeat' (first | (with_reducible exact Below.refl _ _) | (with_reducible assumption) | (with_reducible refine Below.alloc ?_ ?_ _) | (with_reducible refine Below.drew ?_) | (with_reducible refine Below.setCell ?_ ?_ _) | go_size | (exact (by simp)) | omega))⟩
        | true =>
          cases b4 with
          | false =>
            go_enter Tryz.func43, Tryz.ntmps43
            go_wp2_with fail
            refine (H0.out _).mono ?_
            rintro e w1 ⟨rfl, rfl⟩
            go_wp2_with fail
            refine (H1.out _).mono ?_
            rintro e w2 ⟨rfl, rfl⟩
            go_wp2_with fail
            refine (H2.out _).mono ?_
            rintro e w3 ⟨rfl, rfl⟩
            go_wp2_with fail
            refine (H3.out _).mono ?_
            rintro e w4 ⟨rfl, rfl⟩
            go_wp2_with fail
            refine (H4.out _).mono ?_
            rintro e w5 ⟨rfl, rfl⟩
            go_wp2_with fail
            go_returns
            exact ⟨by rw [HR.out]; first | rfl | simp [*], by (repeat' (first | (with_reducible exact Below.refl _ _) | (with_reducible assumption) | (with_reducible refine Below.alloc ?_ ?_ _) | (with_reducible refine Below.drew ?_) | (with_reducible refine Below.setCell ?_ ?_ _) | go_size | (exact (by simp)) | omega))⟩
          | true =>
            go_enter Tryz.func43, Tryz.ntmps43
            go_wp2_with fail
            refine (H0.out _).mono ?_
            rintro e w1 ⟨rfl, rfl⟩
            go_wp2_with fail
            refine (H1.out _).mono ?_
            rintro e w2 ⟨rfl, rfl⟩
            go_wp2_with fail
            refine (H2.out _).mono ?_
            rintro e w3 ⟨rfl, rfl⟩
            go_wp2_with fail
            refine (H3.out _).mono ?_
            rintro e w4 ⟨rfl, rfl⟩
            go_wp2_with fail
            refine (H4.out _).mono ?_
            rintro e w5 ⟨rfl, rfl⟩
            go_wp2_with fail
            go_returns
            exact ⟨by rw [HR.out]; first | rfl | simp [*], by (repeat' (first | (with_reducible exact Below.refl _ _) | (with_reducible assumption) | (with_reducible refine Below.alloc ?_ ?_ _) | (with_reducible refine Below.drew ?_) | (with_reducible refine Below.setCell ?_ ?_ _) | go_size | (exact (by simp)) | omega))⟩

end Go.Proofs.YtkmacpkjobdffaaGreat

namespace Go.Proofs.YtkmacpkjobdffaaGreat
open Go.RowKit
set_option maxRecDepth 100000 in
set_option maxHeartbeats 4000000 in
theorem Check3_any (d : Wh.Desk) (A : Option Addr) (c : Nat) (w : World) (hl : d.ws.length ≤ 1000000000) (hg : Wks w w.heap.size A d.ws) :
    Calls Tryz.prog 53 #[.agg (whV d), .slice A d.ws.length c] w (ErrPost (Wh.chkE d) w) := by
  have H1 : Hid (∀ W, Calls Tryz.prog 92 #[.agg (whV d)] W fun e w' => e = .returned (.bool (Wh.whB d)) ∧ Below W.heap.size W w') := fun W => isWheel3_any d W
  have HVC : Hid (Wh.whB d = true → ∀ k W, Calls Tryz.prog 43 #[.agg (whV d), .agg #[.int .i64 (Wh.wkAt d.ws k).1, .int .i64 (Wh.wkAt d.ws k).2.1, .int .i64 (Wh.wkAt d.ws k).2.2.1, .int .i64 (Wh.wkAt d.ws k).2.2.2.1, .int .i64 (Wh.wkAt d.ws k).2.2.2.2]] W fun e w' => e = .returned (.bool (Wh.wkB d.full (Wh.wkAt d.ws k))) ∧ Below W.heap.size W w') := fun h k W => IsWalk3_any d (by have := Wh.ok_wh h; have := this.f1; have := (Wh.ok_wh h).f2; omega) _ W
  have HE : Hid (Wh.chkE d = if Wh.whB d then (if decide (d.ws.length ≤ 8) && Wh.allTo d.full d.ws d.ws.length then 0 else 31) else 30) := rfl
  have HS0 : Hid (∀ k, Wh.allTo d.full d.ws (k + 1) = (Wh.allTo d.full d.ws k && Wh.wkB d.full (Wh.wkAt d.ws k))) := fun k => rfl
  have HA0 : Hid (Wh.allTo d.full d.ws 0 = true) := rfl
  have HNO : Hid (∀ k, k < d.ws.length → Wh.wkB d.full (Wh.wkAt d.ws k) = false → Wh.allTo d.full d.ws d.ws.length = false) := fun k hk => Wh.allTo_no hk
  have HG := Lib.hid hg
  have hll : (d.ws.length : Int) ≤ 1000000000 := by omega
  clear hg
  generalize Wh.chkE d = E at *
  generalize Wh.allTo d.full d.ws = AT at *
  generalize Wh.wkB d.full = WB at *
  generalize Wh.whB d = HB at *
  obtain ⟨full, read, slip, skew, circ, glo, ghi, wrn, ws⟩ := d
  unfold whV at *
  dsimp only at *
  cases HB with
  | false =>
    have HE2 : Hid (E = 30) := HE.out
    go_enter Tryz.func53, Tryz.ntmps53
    go_wp2_with fail
    have hB1 : Below w.heap.size w (w.alloc (.cells #[.int .i64 full, .int .i64 read, .int .i64 slip, .int .i64 skew, .int .i64 circ, .int .i64 glo, .int .i64 ghi, .int .i64 wrn] 25)) := by (repeat' (first | (with_reducible exact Below.refl _ _) | (with_reducible assumption) | (with_reducible refine Below.alloc ?_ ?_ _) | (with_reducible refine Below.drew ?_) | (with_reducible refine Below.setCell ?_ ?_ _) | go_size | (exact (by simp)) | omega))
    generalize World.alloc w _ = w1 at *
    refine (H1.out _).mono ?_
    rintro e w2 ⟨rfl, hb2⟩
    have hB2 := hB1.trans (hb2.mono hB1.size)
    clear hB1 hb2
    go_wp2_with fail
    go_returns
    exact ⟨by rw [HE2.out]; rfl, hB2⟩
  | true =>
    have HVC2 := Lib.hid (HVC.out rfl)
    clear HVC
    go_enter Tryz.func53, Tryz.ntmps53
    go_wp2_with fail
    have bS1 := BoxS.new w 25 #[.int .i64 full, .int .i64 read, .int .i64 slip, .int .i64 skew, .int .i64 circ, .int .i64 glo, .int .i64 ghi, .int .i64 wrn]
    have hB1 : Below w.heap.size w (w.alloc (.cells #[.int .i64 full, .int .i64 read, .int .i64 slip, .int .i64 skew, .int .i64 circ, .int .i64 glo, .int .i64 ghi, .int .i64 wrn] 25)) := by (repeat' (first | (with_reducible exact Below.refl _ _) | (with_reducible assumption) | (with_reducible refine Below.alloc ?_ ?_ _) | (with_reducible refine Below.drew ?_) | (with_reducible refine Below.setCell ?_ ?_ _) | go_size | (exact (by simp)) | omega))
    generalize World.alloc w _ = w1 at *
    refine (H1.out _).mono ?_
    rintro e w2 ⟨rfl, hb2⟩
    have bS2 := bS1.below hb2
    have hB2 := hB1.trans (hb2.mono hB1.size)
    clear bS1 hB1 hb2
    go_wp2_with fail
    go_loopw [5] (fun x wr => ∃ k : Nat, (k : Int) ≤ ws.length ∧ x = .int .i64 k ∧ Hid (AT k = true) ∧ BoxS wr w.heap.size 25 #[.int .i64 full, .int .i64 read, .int .i64 slip, .int .i64 skew, .int .i64 circ, .int .i64 glo, .int .i64 ghi, .int .i64 wrn] ∧ Below w.heap.size w wr) (fun x _ => (ws.length - intOf x).toNat)
    case atStart => exact ⟨0, by omega, rfl, HA0.out, bS2, hB2⟩
    case round =>
      clear bS2 hB2
      obtain ⟨k, hk, rfl, hall, bS, hB⟩ := hrel
      have hk0 := Int.natCast_nonneg k
      by_cases hlt : (k : Int) < ws.length
      · have hkn : k < ws.length := by omega
        obtain ⟨bb, off, rfl, hbb, hc⟩ := HG.out (by omega)
        have hck := hc k hkn
        have hbr : bb < wr.heap.size := by have := hB.size; omega
        have HV1 := Lib.hid (HVC2.out k)
        have HS := Lib.hid (HS0.out k)
        have HN1 := Lib.hid (HNO.out k hkn)
        have hw1 : IntKind.i64.wrap ((k : Int) + 1) = (k : Int) + 1 := IntWalk.i64_in _ (by omega)
        clear hc HVC2
        generalize WB (Wh.wkAt ws k) = b at *
        generalize Wh.wkAt ws k = ct at *
        obtain ⟨c0, c1, c2, c3, c4⟩ := ct
        dsimp only at hck HV1
        have q0 : Below wr.heap.size wr wr.drew := (Below.refl _ _).drew
        have KC : Hid (∀ W', Below wr.heap.size wr W' → ((W'.cell? ⟨w.heap.size, 0, none⟩ = some (.int .i64 full) ∧ W'.cell? ⟨w.heap.size, 1, none⟩ = some (.int .i64 read) ∧ W'.cell? ⟨w.heap.size, 2, none⟩ = some (.int .i64 slip)) ∧ W'.cell? ⟨w.heap.size, 3, none⟩ = some (.int .i64 skew) ∧ W'.cell? ⟨w.heap.size, 4, none⟩ = some (.int .i64 circ) ∧ W'.cell? ⟨w.heap.size, 5, none⟩ = some (.int .i64 glo)) ∧ W'.cell? ⟨w.heap.size, 6, none⟩ = some (.int .i64 ghi) ∧ W'.cell? ⟨w.heap.size, 7, none⟩ = some (.int .i64 wrn)) := fun W' h => boxS8 (bS.below h)
        have KD : Hid (∀ W', Below wr.heap.size wr W' → W'.cell? ⟨bb, off + k * 5, none⟩ = some (.int .i64 c0) ∧ W'.cell? ⟨bb, off + k * 5 + 1, none⟩ = some (.int .i64 c1) ∧ W'.cell? ⟨bb, off + k * 5 + 2, none⟩ = some (.int .i64 c2) ∧ W'.cell? ⟨bb, off + k * 5 + 3, none⟩ = some (.int .i64 c3) ∧ W'.cell? ⟨bb, off + k * 5 + 4, none⟩ = some (.int .i64 c4)) := fun W' h =>
          ⟨(h.cell (p := ⟨bb, _, none⟩) hbr).trans ((hB.cell (p := ⟨bb, _, none⟩) hbb).trans hck.1), (h.cell (p := ⟨bb, _, none⟩) hbr).trans ((hB.cell (p := ⟨bb, _, none⟩) hbb).trans hck.2.1), (h.cell (p := ⟨bb, _, none⟩) hbr).trans ((hB.cell (p := ⟨bb, _, none⟩) hbb).trans hck.2.2.1), (h.cell (p := ⟨bb, _, none⟩) hbr).trans ((hB.cell (p := ⟨bb, _, none⟩) hbb).trans hck.2.2.2.1), (h.cell (p := ⟨bb, _, none⟩) hbr).trans ((hB.cell (p := ⟨bb, _, none⟩) hbb).trans hck.2.2.2.2)⟩
        clear hck HG
        go_wp2_with fail
        refine (wpIn_wide (n := 4)).1 ?_
        have hmo : Tryz.prog.follows .mixedOrders = true := by kernel_rfl
        refine wpIn_region_held (fun W' => Below wr.heap.size wr W') 40 hmo ?_
        refine wpHeldIn_take (i := 0) (v := ?_) (plain_of (by kernel_rfl)) rfl (by kernel_rfl) (fun _ _ _ h => h) (yieldsSoIn_of (by kernel_rfl) ?_ (fun _ => rfl)) q0 ?_; rotate_left; focus (intro wq hw; have kq := KC.out wq hw; clear hw; go_simp; try (with_reducible rfl))
        refine wpHeldIn_take (i := 1) (v := ?_) (plain_of (by kernel_rfl)) rfl (by kernel_rfl) (fun _ _ _ h => h) (yieldsSoIn_of (by kernel_rfl) ?_ (fun _ => rfl)) q0 ?_; rotate_left; focus (intro wq hw; clear hw; go_simp; try (with_reducible rfl))
        refine wpHeldIn_take (i := 2) (v := ?_) (plain_of (by kernel_rfl)) rfl (by kernel_rfl) (fun _ _ _ h => h) (yieldsSoIn_of (by kernel_rfl) ?_ (fun _ => rfl)) q0 ?_; rotate_left; focus (intro wq hw; clear hw; go_simp; try (with_reducible rfl))
        refine wpHeldIn_take (i := 3) (v := ?_) (plain_of (by kernel_rfl)) rfl (by kernel_rfl) (fun _ _ _ h => h) (yieldsSoIn_of (by kernel_rfl) ?_ (fun _ => rfl)) q0 ?_; rotate_left; focus (intro wq hw; clear hw; go_simp; try (with_reducible rfl))
        refine wpHeldIn_take (i := 4) (v := ?_) (plain_of (by kernel_rfl)) rfl (by kernel_rfl) (fun _ _ _ h => h) (yieldsSoIn_of (by kernel_rfl) ?_ (fun _ => rfl)) q0 ?_; rotate_left; focus (intro wq hw; have kq := KD.out wq hw; clear hw; go_simp; try (with_reducible rfl))
        refine wpHeldIn_one (i := 5) (by kernel_rfl) (by kernel_rfl) rfl (by kernel_rfl) (fun K2 hK2 => ?_)
        go_simp
        refine ⟨trivial, (callsIn_wide.2 (HV1.out _)).mono ?_⟩
        rintro e w6 ⟨rfl, hb6⟩
        have q1 := q0.trans (hb6.mono q0.size)
        refine hK2 _ _ q1 ?_
        refine wpHeldIn_take (i := 6) (v := ?_) (plain_of (by kernel_rfl)) rfl (by kernel_rfl) (fun _ _ _ h => h) (yieldsSoIn_of (by kernel_rfl) ?_ (fun _ => rfl)) q1 ?_; rotate_left; focus (intro wq hw; clear hw; go_simp; try (with_reducible rfl))
        refine wpHeldIn_done (by kernel_rfl) ?_ _
        go_simp
        have bS6 := bS.below q1
        have hB6 := hB.trans (q1.mono hB.size)
        clear KC KD q0 q1 hb6 bS hB hmo
        cases b with
        | false =>
          have HE2 : Hid (E = 31) := by
            have h1 := HE.out
            rw [HN1.out rfl, Bool.and_false] at h1
            exact h1
          go_wp2_with fail
          go_returns
          exact ⟨by rw [HE2.out]; rfl, hB6⟩
        | true =>
          have hall2 : Hid (AT (k + 1) = true) := by rw [Hid, HS.out, hall.out]; rfl
          go_wp2_with fail
          go_roundw
          case rel => exact ⟨k + 1, by omega, by go_num, hall2, bS6, hB6⟩
          case measure => simp [intOf]; omega
      · have e : ws.length = k := by omega
        have HE1 := HE.out
        rw [e, hall.out, Bool.and_true] at HE1
        by_cases h8 : ws.length ≤ 8
        · have h8i : decide ((8 : Int) < (ws.length : Int)) = false := decide_eq_false (by omega)
          have HE2 : Hid (E = 0) := by rw [Hid, HE1, if_pos trivial, if_pos (decide_eq_true (by omega : k ≤ 8))]
          clear HE1
          go_wp2_with fail
          go_returns
          exact ⟨by rw [HE2.out]; rfl, hB⟩
        · have h8i : decide ((8 : Int) < (ws.length : Int)) = true := decide_eq_true (by omega)
          have HE2 : Hid (E = 31) := by rw [Hid, HE1, if_pos trivial, if_neg (fun h => absurd (of_decide_eq_true h) (by omega : ¬ k ≤ 8))]
          clear HE1
          go_wp2_with fail
          go_returns
          exact ⟨by rw [HE2.out]; rfl, hB⟩
end Go.Proofs.YtkmacpkjobdffaaGreat
namespace Go.Proofs.YtkmacpkjobdffaaGreat
open Go.RowKit
theorem within9_any (n l h : Int) (w : World) : Calls Tryz.prog 52 #[.int .i64 n, .int .i64 l, .int .i64 h] w fun e w' => e = .returned (.bool (inB n l h)) ∧ w' = w := by
  go_enter Tryz.func52, Tryz.ntmps52
  go_wp2_with fail
  refine (Within1_any n l h _).mono ?_
  rintro e w1 ⟨rfl, rfl⟩
  go_wp2_with fail
  go_returns
  exact ⟨rfl, rfl⟩
set_option maxRecDepth 100000 in
set_option maxHeartbeats 16000000 in
theorem Check9_any (t : Ti.Tri) (A : Option Addr) (c : Nat) (hl : t.ts.length ≤ 1000000000) (w : World) (hg : Tsts w w.heap.size A t.ts) :
    Calls Tryz.prog 12 #[.agg (tiV t A c)] w (ErrPost (Ti.chkV t) w) := by
  have HWG : Hid (∀ W, Calls Tryz.prog 52 #[.int .i64 t.gain, .int .i64 0, .int .i64 50] W fun e w' => e = .returned (.bool (inB t.gain 0 50)) ∧ w' = W) := fun W => within9_any _ _ _ W
  have HWA : Hid (∀ (a : Int) W, Calls Tryz.prog 52 #[.int .i64 a, .int .i64 0, .int .i64 9000] W fun e w' => e = .returned (.bool (inB a 0 9000)) ∧ w' = W) := fun a W => within9_any _ _ _ W
  have HWC : Hid (∀ (ws : List Wh.Wk) (A' : Option Addr) (c' : Nat) W, ws.length ≤ 1000000000 → Wks W W.heap.size A' ws → Calls Tryz.prog 53 #[.agg (whV (Ti.whl t ws)), .slice A' ws.length c'] W (ErrPost (Wh.chkE (Ti.whl t ws)) W)) := fun ws A' c' W h1 h2 => Check3_any (Ti.whl t ws) A' c' W h1 h2
  have HR : Hid (Ti.chkV t = if ((inB t.gain 0 50 && decide (t.ts.length ≤ 6)) && Ti.areasTo t.ts t.ts.length) = true then (if Ti.walksTo t t.ts.length = 0 then Wh.chkE (Ti.whl t []) else Ti.walksTo t t.ts.length) else 90) := rfl
  have HA0 : Hid (Ti.areasTo t.ts 0 = true) := rfl
  have HAS : Hid (∀ k, Ti.areasTo t.ts (k + 1) = (Ti.areasTo t.ts k && inB (Ti.tstAt t.ts k).1 0 9000)) := fun k => rfl
  have HAN : Hid (∀ k, k < t.ts.length → inB (Ti.tstAt t.ts k).1 0 9000 = false → Ti.areasTo t.ts t.ts.length = false) := fun k hk h => Ti.areasTo_no h _ hk
  have HW0 : Hid (Ti.walksTo t 0 = 0) := rfl
  have HWS : Hid (∀ k, Ti.walksTo t (k + 1) = if Ti.walksTo t k = 0 then Wh.chkE (Ti.whl t (Ti.tstAt t.ts k).2) else Ti.walksTo t k) := fun k => rfl
  have HWN : Hid (∀ k, k ≤ t.ts.length → Ti.walksTo t k ≠ 0 → Ti.walksTo t t.ts.length = Ti.walksTo t k) := fun k hk h => Ti.walksTo_err h _ hk
  have HG := Lib.hid hg
  clear hg
  generalize Ti.chkV t = R at *
  generalize Ti.walksTo t = WT at *
  generalize Ti.areasTo t.ts = AT at *
  generalize hch : (fun ws : List Wh.Wk => Wh.chkE (Ti.whl t ws)) = CH at *
  have hch' : ∀ ws : List Wh.Wk, Wh.chkE (Ti.whl t ws) = CH ws := fun ws => by rw [← hch]
  simp only [hch'] at HWC HWS HR
  clear hch hch'
  have hwv : ∀ ws, whV (Ti.whl t ws) = #[.int .i64 t.d.full, .int .i64 t.d.read, .int .i64 t.d.slip, .int .i64 t.d.skew, .int .i64 t.d.circ, .int .i64 t.d.glo, .int .i64 t.d.ghi, .int .i64 t.d.wr] := fun ws => rfl
  simp only [hwv] at HWC
  clear hwv
  unfold ErrPost at *
  obtain ⟨d, gain, ts⟩ := t
  obtain ⟨full, read, slip, skew, circ, glo, ghi, wrn, dws⟩ := d
  unfold tiV at *
  dsimp only at *
  cases hgn : inB gain 0 50
  · rw [hgn] at HWG
    have HR1 : Hid (R = 90) := by unfold Hid; rw [HR.out, hgn]; rfl
    clear HR hgn
    go_enter Tryz.func12, Tryz.ntmps12
    go_wp2_with fail
    have bT := BoxS.new w 28 #[.int .i64 full, .int .i64 read, .int .i64 slip, .int .i64 skew, .int .i64 circ, .int .i64 glo, .int .i64 ghi, .int .i64 wrn, .int .i64 gain, .slice A ts.length c]
    have hB1 : Below w.heap.size w (w.alloc (.cells #[.int .i64 full, .int .i64 read, .int .i64 slip, .int .i64 skew, .int .i64 circ, .int .i64 glo, .int .i64 ghi, .int .i64 wrn, .int .i64 gain, .slice A ts.length c] 28)) := by (repeat' (first | (with_reducible exact Below.refl _ _) | (with_reducible assumption) | (with_reducible refine Below.alloc ?_ ?_ _) | (with_reducible refine Below.drew ?_) | (with_reducible refine Below.setCell ?_ ?_ _) | go_size | (exact (by simp)) | omega))
    generalize World.alloc w _ = w1 at *
    have c8 := bT.cell 8 rfl
    have c9 := bT.cell 9 rfl
    have lT := bT.lt
    try go_wp2_with fail
    refine (HWG.out _).mono ?_
    rintro e wq ⟨rfl, hq⟩
    have hq := hq.symm
    subst hq
    go_wp2_with fail
    go_returns
    exact ⟨by rw [HR1.out]; rfl, hB1⟩
  · rw [hgn] at HWG
    by_cases hl6 : 6 < ts.length
    · have HR1 : Hid (R = 90) := by unfold Hid; rw [HR.out, hgn, decide_eq_false (show ¬ ts.length ≤ 6 by omega)]; rfl
      have d1 : decide (6 < (ts.length : Int)) = true := decide_eq_true (by omega)
      have d2 : decide (6 < ts.length) = true := decide_eq_true hl6
      clear HR hgn
      go_enter Tryz.func12, Tryz.ntmps12
      go_wp2_with fail
      have bT := BoxS.new w 28 #[.int .i64 full, .int .i64 read, .int .i64 slip, .int .i64 skew, .int .i64 circ, .int .i64 glo, .int .i64 ghi, .int .i64 wrn, .int .i64 gain, .slice A ts.length c]
      have hB1 : Below w.heap.size w (w.alloc (.cells #[.int .i64 full, .int .i64 read, .int .i64 slip, .int .i64 skew, .int .i64 circ, .int .i64 glo, .int .i64 ghi, .int .i64 wrn, .int .i64 gain, .slice A ts.length c] 28)) := by (repeat' (first | (with_reducible exact Below.refl _ _) | (with_reducible assumption) | (with_reducible refine Below.alloc ?_ ?_ _) | (with_reducible refine Below.drew ?_) | (with_reducible refine Below.setCell ?_ ?_ _) | go_size | (exact (by simp)) | omega))
      generalize World.alloc w _ = w1 at *
      have c8 := bT.cell 8 rfl
      have c9 := bT.cell 9 rfl
      have lT := bT.lt
      try go_wp2_with fail
      refine (HWG.out _).mono ?_
      rintro e wq ⟨rfl, hq⟩
      have hq := hq.symm
      subst hq
      go_wp2_with fail
      go_returns
      exact ⟨by rw [HR1.out]; rfl, hB1⟩
    · have HR1 : Hid (R = if AT ts.length = true then (if WT ts.length = 0 then CH [] else WT ts.length) else 90) := by unfold Hid; rw [HR.out, hgn, decide_eq_true (show ts.length ≤ 6 by omega), Bool.true_and, Bool.true_and]
      have d1 : decide (6 < (ts.length : Int)) = false := decide_eq_false (by omega)
      have d2 : decide (6 < ts.length) = false := decide_eq_false hl6
      clear HR hgn
      go_enter Tryz.func12, Tryz.ntmps12
      go_wp2_with fail
      have bT := BoxS.new w 28 #[.int .i64 full, .int .i64 read, .int .i64 slip, .int .i64 skew, .int .i64 circ, .int .i64 glo, .int .i64 ghi, .int .i64 wrn, .int .i64 gain, .slice A ts.length c]
      have hB1 : Below w.heap.size w (w.alloc (.cells #[.int .i64 full, .int .i64 read, .int .i64 slip, .int .i64 skew, .int .i64 circ, .int .i64 glo, .int .i64 ghi, .int .i64 wrn, .int .i64 gain, .slice A ts.length c] 28)) := by (repeat' (first | (with_reducible exact Below.refl _ _) | (with_reducible assumption) | (with_reducible refine Below.alloc ?_ ?_ _) | (with_reducible refine Below.drew ?_) | (with_reducible refine Below.setCell ?_ ?_ _) | go_size | (exact (by simp)) | omega))
      generalize World.alloc w _ = w1 at *
      have c8 := bT.cell 8 rfl
      have c9 := bT.cell 9 rfl
      have lT := bT.lt
      try go_wp2_with fail
      refine (HWG.out _).mono ?_
      rintro e wq ⟨rfl, hq⟩
      have hq := hq.symm
      subst hq
      go_wp2_with fail
      clear c8 c9 lT d1 d2 HWG
      go_loopg [3] ts.length (fun g x21 wx => ∃ k : Nat, Hid (k + g = ts.length) ∧ (k : Int) ≤ ts.length ∧ x21 = .int .i64 (k : Int) ∧ Hid (AT k = true) ∧ Below w1.heap.size w1 wx)
      case atStart => exact ⟨0, by simp [Hid], by omega, rfl, HA0, Below.refl _ _⟩
      case round =>
        obtain ⟨k, hk, hk1, rfl, hat, hbb⟩ := hrel
        have hk0 := Int.natCast_nonneg k
        have hBr := hB1.trans (hbb.mono hB1.size)
        have bT1 := bT.below hbb
        have c9 := bT1.cell 9 rfl
        have lT := bT1.lt
        by_cases hlt : (k : Int) < ts.length
        · have hkn : k < ts.length := by omega
          have HAN1 := Lib.hid (HAN.out k hkn)
          have HAS1 := Lib.hid (HAS.out k)
          have HWA1 := Lib.hid (HWA.out (Ti.tstAt ts k).1)
          obtain ⟨b, off, rfl, hb, hc⟩ := HG.out (by omega)
          obtain ⟨A', c', x0, x1, _, _⟩ := hc k _ (tst_at hkn)
          have y0 := (hBr.cell (p := ⟨b, _, none⟩) hb).trans x0
          have y1 := (hBr.cell (p := ⟨b, _, none⟩) hb).trans x1
          have hbr : b < wr.heap.size := by have := hBr.size; omega
          have e1 : decide ((k : Int) < 0) = false := decide_eq_false (by omega)
          have e2 : decide ((ts.length : Int) ≤ (k : Int)) = false := decide_eq_false (by omega)
          have e4 : decide (ts.length ≤ k) = false := decide_eq_false (by omega)
          have hw1 : IntKind.i64.wrap ((k : Int) + 1) = (k : Int) + 1 := IntWalk.i64_in _ (by omega)
          clear hc x0 x1
          generalize Ti.tstAt ts k = x at *
          obtain ⟨xa, xw⟩ := x
          dsimp only at *
          have hBn : Below w1.heap.size w1 wr := hbb
          cases hin : inB xa 0 9000
          · rw [hin] at HWA1 HAN1
            have HR2 : Hid (R = 90) := by unfold Hid; rw [HR1.out, HAN1.out rfl]; rfl
            clear hin HAN1 HAS1
            go_wp2_with fail
            refine (HWA1.out _).mono ?_
            rintro e wq ⟨rfl, hq⟩
            have hq := hq.symm
            subst hq
            go_wp2_with fail
            go_returns
            exact ⟨by rw [HR2.out]; rfl, hB1.trans (hBn.mono hB1.size)⟩
          · rw [hin] at HWA1 HAS1
            have HA2 : Hid (AT (k + 1) = true) := by unfold Hid; rw [HAS1.out, hat.out]; rfl
            clear hin HAN1 HAS1
            go_wp2_with fail
            refine (HWA1.out _).mono ?_
            rintro e wq ⟨rfl, hq⟩
            have hq := hq.symm
            subst hq
            clear y0 y1 c9 lT
            go_wp2_with fail
            obtain ⟨g', hg'⟩ : ∃ g', gk = g' + 1 := ⟨gk - 1, by have := hk.out; omega⟩
            go_roundg g'
            case measure => omega
            case rel => exact ⟨k + 1, by have := hk.out; simp only [Hid]; omega, by omega, by go_num, HA2, hBn⟩
        · have ek : k = ts.length := by omega
          have HR2 : Hid (R = if WT ts.length = 0 then CH [] else WT ts.length) := by unfold Hid; rw [HR1.out, if_pos (by rw [← ek]; exact hat.out)]
          clear HAS HAN HA0 HWA hat ek HR1
          go_wp2_with fail
          obtain ⟨gko, rfl⟩ : ∃ gko, gko = gk := ⟨_, rfl⟩
          obtain ⟨wz, rfl⟩ : ∃ wz, wz = wr := ⟨_, rfl⟩
          clear hlt hk c9 lT
          go_loopg [4, 5] ts.length (fun g x33 x5 wx => ∃ k : Nat, Hid (k + g = ts.length) ∧ (k : Int) ≤ ts.length ∧ x33 = .int .i64 (k : Int) ∧ Hid (WT k = 0) ∧ Below wz.heap.size wz wx)
          case atStart => exact ⟨0, by simp [Hid], by omega, rfl, HW0, Below.refl _ _⟩
          case round =>
            obtain ⟨k, hk, hk1, rfl, hat, hbb⟩ := hrel
            have hk0 := Int.natCast_nonneg k
            have hBr2 := hBr.trans (hbb.mono hBr.size)
            have bT2 := bT1.below hbb
            have c0 := bT2.cell 0 rfl
            have c1 := bT2.cell 1 rfl
            have c2 := bT2.cell 2 rfl
            have c3 := bT2.cell 3 rfl
            have c4 := bT2.cell 4 rfl
            have c5 := bT2.cell 5 rfl
            have c6 := bT2.cell 6 rfl
            have c7 := bT2.cell 7 rfl
            have lT := bT2.lt
            by_cases hlt : (k : Int) < ts.length
            · have hkn : k < ts.length := by omega
              have HWN1 := Lib.hid (HWN.out (k + 1) (by omega))
              have HWS1 := Lib.hid (HWS.out k)
              obtain ⟨b, off, rfl, hb, hc⟩ := HG.out (by omega)
              obtain ⟨A', c', x0, x1, hwk, hwl⟩ := hc k _ (tst_at hkn)
              have y0 := (hBr2.cell (p := ⟨b, _, none⟩) hb).trans x0
              have y1 := (hBr2.cell (p := ⟨b, _, none⟩) hb).trans x1
              have hbr : b < wr.heap.size := by have := hBr2.size; omega
              have e1 : decide ((k : Int) < 0) = false := decide_eq_false (by omega)
              have e2 : decide ((ts.length : Int) ≤ (k : Int)) = false := decide_eq_false (by omega)
              have e4 : decide (ts.length ≤ k) = false := decide_eq_false (by omega)
              have hw1 : IntKind.i64.wrap ((k : Int) + 1) = (k : Int) + 1 := IntWalk.i64_in _ (by omega)
              have HWK := Lib.hid (hwk.keep hBr2)
              clear hc x0 x1 hwk
              generalize Ti.tstAt ts k = x at *
              obtain ⟨xa, xw⟩ := x
              dsimp only at *
              have hBn : Below wz.heap.size wz wr := hbb
              have hmo : Tryz.prog.follows .mixedOrders = true := by kernel_rfl
              have c9 := bT2.cell 9 rfl
              have HCH := Lib.hid (fun W (hW : Below wr.heap.size wr W) => HWC.out xw A' c' W hwl ((HWK.out.keep (hW.mono hBr2.size)).wider (by have := hW.size; have := hBr2.size; omega)))
              by_cases hz : CH xw = 0
              · have HA2 : Hid (WT (k + 1) = 0) := by unfold Hid; rw [HWS1.out, if_pos hat.out, hz]
                rw [hz] at HCH
                clear hz HWS1 HWN1
                go_wp2_with fail
                have hbT := bT2.lt
                have KC : Hid (∀ V', Below wr.heap.size wr.drew V' → ((V'.cell? ⟨w.heap.size, 0, none⟩ = some (.int .i64 full) ∧ V'.cell? ⟨w.heap.size, 1, none⟩ = some (.int .i64 read) ∧ V'.cell? ⟨w.heap.size, 2, none⟩ = some (.int .i64 slip) ∧ V'.cell? ⟨w.heap.size, 3, none⟩ = some (.int .i64 skew) ∧ V'.cell? ⟨w.heap.size, 4, none⟩ = some (.int .i64 circ) ∧ V'.cell? ⟨w.heap.size, 5, none⟩ = some (.int .i64 glo) ∧ V'.cell? ⟨w.heap.size, 6, none⟩ = some (.int .i64 ghi) ∧ V'.cell? ⟨w.heap.size, 7, none⟩ = some (.int .i64 wrn) ∧ V'.cell? ⟨w.heap.size, 9, none⟩ = some (.slice (some ⟨b, off, none⟩) ts.length c)) ∧ V'.cell? ⟨b, off + k * 2, none⟩ = some (.int .i64 xa) ∧ V'.cell? ⟨b, off + k * 2 + 1, none⟩ = some (.slice A' xw.length c'))) := fun V' h =>
                  have hk : ∀ (b o : Nat) (u : Value), b < wr.heap.size → wr.cell? ⟨b, o, none⟩ = some u → V'.cell? ⟨b, o, none⟩ = some u := fun b o u h1 h2 => (h.cell (p := ⟨b, o, none⟩) h1).trans h2
                  ⟨⟨hk _ _ _ hbT c0, hk _ _ _ hbT c1, hk _ _ _ hbT c2, hk _ _ _ hbT c3, hk _ _ _ hbT c4, hk _ _ _ hbT c5, hk _ _ _ hbT c6, hk _ _ _ hbT c7, hk _ _ _ hbT c9⟩, hk _ _ _ hbr y0, hk _ _ _ hbr y1⟩
                have q0 : Below wr.heap.size wr.drew wr.drew := Below.refl _ _
                refine (wpIn_wide (n := 4)).1 ?_
                refine wpIn_mono (Q := noPanic _) ?_ noPanic_le
                refine wpIn_region_held (fun V' => Below wr.heap.size wr.drew V') 30 hmo ?_
                refine wpHeldIn_take (i := 0) (v := ?_) (plain_of (by kernel_rfl)) rfl (by kernel_rfl) (fun _ _ _ h => h) (yieldsSoIn_of (by kernel_rfl) ?_ (fun _ => rfl)) q0 ?_; rotate_left; focus (intro wq hw; clear hw; go_simp; try (with_reducible rfl))
                refine wpHeldIn_take (i := 1) (v := ?_) (plain_of (by kernel_rfl)) rfl (by kernel_rfl) (fun _ _ _ h => h) (yieldsSoIn_of (by kernel_rfl) ?_ (fun _ => rfl)) q0 ?_; rotate_left; focus (intro wq hw; have kq := KC.out wq hw; clear hw; go_simp; try (with_reducible rfl))
                refine wpHeldIn_take (i := 2) (v := ?_) (plain_of (by kernel_rfl)) rfl (by kernel_rfl) (fun _ _ _ h => h) (yieldsSoIn_of (by kernel_rfl) ?_ (fun _ => rfl)) q0 ?_; rotate_left; focus (intro wq hw; clear hw; go_simp; try (with_reducible rfl))
                refine wpHeldIn_take (i := 3) (v := ?_) (plain_of (by kernel_rfl)) rfl (by kernel_rfl) (fun _ _ _ h => h) (yieldsSoIn_of (by kernel_rfl) ?_ (fun _ => rfl)) q0 ?_; rotate_left; focus (intro wq hw; have kq := KC.out wq hw; clear hw; go_simp; try (with_reducible rfl))
                refine wpHeldIn_take (i := 4) (v := ?_) (plain_of (by kernel_rfl)) rfl (by kernel_rfl) (fun _ _ _ h => h) (yieldsSoIn_of (by kernel_rfl) ?_ (fun _ => rfl)) q0 ?_; rotate_left; focus (intro wq hw; clear hw; go_simp; try (with_reducible rfl))
                refine wpHeldIn_take (i := 5) (v := ?_) (plain_of (by kernel_rfl)) rfl (by kernel_rfl) (fun _ _ _ h => h) (yieldsSoIn_of (by kernel_rfl) ?_ (fun _ => rfl)) q0 ?_; rotate_left; focus (intro wq hw; clear hw; go_simp; try (with_reducible rfl))
                refine wpHeldIn_take (i := 6) (v := ?_) (plain_of (by kernel_rfl)) rfl (by kernel_rfl) (fun _ _ _ h => h) (yieldsSoIn_of (by kernel_rfl) ?_ (fun _ => rfl)) q0 ?_; rotate_left; focus (intro wq hw; clear hw; go_simp; try (with_reducible rfl))
                refine wpHeldIn_take (i := 7) (v := ?_) (plain_of (by kernel_rfl)) rfl (by kernel_rfl) (fun _ _ _ h => h) (yieldsSoIn_of (by kernel_rfl) ?_ (fun _ => rfl)) q0 ?_; rotate_left; focus (intro wq hw; have kq := KC.out wq hw; clear hw; go_simp; try (with_reducible rfl))
                refine wpHeldIn_one (i := 8) (by kernel_rfl) (by kernel_rfl) rfl (by kernel_rfl) (fun K1 hK1 => ?_)
                go_simp
                refine ⟨trivial, (callsIn_wide.2 (HCH.out _ ((Below.refl _ _).drew))).mono ?_⟩
                rintro e w5 ⟨rfl, hb5⟩
                have hBd : Below wz.heap.size wz wr.drew := hBn.drew
                have q5 : Below wr.heap.size wr.drew w5 := hb5
                refine hK1 _ _ q5 ?_
                refine wpHeldIn_take (i := 9) (v := ?_) (plain_of (by kernel_rfl)) rfl (by kernel_rfl) (fun _ _ _ h => h) (yieldsSoIn_of (by kernel_rfl) ?_ (fun _ => rfl)) q5 ?_; rotate_left; focus (intro wq hw; clear hw; go_simp; try (with_reducible rfl))
                refine wpHeldIn_done (by kernel_rfl) ?_ _
                go_simp
                refine noPanic_of ?_
                have hbz1 := hBd.trans (hb5.mono hBn.size)
                clear KC q0 y0 y1 c0 c1 c2 c3 c4 c5 c6 c7 c9 lT
                go_wp2_with fail
                have hbz := hbz1
                obtain ⟨g', hg'⟩ : ∃ g', gk = g' + 1 := ⟨gk - 1, by have := hk.out; omega⟩
                go_roundg g'
                case measure => omega
                case rel => exact ⟨k + 1, by have := hk.out; simp only [Hid]; omega, by omega, by go_num, HA2, hbz⟩
              · have HA2 : WT (k + 1) = CH xw := by rw [HWS1.out, if_pos hat.out]
                have HR3 : Hid (R = CH xw) := by
                  have h := HWN1.out (by rw [HA2]; exact hz)
                  unfold Hid
                  rw [HR2.out, h, HA2, if_neg hz]
                have hnz : (CH xw != 0) = true := by simpa using hz
                clear hz HWS1 HWN1 HA2
                generalize CH xw = E at *
                go_wp2_with fail
                have hbT := bT2.lt
                have KC : Hid (∀ V', Below wr.heap.size wr.drew V' → ((V'.cell? ⟨w.heap.size, 0, none⟩ = some (.int .i64 full) ∧ V'.cell? ⟨w.heap.size, 1, none⟩ = some (.int .i64 read) ∧ V'.cell? ⟨w.heap.size, 2, none⟩ = some (.int .i64 slip) ∧ V'.cell? ⟨w.heap.size, 3, none⟩ = some (.int .i64 skew) ∧ V'.cell? ⟨w.heap.size, 4, none⟩ = some (.int .i64 circ) ∧ V'.cell? ⟨w.heap.size, 5, none⟩ = some (.int .i64 glo) ∧ V'.cell? ⟨w.heap.size, 6, none⟩ = some (.int .i64 ghi) ∧ V'.cell? ⟨w.heap.size, 7, none⟩ = some (.int .i64 wrn) ∧ V'.cell? ⟨w.heap.size, 9, none⟩ = some (.slice (some ⟨b, off, none⟩) ts.length c)) ∧ V'.cell? ⟨b, off + k * 2, none⟩ = some (.int .i64 xa) ∧ V'.cell? ⟨b, off + k * 2 + 1, none⟩ = some (.slice A' xw.length c'))) := fun V' h =>
                  have hk : ∀ (b o : Nat) (u : Value), b < wr.heap.size → wr.cell? ⟨b, o, none⟩ = some u → V'.cell? ⟨b, o, none⟩ = some u := fun b o u h1 h2 => (h.cell (p := ⟨b, o, none⟩) h1).trans h2
                  ⟨⟨hk _ _ _ hbT c0, hk _ _ _ hbT c1, hk _ _ _ hbT c2, hk _ _ _ hbT c3, hk _ _ _ hbT c4, hk _ _ _ hbT c5, hk _ _ _ hbT c6, hk _ _ _ hbT c7, hk _ _ _ hbT c9⟩, hk _ _ _ hbr y0, hk _ _ _ hbr y1⟩
                have q0 : Below wr.heap.size wr.drew wr.drew := Below.refl _ _
                refine (wpIn_wide (n := 4)).1 ?_
                refine wpIn_mono (Q := noPanic _) ?_ noPanic_le
                refine wpIn_region_held (fun V' => Below wr.heap.size wr.drew V') 30 hmo ?_
                refine wpHeldIn_take (i := 0) (v := ?_) (plain_of (by kernel_rfl)) rfl (by kernel_rfl) (fun _ _ _ h => h) (yieldsSoIn_of (by kernel_rfl) ?_ (fun _ => rfl)) q0 ?_; rotate_left; focus (intro wq hw; clear hw; go_simp; try (with_reducible rfl))
                refine wpHeldIn_take (i := 1) (v := ?_) (plain_of (by kernel_rfl)) rfl (by kernel_rfl) (fun _ _ _ h => h) (yieldsSoIn_of (by kernel_rfl) ?_ (fun _ => rfl)) q0 ?_; rotate_left; focus (intro wq hw; have kq := KC.out wq hw; clear hw; go_simp; try (with_reducible rfl))
                refine wpHeldIn_take (i := 2) (v := ?_) (plain_of (by kernel_rfl)) rfl (by kernel_rfl) (fun _ _ _ h => h) (yieldsSoIn_of (by kernel_rfl) ?_ (fun _ => rfl)) q0 ?_; rotate_left; focus (intro wq hw; clear hw; go_simp; try (with_reducible rfl))
                refine wpHeldIn_take (i := 3) (v := ?_) (plain_of (by kernel_rfl)) rfl (by kernel_rfl) (fun _ _ _ h => h) (yieldsSoIn_of (by kernel_rfl) ?_ (fun _ => rfl)) q0 ?_; rotate_left; focus (intro wq hw; have kq := KC.out wq hw; clear hw; go_simp; try (with_reducible rfl))
                refine wpHeldIn_take (i := 4) (v := ?_) (plain_of (by kernel_rfl)) rfl (by kernel_rfl) (fun _ _ _ h => h) (yieldsSoIn_of (by kernel_rfl) ?_ (fun _ => rfl)) q0 ?_; rotate_left; focus (intro wq hw; clear hw; go_simp; try (with_reducible rfl))
                refine wpHeldIn_take (i := 5) (v := ?_) (plain_of (by kernel_rfl)) rfl (by kernel_rfl) (fun _ _ _ h => h) (yieldsSoIn_of (by kernel_rfl) ?_ (fun _ => rfl)) q0 ?_; rotate_left; focus (intro wq hw; clear hw; go_simp; try (with_reducible rfl))
                refine wpHeldIn_take (i := 6) (v := ?_) (plain_of (by kernel_rfl)) rfl (by kernel_rfl) (fun _ _ _ h => h) (yieldsSoIn_of (by kernel_rfl) ?_ (fun _ => rfl)) q0 ?_; rotate_left; focus (intro wq hw; clear hw; go_simp; try (with_reducible rfl))
                refine wpHeldIn_take (i := 7) (v := ?_) (plain_of (by kernel_rfl)) rfl (by kernel_rfl) (fun _ _ _ h => h) (yieldsSoIn_of (by kernel_rfl) ?_ (fun _ => rfl)) q0 ?_; rotate_left; focus (intro wq hw; have kq := KC.out wq hw; clear hw; go_simp; try (with_reducible rfl))
                refine wpHeldIn_one (i := 8) (by kernel_rfl) (by kernel_rfl) rfl (by kernel_rfl) (fun K1 hK1 => ?_)
                go_simp
                refine ⟨trivial, (callsIn_wide.2 (HCH.out _ ((Below.refl _ _).drew))).mono ?_⟩
                rintro e w5 ⟨rfl, hb5⟩
                have hBd : Below wz.heap.size wz wr.drew := hBn.drew
                have q5 : Below wr.heap.size wr.drew w5 := hb5
                refine hK1 _ _ q5 ?_
                refine wpHeldIn_take (i := 9) (v := ?_) (plain_of (by kernel_rfl)) rfl (by kernel_rfl) (fun _ _ _ h => h) (yieldsSoIn_of (by kernel_rfl) ?_ (fun _ => rfl)) q5 ?_; rotate_left; focus (intro wq hw; clear hw; go_simp; try (with_reducible rfl))
                refine wpHeldIn_done (by kernel_rfl) ?_ _
                go_simp
                refine noPanic_of ?_
                have hbz1 := hBd.trans (hb5.mono hBn.size)
                clear KC q0 y0 y1 c0 c1 c2 c3 c4 c5 c6 c7 c9 lT
                go_wp2_with fail
                have hbz := hBr.trans (hbz1.mono hBr.size)
                go_returns
                exact ⟨by rw [HR3.out]; rfl, hbz⟩
            · have ek : k = ts.length := by omega
              have HR3 : Hid (R = CH []) := by unfold Hid; rw [HR2.out, if_pos (by rw [← ek]; exact hat.out)]
              have HCH := Lib.hid (fun W => HWC.out [] none 0 W (by simp) (wks_nil W _ none))
              rw [List.length_nil] at HCH
              have c9 := bT2.cell 9 rfl
              clear HWC HWN HWS HG
              go_wp2_with fail
              refine (HCH.out _).mono ?_
              rintro e w5 ⟨rfl, hb5⟩
              have hbz := hBr2.trans (hb5.mono hBr2.size)
              go_wp2_with fail
              go_returns
              exact ⟨by rw [HR3.out]; rfl, hbz⟩
end Go.Proofs.YtkmacpkjobdffaaGreat
