/- Wheels: what Check answers. -/
import Derived.Test.YtkmacpkjobdffaaGreatWhE
namespace Go.Proofs.YtkmacpkjobdffaaGreat
open Go.RowKit
set_option maxRecDepth 100000 in
set_option maxHeartbeats 4000000 in
theorem validWheel_any (d : Wh.Desk) (w : World) :
    Calls Tryz.prog 89 #[.agg (whV d)] w fun e w' => e = .returned (.bool (Wh.whB d)) ∧ Below w.heap.size w w' := by
  obtain ⟨full, read, slip, skew, circ, glo, ghi, wrn, ws⟩ := d
  unfold whV
  dsimp only
  have H0 : Hid (∀ W, Calls Tryz.prog 110 #[.int .i64 full, .int .i64 10, .int .i64 10000] W fun e w' => e = .returned (.bool (inB full 10 10000)) ∧ w' = W) := fun W => within_any full 10 10000 W
  have H1 : Hid (∀ W, Calls Tryz.prog 110 #[.int .i64 read, .int .i64 0, .int .i64 20] W fun e w' => e = .returned (.bool (inB read 0 20)) ∧ w' = W) := fun W => within_any read 0 20 W
  have H2 : Hid (∀ W, Calls Tryz.prog 110 #[.int .i64 slip, .int .i64 0, .int .i64 20] W fun e w' => e = .returned (.bool (inB slip 0 20)) ∧ w' = W) := fun W => within_any slip 0 20 W
  have H3 : Hid (∀ W, Calls Tryz.prog 110 #[.int .i64 skew, .int .i64 0, .int .i64 20] W fun e w' => e = .returned (.bool (inB skew 0 20)) ∧ w' = W) := fun W => within_any skew 0 20 W
  have H4 : Hid (∀ W, Calls Tryz.prog 110 #[.int .i64 circ, .int .i64 0, .int .i64 9999] W fun e w' => e = .returned (.bool (inB circ 0 9999)) ∧ w' = W) := fun W => within_any circ 0 9999 W
  have H5 : Hid (∀ W, Calls Tryz.prog 110 #[.int .i64 glo, .int .i64 0, .int .i64 ghi] W fun e w' => e = .returned (.bool (inB glo 0 ghi)) ∧ w' = W) := fun W => within_any glo 0 ghi W
  have H7 : Hid (∀ W, Calls Tryz.prog 110 #[.int .i64 wrn, .int .i64 0, .int .i64 8] W fun e w' => e = .returned (.bool (inB wrn 0 8)) ∧ w' = W) := fun W => within_any wrn 0 8 W
  have HR : Hid (Wh.whB ⟨full, read, slip, skew, circ, glo, ghi, wrn, ws⟩ = (((((((inB full 10 10000 && inB read 0 20) && inB slip 0 20) && inB skew 0 20) && inB circ 0 9999) && inB glo 0 ghi) && decide (ghi ≤ 9999)) && inB wrn 0 8)) := rfl
  generalize Wh.whB ⟨full, read, slip, skew, circ, glo, ghi, wrn, ws⟩ = R at *
  generalize inB full 10 10000 = b0 at *
  generalize inB read 0 20 = b1 at *
  generalize inB slip 0 20 = b2 at *
  generalize inB skew 0 20 = b3 at *
  generalize inB circ 0 9999 = b4 at *
  generalize inB glo 0 ghi = b5 at *
  generalize inB wrn 0 8 = b7 at *
  cases b0 with
  | false =>
    go_enter Tryz.func89, Tryz.ntmps89
    go_wp2_with fail
    refine (H0.out _).mono ?_
    rintro e w1 ⟨rfl, rfl⟩
    go_wp2_with fail
    go_returns
    exact ⟨by rw [HR.out]; first | rfl | simp [*], (Below.refl _ _).alloc (Nat.le_refl _) _⟩
  | true =>
    cases b1 with
    | false =>
      go_enter Tryz.func89, Tryz.ntmps89
      go_wp2_with fail
      refine (H0.out _).mono ?_
      rintro e w1 ⟨rfl, rfl⟩
      go_wp2_with fail
      refine (H1.out _).mono ?_
      rintro e w2 ⟨rfl, rfl⟩
      go_wp2_with fail
      go_returns
      exact ⟨by rw [HR.out]; first | rfl | simp [*], (Below.refl _ _).alloc (Nat.le_refl _) _⟩
    | true =>
      cases b2 with
      | false =>
        go_enter Tryz.func89, Tryz.ntmps89
        go_wp2_with fail
        refine (H0.out _).mono ?_
        rintro e w1 ⟨rfl, rfl⟩
        go_wp2_with fail
        refine (H1.out _).mono ?_
        rintro e w2 ⟨rfl, rfl⟩
        go_wp2_with fail
        refine (H2.out _).mono ?_
        rintro e w3 ⟨rfl, rfl⟩
        go_wp2_with fail
        go_returns
        exact ⟨by rw [HR.out]; first | rfl | simp [*], (Below.refl _ _).alloc (Nat.le_refl _) _⟩
      | true =>
        cases b3 with
        | false =>
          go_enter Tryz.func89, Tryz.ntmps89
          go_wp2_with fail
          refine (H0.out _).mono ?_
          rintro e w1 ⟨rfl, rfl⟩
          go_wp2_with fail
          refine (H1.out _).mono ?_
          rintro e w2 ⟨rfl, rfl⟩
          go_wp2_with fail
          refine (H2.out _).mono ?_
          rintro e w3 ⟨rfl, rfl⟩
          go_wp2_with fail
          refine (H3.out _).mono ?_
          rintro e w4 ⟨rfl, rfl⟩
          go_wp2_with fail
          go_returns
          exact ⟨by rw [HR.out]; first | rfl | simp [*], (Below.refl _ _).alloc (Nat.le_refl _) _⟩
        | true =>
          cases b4 with
          | false =>
            go_enter Tryz.func89, Tryz.ntmps89
            go_wp2_with fail
            refine (H0.out _).mono ?_
            rintro e w1 ⟨rfl, rfl⟩
            go_wp2_with fail
            refine (H1.out _).mono ?_
            rintro e w2 ⟨rfl, rfl⟩
            go_wp2_with fail
            refine (H2.out _).mono ?_
            rintro e w3 ⟨rfl, rfl⟩
            go_wp2_with fail
            refine (H3.out _).mono ?_
            rintro e w4 ⟨rfl, rfl⟩
            go_wp2_with fail
            refine (H4.out _).mono ?_
            rintro e w5 ⟨rfl, rfl⟩
            go_wp2_with fail
            go_returns
            exact ⟨by rw [HR.out]; first | rfl | simp [*], (Below.refl _ _).alloc (Nat.le_refl _) _⟩
          | true =>
            cases b5 with
            | false =>
              go_enter Tryz.func89, Tryz.ntmps89
              go_wp2_with fail
              refine (H0.out _).mono ?_
              rintro e w1 ⟨rfl, rfl⟩
              go_wp2_with fail
              refine (H1.out _).mono ?_
              rintro e w2 ⟨rfl, rfl⟩
              go_wp2_with fail
              refine (H2.out _).mono ?_
              rintro e w3 ⟨rfl, rfl⟩
              go_wp2_with fail
              refine (H3.out _).mono ?_
              rintro e w4 ⟨rfl, rfl⟩
              go_wp2_with fail
              refine (H4.out _).mono ?_
              rintro e w5 ⟨rfl, rfl⟩
              go_wp2_with fail
              refine (H5.out _).mono ?_
              rintro e w6 ⟨rfl, rfl⟩
              go_wp2_with fail
              go_returns
              exact ⟨by rw [HR.out]; first | rfl | simp [*], (Below.refl _ _).alloc (Nat.le_refl _) _⟩
            | true =>
              by_cases hd6 : ghi ≤ 9999
              · have dd6 : decide (ghi ≤ 9999) = true := decide_eq_true hd6
                cases b7 with
                | false =>
                  go_enter Tryz.func89, Tryz.ntmps89
                  go_wp2_with fail
                  refine (H0.out _).mono ?_
                  rintro e w1 ⟨rfl, rfl⟩
                  go_wp2_with fail
                  refine (H1.out _).mono ?_
                  rintro e w2 ⟨rfl, rfl⟩
                  go_wp2_with fail
                  refine (H2.out _).mono ?_
                  rintro e w3 ⟨rfl, rfl⟩
                  go_wp2_with fail
                  refine (H3.out _).mono ?_
                  rintro e w4 ⟨rfl, rfl⟩
                  go_wp2_with fail
                  refine (H4.out _).mono ?_
                  rintro e w5 ⟨rfl, rfl⟩
                  go_wp2_with fail
                  refine (H5.out _).mono ?_
                  rintro e w6 ⟨rfl, rfl⟩
                  go_wp2_with fail
                  refine (H7.out _).mono ?_
                  rintro e w8 ⟨rfl, rfl⟩
                  go_wp2_with fail
                  go_returns
                  exact ⟨by rw [HR.out]; first | rfl | simp [*], (Below.refl _ _).alloc (Nat.le_refl _) _⟩
                | true =>
                  go_enter Tryz.func89, Tryz.ntmps89
                  go_wp2_with fail
                  refine (H0.out _).mono ?_
                  rintro e w1 ⟨rfl, rfl⟩
                  go_wp2_with fail
                  refine (H1.out _).mono ?_
                  rintro e w2 ⟨rfl, rfl⟩
                  go_wp2_with fail
                  refine (H2.out _).mono ?_
                  rintro e w3 ⟨rfl, rfl⟩
                  go_wp2_with fail
                  refine (H3.out _).mono ?_
                  rintro e w4 ⟨rfl, rfl⟩
                  go_wp2_with fail
                  refine (H4.out _).mono ?_
                  rintro e w5 ⟨rfl, rfl⟩
                  go_wp2_with fail
                  refine (H5.out _).mono ?_
                  rintro e w6 ⟨rfl, rfl⟩
                  go_wp2_with fail
                  refine (H7.out _).mono ?_
                  rintro e w8 ⟨rfl, rfl⟩
                  go_wp2_with fail
                  go_returns
                  exact ⟨by rw [HR.out]; first | rfl | simp [*], (Below.refl _ _).alloc (Nat.le_refl _) _⟩
              · have dd6 : decide (ghi ≤ 9999) = false := decide_eq_false hd6
                go_enter Tryz.func89, Tryz.ntmps89
                go_wp2_with fail
                refine (H0.out _).mono ?_
                rintro e w1 ⟨rfl, rfl⟩
                go_wp2_with fail
                refine (H1.out _).mono ?_
                rintro e w2 ⟨rfl, rfl⟩
                go_wp2_with fail
                refine (H2.out _).mono ?_
                rintro e w3 ⟨rfl, rfl⟩
                go_wp2_with fail
                refine (H3.out _).mono ?_
                rintro e w4 ⟨rfl, rfl⟩
                go_wp2_with fail
                refine (H4.out _).mono ?_
                rintro e w5 ⟨rfl, rfl⟩
                go_wp2_with fail
                refine (H5.out _).mono ?_
                rintro e w6 ⟨rfl, rfl⟩
                go_wp2_with fail
                go_returns
                exact ⟨by rw [HR.out]; first | rfl | simp [*], (Below.refl _ _).alloc (Nat.le_refl _) _⟩

set_option maxRecDepth 100000 in
set_option maxHeartbeats 4000000 in
theorem validWalk_any (d : Wh.Desk) (hf : 0 ≤ d.full ∧ d.full ≤ 10000) (k : Wh.Wk) (w : World) :
    Calls Tryz.prog 90 #[.agg (whV d), .agg #[.int .i64 k.1, .int .i64 k.2.1, .int .i64 k.2.2.1, .int .i64 k.2.2.2.1, .int .i64 k.2.2.2.2]] w fun e w' => e = .returned (.bool (Wh.wkB d.full k)) ∧ Below w.heap.size w w' := by
  obtain ⟨full, read, slip, skew, circ, glo, ghi, wrn, ws⟩ := d
  obtain ⟨se, si, ins, st, en⟩ := k
  unfold whV
  dsimp only at *
  have hw1 : IntKind.i64.wrap (full - 1) = full - 1 := IntWalk.i64_in _ (by omega)
  have H0 : Hid (∀ W, Calls Tryz.prog 111 #[.int .i64 se] W fun e w' => e = .returned (.bool (Wh.signB se)) ∧ w' = W) := fun W => isSign_any se W
  have H1 : Hid (∀ W, Calls Tryz.prog 111 #[.int .i64 si] W fun e w' => e = .returned (.bool (Wh.signB si)) ∧ w' = W) := fun W => isSign_any si W
  have H2 : Hid (∀ W, Calls Tryz.prog 110 #[.int .i64 ins, .int .i64 0, .int .i64 1] W fun e w' => e = .returned (.bool (inB ins 0 1)) ∧ w' = W) := fun W => within_any ins 0 1 W
  have H3 : Hid (∀ W, Calls Tryz.prog 110 #[.int .i64 st, .int .i64 0, .int .i64 (full - 1)] W fun e w' => e = .returned (.bool (inB st 0 (full - 1))) ∧ w' = W) := fun W => within_any st 0 (full - 1) W
  have H4 : Hid (∀ W, Calls Tryz.prog 110 #[.int .i64 en, .int .i64 0, .int .i64 (full - 1)] W fun e w' => e = .returned (.bool (inB en 0 (full - 1))) ∧ w' = W) := fun W => within_any en 0 (full - 1) W
  have HR : Hid (Wh.wkB full (se, si, ins, st, en) = ((((Wh.signB se && Wh.signB si) && inB ins 0 1) && inB st 0 (full - 1)) && inB en 0 (full - 1))) := rfl
  generalize Wh.wkB full (se, si, ins, st, en) = R at *
  generalize Wh.signB se = b0 at *
  generalize Wh.signB si = b1 at *
  generalize inB ins 0 1 = b2 at *
  generalize inB st 0 (full - 1) = b3 at *
  generalize inB en 0 (full - 1) = b4 at *
  cases b0 with
  | false =>
    go_enter Tryz.func90, Tryz.ntmps90
    go_wp2_with fail
    refine (H0.out _).mono ?_
    rintro e w1 ⟨rfl, rfl⟩
    go_wp2_with fail
    go_returns
    exact ⟨by rw [HR.out]; first | rfl | simp [*], by (repeat' (first | (with_reducible exact Below.refl _ _) | (with_reducible assumption) | (with_reducible refine Below.alloc ?_ ?_ _) | (with_reducible refine Below.drew ?_) | (with_reducible refine Below.setCell ?_ ?_ _) | go_size | (exact (by simp)) | omega))⟩
  | true =>
    cases b1 with
    | false =>
      go_enter Tryz.func90, Tryz.ntmps90
      go_wp2_with fail
      refine (H0.out _).mono ?_
      rintro e w1 ⟨rfl, rfl⟩
      go_wp2_with fail
      refine (H1.out _).mono ?_
      rintro e w2 ⟨rfl, rfl⟩
      go_wp2_with fail
      go_returns
      exact ⟨by rw [HR.out]; first | rfl | simp [*], by (repeat' (first | (with_reducible exact Below.refl _ _) | (with_reducible assumption) | (with_reducible refine Below.alloc ?_ ?_ _) | (with_reducible refine Below.drew ?_) | (with_reducible refine Below.setCell ?_ ?_ _) | go_size | (exact (by simp)) | omega))⟩
    | true =>
      cases b2 with
      | false =>
        go_enter Tryz.func90, Tryz.ntmps90
        go_wp2_with fail
        refine (H0.out _).mono ?_
        rintro e w1 ⟨rfl, rfl⟩
        go_wp2_with fail
        refine (H1.out _).mono ?_
        rintro e w2 ⟨rfl, rfl⟩
        go_wp2_with fail
        refine (H2.out _).mono ?_
        rintro e w3 ⟨rfl, rfl⟩
        go_wp2_with fail
        go_returns
        exact ⟨by rw [HR.out]; first | rfl | simp [*], by (repeat' (first | (with_reducible exact Below.refl _ _) | (with_reducible assumption) | (with_reducible refine Below.alloc ?_ ?_ _) | (with_reducible refine Below.drew ?_) | (with_reducible refine Below.setCell ?_ ?_ _) | go_size | (exact (by simp)) | omega))⟩
      | true =>
        cases b3 with
        | false =>
          go_enter Tryz.func90, Tryz.ntmps90
          go_wp2_with fail
          refine (H0.out _).mono ?_
          rintro e w1 ⟨rfl, rfl⟩
          go_wp2_with fail
          refine (H1.out _).mono ?_
          rintro e w2 ⟨rfl, rfl⟩
          go_wp2_with fail
          refine (H2.out _).mono ?_
          rintro e w3 ⟨rfl, rfl⟩
          go_wp2_with fail
          refine (H3.out _).mono ?_
          rintro e w4 ⟨rfl, rfl⟩
          go_wp2_with fail
          go_returns
          exact ⟨by rw [HR.out]; first | rfl | simp [*], by (repeat' (first | (with_reducible exact Below.refl _ _) | (with_reducible assumption) | (with_reducible refine Below.alloc ?_ ?_ _) | (with_reducible refine Below.drew ?_) | (with_reducible refine Below.setCell ?_ ?_ _) | go_size | (exact (by simp)) | omega))⟩
        | true =>
          cases b4 with
          | false =>
            go_enter Tryz.func90, Tryz.ntmps90
            go_wp2_with fail
            refine (H0.out _).mono ?_
            rintro e w1 ⟨rfl, rfl⟩
            go_wp2_with fail
            refine (H1.out _).mono ?_
            rintro e w2 ⟨rfl, rfl⟩
            go_wp2_with fail
            refine (H2.out _).mono ?_
            rintro e w3 ⟨rfl, rfl⟩
            go_wp2_with fail
            refine (H3.out _).mono ?_
            rintro e w4 ⟨rfl, rfl⟩
            go_wp2_with fail
            refine (H4.out _).mono ?_
            rintro e w5 ⟨rfl, rfl⟩
            go_wp2_with fail
            go_returns
            exact ⟨by rw [HR.out]; first | rfl | simp [*], by (repeat' (first | (with_reducible exact Below.refl _ _) | (with_reducible assumption) | (with_reducible refine Below.alloc ?_ ?_ _) | (with_reducible refine Below.drew ?_) | (with_reducible refine Below.setCell ?_ ?_ _) | go_size | (exact (by simp)) | omega))⟩
          | true =>
            go_enter Tryz.func90, Tryz.ntmps90
            go_wp2_with fail
            refine (H0.out _).mono ?_
            rintro e w1 ⟨rfl, rfl⟩
            go_wp2_with fail
            refine (H1.out _).mono ?_
            rintro e w2 ⟨rfl, rfl⟩
            go_wp2_with fail
            refine (H2.out _).mono ?_
            rintro e w3 ⟨rfl, rfl⟩
            go_wp2_with fail
            refine (H3.out _).mono ?_
            rintro e w4 ⟨rfl, rfl⟩
            go_wp2_with fail
            refine (H4.out _).mono ?_
            rintro e w5 ⟨rfl, rfl⟩
            go_wp2_with fail
            go_returns
            exact ⟨by rw [HR.out]; first | rfl | simp [*], by (repeat' (first | (with_reducible exact Below.refl _ _) | (with_reducible assumption) | (with_reducible refine Below.alloc ?_ ?_ _) | (with_reducible refine Below.drew ?_) | (with_reducible refine Below.setCell ?_ ?_ _) | go_size | (exact (by simp)) | omega))⟩

namespace Wh
def allTo (full : Int) (ws : List Wk) : Nat → Bool
  | 0 => true
  | k + 1 => allTo full ws k && wkB full (wkAt ws k)
theorem allTo_iff (full : Int) (ws : List Wk) : ∀ k, allTo full ws k = true ↔ ∀ j, j < k → wkB full (wkAt ws j) = true
  | 0 => by simp [allTo]
  | k + 1 => by
    unfold allTo
    rw [Bool.and_eq_true, allTo_iff full ws k]
    constructor
    · rintro ⟨h1, h2⟩ j hj
      by_cases e : j = k
      · subst e; exact h2
      · exact h1 j (by omega)
    · intro h
      exact ⟨fun j hj => h j (by omega), h k (by omega)⟩
theorem allTo_no {full : Int} {ws : List Wk} {j k : Nat} (hj : j < k) (h : wkB full (wkAt ws j) = false) : allTo full ws k = false := by
  cases e : allTo full ws k with
  | false => rfl
  | true => rw [(allTo_iff full ws k).1 e j hj] at h; cases h
def wksB (d : Desk) : Bool := decide (d.ws.length ≤ 8) && allTo d.full d.ws d.ws.length
def okB (d : Desk) : Bool := whB d && wksB d
def chkE (d : Desk) : Int := if whB d then (if wksB d then 0 else 31) else 30
theorem ok_wh {d : Desk} (h : whB d = true) : Ok d := by
  unfold whB inB at h
  simp only [Bool.and_eq_true, decide_eq_true_eq] at h
  constructor <;> omega
theorem okB_iff {d : Desk} : okB d = true ↔ whB d = true ∧ wksB d = true := by unfold okB; rw [Bool.and_eq_true]
theorem ok_of {d : Desk} (h : okB d = true) : Ok d := ok_wh (okB_iff.1 h).1
theorem ok_len {d : Desk} (h : okB d = true) : d.ws.length ≤ 8 := by
  have := (okB_iff.1 h).2
  unfold wksB at this
  rw [Bool.and_eq_true, decide_eq_true_eq] at this
  exact this.1
theorem ok_wk {d : Desk} (h : okB d = true) : ∀ k, k < d.ws.length → wkB d.full (wkAt d.ws k) = true := by
  have := (okB_iff.1 h).2
  unfold wksB at this
  rw [Bool.and_eq_true] at this
  exact (allTo_iff _ _ _).1 this.2
theorem ok_sm {d : Desk} (h : okB d = true) : ∀ k, k < d.ws.length → ksm (wkAt d.ws k) := fun k hk => wkB_sm (ok_of h).f2 (ok_wk h k hk)
theorem chkE_yes {d : Desk} (h : okB d = true) : chkE d = 0 := by unfold chkE; rw [(okB_iff.1 h).1, (okB_iff.1 h).2]; rfl
theorem chkE_zero {d : Desk} : chkE d = 0 ↔ okB d = true := by
  unfold chkE okB
  cases whB d <;> cases wksB d <;> simp
end Wh
theorem boxS8 {W : World} {B : Nat} {t : TypeId} {a b c d e f g h : Value} (H : BoxS W B t #[a, b, c, d, e, f, g, h]) : ((W.cell? ⟨B, 0, none⟩ = some a ∧ W.cell? ⟨B, 1, none⟩ = some b ∧ W.cell? ⟨B, 2, none⟩ = some c) ∧ W.cell? ⟨B, 3, none⟩ = some d ∧ W.cell? ⟨B, 4, none⟩ = some e ∧ W.cell? ⟨B, 5, none⟩ = some f) ∧ W.cell? ⟨B, 6, none⟩ = some g ∧ W.cell? ⟨B, 7, none⟩ = some h := ⟨⟨⟨H.cell 0 rfl, H.cell 1 rfl, H.cell 2 rfl⟩, H.cell 3 rfl, H.cell 4 rfl, H.cell 5 rfl⟩, H.cell 6 rfl, H.cell 7 rfl⟩

set_option maxRecDepth 100000 in
set_option maxHeartbeats 4000000 in
theorem wCheck_any (d : Wh.Desk) (A : Option Addr) (c : Nat) (w : World) (hl : d.ws.length ≤ 1000000000) (hg : Wks w w.heap.size A d.ws) :
    Calls Tryz.prog 51 #[.agg (whV d), .slice A d.ws.length c] w (ErrPost (Wh.chkE d) w) := by
  have H1 : Hid (∀ W, Calls Tryz.prog 89 #[.agg (whV d)] W fun e w' => e = .returned (.bool (Wh.whB d)) ∧ Below W.heap.size W w') := fun W => validWheel_any d W
  have HVC : Hid (Wh.whB d = true → ∀ k W, Calls Tryz.prog 90 #[.agg (whV d), .agg #[.int .i64 (Wh.wkAt d.ws k).1, .int .i64 (Wh.wkAt d.ws k).2.1, .int .i64 (Wh.wkAt d.ws k).2.2.1, .int .i64 (Wh.wkAt d.ws k).2.2.2.1, .int .i64 (Wh.wkAt d.ws k).2.2.2.2]] W fun e w' => e = .returned (.bool (Wh.wkB d.full (Wh.wkAt d.ws k))) ∧ Below W.heap.size W w') := fun h k W => validWalk_any d (by have := Wh.ok_wh h; have := this.f1; have := (Wh.ok_wh h).f2; omega) _ W
  have HE : Hid (Wh.chkE d = if Wh.whB d then (if decide (d.ws.length ≤ 8) && Wh.allTo d.full d.ws d.ws.length then 0 else 31) else 30) := rfl
  have HS0 : Hid (∀ k, Wh.allTo d.full d.ws (k + 1) = (Wh.allTo d.full d.ws k && Wh.wkB d.full (Wh.wkAt d.ws k))) := fun k => rfl
  have HA0 : Hid (Wh.allTo d.full d.ws 0 = true) := rfl
  have HNO : Hid (∀ k, k < d.ws.length → Wh.wkB d.full (Wh.wkAt d.ws k) = false → Wh.allTo d.full d.ws d.ws.length = false) := fun k hk => Wh.allTo_no hk
  have HG := Lib.hid hg
  have hll : (d.ws.length : Int) ≤ 1000000000 := by omega
  clear hg
  generalize Wh.chkE d = E at *
  generalize Wh.allTo d.full d.ws = AT at *
  generalize Wh.wkB d.full = WB at *
  generalize Wh.whB d = HB at *
  obtain ⟨full, read, slip, skew, circ, glo, ghi, wrn, ws⟩ := d
  unfold whV at *
  dsimp only at *
  cases HB with
  | false =>
    have HE2 : Hid (E = 30) := HE.out
    go_enter Tryz.func51, Tryz.ntmps51
    go_wp2_with fail
    have bS1 := BoxS.new w 25 #[.int .i64 full, .int .i64 read, .int .i64 slip, .int .i64 skew, .int .i64 circ, .int .i64 glo, .int .i64 ghi, .int .i64 wrn]
    have hB1 : Below w.heap.size w (w.alloc (.cells #[.int .i64 full, .int .i64 read, .int .i64 slip, .int .i64 skew, .int .i64 circ, .int .i64 glo, .int .i64 ghi, .int .i64 wrn] 25)) := by (repeat' (first | (with_reducible exact Below.refl _ _) | (with_reducible assumption) | (with_reducible refine Below.alloc ?_ ?_ _) | (with_reducible refine Below.drew ?_) | (with_reducible refine Below.setCell ?_ ?_ _) | go_size | (exact (by simp)) | omega))
    generalize World.alloc w _ = w1 at *
    refine (H1.out _).mono ?_
    rintro e w2 ⟨rfl, hb2⟩
    have bS2 := bS1.below hb2
    have hB2 := hB1.trans (hb2.mono hB1.size)
    clear bS1 hB1 hb2
    go_wp2_with fail
    go_returns
    exact ⟨by rw [HE2.out]; rfl, hB2⟩
  | true =>
    have HVC2 := Lib.hid (HVC.out rfl)
    by_cases h8 : ws.length ≤ 8
    · have h8i : decide ((8 : Int) < (ws.length : Int)) = false := decide_eq_false (by omega)
      have HE2 : Hid (E = if AT ws.length then 0 else 31) := by
        have := HE.out
        rw [if_pos rfl, decide_eq_true h8, Bool.true_and] at this
        exact this
      clear HE
      go_enter Tryz.func51, Tryz.ntmps51
      go_wp2_with fail
      have bS1 := BoxS.new w 25 #[.int .i64 full, .int .i64 read, .int .i64 slip, .int .i64 skew, .int .i64 circ, .int .i64 glo, .int .i64 ghi, .int .i64 wrn]
      have hB1 : Below w.heap.size w (w.alloc (.cells #[.int .i64 full, .int .i64 read, .int .i64 slip, .int .i64 skew, .int .i64 circ, .int .i64 glo, .int .i64 ghi, .int .i64 wrn] 25)) := by (repeat' (first | (with_reducible exact Below.refl _ _) | (with_reducible assumption) | (with_reducible refine Below.alloc ?_ ?_ _) | (with_reducible refine Below.drew ?_) | (with_reducible refine Below.setCell ?_ ?_ _) | go_size | (exact (by simp)) | omega))
      generalize World.alloc w _ = w1 at *
      refine (H1.out _).mono ?_
      rintro e w2 ⟨rfl, hb2⟩
      have bS2 := bS1.below hb2
      have hB2 := hB1.trans (hb2.mono hB1.size)
      clear bS1 hB1 hb2
      obtain ⟨⟨⟨s0, s1, s2⟩, s3, s4, s5⟩, s6, s7⟩ := boxS8 bS2
      go_wp2_with fail
      clear s0 s1 s2 s3 s4 s5 s6 s7
      go_loopw [15] (fun x wr => ∃ k : Nat, (k : Int) ≤ ws.length ∧ x = .int .i64 k ∧ Hid (AT k = true) ∧ BoxS wr w.heap.size 25 #[.int .i64 full, .int .i64 read, .int .i64 slip, .int .i64 skew, .int .i64 circ, .int .i64 glo, .int .i64 ghi, .int .i64 wrn] ∧ Below w.heap.size w wr) (fun x _ => (ws.length - intOf x).toNat)
      case atStart => exact ⟨0, by omega, rfl, HA0.out, bS2, hB2⟩
      case round =>
        clear bS2 hB2
        obtain ⟨k, hk, rfl, hall, bS, hB⟩ := hrel
        have hk0 := Int.natCast_nonneg k
        by_cases hlt : (k : Int) < ws.length
        · have hkn : k < ws.length := by omega
          obtain ⟨bb, off, rfl, hbb, hc⟩ := HG.out (by omega)
          obtain ⟨h0, h1, h2, h3, h4⟩ := hc k hkn
          have a0 := (hB.cell (p := ⟨bb, _, none⟩) hbb).trans h0
          have a1 := (hB.cell (p := ⟨bb, _, none⟩) hbb).trans h1
          have a2 := (hB.cell (p := ⟨bb, _, none⟩) hbb).trans h2
          have a3 := (hB.cell (p := ⟨bb, _, none⟩) hbb).trans h3
          have a4 := (hB.cell (p := ⟨bb, _, none⟩) hbb).trans h4
          have HV1 := Lib.hid (HVC2.out k)
          have HS := Lib.hid (HS0.out k)
          have HN1 := Lib.hid (HNO.out k hkn)
          have hw1 : IntKind.i64.wrap ((k : Int) + 1) = (k : Int) + 1 := IntWalk.i64_in _ (by omega)
          have hlw0 : w.heap.size < wr.heap.size := bS.lt
          clear hc h0 h1 h2 h3 h4 HVC2 HVC
          generalize WB (Wh.wkAt ws k) = b at *
          generalize Wh.wkAt ws k = ct at *
          obtain ⟨c0, c1, c2, c3, c4⟩ := ct
          dsimp only at a0 a1 a2 a3 a4 HV1
          obtain ⟨⟨⟨s0, s1, s2⟩, s3, s4, s5⟩, s6, s7⟩ := boxS8 bS
          go_wp2_with fail
          have hBa : Below w.heap.size w (wr.alloc (.cells #[.int .i64 c0, .int .i64 c1, .int .i64 c2, .int .i64 c3, .int .i64 c4] 67)) := hB.alloc hB.size _
          have bSa := bS.alloc (.cells #[.int .i64 c0, .int .i64 c1, .int .i64 c2, .int .i64 c3, .int .i64 c4] 67)
          clear a0 a1 a2 a3 a4 s0 s1 s2 s3 s4 s5 s6 s7
          generalize World.alloc wr _ = w5 at *
          refine (HV1.out _).mono ?_
          rintro e w6 ⟨rfl, hb6⟩
          have hB6 := hBa.trans (hb6.mono hBa.size)
          have bS6 := bSa.below hb6
          cases b with
          | true =>
            go_wp2_with fail
            go_roundw
            case rel => exact ⟨k + 1, by omega, by go_num, by unfold Hid; rw [HS.out, hall.out]; rfl, bS6, hB6⟩
            case measure => simp [intOf]; omega
          | false =>
            go_wp2_with fail
            go_returns
            exact ⟨by rw [HE2.out, HN1.out (by first | rfl | trivial)]; rfl, hB6⟩
        · obtain rfl : k = ws.length := by omega
          go_wp2_with fail
          go_returns
          exact ⟨by rw [HE2.out, hall.out]; rfl, hB⟩
    · have h8i : decide ((8 : Int) < (ws.length : Int)) = true := decide_eq_true (by omega)
      have HE2 : Hid (E = 31) := by
        have := HE.out
        rw [if_pos rfl, decide_eq_false h8, Bool.false_and] at this
        exact this
      clear HE
      go_enter Tryz.func51, Tryz.ntmps51
      go_wp2_with fail
      have bS1 := BoxS.new w 25 #[.int .i64 full, .int .i64 read, .int .i64 slip, .int .i64 skew, .int .i64 circ, .int .i64 glo, .int .i64 ghi, .int .i64 wrn]
      have hB1 : Below w.heap.size w (w.alloc (.cells #[.int .i64 full, .int .i64 read, .int .i64 slip, .int .i64 skew, .int .i64 circ, .int .i64 glo, .int .i64 ghi, .int .i64 wrn] 25)) := by (repeat' (first | (with_reducible exact Below.refl _ _) | (with_reducible assumption) | (with_reducible refine Below.alloc ?_ ?_ _) | (with_reducible refine Below.drew ?_) | (with_reducible refine Below.setCell ?_ ?_ _) | go_size | (exact (by simp)) | omega))
      generalize World.alloc w _ = w1 at *
      refine (H1.out _).mono ?_
      rintro e w2 ⟨rfl, hb2⟩
      have bS2 := bS1.below hb2
      have hB2 := hB1.trans (hb2.mono hB1.size)
      clear bS1 hB1 hb2
      go_wp2_with fail
      go_returns
      exact ⟨by rw [HE2.out]; rfl, hB2⟩
end Go.Proofs.YtkmacpkjobdffaaGreat
