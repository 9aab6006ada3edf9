/- Where and Twice of both sides. -/
import Derived.Test.YtkfnngcphcfbjaaEqual
import Derived.Test.YtkfnngcphcfbjaaPts
namespace Go.Proofs.Ytkfnngcphcfbjaa
open Go.RowKit

namespace Geo
noncomputable def whV (ps : List Pt) (p : Pt) : Int := if validB ps then (if ptB p then refLies ps p else 0) else 0
def whE (ps : List Pt) (p : Pt) : Int := if validB ps then (if ptB p then 0 else 1) else 20
theorem wh_no {ps : List Pt} (h : validB ps = false) (p : Pt) : whV ps p = 0 ∧ whE ps p = 20 := by unfold whV whE; simp [h]
theorem wh_arg {ps : List Pt} (h : validB ps = true) {p : Pt} (h2 : ptB p = false) : whV ps p = 0 ∧ whE ps p = 1 := by unfold whV whE; simp [h, h2]
theorem wh_yes {ps : List Pt} (h : validB ps = true) {p : Pt} (h2 : ptB p = true) : whV ps p = refLies ps p ∧ whE ps p = 0 := by unfold whV whE; simp [h, h2]
end Geo
def WherePost (v x : Int) (w : World) (e : Ending) (w' : World) : Prop := e = .returned (.tuple #[.int .i64 v, .int .i64 x]) ∧ Below w.heap.size w w'

set_option maxRecDepth 100000 in
set_option maxHeartbeats 1000000 in
theorem Where_any (A : Option Addr) (c : Nat) (ps : List Geo.Pt) (hlen : ps.length ≤ 100) (x y : Int) (w : World) (hP : Prs w w.heap.size A ps) :
    Calls Try.prog 17 #[.slice A ps.length c, .agg #[.int .i64 x, .int .i64 y]] w (WherePost (Geo.whV ps (x, y)) (Geo.whE ps (x, y)) w) := by
  have HC : Hid (∀ W, Below w.heap.size w W → Calls Try.prog 33 #[.slice A ps.length c] W (ChkPost (Geo.errV ps) W)) := fun W hW => Check_any A c ps hlen W (prs_keep hP hW)
  cases hv : Geo.validB ps with
  | false =>
    rw [Geo.errV_no hv] at HC
    obtain ⟨e1, e2⟩ := Geo.wh_no hv (x, y)
    have E1 := Lib.hid e1
    have E2 := Lib.hid e2
    clear hP hlen hv e1 e2
    go_enter Try.func17, Try.ntmps17
    go_wp2_with fail
    refine (HC.out _ (by (repeat' (first | (with_reducible exact Below.refl _ _) | (with_reducible assumption) | (with_reducible refine Below.alloc ?_ ?_ _) | (with_reducible refine below_drewN ?_ _) | (with_reducible refine Below.drew ?_) | (with_reducible refine Below.setCell ?_ ?_ _) | go_size)))).mono ?_
    rintro e w1 ⟨rfl, hb1⟩
    have hB1 : Below w.heap.size w w1 := Below.trans (by (repeat' (first | (with_reducible exact Below.refl _ _) | (with_reducible assumption) | (with_reducible refine Below.alloc ?_ ?_ _) | (with_reducible refine below_drewN ?_ _) | (with_reducible refine Below.drew ?_) | (with_reducible refine Below.setCell ?_ ?_ _) | go_size))) (hb1.mono (by first | omega | (simp; done) | (simp; omega))); have hz1 := hb1.size; try simp at hz1
    go_wp2_with fail
    go_returns
    exact ⟨ret_tup (by rw [E1.out, E2.out]; try rfl), hB1⟩
  | true =>
    rw [Geo.errV_yes hv] at HC
    have hsm := Geo.valid_sm hv
    cases hp : Geo.ptB (x, y) with
    | false =>
      obtain ⟨e1, e2⟩ := Geo.wh_arg hv hp
      have E1 := Lib.hid e1
      have E2 := Lib.hid e2
      have HI : Hid (∀ W, Calls Try.prog 46 #[.agg #[.int .i64 x, .int .i64 y]] W fun e w' => e = .returned (.bool false) ∧ Below W.heap.size W w') := fun W => (inReach_any x y W).mono (by rw [hp]; exact fun _ _ h => h)
      clear hP hlen hv e1 e2 hsm hp
      go_enter Try.func17, Try.ntmps17
      go_wp2_with fail
      refine (HC.out _ (by (repeat' (first | (with_reducible exact Below.refl _ _) | (with_reducible assumption) | (with_reducible refine Below.alloc ?_ ?_ _) | (with_reducible refine below_drewN ?_ _) | (with_reducible refine Below.drew ?_) | (with_reducible refine Below.setCell ?_ ?_ _) | go_size)))).mono ?_
      rintro e w1 ⟨rfl, hb1⟩
      have hB1 : Below w.heap.size w w1 := Below.trans (by (repeat' (first | (with_reducible exact Below.refl _ _) | (with_reducible assumption) | (with_reducible refine Below.alloc ?_ ?_ _) | (with_reducible refine below_drewN ?_ _) | (with_reducible refine Below.drew ?_) | (with_reducible refine Below.setCell ?_ ?_ _) | go_size))) (hb1.mono (by first | omega | (simp; done) | (simp; omega))); have hz1 := hb1.size; try simp at hz1
      have hl1q : w.heap.size < w1.heap.size := (by omega); have hx1q0 : w1.cell? ⟨w.heap.size, 0, none⟩ = some (.int .i64 (x)) := (by rw [(hb1.cell (by first | omega | (simp; done) | (simp; omega)))]; (repeat (rw [World.cell?_alloc_lt _ _ _ (by first | omega | (simp; done) | (simp; omega))])); go_cell); have hx1q1 : w1.cell? ⟨w.heap.size, 1, none⟩ = some (.int .i64 (y)) := (by rw [(hb1.cell (by first | omega | (simp; done) | (simp; omega)))]; (repeat (rw [World.cell?_alloc_lt _ _ _ (by first | omega | (simp; done) | (simp; omega))])); go_cell)
      go_wp2_with fail
      refine (HI.out _).mono ?_
      rintro e w2 ⟨rfl, hb2⟩
      have hB2 : Below w.heap.size w w2 := hB1.trans (hb2.mono hB1.size)
      go_wp2_with fail
      go_returns
      exact ⟨ret_tup (by rw [E1.out, E2.out]; try rfl), hB2⟩
    | true =>
      obtain ⟨e1, e2⟩ := Geo.wh_yes hv hp
      have E1 := Lib.hid e1
      have E2 := Lib.hid e2
      have HI : Hid (∀ W, Calls Try.prog 46 #[.agg #[.int .i64 x, .int .i64 y]] W fun e w' => e = .returned (.bool true) ∧ Below W.heap.size W w') := fun W => (inReach_any x y W).mono (by rw [hp]; exact fun _ _ h => h)
      have HL : Hid (∀ W, Below w.heap.size w W → Calls Try.prog 47 #[.slice A ps.length c, .agg #[.int .i64 x, .int .i64 y]] W (LiesPost (Geo.refLies ps (x, y)) W)) := fun W hW => by
        have := lies_in 9 (by omega) A c ps hsm hlen x y (Geo.pt_sm hp) W (prs_keep hP hW)
        rw [lies_eq] at this
        exact (callsIn_wide (n := 9)).1 this
      generalize Geo.refLies ps (x, y) = V at *
      clear hP hlen hv e1 e2 hsm hp
      go_enter Try.func17, Try.ntmps17
      go_wp2_with fail
      refine (HC.out _ (by (repeat' (first | (with_reducible exact Below.refl _ _) | (with_reducible assumption) | (with_reducible refine Below.alloc ?_ ?_ _) | (with_reducible refine below_drewN ?_ _) | (with_reducible refine Below.drew ?_) | (with_reducible refine Below.setCell ?_ ?_ _) | go_size)))).mono ?_
      rintro e w1 ⟨rfl, hb1⟩
      have hB1 : Below w.heap.size w w1 := Below.trans (by (repeat' (first | (with_reducible exact Below.refl _ _) | (with_reducible assumption) | (with_reducible refine Below.alloc ?_ ?_ _) | (with_reducible refine below_drewN ?_ _) | (with_reducible refine Below.drew ?_) | (with_reducible refine Below.setCell ?_ ?_ _) | go_size))) (hb1.mono (by first | omega | (simp; done) | (simp; omega))); have hz1 := hb1.size; try simp at hz1
      have hl1q : w.heap.size < w1.heap.size := (by omega); have hx1q0 : w1.cell? ⟨w.heap.size, 0, none⟩ = some (.int .i64 (x)) := (by rw [(hb1.cell (by first | omega | (simp; done) | (simp; omega)))]; (repeat (rw [World.cell?_alloc_lt _ _ _ (by first | omega | (simp; done) | (simp; omega))])); go_cell); have hx1q1 : w1.cell? ⟨w.heap.size, 1, none⟩ = some (.int .i64 (y)) := (by rw [(hb1.cell (by first | omega | (simp; done) | (simp; omega)))]; (repeat (rw [World.cell?_alloc_lt _ _ _ (by first | omega | (simp; done) | (simp; omega))])); go_cell)
      go_wp2_with fail
      refine (HI.out _).mono ?_
      rintro e w2 ⟨rfl, hb2⟩
      have hB2 : Below w.heap.size w w2 := hB1.trans (hb2.mono hB1.size)
      have k0 := (hb2.cell (p := ⟨w.heap.size, 0, none⟩) hl1q).trans hx1q0
      have k1 := (hb2.cell (p := ⟨w.heap.size, 1, none⟩) hl1q).trans hx1q1
      go_wp2_with fail
      refine (HL.out _ hB2).mono ?_
      rintro e w3 ⟨rfl, hb3⟩
      have hB3 : Below w.heap.size w w3 := hB2.trans (hb3.mono hB2.size)
      go_wp2_with fail
      go_returns
      exact ⟨ret_tup (by rw [E1.out, E2.out]; try rfl), hB3⟩

set_option maxRecDepth 100000 in
set_option maxHeartbeats 1000000 in
theorem refWhere_any (A : Option Addr) (c : Nat) (ps : List Geo.Pt) (hlen : ps.length ≤ 100) (x y : Int) (w : World) (hP : Prs w w.heap.size A ps) :
    Calls Try.prog 35 #[.slice A ps.length c, .agg #[.int .i64 x, .int .i64 y]] w (WherePost (Geo.whV ps (x, y)) (Geo.whE ps (x, y)) w) := by
  have HC : Hid (∀ W, Below w.heap.size w W → Calls Try.prog 21 #[.slice A ps.length c] W (RefPost (Geo.errV ps) W)) := fun W hW => by rw [← Geo.refV_errV]; exact refchk_any A c ps hlen W (prs_keep hP hW)
  cases hv : Geo.validB ps with
  | false =>
    rw [Geo.errV_no hv] at HC
    obtain ⟨e1, e2⟩ := Geo.wh_no hv (x, y)
    have E1 := Lib.hid e1
    have E2 := Lib.hid e2
    clear hP hlen hv e1 e2
    go_enter Try.func35, Try.ntmps35
    go_wp2_with fail
    refine (HC.out _ (by (repeat' (first | (with_reducible exact Below.refl _ _) | (with_reducible assumption) | (with_reducible refine Below.alloc ?_ ?_ _) | (with_reducible refine below_drewN ?_ _) | (with_reducible refine Below.drew ?_) | (with_reducible refine Below.setCell ?_ ?_ _) | go_size)))).mono ?_
    rintro e w1 ⟨rfl, hb1⟩
    have hB1 : Below w.heap.size w w1 := Below.trans (by (repeat' (first | (with_reducible exact Below.refl _ _) | (with_reducible assumption) | (with_reducible refine Below.alloc ?_ ?_ _) | (with_reducible refine below_drewN ?_ _) | (with_reducible refine Below.drew ?_) | (with_reducible refine Below.setCell ?_ ?_ _) | go_size))) (hb1.mono (by first | omega | (simp; done) | (simp; omega))); have hz1 := hb1.size; try simp at hz1
    go_wp2_with fail
    go_returns
    exact ⟨ret_tup (by rw [E1.out, E2.out]; try rfl), hB1⟩
  | true =>
    rw [Geo.errV_yes hv] at HC
    have hsm := Geo.valid_sm hv
    cases hp : Geo.ptB (x, y) with
    | false =>
      obtain ⟨e1, e2⟩ := Geo.wh_arg hv hp
      have E1 := Lib.hid e1
      have E2 := Lib.hid e2
      have HI : Hid (∀ W, Calls Try.prog 20 #[.agg #[.int .i64 x, .int .i64 y]] W fun e w' => e = .returned (.bool false) ∧ Below W.heap.size W w') := fun W => (IsPoint_any x y W).mono (by rw [hp]; exact fun _ _ h => h)
      clear hP hlen hv e1 e2 hsm hp
      go_enter Try.func35, Try.ntmps35
      go_wp2_with fail
      refine (HC.out _ (by (repeat' (first | (with_reducible exact Below.refl _ _) | (with_reducible assumption) | (with_reducible refine Below.alloc ?_ ?_ _) | (with_reducible refine below_drewN ?_ _) | (with_reducible refine Below.drew ?_) | (with_reducible refine Below.setCell ?_ ?_ _) | go_size)))).mono ?_
      rintro e w1 ⟨rfl, hb1⟩
      have hB1 : Below w.heap.size w w1 := Below.trans (by (repeat' (first | (with_reducible exact Below.refl _ _) | (with_reducible assumption) | (with_reducible refine Below.alloc ?_ ?_ _) | (with_reducible refine below_drewN ?_ _) | (with_reducible refine Below.drew ?_) | (with_reducible refine Below.setCell ?_ ?_ _) | go_size))) (hb1.mono (by first | omega | (simp; done) | (simp; omega))); have hz1 := hb1.size; try simp at hz1
      have hl1q : w.heap.size < w1.heap.size := (by omega); have hx1q0 : w1.cell? ⟨w.heap.size, 0, none⟩ = some (.int .i64 (x)) := (by rw [(hb1.cell (by first | omega | (simp; done) | (simp; omega)))]; (repeat (rw [World.cell?_alloc_lt _ _ _ (by first | omega | (simp; done) | (simp; omega))])); go_cell); have hx1q1 : w1.cell? ⟨w.heap.size, 1, none⟩ = some (.int .i64 (y)) := (by rw [(hb1.cell (by first | omega | (simp; done) | (simp; omega)))]; (repeat (rw [World.cell?_alloc_lt _ _ _ (by first | omega | (simp; done) | (simp; omega))])); go_cell)
      go_wp2_with fail
      refine (HI.out _).mono ?_
      rintro e w2 ⟨rfl, hb2⟩
      have hB2 : Below w.heap.size w w2 := hB1.trans (hb2.mono hB1.size)
      go_wp2_with fail
      go_returns
      exact ⟨ret_tup (by rw [E1.out, E2.out]; try rfl), hB2⟩
    | true =>
      obtain ⟨e1, e2⟩ := Geo.wh_yes hv hp
      have E1 := Lib.hid e1
      have E2 := Lib.hid e2
      have HI : Hid (∀ W, Calls Try.prog 20 #[.agg #[.int .i64 x, .int .i64 y]] W fun e w' => e = .returned (.bool true) ∧ Below W.heap.size W w') := fun W => (IsPoint_any x y W).mono (by rw [hp]; exact fun _ _ h => h)
      have HL : Hid (∀ W, Below w.heap.size w W → Calls Try.prog 74 #[.slice A ps.length c, .agg #[.int .i64 x, .int .i64 y]] W (LiesPost (Geo.refLies ps (x, y)) W)) := fun W hW => refwhere_any A c ps hsm hlen x y (Geo.pt_sm hp) W (prs_keep hP hW)
      generalize Geo.refLies ps (x, y) = V at *
      clear hP hlen hv e1 e2 hsm hp
      go_enter Try.func35, Try.ntmps35
      go_wp2_with fail
      refine (HC.out _ (by (repeat' (first | (with_reducible exact Below.refl _ _) | (with_reducible assumption) | (with_reducible refine Below.alloc ?_ ?_ _) | (with_reducible refine below_drewN ?_ _) | (with_reducible refine Below.drew ?_) | (with_reducible refine Below.setCell ?_ ?_ _) | go_size)))).mono ?_
      rintro e w1 ⟨rfl, hb1⟩
      have hB1 : Below w.heap.size w w1 := Below.trans (by (repeat' (first | (with_reducible exact Below.refl _ _) | (with_reducible assumption) | (with_reducible refine Below.alloc ?_ ?_ _) | (with_reducible refine below_drewN ?_ _) | (with_reducible refine Below.drew ?_) | (with_reducible refine Below.setCell ?_ ?_ _) | go_size))) (hb1.mono (by first | omega | (simp; done) | (simp; omega))); have hz1 := hb1.size; try simp at hz1
      have hl1q : w.heap.size < w1.heap.size := (by omega); have hx1q0 : w1.cell? ⟨w.heap.size, 0, none⟩ = some (.int .i64 (x)) := (by rw [(hb1.cell (by first | omega | (simp; done) | (simp; omega)))]; (repeat (rw [World.cell?_alloc_lt _ _ _ (by first | omega | (simp; done) | (simp; omega))])); go_cell); have hx1q1 : w1.cell? ⟨w.heap.size, 1, none⟩ = some (.int .i64 (y)) := (by rw [(hb1.cell (by first | omega | (simp; done) | (simp; omega)))]; (repeat (rw [World.cell?_alloc_lt _ _ _ (by first | omega | (simp; done) | (simp; omega))])); go_cell)
      go_wp2_with fail
      refine (HI.out _).mono ?_
      rintro e w2 ⟨rfl, hb2⟩
      have hB2 : Below w.heap.size w w2 := hB1.trans (hb2.mono hB1.size)
      have k0 := (hb2.cell (p := ⟨w.heap.size, 0, none⟩) hl1q).trans hx1q0
      have k1 := (hb2.cell (p := ⟨w.heap.size, 1, none⟩) hl1q).trans hx1q1
      go_wp2_with fail
      refine (HL.out _ hB2).mono ?_
      rintro e w3 ⟨rfl, hb3⟩
      have hB3 : Below w.heap.size w w3 := hB2.trans (hb3.mono hB2.size)
      go_wp2_with fail
      go_returns
      exact ⟨ret_tup (by rw [E1.out, E2.out]; try rfl), hB3⟩

set_option maxRecDepth 100000 in
set_option maxHeartbeats 1000000 in
theorem refTwice_any (A : Option Addr) (c : Nat) (ps : List Geo.Pt) (hlen : ps.length ≤ 100) (w : World) (hP : Prs w w.heap.size A ps) :
    Calls Try.prog 34 #[.slice A ps.length c] w fun e w' => e = .returned (.tuple #[.int .i64 (Geo.whenV ps (Geo.tot Geo.fanV ps)), .int .i64 (Geo.errV ps)]) ∧ Below w.heap.size w w' := by
  have HC : Hid (Calls Try.prog 21 #[.slice A ps.length c] w (RefPost (Geo.errV ps) w)) := by unfold Hid; rw [← Geo.refV_errV]; exact refchk_any A c ps hlen w hP
  cases hv : Geo.validB ps with
  | false =>
    rw [Geo.errV_no hv] at HC
    have HV := Lib.hid hv
    clear hP hlen hv
    go_enter Try.func34, Try.ntmps34
    go_wp2_with fail
    refine HC.out.mono ?_
    rintro e w1 ⟨rfl, hb1⟩
    go_wp2_with fail
    go_returns
    exact ⟨ret_tup (by simp only [Geo.whenV_no HV.out, Geo.errV_no HV.out]; try rfl), hb1⟩
  | true =>
    rw [Geo.errV_yes hv] at HC
    have hsm := Geo.valid_sm hv
    have h3 := (Geo.valid_len hv).1
    have T0 : Hid (∀ W, Below w.heap.size w W → Calls Try.prog 73 #[.slice A ps.length c] W fun e w' => e = .returned (.int .i64 (Geo.tot Geo.fanV ps)) ∧ Below W.heap.size W w') := fun W hW => by
      rw [Geo.twice_eq ps (by omega)]
      exact TwiceOf_any A c ps hsm hlen (by omega) W (prs_keep hP hW)
    have HV := Lib.hid hv
    have HW := Lib.hid (Geo.whenV_yes hv (Geo.tot Geo.fanV ps))
    generalize Geo.tot Geo.fanV ps = V at *
    clear hP hlen hv hsm h3
    go_enter Try.func34, Try.ntmps34
    go_wp2_with fail
    refine HC.out.mono ?_
    rintro e w0 ⟨rfl, hB0⟩
    go_wp2_with fail
    refine (T0.out _ hB0).mono ?_
    rintro e w1 ⟨rfl, hb⟩
    have hB1 : Below w.heap.size w w1 := hB0.trans (hb.mono hB0.size)
    go_wp2_with fail
    go_returns
    exact ⟨ret_tup (by rw [HW.out, Geo.errV_yes HV.out]; try rfl), hB1⟩
end Go.Proofs.Ytkfnngcphcfbjaa
