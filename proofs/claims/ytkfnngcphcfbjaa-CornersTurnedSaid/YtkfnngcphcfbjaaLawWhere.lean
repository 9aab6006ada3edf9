/- Check, Twice and Where of package corners return for any corners and point what the specification returns, and leave the corners as they were. No condition beyond the statement's own: at most 40 corners are looked at. -/
import Derived.Test.YtkfnngcphcfbjaaWorks
import Derived.Test.YtkfnngcphcfbjaaFrame
import Derived.Test.YtkfnngcphcfbjaaRows
import Derived.Deep.Light
namespace Go.Proofs.Ytkfnngcphcfbjaa
open Go.ChangeShapes Go.WideShapes Go.ChangeAt Go.RowKit Go.Joins
section
variable {H : Type} {enc : TypeId × Value → H} {w : World} {base : Nat} {spare : Nat → Bool} {held : Bool} {r : Reach} {b0 : Nat} {v : Value} {d : DataW H} {p : List MemPlace}
set_option maxRecDepth 100000 in
theorem open_Point (hv : Value.okWide Try.prog w r b0 24 v) (h : DataW.Trod enc Try.prog w base spare held 24 v d p) : ∃ a b : Int, v = .agg #[.int .i64 a, .int .i64 b] := by
  obtain ⟨c0, c1, y0, y1, m, rfl, rfl, rfl, hy0, hy1⟩ := open_agg2 Try.underlying24 (by kernel_rfl) (by kernel_rfl : Try.prog.cellsOf 24 = 2) hv h
  obtain ⟨a, e0, rfl, wa⟩ := DataW.trod_int Try.underlying3 hy0
  obtain ⟨b, e1, rfl, wb⟩ := DataW.trod_int Try.underlying3 hy1
  simp at e0 e1
  subst e0 e1
  exact ⟨a, b, rfl⟩
end

set_option maxHeartbeats 400000 in
theorem Far_any (A : Option Addr) (c n : Nat) (w : World) (hn : n ≤ maxLen) :
    Calls Try.prog 26 #[.slice A n c] w fun e w' => e = .returned (.bool (decide (40 < n))) ∧ w = w' := by
  unfold maxLen at hn
  by_cases h : 40 < n
  · have h2 : (40 : Int) < (n : Int) := by omega
    have HD := Lib.hid (decide_eq_true h)
    go_enter Try.func26, Try.ntmps26
    go_wp2
    all_goals
      go_ret
      exact ⟨ret_b (by first | rfl | rw [HD.out]), rfl⟩
  · have h2 : ¬ (40 : Int) < (n : Int) := by omega
    have HD := Lib.hid (decide_eq_false h)
    go_enter Try.func26, Try.ntmps26
    go_wp2
    all_goals
      go_ret
      exact ⟨ret_b (by first | rfl | rw [HD.out]), rfl⟩

set_option maxRecDepth 100000 in
set_option maxHeartbeats 4000000 in
theorem lawWhere_walk (A : Option Addr) (c : Nat) (ps : List (Int × Int)) (x y : Int) (w : World) (hm : ps.length ≤ maxLen) (hg : Prs w w.heap.size A ps) :
    Calls Try.prog 10 #[.slice A ps.length c, .agg #[.int .i64 x, .int .i64 y]] w fun e w' => e = .returned (.bool true) ∧ Below w.heap.size w w' := by
  by_cases hl : 40 < ps.length
  · have HF : Hid (∀ W, Calls Try.prog 26 #[.slice A ps.length c] W fun e w' => e = .returned (.bool true) ∧ W = w') := fun W => (Far_any A c ps.length W hm).mono (by rw [decide_eq_true hl]; exact fun _ _ h => h)
    clear hg hl hm
    go_enter Try.func10, Try.ntmps10
    go_wp2_with fail
    refine (HF.out _).mono ?_
    rintro e w1 ⟨rfl, rfl⟩
    go_wp2_with fail
    refine (works_any _).mono ?_
    rintro r w1 ⟨rfl, hb1⟩
    have hB1 : Below w.heap.size w w1 := Below.trans (by (repeat' (first | (with_reducible exact Below.refl _ _) | (with_reducible assumption) | (with_reducible refine Below.alloc ?_ ?_ _) | (with_reducible refine below_drewN ?_ _) | (with_reducible refine Below.drew ?_) | (with_reducible refine Below.setCell ?_ ?_ _) | go_size))) (hb1.mono (by first | omega | (simp; done) | (simp; omega))); have hz1 := hb1.size; try simp at hz1
    go_wp2_with fail
    go_returns
    exact ⟨rfl, hB1⟩
  · have hl1 : ps.length ≤ 100 := by omega
    have HF : Hid (∀ W, Calls Try.prog 26 #[.slice A ps.length c] W fun e w' => e = .returned (.bool false) ∧ W = w') := fun W => (Far_any A c ps.length W hm).mono (by rw [decide_eq_false hl]; exact fun _ _ h => h)
    have HG := Lib.hid hg
    have HCo : Hid (∀ W, Prs W W.heap.size A ps → Calls Try.prog 32 #[.slice A ps.length c] W fun e W' => ∃ A2 c2, e = .returned (.slice A2 ps.length c2) ∧ Hid (Prs W' W'.heap.size A2 ps) ∧ Below W.heap.size W W') := fun W hP => (Copy_any A c ps (by omega) W hP).mono fun e W' ⟨A2, c2, h1, h2, h3⟩ => ⟨A2, c2, h1, h2, h3⟩
    have HK : Hid (∀ A c W, Prs W W.heap.size A ps → Calls Try.prog 33 #[.slice A ps.length c] W fun e W' => e = .returned (.int .i64 (Geo.errV ps)) ∧ Below W.heap.size W W') := fun A c W hP => Check_any A c ps hl1 W hP
    have HR : Hid (∀ A c W, Prs W W.heap.size A ps → Calls Try.prog 21 #[.slice A ps.length c] W fun e W' => e = .returned (.int .i64 (Geo.errV ps)) ∧ Below W.heap.size W W') := fun A c W hP => by rw [← Geo.refV_errV]; exact refchk_any A c ps hl1 W hP
    have HT : Hid (∀ A c W, Prs W W.heap.size A ps → Calls Try.prog 22 #[.slice A ps.length c] W fun e W' => e = .returned (.tuple #[.int .i64 (Geo.whenV ps (Geo.tot Geo.fanV ps)), .int .i64 (Geo.errV ps)]) ∧ Below W.heap.size W W') := fun A c W hP => Twice_any A c ps hl1 W hP
    have HU : Hid (∀ A c W, Prs W W.heap.size A ps → Calls Try.prog 34 #[.slice A ps.length c] W fun e W' => e = .returned (.tuple #[.int .i64 (Geo.whenV ps (Geo.tot Geo.fanV ps)), .int .i64 (Geo.errV ps)]) ∧ Below W.heap.size W W') := fun A c W hP => refTwice_any A c ps hl1 W hP
    have HW : Hid (∀ A c W, Prs W W.heap.size A ps → Calls Try.prog 17 #[.slice A ps.length c, .agg #[.int .i64 x, .int .i64 y]] W fun e W' => e = .returned (.tuple #[.int .i64 (Geo.whV ps (x, y)), .int .i64 (Geo.whE ps (x, y))]) ∧ Below W.heap.size W W') := fun A c W hP => Where_any A c ps hl1 x y W hP
    have HX : Hid (∀ A c W, Prs W W.heap.size A ps → Calls Try.prog 35 #[.slice A ps.length c, .agg #[.int .i64 x, .int .i64 y]] W fun e W' => e = .returned (.tuple #[.int .i64 (Geo.whV ps (x, y)), .int .i64 (Geo.whE ps (x, y))]) ∧ Below W.heap.size W W') := fun A c W hP => refWhere_any A c ps hl1 x y W hP
    have HS : Hid (∀ A A2 c c2 W, Prs W W.heap.size A ps → Prs W W.heap.size A2 ps → Calls Try.prog 36 #[.slice A ps.length c, .slice A2 ps.length c2] W fun e W' => e = .returned (.bool true) ∧ Below W.heap.size W W') := fun A A2 c c2 W hP hP2 => Same_yes A A2 c c2 ps hl1 W hP hP2
    generalize Geo.errV ps = E at *
    generalize Geo.whenV ps (Geo.tot Geo.fanV ps) = T at *
    generalize Geo.whV ps (x, y) = V at *
    generalize Geo.whE ps (x, y) = X at *
    clear hg hl hl1 hm
    generalize ps.length = n at *
    go_enter Try.func10, Try.ntmps10
    go_wp2_with fail
    refine (HF.out _).mono ?_
    rintro e w0 ⟨rfl, rfl⟩
    have hP0 : Hid (Prs (w.alloc (.cells #[.int .i64 x, .int .i64 y] 24)) (w.alloc (.cells #[.int .i64 x, .int .i64 y] 24)).heap.size A ps) := prs_keep HG.out ((Below.refl _ _).alloc (Nat.le_refl _) _)
    clear HG
    go_wp2_with fail
    refine (HCo.out _ hP0.out).mono ?_
    rintro e w1 ⟨A2, c2, rfl, hP1, hb1⟩
    have hQ1 := Lib.hid (prs_keep hP0.out hb1)
    have hB1 : Below w.heap.size w w1 := Below.trans (by (repeat' (first | (with_reducible exact Below.refl _ _) | (with_reducible assumption) | (with_reducible refine Below.alloc ?_ ?_ _) | (with_reducible refine below_drewN ?_ _) | (with_reducible refine Below.drew ?_) | (with_reducible refine Below.setCell ?_ ?_ _) | go_size))) (hb1.mono (by first | omega | (simp; done) | (simp; omega))); have hz1 := hb1.size; try simp at hz1
    have hl1q : w.heap.size < w1.heap.size := (by omega); have hx1q0 : w1.cell? ⟨w.heap.size, 0, none⟩ = some (.int .i64 (x)) := (by rw [(hb1.cell (by first | omega | (simp; done) | (simp; omega)))]; (repeat (rw [World.cell?_alloc_lt _ _ _ (by first | omega | (simp; done) | (simp; omega))])); go_cell); have hx1q1 : w1.cell? ⟨w.heap.size, 1, none⟩ = some (.int .i64 (y)) := (by rw [(hb1.cell (by first | omega | (simp; done) | (simp; omega)))]; (repeat (rw [World.cell?_alloc_lt _ _ _ (by first | omega | (simp; done) | (simp; omega))])); go_cell)
    clear hP0
    go_wp2_with fail
    refine (HK.out A2 c2 _ hP1.out).mono ?_
    rintro e w2 ⟨rfl, hb2⟩
    have hP2 := Lib.hid (prs_keep hP1.out hb2)
    have hQ2 := Lib.hid (prs_keep hQ1.out hb2)
    have hB2 : Below w.heap.size w w2 := hB1.trans (hb2.mono hB1.size)
    have hl2q : w.heap.size < w2.heap.size := Nat.lt_of_lt_of_le hl1q hb2.size
    have hx2q0 := (hb2.cell (p := ⟨w.heap.size, 0, none⟩) hl1q).trans hx1q0
    have hx2q1 := (hb2.cell (p := ⟨w.heap.size, 1, none⟩) hl1q).trans hx1q1
    clear hP1 hQ1 hb2 hx1q0 hx1q1
    go_wp2_with fail
    refine (HR.out A c _ hQ2.out).mono ?_
    rintro e w3 ⟨rfl, hb3⟩
    have hP3 := Lib.hid (prs_keep hP2.out hb3)
    have hQ3 := Lib.hid (prs_keep hQ2.out hb3)
    have hB3 : Below w.heap.size w w3 := hB2.trans (hb3.mono hB2.size)
    have hl3q : w.heap.size < w3.heap.size := Nat.lt_of_lt_of_le hl2q hb3.size
    have hx3q0 := (hb3.cell (p := ⟨w.heap.size, 0, none⟩) hl2q).trans hx2q0
    have hx3q1 := (hb3.cell (p := ⟨w.heap.size, 1, none⟩) hl2q).trans hx2q1
    clear hP2 hQ2 hb3 hx2q0 hx2q1
    go_wp2_with fail
    refine (HT.out A2 c2 _ hP3.out).mono ?_
    rintro e w4 ⟨rfl, hb4⟩
    have hP4 := Lib.hid (prs_keep hP3.out hb4)
    have hQ4 := Lib.hid (prs_keep hQ3.out hb4)
    have hB4 : Below w.heap.size w w4 := hB3.trans (hb4.mono hB3.size)
    have hl4q : w.heap.size < w4.heap.size := Nat.lt_of_lt_of_le hl3q hb4.size
    have hx4q0 := (hb4.cell (p := ⟨w.heap.size, 0, none⟩) hl3q).trans hx3q0
    have hx4q1 := (hb4.cell (p := ⟨w.heap.size, 1, none⟩) hl3q).trans hx3q1
    clear hP3 hQ3 hb4 hx3q0 hx3q1
    go_wp2_with fail
    refine (HU.out A c _ hQ4.out).mono ?_
    rintro e w5 ⟨rfl, hb5⟩
    have hP5 := Lib.hid (prs_keep hP4.out hb5)
    have hQ5 := Lib.hid (prs_keep hQ4.out hb5)
    have hB5 : Below w.heap.size w w5 := hB4.trans (hb5.mono hB4.size)
    have hl5q : w.heap.size < w5.heap.size := Nat.lt_of_lt_of_le hl4q hb5.size
    have hx5q0 := (hb5.cell (p := ⟨w.heap.size, 0, none⟩) hl4q).trans hx4q0
    have hx5q1 := (hb5.cell (p := ⟨w.heap.size, 1, none⟩) hl4q).trans hx4q1
    clear hP4 hQ4 hb5 hx4q0 hx4q1
    go_wp2_with fail
    refine (HW.out A2 c2 _ hP5.out).mono ?_
    rintro e w6 ⟨rfl, hb6⟩
    have hP6 := Lib.hid (prs_keep hP5.out hb6)
    have hQ6 := Lib.hid (prs_keep hQ5.out hb6)
    have hB6 : Below w.heap.size w w6 := hB5.trans (hb6.mono hB5.size)
    have hl6q : w.heap.size < w6.heap.size := Nat.lt_of_lt_of_le hl5q hb6.size
    have hx6q0 := (hb6.cell (p := ⟨w.heap.size, 0, none⟩) hl5q).trans hx5q0
    have hx6q1 := (hb6.cell (p := ⟨w.heap.size, 1, none⟩) hl5q).trans hx5q1
    clear hP5 hQ5 hb6 hx5q0 hx5q1
    go_wp2_with fail
    refine (HX.out A c _ hQ6.out).mono ?_
    rintro e w7 ⟨rfl, hb7⟩
    have hP7 := Lib.hid (prs_keep hP6.out hb7)
    have hQ7 := Lib.hid (prs_keep hQ6.out hb7)
    have hB7 : Below w.heap.size w w7 := hB6.trans (hb7.mono hB6.size)
    have hl7q : w.heap.size < w7.heap.size := Nat.lt_of_lt_of_le hl6q hb7.size
    have hx7q0 := (hb7.cell (p := ⟨w.heap.size, 0, none⟩) hl6q).trans hx6q0
    have hx7q1 := (hb7.cell (p := ⟨w.heap.size, 1, none⟩) hl6q).trans hx6q1
    clear hP6 hQ6 hb7 hx6q0 hx6q1
    go_wp2_with fail
    refine (HS.out A2 A c2 c _ hP7.out hQ7.out).mono ?_
    rintro e w8 ⟨rfl, hb8⟩
    have hB8 : Below w.heap.size w w8 := hB7.trans (hb8.mono hB7.size)
    clear hx7q0 hx7q1
    go_wp2_with fail
    refine (works_any _).mono ?_
    rintro e w9 ⟨rfl, hb9⟩
    have hB9 : Below w.heap.size w w9 := hB8.trans (hb9.mono hB8.size)
    go_wp2_with fail
    go_returns
    exact ⟨rfl, hB9⟩

open Go.ChangeShapes Go.WideShapes Go.ChangeAt Go.RowKit Go.Joins

set_option maxRecDepth 100000 in
theorem where_lifted (os : Os) (started : os.Started) (H : Type) (enc : TypeId × Value → H) :
    ReturnsInHanded {} Try.checked os 10 .any (Rows.cornersWhereSpec.pre6 enc Try.prog Try.f10 Rows.cornersWhereRow.domain false) (Rows.cornersWhereSpec.post enc Try.prog Try.f10 false true false false) := by
  refine returnsInHanded_of_change (C := Try.checked) own started (by kernel_rfl) Try.func10
    (ChangeSpec.witness6 (enc := enc) (C := Try.checked) false ⟨#[], #[.slice none 0 0, .agg #[.int .i64 0, .int .i64 0]], []⟩ 8 (by kernel_rfl) (by kernel_rfl) (by kernel_rfl) (by kernel_rfl)) ?_
  intro W base args ds gs before hval0 hW hcnd _
  have hval : ∀ (j : Nat) t v, Try.f10.params[j]? = some t → args[j]? = some v → Value.okWide Try.prog W .any base t v := hval0
  have hW' := hW
  obtain ⟨p, q, hA0, hV, rfl, hfz, hnd⟩ := hW
  have hA : DataW.TrodAll enc Try.prog W 0 (fun _ => true) true Try.f10.params.toList args.toList ds p := hA0
  rw [Try.params10] at hA hval
  obtain ⟨v0, v1, d0, d1, p0, p1, rfl, rfl, rfl, h0, h1⟩ := trodAll_two hA
  obtain ⟨rfl, rfl⟩ := trodVars_none hV
  obtain ⟨A, c, ps, rfl, hg_ps, hl_ps⟩ := open_prs Try.underlying22 Try.underlying24 (by kernel_rfl) (by kernel_rfl) (by kernel_rfl) (by kernel_rfl) (by kernel_rfl) Try.underlying3 Try.underlying3 (hval 0 22 v0 rfl rfl) h0
  obtain ⟨x, y, rfl⟩ := open_Point (hval 1 24 v1 rfl rfl) h1
  refine (lawWhere_walk A c ps x y W hl_ps hg_ps).mono fun e W' ⟨he, hb⟩ => ?_
  subst he
  exact ⟨_, rfl, law_post hW' rfl rfl (by intro t ht; have : t = 22 ∨ t = 24 := (by rw [Try.params10] at ht; simpa using ht); rcases this with rfl | rfl <;> exact ⟨by kernel_rfl, of_decide_eq_true (by kernel_rfl)⟩) rfl rfl rfl hb⟩

theorem where_holds : Rows.CornersWhereSaid :=
  OpenClaim.holds_of_wide 10 Try.f10 rfl rfl rfl rfl rfl rfl rfl ⟨rfl, rfl, rfl, rfl, rfl⟩ rfl rfl rfl rfl rfl (by kernel_rfl) Try.func10 (by kernel_rfl)
    (of_decide_eq_true (by kernel_rfl)) (by unfold Func.isWrapper; rw [if_neg (of_decide_eq_false (by kernel_rfl))]; exact ⟨rfl, rfl⟩)
    (fun os started H enc _ => where_lifted os started H enc)
end Go.Proofs.Ytkfnngcphcfbjaa
