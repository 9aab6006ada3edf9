/- The row of ArmsGlances: a vernier, glances and one more opened, and the walk handed to the law. -/
import Derived.Test.YtfjcmmdfipppoaaGlanWalk
import Derived.Test.YtfjcmmdfipppoaaPairsO
import Derived.Test.YtfjcmmdfipppoaaGlanB
import Derived.Test.YtfjcmmdfipppoaaFrame2
namespace Go.Proofs.Ytfjcmmdfipppoaa
open Go.ChangeShapes Go.WideShapes Go.ChangeAt Go.RowKit Go.Joins
section
variable {H : Type} {enc : TypeId × Value → H} {w : World} {base : Nat} {spare : Nat → Bool} {held : Bool} {r : Reach} {b0 : Nat} {v : Value} {d : DataW H} {p : List MemPlace}
set_option maxRecDepth 100000 in
theorem open_Vernier (hv : Value.okWide Try.prog w r b0 45 v) (h : DataW.Trod enc Try.prog w base spare held 45 v d p) : ∃ a b : Int, v = .agg #[.int .i64 a, .int .i64 b] := by
  obtain ⟨c0, c1, y0, y1, m, rfl, rfl, rfl, hy0, hy1⟩ := open_agg2 Try.underlying45 (by kernel_rfl) (by kernel_rfl : Try.prog.cellsOf 45 = 2) hv h
  obtain ⟨a, e0, rfl, wa⟩ := DataW.trod_int Try.underlying3 hy0
  obtain ⟨b, e1, rfl, wb⟩ := DataW.trod_int Try.underlying3 hy1
  simp at e0 e1
  subst e0 e1
  exact ⟨a, b, rfl⟩
end

theorem cells_glance : Try.prog.cellsOf 53 = 2 := by kernel_rfl
section
variable {H : Type} {enc : TypeId × Value → H} {w : World} {base : Nat} {spare : Nat → Bool} {held : Bool} {r : Reach} {b0 : Nat} {v : Value} {d : DataW H} {p : List MemPlace}
set_option maxRecDepth 100000 in
theorem trod_glance_cells {n : Nat} {c0 c1 : Value} {x : DataW H × List MemPlace} (h : DataW.trod enc Try.prog w base spare held n 53 [c0, c1] = some x) : ∃ a b : Int, c0 = .int .i64 a ∧ c1 = .int .i64 b := by
  obtain ⟨y0, y1, m, hx, _, h0, h1⟩ := trod_struct2 Try.underlying53 h
  obtain ⟨a, e0, rfl, wa⟩ := DataW.trod_int Try.underlying3 (by simpa using h0)
  obtain ⟨b, e1, rfl, wb⟩ := DataW.trod_int Try.underlying3 (by simpa using h1)
  rw [cells_int] at e0 e1
  exact ⟨a, b, by simpa using e0, by simpa using e1⟩
set_option maxRecDepth 100000 in
theorem open_One (hv : Value.okWide Try.prog w r b0 74 v) (h : DataW.Trod enc Try.prog w base spare held 74 v d p) :
    ∃ a b c : Int, v = .agg #[.int .i64 a, .int .i64 b, .int .i64 c] := by
  obtain ⟨cs, rfl, hsz⟩ := okWide_struct Try.underlying74 hv
  obtain ⟨l⟩ := cs
  match l, hsz.trans (by kernel_rfl : Try.prog.cellsOf 74 = 3) with
  | [c0, c1, c2], _ =>
    obtain ⟨fuel, hf⟩ := h
    obtain ⟨xs, n, _, hx, _, hlen, hg⟩ := DataW.trod_struct Try.underlying74 hf
    match xs, hlen with
    | [y0, y1], _ =>
      have g0 := hg 0 _ rfl
      have g1 := hg 1 _ rfl
      simp [Value.cells, cells_int, cells_glance] at g0 g1
      obtain ⟨a, b, rfl, rfl⟩ := trod_glance_cells g0
      obtain ⟨c, e2, rfl, _⟩ := DataW.trod_int Try.underlying3 g1
      simp at e2
      subst e2
      exact ⟨a, b, c, rfl⟩
end
set_option maxRecDepth 100000 in
set_option maxHeartbeats 4000000 in
theorem lawGlances_walk (p s : Int) (A : Option Addr) (c : Nat) (gs : List (Int × Int)) (m l st : Int) (w : World) (hm : gs.length ≤ maxLen) (hg : Prs w w.heap.size A gs) :
    Calls Try.prog 12 #[.agg #[.int .i64 p, .int .i64 s], .slice A gs.length c, .agg #[.int .i64 m, .int .i64 l, .int .i64 st]] w fun e w' => e = .returned (.bool true) ∧ Below w.heap.size w w' := by
  have HG := Lib.hid (gls_prs.2 hg)
  by_cases hv : Ver.vP p s
  · have HV := Lib.hid hv
    have e1 := Lib.hid (Ver.vB_true.2 hv)
    by_cases hgs : Ver.glsP p gs
    · by_cases hst : 0 ≤ st ∧ st ≤ 10000
      · exact lawGlances_valid p s A c gs m l st w hv hgs hst HG.out
      · have e2 := Lib.hid (Ver.glsB_true.2 hgs)
        have hl : gs.length ≤ 1000000000 := by have := hgs.1.2; omega
        clear hv hgs hg hm
        go_enter Try.func12, Try.ntmps12
        go_wp2_with fail
        refine (IsVernier_any p s _).mono ?_
        rintro e w1 ⟨rfl, hb1⟩
        have hB1 : Below w.heap.size w w1 := Below.trans (by (repeat' (first | (with_reducible exact Below.refl _ _) | (with_reducible assumption) | (with_reducible refine Below.alloc ?_ ?_ _) | (with_reducible refine below_drewN ?_ _) | (with_reducible refine Below.drew ?_) | (with_reducible refine Below.setCell ?_ ?_ _) | go_size))) (hb1.mono (by first | omega | (simp; done) | (simp; omega))); have hz1 := hb1.size; try simp at hz1
        have hl1v : w.heap.size < w1.heap.size := (by omega); have hx1v0 : w1.cell? ⟨w.heap.size, 0, none⟩ = some (.int .i64 (p)) := (by rw [(hb1.cell (by first | omega | (simp; done) | (simp; omega)))]; (repeat (rw [World.cell?_alloc_lt _ _ _ (by first | omega | (simp; done) | (simp; omega))])); go_cell); have hx1v1 : w1.cell? ⟨w.heap.size, 1, none⟩ = some (.int .i64 (s)) := (by rw [(hb1.cell (by first | omega | (simp; done) | (simp; omega)))]; (repeat (rw [World.cell?_alloc_lt _ _ _ (by first | omega | (simp; done) | (simp; omega))])); go_cell)
        have hl1o : w.heap.size + 1 < w1.heap.size := (by omega); have hx1o0 : w1.cell? ⟨w.heap.size + 1, 0, none⟩ = some (.int .i64 (m)) := (by rw [(hb1.cell (by first | omega | (simp; done) | (simp; omega)))]; (repeat (rw [World.cell?_alloc_lt _ _ _ (by first | omega | (simp; done) | (simp; omega))])); go_cell); have hx1o1 : w1.cell? ⟨w.heap.size + 1, 1, none⟩ = some (.int .i64 (l)) := (by rw [(hb1.cell (by first | omega | (simp; done) | (simp; omega)))]; (repeat (rw [World.cell?_alloc_lt _ _ _ (by first | omega | (simp; done) | (simp; omega))])); go_cell); have hx1o2 : w1.cell? ⟨w.heap.size + 1, 2, none⟩ = some (.int .i64 (st)) := (by rw [(hb1.cell (by first | omega | (simp; done) | (simp; omega)))]; (repeat (rw [World.cell?_alloc_lt _ _ _ (by first | omega | (simp; done) | (simp; omega))])); go_cell)
        rw [e1.out]
        go_wp2_with fail
        refine (AreGlances_any p s A c gs _ HV.out hl (gls_keep HG.out hB1)).mono ?_
        rintro e w2 ⟨rfl, hb2⟩
        have hB2 : Below w.heap.size w w2 := Below.trans (by (repeat' (first | (with_reducible exact Below.refl _ _) | (with_reducible assumption) | (with_reducible refine Below.alloc ?_ ?_ _) | (with_reducible refine below_drewN ?_ _) | (with_reducible refine Below.drew ?_) | (with_reducible refine Below.setCell ?_ ?_ _) | go_size))) (hb2.mono (by first | omega | (simp; done) | (simp; omega))); have hz2 := hb2.size; try simp at hz2
        have hl2o : w.heap.size + 1 < w2.heap.size := (by omega); have hx2o0 : w2.cell? ⟨w.heap.size + 1, 0, none⟩ = some (.int .i64 (m)) := (by rw [(hb2.cell (by first | omega | (simp; done) | (simp; omega)))]; (repeat (rw [World.cell?_alloc_lt _ _ _ (by first | omega | (simp; done) | (simp; omega))])); go_cell); have hx2o1 : w2.cell? ⟨w.heap.size + 1, 1, none⟩ = some (.int .i64 (l)) := (by rw [(hb2.cell (by first | omega | (simp; done) | (simp; omega)))]; (repeat (rw [World.cell?_alloc_lt _ _ _ (by first | omega | (simp; done) | (simp; omega))])); go_cell); have hx2o2 : w2.cell? ⟨w.heap.size + 1, 2, none⟩ = some (.int .i64 (st)) := (by rw [(hb2.cell (by first | omega | (simp; done) | (simp; omega)))]; (repeat (rw [World.cell?_alloc_lt _ _ _ (by first | omega | (simp; done) | (simp; omega))])); go_cell)
        rw [e2.out]
        go_wp2_with fail
        refine (Within_no hst _).mono ?_
        rintro e w9 ⟨rfl, rfl⟩
        go_wp2_with fail
        refine (works_any _).mono ?_
        rintro r w8 ⟨rfl, hb8⟩
        have hB8 : Below w.heap.size w w8 := Below.trans (by (repeat' (first | (with_reducible exact Below.refl _ _) | (with_reducible assumption) | (with_reducible refine Below.alloc ?_ ?_ _) | (with_reducible refine below_drewN ?_ _) | (with_reducible refine Below.drew ?_) | (with_reducible refine Below.setCell ?_ ?_ _) | go_size))) (hb8.mono (by first | omega | (simp; done) | (simp; omega))); have hz8 := hb8.size; try simp at hz8
        go_wp2_with fail
        go_returns
        exact ⟨rfl, hB8⟩
    · have e2 : Hid (Ver.glsB p gs = false) := by
        cases hb : Ver.glsB p gs
        · rfl
        · exact absurd (Ver.glsB_true.1 hb) hgs
      clear hv hgs hg
      unfold maxLen at hm
      go_enter Try.func12, Try.ntmps12
      go_wp2_with fail
      refine (IsVernier_any p s _).mono ?_
      rintro e w1 ⟨rfl, hb1⟩
      have hB1 : Below w.heap.size w w1 := Below.trans (by (repeat' (first | (with_reducible exact Below.refl _ _) | (with_reducible assumption) | (with_reducible refine Below.alloc ?_ ?_ _) | (with_reducible refine below_drewN ?_ _) | (with_reducible refine Below.drew ?_) | (with_reducible refine Below.setCell ?_ ?_ _) | go_size))) (hb1.mono (by first | omega | (simp; done) | (simp; omega))); have hz1 := hb1.size; try simp at hz1
      have hl1v : w.heap.size < w1.heap.size := (by omega); have hx1v0 : w1.cell? ⟨w.heap.size, 0, none⟩ = some (.int .i64 (p)) := (by rw [(hb1.cell (by first | omega | (simp; done) | (simp; omega)))]; (repeat (rw [World.cell?_alloc_lt _ _ _ (by first | omega | (simp; done) | (simp; omega))])); go_cell); have hx1v1 : w1.cell? ⟨w.heap.size, 1, none⟩ = some (.int .i64 (s)) := (by rw [(hb1.cell (by first | omega | (simp; done) | (simp; omega)))]; (repeat (rw [World.cell?_alloc_lt _ _ _ (by first | omega | (simp; done) | (simp; omega))])); go_cell)
      have hl1o : w.heap.size + 1 < w1.heap.size := (by omega); have hx1o0 : w1.cell? ⟨w.heap.size + 1, 0, none⟩ = some (.int .i64 (m)) := (by rw [(hb1.cell (by first | omega | (simp; done) | (simp; omega)))]; (repeat (rw [World.cell?_alloc_lt _ _ _ (by first | omega | (simp; done) | (simp; omega))])); go_cell); have hx1o1 : w1.cell? ⟨w.heap.size + 1, 1, none⟩ = some (.int .i64 (l)) := (by rw [(hb1.cell (by first | omega | (simp; done) | (simp; omega)))]; (repeat (rw [World.cell?_alloc_lt _ _ _ (by first | omega | (simp; done) | (simp; omega))])); go_cell); have hx1o2 : w1.cell? ⟨w.heap.size + 1, 2, none⟩ = some (.int .i64 (st)) := (by rw [(hb1.cell (by first | omega | (simp; done) | (simp; omega)))]; (repeat (rw [World.cell?_alloc_lt _ _ _ (by first | omega | (simp; done) | (simp; omega))])); go_cell)
      rw [e1.out]
      go_wp2_with fail
      refine (AreGlances_big p s A c gs _ HV.out hm (gls_keep HG.out hB1)).mono ?_
      rintro e w2 ⟨rfl, hb2⟩
      have hB2 : Below w.heap.size w w2 := Below.trans (by (repeat' (first | (with_reducible exact Below.refl _ _) | (with_reducible assumption) | (with_reducible refine Below.alloc ?_ ?_ _) | (with_reducible refine below_drewN ?_ _) | (with_reducible refine Below.drew ?_) | (with_reducible refine Below.setCell ?_ ?_ _) | go_size))) (hb2.mono (by first | omega | (simp; done) | (simp; omega))); have hz2 := hb2.size; try simp at hz2
      have hl2o : w.heap.size + 1 < w2.heap.size := (by omega); have hx2o0 : w2.cell? ⟨w.heap.size + 1, 0, none⟩ = some (.int .i64 (m)) := (by rw [(hb2.cell (by first | omega | (simp; done) | (simp; omega)))]; (repeat (rw [World.cell?_alloc_lt _ _ _ (by first | omega | (simp; done) | (simp; omega))])); go_cell); have hx2o1 : w2.cell? ⟨w.heap.size + 1, 1, none⟩ = some (.int .i64 (l)) := (by rw [(hb2.cell (by first | omega | (simp; done) | (simp; omega)))]; (repeat (rw [World.cell?_alloc_lt _ _ _ (by first | omega | (simp; done) | (simp; omega))])); go_cell); have hx2o2 : w2.cell? ⟨w.heap.size + 1, 2, none⟩ = some (.int .i64 (st)) := (by rw [(hb2.cell (by first | omega | (simp; done) | (simp; omega)))]; (repeat (rw [World.cell?_alloc_lt _ _ _ (by first | omega | (simp; done) | (simp; omega))])); go_cell)
      rw [e2.out]
      go_wp2_with fail
      refine (works_any _).mono ?_
      rintro r w8 ⟨rfl, hb8⟩
      have hB8 : Below w.heap.size w w8 := Below.trans (by (repeat' (first | (with_reducible exact Below.refl _ _) | (with_reducible assumption) | (with_reducible refine Below.alloc ?_ ?_ _) | (with_reducible refine below_drewN ?_ _) | (with_reducible refine Below.drew ?_) | (with_reducible refine Below.setCell ?_ ?_ _) | go_size))) (hb8.mono (by first | omega | (simp; done) | (simp; omega))); have hz8 := hb8.size; try simp at hz8
      go_wp2_with fail
      go_returns
      exact ⟨rfl, hB8⟩
  · have e1 := Lib.hid (Ver.vB_false.2 hv)
    clear hv hg hm HG
    go_enter Try.func12, Try.ntmps12
    go_wp2_with fail
    refine (IsVernier_any p s _).mono ?_
    rintro e w1 ⟨rfl, hb1⟩
    have hB1 : Below w.heap.size w w1 := Below.trans (by (repeat' (first | (with_reducible exact Below.refl _ _) | (with_reducible assumption) | (with_reducible refine Below.alloc ?_ ?_ _) | (with_reducible refine below_drewN ?_ _) | (with_reducible refine Below.drew ?_) | (with_reducible refine Below.setCell ?_ ?_ _) | go_size))) (hb1.mono (by first | omega | (simp; done) | (simp; omega))); have hz1 := hb1.size; try simp at hz1
    have hl1v : w.heap.size < w1.heap.size := (by omega); have hx1v0 : w1.cell? ⟨w.heap.size, 0, none⟩ = some (.int .i64 (p)) := (by rw [(hb1.cell (by first | omega | (simp; done) | (simp; omega)))]; (repeat (rw [World.cell?_alloc_lt _ _ _ (by first | omega | (simp; done) | (simp; omega))])); go_cell); have hx1v1 : w1.cell? ⟨w.heap.size, 1, none⟩ = some (.int .i64 (s)) := (by rw [(hb1.cell (by first | omega | (simp; done) | (simp; omega)))]; (repeat (rw [World.cell?_alloc_lt _ _ _ (by first | omega | (simp; done) | (simp; omega))])); go_cell)
    have hl1o : w.heap.size + 1 < w1.heap.size := (by omega); have hx1o0 : w1.cell? ⟨w.heap.size + 1, 0, none⟩ = some (.int .i64 (m)) := (by rw [(hb1.cell (by first | omega | (simp; done) | (simp; omega)))]; (repeat (rw [World.cell?_alloc_lt _ _ _ (by first | omega | (simp; done) | (simp; omega))])); go_cell); have hx1o1 : w1.cell? ⟨w.heap.size + 1, 1, none⟩ = some (.int .i64 (l)) := (by rw [(hb1.cell (by first | omega | (simp; done) | (simp; omega)))]; (repeat (rw [World.cell?_alloc_lt _ _ _ (by first | omega | (simp; done) | (simp; omega))])); go_cell); have hx1o2 : w1.cell? ⟨w.heap.size + 1, 2, none⟩ = some (.int .i64 (st)) := (by rw [(hb1.cell (by first | omega | (simp; done) | (simp; omega)))]; (repeat (rw [World.cell?_alloc_lt _ _ _ (by first | omega | (simp; done) | (simp; omega))])); go_cell)
    rw [e1.out]
    go_wp2_with fail
    refine (works_any _).mono ?_
    rintro r w8 ⟨rfl, hb8⟩
    have hB8 : Below w.heap.size w w8 := Below.trans (by (repeat' (first | (with_reducible exact Below.refl _ _) | (with_reducible assumption) | (with_reducible refine Below.alloc ?_ ?_ _) | (with_reducible refine below_drewN ?_ _) | (with_reducible refine Below.drew ?_) | (with_reducible refine Below.setCell ?_ ?_ _) | go_size))) (hb8.mono (by first | omega | (simp; done) | (simp; omega))); have hz8 := hb8.size; try simp at hz8
    go_wp2_with fail
    go_returns
    exact ⟨rfl, hB8⟩

open Go.ChangeShapes Go.WideShapes Go.ChangeAt Go.RowKit Go.Joins

set_option maxRecDepth 100000 in
theorem glances_lifted (os : Os) (started : os.Started) (H : Type) (enc : TypeId × Value → H) :
    ReturnsInHanded {} Try.checked os 12 .any (Rows.armsGlancesSpec.pre6 enc Try.prog Try.f12 Rows.armsGlancesRow.domain false) (Rows.armsGlancesSpec.post enc Try.prog Try.f12 false true false false) := by
  refine returnsInHanded_of_change (C := Try.checked) own started (by kernel_rfl) Try.func12
    (ChangeSpec.witness6 (enc := enc) (C := Try.checked) false ⟨#[], #[.agg #[.int .i64 0, .int .i64 0], .slice none 0 0, .agg #[.int .i64 0, .int .i64 0, .int .i64 0]], []⟩ 8 (by kernel_rfl) (by kernel_rfl) (by kernel_rfl) (by kernel_rfl)) ?_
  intro W base args ds gs before hval0 hW hcnd _
  have hval : ∀ (j : Nat) t v, Try.f12.params[j]? = some t → args[j]? = some v → Value.okWide Try.prog W .any base t v := hval0
  have hW' := hW
  obtain ⟨p, q, hA0, hV, rfl, hfz, hnd⟩ := hW
  have hA : DataW.TrodAll enc Try.prog W 0 (fun _ => true) true Try.f12.params.toList args.toList ds p := hA0
  rw [Try.params12] at hA hval
  obtain ⟨v0, v1, v2, d0, d1, d2, p0, p1, p2, rfl, rfl, rfl, h0, h1, h2⟩ := trodAll_three hA
  obtain ⟨rfl, rfl⟩ := trodVars_none hV
  obtain ⟨p, s, rfl⟩ := open_Vernier (hval 0 45 v0 rfl rfl) h0
  obtain ⟨A, c, gs, rfl, hg_gs, hl_gs⟩ := open_prs Try.underlying46 Try.underlying53 (by kernel_rfl) (by kernel_rfl) (by kernel_rfl) (by kernel_rfl) (by kernel_rfl) Try.underlying3 Try.underlying3 (hval 1 46 v1 rfl rfl) h1
  obtain ⟨m, l, st, rfl⟩ := open_One (hval 2 74 v2 rfl rfl) h2
  refine (lawGlances_walk p s A c gs m l st W hl_gs hg_gs).mono fun e W' ⟨he, hb⟩ => ?_
  subst he
  exact ⟨_, rfl, law_post hW' rfl rfl (by intro t ht; have : t = 45 ∨ t = 46 ∨ t = 74 := (by rw [Try.params12] at ht; simpa using ht); rcases this with rfl | rfl | rfl <;> exact ⟨by kernel_rfl, of_decide_eq_true (by kernel_rfl)⟩) rfl rfl rfl hb⟩

theorem glances_holds : Rows.ArmsGlancesSaid :=
  OpenClaim.holds_of_wide 12 Try.f12 rfl rfl rfl rfl rfl rfl rfl ⟨rfl, rfl, rfl, rfl, rfl⟩ rfl rfl rfl rfl rfl (by kernel_rfl) Try.func12 (by kernel_rfl)
    (of_decide_eq_true (by kernel_rfl)) (by unfold Func.isWrapper; rw [if_neg (of_decide_eq_false (by kernel_rfl))]; exact ⟨rfl, rfl⟩)
    (fun os started H enc _ => glances_lifted os started H enc)
end Go.Proofs.Ytfjcmmdfipppoaa
