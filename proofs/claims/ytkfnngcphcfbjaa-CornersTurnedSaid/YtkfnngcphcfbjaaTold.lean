/- What the statements that do not compare share: ready, sane, told. -/
import Derived.Test.YtkfnngcphcfbjaaCentre
import Derived.Test.YtkfnngcphcfbjaaLawWhere
import Derived.Test.YtkfnngcphcfbjaaStore
import Derived.Test.YtkfnngcphcfbjaaArea
namespace Go.Proofs.Ytkfnngcphcfbjaa
open Go.RowKit

set_option maxHeartbeats 1000000 in
theorem ready_any (A : Option Addr) (c : Nat) (ps : List Geo.Pt) (hm : ps.length ≤ maxLen) (w : World) (hP : Prs w w.heap.size A ps) :
    Calls Try.prog 14 #[.slice A ps.length c] w fun e w' => e = .returned (.bool (Geo.validB ps)) ∧ Below w.heap.size w w' := by
  have HF : Hid (∀ W, Calls Try.prog 26 #[.slice A ps.length c] W fun e w' => e = .returned (.bool (decide (40 < ps.length))) ∧ W = w') := fun W => Far_any A c ps.length W hm
  by_cases hl : 40 < ps.length
  · have hv : Hid (Geo.validB ps = false) := by
      cases h : Geo.validB ps with
      | false => rfl
      | true => have := Geo.valid_len h; omega
    rw [decide_eq_true hl] at HF
    clear hP hm hl
    go_enter Try.func14, Try.ntmps14
    go_wp2_with fail
    refine (HF.out _).mono ?_
    rintro e w1 ⟨rfl, rfl⟩
    go_wp2_with fail
    go_returns
    exact ⟨ret_b hv.out.symm, Below.refl _ _⟩
  · rw [decide_eq_false hl] at HF
    have HC : Hid (Calls Try.prog 21 #[.slice A ps.length c] w (RefPost (Geo.errV ps) w)) := by unfold Hid; rw [← Geo.refV_errV]; exact refchk_any A c ps (by omega) w hP
    cases hv : Geo.validB ps with
    | false =>
      rw [Geo.errV_no hv] at HC
      clear hP hm hl hv
      go_enter Try.func14, Try.ntmps14
      go_wp2_with fail
      refine (HF.out _).mono ?_
      rintro e w1 ⟨rfl, rfl⟩
      go_wp2_with fail
      refine HC.out.mono ?_
      rintro e w1 ⟨rfl, hb1⟩
      go_wp2_with fail
      go_returns
      exact ⟨rfl, hb1⟩
    | true =>
      rw [Geo.errV_yes hv] at HC
      clear hP hm hl hv
      go_enter Try.func14, Try.ntmps14
      go_wp2_with fail
      refine (HF.out _).mono ?_
      rintro e w1 ⟨rfl, rfl⟩
      go_wp2_with fail
      refine HC.out.mono ?_
      rintro e w1 ⟨rfl, hb1⟩
      go_wp2_with fail
      go_returns
      exact ⟨rfl, hb1⟩

set_option maxRecDepth 100000 in
set_option maxHeartbeats 1000000 in
theorem sane_yes (g c n : Nat) (xs : List Int) (hn : n = xs.length) (hl : xs.length ≤ 100) (w : World) (hg : g < w.heap.size) (hc : ∀ k x, xs[k]? = some x → w.cell? ⟨g, k, none⟩ = some (.int .i64 x)) (hb : ∀ x ∈ xs, -1125899906842624 ≤ x ∧ x ≤ 1125899906842624) :
    Calls Try.prog 23 #[.slice (some ⟨g, 0, none⟩) n c] w fun e w' => e = .returned (.bool true) ∧ Below w.heap.size w w' := by
  have HC := Lib.hid hc
  have HB := Lib.hid hb
  have hnl : (n : Int) ≤ 100 := by omega
  have HN := Lib.hid hn
  clear hc hb hl hn
  go_enter Try.func23, Try.ntmps23
  go_wp2_with fail
  go_loopw [3] (fun x wr => ∃ k : Nat, (k : Int) ≤ n ∧ x = .int .i64 k ∧ Below w.heap.size w wr) (fun x _ => (n - intOf x).toNat)
  case atStart => exact ⟨0, by omega, rfl, Below.refl _ _⟩
  case round =>
    obtain ⟨k, hk, rfl, hB⟩ := hrel
    have hk0 := Int.natCast_nonneg k
    by_cases hlt : (k : Int) < n
    · have hkl : k < n := by omega
      have hkx : k < xs.length := by have := HN.out; omega
      have hx : xs[k]? = some xs[k] := List.getElem?_eq_getElem hkx
      obtain ⟨b1, b2⟩ := HB.out _ (List.getElem_mem hkx)
      have d0 := (hB.cell (p := ⟨g, k, none⟩) hg).trans (HC.out k _ hx)
      clear hx
      generalize xs[k] = v at *
      have t1 : ¬ v < -1125899906842624 := by omega
      have t2 : ¬ 1125899906842624 < v := by omega
      go_wp2_with fail
      go_roundw
      case rel => exact ⟨k + 1, by omega, by go_num, hB⟩
      case measure => simp [intOf]; omega
    · go_wp2_with fail
      go_returns
      exact ⟨rfl, hB⟩

theorem BoxS.put {W : World} {B : Nat} {t : TypeId} {vs : Array Value} (h : BoxS W B t vs) (i : Nat) (v : Value) : BoxS (W.setCell ⟨B, i, none⟩ v) B t (vs.setIfInBounds i v) := by
  obtain ⟨hlt, hk⟩ := Array.getElem?_eq_some_iff.1 h
  show (W.heap.modify B _)[B]? = _
  rw [Array.getElem?_eq_getElem (by rw [Array.size_modify]; exact hlt), Array.getElem_modify_self, hk]
  rfl
-- GEN
namespace Geo
def toldA (ps : List Pt) : Array Value := #[.int .i64 (Geo.tot Geo.fanV ps), .int .i64 (Geo.tot Geo.fxV ps), .int .i64 (Geo.tot Geo.fyV ps), .int .i64 (Geo.tot Geo.xxV ps), .int .i64 (Geo.tot Geo.xyV ps), .int .i64 (Geo.tot Geo.yyV ps), .int .i64 (Geo.cenN Geo.fxV ps), .int .i64 (Geo.cenD Geo.fxV ps), .int .i64 (Geo.cenN Geo.fyV ps), .int .i64 (Geo.cenD Geo.fyV ps)]
theorem big_bd {t m M : Int} (h1 : -8000000 ≤ t ∧ t ≤ 8000000) (h2 : -M ≤ m ∧ m ≤ M) (h3 : M ≤ 6000000) : -48000000000000 ≤ t * m ∧ t * m ≤ 48000000000000 := by
  have := times_bd h1 h2
  omega
theorem fx_b2 {s : Pt × Pt} (h1 : sm s.1) (h2 : sm s.2) : -48000000000000 ≤ fxV s ∧ fxV s ≤ 48000000000000 := by
  have ht := fan_bd h1 h2
  unfold sm at h1 h2
  exact big_bd (M := 2000) ht (by omega) (by omega)
theorem fy_b2 {s : Pt × Pt} (h1 : sm s.1) (h2 : sm s.2) : -48000000000000 ≤ fyV s ∧ fyV s ≤ 48000000000000 := by
  have ht := fan_bd h1 h2
  unfold sm at h1 h2
  exact big_bd (M := 2000) ht (by omega) (by omega)
theorem xx_b2 {s : Pt × Pt} (h1 : sm s.1) (h2 : sm s.2) : -48000000000000 ≤ xxV s ∧ xxV s ≤ 48000000000000 := by
  have ht := fan_bd h1 h2
  unfold sm at h1 h2
  have q1 := sq_bd (a := s.1.1) (b := s.1.1) (by omega) (by omega)
  have q2 := sq_bd (a := s.1.1) (b := s.2.1) (by omega) (by omega)
  have q3 := sq_bd (a := s.2.1) (b := s.2.1) (by omega) (by omega)
  exact big_bd (M := 3000000) ht (by omega) (by omega)
theorem yy_b2 {s : Pt × Pt} (h1 : sm s.1) (h2 : sm s.2) : -48000000000000 ≤ yyV s ∧ yyV s ≤ 48000000000000 := by
  have ht := fan_bd h1 h2
  unfold sm at h1 h2
  have q1 := sq_bd (a := s.1.2) (b := s.1.2) (by omega) (by omega)
  have q2 := sq_bd (a := s.1.2) (b := s.2.2) (by omega) (by omega)
  have q3 := sq_bd (a := s.2.2) (b := s.2.2) (by omega) (by omega)
  exact big_bd (M := 3000000) ht (by omega) (by omega)
theorem xy_b2 {s : Pt × Pt} (h1 : sm s.1) (h2 : sm s.2) : -48000000000000 ≤ xyV s ∧ xyV s ≤ 48000000000000 := by
  have ht := fan_bd h1 h2
  unfold sm at h1 h2
  have q1 := sq_bd (a := s.1.1) (b := s.1.2) (by omega) (by omega)
  have q2 := sq_bd (a := s.1.1) (b := s.2.2) (by omega) (by omega)
  have q3 := sq_bd (a := s.2.1) (b := s.1.2) (by omega) (by omega)
  have q4 := sq_bd (a := s.2.1) (b := s.2.2) (by omega) (by omega)
  have e1 : 2 * s.1.1 * s.1.2 = 2 * (s.1.1 * s.1.2) := Int.mul_assoc _ _ _
  have e2 : 2 * s.2.1 * s.2.2 = 2 * (s.2.1 * s.2.2) := Int.mul_assoc _ _ _
  exact big_bd (M := 6000000) ht (by omega) (by omega)
theorem fan_b2 {s : Pt × Pt} (h1 : sm s.1) (h2 : sm s.2) : -48000000000000 ≤ fanV s ∧ fanV s ≤ 48000000000000 := by
  have := fan_bd h1 h2
  omega
end Geo
theorem tot_b2 {f : Geo.Pt × Geo.Pt → Int} {ps : List Geo.Pt} (h : ∀ p ∈ ps, Geo.sm p) (hl : ps.length ≤ 10) (hf : ∀ s : Geo.Pt × Geo.Pt, Geo.sm s.1 → Geo.sm s.2 → -48000000000000 ≤ f s ∧ f s ≤ 48000000000000) : -1125899906842624 ≤ Geo.tot f ps ∧ Geo.tot f ps ≤ 1125899906842624 := by
  have := tot_bd (f := f) (M := 48000000000000) h hf
  omega
theorem told_other1 {W : World} {B B' : Nat} {t : TypeId} {vs : Array Value} (h : BoxS W B t vs) (hne : B ≠ B') (i : Nat) (v : Value) : BoxS (W.setCell ⟨B', i, none⟩ v) B t vs := (Below.heap_setCell _ _ _ B hne).trans h
theorem told_other2 {W : World} {B B' : Nat} {t : TypeId} {vs : Array Value} (h : BoxS W B t vs) (hne : B ≠ B') (i j : Nat) (v u : Value) : BoxS ((W.setCell ⟨B', i, none⟩ v).setCell ⟨B', j, none⟩ u) B t vs := told_other1 (told_other1 h hne i v) hne j u
theorem told_other3 {W : World} {B B' : Nat} {t : TypeId} {vs : Array Value} (h : BoxS W B t vs) (hne : B ≠ B') (i j k : Nat) (v u x : Value) : BoxS (((W.setCell ⟨B', i, none⟩ v).setCell ⟨B', j, none⟩ u).setCell ⟨B', k, none⟩ x) B t vs := told_other1 (told_other2 h hne i j v u) hne k x
theorem told_other4 {W : World} {B B' : Nat} {t : TypeId} {vs : Array Value} (h : BoxS W B t vs) (hne : B ≠ B') (i j k l : Nat) (v u x y : Value) : BoxS ((((W.setCell ⟨B', i, none⟩ v).setCell ⟨B', j, none⟩ u).setCell ⟨B', k, none⟩ x).setCell ⟨B', l, none⟩ y) B t vs := told_other1 (told_other3 h hne i j k v u x) hne l y
def ToldPost (vs : Array Value) (w : World) (e : Ending) (w' : World) : Prop := e = .returned (.tuple #[.agg vs, .bool true]) ∧ Below w.heap.size w w'

set_option maxRecDepth 100000 in
set_option maxHeartbeats 8000000 in
theorem told_yes (A : Option Addr) (c : Nat) (ps : List Geo.Pt) (hv : Geo.validB ps = true) (w : World) (hP : Prs w w.heap.size A ps) :
    Calls Try.prog 16 #[.slice A ps.length c] w (ToldPost (Geo.toldA ps) w) := by
  have hlen := Geo.valid_len hv
  have hl : ps.length ≤ 100 := by omega
  have hsm := Geo.valid_sm hv
  have H1 : Hid (∀ W, Below w.heap.size w W → Calls Try.prog 22 #[.slice A ps.length c] W fun e w' => e = .returned (.tuple #[.int .i64 (Geo.tot Geo.fanV ps), .int .i64 0]) ∧ Below W.heap.size W w') := fun W hW => by
    have := Twice_any A c ps hl W (prs_keep hP hW)
    rw [Geo.whenV_yes hv, Geo.errV_yes hv] at this
    exact this
  have H2 : Hid (∀ W, Below w.heap.size w W → Calls Try.prog 37 #[.slice A ps.length c] W fun e w' => e = .returned (.tuple #[.int .i64 (Geo.tot Geo.fxV ps), .int .i64 (Geo.tot Geo.fyV ps), .int .i64 0]) ∧ Below W.heap.size W w') := fun W hW => by
    have := First_any A c ps hl W (prs_keep hP hW)
    rw [Geo.whenV_yes hv, Geo.whenV_yes hv, Geo.errV_yes hv] at this
    exact this
  have H3 : Hid (∀ W, Below w.heap.size w W → Calls Try.prog 39 #[.slice A ps.length c] W fun e w' => e = .returned (.tuple #[.int .i64 (Geo.tot Geo.xxV ps), .int .i64 (Geo.tot Geo.xyV ps), .int .i64 (Geo.tot Geo.yyV ps), .int .i64 0]) ∧ Below W.heap.size W w') := fun W hW => by
    have := Second_any A c ps hl W (prs_keep hP hW)
    rw [Geo.whenV_yes hv, Geo.whenV_yes hv, Geo.whenV_yes hv, Geo.errV_yes hv] at this
    exact this
  have H4 : Hid (∀ W, Below w.heap.size w W → Calls Try.prog 41 #[.slice A ps.length c] W fun e w' => e = .returned (.tuple #[.agg #[.int .i64 (Geo.cenN Geo.fxV ps), .int .i64 (Geo.cenD Geo.fxV ps)], .agg #[.int .i64 (Geo.cenN Geo.fyV ps), .int .i64 (Geo.cenD Geo.fyV ps)], .int .i64 0]) ∧ Below W.heap.size W w') := fun W hW => by
    have := Centre_any (fun _ h => Geo.area_ne h) A c ps hl W (prs_keep hP hW)
    rw [Geo.errV_yes hv] at this
    exact this
  have HV : Hid (Geo.toldA ps = #[.int .i64 (Geo.tot Geo.fanV ps), .int .i64 (Geo.tot Geo.fxV ps), .int .i64 (Geo.tot Geo.fyV ps), .int .i64 (Geo.tot Geo.xxV ps), .int .i64 (Geo.tot Geo.xyV ps), .int .i64 (Geo.tot Geo.yyV ps), .int .i64 (Geo.cenN Geo.fxV ps), .int .i64 (Geo.cenD Geo.fxV ps), .int .i64 (Geo.cenN Geo.fyV ps), .int .i64 (Geo.cenD Geo.fyV ps)]) := rfl
  have bT := tot_b2 (f := Geo.fanV) hsm hlen.2 (fun s h1 h2 => Geo.fan_b2 h1 h2)
  have bX := tot_b2 (f := Geo.fxV) hsm hlen.2 (fun s h1 h2 => Geo.fx_b2 h1 h2)
  have bY := tot_b2 (f := Geo.fyV) hsm hlen.2 (fun s h1 h2 => Geo.fy_b2 h1 h2)
  have bXX := tot_b2 (f := Geo.xxV) hsm hlen.2 (fun s h1 h2 => Geo.xx_b2 h1 h2)
  have bXY := tot_b2 (f := Geo.xyV) hsm hlen.2 (fun s h1 h2 => Geo.xy_b2 h1 h2)
  have bYY := tot_b2 (f := Geo.yyV) hsm hlen.2 (fun s h1 h2 => Geo.yy_b2 h1 h2)
  clear hP hl hlen hsm hv
  generalize Geo.toldA ps = VS at *
  generalize Geo.tot Geo.fanV ps = T at *
  generalize Geo.tot Geo.fxV ps = X at *
  generalize Geo.tot Geo.fyV ps = Y at *
  generalize Geo.tot Geo.xxV ps = XX at *
  generalize Geo.tot Geo.xyV ps = XY at *
  generalize Geo.tot Geo.yyV ps = YY at *
  generalize Geo.cenN Geo.fxV ps = N1 at *
  generalize Geo.cenD Geo.fxV ps = D1 at *
  generalize Geo.cenN Geo.fyV ps = N2 at *
  generalize Geo.cenD Geo.fyV ps = D2 at *
  have HXS : Hid (∀ x ∈ [T, X, Y, XX, XY, YY], -1125899906842624 ≤ x ∧ x ≤ 1125899906842624) := fun x hx => by
    simp only [List.mem_cons, List.not_mem_nil, or_false] at hx
    rcases hx with rfl | rfl | rfl | rfl | rfl | rfl <;> assumption
  clear bT bX bY bXX bXY bYY
  go_enter Try.func16, Try.ntmps16
  go_wp2_with fail
  have bR0 := (BoxS.new w 30 #[.int .i64 0, .int .i64 0, .int .i64 0, .int .i64 0, .int .i64 0, .int .i64 0, .int .i64 0, .int .i64 0, .int .i64 0, .int .i64 0]).alloc (.cells #[.int .i64 0, .int .i64 0, .int .i64 0, .int .i64 0, .int .i64 0, .int .i64 0, .int .i64 0, .int .i64 0, .int .i64 0, .int .i64 0] 30)
  have bO0 := BoxS.new (w.alloc (.cells #[.int .i64 0, .int .i64 0, .int .i64 0, .int .i64 0, .int .i64 0, .int .i64 0, .int .i64 0, .int .i64 0, .int .i64 0, .int .i64 0] 30)) 30 #[.int .i64 0, .int .i64 0, .int .i64 0, .int .i64 0, .int .i64 0, .int .i64 0, .int .i64 0, .int .i64 0, .int .i64 0, .int .i64 0]
  have hB0 : Below w.heap.size w ((w.alloc (.cells #[.int .i64 0, .int .i64 0, .int .i64 0, .int .i64 0, .int .i64 0, .int .i64 0, .int .i64 0, .int .i64 0, .int .i64 0, .int .i64 0] 30)).alloc (.cells #[.int .i64 0, .int .i64 0, .int .i64 0, .int .i64 0, .int .i64 0, .int .i64 0, .int .i64 0, .int .i64 0, .int .i64 0, .int .i64 0] 30)) := by (repeat' (first | (with_reducible exact Below.refl _ _) | (with_reducible assumption) | (with_reducible refine Below.alloc ?_ ?_ _) | (with_reducible refine below_drewN ?_ _) | (with_reducible refine Below.drew ?_) | (with_reducible refine Below.setCell ?_ ?_ _) | go_size))
  rw [World.size_alloc] at bO0
  generalize World.alloc _ _ = w0 at *
  refine (H1.out _ hB0).mono ?_
  rintro e w1 ⟨rfl, hb1⟩
  have bR1' := bR0.below hb1
  have bO1' := bO0.below hb1
  have hB1' : Below w.heap.size w w1 := hB0.trans (hb1.mono hB0.size)
  clear hb1
  have c0 := bO1'.cell 0 rfl
  have f0 := bO1'.frozen 0
  go_wp2_with fail
  have bO1 : BoxS (w1.setCell ⟨w.heap.size + 1, 0, none⟩ (.int .i64 T)) (w.heap.size + 1) 30 #[.int .i64 T, .int .i64 0, .int .i64 0, .int .i64 0, .int .i64 0, .int .i64 0, .int .i64 0, .int .i64 0, .int .i64 0, .int .i64 0] := (bO1'.put 0 (.int .i64 T))
  have bR1 : BoxS (w1.setCell ⟨w.heap.size + 1, 0, none⟩ (.int .i64 T)) w.heap.size 30 #[.int .i64 0, .int .i64 0, .int .i64 0, .int .i64 0, .int .i64 0, .int .i64 0, .int .i64 0, .int .i64 0, .int .i64 0, .int .i64 0] := told_other1 bR1' (by omega) _ _
  have hB1 : Below w.heap.size w (w1.setCell ⟨w.heap.size + 1, 0, none⟩ (.int .i64 T)) := by have := hB1'.size; (repeat' (first | (with_reducible exact Below.refl _ _) | (with_reducible assumption) | (with_reducible refine Below.alloc ?_ ?_ _) | (with_reducible refine Below.drew ?_) | (with_reducible refine Below.setCell ?_ ?_ _) | go_size | (exact (by simp)) | omega))
  clear c0 f0 bO1' bR1' hB1'
  generalize (w1.setCell ⟨w.heap.size + 1, 0, none⟩ (.int .i64 T)) = v1 at *
  refine (H2.out _ hB1).mono ?_
  rintro e w2 ⟨rfl, hb2⟩
  have bR2' := bR1.below hb2
  have bO2' := bO1.below hb2
  have hB2' : Below w.heap.size w w2 := hB1.trans (hb2.mono hB1.size)
  clear hb2
  have c1 := bO2'.cell 1 rfl
  have f1 := bO2'.frozen 1
  have c2 := bO2'.cell 2 rfl
  have f2 := bO2'.frozen 2
  go_wp2_with fail
  have bO2 : BoxS ((w2.setCell ⟨w.heap.size + 1, 1, none⟩ (.int .i64 X)).setCell ⟨w.heap.size + 1, 2, none⟩ (.int .i64 Y)) (w.heap.size + 1) 30 #[.int .i64 T, .int .i64 X, .int .i64 Y, .int .i64 0, .int .i64 0, .int .i64 0, .int .i64 0, .int .i64 0, .int .i64 0, .int .i64 0] := ((bO2'.put 1 (.int .i64 X)).put 2 (.int .i64 Y))
  have bR2 : BoxS ((w2.setCell ⟨w.heap.size + 1, 1, none⟩ (.int .i64 X)).setCell ⟨w.heap.size + 1, 2, none⟩ (.int .i64 Y)) w.heap.size 30 #[.int .i64 0, .int .i64 0, .int .i64 0, .int .i64 0, .int .i64 0, .int .i64 0, .int .i64 0, .int .i64 0, .int .i64 0, .int .i64 0] := told_other2 bR2' (by omega) _ _ _ _
  have hB2 : Below w.heap.size w ((w2.setCell ⟨w.heap.size + 1, 1, none⟩ (.int .i64 X)).setCell ⟨w.heap.size + 1, 2, none⟩ (.int .i64 Y)) := by have := hB2'.size; (repeat' (first | (with_reducible exact Below.refl _ _) | (with_reducible assumption) | (with_reducible refine Below.alloc ?_ ?_ _) | (with_reducible refine Below.drew ?_) | (with_reducible refine Below.setCell ?_ ?_ _) | go_size | (exact (by simp)) | omega))
  clear c1 f1 c2 f2 bO2' bR2' hB2'
  generalize ((w2.setCell ⟨w.heap.size + 1, 1, none⟩ (.int .i64 X)).setCell ⟨w.heap.size + 1, 2, none⟩ (.int .i64 Y)) = v2 at *
  refine (H3.out _ hB2).mono ?_
  rintro e w3 ⟨rfl, hb3⟩
  have bR3' := bR2.below hb3
  have bO3' := bO2.below hb3
  have hB3' : Below w.heap.size w w3 := hB2.trans (hb3.mono hB2.size)
  clear hb3
  have c3 := bO3'.cell 3 rfl
  have f3 := bO3'.frozen 3
  have c4 := bO3'.cell 4 rfl
  have f4 := bO3'.frozen 4
  have c5 := bO3'.cell 5 rfl
  have f5 := bO3'.frozen 5
  go_wp2_with fail
  have bO3 : BoxS (((w3.setCell ⟨w.heap.size + 1, 3, none⟩ (.int .i64 XX)).setCell ⟨w.heap.size + 1, 4, none⟩ (.int .i64 XY)).setCell ⟨w.heap.size + 1, 5, none⟩ (.int .i64 YY)) (w.heap.size + 1) 30 #[.int .i64 T, .int .i64 X, .int .i64 Y, .int .i64 XX, .int .i64 XY, .int .i64 YY, .int .i64 0, .int .i64 0, .int .i64 0, .int .i64 0] := (((bO3'.put 3 (.int .i64 XX)).put 4 (.int .i64 XY)).put 5 (.int .i64 YY))
  have bR3 : BoxS (((w3.setCell ⟨w.heap.size + 1, 3, none⟩ (.int .i64 XX)).setCell ⟨w.heap.size + 1, 4, none⟩ (.int .i64 XY)).setCell ⟨w.heap.size + 1, 5, none⟩ (.int .i64 YY)) w.heap.size 30 #[.int .i64 0, .int .i64 0, .int .i64 0, .int .i64 0, .int .i64 0, .int .i64 0, .int .i64 0, .int .i64 0, .int .i64 0, .int .i64 0] := told_other3 bR3' (by omega) _ _ _ _ _ _
  have hB3 : Below w.heap.size w (((w3.setCell ⟨w.heap.size + 1, 3, none⟩ (.int .i64 XX)).setCell ⟨w.heap.size + 1, 4, none⟩ (.int .i64 XY)).setCell ⟨w.heap.size + 1, 5, none⟩ (.int .i64 YY)) := by have := hB3'.size; (repeat' (first | (with_reducible exact Below.refl _ _) | (with_reducible assumption) | (with_reducible refine Below.alloc ?_ ?_ _) | (with_reducible refine Below.drew ?_) | (with_reducible refine Below.setCell ?_ ?_ _) | go_size | (exact (by simp)) | omega))
  clear c3 f3 c4 f4 c5 f5 bO3' bR3' hB3'
  generalize (((w3.setCell ⟨w.heap.size + 1, 3, none⟩ (.int .i64 XX)).setCell ⟨w.heap.size + 1, 4, none⟩ (.int .i64 XY)).setCell ⟨w.heap.size + 1, 5, none⟩ (.int .i64 YY)) = v3 at *
  refine (H4.out _ hB3).mono ?_
  rintro e w4 ⟨rfl, hb4⟩
  have bR4' := bR3.below hb4
  have bO4' := bO3.below hb4
  have hB4' : Below w.heap.size w w4 := hB3.trans (hb4.mono hB3.size)
  clear hb4
  have c6 := bO4'.cell 6 rfl
  have f6 := bO4'.frozen 6
  have c7 := bO4'.cell 7 rfl
  have f7 := bO4'.frozen 7
  have c8 := bO4'.cell 8 rfl
  have f8 := bO4'.frozen 8
  have c9 := bO4'.cell 9 rfl
  have f9 := bO4'.frozen 9
  go_wp2_with fail
  have bO4 : BoxS ((((w4.setCell ⟨w.heap.size + 1, 6, none⟩ (.int .i64 N1)).setCell ⟨w.heap.size + 1, 7, none⟩ (.int .i64 D1)).setCell ⟨w.heap.size + 1, 8, none⟩ (.int .i64 N2)).setCell ⟨w.heap.size + 1, 9, none⟩ (.int .i64 D2)) (w.heap.size + 1) 30 #[.int .i64 T, .int .i64 X, .int .i64 Y, .int .i64 XX, .int .i64 XY, .int .i64 YY, .int .i64 N1, .int .i64 D1, .int .i64 N2, .int .i64 D2] := ((((bO4'.put 6 (.int .i64 N1)).put 7 (.int .i64 D1)).put 8 (.int .i64 N2)).put 9 (.int .i64 D2))
  have bR4 : BoxS ((((w4.setCell ⟨w.heap.size + 1, 6, none⟩ (.int .i64 N1)).setCell ⟨w.heap.size + 1, 7, none⟩ (.int .i64 D1)).setCell ⟨w.heap.size + 1, 8, none⟩ (.int .i64 N2)).setCell ⟨w.heap.size + 1, 9, none⟩ (.int .i64 D2)) w.heap.size 30 #[.int .i64 0, .int .i64 0, .int .i64 0, .int .i64 0, .int .i64 0, .int .i64 0, .int .i64 0, .int .i64 0, .int .i64 0, .int .i64 0] := told_other4 bR4' (by omega) _ _ _ _ _ _ _ _
  have hB4 : Below w.heap.size w ((((w4.setCell ⟨w.heap.size + 1, 6, none⟩ (.int .i64 N1)).setCell ⟨w.heap.size + 1, 7, none⟩ (.int .i64 D1)).setCell ⟨w.heap.size + 1, 8, none⟩ (.int .i64 N2)).setCell ⟨w.heap.size + 1, 9, none⟩ (.int .i64 D2)) := by have := hB4'.size; (repeat' (first | (with_reducible exact Below.refl _ _) | (with_reducible assumption) | (with_reducible refine Below.alloc ?_ ?_ _) | (with_reducible refine Below.drew ?_) | (with_reducible refine Below.setCell ?_ ?_ _) | go_size | (exact (by simp)) | omega))
  clear c6 f6 c7 f7 c8 f8 c9 f9 bO4' bR4' hB4'
  generalize ((((w4.setCell ⟨w.heap.size + 1, 6, none⟩ (.int .i64 N1)).setCell ⟨w.heap.size + 1, 7, none⟩ (.int .i64 D1)).setCell ⟨w.heap.size + 1, 8, none⟩ (.int .i64 N2)).setCell ⟨w.heap.size + 1, 9, none⟩ (.int .i64 D2)) = v4 at *
  have KC : Hid (∀ W', (Below w.heap.size w W' ∧ BoxS W' (w.heap.size + 1) 30 #[.int .i64 T, .int .i64 X, .int .i64 Y, .int .i64 XX, .int .i64 XY, .int .i64 YY, .int .i64 N1, .int .i64 D1, .int .i64 N2, .int .i64 D2]) → W'.cell? ⟨w.heap.size + 1, 0, none⟩ = some (.int .i64 T) ∧ W'.cell? ⟨w.heap.size + 1, 1, none⟩ = some (.int .i64 X) ∧ W'.cell? ⟨w.heap.size + 1, 2, none⟩ = some (.int .i64 Y) ∧ W'.cell? ⟨w.heap.size + 1, 3, none⟩ = some (.int .i64 XX) ∧ W'.cell? ⟨w.heap.size + 1, 4, none⟩ = some (.int .i64 XY) ∧ W'.cell? ⟨w.heap.size + 1, 5, none⟩ = some (.int .i64 YY) ∧ W'.cell? ⟨w.heap.size + 1, 6, none⟩ = some (.int .i64 N1) ∧ W'.cell? ⟨w.heap.size + 1, 7, none⟩ = some (.int .i64 D1) ∧ W'.cell? ⟨w.heap.size + 1, 8, none⟩ = some (.int .i64 N2) ∧ W'.cell? ⟨w.heap.size + 1, 9, none⟩ = some (.int .i64 D2)) := fun W' h => ⟨h.2.cell 0 rfl, h.2.cell 1 rfl, h.2.cell 2 rfl, h.2.cell 3 rfl, h.2.cell 4 rfl, h.2.cell 5 rfl, h.2.cell 6 rfl, h.2.cell 7 rfl, h.2.cell 8 rfl, h.2.cell 9 rfl⟩
  refine (wpIn_wide (n := 4)).1 ?_
  have hmo : Try.prog.follows .mixedOrders = true := by kernel_rfl
  have q0 : Below w.heap.size w v4.drew ∧ BoxS v4.drew (w.heap.size + 1) 30 #[.int .i64 T, .int .i64 X, .int .i64 Y, .int .i64 XX, .int .i64 XY, .int .i64 YY, .int .i64 N1, .int .i64 D1, .int .i64 N2, .int .i64 D2] := ⟨hB4.drew, bO4.drew⟩
  refine wpIn_region_held (fun W' => Below w.heap.size w W' ∧ BoxS W' (w.heap.size + 1) 30 #[.int .i64 T, .int .i64 X, .int .i64 Y, .int .i64 XX, .int .i64 XY, .int .i64 YY, .int .i64 N1, .int .i64 D1, .int .i64 N2, .int .i64 D2]) 33 hmo ?_
  refine wpHeldIn_take (i := 0) (v := ?_) (plain_of (by kernel_rfl)) rfl (by kernel_rfl) (fun _ _ _ h => h) (yieldsSoIn_of (by kernel_rfl) ?_ (fun _ => rfl)) q0 ?_; rotate_left; focus (intro wq hw; have kq := KC.out wq hw; clear hw; go_simp; try (with_reducible rfl))
  refine wpHeldIn_take (i := 1) (v := ?_) (plain_of (by kernel_rfl)) rfl (by kernel_rfl) (fun _ _ _ h => h) (yieldsSoIn_of (by kernel_rfl) ?_ (fun _ => rfl)) q0 ?_; rotate_left; focus (intro wq hw; clear hw; go_simp; try (with_reducible rfl))
  refine wpHeldIn_take (i := 2) (v := ?_) (plain_of (by kernel_rfl)) rfl (by kernel_rfl) (fun _ _ _ h => h) (yieldsSoIn_of (by kernel_rfl) ?_ (fun _ => rfl)) q0 ?_; rotate_left; focus (intro wq hw; clear hw; go_simp; try (with_reducible rfl))
  refine wpHeldIn_take (i := 3) (v := ?_) (plain_of (by kernel_rfl)) rfl (by kernel_rfl) (fun _ _ _ h => h) (yieldsSoIn_of (by kernel_rfl) ?_ (fun _ => rfl)) q0 ?_; rotate_left; focus (intro wq hw; clear hw; go_simp; try (with_reducible rfl))
  refine wpHeldIn_take (i := 4) (v := ?_) (plain_of (by kernel_rfl)) rfl (by kernel_rfl) (fun _ _ _ h => h) (yieldsSoIn_of (by kernel_rfl) ?_ (fun _ => rfl)) q0 ?_; rotate_left; focus (intro wq hw; clear hw; go_simp; try (with_reducible rfl))
  refine wpHeldIn_take (i := 5) (v := ?_) (plain_of (by kernel_rfl)) rfl (by kernel_rfl) (fun _ _ _ h => h) (yieldsSoIn_of (by kernel_rfl) ?_ (fun _ => rfl)) q0 ?_; rotate_left; focus (intro wq hw; clear hw; go_simp; try (with_reducible rfl))
  refine wpHeldIn_take (i := 6) (v := ?_) (plain_of (by kernel_rfl)) rfl (by kernel_rfl) (fun _ _ _ h => h) (yieldsSoIn_of (by kernel_rfl) ?_ (fun _ => rfl)) q0 ?_; rotate_left; focus (intro wq hw; clear hw; go_simp; try (with_reducible rfl))
  refine wpHeldIn_take (i := 7) (v := ?_) (plain_of (by kernel_rfl)) rfl (by kernel_rfl) (fun _ _ _ h => h) (yieldsSoIn_of (by kernel_rfl) ?_ (fun _ => rfl)) q0 ?_; rotate_left; focus (intro wq hw; clear hw; go_simp; try (with_reducible rfl))
  refine wpHeldIn_take (i := 8) (v := ?_) (plain_of (by kernel_rfl)) rfl (by kernel_rfl) (fun _ _ _ h => h) (yieldsSoIn_of (by kernel_rfl) ?_ (fun _ => rfl)) q0 ?_; rotate_left; focus (intro wq hw; clear hw; go_simp; try (with_reducible rfl))
  refine wpHeldIn_take (i := 9) (v := ?_) (plain_of (by kernel_rfl)) rfl (by kernel_rfl) (fun _ _ _ h => h) (yieldsSoIn_of (by kernel_rfl) ?_ (fun _ => rfl)) q0 ?_; rotate_left; focus (intro wq hw; clear hw; go_simp; try (with_reducible rfl))
  refine wpHeldIn_take (i := 10) (v := ?_) (plain_of (by kernel_rfl)) rfl (by kernel_rfl) (fun _ _ _ h => h) (yieldsSoIn_of (by kernel_rfl) ?_ (fun _ => rfl)) q0 ?_; rotate_left; focus (intro wq hw; clear hw; go_simp; try (with_reducible rfl))
  refine wpHeldIn_take (i := 11) (v := ?_) (plain_of (by kernel_rfl)) rfl (by kernel_rfl) (fun _ _ _ h => h) (yieldsSoIn_of (by kernel_rfl) ?_ (fun _ => rfl)) q0 ?_; rotate_left; focus (intro wq hw; clear hw; go_simp; try (with_reducible rfl))
  refine wpHeldIn_take (i := 12) (v := ?_) (plain_of (by kernel_rfl)) rfl (by kernel_rfl) (fun _ _ _ h => h) (yieldsSoIn_of (by kernel_rfl) ?_ (fun _ => rfl)) q0 ?_; rotate_left; focus (intro wq hw; clear hw; go_simp; try (with_reducible rfl))
  refine wpHeldIn_take (i := 13) (v := ?_) (plain_of (by kernel_rfl)) rfl (by kernel_rfl) (fun _ _ _ h => h) (yieldsSoIn_of (by kernel_rfl) ?_ (fun _ => rfl)) q0 ?_; rotate_left; focus (intro wq hw; clear hw; go_simp; try (with_reducible rfl))
  refine wpHeldIn_take (i := 14) (v := ?_) (plain_of (by kernel_rfl)) rfl (by kernel_rfl) (fun _ _ _ h => h) (yieldsSoIn_of (by kernel_rfl) ?_ (fun _ => rfl)) q0 ?_; rotate_left; focus (intro wq hw; clear hw; go_simp; try (with_reducible rfl))
  refine wpHeldIn_take (i := 15) (v := ?_) (plain_of (by kernel_rfl)) rfl (by kernel_rfl) (fun _ _ _ h => h) (yieldsSoIn_of (by kernel_rfl) ?_ (fun _ => rfl)) q0 ?_; rotate_left; focus (intro wq hw; clear hw; go_simp; try (with_reducible rfl))
  refine wpHeldIn_take (i := 16) (v := ?_) (plain_of (by kernel_rfl)) rfl (by kernel_rfl) (fun _ _ _ h => h) (yieldsSoIn_of (by kernel_rfl) ?_ (fun _ => rfl)) q0 ?_; rotate_left; focus (intro wq hw; clear hw; go_simp; try (with_reducible rfl))
  refine wpHeldIn_take (i := 17) (v := ?_) (plain_of (by kernel_rfl)) rfl (by kernel_rfl) (fun _ _ _ h => h) (yieldsSoIn_of (by kernel_rfl) ?_ (fun _ => rfl)) q0 ?_; rotate_left; focus (intro wq hw; have kq := KC.out wq hw; clear hw; go_simp; try (with_reducible rfl))
  refine wpHeldIn_take (i := 18) (v := ?_) (plain_of (by kernel_rfl)) rfl (by kernel_rfl) (fun _ _ _ h => h) (yieldsSoIn_of (by kernel_rfl) ?_ (fun _ => rfl)) q0 ?_; rotate_left; focus (intro wq hw; clear hw; go_simp; try (with_reducible rfl))
  refine wpHeldIn_take (i := 19) (v := ?_) (plain_of (by kernel_rfl)) rfl (by kernel_rfl) (fun _ _ _ h => h) (yieldsSoIn_of (by kernel_rfl) ?_ (fun _ => rfl)) q0 ?_; rotate_left; focus (intro wq hw; have kq := KC.out wq hw; clear hw; go_simp; try (with_reducible rfl))
  refine wpHeldIn_take (i := 20) (v := ?_) (plain_of (by kernel_rfl)) rfl (by kernel_rfl) (fun _ _ _ h => h) (yieldsSoIn_of (by kernel_rfl) ?_ (fun _ => rfl)) q0 ?_; rotate_left; focus (intro wq hw; clear hw; go_simp; try (with_reducible rfl))
  refine wpHeldIn_take (i := 21) (v := ?_) (plain_of (by kernel_rfl)) rfl (by kernel_rfl) (fun _ _ _ h => h) (yieldsSoIn_of (by kernel_rfl) ?_ (fun _ => rfl)) q0 ?_; rotate_left; focus (intro wq hw; have kq := KC.out wq hw; clear hw; go_simp; try (with_reducible rfl))
  refine wpHeldIn_take (i := 22) (v := ?_) (plain_of (by kernel_rfl)) rfl (by kernel_rfl) (fun _ _ _ h => h) (yieldsSoIn_of (by kernel_rfl) ?_ (fun _ => rfl)) q0 ?_; rotate_left; focus (intro wq hw; clear hw; go_simp; try (with_reducible rfl))
  refine wpHeldIn_take (i := 23) (v := ?_) (plain_of (by kernel_rfl)) rfl (by kernel_rfl) (fun _ _ _ h => h) (yieldsSoIn_of (by kernel_rfl) ?_ (fun _ => rfl)) q0 ?_; rotate_left; focus (intro wq hw; have kq := KC.out wq hw; clear hw; go_simp; try (with_reducible rfl))
  refine wpHeldIn_take (i := 24) (v := ?_) (plain_of (by kernel_rfl)) rfl (by kernel_rfl) (fun _ _ _ h => h) (yieldsSoIn_of (by kernel_rfl) ?_ (fun _ => rfl)) q0 ?_; rotate_left; focus (intro wq hw; clear hw; go_simp; try (with_reducible rfl))
  refine wpHeldIn_take (i := 25) (v := ?_) (plain_of (by kernel_rfl)) rfl (by kernel_rfl) (fun _ _ _ h => h) (yieldsSoIn_of (by kernel_rfl) ?_ (fun _ => rfl)) q0 ?_; rotate_left; focus (intro wq hw; have kq := KC.out wq hw; clear hw; go_simp; try (with_reducible rfl))
  refine wpHeldIn_take (i := 26) (v := ?_) (plain_of (by kernel_rfl)) rfl (by kernel_rfl) (fun _ _ _ h => h) (yieldsSoIn_of (by kernel_rfl) ?_ (fun _ => rfl)) q0 ?_; rotate_left; focus (intro wq hw; clear hw; go_simp; try (with_reducible rfl))
  refine wpHeldIn_take (i := 27) (v := ?_) (plain_of (by kernel_rfl)) rfl (by kernel_rfl) (fun _ _ _ h => h) (yieldsSoIn_of (by kernel_rfl) ?_ (fun _ => rfl)) q0 ?_; rotate_left; focus (intro wq hw; have kq := KC.out wq hw; clear hw; go_simp; try (with_reducible rfl))
  refine wpHeldIn_one (i := 28) (by kernel_rfl) (by kernel_rfl) rfl (by kernel_rfl) (fun K' hK' => ?_)
  go_simp
  refine hK' _ _ ⟨(hB4.alloc hB4.size _).drew, BoxS.drew (bO4.alloc _)⟩ ?_
  have qa : Below v4.heap.size v4 (v4.alloc (.cells #[.int .i64 T, .int .i64 X, .int .i64 Y, .int .i64 XX, .int .i64 XY, .int .i64 YY] 3)).drew := ((Below.refl _ _).alloc (Nat.le_refl _) _).drew
  have bS : BoxS (v4.alloc (.cells #[.int .i64 T, .int .i64 X, .int .i64 Y, .int .i64 XX, .int .i64 XY, .int .i64 YY] 3)).drew v4.heap.size 3 #[.int .i64 T, .int .i64 X, .int .i64 Y, .int .i64 XX, .int .i64 XY, .int .i64 YY] := BoxS.drew (BoxS.new v4 _ _)
  refine wpHeldIn_one (i := 29) (by kernel_rfl) (by kernel_rfl) rfl (by kernel_rfl) (fun K' hK' => ?_)
  go_simp
  refine ⟨trivial, (callsIn_wide.2 (sane_yes v4.heap.size 6 6 [T, X, Y, XX, XY, YY] rfl (by simp) _ bS.lt (fun k x hk => ?_) HXS.out)).mono ?_⟩
  · refine bS.cell k ?_
    rcases k with _ | _ | _ | _ | _ | _ | k
    all_goals first | (obtain rfl := Option.some.inj hk; rfl) | (simp at hk)
  rintro e v5 ⟨rfl, hb5⟩
  have q5 : Below v4.heap.size v4 v5 := qa.trans (hb5.mono qa.size)
  have bR5 := bR4.below q5
  have hB5 := hB4.trans (q5.mono hB4.size)
  have bO5 := bO4.below q5
  refine hK' _ _ ⟨hB5, bO5⟩ ?_
  have bF : BoxS (v5.setRow w.heap.size #[.int .i64 T, .int .i64 X, .int .i64 Y, .int .i64 XX, .int .i64 XY, .int .i64 YY, .int .i64 N1, .int .i64 D1, .int .i64 N2, .int .i64 D2]) w.heap.size 30 #[.int .i64 T, .int .i64 X, .int .i64 Y, .int .i64 XX, .int .i64 XY, .int .i64 YY, .int .i64 N1, .int .i64 D1, .int .i64 N2, .int .i64 D2] := bR5.setRow
  have hBF : Below w.heap.size w (v5.setRow w.heap.size #[.int .i64 T, .int .i64 X, .int .i64 Y, .int .i64 XX, .int .i64 XY, .int .i64 YY, .int .i64 N1, .int .i64 D1, .int .i64 N2, .int .i64 D2]) := below_setRow hB5 (Nat.le_refl _) _
  have bOF : BoxS (v5.setRow w.heap.size #[.int .i64 T, .int .i64 X, .int .i64 Y, .int .i64 XX, .int .i64 XY, .int .i64 YY, .int .i64 N1, .int .i64 D1, .int .i64 N2, .int .i64 D2]) (w.heap.size + 1) 30 #[.int .i64 T, .int .i64 X, .int .i64 Y, .int .i64 XX, .int .i64 XY, .int .i64 YY, .int .i64 N1, .int .i64 D1, .int .i64 N2, .int .i64 D2] := bO5.setRow_other (by omega)
  have z0 := bF.cell 0 rfl
  have z1 := bF.cell 1 rfl
  have z2 := bF.cell 2 rfl
  have z3 := bF.cell 3 rfl
  have z4 := bF.cell 4 rfl
  have z5 := bF.cell 5 rfl
  have z6 := bF.cell 6 rfl
  have z7 := bF.cell 7 rfl
  have z8 := bF.cell 8 rfl
  have z9 := bF.cell 9 rfl
  generalize hWF : (v5.setRow w.heap.size #[.int .i64 T, .int .i64 X, .int .i64 Y, .int .i64 XX, .int .i64 XY, .int .i64 YY, .int .i64 N1, .int .i64 D1, .int .i64 N2, .int .i64 D2]) = v6 at *
  refine wpHeldIn_two (i := 30) (j := 31) (by kernel_rfl) (by kernel_rfl) (by kernel_rfl) rfl rfl (by kernel_rfl) (by kernel_rfl) (fun K' hK' => ?_) (fun K' hK' => ?_)
  · go_simp
    refine hK' _ _ ⟨hB5, bO5⟩ ?_
    refine wpHeldIn_one (i := 31) (by kernel_rfl) (by kernel_rfl) rfl (by kernel_rfl) (fun K2 hK2 => ?_)
    refine wpIn_store_row (fun _ => rfl) 30 (.tmp 2) (.tmp 41) rfl w.heap.size 30 #[.int .i64 0, .int .i64 0, .int .i64 0, .int .i64 0, .int .i64 0, .int .i64 0, .int .i64 0, .int .i64 0, .int .i64 0, .int .i64 0] #[.int .i64 T, .int .i64 X, .int .i64 Y, .int .i64 XX, .int .i64 XY, .int .i64 YY, .int .i64 N1, .int .i64 D1, .int .i64 N2, .int .i64 D2] rfl rfl bR5 rfl (by kernel_rfl) (by simp [Value.oneCell']) ?_
    rw [hWF]
    refine hK2 _ _ ⟨hBF, bOF⟩ ?_
    refine wpHeldIn_one (i := 32) (by kernel_rfl) (by kernel_rfl) rfl (by kernel_rfl) (fun K3 hK3 => ?_)
    go_simp
    refine hK3 _ _ ⟨hBF, bOF⟩ ?_
    refine wpHeldIn_done (by kernel_rfl) ?_ _
    go_wp2_with fail
    refine bodyPost_ret (v := .tuple #[.agg #[.int .i64 T, .int .i64 X, .int .i64 Y, .int .i64 XX, .int .i64 XY, .int .i64 YY, .int .i64 N1, .int .i64 D1, .int .i64 N2, .int .i64 D2], .bool true]) (by simp [results, Try.results16, go_sem, z0, z1, z2, z3, z4, z5, z6, z7, z8, z9]) rfl ⟨by rw [HV.out], hBF⟩
  · refine wpIn_store_row (fun _ => rfl) 30 (.tmp 2) (.tmp 41) rfl w.heap.size 30 #[.int .i64 0, .int .i64 0, .int .i64 0, .int .i64 0, .int .i64 0, .int .i64 0, .int .i64 0, .int .i64 0, .int .i64 0, .int .i64 0] #[.int .i64 T, .int .i64 X, .int .i64 Y, .int .i64 XX, .int .i64 XY, .int .i64 YY, .int .i64 N1, .int .i64 D1, .int .i64 N2, .int .i64 D2] rfl rfl bR5 rfl (by kernel_rfl) (by simp [Value.oneCell']) ?_
    rw [hWF]
    refine hK' _ _ ⟨hBF, bOF⟩ ?_
    refine wpHeldIn_one (i := 30) (by kernel_rfl) (by kernel_rfl) rfl (by kernel_rfl) (fun K2 hK2 => ?_)
    go_simp
    refine hK2 _ _ ⟨hBF, bOF⟩ ?_
    refine wpHeldIn_one (i := 32) (by kernel_rfl) (by kernel_rfl) rfl (by kernel_rfl) (fun K3 hK3 => ?_)
    go_simp
    refine hK3 _ _ ⟨hBF, bOF⟩ ?_
    refine wpHeldIn_done (by kernel_rfl) ?_ _
    go_wp2_with fail
    refine bodyPost_ret (v := .tuple #[.agg #[.int .i64 T, .int .i64 X, .int .i64 Y, .int .i64 XX, .int .i64 XY, .int .i64 YY, .int .i64 N1, .int .i64 D1, .int .i64 N2, .int .i64 D2], .bool true]) (by simp [results, Try.results16, go_sem, z0, z1, z2, z3, z4, z5, z6, z7, z8, z9]) rfl ⟨by rw [HV.out], hBF⟩
end Go.Proofs.Ytkfnngcphcfbjaa
