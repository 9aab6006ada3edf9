/- Walks: the law WalksSweep (P5.5). -/
import Derived.Test.YtmjcdggmofohcaaOpW
import Derived.Test.YtmjcdggmofohcaaWk5
import Derived.Test.YtmjcdggmofohcaaCpI
import Derived.Test.YtmjcdggmofohcaaSw5
namespace Go.Proofs.Ytmjcdggmofohcaa
open Go.RowKit
set_option maxRecDepth 100000 in
set_option maxHeartbeats 8000000 in
theorem Sw_early (t : Wl.Trk) (ws : List Wl.Pt) (es : List Int) (A Aw Ae : Option Addr) (c cw ce : Nat) (w : World) (h : 40 < t.ps.length ∨ 40 < ws.length ∨ 40 < es.length) :
    Calls Try.prog 4 #[.agg (trV t A c), .slice Aw ws.length cw, .slice Ae es.length ce] w fun e w' => e = .returned (.bool true) ∧ Below w.heap.size w w' := by
  have HWK : Hid (∀ W, Calls Try.prog 12 #[] W fun e w' => e = .returned (.bool true) ∧ Below W.heap.size W w') := works5_any
  obtain ⟨ps, cl, lo, hi⟩ := t
  unfold trV at *
  dsimp only at *
  by_cases h1 : 40 < ps.length
  · skip
    have da1 : decide (40 < (ps.length : Int)) = true := decide_eq_true (by omega)
    have da2 : decide (40 < ps.length) = true := decide_eq_true (by omega)
    clear h
    go_enter Try.func4, Try.ntmps4
    go_wp2_with fail
    have bT1 := BoxS.new w 26 #[.slice A ps.length c, .int .i64 cl, .int .i64 lo, .int .i64 hi]
    have hB1 : Below w.heap.size w (w.alloc (.cells #[.slice A ps.length c, .int .i64 cl, .int .i64 lo, .int .i64 hi] 26)) := by (repeat' (first | (with_reducible exact Below.refl _ _) | (with_reducible assumption) | (with_reducible refine Below.alloc ?_ ?_ _) | (with_reducible refine Below.drew ?_) | (with_reducible refine Below.setCell ?_ ?_ _) | go_size | (exact (by simp)) | omega))
    generalize World.alloc w _ = w1 at *
    have ct0 : w1.cell? ⟨w.heap.size, 0, none⟩ = some (.slice A ps.length c) := bT1.cell 0 rfl
    have ct1 : w1.cell? ⟨w.heap.size, 1, none⟩ = some (.int .i64 cl) := bT1.cell 1 rfl
    have ct2 : w1.cell? ⟨w.heap.size, 2, none⟩ = some (.int .i64 lo) := bT1.cell 2 rfl
    have ct3 : w1.cell? ⟨w.heap.size, 3, none⟩ = some (.int .i64 hi) := bT1.cell 3 rfl
    have lT1 := bT1.lt
    try go_wp2_with fail
    refine (HWK.out _).mono ?_
    rintro e wz ⟨rfl, hbz⟩
    have hBz := hB1.trans (hbz.mono hB1.size)
    go_wp2_with fail
    go_returns
    exact ⟨rfl, hBz⟩
  · skip
    have da1 : decide (40 < (ps.length : Int)) = false := decide_eq_false (by omega)
    have da2 : decide (40 < ps.length) = false := decide_eq_false (by omega)
    by_cases h2 : 40 < ws.length
    · skip
      have db1 : decide (40 < (ws.length : Int)) = true := decide_eq_true (by omega)
      have db2 : decide (40 < ws.length) = true := decide_eq_true (by omega)
      clear h
      go_enter Try.func4, Try.ntmps4
      go_wp2_with fail
      have bT1 := BoxS.new w 26 #[.slice A ps.length c, .int .i64 cl, .int .i64 lo, .int .i64 hi]
      have hB1 : Below w.heap.size w (w.alloc (.cells #[.slice A ps.length c, .int .i64 cl, .int .i64 lo, .int .i64 hi] 26)) := by (repeat' (first | (with_reducible exact Below.refl _ _) | (with_reducible assumption) | (with_reducible refine Below.alloc ?_ ?_ _) | (with_reducible refine Below.drew ?_) | (with_reducible refine Below.setCell ?_ ?_ _) | go_size | (exact (by simp)) | omega))
      generalize World.alloc w _ = w1 at *
      have ct0 : w1.cell? ⟨w.heap.size, 0, none⟩ = some (.slice A ps.length c) := bT1.cell 0 rfl
      have ct1 : w1.cell? ⟨w.heap.size, 1, none⟩ = some (.int .i64 cl) := bT1.cell 1 rfl
      have ct2 : w1.cell? ⟨w.heap.size, 2, none⟩ = some (.int .i64 lo) := bT1.cell 2 rfl
      have ct3 : w1.cell? ⟨w.heap.size, 3, none⟩ = some (.int .i64 hi) := bT1.cell 3 rfl
      have lT1 := bT1.lt
      try go_wp2_with fail
      refine (HWK.out _).mono ?_
      rintro e wz ⟨rfl, hbz⟩
      have hBz := hB1.trans (hbz.mono hB1.size)
      go_wp2_with fail
      go_returns
      exact ⟨rfl, hBz⟩
    · have h3 : 40 < es.length := by omega
      have db1 : decide (40 < (ws.length : Int)) = false := decide_eq_false (by omega)
      have db2 : decide (40 < ws.length) = false := decide_eq_false (by omega)
      have de1 : decide (40 < (es.length : Int)) = true := decide_eq_true (by omega)
      have de2 : decide (40 < es.length) = true := decide_eq_true (by omega)
      clear h
      go_enter Try.func4, Try.ntmps4
      go_wp2_with fail
      have bT1 := BoxS.new w 26 #[.slice A ps.length c, .int .i64 cl, .int .i64 lo, .int .i64 hi]
      have hB1 : Below w.heap.size w (w.alloc (.cells #[.slice A ps.length c, .int .i64 cl, .int .i64 lo, .int .i64 hi] 26)) := by (repeat' (first | (with_reducible exact Below.refl _ _) | (with_reducible assumption) | (with_reducible refine Below.alloc ?_ ?_ _) | (with_reducible refine Below.drew ?_) | (with_reducible refine Below.setCell ?_ ?_ _) | go_size | (exact (by simp)) | omega))
      generalize World.alloc w _ = w1 at *
      have ct0 : w1.cell? ⟨w.heap.size, 0, none⟩ = some (.slice A ps.length c) := bT1.cell 0 rfl
      have ct1 : w1.cell? ⟨w.heap.size, 1, none⟩ = some (.int .i64 cl) := bT1.cell 1 rfl
      have ct2 : w1.cell? ⟨w.heap.size, 2, none⟩ = some (.int .i64 lo) := bT1.cell 2 rfl
      have ct3 : w1.cell? ⟨w.heap.size, 3, none⟩ = some (.int .i64 hi) := bT1.cell 3 rfl
      have lT1 := bT1.lt
      try go_wp2_with fail
      refine (HWK.out _).mono ?_
      rintro e wz ⟨rfl, hbz⟩
      have hBz := hB1.trans (hbz.mono hB1.size)
      go_wp2_with fail
      go_returns
      exact ⟨rfl, hBz⟩
set_option maxRecDepth 100000 in
set_option maxHeartbeats 16000000 in
theorem Sw_short (t : Wl.Trk) (ws : List Wl.Pt) (es : List Int) (A Aw Ae : Option Addr) (c cw ce : Nat) (w : World) (hP : Prs w w.heap.size A t.ps) (hQ : Prs w w.heap.size Aw ws) (hE : GIn w w.heap.size Ae ce es) (h1 : t.ps.length ≤ 40) (h2 : ws.length ≤ 40) (h3 : es.length ≤ 40) :
    Calls Try.prog 4 #[.agg (trV t A c), .slice Aw ws.length cw, .slice Ae es.length ce] w fun e w' => e = .returned (.bool true) ∧ Below w.heap.size w w' := by
  have HWK : Hid (∀ W, Calls Try.prog 12 #[] W fun e w' => e = .returned (.bool true) ∧ Below W.heap.size W w') := works5_any
  have hp9 : t.ps.length ≤ 1000000000 := by omega
  have hw9 : ws.length ≤ 1000000000 := by omega
  have he9 : es.length ≤ 1000000000 := by omega
  have HCP : Hid (∀ W, Below w.heap.size w W → Calls Try.prog 13 #[.agg (trV t A c)] W (Copy5Post t W)) := fun W hW => Copy5_own t A c hp9 W (prs_keep hP hW)
  have HSW : Hid (∀ (A' Aw' Ae' : Option Addr) (c' cw' ce' : Nat) (W : World), Prs W W.heap.size A' t.ps → Prs W W.heap.size Aw' ws → Ints W W.heap.size (.slice Ae' es.length ce') es → Calls Try.prog 24 #[.agg #[.slice A' t.ps.length c', .int .i64 t.cl, .int .i64 t.lo, .int .i64 t.hi], .slice Aw' ws.length cw', .slice Ae' es.length ce'] W (TwoPost (if Wl.movE t ws es = 0 then Wl.sweepV t ws es else 0) (Wl.movE t ws es) W)) := fun A' Aw' Ae' c' cw' ce' W h1 h2 h3 => SweepW_any t ws es A' Aw' Ae' c' cw' ce' hp9 he9 hw9 W h1 h2 h3
  have HS5 : Hid (∀ (A' Aw' Ae' : Option Addr) (c' cw' ce' : Nat) (W : World), Prs W W.heap.size A' t.ps → Prs W W.heap.size Aw' ws → GIn W W.heap.size Ae' ce' es → Calls Try.prog 25 #[.agg #[.slice A' t.ps.length c', .int .i64 t.cl, .int .i64 t.lo, .int .i64 t.hi], .slice Aw' ws.length cw', .slice Ae' es.length ce'] W (TwoPost (if Wl.movE t ws es = 0 then Wl.sweepV t ws es else 0) (Wl.movE t ws es) W)) := fun A' Aw' Ae' c' cw' ce' W h1 h2 h3 => Sweep5_any t ws es A' Aw' Ae' c' cw' ce' hp9 he9 hw9 W h1 h2 h3
  have HTU : Hid (∀ (A' Aw' Ae' : Option Addr) (c' cw' ce' : Nat) (W : World), Prs W W.heap.size A' t.ps → Prs W W.heap.size Aw' ws → Ints W W.heap.size (.slice Ae' es.length ce') es → Calls Try.prog 26 #[.agg #[.slice A' t.ps.length c', .int .i64 t.cl, .int .i64 t.lo, .int .i64 t.hi], .slice Aw' ws.length cw', .slice Ae' es.length ce'] W (TwoPost (if Wl.movE t ws es = 0 then Wl.turnsV t es else 0) (Wl.movE t ws es) W)) := fun A' Aw' Ae' c' cw' ce' W h1 h2 h3 => TurnsW_any t ws es A' Aw' Ae' c' cw' ce' hp9 he9 hw9 W h1 h2 h3
  have HT5 : Hid (∀ (A' Aw' Ae' : Option Addr) (c' cw' ce' : Nat) (W : World), Prs W W.heap.size A' t.ps → Prs W W.heap.size Aw' ws → GIn W W.heap.size Ae' ce' es → Calls Try.prog 27 #[.agg #[.slice A' t.ps.length c', .int .i64 t.cl, .int .i64 t.lo, .int .i64 t.hi], .slice Aw' ws.length cw', .slice Ae' es.length ce'] W (TwoPost (if Wl.movE t ws es = 0 then Wl.turnsV t es else 0) (Wl.movE t ws es) W)) := fun A' Aw' Ae' c' cw' ce' W h1 h2 h3 => Turns5_any t ws es A' Aw' Ae' c' cw' ce' hp9 he9 hw9 W h1 h2 h3
  have HSI : Hid (∀ (A' A2 : Option Addr) (c' c2 : Nat) (W : World), GIn W W.heap.size A' c' es → GIn W W.heap.size A2 c2 es → Calls Try.prog 22 #[.slice A' es.length c', .slice A2 es.length c2] W fun e w' => e = .returned (.bool true) ∧ Below W.heap.size W w') := fun A' A2 c' c2 W h h' => SameInts_all A' A2 c' c2 es W h h' he9
  have HSP : Hid (∀ (A' A2 : Option Addr) (c' c2 : Nat) (L : List Wl.Pt) (W : World), L.length ≤ 40 → Prs W W.heap.size A' L → Prs W W.heap.size A2 L → Calls Try.prog 23 #[.slice A' L.length c', .slice A2 L.length c2] W fun e w' => e = .returned (.bool true) ∧ Below W.heap.size W w') := fun A' A2 c' c2 L W hl h1 h2 => samePoints5_yes A' A2 c' c2 L (by omega) W h1 h2
  have hHP := Lib.hid hP
  have hHQ := Lib.hid hQ
  have hHE := Lib.hid hE
  clear hP hQ hE
  unfold TwoPost at HSW HS5 HTU HT5
  unfold Copy5Post at HCP
  generalize (if Wl.movE t ws es = 0 then Wl.sweepV t ws es else 0) = SV at *
  generalize (if Wl.movE t ws es = 0 then Wl.turnsV t es else 0) = TV at *
  generalize Wl.movE t ws es = ME at *
  obtain ⟨ps, cl, lo, hi⟩ := t
  unfold trV at *
  dsimp only at *
  have da1 : decide (40 < (ps.length : Int)) = false := decide_eq_false (by omega)
  have da2 : decide (40 < ps.length) = false := decide_eq_false (by omega)
  have db1 : decide (40 < (ws.length : Int)) = false := decide_eq_false (by omega)
  have db2 : decide (40 < ws.length) = false := decide_eq_false (by omega)
  have de1 : decide (40 < (es.length : Int)) = false := decide_eq_false (by omega)
  have de2 : decide (40 < es.length) = false := decide_eq_false (by omega)
  have hsv : (SV == SV) = true := by simp
  have htv : (TV == TV) = true := by simp
  have hme : (ME == ME) = true := by simp
  go_enter Try.func4, Try.ntmps4
  go_wp2_with fail
  have bT1 := BoxS.new w 26 #[.slice A ps.length c, .int .i64 cl, .int .i64 lo, .int .i64 hi]
  have hB1 : Below w.heap.size w (w.alloc (.cells #[.slice A ps.length c, .int .i64 cl, .int .i64 lo, .int .i64 hi] 26)) := by (repeat' (first | (with_reducible exact Below.refl _ _) | (with_reducible assumption) | (with_reducible refine Below.alloc ?_ ?_ _) | (with_reducible refine Below.drew ?_) | (with_reducible refine Below.setCell ?_ ?_ _) | go_size | (exact (by simp)) | omega))
  generalize World.alloc w _ = w1 at *
  have po1 : Hid (Prs w1 w1.heap.size A ps) := prs_keep hHP.out hB1
  have wo1 : Hid (Prs w1 w1.heap.size Aw ws) := prs_keep hHQ.out hB1
  have eo1 : Hid (GIn w1 w1.heap.size Ae ce es) := (hHE.out.keep hB1).wider hB1.size
  have ct0 : w1.cell? ⟨w.heap.size, 0, none⟩ = some (.slice A ps.length c) := bT1.cell 0 rfl
  have ct1 : w1.cell? ⟨w.heap.size, 1, none⟩ = some (.int .i64 cl) := bT1.cell 1 rfl
  have ct2 : w1.cell? ⟨w.heap.size, 2, none⟩ = some (.int .i64 lo) := bT1.cell 2 rfl
  have ct3 : w1.cell? ⟨w.heap.size, 3, none⟩ = some (.int .i64 hi) := bT1.cell 3 rfl
  have lT1 := bT1.lt
  try go_wp2_with fail
  refine (HCP.out _ hB1).mono ?_
  rintro e w2 ⟨A1, cR, rfl, hO2, hb2⟩
  have pp2 : Hid (Prs w2 w2.heap.size A1 ps) := prsP_of_own hO2.out
  have bT2 := bT1.below hb2
  have hB2 := hB1.trans (hb2.mono hB1.size)
  have po2 : Hid (Prs w2 w2.heap.size A ps) := (po1.out.keep hb2).wider hb2.size
  have wo2 : Hid (Prs w2 w2.heap.size Aw ws) := (wo1.out.keep hb2).wider hb2.size
  have eo2 : Hid (GIn w2 w2.heap.size Ae ce es) := (eo1.out.keep hb2).wider hb2.size
  clear ct0 ct1 ct2 ct3 lT1 bT1 po1 wo1 eo1 hB1 hb2 hO2
  go_wp2_with (at_builtin; first | (refine wpList_copy rfl (.tmp 35) (.tmp 36) rfl Aw cw ws w2.heap.size rfl rfl rfl wo2.out (by omega) ?_; intro A2 cS w3 hown3 hb3; have eo3 : Hid (GIn w3 w3.heap.size Ae ce es) := (eo2.out.keep hb3).wider hb3.size) | go_must (refine wpList_copyi rfl (.tmp 38) (.tmp 39) rfl Ae ce es w3.heap.size rfl rfl rfl eo3.out (by omega) ?_; intro A3 cE w4 hown4 hb4))
  clear eo3
  have ww3 : Hid (Prs w3 w3.heap.size A2 ws) := prsP_of_own hown3
  have bT3 := bT2.below hb3
  have hB3 := hB2.trans (hb3.mono hB2.size)
  have po3 : Hid (Prs w3 w3.heap.size A ps) := (po2.out.keep hb3).wider hb3.size
  have wo3 : Hid (Prs w3 w3.heap.size Aw ws) := (wo2.out.keep hb3).wider hb3.size
  have eo3 : Hid (GIn w3 w3.heap.size Ae ce es) := (eo2.out.keep hb3).wider hb3.size
  have pp3 : Hid (Prs w3 w3.heap.size A1 ps) := (pp2.out.keep hb3).wider hb3.size
  clear bT2 po2 wo2 eo2 pp2 hB2 hb3 hown3
  have ee4 : Hid (Ints w4 w4.heap.size (.slice A3 es.length cE) es) := Ints.of_own hown4
  have bT4 := bT3.below hb4
  have hB4 := hB3.trans (hb4.mono hB3.size)
  have po4 : Hid (Prs w4 w4.heap.size A ps) := (po3.out.keep hb4).wider hb4.size
  have wo4 : Hid (Prs w4 w4.heap.size Aw ws) := (wo3.out.keep hb4).wider hb4.size
  have eo4 : Hid (GIn w4 w4.heap.size Ae ce es) := (eo3.out.keep hb4).wider hb4.size
  have pp4 : Hid (Prs w4 w4.heap.size A1 ps) := (pp3.out.keep hb4).wider hb4.size
  have ww4 : Hid (Prs w4 w4.heap.size A2 ws) := (ww3.out.keep hb4).wider hb4.size
  clear bT3 po3 wo3 eo3 pp3 ww3 hB3 hb4 hown4
  have bO5n := BoxS.new w4 26 #[.slice A1 ps.length cR, .int .i64 cl, .int .i64 lo, .int .i64 hi]
  have hbx : Below w4.heap.size w4 (w4.alloc (.cells #[.slice A1 ps.length cR, .int .i64 cl, .int .i64 lo, .int .i64 hi] 26)) := (Below.refl _ _).alloc (Nat.le_refl _) _
  have bT5 := bT4.below hbx
  have hB5 := hB4.trans (hbx.mono hB4.size)
  have po5 : Hid (Prs (w4.alloc (.cells #[.slice A1 ps.length cR, .int .i64 cl, .int .i64 lo, .int .i64 hi] 26)) (w4.alloc (.cells #[.slice A1 ps.length cR, .int .i64 cl, .int .i64 lo, .int .i64 hi] 26)).heap.size A ps) := (po4.out.keep hbx).wider hbx.size
  have wo5 : Hid (Prs (w4.alloc (.cells #[.slice A1 ps.length cR, .int .i64 cl, .int .i64 lo, .int .i64 hi] 26)) (w4.alloc (.cells #[.slice A1 ps.length cR, .int .i64 cl, .int .i64 lo, .int .i64 hi] 26)).heap.size Aw ws) := (wo4.out.keep hbx).wider hbx.size
  have eo5 : Hid (GIn (w4.alloc (.cells #[.slice A1 ps.length cR, .int .i64 cl, .int .i64 lo, .int .i64 hi] 26)) (w4.alloc (.cells #[.slice A1 ps.length cR, .int .i64 cl, .int .i64 lo, .int .i64 hi] 26)).heap.size Ae ce es) := (eo4.out.keep hbx).wider hbx.size
  have pp5 : Hid (Prs (w4.alloc (.cells #[.slice A1 ps.length cR, .int .i64 cl, .int .i64 lo, .int .i64 hi] 26)) (w4.alloc (.cells #[.slice A1 ps.length cR, .int .i64 cl, .int .i64 lo, .int .i64 hi] 26)).heap.size A1 ps) := (pp4.out.keep hbx).wider hbx.size
  have ww5 : Hid (Prs (w4.alloc (.cells #[.slice A1 ps.length cR, .int .i64 cl, .int .i64 lo, .int .i64 hi] 26)) (w4.alloc (.cells #[.slice A1 ps.length cR, .int .i64 cl, .int .i64 lo, .int .i64 hi] 26)).heap.size A2 ws) := (ww4.out.keep hbx).wider hbx.size
  have ee5 : Hid (Ints (w4.alloc (.cells #[.slice A1 ps.length cR, .int .i64 cl, .int .i64 lo, .int .i64 hi] 26)) (w4.alloc (.cells #[.slice A1 ps.length cR, .int .i64 cl, .int .i64 lo, .int .i64 hi] 26)).heap.size (.slice A3 es.length cE) es) := (ee4.out.keep hbx).more hbx.size
  obtain ⟨BO, hBe⟩ : ∃ B, B = w4.heap.size := ⟨_, rfl⟩
  have kO : w.heap.size < BO := by have := bT4.lt; omega
  rw [← hBe] at bO5n ⊢
  have bO5 := bO5n
  clear bT4 po4 wo4 eo4 pp4 ww4 ee4 hB4 hbx hBe bO5n
  generalize World.alloc w4 _ = w5 at *
  have ct0 : w5.cell? ⟨w.heap.size, 0, none⟩ = some (.slice A ps.length c) := bT5.cell 0 rfl
  have ct1 : w5.cell? ⟨w.heap.size, 1, none⟩ = some (.int .i64 cl) := bT5.cell 1 rfl
  have ct2 : w5.cell? ⟨w.heap.size, 2, none⟩ = some (.int .i64 lo) := bT5.cell 2 rfl
  have ct3 : w5.cell? ⟨w.heap.size, 3, none⟩ = some (.int .i64 hi) := bT5.cell 3 rfl
  have lT5 := bT5.lt
  have co0 : w5.cell? ⟨BO, 0, none⟩ = some (.slice A1 ps.length cR) := bO5.cell 0 rfl
  have co1 : w5.cell? ⟨BO, 1, none⟩ = some (.int .i64 cl) := bO5.cell 1 rfl
  have co2 : w5.cell? ⟨BO, 2, none⟩ = some (.int .i64 lo) := bO5.cell 2 rfl
  have co3 : w5.cell? ⟨BO, 3, none⟩ = some (.int .i64 hi) := bO5.cell 3 rfl
  have lO5 := bO5.lt
  try go_wp2_with fail
  refine (HSW.out _ _ _ _ _ _ _ pp5.out ww5.out ee5.out).mono ?_
  rintro e w6 ⟨rfl, hb6⟩
  have bT6 := bT5.below hb6
  have bO6 := bO5.below hb6
  have hB6 := hB5.trans (hb6.mono hB5.size)
  have po6 : Hid (Prs w6 w6.heap.size A ps) := (po5.out.keep hb6).wider hb6.size
  have wo6 : Hid (Prs w6 w6.heap.size Aw ws) := (wo5.out.keep hb6).wider hb6.size
  have eo6 : Hid (GIn w6 w6.heap.size Ae ce es) := (eo5.out.keep hb6).wider hb6.size
  have pp6 : Hid (Prs w6 w6.heap.size A1 ps) := (pp5.out.keep hb6).wider hb6.size
  have ww6 : Hid (Prs w6 w6.heap.size A2 ws) := (ww5.out.keep hb6).wider hb6.size
  have ee6 : Hid (Ints w6 w6.heap.size (.slice A3 es.length cE) es) := (ee5.out.keep hb6).more hb6.size
  clear ct0 ct1 ct2 ct3 lT5 co0 co1 co2 co3 lO5 bT5 bO5 po5 wo5 eo5 pp5 ww5 ee5 hB5 hb6
  have ct0 : w6.cell? ⟨w.heap.size, 0, none⟩ = some (.slice A ps.length c) := bT6.cell 0 rfl
  have ct1 : w6.cell? ⟨w.heap.size, 1, none⟩ = some (.int .i64 cl) := bT6.cell 1 rfl
  have ct2 : w6.cell? ⟨w.heap.size, 2, none⟩ = some (.int .i64 lo) := bT6.cell 2 rfl
  have ct3 : w6.cell? ⟨w.heap.size, 3, none⟩ = some (.int .i64 hi) := bT6.cell 3 rfl
  have lT6 := bT6.lt
  have co0 : w6.cell? ⟨BO, 0, none⟩ = some (.slice A1 ps.length cR) := bO6.cell 0 rfl
  have co1 : w6.cell? ⟨BO, 1, none⟩ = some (.int .i64 cl) := bO6.cell 1 rfl
  have co2 : w6.cell? ⟨BO, 2, none⟩ = some (.int .i64 lo) := bO6.cell 2 rfl
  have co3 : w6.cell? ⟨BO, 3, none⟩ = some (.int .i64 hi) := bO6.cell 3 rfl
  have lO6 := bO6.lt
  go_wp2_with fail
  refine (HS5.out _ _ _ _ _ _ _ po6.out wo6.out eo6.out).mono ?_
  rintro e w7 ⟨rfl, hb7⟩
  have bT7 := bT6.below hb7
  have bO7 := bO6.below hb7
  have hB7 := hB6.trans (hb7.mono hB6.size)
  have po7 : Hid (Prs w7 w7.heap.size A ps) := (po6.out.keep hb7).wider hb7.size
  have wo7 : Hid (Prs w7 w7.heap.size Aw ws) := (wo6.out.keep hb7).wider hb7.size
  have eo7 : Hid (GIn w7 w7.heap.size Ae ce es) := (eo6.out.keep hb7).wider hb7.size
  have pp7 : Hid (Prs w7 w7.heap.size A1 ps) := (pp6.out.keep hb7).wider hb7.size
  have ww7 : Hid (Prs w7 w7.heap.size A2 ws) := (ww6.out.keep hb7).wider hb7.size
  have ee7 : Hid (Ints w7 w7.heap.size (.slice A3 es.length cE) es) := (ee6.out.keep hb7).more hb7.size
  clear ct0 ct1 ct2 ct3 lT6 co0 co1 co2 co3 lO6 bT6 bO6 po6 wo6 eo6 pp6 ww6 ee6 hB6 hb7
  have ct0 : w7.cell? ⟨w.heap.size, 0, none⟩ = some (.slice A ps.length c) := bT7.cell 0 rfl
  have ct1 : w7.cell? ⟨w.heap.size, 1, none⟩ = some (.int .i64 cl) := bT7.cell 1 rfl
  have ct2 : w7.cell? ⟨w.heap.size, 2, none⟩ = some (.int .i64 lo) := bT7.cell 2 rfl
  have ct3 : w7.cell? ⟨w.heap.size, 3, none⟩ = some (.int .i64 hi) := bT7.cell 3 rfl
  have lT7 := bT7.lt
  have co0 : w7.cell? ⟨BO, 0, none⟩ = some (.slice A1 ps.length cR) := bO7.cell 0 rfl
  have co1 : w7.cell? ⟨BO, 1, none⟩ = some (.int .i64 cl) := bO7.cell 1 rfl
  have co2 : w7.cell? ⟨BO, 2, none⟩ = some (.int .i64 lo) := bO7.cell 2 rfl
  have co3 : w7.cell? ⟨BO, 3, none⟩ = some (.int .i64 hi) := bO7.cell 3 rfl
  have lO7 := bO7.lt
  go_wp2_with fail
  refine (HTU.out _ _ _ _ _ _ _ pp7.out ww7.out ee7.out).mono ?_
  rintro e w8 ⟨rfl, hb8⟩
  have bT8 := bT7.below hb8
  have bO8 := bO7.below hb8
  have hB8 := hB7.trans (hb8.mono hB7.size)
  have po8 : Hid (Prs w8 w8.heap.size A ps) := (po7.out.keep hb8).wider hb8.size
  have wo8 : Hid (Prs w8 w8.heap.size Aw ws) := (wo7.out.keep hb8).wider hb8.size
  have eo8 : Hid (GIn w8 w8.heap.size Ae ce es) := (eo7.out.keep hb8).wider hb8.size
  have pp8 : Hid (Prs w8 w8.heap.size A1 ps) := (pp7.out.keep hb8).wider hb8.size
  have ww8 : Hid (Prs w8 w8.heap.size A2 ws) := (ww7.out.keep hb8).wider hb8.size
  have ee8 : Hid (Ints w8 w8.heap.size (.slice A3 es.length cE) es) := (ee7.out.keep hb8).more hb8.size
  clear ct0 ct1 ct2 ct3 lT7 co0 co1 co2 co3 lO7 bT7 bO7 po7 wo7 eo7 pp7 ww7 ee7 hB7 hb8
  have ct0 : w8.cell? ⟨w.heap.size, 0, none⟩ = some (.slice A ps.length c) := bT8.cell 0 rfl
  have ct1 : w8.cell? ⟨w.heap.size, 1, none⟩ = some (.int .i64 cl) := bT8.cell 1 rfl
  have ct2 : w8.cell? ⟨w.heap.size, 2, none⟩ = some (.int .i64 lo) := bT8.cell 2 rfl
  have ct3 : w8.cell? ⟨w.heap.size, 3, none⟩ = some (.int .i64 hi) := bT8.cell 3 rfl
  have lT8 := bT8.lt
  have co0 : w8.cell? ⟨BO, 0, none⟩ = some (.slice A1 ps.length cR) := bO8.cell 0 rfl
  have co1 : w8.cell? ⟨BO, 1, none⟩ = some (.int .i64 cl) := bO8.cell 1 rfl
  have co2 : w8.cell? ⟨BO, 2, none⟩ = some (.int .i64 lo) := bO8.cell 2 rfl
  have co3 : w8.cell? ⟨BO, 3, none⟩ = some (.int .i64 hi) := bO8.cell 3 rfl
  have lO8 := bO8.lt
  go_wp2_with fail
  refine (HT5.out _ _ _ _ _ _ _ po8.out wo8.out eo8.out).mono ?_
  rintro e w9 ⟨rfl, hb9⟩
  have bT9 := bT8.below hb9
  have bO9 := bO8.below hb9
  have hB9 := hB8.trans (hb9.mono hB8.size)
  have po9 : Hid (Prs w9 w9.heap.size A ps) := (po8.out.keep hb9).wider hb9.size
  have wo9 : Hid (Prs w9 w9.heap.size Aw ws) := (wo8.out.keep hb9).wider hb9.size
  have eo9 : Hid (GIn w9 w9.heap.size Ae ce es) := (eo8.out.keep hb9).wider hb9.size
  have pp9 : Hid (Prs w9 w9.heap.size A1 ps) := (pp8.out.keep hb9).wider hb9.size
  have ww9 : Hid (Prs w9 w9.heap.size A2 ws) := (ww8.out.keep hb9).wider hb9.size
  have ee9 : Hid (Ints w9 w9.heap.size (.slice A3 es.length cE) es) := (ee8.out.keep hb9).more hb9.size
  clear ct0 ct1 ct2 ct3 lT8 co0 co1 co2 co3 lO8 bT8 bO8 po8 wo8 eo8 pp8 ww8 ee8 hB8 hb9
  have ct0 : w9.cell? ⟨w.heap.size, 0, none⟩ = some (.slice A ps.length c) := bT9.cell 0 rfl
  have ct1 : w9.cell? ⟨w.heap.size, 1, none⟩ = some (.int .i64 cl) := bT9.cell 1 rfl
  have ct2 : w9.cell? ⟨w.heap.size, 2, none⟩ = some (.int .i64 lo) := bT9.cell 2 rfl
  have ct3 : w9.cell? ⟨w.heap.size, 3, none⟩ = some (.int .i64 hi) := bT9.cell 3 rfl
  have lT9 := bT9.lt
  have co0 : w9.cell? ⟨BO, 0, none⟩ = some (.slice A1 ps.length cR) := bO9.cell 0 rfl
  have co1 : w9.cell? ⟨BO, 1, none⟩ = some (.int .i64 cl) := bO9.cell 1 rfl
  have co2 : w9.cell? ⟨BO, 2, none⟩ = some (.int .i64 lo) := bO9.cell 2 rfl
  have co3 : w9.cell? ⟨BO, 3, none⟩ = some (.int .i64 hi) := bO9.cell 3 rfl
  have lO9 := bO9.lt
  go_wp2_with fail
  refine (HSP.out _ _ _ _ _ _ h1 pp9.out po9.out).mono ?_
  rintro e w10 ⟨rfl, hb10⟩
  have bT10 := bT9.below hb10
  have bO10 := bO9.below hb10
  have hB10 := hB9.trans (hb10.mono hB9.size)
  have po10 : Hid (Prs w10 w10.heap.size A ps) := (po9.out.keep hb10).wider hb10.size
  have wo10 : Hid (Prs w10 w10.heap.size Aw ws) := (wo9.out.keep hb10).wider hb10.size
  have eo10 : Hid (GIn w10 w10.heap.size Ae ce es) := (eo9.out.keep hb10).wider hb10.size
  have pp10 : Hid (Prs w10 w10.heap.size A1 ps) := (pp9.out.keep hb10).wider hb10.size
  have ww10 : Hid (Prs w10 w10.heap.size A2 ws) := (ww9.out.keep hb10).wider hb10.size
  have ee10 : Hid (Ints w10 w10.heap.size (.slice A3 es.length cE) es) := (ee9.out.keep hb10).more hb10.size
  clear ct0 ct1 ct2 ct3 lT9 co0 co1 co2 co3 lO9 bT9 bO9 po9 wo9 eo9 pp9 ww9 ee9 hB9 hb10
  have ct0 : w10.cell? ⟨w.heap.size, 0, none⟩ = some (.slice A ps.length c) := bT10.cell 0 rfl
  have ct1 : w10.cell? ⟨w.heap.size, 1, none⟩ = some (.int .i64 cl) := bT10.cell 1 rfl
  have ct2 : w10.cell? ⟨w.heap.size, 2, none⟩ = some (.int .i64 lo) := bT10.cell 2 rfl
  have ct3 : w10.cell? ⟨w.heap.size, 3, none⟩ = some (.int .i64 hi) := bT10.cell 3 rfl
  have lT10 := bT10.lt
  have co0 : w10.cell? ⟨BO, 0, none⟩ = some (.slice A1 ps.length cR) := bO10.cell 0 rfl
  have co1 : w10.cell? ⟨BO, 1, none⟩ = some (.int .i64 cl) := bO10.cell 1 rfl
  have co2 : w10.cell? ⟨BO, 2, none⟩ = some (.int .i64 lo) := bO10.cell 2 rfl
  have co3 : w10.cell? ⟨BO, 3, none⟩ = some (.int .i64 hi) := bO10.cell 3 rfl
  have lO10 := bO10.lt
  go_wp2_with fail
  refine (HSP.out _ _ _ _ _ _ h2 ww10.out wo10.out).mono ?_
  rintro e w11 ⟨rfl, hb11⟩
  have bT11 := bT10.below hb11
  have bO11 := bO10.below hb11
  have hB11 := hB10.trans (hb11.mono hB10.size)
  have po11 : Hid (Prs w11 w11.heap.size A ps) := (po10.out.keep hb11).wider hb11.size
  have wo11 : Hid (Prs w11 w11.heap.size Aw ws) := (wo10.out.keep hb11).wider hb11.size
  have eo11 : Hid (GIn w11 w11.heap.size Ae ce es) := (eo10.out.keep hb11).wider hb11.size
  have pp11 : Hid (Prs w11 w11.heap.size A1 ps) := (pp10.out.keep hb11).wider hb11.size
  have ww11 : Hid (Prs w11 w11.heap.size A2 ws) := (ww10.out.keep hb11).wider hb11.size
  have ee11 : Hid (Ints w11 w11.heap.size (.slice A3 es.length cE) es) := (ee10.out.keep hb11).more hb11.size
  clear ct0 ct1 ct2 ct3 lT10 co0 co1 co2 co3 lO10 bT10 bO10 po10 wo10 eo10 pp10 ww10 ee10 hB10 hb11
  have ct0 : w11.cell? ⟨w.heap.size, 0, none⟩ = some (.slice A ps.length c) := bT11.cell 0 rfl
  have ct1 : w11.cell? ⟨w.heap.size, 1, none⟩ = some (.int .i64 cl) := bT11.cell 1 rfl
  have ct2 : w11.cell? ⟨w.heap.size, 2, none⟩ = some (.int .i64 lo) := bT11.cell 2 rfl
  have ct3 : w11.cell? ⟨w.heap.size, 3, none⟩ = some (.int .i64 hi) := bT11.cell 3 rfl
  have lT11 := bT11.lt
  have co0 : w11.cell? ⟨BO, 0, none⟩ = some (.slice A1 ps.length cR) := bO11.cell 0 rfl
  have co1 : w11.cell? ⟨BO, 1, none⟩ = some (.int .i64 cl) := bO11.cell 1 rfl
  have co2 : w11.cell? ⟨BO, 2, none⟩ = some (.int .i64 lo) := bO11.cell 2 rfl
  have co3 : w11.cell? ⟨BO, 3, none⟩ = some (.int .i64 hi) := bO11.cell 3 rfl
  have lO11 := bO11.lt
  go_wp2_with fail
  refine (HSI.out _ _ _ _ _ (GIn.of ee11.out) eo11.out).mono ?_
  rintro e w12 ⟨rfl, hb12⟩
  have bT12 := bT11.below hb12
  have bO12 := bO11.below hb12
  have hB12 := hB11.trans (hb12.mono hB11.size)
  have po12 : Hid (Prs w12 w12.heap.size A ps) := (po11.out.keep hb12).wider hb12.size
  have wo12 : Hid (Prs w12 w12.heap.size Aw ws) := (wo11.out.keep hb12).wider hb12.size
  have eo12 : Hid (GIn w12 w12.heap.size Ae ce es) := (eo11.out.keep hb12).wider hb12.size
  have pp12 : Hid (Prs w12 w12.heap.size A1 ps) := (pp11.out.keep hb12).wider hb12.size
  have ww12 : Hid (Prs w12 w12.heap.size A2 ws) := (ww11.out.keep hb12).wider hb12.size
  have ee12 : Hid (Ints w12 w12.heap.size (.slice A3 es.length cE) es) := (ee11.out.keep hb12).more hb12.size
  clear ct0 ct1 ct2 ct3 lT11 co0 co1 co2 co3 lO11 bT11 bO11 po11 wo11 eo11 pp11 ww11 ee11 hB11 hb12
  have ct0 : w12.cell? ⟨w.heap.size, 0, none⟩ = some (.slice A ps.length c) := bT12.cell 0 rfl
  have ct1 : w12.cell? ⟨w.heap.size, 1, none⟩ = some (.int .i64 cl) := bT12.cell 1 rfl
  have ct2 : w12.cell? ⟨w.heap.size, 2, none⟩ = some (.int .i64 lo) := bT12.cell 2 rfl
  have ct3 : w12.cell? ⟨w.heap.size, 3, none⟩ = some (.int .i64 hi) := bT12.cell 3 rfl
  have lT12 := bT12.lt
  have co0 : w12.cell? ⟨BO, 0, none⟩ = some (.slice A1 ps.length cR) := bO12.cell 0 rfl
  have co1 : w12.cell? ⟨BO, 1, none⟩ = some (.int .i64 cl) := bO12.cell 1 rfl
  have co2 : w12.cell? ⟨BO, 2, none⟩ = some (.int .i64 lo) := bO12.cell 2 rfl
  have co3 : w12.cell? ⟨BO, 3, none⟩ = some (.int .i64 hi) := bO12.cell 3 rfl
  have lO12 := bO12.lt
  go_wp2_with fail
  refine (HWK.out _).mono ?_
  rintro e wz ⟨rfl, hbz⟩
  have hBz := hB12.trans (hbz.mono hB12.size)
  go_wp2_with fail
  go_returns
  exact ⟨rfl, hBz⟩
theorem lawSw_walk (t : Wl.Trk) (A : Option Addr) (c : Nat) (Aw : Option Addr) (cw : Nat) (ws : List (Int × Int)) (Ae : Option Addr) (ce : Nat) (es : List Int) (w : World) (_h1 : t.ps.length ≤ maxLen) (hP : Prs w w.heap.size A t.ps) (_h2 : ws.length ≤ maxLen) (hQ : Prs w w.heap.size Aw ws) (_h3 : es.length ≤ maxLen) (hE : 0 < es.length → Ints w w.heap.size (.slice Ae es.length ce) es) :
    Calls Try.prog 4 #[.agg (trV t A c), .slice Aw ws.length cw, .slice Ae es.length ce] w fun e w' => e = .returned (.bool true) ∧ Below w.heap.size w w' := by
  by_cases h : 40 < t.ps.length ∨ 40 < ws.length ∨ 40 < es.length
  · exact Sw_early t ws es A Aw Ae c cw ce w h
  · exact Sw_short t ws es A Aw Ae c cw ce w hP hQ hE (by omega) (by omega) (by omega)

open Go.ChangeShapes Go.WideShapes Go.ChangeAt Go.RowKit Go.Joins

open Go.ChangeShapes Go.WideShapes Go.ChangeAt Go.RowKit Go.Joins

set_option maxRecDepth 100000 in
theorem sweep5_lifted (os : Os) (started : os.Started) (H : Type) (enc : TypeId × Value → H) :
    ReturnsInHanded {} Try.checked os 4 .any (Rows.walksSweepSpec.pre6 enc Try.prog Try.f4 Rows.walksSweepRow.domain false) (Rows.walksSweepSpec.post enc Try.prog Try.f4 false true false false) := by
  refine returnsInHanded_of_change (C := Try.checked) own started (by kernel_rfl) Try.func4
    (ChangeSpec.witness6 (enc := enc) (C := Try.checked) false ⟨#[], #[.agg #[.slice none 0 0, .int .i64 0, .int .i64 0, .int .i64 0], .slice none 0 0, .slice none 0 0], []⟩ 8 (by kernel_rfl) (by kernel_rfl) (by kernel_rfl) (by kernel_rfl)) ?_
  intro W base args ds gs before hval0 hW hcnd _
  have hval : ∀ (j : Nat) t v, Try.f4.params[j]? = some t → args[j]? = some v → Value.okWide Try.prog W .any base t v := hval0
  have hW' := hW
  obtain ⟨p, q, hA0, hV, rfl, hfz, hnd⟩ := hW
  have hA : DataW.TrodAll enc Try.prog W 0 (fun _ => true) true Try.f4.params.toList args.toList ds p := hA0
  rw [Try.params4] at hA hval
  obtain ⟨v0, v1, v2, d0, d1, d2, p0, p1, p2, rfl, rfl, rfl, h0, h1, h2⟩ := trodAll_three hA
  obtain ⟨rfl, rfl⟩ := trodVars_none hV
  obtain ⟨t, A, c, rfl, hg_t, hl_t⟩ := open_Track (hval 0 26 v0 rfl rfl) h0
  obtain ⟨Aw, cw, ws, rfl, hg_ws, hl_ws⟩ := open_prs Try.underlying22 Try.underlying28 (by kernel_rfl) (by kernel_rfl) (by kernel_rfl) (by kernel_rfl) (by kernel_rfl) Try.underlying3 Try.underlying3 (hval 1 22 v1 rfl rfl) h1
  obtain ⟨Ae, ce, es, rfl, hg_Ae, hl_Ae⟩ := open_Ints5 (hval 2 35 v2 rfl rfl) h2
  refine (lawSw_walk t A c Aw cw ws Ae ce es W hl_t hg_t hl_ws hg_ws hl_Ae hg_Ae).mono fun e W' ⟨he, hb⟩ => ?_
  subst he
  exact ⟨_, rfl, law_post hW' rfl rfl (by intro t ht; have : t = 26 ∨ t = 22 ∨ t = 35 := (by rw [Try.params4] at ht; simpa using ht); rcases this with rfl | rfl | rfl <;> exact ⟨by kernel_rfl, of_decide_eq_true (by kernel_rfl)⟩) rfl rfl rfl hb⟩

theorem sweep5_holds : Rows.WalksSweepSaid :=
  OpenClaim.holds_of_wide 4 Try.f4 rfl rfl rfl rfl rfl rfl rfl ⟨rfl, rfl, rfl, rfl, rfl⟩ rfl rfl rfl rfl rfl (by kernel_rfl) Try.func4 (by kernel_rfl)
    (of_decide_eq_true (by kernel_rfl)) (by unfold Func.isWrapper; rw [if_neg (of_decide_eq_false (by kernel_rfl))]; exact ⟨rfl, rfl⟩)
    (fun os started H enc _ => sweep5_lifted os started H enc)
end Go.Proofs.Ytmjcdggmofohcaa
