/- Walks: the law WalksElbows (P5.6 to P5.9). -/
import Derived.Test.YtmjcdggmofohcaaOpW
import Derived.Test.YtmjcdggmofohcaaWk5
import Derived.Test.YtmjcdggmofohcaaRol5
import Derived.Test.YtmjcdggmofohcaaWlZ
namespace Go.Proofs.Ytmjcdggmofohcaa
open Go.RowKit
namespace Wl
theorem knL_few {t : Trk} {ws : List Pt} (h : farB t ws = false) : (knL t ws).length ≤ 100000 := by
  unfold knL
  split
  · rename_i hc
    obtain ⟨h1, h2⟩ := chk_yes.1 hc
    have h3 := allL_len (ws := ws) (trk_parts h1).2.2.2 ws.length []
    rw [allL_elbsL (pts_pos h2)] at h3
    have hw5 : ws.length ≤ 5 := (ready_lens (show readyB t ws = true by unfold readyB; rw [h, decide_eq_true hc]; rfl)).2.1
    have h4 : (8 : Nat) ^ ws.length ≤ 8 ^ 5 := Nat.pow_le_pow_right (by decide) hw5
    have h5 : (8 : Nat) ^ 5 = 32768 := by decide
    omega
  · simp
theorem rolls_few {t : Trk} {ws : List Pt} (h : farB t ws = false) : (if setE t ws = 0 then rollsL t ws else []).length ≤ 1000000000 := by
  split
  · rename_i h0
    have h1 := knL_few h
    unfold knL at h1
    rw [if_pos (chk_yes.2 (setE_yes h0).1)] at h1
    have h2 := rollTo_len (t := t) (ws := ws) (l := elbsL t ws) (elbsL t ws).length (Nat.le_refl _)
    unfold rollTo at h2
    rw [List.take_length] at h2
    have h3 : (rollsL t ws).length ≤ (elbsL t ws).length := h2
    omega
  · simp
end Wl
set_option maxRecDepth 100000 in
set_option maxHeartbeats 8000000 in
theorem El_early (t : Wl.Trk) (ws : List Wl.Pt) (A Aw : Option Addr) (c cw : Nat) (w : World) (hP : Prs w w.heap.size A t.ps) (hQ : Prs w w.heap.size Aw ws) (h : Wl.farB t ws = true) :
    Calls Try.prog 5 #[.agg (trV t A c), .slice Aw ws.length cw] w fun e w' => e = .returned (.bool true) ∧ Below w.heap.size w w' := by
  have HWK : Hid (∀ W, Calls Try.prog 12 #[] W fun e w' => e = .returned (.bool true) ∧ Below W.heap.size W w') := works5_any
  have HFA : Hid (∀ W, Below w.heap.size w W → Calls Try.prog 28 #[.agg (trV t A c), .slice Aw ws.length cw] W fun e w' => e = .returned (.bool true) ∧ Below W.heap.size W w') := fun W hW => by
    have := Far5_any t ws A Aw c cw W (prs_keep hP hW) (prs_keep hQ hW)
    rw [h] at this
    exact this
  clear hP hQ h
  obtain ⟨ps, cl, lo, hi⟩ := t
  unfold trV at *
  dsimp only at *
  go_enter Try.func5, Try.ntmps5
  go_wp2_with fail
  have bT1 := BoxS.new w 26 #[.slice A ps.length c, .int .i64 cl, .int .i64 lo, .int .i64 hi]
  have hB1 : Below w.heap.size w (w.alloc (.cells #[.slice A ps.length c, .int .i64 cl, .int .i64 lo, .int .i64 hi] 26)) := by (repeat' (first | (with_reducible exact Below.refl _ _) | (with_reducible assumption) | (with_reducible refine Below.alloc ?_ ?_ _) | (with_reducible refine Below.drew ?_) | (with_reducible refine Below.setCell ?_ ?_ _) | go_size | (exact (by simp)) | omega))
  generalize World.alloc w _ = w1 at *
  have ct0 : w1.cell? ⟨w.heap.size, 0, none⟩ = some (.slice A ps.length c) := bT1.cell 0 rfl
  have ct1 : w1.cell? ⟨w.heap.size, 1, none⟩ = some (.int .i64 cl) := bT1.cell 1 rfl
  have ct2 : w1.cell? ⟨w.heap.size, 2, none⟩ = some (.int .i64 lo) := bT1.cell 2 rfl
  have ct3 : w1.cell? ⟨w.heap.size, 3, none⟩ = some (.int .i64 hi) := bT1.cell 3 rfl
  have lT1 := bT1.lt
  try go_wp2_with fail
  refine (HFA.out _ hB1).mono ?_
  rintro e w2 ⟨rfl, hb2⟩
  have bT2 := bT1.below hb2
  have hB2 := hB1.trans (hb2.mono hB1.size)
  clear ct0 ct1 ct2 ct3 lT1 bT1 hB1 hb2
  have ct0 : w2.cell? ⟨w.heap.size, 0, none⟩ = some (.slice A ps.length c) := bT2.cell 0 rfl
  have ct1 : w2.cell? ⟨w.heap.size, 1, none⟩ = some (.int .i64 cl) := bT2.cell 1 rfl
  have ct2 : w2.cell? ⟨w.heap.size, 2, none⟩ = some (.int .i64 lo) := bT2.cell 2 rfl
  have ct3 : w2.cell? ⟨w.heap.size, 3, none⟩ = some (.int .i64 hi) := bT2.cell 3 rfl
  have lT2 := bT2.lt
  go_wp2_with fail
  refine (HWK.out _).mono ?_
  rintro e wz ⟨rfl, hbz⟩
  have hBz := hB2.trans (hbz.mono hB2.size)
  go_wp2_with fail
  go_returns
  exact ⟨rfl, hBz⟩
set_option maxRecDepth 100000 in
set_option maxHeartbeats 16000000 in
theorem El_short (t : Wl.Trk) (ws : List Wl.Pt) (A Aw : Option Addr) (c cw : Nat) (w : World) (hP : Prs w w.heap.size A t.ps) (hQ : Prs w w.heap.size Aw ws) (h : Wl.farB t ws = false) :
    Calls Try.prog 5 #[.agg (trV t A c), .slice Aw ws.length cw] w fun e w' => e = .returned (.bool true) ∧ Below w.heap.size w w' := by
  have HWK : Hid (∀ W, Calls Try.prog 12 #[] W fun e w' => e = .returned (.bool true) ∧ Below W.heap.size W w') := works5_any
  obtain ⟨l40, m40⟩ := Wl.far_lens h
  have hp9 : t.ps.length ≤ 1000000000 := by omega
  have hw9 : ws.length ≤ 1000000000 := by omega
  have hkl : (Wl.knL t ws).length ≤ 100000 := Wl.knL_few h
  have HFA : Hid (∀ W, Below w.heap.size w W → Calls Try.prog 28 #[.agg (trV t A c), .slice Aw ws.length cw] W fun e w' => e = .returned (.bool false) ∧ Below W.heap.size W w') := fun W hW => by
    have := Far5_any t ws A Aw c cw W (prs_keep hP hW) (prs_keep hQ hW)
    rw [h] at this
    exact this
  have HCP : Hid (∀ W, Below w.heap.size w W → Calls Try.prog 13 #[.agg (trV t A c)] W (Copy5Post t W)) := fun W hW => Copy5_own t A c hp9 W (prs_keep hP hW)
  have HMW : Hid (∀ (A' Aw' : Option Addr) (c' cw' : Nat) (W : World), Prs W W.heap.size A' t.ps → Prs W W.heap.size Aw' ws → Calls Try.prog 29 #[.agg #[.slice A' t.ps.length c', .int .i64 t.cl, .int .i64 t.lo, .int .i64 t.hi], .slice Aw' ws.length cw'] W (TwoPost (if Wl.setE t ws = 0 then ((Wl.elbsL t ws).length : Int) else 0) (Wl.setE t ws) W)) := fun A' Aw' c' cw' W h1 h2 => ManyW_any t ws A' Aw' c' cw' hp9 hw9 W h1 h2
  have HM5 : Hid (∀ (A' Aw' : Option Addr) (c' cw' : Nat) (W : World), Prs W W.heap.size A' t.ps → Prs W W.heap.size Aw' ws → Calls Try.prog 30 #[.agg #[.slice A' t.ps.length c', .int .i64 t.cl, .int .i64 t.lo, .int .i64 t.hi], .slice Aw' ws.length cw'] W (TwoPost (if Wl.setE t ws = 0 then ((Wl.elbsL t ws).length : Int) else 0) (Wl.setE t ws) W)) := fun A' Aw' c' cw' W h1 h2 => Many5_any t ws A' Aw' c' cw' hp9 hw9 W h1 h2
  have HRW : Hid (∀ (A' Aw' : Option Addr) (c' cw' : Nat) (W : World), Prs W W.heap.size A' t.ps → Prs W W.heap.size Aw' ws → Calls Try.prog 31 #[.agg #[.slice A' t.ps.length c', .int .i64 t.cl, .int .i64 t.lo, .int .i64 t.hi], .slice Aw' ws.length cw'] W (IntsEPost (if Wl.setE t ws = 0 then Wl.rollsL t ws else []) (Wl.setE t ws) W)) := fun A' Aw' c' cw' W h1 h2 => RollsW_any t ws A' Aw' c' cw' hp9 hw9 W h1 h2
  have HR5 : Hid (∀ (A' Aw' : Option Addr) (c' cw' : Nat) (W : World), Prs W W.heap.size A' t.ps → Prs W W.heap.size Aw' ws → Calls Try.prog 32 #[.agg #[.slice A' t.ps.length c', .int .i64 t.cl, .int .i64 t.lo, .int .i64 t.hi], .slice Aw' ws.length cw'] W (IntsEPost (if Wl.setE t ws = 0 then Wl.rollsL t ws else []) (Wl.setE t ws) W)) := fun A' Aw' c' cw' W h1 h2 => Rolls5_any t ws A' Aw' c' cw' hp9 hw9 hkl W h1 h2
  have HLW : Hid (∀ (A' Aw' : Option Addr) (c' cw' : Nat) (W : World), Prs W W.heap.size A' t.ps → Prs W W.heap.size Aw' ws → Calls Try.prog 33 #[.agg #[.slice A' t.ps.length c', .int .i64 t.cl, .int .i64 t.lo, .int .i64 t.hi], .slice Aw' ws.length cw'] W (TwoPost (if Wl.setE t ws = 0 then Wl.movesV (Wl.calmV (Wl.elbsL t ws)) else 0) (Wl.setE t ws) W)) := fun A' Aw' c' cw' W h1 h2 => LeastW_any t ws A' Aw' c' cw' hp9 hw9 W h1 h2
  have HL5 : Hid (∀ (A' Aw' : Option Addr) (c' cw' : Nat) (W : World), Prs W W.heap.size A' t.ps → Prs W W.heap.size Aw' ws → Calls Try.prog 34 #[.agg #[.slice A' t.ps.length c', .int .i64 t.cl, .int .i64 t.lo, .int .i64 t.hi], .slice Aw' ws.length cw'] W (TwoPost (if Wl.setE t ws = 0 then Wl.movesV (Wl.calmV (Wl.elbsL t ws)) else 0) (Wl.setE t ws) W)) := fun A' Aw' c' cw' W h1 h2 => Least5_any t ws A' Aw' c' cw' hp9 hw9 W h1 h2
  have HEW : Hid (∀ (A' Aw' : Option Addr) (c' cw' : Nat) (W : World), Prs W W.heap.size A' t.ps → Prs W W.heap.size Aw' ws → Calls Try.prog 35 #[.agg #[.slice A' t.ps.length c', .int .i64 t.cl, .int .i64 t.lo, .int .i64 t.hi], .slice Aw' ws.length cw'] W (IntsEPost (if Wl.setE t ws = 0 then Wl.calmV (Wl.elbsL t ws) else []) (Wl.setE t ws) W)) := fun A' Aw' c' cw' W h1 h2 => ElbowsW_any t ws A' Aw' c' cw' hp9 hw9 W h1 h2
  have HSI : Hid (∀ (v v' : Value) (xs : List Int) (W : World), Ints W W.heap.size v xs → Ints W W.heap.size v' xs → xs.length ≤ 1000000000 → Calls Try.prog 22 #[v, v'] W fun e w' => e = .returned (.bool true) ∧ Below W.heap.size W w') := fun v v' xs W h h' hl => by
    have := SameInts_any v v' xs xs W h h' hl hl
    rw [decide_eq_true rfl] at this
    exact this
  have HSP : Hid (∀ (A' A2 : Option Addr) (c' c2 : Nat) (L : List Wl.Pt) (W : World), L.length ≤ 40 → Prs W W.heap.size A' L → Prs W W.heap.size A2 L → Calls Try.prog 23 #[.slice A' L.length c', .slice A2 L.length c2] W fun e w' => e = .returned (.bool true) ∧ Below W.heap.size W w') := fun A' A2 c' c2 L W hl h1 h2 => samePoints5_yes A' A2 c' c2 L (by omega) W h1 h2
  have hRL : Hid ((if Wl.setE t ws = 0 then Wl.rollsL t ws else []).length ≤ 1000000000) := Wl.rolls_few h
  have hELN : Hid (Wl.setE t ws ≠ 0 → (if Wl.setE t ws = 0 then Wl.calmV (Wl.elbsL t ws) else []) = []) := fun h0 => if_neg h0
  have hELY : Hid (Wl.setE t ws = 0 → Wl.elbV t ws (if Wl.setE t ws = 0 then Wl.calmV (Wl.elbsL t ws) else []) = true ∧ Wl.movesV (if Wl.setE t ws = 0 then Wl.calmV (Wl.elbsL t ws) else []) = (if Wl.setE t ws = 0 then Wl.movesV (Wl.calmV (Wl.elbsL t ws)) else 0)) := fun h0 => by
    rw [if_pos h0, if_pos h0]
    obtain ⟨h1, h2⟩ := Wl.setE_yes h0
    exact ⟨(Wl.mem_elbsL (Wl.pts_pos h1.2)).1 (Wl.calmV_spec h2).1, rfl⟩
  have HAE : Hid (∀ es, Wl.setE t ws = 0 → Wl.elbV t ws es = true → ∀ (A' Aw' Ae' : Option Addr) (c' cw' ce' : Nat) (W : World), Prs W W.heap.size A' t.ps → Prs W W.heap.size Aw' ws → Ints W W.heap.size (.slice Ae' es.length ce') es → Calls Try.prog 36 #[.agg #[.slice A' t.ps.length c', .int .i64 t.cl, .int .i64 t.lo, .int .i64 t.hi], .slice Aw' ws.length cw', .slice Ae' es.length ce'] W fun e w' => e = .returned (.bool true) ∧ Below W.heap.size W w') := fun es h0 hv A' Aw' Ae' c' cw' ce' W h1 h2 h3 => by
    obtain ⟨g1, g2⟩ := (Wl.setE_yes h0).1
    have hle := (Wl.elbV_iff.1 hv).1
    have := AreElbows5_any t ws es A' Aw' Ae' c' cw' ce' g1 g2 (by omega) hw9 W h1 h2 h3
    rw [hv] at this
    exact this
  have hHP := Lib.hid hP
  have hHQ := Lib.hid hQ
  clear hP hQ hkl h
  unfold TwoPost at HMW HM5 HLW HL5
  unfold IntsEPost at HRW HR5 HEW
  unfold Copy5Post at HCP
  generalize (if Wl.setE t ws = 0 then ((Wl.elbsL t ws).length : Int) else 0) = MV at *
  generalize (if Wl.setE t ws = 0 then Wl.movesV (Wl.calmV (Wl.elbsL t ws)) else 0) = LV at *
  generalize (if Wl.setE t ws = 0 then Wl.rollsL t ws else []) = RL at *
  generalize (if Wl.setE t ws = 0 then Wl.calmV (Wl.elbsL t ws) else []) = EL at *
  generalize Wl.setE t ws = SE at *
  have hel40 : EL.length ≤ 40 := by
    by_cases h0 : SE = 0
    · have := (Wl.elbV_iff.1 (hELY.out h0).1).1
      omega
    · rw [hELN.out h0]; simp
  have HMO : Hid (∀ (Ae' : Option Addr) (ce' : Nat) (W : World), Ints W W.heap.size (.slice Ae' EL.length ce') EL → Calls Try.prog 37 #[.slice Ae' EL.length ce'] W fun e w' => e = .returned (.int .i64 (Wl.movesV EL)) ∧ Below W.heap.size W w') := fun Ae' ce' W h3 => Moves5_any Ae' ce' EL (by omega) W h3
  have hmv : (MV != MV) = false := by simp
  have hlv : (LV != LV) = false := by simp
  have hse : (SE != SE) = false := by simp
  have dl1 : decide (40 < (EL.length : Int)) = false := decide_eq_false (by omega)
  have dl2 : decide (40 < EL.length) = false := decide_eq_false (by omega)
  by_cases h0 : SE = 0
  · have HAY := Lib.hid (HAE.out EL h0 (hELY.out h0).1)
    rw [(hELY.out h0).2] at HMO
    have hlb : (LV == LV) = true := by simp
    subst h0
    clear hELN hELY HAE
    obtain ⟨ps, cl, lo, hi⟩ := t
    unfold trV at *
    dsimp only at *
    go_enter Try.func5, Try.ntmps5
    go_wp2_with fail
    have bT1 := BoxS.new w 26 #[.slice A ps.length c, .int .i64 cl, .int .i64 lo, .int .i64 hi]
    have hB1 : Below w.heap.size w (w.alloc (.cells #[.slice A ps.length c, .int .i64 cl, .int .i64 lo, .int .i64 hi] 26)) := by (repeat' (first | (with_reducible exact Below.refl _ _) | (with_reducible assumption) | (with_reducible refine Below.alloc ?_ ?_ _) | (with_reducible refine Below.drew ?_) | (with_reducible refine Below.setCell ?_ ?_ _) | go_size | (exact (by simp)) | omega))
    generalize World.alloc w _ = w1 at *
    have po1 : Hid (Prs w1 w1.heap.size A ps) := prs_keep hHP.out hB1
    have wo1 : Hid (Prs w1 w1.heap.size Aw ws) := prs_keep hHQ.out hB1
    have ct0 : w1.cell? ⟨w.heap.size, 0, none⟩ = some (.slice A ps.length c) := bT1.cell 0 rfl
    have ct1 : w1.cell? ⟨w.heap.size, 1, none⟩ = some (.int .i64 cl) := bT1.cell 1 rfl
    have ct2 : w1.cell? ⟨w.heap.size, 2, none⟩ = some (.int .i64 lo) := bT1.cell 2 rfl
    have ct3 : w1.cell? ⟨w.heap.size, 3, none⟩ = some (.int .i64 hi) := bT1.cell 3 rfl
    have lT1 := bT1.lt
    try go_wp2_with fail
    refine (HFA.out _ hB1).mono ?_
    rintro e w2 ⟨rfl, hb2⟩
    have bT2 := bT1.below hb2
    have hB2 := hB1.trans (hb2.mono hB1.size)
    have po2 : Hid (Prs w2 w2.heap.size A ps) := (po1.out.keep hb2).wider hb2.size
    have wo2 : Hid (Prs w2 w2.heap.size Aw ws) := (wo1.out.keep hb2).wider hb2.size
    clear ct0 ct1 ct2 ct3 lT1 bT1 po1 wo1 hB1 hb2
    have ct0 : w2.cell? ⟨w.heap.size, 0, none⟩ = some (.slice A ps.length c) := bT2.cell 0 rfl
    have ct1 : w2.cell? ⟨w.heap.size, 1, none⟩ = some (.int .i64 cl) := bT2.cell 1 rfl
    have ct2 : w2.cell? ⟨w.heap.size, 2, none⟩ = some (.int .i64 lo) := bT2.cell 2 rfl
    have ct3 : w2.cell? ⟨w.heap.size, 3, none⟩ = some (.int .i64 hi) := bT2.cell 3 rfl
    have lT2 := bT2.lt
    go_wp2_with fail
    refine (HCP.out _ hB2).mono ?_
    rintro e w3 ⟨A1, cR, rfl, hO2, hb2⟩
    have pp3 : Hid (Prs w3 w3.heap.size A1 ps) := prsP_of_own hO2.out
    have bT3 := bT2.below hb2
    have hB3 := hB2.trans (hb2.mono hB2.size)
    have po3 : Hid (Prs w3 w3.heap.size A ps) := (po2.out.keep hb2).wider hb2.size
    have wo3 : Hid (Prs w3 w3.heap.size Aw ws) := (wo2.out.keep hb2).wider hb2.size
    clear ct0 ct1 ct2 ct3 lT2 bT2 po2 wo2 hB2 hb2 hO2
    go_wp2_with (at_builtin; go_must (refine wpList_copy rfl (.tmp 27) (.tmp 28) rfl Aw cw ws w3.heap.size rfl rfl rfl wo3.out (by omega) ?_; intro A2 cS w4 hown hb3))
    have ww4 : Hid (Prs w4 w4.heap.size A2 ws) := prsP_of_own hown
    have bT4 := bT3.below hb3
    have hB4 := hB3.trans (hb3.mono hB3.size)
    have po4 : Hid (Prs w4 w4.heap.size A ps) := (po3.out.keep hb3).wider hb3.size
    have wo4 : Hid (Prs w4 w4.heap.size Aw ws) := (wo3.out.keep hb3).wider hb3.size
    have pp4 : Hid (Prs w4 w4.heap.size A1 ps) := (pp3.out.keep hb3).wider hb3.size
    clear bT3 po3 wo3 pp3 hB3 hb3 hown
    have bO5n := BoxS.new w4 26 #[.slice A1 ps.length cR, .int .i64 cl, .int .i64 lo, .int .i64 hi]
    have hbx : Below w4.heap.size w4 (w4.alloc (.cells #[.slice A1 ps.length cR, .int .i64 cl, .int .i64 lo, .int .i64 hi] 26)) := (Below.refl _ _).alloc (Nat.le_refl _) _
    have bT5 := bT4.below hbx
    have hB5 := hB4.trans (hbx.mono hB4.size)
    have po5 : Hid (Prs (w4.alloc (.cells #[.slice A1 ps.length cR, .int .i64 cl, .int .i64 lo, .int .i64 hi] 26)) (w4.alloc (.cells #[.slice A1 ps.length cR, .int .i64 cl, .int .i64 lo, .int .i64 hi] 26)).heap.size A ps) := (po4.out.keep hbx).wider hbx.size
    have wo5 : Hid (Prs (w4.alloc (.cells #[.slice A1 ps.length cR, .int .i64 cl, .int .i64 lo, .int .i64 hi] 26)) (w4.alloc (.cells #[.slice A1 ps.length cR, .int .i64 cl, .int .i64 lo, .int .i64 hi] 26)).heap.size Aw ws) := (wo4.out.keep hbx).wider hbx.size
    have pp5 : Hid (Prs (w4.alloc (.cells #[.slice A1 ps.length cR, .int .i64 cl, .int .i64 lo, .int .i64 hi] 26)) (w4.alloc (.cells #[.slice A1 ps.length cR, .int .i64 cl, .int .i64 lo, .int .i64 hi] 26)).heap.size A1 ps) := (pp4.out.keep hbx).wider hbx.size
    have ww5 : Hid (Prs (w4.alloc (.cells #[.slice A1 ps.length cR, .int .i64 cl, .int .i64 lo, .int .i64 hi] 26)) (w4.alloc (.cells #[.slice A1 ps.length cR, .int .i64 cl, .int .i64 lo, .int .i64 hi] 26)).heap.size A2 ws) := (ww4.out.keep hbx).wider hbx.size
    obtain ⟨BO, hBe⟩ : ∃ B, B = w4.heap.size := ⟨_, rfl⟩
    have kO : w.heap.size < BO := by have := bT4.lt; omega
    rw [← hBe] at bO5n ⊢
    have bO5 := bO5n
    clear bT4 po4 wo4 pp4 ww4 hB4 hbx hBe bO5n
    generalize World.alloc w4 _ = w5 at *
    have ct0 : w5.cell? ⟨w.heap.size, 0, none⟩ = some (.slice A ps.length c) := bT5.cell 0 rfl
    have ct1 : w5.cell? ⟨w.heap.size, 1, none⟩ = some (.int .i64 cl) := bT5.cell 1 rfl
    have ct2 : w5.cell? ⟨w.heap.size, 2, none⟩ = some (.int .i64 lo) := bT5.cell 2 rfl
    have ct3 : w5.cell? ⟨w.heap.size, 3, none⟩ = some (.int .i64 hi) := bT5.cell 3 rfl
    have lT5 := bT5.lt
    have co0 : w5.cell? ⟨BO, 0, none⟩ = some (.slice A1 ps.length cR) := bO5.cell 0 rfl
    have co1 : w5.cell? ⟨BO, 1, none⟩ = some (.int .i64 cl) := bO5.cell 1 rfl
    have co2 : w5.cell? ⟨BO, 2, none⟩ = some (.int .i64 lo) := bO5.cell 2 rfl
    have co3 : w5.cell? ⟨BO, 3, none⟩ = some (.int .i64 hi) := bO5.cell 3 rfl
    have lO5 := bO5.lt
    try go_wp2_with fail
    refine (HMW.out _ _ _ _ _ pp5.out ww5.out).mono ?_
    rintro e w6 ⟨rfl, hb6⟩
    have bT6 := bT5.below hb6
    have bO6 := bO5.below hb6
    have hB6 := hB5.trans (hb6.mono hB5.size)
    have po6 : Hid (Prs w6 w6.heap.size A ps) := (po5.out.keep hb6).wider hb6.size
    have wo6 : Hid (Prs w6 w6.heap.size Aw ws) := (wo5.out.keep hb6).wider hb6.size
    have pp6 : Hid (Prs w6 w6.heap.size A1 ps) := (pp5.out.keep hb6).wider hb6.size
    have ww6 : Hid (Prs w6 w6.heap.size A2 ws) := (ww5.out.keep hb6).wider hb6.size
    clear ct0 ct1 ct2 ct3 lT5 co0 co1 co2 co3 lO5 bT5 bO5 po5 wo5 pp5 ww5 hB5 hb6
    have ct0 : w6.cell? ⟨w.heap.size, 0, none⟩ = some (.slice A ps.length c) := bT6.cell 0 rfl
    have ct1 : w6.cell? ⟨w.heap.size, 1, none⟩ = some (.int .i64 cl) := bT6.cell 1 rfl
    have ct2 : w6.cell? ⟨w.heap.size, 2, none⟩ = some (.int .i64 lo) := bT6.cell 2 rfl
    have ct3 : w6.cell? ⟨w.heap.size, 3, none⟩ = some (.int .i64 hi) := bT6.cell 3 rfl
    have lT6 := bT6.lt
    have co0 : w6.cell? ⟨BO, 0, none⟩ = some (.slice A1 ps.length cR) := bO6.cell 0 rfl
    have co1 : w6.cell? ⟨BO, 1, none⟩ = some (.int .i64 cl) := bO6.cell 1 rfl
    have co2 : w6.cell? ⟨BO, 2, none⟩ = some (.int .i64 lo) := bO6.cell 2 rfl
    have co3 : w6.cell? ⟨BO, 3, none⟩ = some (.int .i64 hi) := bO6.cell 3 rfl
    have lO6 := bO6.lt
    go_wp2_with fail
    refine (HM5.out _ _ _ _ _ po6.out wo6.out).mono ?_
    rintro e w7 ⟨rfl, hb7⟩
    have bT7 := bT6.below hb7
    have bO7 := bO6.below hb7
    have hB7 := hB6.trans (hb7.mono hB6.size)
    have po7 : Hid (Prs w7 w7.heap.size A ps) := (po6.out.keep hb7).wider hb7.size
    have wo7 : Hid (Prs w7 w7.heap.size Aw ws) := (wo6.out.keep hb7).wider hb7.size
    have pp7 : Hid (Prs w7 w7.heap.size A1 ps) := (pp6.out.keep hb7).wider hb7.size
    have ww7 : Hid (Prs w7 w7.heap.size A2 ws) := (ww6.out.keep hb7).wider hb7.size
    clear ct0 ct1 ct2 ct3 lT6 co0 co1 co2 co3 lO6 bT6 bO6 po6 wo6 pp6 ww6 hB6 hb7
    have ct0 : w7.cell? ⟨w.heap.size, 0, none⟩ = some (.slice A ps.length c) := bT7.cell 0 rfl
    have ct1 : w7.cell? ⟨w.heap.size, 1, none⟩ = some (.int .i64 cl) := bT7.cell 1 rfl
    have ct2 : w7.cell? ⟨w.heap.size, 2, none⟩ = some (.int .i64 lo) := bT7.cell 2 rfl
    have ct3 : w7.cell? ⟨w.heap.size, 3, none⟩ = some (.int .i64 hi) := bT7.cell 3 rfl
    have lT7 := bT7.lt
    have co0 : w7.cell? ⟨BO, 0, none⟩ = some (.slice A1 ps.length cR) := bO7.cell 0 rfl
    have co1 : w7.cell? ⟨BO, 1, none⟩ = some (.int .i64 cl) := bO7.cell 1 rfl
    have co2 : w7.cell? ⟨BO, 2, none⟩ = some (.int .i64 lo) := bO7.cell 2 rfl
    have co3 : w7.cell? ⟨BO, 3, none⟩ = some (.int .i64 hi) := bO7.cell 3 rfl
    have lO7 := bO7.lt
    go_wp2_with fail
    refine (HRW.out _ _ _ _ _ pp7.out ww7.out).mono ?_
    rintro e w8 ⟨v8, rfl, hv8, hb8⟩
    obtain ⟨Ara, cra, rfl⟩ := ints_form hv8.out
    have bT8 := bT7.below hb8
    have bO8 := bO7.below hb8
    have hB8 := hB7.trans (hb8.mono hB7.size)
    have po8 : Hid (Prs w8 w8.heap.size A ps) := (po7.out.keep hb8).wider hb8.size
    have wo8 : Hid (Prs w8 w8.heap.size Aw ws) := (wo7.out.keep hb8).wider hb8.size
    have pp8 : Hid (Prs w8 w8.heap.size A1 ps) := (pp7.out.keep hb8).wider hb8.size
    have ww8 : Hid (Prs w8 w8.heap.size A2 ws) := (ww7.out.keep hb8).wider hb8.size
    clear ct0 ct1 ct2 ct3 lT7 co0 co1 co2 co3 lO7 bT7 bO7 po7 wo7 pp7 ww7 hB7 hb8
    have ra8 : Hid (Ints w8 w8.heap.size (.slice Ara RL.length cra) RL) := hv8
    clear hv8
    have ct0 : w8.cell? ⟨w.heap.size, 0, none⟩ = some (.slice A ps.length c) := bT8.cell 0 rfl
    have ct1 : w8.cell? ⟨w.heap.size, 1, none⟩ = some (.int .i64 cl) := bT8.cell 1 rfl
    have ct2 : w8.cell? ⟨w.heap.size, 2, none⟩ = some (.int .i64 lo) := bT8.cell 2 rfl
    have ct3 : w8.cell? ⟨w.heap.size, 3, none⟩ = some (.int .i64 hi) := bT8.cell 3 rfl
    have lT8 := bT8.lt
    have co0 : w8.cell? ⟨BO, 0, none⟩ = some (.slice A1 ps.length cR) := bO8.cell 0 rfl
    have co1 : w8.cell? ⟨BO, 1, none⟩ = some (.int .i64 cl) := bO8.cell 1 rfl
    have co2 : w8.cell? ⟨BO, 2, none⟩ = some (.int .i64 lo) := bO8.cell 2 rfl
    have co3 : w8.cell? ⟨BO, 3, none⟩ = some (.int .i64 hi) := bO8.cell 3 rfl
    have lO8 := bO8.lt
    go_wp2_with fail
    refine (HR5.out _ _ _ _ _ po8.out wo8.out).mono ?_
    rintro e w9 ⟨v9, rfl, hv9, hb9⟩
    obtain ⟨Arb, crb, rfl⟩ := ints_form hv9.out
    have bT9 := bT8.below hb9
    have bO9 := bO8.below hb9
    have hB9 := hB8.trans (hb9.mono hB8.size)
    have po9 : Hid (Prs w9 w9.heap.size A ps) := (po8.out.keep hb9).wider hb9.size
    have wo9 : Hid (Prs w9 w9.heap.size Aw ws) := (wo8.out.keep hb9).wider hb9.size
    have pp9 : Hid (Prs w9 w9.heap.size A1 ps) := (pp8.out.keep hb9).wider hb9.size
    have ww9 : Hid (Prs w9 w9.heap.size A2 ws) := (ww8.out.keep hb9).wider hb9.size
    have ra9 : Hid (Ints w9 w9.heap.size (.slice Ara RL.length cra) RL) := (ra8.out.keep hb9).more hb9.size
    clear ct0 ct1 ct2 ct3 lT8 co0 co1 co2 co3 lO8 bT8 bO8 po8 wo8 pp8 ww8 ra8 hB8 hb9
    have rb9 : Hid (Ints w9 w9.heap.size (.slice Arb RL.length crb) RL) := hv9
    clear hv9
    have ct0 : w9.cell? ⟨w.heap.size, 0, none⟩ = some (.slice A ps.length c) := bT9.cell 0 rfl
    have ct1 : w9.cell? ⟨w.heap.size, 1, none⟩ = some (.int .i64 cl) := bT9.cell 1 rfl
    have ct2 : w9.cell? ⟨w.heap.size, 2, none⟩ = some (.int .i64 lo) := bT9.cell 2 rfl
    have ct3 : w9.cell? ⟨w.heap.size, 3, none⟩ = some (.int .i64 hi) := bT9.cell 3 rfl
    have lT9 := bT9.lt
    have co0 : w9.cell? ⟨BO, 0, none⟩ = some (.slice A1 ps.length cR) := bO9.cell 0 rfl
    have co1 : w9.cell? ⟨BO, 1, none⟩ = some (.int .i64 cl) := bO9.cell 1 rfl
    have co2 : w9.cell? ⟨BO, 2, none⟩ = some (.int .i64 lo) := bO9.cell 2 rfl
    have co3 : w9.cell? ⟨BO, 3, none⟩ = some (.int .i64 hi) := bO9.cell 3 rfl
    have lO9 := bO9.lt
    go_wp2_with fail
    refine (HLW.out _ _ _ _ _ pp9.out ww9.out).mono ?_
    rintro e w10 ⟨rfl, hb10⟩
    have bT10 := bT9.below hb10
    have bO10 := bO9.below hb10
    have hB10 := hB9.trans (hb10.mono hB9.size)
    have po10 : Hid (Prs w10 w10.heap.size A ps) := (po9.out.keep hb10).wider hb10.size
    have wo10 : Hid (Prs w10 w10.heap.size Aw ws) := (wo9.out.keep hb10).wider hb10.size
    have pp10 : Hid (Prs w10 w10.heap.size A1 ps) := (pp9.out.keep hb10).wider hb10.size
    have ww10 : Hid (Prs w10 w10.heap.size A2 ws) := (ww9.out.keep hb10).wider hb10.size
    have ra10 : Hid (Ints w10 w10.heap.size (.slice Ara RL.length cra) RL) := (ra9.out.keep hb10).more hb10.size
    have rb10 : Hid (Ints w10 w10.heap.size (.slice Arb RL.length crb) RL) := (rb9.out.keep hb10).more hb10.size
    clear ct0 ct1 ct2 ct3 lT9 co0 co1 co2 co3 lO9 bT9 bO9 po9 wo9 pp9 ww9 ra9 rb9 hB9 hb10
    have ct0 : w10.cell? ⟨w.heap.size, 0, none⟩ = some (.slice A ps.length c) := bT10.cell 0 rfl
    have ct1 : w10.cell? ⟨w.heap.size, 1, none⟩ = some (.int .i64 cl) := bT10.cell 1 rfl
    have ct2 : w10.cell? ⟨w.heap.size, 2, none⟩ = some (.int .i64 lo) := bT10.cell 2 rfl
    have ct3 : w10.cell? ⟨w.heap.size, 3, none⟩ = some (.int .i64 hi) := bT10.cell 3 rfl
    have lT10 := bT10.lt
    have co0 : w10.cell? ⟨BO, 0, none⟩ = some (.slice A1 ps.length cR) := bO10.cell 0 rfl
    have co1 : w10.cell? ⟨BO, 1, none⟩ = some (.int .i64 cl) := bO10.cell 1 rfl
    have co2 : w10.cell? ⟨BO, 2, none⟩ = some (.int .i64 lo) := bO10.cell 2 rfl
    have co3 : w10.cell? ⟨BO, 3, none⟩ = some (.int .i64 hi) := bO10.cell 3 rfl
    have lO10 := bO10.lt
    go_wp2_with fail
    refine (HL5.out _ _ _ _ _ po10.out wo10.out).mono ?_
    rintro e w11 ⟨rfl, hb11⟩
    have bT11 := bT10.below hb11
    have bO11 := bO10.below hb11
    have hB11 := hB10.trans (hb11.mono hB10.size)
    have po11 : Hid (Prs w11 w11.heap.size A ps) := (po10.out.keep hb11).wider hb11.size
    have wo11 : Hid (Prs w11 w11.heap.size Aw ws) := (wo10.out.keep hb11).wider hb11.size
    have pp11 : Hid (Prs w11 w11.heap.size A1 ps) := (pp10.out.keep hb11).wider hb11.size
    have ww11 : Hid (Prs w11 w11.heap.size A2 ws) := (ww10.out.keep hb11).wider hb11.size
    have ra11 : Hid (Ints w11 w11.heap.size (.slice Ara RL.length cra) RL) := (ra10.out.keep hb11).more hb11.size
    have rb11 : Hid (Ints w11 w11.heap.size (.slice Arb RL.length crb) RL) := (rb10.out.keep hb11).more hb11.size
    clear ct0 ct1 ct2 ct3 lT10 co0 co1 co2 co3 lO10 bT10 bO10 po10 wo10 pp10 ww10 ra10 rb10 hB10 hb11
    have ct0 : w11.cell? ⟨w.heap.size, 0, none⟩ = some (.slice A ps.length c) := bT11.cell 0 rfl
    have ct1 : w11.cell? ⟨w.heap.size, 1, none⟩ = some (.int .i64 cl) := bT11.cell 1 rfl
    have ct2 : w11.cell? ⟨w.heap.size, 2, none⟩ = some (.int .i64 lo) := bT11.cell 2 rfl
    have ct3 : w11.cell? ⟨w.heap.size, 3, none⟩ = some (.int .i64 hi) := bT11.cell 3 rfl
    have lT11 := bT11.lt
    have co0 : w11.cell? ⟨BO, 0, none⟩ = some (.slice A1 ps.length cR) := bO11.cell 0 rfl
    have co1 : w11.cell? ⟨BO, 1, none⟩ = some (.int .i64 cl) := bO11.cell 1 rfl
    have co2 : w11.cell? ⟨BO, 2, none⟩ = some (.int .i64 lo) := bO11.cell 2 rfl
    have co3 : w11.cell? ⟨BO, 3, none⟩ = some (.int .i64 hi) := bO11.cell 3 rfl
    have lO11 := bO11.lt
    go_wp2_with fail
    refine (HEW.out _ _ _ _ _ pp11.out ww11.out).mono ?_
    rintro e w12 ⟨v12, rfl, hv12, hb12⟩
    obtain ⟨Ael, cel, rfl⟩ := ints_form hv12.out
    have bT12 := bT11.below hb12
    have bO12 := bO11.below hb12
    have hB12 := hB11.trans (hb12.mono hB11.size)
    have po12 : Hid (Prs w12 w12.heap.size A ps) := (po11.out.keep hb12).wider hb12.size
    have wo12 : Hid (Prs w12 w12.heap.size Aw ws) := (wo11.out.keep hb12).wider hb12.size
    have pp12 : Hid (Prs w12 w12.heap.size A1 ps) := (pp11.out.keep hb12).wider hb12.size
    have ww12 : Hid (Prs w12 w12.heap.size A2 ws) := (ww11.out.keep hb12).wider hb12.size
    have ra12 : Hid (Ints w12 w12.heap.size (.slice Ara RL.length cra) RL) := (ra11.out.keep hb12).more hb12.size
    have rb12 : Hid (Ints w12 w12.heap.size (.slice Arb RL.length crb) RL) := (rb11.out.keep hb12).more hb12.size
    clear ct0 ct1 ct2 ct3 lT11 co0 co1 co2 co3 lO11 bT11 bO11 po11 wo11 pp11 ww11 ra11 rb11 hB11 hb12
    have el12 : Hid (Ints w12 w12.heap.size (.slice Ael EL.length cel) EL) := hv12
    clear hv12
    have ct0 : w12.cell? ⟨w.heap.size, 0, none⟩ = some (.slice A ps.length c) := bT12.cell 0 rfl
    have ct1 : w12.cell? ⟨w.heap.size, 1, none⟩ = some (.int .i64 cl) := bT12.cell 1 rfl
    have ct2 : w12.cell? ⟨w.heap.size, 2, none⟩ = some (.int .i64 lo) := bT12.cell 2 rfl
    have ct3 : w12.cell? ⟨w.heap.size, 3, none⟩ = some (.int .i64 hi) := bT12.cell 3 rfl
    have lT12 := bT12.lt
    have co0 : w12.cell? ⟨BO, 0, none⟩ = some (.slice A1 ps.length cR) := bO12.cell 0 rfl
    have co1 : w12.cell? ⟨BO, 1, none⟩ = some (.int .i64 cl) := bO12.cell 1 rfl
    have co2 : w12.cell? ⟨BO, 2, none⟩ = some (.int .i64 lo) := bO12.cell 2 rfl
    have co3 : w12.cell? ⟨BO, 3, none⟩ = some (.int .i64 hi) := bO12.cell 3 rfl
    have lO12 := bO12.lt
    go_wp2_with fail
    refine (HSI.out _ _ _ _ ra12.out rb12.out hRL.out).mono ?_
    rintro e w13 ⟨rfl, hb13⟩
    have bT13 := bT12.below hb13
    have bO13 := bO12.below hb13
    have hB13 := hB12.trans (hb13.mono hB12.size)
    have po13 : Hid (Prs w13 w13.heap.size A ps) := (po12.out.keep hb13).wider hb13.size
    have wo13 : Hid (Prs w13 w13.heap.size Aw ws) := (wo12.out.keep hb13).wider hb13.size
    have pp13 : Hid (Prs w13 w13.heap.size A1 ps) := (pp12.out.keep hb13).wider hb13.size
    have ww13 : Hid (Prs w13 w13.heap.size A2 ws) := (ww12.out.keep hb13).wider hb13.size
    have ra13 : Hid (Ints w13 w13.heap.size (.slice Ara RL.length cra) RL) := (ra12.out.keep hb13).more hb13.size
    have rb13 : Hid (Ints w13 w13.heap.size (.slice Arb RL.length crb) RL) := (rb12.out.keep hb13).more hb13.size
    have el13 : Hid (Ints w13 w13.heap.size (.slice Ael EL.length cel) EL) := (el12.out.keep hb13).more hb13.size
    clear ct0 ct1 ct2 ct3 lT12 co0 co1 co2 co3 lO12 bT12 bO12 po12 wo12 pp12 ww12 ra12 rb12 el12 hB12 hb13
    have ct0 : w13.cell? ⟨w.heap.size, 0, none⟩ = some (.slice A ps.length c) := bT13.cell 0 rfl
    have ct1 : w13.cell? ⟨w.heap.size, 1, none⟩ = some (.int .i64 cl) := bT13.cell 1 rfl
    have ct2 : w13.cell? ⟨w.heap.size, 2, none⟩ = some (.int .i64 lo) := bT13.cell 2 rfl
    have ct3 : w13.cell? ⟨w.heap.size, 3, none⟩ = some (.int .i64 hi) := bT13.cell 3 rfl
    have lT13 := bT13.lt
    have co0 : w13.cell? ⟨BO, 0, none⟩ = some (.slice A1 ps.length cR) := bO13.cell 0 rfl
    have co1 : w13.cell? ⟨BO, 1, none⟩ = some (.int .i64 cl) := bO13.cell 1 rfl
    have co2 : w13.cell? ⟨BO, 2, none⟩ = some (.int .i64 lo) := bO13.cell 2 rfl
    have co3 : w13.cell? ⟨BO, 3, none⟩ = some (.int .i64 hi) := bO13.cell 3 rfl
    have lO13 := bO13.lt
    go_wp2_with fail
    refine (HSP.out _ _ _ _ _ _ l40 pp13.out po13.out).mono ?_
    rintro e w14 ⟨rfl, hb14⟩
    have bT14 := bT13.below hb14
    have bO14 := bO13.below hb14
    have hB14 := hB13.trans (hb14.mono hB13.size)
    have po14 : Hid (Prs w14 w14.heap.size A ps) := (po13.out.keep hb14).wider hb14.size
    have wo14 : Hid (Prs w14 w14.heap.size Aw ws) := (wo13.out.keep hb14).wider hb14.size
    have pp14 : Hid (Prs w14 w14.heap.size A1 ps) := (pp13.out.keep hb14).wider hb14.size
    have ww14 : Hid (Prs w14 w14.heap.size A2 ws) := (ww13.out.keep hb14).wider hb14.size
    have ra14 : Hid (Ints w14 w14.heap.size (.slice Ara RL.length cra) RL) := (ra13.out.keep hb14).more hb14.size
    have rb14 : Hid (Ints w14 w14.heap.size (.slice Arb RL.length crb) RL) := (rb13.out.keep hb14).more hb14.size
    have el14 : Hid (Ints w14 w14.heap.size (.slice Ael EL.length cel) EL) := (el13.out.keep hb14).more hb14.size
    clear ct0 ct1 ct2 ct3 lT13 co0 co1 co2 co3 lO13 bT13 bO13 po13 wo13 pp13 ww13 ra13 rb13 el13 hB13 hb14
    have ct0 : w14.cell? ⟨w.heap.size, 0, none⟩ = some (.slice A ps.length c) := bT14.cell 0 rfl
    have ct1 : w14.cell? ⟨w.heap.size, 1, none⟩ = some (.int .i64 cl) := bT14.cell 1 rfl
    have ct2 : w14.cell? ⟨w.heap.size, 2, none⟩ = some (.int .i64 lo) := bT14.cell 2 rfl
    have ct3 : w14.cell? ⟨w.heap.size, 3, none⟩ = some (.int .i64 hi) := bT14.cell 3 rfl
    have lT14 := bT14.lt
    have co0 : w14.cell? ⟨BO, 0, none⟩ = some (.slice A1 ps.length cR) := bO14.cell 0 rfl
    have co1 : w14.cell? ⟨BO, 1, none⟩ = some (.int .i64 cl) := bO14.cell 1 rfl
    have co2 : w14.cell? ⟨BO, 2, none⟩ = some (.int .i64 lo) := bO14.cell 2 rfl
    have co3 : w14.cell? ⟨BO, 3, none⟩ = some (.int .i64 hi) := bO14.cell 3 rfl
    have lO14 := bO14.lt
    go_wp2_with fail
    refine (HSP.out _ _ _ _ _ _ m40 ww14.out wo14.out).mono ?_
    rintro e w15 ⟨rfl, hb15⟩
    have bT15 := bT14.below hb15
    have bO15 := bO14.below hb15
    have hB15 := hB14.trans (hb15.mono hB14.size)
    have po15 : Hid (Prs w15 w15.heap.size A ps) := (po14.out.keep hb15).wider hb15.size
    have wo15 : Hid (Prs w15 w15.heap.size Aw ws) := (wo14.out.keep hb15).wider hb15.size
    have pp15 : Hid (Prs w15 w15.heap.size A1 ps) := (pp14.out.keep hb15).wider hb15.size
    have ww15 : Hid (Prs w15 w15.heap.size A2 ws) := (ww14.out.keep hb15).wider hb15.size
    have ra15 : Hid (Ints w15 w15.heap.size (.slice Ara RL.length cra) RL) := (ra14.out.keep hb15).more hb15.size
    have rb15 : Hid (Ints w15 w15.heap.size (.slice Arb RL.length crb) RL) := (rb14.out.keep hb15).more hb15.size
    have el15 : Hid (Ints w15 w15.heap.size (.slice Ael EL.length cel) EL) := (el14.out.keep hb15).more hb15.size
    clear ct0 ct1 ct2 ct3 lT14 co0 co1 co2 co3 lO14 bT14 bO14 po14 wo14 pp14 ww14 ra14 rb14 el14 hB14 hb15
    have ct0 : w15.cell? ⟨w.heap.size, 0, none⟩ = some (.slice A ps.length c) := bT15.cell 0 rfl
    have ct1 : w15.cell? ⟨w.heap.size, 1, none⟩ = some (.int .i64 cl) := bT15.cell 1 rfl
    have ct2 : w15.cell? ⟨w.heap.size, 2, none⟩ = some (.int .i64 lo) := bT15.cell 2 rfl
    have ct3 : w15.cell? ⟨w.heap.size, 3, none⟩ = some (.int .i64 hi) := bT15.cell 3 rfl
    have lT15 := bT15.lt
    have co0 : w15.cell? ⟨BO, 0, none⟩ = some (.slice A1 ps.length cR) := bO15.cell 0 rfl
    have co1 : w15.cell? ⟨BO, 1, none⟩ = some (.int .i64 cl) := bO15.cell 1 rfl
    have co2 : w15.cell? ⟨BO, 2, none⟩ = some (.int .i64 lo) := bO15.cell 2 rfl
    have co3 : w15.cell? ⟨BO, 3, none⟩ = some (.int .i64 hi) := bO15.cell 3 rfl
    have lO15 := bO15.lt
    go_wp2_with fail
    refine (HAY.out _ _ _ _ _ _ _ po15.out wo15.out el15.out).mono ?_
    rintro e w16 ⟨rfl, hb16⟩
    have bT16 := bT15.below hb16
    have bO16 := bO15.below hb16
    have hB16 := hB15.trans (hb16.mono hB15.size)
    have po16 : Hid (Prs w16 w16.heap.size A ps) := (po15.out.keep hb16).wider hb16.size
    have wo16 : Hid (Prs w16 w16.heap.size Aw ws) := (wo15.out.keep hb16).wider hb16.size
    have pp16 : Hid (Prs w16 w16.heap.size A1 ps) := (pp15.out.keep hb16).wider hb16.size
    have ww16 : Hid (Prs w16 w16.heap.size A2 ws) := (ww15.out.keep hb16).wider hb16.size
    have ra16 : Hid (Ints w16 w16.heap.size (.slice Ara RL.length cra) RL) := (ra15.out.keep hb16).more hb16.size
    have rb16 : Hid (Ints w16 w16.heap.size (.slice Arb RL.length crb) RL) := (rb15.out.keep hb16).more hb16.size
    have el16 : Hid (Ints w16 w16.heap.size (.slice Ael EL.length cel) EL) := (el15.out.keep hb16).more hb16.size
    clear ct0 ct1 ct2 ct3 lT15 co0 co1 co2 co3 lO15 bT15 bO15 po15 wo15 pp15 ww15 ra15 rb15 el15 hB15 hb16
    have ct0 : w16.cell? ⟨w.heap.size, 0, none⟩ = some (.slice A ps.length c) := bT16.cell 0 rfl
    have ct1 : w16.cell? ⟨w.heap.size, 1, none⟩ = some (.int .i64 cl) := bT16.cell 1 rfl
    have ct2 : w16.cell? ⟨w.heap.size, 2, none⟩ = some (.int .i64 lo) := bT16.cell 2 rfl
    have ct3 : w16.cell? ⟨w.heap.size, 3, none⟩ = some (.int .i64 hi) := bT16.cell 3 rfl
    have lT16 := bT16.lt
    have co0 : w16.cell? ⟨BO, 0, none⟩ = some (.slice A1 ps.length cR) := bO16.cell 0 rfl
    have co1 : w16.cell? ⟨BO, 1, none⟩ = some (.int .i64 cl) := bO16.cell 1 rfl
    have co2 : w16.cell? ⟨BO, 2, none⟩ = some (.int .i64 lo) := bO16.cell 2 rfl
    have co3 : w16.cell? ⟨BO, 3, none⟩ = some (.int .i64 hi) := bO16.cell 3 rfl
    have lO16 := bO16.lt
    go_wp2_with fail
    refine (HMO.out _ _ _ el16.out).mono ?_
    rintro e w17 ⟨rfl, hb17⟩
    have bT17 := bT16.below hb17
    have bO17 := bO16.below hb17
    have hB17 := hB16.trans (hb17.mono hB16.size)
    have po17 : Hid (Prs w17 w17.heap.size A ps) := (po16.out.keep hb17).wider hb17.size
    have wo17 : Hid (Prs w17 w17.heap.size Aw ws) := (wo16.out.keep hb17).wider hb17.size
    have pp17 : Hid (Prs w17 w17.heap.size A1 ps) := (pp16.out.keep hb17).wider hb17.size
    have ww17 : Hid (Prs w17 w17.heap.size A2 ws) := (ww16.out.keep hb17).wider hb17.size
    have ra17 : Hid (Ints w17 w17.heap.size (.slice Ara RL.length cra) RL) := (ra16.out.keep hb17).more hb17.size
    have rb17 : Hid (Ints w17 w17.heap.size (.slice Arb RL.length crb) RL) := (rb16.out.keep hb17).more hb17.size
    have el17 : Hid (Ints w17 w17.heap.size (.slice Ael EL.length cel) EL) := (el16.out.keep hb17).more hb17.size
    clear ct0 ct1 ct2 ct3 lT16 co0 co1 co2 co3 lO16 bT16 bO16 po16 wo16 pp16 ww16 ra16 rb16 el16 hB16 hb17
    have ct0 : w17.cell? ⟨w.heap.size, 0, none⟩ = some (.slice A ps.length c) := bT17.cell 0 rfl
    have ct1 : w17.cell? ⟨w.heap.size, 1, none⟩ = some (.int .i64 cl) := bT17.cell 1 rfl
    have ct2 : w17.cell? ⟨w.heap.size, 2, none⟩ = some (.int .i64 lo) := bT17.cell 2 rfl
    have ct3 : w17.cell? ⟨w.heap.size, 3, none⟩ = some (.int .i64 hi) := bT17.cell 3 rfl
    have lT17 := bT17.lt
    have co0 : w17.cell? ⟨BO, 0, none⟩ = some (.slice A1 ps.length cR) := bO17.cell 0 rfl
    have co1 : w17.cell? ⟨BO, 1, none⟩ = some (.int .i64 cl) := bO17.cell 1 rfl
    have co2 : w17.cell? ⟨BO, 2, none⟩ = some (.int .i64 lo) := bO17.cell 2 rfl
    have co3 : w17.cell? ⟨BO, 3, none⟩ = some (.int .i64 hi) := bO17.cell 3 rfl
    have lO17 := bO17.lt
    go_wp2_with fail
    refine (HWK.out _).mono ?_
    rintro e wz ⟨rfl, hbz⟩
    have hBz := hB17.trans (hbz.mono hB17.size)
    go_wp2_with fail
    go_returns
    exact ⟨rfl, hBz⟩
  · have hl0 : ((EL.length : Int) == 0) = true := by rw [hELN.out h0]; rfl
    have hsb : (SE != 0) = true := by simpa using h0
    clear hELN hELY HAE HMO h0
    obtain ⟨ps, cl, lo, hi⟩ := t
    unfold trV at *
    dsimp only at *
    go_enter Try.func5, Try.ntmps5
    go_wp2_with fail
    have bT1 := BoxS.new w 26 #[.slice A ps.length c, .int .i64 cl, .int .i64 lo, .int .i64 hi]
    have hB1 : Below w.heap.size w (w.alloc (.cells #[.slice A ps.length c, .int .i64 cl, .int .i64 lo, .int .i64 hi] 26)) := by (repeat' (first | (with_reducible exact Below.refl _ _) | (with_reducible assumption) | (with_reducible refine Below.alloc ?_ ?_ _) | (with_reducible refine Below.drew ?_) | (with_reducible refine Below.setCell ?_ ?_ _) | go_size | (exact (by simp)) | omega))
    generalize World.alloc w _ = w1 at *
    have po1 : Hid (Prs w1 w1.heap.size A ps) := prs_keep hHP.out hB1
    have wo1 : Hid (Prs w1 w1.heap.size Aw ws) := prs_keep hHQ.out hB1
    have ct0 : w1.cell? ⟨w.heap.size, 0, none⟩ = some (.slice A ps.length c) := bT1.cell 0 rfl
    have ct1 : w1.cell? ⟨w.heap.size, 1, none⟩ = some (.int .i64 cl) := bT1.cell 1 rfl
    have ct2 : w1.cell? ⟨w.heap.size, 2, none⟩ = some (.int .i64 lo) := bT1.cell 2 rfl
    have ct3 : w1.cell? ⟨w.heap.size, 3, none⟩ = some (.int .i64 hi) := bT1.cell 3 rfl
    have lT1 := bT1.lt
    try go_wp2_with fail
    refine (HFA.out _ hB1).mono ?_
    rintro e w2 ⟨rfl, hb2⟩
    have bT2 := bT1.below hb2
    have hB2 := hB1.trans (hb2.mono hB1.size)
    have po2 : Hid (Prs w2 w2.heap.size A ps) := (po1.out.keep hb2).wider hb2.size
    have wo2 : Hid (Prs w2 w2.heap.size Aw ws) := (wo1.out.keep hb2).wider hb2.size
    clear ct0 ct1 ct2 ct3 lT1 bT1 po1 wo1 hB1 hb2
    have ct0 : w2.cell? ⟨w.heap.size, 0, none⟩ = some (.slice A ps.length c) := bT2.cell 0 rfl
    have ct1 : w2.cell? ⟨w.heap.size, 1, none⟩ = some (.int .i64 cl) := bT2.cell 1 rfl
    have ct2 : w2.cell? ⟨w.heap.size, 2, none⟩ = some (.int .i64 lo) := bT2.cell 2 rfl
    have ct3 : w2.cell? ⟨w.heap.size, 3, none⟩ = some (.int .i64 hi) := bT2.cell 3 rfl
    have lT2 := bT2.lt
    go_wp2_with fail
    refine (HCP.out _ hB2).mono ?_
    rintro e w3 ⟨A1, cR, rfl, hO2, hb2⟩
    have pp3 : Hid (Prs w3 w3.heap.size A1 ps) := prsP_of_own hO2.out
    have bT3 := bT2.below hb2
    have hB3 := hB2.trans (hb2.mono hB2.size)
    have po3 : Hid (Prs w3 w3.heap.size A ps) := (po2.out.keep hb2).wider hb2.size
    have wo3 : Hid (Prs w3 w3.heap.size Aw ws) := (wo2.out.keep hb2).wider hb2.size
    clear ct0 ct1 ct2 ct3 lT2 bT2 po2 wo2 hB2 hb2 hO2
    go_wp2_with (at_builtin; go_must (refine wpList_copy rfl (.tmp 27) (.tmp 28) rfl Aw cw ws w3.heap.size rfl rfl rfl wo3.out (by omega) ?_; intro A2 cS w4 hown hb3))
    have ww4 : Hid (Prs w4 w4.heap.size A2 ws) := prsP_of_own hown
    have bT4 := bT3.below hb3
    have hB4 := hB3.trans (hb3.mono hB3.size)
    have po4 : Hid (Prs w4 w4.heap.size A ps) := (po3.out.keep hb3).wider hb3.size
    have wo4 : Hid (Prs w4 w4.heap.size Aw ws) := (wo3.out.keep hb3).wider hb3.size
    have pp4 : Hid (Prs w4 w4.heap.size A1 ps) := (pp3.out.keep hb3).wider hb3.size
    clear bT3 po3 wo3 pp3 hB3 hb3 hown
    have bO5n := BoxS.new w4 26 #[.slice A1 ps.length cR, .int .i64 cl, .int .i64 lo, .int .i64 hi]
    have hbx : Below w4.heap.size w4 (w4.alloc (.cells #[.slice A1 ps.length cR, .int .i64 cl, .int .i64 lo, .int .i64 hi] 26)) := (Below.refl _ _).alloc (Nat.le_refl _) _
    have bT5 := bT4.below hbx
    have hB5 := hB4.trans (hbx.mono hB4.size)
    have po5 : Hid (Prs (w4.alloc (.cells #[.slice A1 ps.length cR, .int .i64 cl, .int .i64 lo, .int .i64 hi] 26)) (w4.alloc (.cells #[.slice A1 ps.length cR, .int .i64 cl, .int .i64 lo, .int .i64 hi] 26)).heap.size A ps) := (po4.out.keep hbx).wider hbx.size
    have wo5 : Hid (Prs (w4.alloc (.cells #[.slice A1 ps.length cR, .int .i64 cl, .int .i64 lo, .int .i64 hi] 26)) (w4.alloc (.cells #[.slice A1 ps.length cR, .int .i64 cl, .int .i64 lo, .int .i64 hi] 26)).heap.size Aw ws) := (wo4.out.keep hbx).wider hbx.size
    have pp5 : Hid (Prs (w4.alloc (.cells #[.slice A1 ps.length cR, .int .i64 cl, .int .i64 lo, .int .i64 hi] 26)) (w4.alloc (.cells #[.slice A1 ps.length cR, .int .i64 cl, .int .i64 lo, .int .i64 hi] 26)).heap.size A1 ps) := (pp4.out.keep hbx).wider hbx.size
    have ww5 : Hid (Prs (w4.alloc (.cells #[.slice A1 ps.length cR, .int .i64 cl, .int .i64 lo, .int .i64 hi] 26)) (w4.alloc (.cells #[.slice A1 ps.length cR, .int .i64 cl, .int .i64 lo, .int .i64 hi] 26)).heap.size A2 ws) := (ww4.out.keep hbx).wider hbx.size
    obtain ⟨BO, hBe⟩ : ∃ B, B = w4.heap.size := ⟨_, rfl⟩
    have kO : w.heap.size < BO := by have := bT4.lt; omega
    rw [← hBe] at bO5n ⊢
    have bO5 := bO5n
    clear bT4 po4 wo4 pp4 ww4 hB4 hbx hBe bO5n
    generalize World.alloc w4 _ = w5 at *
    have ct0 : w5.cell? ⟨w.heap.size, 0, none⟩ = some (.slice A ps.length c) := bT5.cell 0 rfl
    have ct1 : w5.cell? ⟨w.heap.size, 1, none⟩ = some (.int .i64 cl) := bT5.cell 1 rfl
    have ct2 : w5.cell? ⟨w.heap.size, 2, none⟩ = some (.int .i64 lo) := bT5.cell 2 rfl
    have ct3 : w5.cell? ⟨w.heap.size, 3, none⟩ = some (.int .i64 hi) := bT5.cell 3 rfl
    have lT5 := bT5.lt
    have co0 : w5.cell? ⟨BO, 0, none⟩ = some (.slice A1 ps.length cR) := bO5.cell 0 rfl
    have co1 : w5.cell? ⟨BO, 1, none⟩ = some (.int .i64 cl) := bO5.cell 1 rfl
    have co2 : w5.cell? ⟨BO, 2, none⟩ = some (.int .i64 lo) := bO5.cell 2 rfl
    have co3 : w5.cell? ⟨BO, 3, none⟩ = some (.int .i64 hi) := bO5.cell 3 rfl
    have lO5 := bO5.lt
    try go_wp2_with fail
    refine (HMW.out _ _ _ _ _ pp5.out ww5.out).mono ?_
    rintro e w6 ⟨rfl, hb6⟩
    have bT6 := bT5.below hb6
    have bO6 := bO5.below hb6
    have hB6 := hB5.trans (hb6.mono hB5.size)
    have po6 : Hid (Prs w6 w6.heap.size A ps) := (po5.out.keep hb6).wider hb6.size
    have wo6 : Hid (Prs w6 w6.heap.size Aw ws) := (wo5.out.keep hb6).wider hb6.size
    have pp6 : Hid (Prs w6 w6.heap.size A1 ps) := (pp5.out.keep hb6).wider hb6.size
    have ww6 : Hid (Prs w6 w6.heap.size A2 ws) := (ww5.out.keep hb6).wider hb6.size
    clear ct0 ct1 ct2 ct3 lT5 co0 co1 co2 co3 lO5 bT5 bO5 po5 wo5 pp5 ww5 hB5 hb6
    have ct0 : w6.cell? ⟨w.heap.size, 0, none⟩ = some (.slice A ps.length c) := bT6.cell 0 rfl
    have ct1 : w6.cell? ⟨w.heap.size, 1, none⟩ = some (.int .i64 cl) := bT6.cell 1 rfl
    have ct2 : w6.cell? ⟨w.heap.size, 2, none⟩ = some (.int .i64 lo) := bT6.cell 2 rfl
    have ct3 : w6.cell? ⟨w.heap.size, 3, none⟩ = some (.int .i64 hi) := bT6.cell 3 rfl
    have lT6 := bT6.lt
    have co0 : w6.cell? ⟨BO, 0, none⟩ = some (.slice A1 ps.length cR) := bO6.cell 0 rfl
    have co1 : w6.cell? ⟨BO, 1, none⟩ = some (.int .i64 cl) := bO6.cell 1 rfl
    have co2 : w6.cell? ⟨BO, 2, none⟩ = some (.int .i64 lo) := bO6.cell 2 rfl
    have co3 : w6.cell? ⟨BO, 3, none⟩ = some (.int .i64 hi) := bO6.cell 3 rfl
    have lO6 := bO6.lt
    go_wp2_with fail
    refine (HM5.out _ _ _ _ _ po6.out wo6.out).mono ?_
    rintro e w7 ⟨rfl, hb7⟩
    have bT7 := bT6.below hb7
    have bO7 := bO6.below hb7
    have hB7 := hB6.trans (hb7.mono hB6.size)
    have po7 : Hid (Prs w7 w7.heap.size A ps) := (po6.out.keep hb7).wider hb7.size
    have wo7 : Hid (Prs w7 w7.heap.size Aw ws) := (wo6.out.keep hb7).wider hb7.size
    have pp7 : Hid (Prs w7 w7.heap.size A1 ps) := (pp6.out.keep hb7).wider hb7.size
    have ww7 : Hid (Prs w7 w7.heap.size A2 ws) := (ww6.out.keep hb7).wider hb7.size
    clear ct0 ct1 ct2 ct3 lT6 co0 co1 co2 co3 lO6 bT6 bO6 po6 wo6 pp6 ww6 hB6 hb7
    have ct0 : w7.cell? ⟨w.heap.size, 0, none⟩ = some (.slice A ps.length c) := bT7.cell 0 rfl
    have ct1 : w7.cell? ⟨w.heap.size, 1, none⟩ = some (.int .i64 cl) := bT7.cell 1 rfl
    have ct2 : w7.cell? ⟨w.heap.size, 2, none⟩ = some (.int .i64 lo) := bT7.cell 2 rfl
    have ct3 : w7.cell? ⟨w.heap.size, 3, none⟩ = some (.int .i64 hi) := bT7.cell 3 rfl
    have lT7 := bT7.lt
    have co0 : w7.cell? ⟨BO, 0, none⟩ = some (.slice A1 ps.length cR) := bO7.cell 0 rfl
    have co1 : w7.cell? ⟨BO, 1, none⟩ = some (.int .i64 cl) := bO7.cell 1 rfl
    have co2 : w7.cell? ⟨BO, 2, none⟩ = some (.int .i64 lo) := bO7.cell 2 rfl
    have co3 : w7.cell? ⟨BO, 3, none⟩ = some (.int .i64 hi) := bO7.cell 3 rfl
    have lO7 := bO7.lt
    go_wp2_with fail
    refine (HRW.out _ _ _ _ _ pp7.out ww7.out).mono ?_
    rintro e w8 ⟨v8, rfl, hv8, hb8⟩
    obtain ⟨Ara, cra, rfl⟩ := ints_form hv8.out
    have bT8 := bT7.below hb8
    have bO8 := bO7.below hb8
    have hB8 := hB7.trans (hb8.mono hB7.size)
    have po8 : Hid (Prs w8 w8.heap.size A ps) := (po7.out.keep hb8).wider hb8.size
    have wo8 : Hid (Prs w8 w8.heap.size Aw ws) := (wo7.out.keep hb8).wider hb8.size
    have pp8 : Hid (Prs w8 w8.heap.size A1 ps) := (pp7.out.keep hb8).wider hb8.size
    have ww8 : Hid (Prs w8 w8.heap.size A2 ws) := (ww7.out.keep hb8).wider hb8.size
    clear ct0 ct1 ct2 ct3 lT7 co0 co1 co2 co3 lO7 bT7 bO7 po7 wo7 pp7 ww7 hB7 hb8
    have ra8 : Hid (Ints w8 w8.heap.size (.slice Ara RL.length cra) RL) := hv8
    clear hv8
    have ct0 : w8.cell? ⟨w.heap.size, 0, none⟩ = some (.slice A ps.length c) := bT8.cell 0 rfl
    have ct1 : w8.cell? ⟨w.heap.size, 1, none⟩ = some (.int .i64 cl) := bT8.cell 1 rfl
    have ct2 : w8.cell? ⟨w.heap.size, 2, none⟩ = some (.int .i64 lo) := bT8.cell 2 rfl
    have ct3 : w8.cell? ⟨w.heap.size, 3, none⟩ = some (.int .i64 hi) := bT8.cell 3 rfl
    have lT8 := bT8.lt
    have co0 : w8.cell? ⟨BO, 0, none⟩ = some (.slice A1 ps.length cR) := bO8.cell 0 rfl
    have co1 : w8.cell? ⟨BO, 1, none⟩ = some (.int .i64 cl) := bO8.cell 1 rfl
    have co2 : w8.cell? ⟨BO, 2, none⟩ = some (.int .i64 lo) := bO8.cell 2 rfl
    have co3 : w8.cell? ⟨BO, 3, none⟩ = some (.int .i64 hi) := bO8.cell 3 rfl
    have lO8 := bO8.lt
    go_wp2_with fail
    refine (HR5.out _ _ _ _ _ po8.out wo8.out).mono ?_
    rintro e w9 ⟨v9, rfl, hv9, hb9⟩
    obtain ⟨Arb, crb, rfl⟩ := ints_form hv9.out
    have bT9 := bT8.below hb9
    have bO9 := bO8.below hb9
    have hB9 := hB8.trans (hb9.mono hB8.size)
    have po9 : Hid (Prs w9 w9.heap.size A ps) := (po8.out.keep hb9).wider hb9.size
    have wo9 : Hid (Prs w9 w9.heap.size Aw ws) := (wo8.out.keep hb9).wider hb9.size
    have pp9 : Hid (Prs w9 w9.heap.size A1 ps) := (pp8.out.keep hb9).wider hb9.size
    have ww9 : Hid (Prs w9 w9.heap.size A2 ws) := (ww8.out.keep hb9).wider hb9.size
    have ra9 : Hid (Ints w9 w9.heap.size (.slice Ara RL.length cra) RL) := (ra8.out.keep hb9).more hb9.size
    clear ct0 ct1 ct2 ct3 lT8 co0 co1 co2 co3 lO8 bT8 bO8 po8 wo8 pp8 ww8 ra8 hB8 hb9
    have rb9 : Hid (Ints w9 w9.heap.size (.slice Arb RL.length crb) RL) := hv9
    clear hv9
    have ct0 : w9.cell? ⟨w.heap.size, 0, none⟩ = some (.slice A ps.length c) := bT9.cell 0 rfl
    have ct1 : w9.cell? ⟨w.heap.size, 1, none⟩ = some (.int .i64 cl) := bT9.cell 1 rfl
    have ct2 : w9.cell? ⟨w.heap.size, 2, none⟩ = some (.int .i64 lo) := bT9.cell 2 rfl
    have ct3 : w9.cell? ⟨w.heap.size, 3, none⟩ = some (.int .i64 hi) := bT9.cell 3 rfl
    have lT9 := bT9.lt
    have co0 : w9.cell? ⟨BO, 0, none⟩ = some (.slice A1 ps.length cR) := bO9.cell 0 rfl
    have co1 : w9.cell? ⟨BO, 1, none⟩ = some (.int .i64 cl) := bO9.cell 1 rfl
    have co2 : w9.cell? ⟨BO, 2, none⟩ = some (.int .i64 lo) := bO9.cell 2 rfl
    have co3 : w9.cell? ⟨BO, 3, none⟩ = some (.int .i64 hi) := bO9.cell 3 rfl
    have lO9 := bO9.lt
    go_wp2_with fail
    refine (HLW.out _ _ _ _ _ pp9.out ww9.out).mono ?_
    rintro e w10 ⟨rfl, hb10⟩
    have bT10 := bT9.below hb10
    have bO10 := bO9.below hb10
    have hB10 := hB9.trans (hb10.mono hB9.size)
    have po10 : Hid (Prs w10 w10.heap.size A ps) := (po9.out.keep hb10).wider hb10.size
    have wo10 : Hid (Prs w10 w10.heap.size Aw ws) := (wo9.out.keep hb10).wider hb10.size
    have pp10 : Hid (Prs w10 w10.heap.size A1 ps) := (pp9.out.keep hb10).wider hb10.size
    have ww10 : Hid (Prs w10 w10.heap.size A2 ws) := (ww9.out.keep hb10).wider hb10.size
    have ra10 : Hid (Ints w10 w10.heap.size (.slice Ara RL.length cra) RL) := (ra9.out.keep hb10).more hb10.size
    have rb10 : Hid (Ints w10 w10.heap.size (.slice Arb RL.length crb) RL) := (rb9.out.keep hb10).more hb10.size
    clear ct0 ct1 ct2 ct3 lT9 co0 co1 co2 co3 lO9 bT9 bO9 po9 wo9 pp9 ww9 ra9 rb9 hB9 hb10
    have ct0 : w10.cell? ⟨w.heap.size, 0, none⟩ = some (.slice A ps.length c) := bT10.cell 0 rfl
    have ct1 : w10.cell? ⟨w.heap.size, 1, none⟩ = some (.int .i64 cl) := bT10.cell 1 rfl
    have ct2 : w10.cell? ⟨w.heap.size, 2, none⟩ = some (.int .i64 lo) := bT10.cell 2 rfl
    have ct3 : w10.cell? ⟨w.heap.size, 3, none⟩ = some (.int .i64 hi) := bT10.cell 3 rfl
    have lT10 := bT10.lt
    have co0 : w10.cell? ⟨BO, 0, none⟩ = some (.slice A1 ps.length cR) := bO10.cell 0 rfl
    have co1 : w10.cell? ⟨BO, 1, none⟩ = some (.int .i64 cl) := bO10.cell 1 rfl
    have co2 : w10.cell? ⟨BO, 2, none⟩ = some (.int .i64 lo) := bO10.cell 2 rfl
    have co3 : w10.cell? ⟨BO, 3, none⟩ = some (.int .i64 hi) := bO10.cell 3 rfl
    have lO10 := bO10.lt
    go_wp2_with fail
    refine (HL5.out _ _ _ _ _ po10.out wo10.out).mono ?_
    rintro e w11 ⟨rfl, hb11⟩
    have bT11 := bT10.below hb11
    have bO11 := bO10.below hb11
    have hB11 := hB10.trans (hb11.mono hB10.size)
    have po11 : Hid (Prs w11 w11.heap.size A ps) := (po10.out.keep hb11).wider hb11.size
    have wo11 : Hid (Prs w11 w11.heap.size Aw ws) := (wo10.out.keep hb11).wider hb11.size
    have pp11 : Hid (Prs w11 w11.heap.size A1 ps) := (pp10.out.keep hb11).wider hb11.size
    have ww11 : Hid (Prs w11 w11.heap.size A2 ws) := (ww10.out.keep hb11).wider hb11.size
    have ra11 : Hid (Ints w11 w11.heap.size (.slice Ara RL.length cra) RL) := (ra10.out.keep hb11).more hb11.size
    have rb11 : Hid (Ints w11 w11.heap.size (.slice Arb RL.length crb) RL) := (rb10.out.keep hb11).more hb11.size
    clear ct0 ct1 ct2 ct3 lT10 co0 co1 co2 co3 lO10 bT10 bO10 po10 wo10 pp10 ww10 ra10 rb10 hB10 hb11
    have ct0 : w11.cell? ⟨w.heap.size, 0, none⟩ = some (.slice A ps.length c) := bT11.cell 0 rfl
    have ct1 : w11.cell? ⟨w.heap.size, 1, none⟩ = some (.int .i64 cl) := bT11.cell 1 rfl
    have ct2 : w11.cell? ⟨w.heap.size, 2, none⟩ = some (.int .i64 lo) := bT11.cell 2 rfl
    have ct3 : w11.cell? ⟨w.heap.size, 3, none⟩ = some (.int .i64 hi) := bT11.cell 3 rfl
    have lT11 := bT11.lt
    have co0 : w11.cell? ⟨BO, 0, none⟩ = some (.slice A1 ps.length cR) := bO11.cell 0 rfl
    have co1 : w11.cell? ⟨BO, 1, none⟩ = some (.int .i64 cl) := bO11.cell 1 rfl
    have co2 : w11.cell? ⟨BO, 2, none⟩ = some (.int .i64 lo) := bO11.cell 2 rfl
    have co3 : w11.cell? ⟨BO, 3, none⟩ = some (.int .i64 hi) := bO11.cell 3 rfl
    have lO11 := bO11.lt
    go_wp2_with fail
    refine (HEW.out _ _ _ _ _ pp11.out ww11.out).mono ?_
    rintro e w12 ⟨v12, rfl, hv12, hb12⟩
    obtain ⟨Ael, cel, rfl⟩ := ints_form hv12.out
    have bT12 := bT11.below hb12
    have bO12 := bO11.below hb12
    have hB12 := hB11.trans (hb12.mono hB11.size)
    have po12 : Hid (Prs w12 w12.heap.size A ps) := (po11.out.keep hb12).wider hb12.size
    have wo12 : Hid (Prs w12 w12.heap.size Aw ws) := (wo11.out.keep hb12).wider hb12.size
    have pp12 : Hid (Prs w12 w12.heap.size A1 ps) := (pp11.out.keep hb12).wider hb12.size
    have ww12 : Hid (Prs w12 w12.heap.size A2 ws) := (ww11.out.keep hb12).wider hb12.size
    have ra12 : Hid (Ints w12 w12.heap.size (.slice Ara RL.length cra) RL) := (ra11.out.keep hb12).more hb12.size
    have rb12 : Hid (Ints w12 w12.heap.size (.slice Arb RL.length crb) RL) := (rb11.out.keep hb12).more hb12.size
    clear ct0 ct1 ct2 ct3 lT11 co0 co1 co2 co3 lO11 bT11 bO11 po11 wo11 pp11 ww11 ra11 rb11 hB11 hb12
    have el12 : Hid (Ints w12 w12.heap.size (.slice Ael EL.length cel) EL) := hv12
    clear hv12
    have ct0 : w12.cell? ⟨w.heap.size, 0, none⟩ = some (.slice A ps.length c) := bT12.cell 0 rfl
    have ct1 : w12.cell? ⟨w.heap.size, 1, none⟩ = some (.int .i64 cl) := bT12.cell 1 rfl
    have ct2 : w12.cell? ⟨w.heap.size, 2, none⟩ = some (.int .i64 lo) := bT12.cell 2 rfl
    have ct3 : w12.cell? ⟨w.heap.size, 3, none⟩ = some (.int .i64 hi) := bT12.cell 3 rfl
    have lT12 := bT12.lt
    have co0 : w12.cell? ⟨BO, 0, none⟩ = some (.slice A1 ps.length cR) := bO12.cell 0 rfl
    have co1 : w12.cell? ⟨BO, 1, none⟩ = some (.int .i64 cl) := bO12.cell 1 rfl
    have co2 : w12.cell? ⟨BO, 2, none⟩ = some (.int .i64 lo) := bO12.cell 2 rfl
    have co3 : w12.cell? ⟨BO, 3, none⟩ = some (.int .i64 hi) := bO12.cell 3 rfl
    have lO12 := bO12.lt
    go_wp2_with fail
    refine (HSI.out _ _ _ _ ra12.out rb12.out hRL.out).mono ?_
    rintro e w13 ⟨rfl, hb13⟩
    have bT13 := bT12.below hb13
    have bO13 := bO12.below hb13
    have hB13 := hB12.trans (hb13.mono hB12.size)
    have po13 : Hid (Prs w13 w13.heap.size A ps) := (po12.out.keep hb13).wider hb13.size
    have wo13 : Hid (Prs w13 w13.heap.size Aw ws) := (wo12.out.keep hb13).wider hb13.size
    have pp13 : Hid (Prs w13 w13.heap.size A1 ps) := (pp12.out.keep hb13).wider hb13.size
    have ww13 : Hid (Prs w13 w13.heap.size A2 ws) := (ww12.out.keep hb13).wider hb13.size
    have ra13 : Hid (Ints w13 w13.heap.size (.slice Ara RL.length cra) RL) := (ra12.out.keep hb13).more hb13.size
    have rb13 : Hid (Ints w13 w13.heap.size (.slice Arb RL.length crb) RL) := (rb12.out.keep hb13).more hb13.size
    have el13 : Hid (Ints w13 w13.heap.size (.slice Ael EL.length cel) EL) := (el12.out.keep hb13).more hb13.size
    clear ct0 ct1 ct2 ct3 lT12 co0 co1 co2 co3 lO12 bT12 bO12 po12 wo12 pp12 ww12 ra12 rb12 el12 hB12 hb13
    have ct0 : w13.cell? ⟨w.heap.size, 0, none⟩ = some (.slice A ps.length c) := bT13.cell 0 rfl
    have ct1 : w13.cell? ⟨w.heap.size, 1, none⟩ = some (.int .i64 cl) := bT13.cell 1 rfl
    have ct2 : w13.cell? ⟨w.heap.size, 2, none⟩ = some (.int .i64 lo) := bT13.cell 2 rfl
    have ct3 : w13.cell? ⟨w.heap.size, 3, none⟩ = some (.int .i64 hi) := bT13.cell 3 rfl
    have lT13 := bT13.lt
    have co0 : w13.cell? ⟨BO, 0, none⟩ = some (.slice A1 ps.length cR) := bO13.cell 0 rfl
    have co1 : w13.cell? ⟨BO, 1, none⟩ = some (.int .i64 cl) := bO13.cell 1 rfl
    have co2 : w13.cell? ⟨BO, 2, none⟩ = some (.int .i64 lo) := bO13.cell 2 rfl
    have co3 : w13.cell? ⟨BO, 3, none⟩ = some (.int .i64 hi) := bO13.cell 3 rfl
    have lO13 := bO13.lt
    go_wp2_with fail
    refine (HSP.out _ _ _ _ _ _ l40 pp13.out po13.out).mono ?_
    rintro e w14 ⟨rfl, hb14⟩
    have bT14 := bT13.below hb14
    have bO14 := bO13.below hb14
    have hB14 := hB13.trans (hb14.mono hB13.size)
    have po14 : Hid (Prs w14 w14.heap.size A ps) := (po13.out.keep hb14).wider hb14.size
    have wo14 : Hid (Prs w14 w14.heap.size Aw ws) := (wo13.out.keep hb14).wider hb14.size
    have pp14 : Hid (Prs w14 w14.heap.size A1 ps) := (pp13.out.keep hb14).wider hb14.size
    have ww14 : Hid (Prs w14 w14.heap.size A2 ws) := (ww13.out.keep hb14).wider hb14.size
    have ra14 : Hid (Ints w14 w14.heap.size (.slice Ara RL.length cra) RL) := (ra13.out.keep hb14).more hb14.size
    have rb14 : Hid (Ints w14 w14.heap.size (.slice Arb RL.length crb) RL) := (rb13.out.keep hb14).more hb14.size
    have el14 : Hid (Ints w14 w14.heap.size (.slice Ael EL.length cel) EL) := (el13.out.keep hb14).more hb14.size
    clear ct0 ct1 ct2 ct3 lT13 co0 co1 co2 co3 lO13 bT13 bO13 po13 wo13 pp13 ww13 ra13 rb13 el13 hB13 hb14
    have ct0 : w14.cell? ⟨w.heap.size, 0, none⟩ = some (.slice A ps.length c) := bT14.cell 0 rfl
    have ct1 : w14.cell? ⟨w.heap.size, 1, none⟩ = some (.int .i64 cl) := bT14.cell 1 rfl
    have ct2 : w14.cell? ⟨w.heap.size, 2, none⟩ = some (.int .i64 lo) := bT14.cell 2 rfl
    have ct3 : w14.cell? ⟨w.heap.size, 3, none⟩ = some (.int .i64 hi) := bT14.cell 3 rfl
    have lT14 := bT14.lt
    have co0 : w14.cell? ⟨BO, 0, none⟩ = some (.slice A1 ps.length cR) := bO14.cell 0 rfl
    have co1 : w14.cell? ⟨BO, 1, none⟩ = some (.int .i64 cl) := bO14.cell 1 rfl
    have co2 : w14.cell? ⟨BO, 2, none⟩ = some (.int .i64 lo) := bO14.cell 2 rfl
    have co3 : w14.cell? ⟨BO, 3, none⟩ = some (.int .i64 hi) := bO14.cell 3 rfl
    have lO14 := bO14.lt
    go_wp2_with fail
    refine (HSP.out _ _ _ _ _ _ m40 ww14.out wo14.out).mono ?_
    rintro e w15 ⟨rfl, hb15⟩
    have bT15 := bT14.below hb15
    have bO15 := bO14.below hb15
    have hB15 := hB14.trans (hb15.mono hB14.size)
    have po15 : Hid (Prs w15 w15.heap.size A ps) := (po14.out.keep hb15).wider hb15.size
    have wo15 : Hid (Prs w15 w15.heap.size Aw ws) := (wo14.out.keep hb15).wider hb15.size
    have pp15 : Hid (Prs w15 w15.heap.size A1 ps) := (pp14.out.keep hb15).wider hb15.size
    have ww15 : Hid (Prs w15 w15.heap.size A2 ws) := (ww14.out.keep hb15).wider hb15.size
    have ra15 : Hid (Ints w15 w15.heap.size (.slice Ara RL.length cra) RL) := (ra14.out.keep hb15).more hb15.size
    have rb15 : Hid (Ints w15 w15.heap.size (.slice Arb RL.length crb) RL) := (rb14.out.keep hb15).more hb15.size
    have el15 : Hid (Ints w15 w15.heap.size (.slice Ael EL.length cel) EL) := (el14.out.keep hb15).more hb15.size
    clear ct0 ct1 ct2 ct3 lT14 co0 co1 co2 co3 lO14 bT14 bO14 po14 wo14 pp14 ww14 ra14 rb14 el14 hB14 hb15
    have ct0 : w15.cell? ⟨w.heap.size, 0, none⟩ = some (.slice A ps.length c) := bT15.cell 0 rfl
    have ct1 : w15.cell? ⟨w.heap.size, 1, none⟩ = some (.int .i64 cl) := bT15.cell 1 rfl
    have ct2 : w15.cell? ⟨w.heap.size, 2, none⟩ = some (.int .i64 lo) := bT15.cell 2 rfl
    have ct3 : w15.cell? ⟨w.heap.size, 3, none⟩ = some (.int .i64 hi) := bT15.cell 3 rfl
    have lT15 := bT15.lt
    have co0 : w15.cell? ⟨BO, 0, none⟩ = some (.slice A1 ps.length cR) := bO15.cell 0 rfl
    have co1 : w15.cell? ⟨BO, 1, none⟩ = some (.int .i64 cl) := bO15.cell 1 rfl
    have co2 : w15.cell? ⟨BO, 2, none⟩ = some (.int .i64 lo) := bO15.cell 2 rfl
    have co3 : w15.cell? ⟨BO, 3, none⟩ = some (.int .i64 hi) := bO15.cell 3 rfl
    have lO15 := bO15.lt
    go_wp2_with fail
    refine (HWK.out _).mono ?_
    rintro e wz ⟨rfl, hbz⟩
    have hBz := hB15.trans (hbz.mono hB15.size)
    go_wp2_with fail
    go_returns
    exact ⟨rfl, hBz⟩
theorem lawElb_walk (t : Wl.Trk) (A : Option Addr) (c : Nat) (Aw : Option Addr) (cw : Nat) (ws : List (Int × Int)) (w : World) (_h1 : t.ps.length ≤ maxLen) (hP : Prs w w.heap.size A t.ps) (_h2 : ws.length ≤ maxLen) (hQ : Prs w w.heap.size Aw ws) :
    Calls Try.prog 5 #[.agg (trV t A c), .slice Aw ws.length cw] w fun e w' => e = .returned (.bool true) ∧ Below w.heap.size w w' := by
  cases h : Wl.farB t ws with
  | true => exact El_early t ws A Aw c cw w hP hQ h
  | false => exact El_short t ws A Aw c cw w hP hQ h

open Go.ChangeShapes Go.WideShapes Go.ChangeAt Go.RowKit Go.Joins

open Go.ChangeShapes Go.WideShapes Go.ChangeAt Go.RowKit Go.Joins

set_option maxRecDepth 100000 in
theorem elbows5_lifted (os : Os) (started : os.Started) (H : Type) (enc : TypeId × Value → H) :
    ReturnsInHanded {} Try.checked os 5 .any (Rows.walksElbowsSpec.pre6 enc Try.prog Try.f5 Rows.walksElbowsRow.domain false) (Rows.walksElbowsSpec.post enc Try.prog Try.f5 false true false false) := by
  refine returnsInHanded_of_change (C := Try.checked) own started (by kernel_rfl) Try.func5
    (ChangeSpec.witness6 (enc := enc) (C := Try.checked) false ⟨#[], #[.agg #[.slice none 0 0, .int .i64 0, .int .i64 0, .int .i64 0], .slice none 0 0], []⟩ 8 (by kernel_rfl) (by kernel_rfl) (by kernel_rfl) (by kernel_rfl)) ?_
  intro W base args ds gs before hval0 hW hcnd _
  have hval : ∀ (j : Nat) t v, Try.f5.params[j]? = some t → args[j]? = some v → Value.okWide Try.prog W .any base t v := hval0
  have hW' := hW
  obtain ⟨p, q, hA0, hV, rfl, hfz, hnd⟩ := hW
  have hA : DataW.TrodAll enc Try.prog W 0 (fun _ => true) true Try.f5.params.toList args.toList ds p := hA0
  rw [Try.params5] at hA hval
  obtain ⟨v0, v1, d0, d1, p0, p1, rfl, rfl, rfl, h0, h1⟩ := trodAll_two hA
  obtain ⟨rfl, rfl⟩ := trodVars_none hV
  obtain ⟨t, A, c, rfl, hg_t, hl_t⟩ := open_Track (hval 0 26 v0 rfl rfl) h0
  obtain ⟨Aw, cw, ws, rfl, hg_ws, hl_ws⟩ := open_prs Try.underlying22 Try.underlying28 (by kernel_rfl) (by kernel_rfl) (by kernel_rfl) (by kernel_rfl) (by kernel_rfl) Try.underlying3 Try.underlying3 (hval 1 22 v1 rfl rfl) h1
  refine (lawElb_walk t A c Aw cw ws W hl_t hg_t hl_ws hg_ws).mono fun e W' ⟨he, hb⟩ => ?_
  subst he
  exact ⟨_, rfl, law_post hW' rfl rfl (by intro t ht; have : t = 26 ∨ t = 22 := (by rw [Try.params5] at ht; simpa using ht); rcases this with rfl | rfl <;> exact ⟨by kernel_rfl, of_decide_eq_true (by kernel_rfl)⟩) rfl rfl rfl hb⟩

theorem elbows5_holds : Rows.WalksElbowsSaid :=
  OpenClaim.holds_of_wide 5 Try.f5 rfl rfl rfl rfl rfl rfl rfl ⟨rfl, rfl, rfl, rfl, rfl⟩ rfl rfl rfl rfl rfl (by kernel_rfl) Try.func5 (by kernel_rfl)
    (of_decide_eq_true (by kernel_rfl)) (by unfold Func.isWrapper; rw [if_neg (of_decide_eq_false (by kernel_rfl))]; exact ⟨rfl, rfl⟩)
    (fun os started H enc _ => elbows5_lifted os started H enc)
end Go.Proofs.Ytmjcdggmofohcaa
