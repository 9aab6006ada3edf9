/- Walks: the law WalksBack (P5.12). -/
import Derived.Test.YtmjcdggmofohcaaOpW
import Derived.Test.YtmjcdggmofohcaaWk5
import Derived.Test.YtmjcdggmofohcaaBck5
import Derived.Test.YtmjcdggmofohcaaFewI
import Derived.Test.YtmjcdggmofohcaaCpI
namespace Go.Proofs.Ytmjcdggmofohcaa
open Go.RowKit
namespace Wl
theorem movE_ofB {t : Trk} {ws : List Pt} {es : List Int} (h : chkV t ws = 0) (he : elbV t ws es = true) : movE t ws es = 0 := by unfold movE; rw [if_pos h, if_pos he]
end Wl
set_option maxRecDepth 100000 in
set_option maxHeartbeats 4000000 in
theorem AreElbows5_nilB (t : Wl.Trk) (ws : List Wl.Pt) (A Aw Ae : Option Addr) (c cw ce : Nat) (hw0 : 0 < ws.length) (w : World) :
    Calls Try.prog 36 #[.agg (trV t A c), .slice Aw ws.length cw, .slice Ae 0 ce] w fun e w' => e = .returned (.bool false) ∧ Below w.heap.size w w' := by
  obtain ⟨ps, cl, lo, hi⟩ := t
  unfold trV at *
  dsimp only at *
  have hlb : ((0 : Int) != (ws.length : Int)) = true := by simp; omega
  go_enter Try.func36, Try.ntmps36
  go_wp2_with fail
  go_returns
  exact ⟨rfl, by (repeat' (first | (with_reducible exact Below.refl _ _) | (with_reducible assumption) | (with_reducible refine Below.alloc ?_ ?_ _) | (with_reducible refine Below.drew ?_) | (with_reducible refine Below.setCell ?_ ?_ _) | go_size | (exact (by simp)) | omega))⟩
set_option maxRecDepth 100000 in
set_option maxHeartbeats 8000000 in
theorem Bk_early (t : Wl.Trk) (ws : List Wl.Pt) (xb : Int) (es : List Int) (A Aw Ae : Option Addr) (c cw ce : Nat) (w : World) (hP : Prs w w.heap.size A t.ps) (hQ : Prs w w.heap.size Aw ws) (h : Wl.readyB t ws = false ∨ Wl.readyB t ws = true ∧ (xb < 0 ∨ 100 < xb ∨ 40 < es.length)) :
    Calls Try.prog 8 #[.agg (trV t A c), .slice Aw ws.length cw, .agg #[.int .i64 xb, .slice Ae es.length ce]] w fun e w' => e = .returned (.bool true) ∧ Below w.heap.size w w' := by
  have HWK : Hid (∀ W, Calls Try.prog 12 #[] W fun e w' => e = .returned (.bool true) ∧ Below W.heap.size W w') := works5_any
  have HRD : Hid (∀ W, Below w.heap.size w W → Calls Try.prog 42 #[.agg (trV t A c), .slice Aw ws.length cw] W fun e w' => e = .returned (.bool (Wl.readyB t ws)) ∧ Below W.heap.size W w') := fun W hW => ready5_any t ws A Aw c cw W (prs_keep hP hW) (prs_keep hQ hW)
  clear hP hQ
  generalize Wl.readyB t ws = RB at *
  obtain ⟨ps, cl, lo, hi⟩ := t
  unfold trV at *
  dsimp only at *
  rcases h with h | ⟨h, h2⟩
  · subst h
    go_enter Try.func8, Try.ntmps8
    go_wp2_with fail
    have bT1 := (BoxS.new w 26 #[.slice A ps.length c, .int .i64 cl, .int .i64 lo, .int .i64 hi]).alloc (.cells #[.int .i64 xb, .slice Ae es.length ce] 54)
    have bX1 := BoxS.new (w.alloc (.cells #[.slice A ps.length c, .int .i64 cl, .int .i64 lo, .int .i64 hi] 26)) 54 #[.int .i64 xb, .slice Ae es.length ce]
    rw [World.size_alloc] at bX1
    have hB1 : Below w.heap.size w ((w.alloc (.cells #[.slice A ps.length c, .int .i64 cl, .int .i64 lo, .int .i64 hi] 26)).alloc (.cells #[.int .i64 xb, .slice Ae es.length ce] 54)) := by (repeat' (first | (with_reducible exact Below.refl _ _) | (with_reducible assumption) | (with_reducible refine Below.alloc ?_ ?_ _) | (with_reducible refine Below.drew ?_) | (with_reducible refine Below.setCell ?_ ?_ _) | go_size | (exact (by simp)) | omega))
    generalize World.alloc (World.alloc w _) _ = w1 at *
    have ct0 : w1.cell? ⟨w.heap.size, 0, none⟩ = some (.slice A ps.length c) := bT1.cell 0 rfl
    have ct1 : w1.cell? ⟨w.heap.size, 1, none⟩ = some (.int .i64 cl) := bT1.cell 1 rfl
    have ct2 : w1.cell? ⟨w.heap.size, 2, none⟩ = some (.int .i64 lo) := bT1.cell 2 rfl
    have ct3 : w1.cell? ⟨w.heap.size, 3, none⟩ = some (.int .i64 hi) := bT1.cell 3 rfl
    have lT1 := bT1.lt
    have cx0 : w1.cell? ⟨w.heap.size + 1, 0, none⟩ = some (.int .i64 xb) := bX1.cell 0 rfl
    have cx1 : w1.cell? ⟨w.heap.size + 1, 1, none⟩ = some (.slice Ae es.length ce) := bX1.cell 1 rfl
    have lX1 := bX1.lt
    try go_wp2_with fail
    refine (HRD.out _ hB1).mono ?_
    rintro e w2 ⟨rfl, hb2⟩
    have bT2 := bT1.below hb2
    have bX2 := bX1.below hb2
    have hB2 := hB1.trans (hb2.mono hB1.size)
    clear ct0 ct1 ct2 ct3 lT1 cx0 cx1 lX1 bT1 bX1 hB1 hb2
    have ct0 : w2.cell? ⟨w.heap.size, 0, none⟩ = some (.slice A ps.length c) := bT2.cell 0 rfl
    have ct1 : w2.cell? ⟨w.heap.size, 1, none⟩ = some (.int .i64 cl) := bT2.cell 1 rfl
    have ct2 : w2.cell? ⟨w.heap.size, 2, none⟩ = some (.int .i64 lo) := bT2.cell 2 rfl
    have ct3 : w2.cell? ⟨w.heap.size, 3, none⟩ = some (.int .i64 hi) := bT2.cell 3 rfl
    have lT2 := bT2.lt
    have cx0 : w2.cell? ⟨w.heap.size + 1, 0, none⟩ = some (.int .i64 xb) := bX2.cell 0 rfl
    have cx1 : w2.cell? ⟨w.heap.size + 1, 1, none⟩ = some (.slice Ae es.length ce) := bX2.cell 1 rfl
    have lX2 := bX2.lt
    go_wp2_with fail
    refine (HWK.out _).mono ?_
    rintro e wz ⟨rfl, hbz⟩
    have hBz := hB2.trans (hbz.mono hB2.size)
    go_wp2_with fail
    go_returns
    exact ⟨rfl, hBz⟩
  · subst h
    by_cases g1 : xb < 0
    · have f1 : decide (xb < 0) = true := decide_eq_true g1
      clear h2 g1
      go_enter Try.func8, Try.ntmps8
      go_wp2_with fail
      have bT1 := (BoxS.new w 26 #[.slice A ps.length c, .int .i64 cl, .int .i64 lo, .int .i64 hi]).alloc (.cells #[.int .i64 xb, .slice Ae es.length ce] 54)
      have bX1 := BoxS.new (w.alloc (.cells #[.slice A ps.length c, .int .i64 cl, .int .i64 lo, .int .i64 hi] 26)) 54 #[.int .i64 xb, .slice Ae es.length ce]
      rw [World.size_alloc] at bX1
      have hB1 : Below w.heap.size w ((w.alloc (.cells #[.slice A ps.length c, .int .i64 cl, .int .i64 lo, .int .i64 hi] 26)).alloc (.cells #[.int .i64 xb, .slice Ae es.length ce] 54)) := by (repeat' (first | (with_reducible exact Below.refl _ _) | (with_reducible assumption) | (with_reducible refine Below.alloc ?_ ?_ _) | (with_reducible refine Below.drew ?_) | (with_reducible refine Below.setCell ?_ ?_ _) | go_size | (exact (by simp)) | omega))
      generalize World.alloc (World.alloc w _) _ = w1 at *
      have ct0 : w1.cell? ⟨w.heap.size, 0, none⟩ = some (.slice A ps.length c) := bT1.cell 0 rfl
      have ct1 : w1.cell? ⟨w.heap.size, 1, none⟩ = some (.int .i64 cl) := bT1.cell 1 rfl
      have ct2 : w1.cell? ⟨w.heap.size, 2, none⟩ = some (.int .i64 lo) := bT1.cell 2 rfl
      have ct3 : w1.cell? ⟨w.heap.size, 3, none⟩ = some (.int .i64 hi) := bT1.cell 3 rfl
      have lT1 := bT1.lt
      have cx0 : w1.cell? ⟨w.heap.size + 1, 0, none⟩ = some (.int .i64 xb) := bX1.cell 0 rfl
      have cx1 : w1.cell? ⟨w.heap.size + 1, 1, none⟩ = some (.slice Ae es.length ce) := bX1.cell 1 rfl
      have lX1 := bX1.lt
      try go_wp2_with fail
      refine (HRD.out _ hB1).mono ?_
      rintro e w2 ⟨rfl, hb2⟩
      have bT2 := bT1.below hb2
      have bX2 := bX1.below hb2
      have hB2 := hB1.trans (hb2.mono hB1.size)
      clear ct0 ct1 ct2 ct3 lT1 cx0 cx1 lX1 bT1 bX1 hB1 hb2
      have ct0 : w2.cell? ⟨w.heap.size, 0, none⟩ = some (.slice A ps.length c) := bT2.cell 0 rfl
      have ct1 : w2.cell? ⟨w.heap.size, 1, none⟩ = some (.int .i64 cl) := bT2.cell 1 rfl
      have ct2 : w2.cell? ⟨w.heap.size, 2, none⟩ = some (.int .i64 lo) := bT2.cell 2 rfl
      have ct3 : w2.cell? ⟨w.heap.size, 3, none⟩ = some (.int .i64 hi) := bT2.cell 3 rfl
      have lT2 := bT2.lt
      have cx0 : w2.cell? ⟨w.heap.size + 1, 0, none⟩ = some (.int .i64 xb) := bX2.cell 0 rfl
      have cx1 : w2.cell? ⟨w.heap.size + 1, 1, none⟩ = some (.slice Ae es.length ce) := bX2.cell 1 rfl
      have lX2 := bX2.lt
      go_wp2_with fail
      refine (HWK.out _).mono ?_
      rintro e wz ⟨rfl, hbz⟩
      have hBz := hB2.trans (hbz.mono hB2.size)
      go_wp2_with fail
      go_returns
      exact ⟨rfl, hBz⟩
    · have f1 : decide (xb < 0) = false := decide_eq_false g1
      by_cases g2 : 100 < xb
      · have f2 : decide (100 < xb) = true := decide_eq_true g2
        clear h2 g1 g2
        go_enter Try.func8, Try.ntmps8
        go_wp2_with fail
        have bT1 := (BoxS.new w 26 #[.slice A ps.length c, .int .i64 cl, .int .i64 lo, .int .i64 hi]).alloc (.cells #[.int .i64 xb, .slice Ae es.length ce] 54)
        have bX1 := BoxS.new (w.alloc (.cells #[.slice A ps.length c, .int .i64 cl, .int .i64 lo, .int .i64 hi] 26)) 54 #[.int .i64 xb, .slice Ae es.length ce]
        rw [World.size_alloc] at bX1
        have hB1 : Below w.heap.size w ((w.alloc (.cells #[.slice A ps.length c, .int .i64 cl, .int .i64 lo, .int .i64 hi] 26)).alloc (.cells #[.int .i64 xb, .slice Ae es.length ce] 54)) := by (repeat' (first | (with_reducible exact Below.refl _ _) | (with_reducible assumption) | (with_reducible refine Below.alloc ?_ ?_ _) | (with_reducible refine Below.drew ?_) | (with_reducible refine Below.setCell ?_ ?_ _) | go_size | (exact (by simp)) | omega))
        generalize World.alloc (World.alloc w _) _ = w1 at *
        have ct0 : w1.cell? ⟨w.heap.size, 0, none⟩ = some (.slice A ps.length c) := bT1.cell 0 rfl
        have ct1 : w1.cell? ⟨w.heap.size, 1, none⟩ = some (.int .i64 cl) := bT1.cell 1 rfl
        have ct2 : w1.cell? ⟨w.heap.size, 2, none⟩ = some (.int .i64 lo) := bT1.cell 2 rfl
        have ct3 : w1.cell? ⟨w.heap.size, 3, none⟩ = some (.int .i64 hi) := bT1.cell 3 rfl
        have lT1 := bT1.lt
        have cx0 : w1.cell? ⟨w.heap.size + 1, 0, none⟩ = some (.int .i64 xb) := bX1.cell 0 rfl
        have cx1 : w1.cell? ⟨w.heap.size + 1, 1, none⟩ = some (.slice Ae es.length ce) := bX1.cell 1 rfl
        have lX1 := bX1.lt
        try go_wp2_with fail
        refine (HRD.out _ hB1).mono ?_
        rintro e w2 ⟨rfl, hb2⟩
        have bT2 := bT1.below hb2
        have bX2 := bX1.below hb2
        have hB2 := hB1.trans (hb2.mono hB1.size)
        clear ct0 ct1 ct2 ct3 lT1 cx0 cx1 lX1 bT1 bX1 hB1 hb2
        have ct0 : w2.cell? ⟨w.heap.size, 0, none⟩ = some (.slice A ps.length c) := bT2.cell 0 rfl
        have ct1 : w2.cell? ⟨w.heap.size, 1, none⟩ = some (.int .i64 cl) := bT2.cell 1 rfl
        have ct2 : w2.cell? ⟨w.heap.size, 2, none⟩ = some (.int .i64 lo) := bT2.cell 2 rfl
        have ct3 : w2.cell? ⟨w.heap.size, 3, none⟩ = some (.int .i64 hi) := bT2.cell 3 rfl
        have lT2 := bT2.lt
        have cx0 : w2.cell? ⟨w.heap.size + 1, 0, none⟩ = some (.int .i64 xb) := bX2.cell 0 rfl
        have cx1 : w2.cell? ⟨w.heap.size + 1, 1, none⟩ = some (.slice Ae es.length ce) := bX2.cell 1 rfl
        have lX2 := bX2.lt
        go_wp2_with fail
        refine (HWK.out _).mono ?_
        rintro e wz ⟨rfl, hbz⟩
        have hBz := hB2.trans (hbz.mono hB2.size)
        go_wp2_with fail
        go_returns
        exact ⟨rfl, hBz⟩
      · have f2 : decide (100 < xb) = false := decide_eq_false g2
        have f3 : decide (40 < (es.length : Int)) = true := decide_eq_true (by omega)
        have f4 : decide (40 < es.length) = true := decide_eq_true (by omega)
        clear h2 g1 g2
        go_enter Try.func8, Try.ntmps8
        go_wp2_with fail
        have bT1 := (BoxS.new w 26 #[.slice A ps.length c, .int .i64 cl, .int .i64 lo, .int .i64 hi]).alloc (.cells #[.int .i64 xb, .slice Ae es.length ce] 54)
        have bX1 := BoxS.new (w.alloc (.cells #[.slice A ps.length c, .int .i64 cl, .int .i64 lo, .int .i64 hi] 26)) 54 #[.int .i64 xb, .slice Ae es.length ce]
        rw [World.size_alloc] at bX1
        have hB1 : Below w.heap.size w ((w.alloc (.cells #[.slice A ps.length c, .int .i64 cl, .int .i64 lo, .int .i64 hi] 26)).alloc (.cells #[.int .i64 xb, .slice Ae es.length ce] 54)) := by (repeat' (first | (with_reducible exact Below.refl _ _) | (with_reducible assumption) | (with_reducible refine Below.alloc ?_ ?_ _) | (with_reducible refine Below.drew ?_) | (with_reducible refine Below.setCell ?_ ?_ _) | go_size | (exact (by simp)) | omega))
        generalize World.alloc (World.alloc w _) _ = w1 at *
        have ct0 : w1.cell? ⟨w.heap.size, 0, none⟩ = some (.slice A ps.length c) := bT1.cell 0 rfl
        have ct1 : w1.cell? ⟨w.heap.size, 1, none⟩ = some (.int .i64 cl) := bT1.cell 1 rfl
        have ct2 : w1.cell? ⟨w.heap.size, 2, none⟩ = some (.int .i64 lo) := bT1.cell 2 rfl
        have ct3 : w1.cell? ⟨w.heap.size, 3, none⟩ = some (.int .i64 hi) := bT1.cell 3 rfl
        have lT1 := bT1.lt
        have cx0 : w1.cell? ⟨w.heap.size + 1, 0, none⟩ = some (.int .i64 xb) := bX1.cell 0 rfl
        have cx1 : w1.cell? ⟨w.heap.size + 1, 1, none⟩ = some (.slice Ae es.length ce) := bX1.cell 1 rfl
        have lX1 := bX1.lt
        try go_wp2_with fail
        refine (HRD.out _ hB1).mono ?_
        rintro e w2 ⟨rfl, hb2⟩
        have bT2 := bT1.below hb2
        have bX2 := bX1.below hb2
        have hB2 := hB1.trans (hb2.mono hB1.size)
        clear ct0 ct1 ct2 ct3 lT1 cx0 cx1 lX1 bT1 bX1 hB1 hb2
        have ct0 : w2.cell? ⟨w.heap.size, 0, none⟩ = some (.slice A ps.length c) := bT2.cell 0 rfl
        have ct1 : w2.cell? ⟨w.heap.size, 1, none⟩ = some (.int .i64 cl) := bT2.cell 1 rfl
        have ct2 : w2.cell? ⟨w.heap.size, 2, none⟩ = some (.int .i64 lo) := bT2.cell 2 rfl
        have ct3 : w2.cell? ⟨w.heap.size, 3, none⟩ = some (.int .i64 hi) := bT2.cell 3 rfl
        have lT2 := bT2.lt
        have cx0 : w2.cell? ⟨w.heap.size + 1, 0, none⟩ = some (.int .i64 xb) := bX2.cell 0 rfl
        have cx1 : w2.cell? ⟨w.heap.size + 1, 1, none⟩ = some (.slice Ae es.length ce) := bX2.cell 1 rfl
        have lX2 := bX2.lt
        go_wp2_with fail
        refine (HWK.out _).mono ?_
        rintro e wz ⟨rfl, hbz⟩
        have hBz := hB2.trans (hbz.mono hB2.size)
        go_wp2_with fail
        go_returns
        exact ⟨rfl, hBz⟩
set_option maxRecDepth 100000 in
set_option maxHeartbeats 32000000 in
theorem Bk_short (t : Wl.Trk) (ws : List Wl.Pt) (m : Nat) (es : List Int) (A Aw Ae : Option Addr) (c cw ce : Nat) (w : World) (hP : Prs w w.heap.size A t.ps) (hQ : Prs w w.heap.size Aw ws) (hE : GIn w w.heap.size Ae ce es) (h : Wl.readyB t ws = true) (hmb : m ≤ 100) (hes : es.length ≤ 40) :
    Calls Try.prog 8 #[.agg (trV t A c), .slice Aw ws.length cw, .agg #[.int .i64 (m : Int), .slice Ae es.length ce]] w fun e w' => e = .returned (.bool true) ∧ Below w.heap.size w w' := by
  have HWK : Hid (∀ W, Calls Try.prog 12 #[] W fun e w' => e = .returned (.bool true) ∧ Below W.heap.size W w') := works5_any
  obtain ⟨l5, m5, hck⟩ := Wl.ready_lens h
  obtain ⟨htr, hwv⟩ := Wl.chk_yes.1 hck
  have hw0 := Wl.pts_posM hwv
  have hcc := (Wl.trk_parts htr).2.1
  have hrv := Wl.ptsB_rev hwv
  have hrt := Wl.ptsB_rot m hwv
  have hlv : ws.reverse.length = ws.length := List.length_reverse
  have hlt' : (Wl.rotW ws m).length = ws.length := Wl.rotL_len _ _ _
  have HRD : Hid (∀ W, Below w.heap.size w W → Calls Try.prog 42 #[.agg (trV t A c), .slice Aw ws.length cw] W fun e w' => e = .returned (.bool true) ∧ Below W.heap.size W w') := fun W hW => by
    have := ready5_any t ws A Aw c cw W (prs_keep hP hW) (prs_keep hQ hW)
    rw [h] at this
    exact this
  have HBA : Hid (∀ (A' : Option Addr) (c' : Nat) (W : World), Prs W W.heap.size A' ws → Calls Try.prog 43 #[.slice A' ws.length c'] W (PrsPost ws.reverse W)) := fun A' c' W h' => back5_any A' c' ws (by omega) W h'
  have HTN : Hid (∀ (A' : Option Addr) (c' : Nat) (W : World), Prs W W.heap.size A' ws → Calls Try.prog 44 #[.slice A' ws.length c', .int .i64 (m : Int)] W (PrsPost (Wl.rotW ws m) W)) := fun A' c' W h' => turned5_any A' c' ws m (by omega) (by omega) W h'
  have HA1 : Hid (∀ (A' : Option Addr) (c' : Nat) (W : World), Prs W W.heap.size A' ws → Calls Try.prog 16 #[.slice A' ws.length c'] W (TwoPost (Wl.dbl ws) 0 W)) := fun A' c' W h' => by
    have := AreaW_any A' c' ws (by omega) W h'
    rw [if_pos hwv, if_pos hwv] at this
    exact this
  have HA2 : Hid (∀ (A' : Option Addr) (c' : Nat) (W : World), Prs W W.heap.size A' ws.reverse → Calls Try.prog 16 #[.slice A' ws.reverse.length c'] W (TwoPost (-Wl.dbl ws) 0 W)) := fun A' c' W h' => by
    have := AreaW_any A' c' ws.reverse (by omega) W h'
    rw [if_pos hrv, if_pos hrv, Wl.dbl_rev hw0] at this
    exact this
  have HA3 : Hid (∀ (A' : Option Addr) (c' : Nat) (W : World), Prs W W.heap.size A' (Wl.rotW ws m) → Calls Try.prog 16 #[.slice A' (Wl.rotW ws m).length c'] W (TwoPost (Wl.dbl ws) 0 W)) := fun A' c' W h' => by
    have := AreaW_any A' c' (Wl.rotW ws m) (by omega) W h'
    rw [if_pos hrt, if_pos hrt, Wl.dbl_rot hw0] at this
    exact this
  have HM1 : Hid (∀ (A' : Option Addr) (c' : Nat) (W : World), Below w.heap.size w W → Prs W W.heap.size A' ws → Calls Try.prog 29 #[.agg (trV t A c), .slice A' ws.length c'] W (TwoPost (if Wl.setE t ws = 0 then ((Wl.elbsL t ws).length : Int) else 0) (Wl.setE t ws) W)) := fun A' c' W hW h' => by
    have := ManyW_any t ws A A' c c' (by omega) (by omega) W (prs_keep hP hW) h'
    exact this
  have HL1 : Hid (∀ (A' : Option Addr) (c' : Nat) (W : World), Below w.heap.size w W → Prs W W.heap.size A' ws → Calls Try.prog 33 #[.agg (trV t A c), .slice A' ws.length c'] W (TwoPost (if Wl.setE t ws = 0 then Wl.movesV (Wl.calmV (Wl.elbsL t ws)) else 0) (Wl.setE t ws) W)) := fun A' c' W hW h' => by
    have := LeastW_any t ws A A' c c' (by omega) (by omega) W (prs_keep hP hW) h'
    exact this
  have HR1 : Hid (∀ (A' : Option Addr) (c' : Nat) (W : World), Below w.heap.size w W → Prs W W.heap.size A' ws → Calls Try.prog 31 #[.agg (trV t A c), .slice A' ws.length c'] W (IntsEPost (if Wl.setE t ws = 0 then Wl.rollsL t ws else []) (Wl.setE t ws) W)) := fun A' c' W hW h' => by
    have := RollsW_any t ws A A' c c' (by omega) (by omega) W (prs_keep hP hW) h'
    exact this
  have HM2 : Hid (∀ (A' : Option Addr) (c' : Nat) (W : World), Below w.heap.size w W → Prs W W.heap.size A' ws.reverse → Calls Try.prog 29 #[.agg (trV t A c), .slice A' ws.reverse.length c'] W (TwoPost (if Wl.setE t ws = 0 then ((Wl.elbsL t ws).length : Int) else 0) (Wl.setE t ws) W)) := fun A' c' W hW h' => by
    have := ManyW_any t ws.reverse A A' c c' (by omega) (by omega) W (prs_keep hP hW) h'
    rw [Wl.set_rev hck, Wl.many_rev hcc hw0] at this
    exact this
  have HL2 : Hid (∀ (A' : Option Addr) (c' : Nat) (W : World), Below w.heap.size w W → Prs W W.heap.size A' ws.reverse → Calls Try.prog 33 #[.agg (trV t A c), .slice A' ws.reverse.length c'] W (TwoPost (if Wl.setE t ws = 0 then Wl.movesV (Wl.calmV (Wl.elbsL t ws)) else 0) (Wl.setE t ws) W)) := fun A' c' W hW h' => by
    have := LeastW_any t ws.reverse A A' c c' (by omega) (by omega) W (prs_keep hP hW) h'
    rw [Wl.set_rev hck] at this
    by_cases h0 : Wl.setE t ws = 0
    · rw [if_pos h0, Wl.least_rev hcc hw0 (Wl.setE_yes h0).2] at this
      rw [if_pos h0]
      exact this
    rw [if_neg h0] at this ⊢
    exact this
  have HR2 : Hid (∀ (A' : Option Addr) (c' : Nat) (W : World), Below w.heap.size w W → Prs W W.heap.size A' ws.reverse → Calls Try.prog 31 #[.agg (trV t A c), .slice A' ws.reverse.length c'] W (IntsEPost ((if Wl.setE t ws = 0 then Wl.rollsL t ws else []).map (fun x => -x)).reverse (Wl.setE t ws) W)) := fun A' c' W hW h' => by
    have := RollsW_any t ws.reverse A A' c c' (by omega) (by omega) W (prs_keep hP hW) h'
    rw [Wl.set_rev hck] at this
    by_cases h0 : Wl.setE t ws = 0
    · rw [if_pos h0, Wl.rolls_rev htr hw0] at this
      rw [if_pos h0]
      exact this
    rw [if_neg h0] at this ⊢
    exact this
  have HM3 : Hid (∀ (A' : Option Addr) (c' : Nat) (W : World), Below w.heap.size w W → Prs W W.heap.size A' (Wl.rotW ws m) → Calls Try.prog 29 #[.agg (trV t A c), .slice A' (Wl.rotW ws m).length c'] W (TwoPost (if Wl.setE t ws = 0 then ((Wl.elbsL t ws).length : Int) else 0) (Wl.setE t ws) W)) := fun A' c' W hW h' => by
    have := ManyW_any t (Wl.rotW ws m) A A' c c' (by omega) (by omega) W (prs_keep hP hW) h'
    rw [Wl.set_rot m hck, Wl.many_rot hw0 m] at this
    exact this
  have HL3 : Hid (∀ (A' : Option Addr) (c' : Nat) (W : World), Below w.heap.size w W → Prs W W.heap.size A' (Wl.rotW ws m) → Calls Try.prog 33 #[.agg (trV t A c), .slice A' (Wl.rotW ws m).length c'] W (TwoPost (if Wl.setE t ws = 0 then Wl.movesV (Wl.calmV (Wl.elbsL t ws)) else 0) (Wl.setE t ws) W)) := fun A' c' W hW h' => by
    have := LeastW_any t (Wl.rotW ws m) A A' c c' (by omega) (by omega) W (prs_keep hP hW) h'
    rw [Wl.set_rot m hck] at this
    by_cases h0 : Wl.setE t ws = 0
    · rw [if_pos h0, Wl.least_rot hw0 m (Wl.setE_yes h0).2] at this
      rw [if_pos h0]
      exact this
    rw [if_neg h0] at this ⊢
    exact this
  have HR3 : Hid (∀ (A' : Option Addr) (c' : Nat) (W : World), Below w.heap.size w W → Prs W W.heap.size A' (Wl.rotW ws m) → Calls Try.prog 31 #[.agg (trV t A c), .slice A' (Wl.rotW ws m).length c'] W (IntsEPost (if Wl.setE t ws = 0 then Wl.rollsL t ws else []) (Wl.setE t ws) W)) := fun A' c' W hW h' => by
    have := RollsW_any t (Wl.rotW ws m) A A' c c' (by omega) (by omega) W (prs_keep hP hW) h'
    rw [Wl.set_rot m hck, Wl.rolls_rot htr hw0 m] at this
    exact this
  have HKN : Hid (∀ (e : Int) W, Calls Try.prog 38 #[.int .i64 e] W fun x w' => x = .returned (.bool (decide (e = 0) || decide (e = 3))) ∧ w' = W) := isKnown5_any
  have HSI : Hid (∀ (v v' : Value) (xs : List Int) (W : World), Ints W W.heap.size v xs → Ints W W.heap.size v' xs → xs.length ≤ 1000000000 → Calls Try.prog 22 #[v, v'] W fun e w' => e = .returned (.bool true) ∧ Below W.heap.size W w') := fun v v' xs W h h' hl => by
    have := SameInts_any v v' xs xs W h h' hl hl
    rw [decide_eq_true rfl] at this
    exact this
  have HAE : Hid (∀ (A' : Option Addr) (c' : Nat) (Ae' : Option Addr) (ce' : Nat) (W : World), Below w.heap.size w W → Prs W W.heap.size A' ws → GIn W W.heap.size Ae' ce' es → Calls Try.prog 36 #[.agg (trV t A c), .slice A' ws.length c', .slice Ae' es.length ce'] W fun e w' => e = .returned (.bool (Wl.elbV t ws es)) ∧ Below W.heap.size W w') := fun A' c' Ae' ce' W hW h1 h2 => by
    match es, h2, hes with
    | [], _, _ =>
      have e : Wl.elbV t ws [] = false := by
        unfold Wl.elbV
        have : decide (([] : List Int).length = ws.length) = false := decide_eq_false (by simp; omega)
        rw [this, Bool.false_and]
      rw [e]
      exact AreElbows5_nilB t ws A A' Ae' c c' ce' hw0 W
    | x :: es, h2, hes => exact AreElbows5_any t ws (x :: es) A A' Ae' c c' ce' htr hwv (by omega) (by omega) W (prs_keep hP hW) h1 (h2 (by simp))
  have HSW1 : Hid (Wl.elbV t ws es = true → ∀ (A' : Option Addr) (c' : Nat) (Ae' : Option Addr) (ce' : Nat) (W : World), Below w.heap.size w W → Prs W W.heap.size A' ws → Ints W W.heap.size (.slice Ae' es.length ce') es → Calls Try.prog 24 #[.agg (trV t A c), .slice A' ws.length c', .slice Ae' es.length ce'] W (TwoPost (Wl.sweepV t ws es) 0 W)) := fun hv A' c' Ae' ce' W hW h1 h2 => by
    have := SweepW_any t ws es A A' Ae' c c' ce' (by omega) (by omega) (by omega) W (prs_keep hP hW) h1 h2
    rw [Wl.movE_ofB hck hv, if_pos rfl] at this
    exact this
  have HSW2 : Hid (Wl.elbV t ws es = true → ∀ (A' : Option Addr) (c' : Nat) (Ae' : Option Addr) (ce' : Nat) (W : World), Below w.heap.size w W → Prs W W.heap.size A' ws.reverse → Ints W W.heap.size (.slice Ae' es.reverse.length ce') es.reverse → Calls Try.prog 24 #[.agg (trV t A c), .slice A' ws.reverse.length c', .slice Ae' es.reverse.length ce'] W (TwoPost (-Wl.sweepV t ws es) 0 W)) := fun hv A' c' Ae' ce' W hW h1 h2 => by
    have := SweepW_any t ws.reverse es.reverse A A' Ae' c c' ce' (by omega) (by rw [List.length_reverse]; omega) (by omega) W (prs_keep hP hW) h1 h2
    rw [Wl.movE_ofB (Wl.chk_rev hck) (Wl.elbV_rev hcc hw0 hv), if_pos rfl, Wl.sweep_rev htr hw0 hv] at this
    exact this
  have HTU1 : Hid (Wl.elbV t ws es = true → ∀ (A' : Option Addr) (c' : Nat) (Ae' : Option Addr) (ce' : Nat) (W : World), Below w.heap.size w W → Prs W W.heap.size A' ws → Ints W W.heap.size (.slice Ae' es.length ce') es → Calls Try.prog 26 #[.agg (trV t A c), .slice A' ws.length c', .slice Ae' es.length ce'] W (TwoPost (Wl.turnsV t es) 0 W)) := fun hv A' c' Ae' ce' W hW h1 h2 => by
    have := TurnsW_any t ws es A A' Ae' c c' ce' (by omega) (by omega) (by omega) W (prs_keep hP hW) h1 h2
    rw [Wl.movE_ofB hck hv, if_pos rfl] at this
    exact this
  have HTU2 : Hid (Wl.elbV t ws es = true → ∀ (A' : Option Addr) (c' : Nat) (Ae' : Option Addr) (ce' : Nat) (W : World), Below w.heap.size w W → Prs W W.heap.size A' ws.reverse → Ints W W.heap.size (.slice Ae' es.reverse.length ce') es.reverse → Calls Try.prog 26 #[.agg (trV t A c), .slice A' ws.reverse.length c', .slice Ae' es.reverse.length ce'] W (TwoPost (-Wl.turnsV t es) 0 W)) := fun hv A' c' Ae' ce' W hW h1 h2 => by
    have := TurnsW_any t ws.reverse es.reverse A A' Ae' c c' ce' (by omega) (by rw [List.length_reverse]; omega) (by omega) W (prs_keep hP hW) h1 h2
    rw [Wl.movE_ofB (Wl.chk_rev hck) (Wl.elbV_rev hcc hw0 hv), if_pos rfl, Wl.turns_rev hcc (by have := (Wl.elbV_iff.1 hv).1; omega)] at this
    exact this
  have HIN : Hid (∀ (v : Value) (xs : List Int) (n : Int) (W : World), Ints W W.heap.size v xs → xs.length ≤ 1000000000 → n ∈ xs → Calls Try.prog 45 #[v, .int .i64 n] W fun e w' => e = .returned (.bool true) ∧ w' = W) := fun v xs n W h1 h2 h3 => by
    have := In_any v xs n W h1 h2
    rw [decide_eq_true h3] at this
    exact this
  have HEY : Hid (Wl.elbV t ws es = true → Wl.sweepV t ws es ∈ (if Wl.setE t ws = 0 then Wl.rollsL t ws else []) ∧ 0 < es.length ∧ (-(16000000 + 16000000 * 16) ≤ Wl.sweepV t ws es ∧ Wl.sweepV t ws es ≤ 16000000 + 16000000 * 16) ∧ -1000 ≤ Wl.turnsV t es ∧ Wl.turnsV t es ≤ 1000) := fun hv => by
    have hle := (Wl.elbV_iff.1 hv).1
    have hm := (Wl.mem_elbsL hw0).2 hv
    have hs0 : Wl.setE t ws = 0 := by
      unfold Wl.setE
      rw [if_pos hck]
      cases he : Wl.elbsL t ws with
      | nil => rw [he] at hm; cases hm
      | cons a l => rfl
    have hmt := Wl.meterV htr hw0 hv
    have hsb := Wl.swTo_bd (t := t) (ws := ws) (es := es) (Wl.trk_sm htr) (fun k hk => Wl.pts_sm hwv hk) (fun k hk => (Wl.mem_reachL.1 (Wl.fitB_mem.1 ((Wl.elbV_iff.1 hv).2.1 k hk))).1) hle hw0 es.length
    have hsv : Wl.sweepV t ws es = Wl.swTo t ws es es.length := rfl
    rw [if_pos hs0]
    refine ⟨(Wl.mem_rollsL hw0).2 ⟨es, hv, rfl⟩, by omega, by rw [hsv]; omega, by omega, by omega⟩
  have HDB : Hid (-16000000 ≤ Wl.dbl ws ∧ Wl.dbl ws ≤ 16000000) := by
    have := Wl.dblTo_bd5 (ps := ws) (fun k hk => Wl.pts_sm hwv hk) hw0 ws.length (Nat.le_refl _)
    have e : Wl.dbl ws = Wl.dblTo ws ws.length := rfl
    unfold Hid
    rw [e]
    omega
  have HSE : Hid (Wl.setE t ws = 0 ∨ Wl.setE t ws = 3) := by
    unfold Hid Wl.setE
    rw [if_pos hck]
    split
    · exact .inr rfl
    · exact .inl rfl
  have HRB : Hid ((if Wl.setE t ws = 0 then Wl.rollsL t ws else []).length ≤ 100000) := by
    unfold Hid
    split
    · have := Wl.rolls_lt l5 m5; omega
    · simp
  have HRX : Hid (∀ x ∈ (if Wl.setE t ws = 0 then Wl.rollsL t ws else []), -400000000 ≤ x ∧ x ≤ 400000000) := fun x hx => by
    split at hx
    · obtain ⟨fs, hv, rfl⟩ := (Wl.mem_rollsL hw0).1 hx
      have hle := (Wl.elbV_iff.1 hv).1
      have hsb := Wl.swTo_bd (t := t) (ws := ws) (es := fs) (Wl.trk_sm htr) (fun k hk => Wl.pts_sm hwv hk) (fun k hk => (Wl.mem_reachL.1 (Wl.fitB_mem.1 ((Wl.elbV_iff.1 hv).2.1 k hk))).1) hle hw0 fs.length
      have hsv : Wl.sweepV t ws fs = Wl.swTo t ws fs fs.length := rfl
      rw [hsv]
      omega
    · cases hx
  unfold PrsPost at HBA HTN
  unfold TwoPost at HA1 HA2 HA3 HM1 HM2 HM3 HL1 HL2 HL3
  unfold IntsEPost at HR1 HR2 HR3
  have HNX : Hid (∀ (k : Nat) (x : Int), (if Wl.setE t ws = 0 then Wl.rollsL t ws else [])[k]? = some x → (((if Wl.setE t ws = 0 then Wl.rollsL t ws else []).map (fun x => -x)).reverse)[(if Wl.setE t ws = 0 then Wl.rollsL t ws else []).length - 1 - k]? = some (-x)) := fun k x h => Wl.rolls_neg_at h
  have hNL : Hid ((((if Wl.setE t ws = 0 then Wl.rollsL t ws else []).map (fun x => -x)).reverse).length = (if Wl.setE t ws = 0 then Wl.rollsL t ws else []).length) := by unfold Hid; rw [List.length_reverse, List.length_map]
  have HES : Hid (∀ k, k < es.length → es.reverse.take (k + 1) = es.reverse.take k ++ [Wl.esAt es (es.length - 1 - k)]) := fun k hk => Wl.take_revI hk
  have HEL : Hid (∀ k, k ≤ es.length → (es.reverse.take k).length = k) := fun k hk => by rw [List.length_take, List.length_reverse]; omega
  have HEA : Hid (es.reverse.take es.length = es.reverse) := by unfold Hid; rw [← List.length_reverse, List.take_length]
  have HE0 : Hid (es.reverse.take 0 = []) := rfl
  generalize hT : (fun k : Nat => es.reverse.take k) = ET at *
  have hT' : ∀ k : Nat, es.reverse.take k = ET k := fun k => by rw [← hT]
  simp only [hT'] at HES HEL HEA HE0
  clear hT hT'
  clear hlv hlt' hrv hrt
  generalize es.reverse = EV at *
  generalize ws.reverse = PV at *
  generalize Wl.rotW ws m = QV at *
  generalize (if Wl.setE t ws = 0 then ((Wl.elbsL t ws).length : Int) else 0) = MV at *
  generalize (if Wl.setE t ws = 0 then Wl.movesV (Wl.calmV (Wl.elbsL t ws)) else 0) = LV at *
  generalize (if Wl.setE t ws = 0 then Wl.rollsL t ws else []) = RL at *
  generalize (RL.map (fun x => -x)).reverse = NL at *
  generalize Wl.setE t ws = SE at *
  generalize Wl.dbl ws = AV at *
  have hkn : (decide (SE = 0) || decide (SE = 3)) = true := by rcases HSE.out with h | h <;> rw [h] <;> rfl
  have hn0 : IntKind.i64.wrap (-AV) = -AV := IntWalk.i64_in _ (by have := HDB.out; omega)
  have hav2 : (-AV != -AV) = false := by simp
  have hav : (AV != AV) = false := by simp
  have hmv : (MV != MV) = false := by simp
  have hlv2 : (LV != LV) = false := by simp
  have hse : (SE != SE) = false := by simp
  have hsl2 : ((RL.length : Int) != (NL.length : Int)) = false := by have := hNL.out; simp; omega
  have f1 : decide ((m : Int) < 0) = false := decide_eq_false (by omega)
  have f2 : decide (100 < (m : Int)) = false := decide_eq_false (by omega)
  have f3 : decide (40 < (es.length : Int)) = false := decide_eq_false (by omega)
  have f4 : decide (40 < es.length) = false := decide_eq_false (by omega)
  have hHP := Lib.hid hP
  have hHQ := Lib.hid hQ
  have hHE := Lib.hid hE
  clear hP hQ hE HSE HDB htr hwv hck hcc h l5 hw0
  obtain ⟨ps, cl, lo, hi⟩ := t
  unfold trV at *
  dsimp only at *
  go_enter Try.func8, Try.ntmps8
  go_wp2_with fail
  have bT1 := (BoxS.new w 26 #[.slice A ps.length c, .int .i64 cl, .int .i64 lo, .int .i64 hi]).alloc (.cells #[.int .i64 (m : Int), .slice Ae es.length ce] 54)
  have bX1 := BoxS.new (w.alloc (.cells #[.slice A ps.length c, .int .i64 cl, .int .i64 lo, .int .i64 hi] 26)) 54 #[.int .i64 (m : Int), .slice Ae es.length ce]
  rw [World.size_alloc] at bX1
  have hB1 : Below w.heap.size w ((w.alloc (.cells #[.slice A ps.length c, .int .i64 cl, .int .i64 lo, .int .i64 hi] 26)).alloc (.cells #[.int .i64 (m : Int), .slice Ae es.length ce] 54)) := by (repeat' (first | (with_reducible exact Below.refl _ _) | (with_reducible assumption) | (with_reducible refine Below.alloc ?_ ?_ _) | (with_reducible refine Below.drew ?_) | (with_reducible refine Below.setCell ?_ ?_ _) | go_size | (exact (by simp)) | omega))
  generalize World.alloc (World.alloc w _) _ = w1 at *
  have ct0 : w1.cell? ⟨w.heap.size, 0, none⟩ = some (.slice A ps.length c) := bT1.cell 0 rfl
  have ct1 : w1.cell? ⟨w.heap.size, 1, none⟩ = some (.int .i64 cl) := bT1.cell 1 rfl
  have ct2 : w1.cell? ⟨w.heap.size, 2, none⟩ = some (.int .i64 lo) := bT1.cell 2 rfl
  have ct3 : w1.cell? ⟨w.heap.size, 3, none⟩ = some (.int .i64 hi) := bT1.cell 3 rfl
  have lT1 := bT1.lt
  have cx0 : w1.cell? ⟨w.heap.size + 1, 0, none⟩ = some (.int .i64 (m : Int)) := bX1.cell 0 rfl
  have cx1 : w1.cell? ⟨w.heap.size + 1, 1, none⟩ = some (.slice Ae es.length ce) := bX1.cell 1 rfl
  have lX1 := bX1.lt
  try go_wp2_with fail
  have po1 : Hid (Prs w1 w1.heap.size A ps) := prs_keep hHP.out hB1
  have wo1 : Hid (Prs w1 w1.heap.size Aw ws) := prs_keep hHQ.out hB1
  have eo1 : Hid (GIn w1 w1.heap.size Ae ce es) := (hHE.out.keep hB1).wider hB1.size
  clear po1
  refine (HRD.out _ hB1).mono ?_
  rintro e w2 ⟨rfl, hb2⟩
  have bT2 := bT1.below hb2
  have bX2 := bX1.below hb2
  have hB2 := hB1.trans (hb2.mono hB1.size)
  have wo2 : Hid (Prs w2 w2.heap.size Aw ws) := (wo1.out.keep hb2).wider hb2.size
  have eo2 : Hid (GIn w2 w2.heap.size Ae ce es) := (eo1.out.keep hb2).wider hb2.size
  clear ct0 ct1 ct2 ct3 lT1 cx0 cx1 lX1 bT1 bX1 wo1 eo1 hB1 hb2
  have ct0 : w2.cell? ⟨w.heap.size, 0, none⟩ = some (.slice A ps.length c) := bT2.cell 0 rfl
  have ct1 : w2.cell? ⟨w.heap.size, 1, none⟩ = some (.int .i64 cl) := bT2.cell 1 rfl
  have ct2 : w2.cell? ⟨w.heap.size, 2, none⟩ = some (.int .i64 lo) := bT2.cell 2 rfl
  have ct3 : w2.cell? ⟨w.heap.size, 3, none⟩ = some (.int .i64 hi) := bT2.cell 3 rfl
  have lT2 := bT2.lt
  have cx0 : w2.cell? ⟨w.heap.size + 1, 0, none⟩ = some (.int .i64 (m : Int)) := bX2.cell 0 rfl
  have cx1 : w2.cell? ⟨w.heap.size + 1, 1, none⟩ = some (.slice Ae es.length ce) := bX2.cell 1 rfl
  have lX2 := bX2.lt
  go_wp2_with fail
  refine (wpIn_wide (n := 4)).1 ?_
  have hmo : Try.prog.follows .mixedOrders = true := by kernel_rfl
  have q0 : Below w2.heap.size w2 w2.drew := (Below.refl _ _).drew
  have KC : Hid (∀ W', Below w2.heap.size w2 W' → W'.cell? ⟨w.heap.size + 1, 0, none⟩ = some (.int .i64 (m : Int))) := fun W' h => (bX2.below h).cell 0 rfl
  refine wpIn_region_held (fun W' => Below w2.heap.size w2 W') 30 hmo ?_
  refine wpHeldIn_take (i := 0) (v := ?_) (plain_of (by kernel_rfl)) rfl (by kernel_rfl) (fun _ _ _ h => h) (yieldsSoIn_of (by kernel_rfl) ?_ (fun _ => rfl)) q0 ?_; rotate_left; focus (intro wq hw; clear hw; go_simp; try (with_reducible rfl))
  refine wpHeldIn_take (i := 2) (v := ?_) (plain_of (by kernel_rfl)) rfl (by kernel_rfl) (fun _ _ _ h => h) (yieldsSoIn_of (by kernel_rfl) ?_ (fun _ => rfl)) q0 ?_; rotate_left; focus (intro wq hw; clear hw; go_simp; try (with_reducible rfl))
  refine wpHeldIn_take (i := 3) (v := ?_) (plain_of (by kernel_rfl)) rfl (by kernel_rfl) (fun _ _ _ h => h) (yieldsSoIn_of (by kernel_rfl) ?_ (fun _ => rfl)) q0 ?_; rotate_left; focus (intro wq hw; clear hw; go_simp; try (with_reducible rfl))
  refine wpHeldIn_take (i := 4) (v := ?_) (plain_of (by kernel_rfl)) rfl (by kernel_rfl) (fun _ _ _ h => h) (yieldsSoIn_of (by kernel_rfl) ?_ (fun _ => rfl)) q0 ?_; rotate_left; focus (intro wq hw; have kq := KC.out wq hw; clear hw; go_simp; try (with_reducible rfl))
  refine wpHeldIn_one (i := 1) (by kernel_rfl) (by kernel_rfl) rfl (by kernel_rfl) (fun K2 hK2 => ?_)
  go_simp
  refine ⟨trivial, (callsIn_wide.2 (HBA.out _ _ _ (prs_keep wo2.out q0))).mono ?_⟩
  rintro e wp ⟨AP, cP, rfl, hPP, hbp⟩
  have qp := q0.trans (hbp.mono q0.size)
  refine hK2 _ _ qp ?_
  refine wpHeldIn_one (i := 5) (by kernel_rfl) (by kernel_rfl) rfl (by kernel_rfl) (fun K3 hK3 => ?_)
  go_simp
  refine ⟨trivial, (callsIn_wide.2 (HTN.out _ _ _ (prs_keep wo2.out qp))).mono ?_⟩
  rintro e w3 ⟨AQ, cQ, rfl, hPQ, hbq⟩
  have hbz := qp.trans (hbq.mono qp.size)
  refine hK3 _ _ hbz ?_
  refine wpHeldIn_take (i := 6) (v := ?_) (plain_of (by kernel_rfl)) rfl (by kernel_rfl) (fun _ _ _ h => h) (yieldsSoIn_of (by kernel_rfl) ?_ (fun _ => rfl)) hbz ?_; rotate_left; focus (intro wq hw; clear hw; go_simp; try (with_reducible rfl))
  refine wpHeldIn_take (i := 7) (v := ?_) (plain_of (by kernel_rfl)) rfl (by kernel_rfl) (fun _ _ _ h => h) (yieldsSoIn_of (by kernel_rfl) ?_ (fun _ => rfl)) hbz ?_; rotate_left; focus (intro wq hw; clear hw; go_simp; try (with_reducible rfl))
  refine wpHeldIn_done (by kernel_rfl) ?_ _
  go_simp
  have pw3 : Hid (Prs w3 w3.heap.size AP PV) := prs_keep hPP.out hbq
  have qw3 : Hid (Prs w3 w3.heap.size AQ QV) := hPQ
  clear KC HBA HTN
  have bT3 := bT2.below hbz
  have bX3 := bX2.below hbz
  have hB3 := hB2.trans (hbz.mono hB2.size)
  have wo3 : Hid (Prs w3 w3.heap.size Aw ws) := (wo2.out.keep hbz).wider hbz.size
  have eo3 : Hid (GIn w3 w3.heap.size Ae ce es) := (eo2.out.keep hbz).wider hbz.size
  clear ct0 ct1 ct2 ct3 lT2 cx0 cx1 lX2 bT2 bX2 wo2 eo2 hB2 hbz qp hbp hbq q0 hPP hPQ
  have ct0 : w3.cell? ⟨w.heap.size, 0, none⟩ = some (.slice A ps.length c) := bT3.cell 0 rfl
  have ct1 : w3.cell? ⟨w.heap.size, 1, none⟩ = some (.int .i64 cl) := bT3.cell 1 rfl
  have ct2 : w3.cell? ⟨w.heap.size, 2, none⟩ = some (.int .i64 lo) := bT3.cell 2 rfl
  have ct3 : w3.cell? ⟨w.heap.size, 3, none⟩ = some (.int .i64 hi) := bT3.cell 3 rfl
  have lT3 := bT3.lt
  have cx0 : w3.cell? ⟨w.heap.size + 1, 0, none⟩ = some (.int .i64 (m : Int)) := bX3.cell 0 rfl
  have cx1 : w3.cell? ⟨w.heap.size + 1, 1, none⟩ = some (.slice Ae es.length ce) := bX3.cell 1 rfl
  have lX3 := bX3.lt
  go_wp2_with fail
  refine (HA1.out _ _ _ wo3.out).mono ?_
  rintro e w4 ⟨rfl, hb4⟩
  have bT4 := bT3.below hb4
  have bX4 := bX3.below hb4
  have hB4 := hB3.trans (hb4.mono hB3.size)
  have wo4 : Hid (Prs w4 w4.heap.size Aw ws) := (wo3.out.keep hb4).wider hb4.size
  have eo4 : Hid (GIn w4 w4.heap.size Ae ce es) := (eo3.out.keep hb4).wider hb4.size
  have pw4 : Hid (Prs w4 w4.heap.size AP PV) := (pw3.out.keep hb4).wider hb4.size
  have qw4 : Hid (Prs w4 w4.heap.size AQ QV) := (qw3.out.keep hb4).wider hb4.size
  clear ct0 ct1 ct2 ct3 lT3 cx0 cx1 lX3 bT3 bX3 wo3 eo3 pw3 qw3 hB3 hb4
  have ct0 : w4.cell? ⟨w.heap.size, 0, none⟩ = some (.slice A ps.length c) := bT4.cell 0 rfl
  have ct1 : w4.cell? ⟨w.heap.size, 1, none⟩ = some (.int .i64 cl) := bT4.cell 1 rfl
  have ct2 : w4.cell? ⟨w.heap.size, 2, none⟩ = some (.int .i64 lo) := bT4.cell 2 rfl
  have ct3 : w4.cell? ⟨w.heap.size, 3, none⟩ = some (.int .i64 hi) := bT4.cell 3 rfl
  have lT4 := bT4.lt
  have cx0 : w4.cell? ⟨w.heap.size + 1, 0, none⟩ = some (.int .i64 (m : Int)) := bX4.cell 0 rfl
  have cx1 : w4.cell? ⟨w.heap.size + 1, 1, none⟩ = some (.slice Ae es.length ce) := bX4.cell 1 rfl
  have lX4 := bX4.lt
  go_wp2_with fail
  refine (HA2.out _ _ _ pw4.out).mono ?_
  rintro e w5 ⟨rfl, hb5⟩
  have bT5 := bT4.below hb5
  have bX5 := bX4.below hb5
  have hB5 := hB4.trans (hb5.mono hB4.size)
  have wo5 : Hid (Prs w5 w5.heap.size Aw ws) := (wo4.out.keep hb5).wider hb5.size
  have eo5 : Hid (GIn w5 w5.heap.size Ae ce es) := (eo4.out.keep hb5).wider hb5.size
  have pw5 : Hid (Prs w5 w5.heap.size AP PV) := (pw4.out.keep hb5).wider hb5.size
  have qw5 : Hid (Prs w5 w5.heap.size AQ QV) := (qw4.out.keep hb5).wider hb5.size
  clear ct0 ct1 ct2 ct3 lT4 cx0 cx1 lX4 bT4 bX4 wo4 eo4 pw4 qw4 hB4 hb5
  have ct0 : w5.cell? ⟨w.heap.size, 0, none⟩ = some (.slice A ps.length c) := bT5.cell 0 rfl
  have ct1 : w5.cell? ⟨w.heap.size, 1, none⟩ = some (.int .i64 cl) := bT5.cell 1 rfl
  have ct2 : w5.cell? ⟨w.heap.size, 2, none⟩ = some (.int .i64 lo) := bT5.cell 2 rfl
  have ct3 : w5.cell? ⟨w.heap.size, 3, none⟩ = some (.int .i64 hi) := bT5.cell 3 rfl
  have lT5 := bT5.lt
  have cx0 : w5.cell? ⟨w.heap.size + 1, 0, none⟩ = some (.int .i64 (m : Int)) := bX5.cell 0 rfl
  have cx1 : w5.cell? ⟨w.heap.size + 1, 1, none⟩ = some (.slice Ae es.length ce) := bX5.cell 1 rfl
  have lX5 := bX5.lt
  go_wp2_with fail
  refine (HA3.out _ _ _ qw5.out).mono ?_
  rintro e w6 ⟨rfl, hb6⟩
  have bT6 := bT5.below hb6
  have bX6 := bX5.below hb6
  have hB6 := hB5.trans (hb6.mono hB5.size)
  have wo6 : Hid (Prs w6 w6.heap.size Aw ws) := (wo5.out.keep hb6).wider hb6.size
  have eo6 : Hid (GIn w6 w6.heap.size Ae ce es) := (eo5.out.keep hb6).wider hb6.size
  have pw6 : Hid (Prs w6 w6.heap.size AP PV) := (pw5.out.keep hb6).wider hb6.size
  have qw6 : Hid (Prs w6 w6.heap.size AQ QV) := (qw5.out.keep hb6).wider hb6.size
  clear ct0 ct1 ct2 ct3 lT5 cx0 cx1 lX5 bT5 bX5 wo5 eo5 pw5 qw5 hB5 hb6
  have ct0 : w6.cell? ⟨w.heap.size, 0, none⟩ = some (.slice A ps.length c) := bT6.cell 0 rfl
  have ct1 : w6.cell? ⟨w.heap.size, 1, none⟩ = some (.int .i64 cl) := bT6.cell 1 rfl
  have ct2 : w6.cell? ⟨w.heap.size, 2, none⟩ = some (.int .i64 lo) := bT6.cell 2 rfl
  have ct3 : w6.cell? ⟨w.heap.size, 3, none⟩ = some (.int .i64 hi) := bT6.cell 3 rfl
  have lT6 := bT6.lt
  have cx0 : w6.cell? ⟨w.heap.size + 1, 0, none⟩ = some (.int .i64 (m : Int)) := bX6.cell 0 rfl
  have cx1 : w6.cell? ⟨w.heap.size + 1, 1, none⟩ = some (.slice Ae es.length ce) := bX6.cell 1 rfl
  have lX6 := bX6.lt
  go_wp2_with fail
  refine (HM1.out _ _ _ hB6 wo6.out).mono ?_
  rintro e w7 ⟨rfl, hb7⟩
  have bT7 := bT6.below hb7
  have bX7 := bX6.below hb7
  have hB7 := hB6.trans (hb7.mono hB6.size)
  have wo7 : Hid (Prs w7 w7.heap.size Aw ws) := (wo6.out.keep hb7).wider hb7.size
  have eo7 : Hid (GIn w7 w7.heap.size Ae ce es) := (eo6.out.keep hb7).wider hb7.size
  have pw7 : Hid (Prs w7 w7.heap.size AP PV) := (pw6.out.keep hb7).wider hb7.size
  have qw7 : Hid (Prs w7 w7.heap.size AQ QV) := (qw6.out.keep hb7).wider hb7.size
  clear ct0 ct1 ct2 ct3 lT6 cx0 cx1 lX6 bT6 bX6 wo6 eo6 pw6 qw6 hB6 hb7
  have ct0 : w7.cell? ⟨w.heap.size, 0, none⟩ = some (.slice A ps.length c) := bT7.cell 0 rfl
  have ct1 : w7.cell? ⟨w.heap.size, 1, none⟩ = some (.int .i64 cl) := bT7.cell 1 rfl
  have ct2 : w7.cell? ⟨w.heap.size, 2, none⟩ = some (.int .i64 lo) := bT7.cell 2 rfl
  have ct3 : w7.cell? ⟨w.heap.size, 3, none⟩ = some (.int .i64 hi) := bT7.cell 3 rfl
  have lT7 := bT7.lt
  have cx0 : w7.cell? ⟨w.heap.size + 1, 0, none⟩ = some (.int .i64 (m : Int)) := bX7.cell 0 rfl
  have cx1 : w7.cell? ⟨w.heap.size + 1, 1, none⟩ = some (.slice Ae es.length ce) := bX7.cell 1 rfl
  have lX7 := bX7.lt
  go_wp2_with fail
  refine (HM2.out _ _ _ hB7 pw7.out).mono ?_
  rintro e w8 ⟨rfl, hb8⟩
  have bT8 := bT7.below hb8
  have bX8 := bX7.below hb8
  have hB8 := hB7.trans (hb8.mono hB7.size)
  have wo8 : Hid (Prs w8 w8.heap.size Aw ws) := (wo7.out.keep hb8).wider hb8.size
  have eo8 : Hid (GIn w8 w8.heap.size Ae ce es) := (eo7.out.keep hb8).wider hb8.size
  have pw8 : Hid (Prs w8 w8.heap.size AP PV) := (pw7.out.keep hb8).wider hb8.size
  have qw8 : Hid (Prs w8 w8.heap.size AQ QV) := (qw7.out.keep hb8).wider hb8.size
  clear ct0 ct1 ct2 ct3 lT7 cx0 cx1 lX7 bT7 bX7 wo7 eo7 pw7 qw7 hB7 hb8
  have ct0 : w8.cell? ⟨w.heap.size, 0, none⟩ = some (.slice A ps.length c) := bT8.cell 0 rfl
  have ct1 : w8.cell? ⟨w.heap.size, 1, none⟩ = some (.int .i64 cl) := bT8.cell 1 rfl
  have ct2 : w8.cell? ⟨w.heap.size, 2, none⟩ = some (.int .i64 lo) := bT8.cell 2 rfl
  have ct3 : w8.cell? ⟨w.heap.size, 3, none⟩ = some (.int .i64 hi) := bT8.cell 3 rfl
  have lT8 := bT8.lt
  have cx0 : w8.cell? ⟨w.heap.size + 1, 0, none⟩ = some (.int .i64 (m : Int)) := bX8.cell 0 rfl
  have cx1 : w8.cell? ⟨w.heap.size + 1, 1, none⟩ = some (.slice Ae es.length ce) := bX8.cell 1 rfl
  have lX8 := bX8.lt
  go_wp2_with fail
  refine (HM3.out _ _ _ hB8 qw8.out).mono ?_
  rintro e w9 ⟨rfl, hb9⟩
  have bT9 := bT8.below hb9
  have bX9 := bX8.below hb9
  have hB9 := hB8.trans (hb9.mono hB8.size)
  have wo9 : Hid (Prs w9 w9.heap.size Aw ws) := (wo8.out.keep hb9).wider hb9.size
  have eo9 : Hid (GIn w9 w9.heap.size Ae ce es) := (eo8.out.keep hb9).wider hb9.size
  have pw9 : Hid (Prs w9 w9.heap.size AP PV) := (pw8.out.keep hb9).wider hb9.size
  have qw9 : Hid (Prs w9 w9.heap.size AQ QV) := (qw8.out.keep hb9).wider hb9.size
  clear ct0 ct1 ct2 ct3 lT8 cx0 cx1 lX8 bT8 bX8 wo8 eo8 pw8 qw8 hB8 hb9
  have ct0 : w9.cell? ⟨w.heap.size, 0, none⟩ = some (.slice A ps.length c) := bT9.cell 0 rfl
  have ct1 : w9.cell? ⟨w.heap.size, 1, none⟩ = some (.int .i64 cl) := bT9.cell 1 rfl
  have ct2 : w9.cell? ⟨w.heap.size, 2, none⟩ = some (.int .i64 lo) := bT9.cell 2 rfl
  have ct3 : w9.cell? ⟨w.heap.size, 3, none⟩ = some (.int .i64 hi) := bT9.cell 3 rfl
  have lT9 := bT9.lt
  have cx0 : w9.cell? ⟨w.heap.size + 1, 0, none⟩ = some (.int .i64 (m : Int)) := bX9.cell 0 rfl
  have cx1 : w9.cell? ⟨w.heap.size + 1, 1, none⟩ = some (.slice Ae es.length ce) := bX9.cell 1 rfl
  have lX9 := bX9.lt
  go_wp2_with fail
  refine (HKN.out _ _).mono ?_
  rintro e wq ⟨rfl, hq⟩
  have hq := hq.symm
  subst hq
  rw [hkn]
  go_wp2_with fail
  refine (HR1.out _ _ _ hB9 wo9.out).mono ?_
  rintro e w10 ⟨v10, rfl, hv10, hb10⟩
  obtain ⟨Ara, cra, rfl⟩ := ints_form hv10.out
  have bT10 := bT9.below hb10
  have bX10 := bX9.below hb10
  have hB10 := hB9.trans (hb10.mono hB9.size)
  have wo10 : Hid (Prs w10 w10.heap.size Aw ws) := (wo9.out.keep hb10).wider hb10.size
  have eo10 : Hid (GIn w10 w10.heap.size Ae ce es) := (eo9.out.keep hb10).wider hb10.size
  have pw10 : Hid (Prs w10 w10.heap.size AP PV) := (pw9.out.keep hb10).wider hb10.size
  have qw10 : Hid (Prs w10 w10.heap.size AQ QV) := (qw9.out.keep hb10).wider hb10.size
  clear ct0 ct1 ct2 ct3 lT9 cx0 cx1 lX9 bT9 bX9 wo9 eo9 pw9 qw9 hB9 hb10
  have ra10 : Hid (Ints w10 w10.heap.size (.slice Ara RL.length cra) RL) := hv10
  clear hv10
  have ct0 : w10.cell? ⟨w.heap.size, 0, none⟩ = some (.slice A ps.length c) := bT10.cell 0 rfl
  have ct1 : w10.cell? ⟨w.heap.size, 1, none⟩ = some (.int .i64 cl) := bT10.cell 1 rfl
  have ct2 : w10.cell? ⟨w.heap.size, 2, none⟩ = some (.int .i64 lo) := bT10.cell 2 rfl
  have ct3 : w10.cell? ⟨w.heap.size, 3, none⟩ = some (.int .i64 hi) := bT10.cell 3 rfl
  have lT10 := bT10.lt
  have cx0 : w10.cell? ⟨w.heap.size + 1, 0, none⟩ = some (.int .i64 (m : Int)) := bX10.cell 0 rfl
  have cx1 : w10.cell? ⟨w.heap.size + 1, 1, none⟩ = some (.slice Ae es.length ce) := bX10.cell 1 rfl
  have lX10 := bX10.lt
  go_wp2_with fail
  refine (HR2.out _ _ _ hB10 pw10.out).mono ?_
  rintro e w11 ⟨v11, rfl, hv11, hb11⟩
  obtain ⟨Arb, crb, rfl⟩ := ints_form hv11.out
  have bT11 := bT10.below hb11
  have bX11 := bX10.below hb11
  have hB11 := hB10.trans (hb11.mono hB10.size)
  have wo11 : Hid (Prs w11 w11.heap.size Aw ws) := (wo10.out.keep hb11).wider hb11.size
  have eo11 : Hid (GIn w11 w11.heap.size Ae ce es) := (eo10.out.keep hb11).wider hb11.size
  have pw11 : Hid (Prs w11 w11.heap.size AP PV) := (pw10.out.keep hb11).wider hb11.size
  have qw11 : Hid (Prs w11 w11.heap.size AQ QV) := (qw10.out.keep hb11).wider hb11.size
  have ra11 : Hid (Ints w11 w11.heap.size (.slice Ara RL.length cra) RL) := (ra10.out.keep hb11).more hb11.size
  clear ct0 ct1 ct2 ct3 lT10 cx0 cx1 lX10 bT10 bX10 wo10 eo10 pw10 qw10 ra10 hB10 hb11
  have rb11 : Hid (Ints w11 w11.heap.size (.slice Arb NL.length crb) NL) := hv11
  clear hv11
  have ct0 : w11.cell? ⟨w.heap.size, 0, none⟩ = some (.slice A ps.length c) := bT11.cell 0 rfl
  have ct1 : w11.cell? ⟨w.heap.size, 1, none⟩ = some (.int .i64 cl) := bT11.cell 1 rfl
  have ct2 : w11.cell? ⟨w.heap.size, 2, none⟩ = some (.int .i64 lo) := bT11.cell 2 rfl
  have ct3 : w11.cell? ⟨w.heap.size, 3, none⟩ = some (.int .i64 hi) := bT11.cell 3 rfl
  have lT11 := bT11.lt
  have cx0 : w11.cell? ⟨w.heap.size + 1, 0, none⟩ = some (.int .i64 (m : Int)) := bX11.cell 0 rfl
  have cx1 : w11.cell? ⟨w.heap.size + 1, 1, none⟩ = some (.slice Ae es.length ce) := bX11.cell 1 rfl
  have lX11 := bX11.lt
  go_wp2_with fail
  refine (HR3.out _ _ _ hB11 qw11.out).mono ?_
  rintro e w12 ⟨v12, rfl, hv12, hb12⟩
  obtain ⟨Arc, crc, rfl⟩ := ints_form hv12.out
  have bT12 := bT11.below hb12
  have bX12 := bX11.below hb12
  have hB12 := hB11.trans (hb12.mono hB11.size)
  have wo12 : Hid (Prs w12 w12.heap.size Aw ws) := (wo11.out.keep hb12).wider hb12.size
  have eo12 : Hid (GIn w12 w12.heap.size Ae ce es) := (eo11.out.keep hb12).wider hb12.size
  have pw12 : Hid (Prs w12 w12.heap.size AP PV) := (pw11.out.keep hb12).wider hb12.size
  have qw12 : Hid (Prs w12 w12.heap.size AQ QV) := (qw11.out.keep hb12).wider hb12.size
  have ra12 : Hid (Ints w12 w12.heap.size (.slice Ara RL.length cra) RL) := (ra11.out.keep hb12).more hb12.size
  have rb12 : Hid (Ints w12 w12.heap.size (.slice Arb NL.length crb) NL) := (rb11.out.keep hb12).more hb12.size
  clear ct0 ct1 ct2 ct3 lT11 cx0 cx1 lX11 bT11 bX11 wo11 eo11 pw11 qw11 ra11 rb11 hB11 hb12
  have rc12 : Hid (Ints w12 w12.heap.size (.slice Arc RL.length crc) RL) := hv12
  clear hv12
  have ct0 : w12.cell? ⟨w.heap.size, 0, none⟩ = some (.slice A ps.length c) := bT12.cell 0 rfl
  have ct1 : w12.cell? ⟨w.heap.size, 1, none⟩ = some (.int .i64 cl) := bT12.cell 1 rfl
  have ct2 : w12.cell? ⟨w.heap.size, 2, none⟩ = some (.int .i64 lo) := bT12.cell 2 rfl
  have ct3 : w12.cell? ⟨w.heap.size, 3, none⟩ = some (.int .i64 hi) := bT12.cell 3 rfl
  have lT12 := bT12.lt
  have cx0 : w12.cell? ⟨w.heap.size + 1, 0, none⟩ = some (.int .i64 (m : Int)) := bX12.cell 0 rfl
  have cx1 : w12.cell? ⟨w.heap.size + 1, 1, none⟩ = some (.slice Ae es.length ce) := bX12.cell 1 rfl
  have lX12 := bX12.lt
  go_wp2_with fail
  refine (HL1.out _ _ _ hB12 wo12.out).mono ?_
  rintro e w13 ⟨rfl, hb13⟩
  have bT13 := bT12.below hb13
  have bX13 := bX12.below hb13
  have hB13 := hB12.trans (hb13.mono hB12.size)
  have wo13 : Hid (Prs w13 w13.heap.size Aw ws) := (wo12.out.keep hb13).wider hb13.size
  have eo13 : Hid (GIn w13 w13.heap.size Ae ce es) := (eo12.out.keep hb13).wider hb13.size
  have pw13 : Hid (Prs w13 w13.heap.size AP PV) := (pw12.out.keep hb13).wider hb13.size
  have qw13 : Hid (Prs w13 w13.heap.size AQ QV) := (qw12.out.keep hb13).wider hb13.size
  have ra13 : Hid (Ints w13 w13.heap.size (.slice Ara RL.length cra) RL) := (ra12.out.keep hb13).more hb13.size
  have rb13 : Hid (Ints w13 w13.heap.size (.slice Arb NL.length crb) NL) := (rb12.out.keep hb13).more hb13.size
  have rc13 : Hid (Ints w13 w13.heap.size (.slice Arc RL.length crc) RL) := (rc12.out.keep hb13).more hb13.size
  clear ct0 ct1 ct2 ct3 lT12 cx0 cx1 lX12 bT12 bX12 wo12 eo12 pw12 qw12 ra12 rb12 rc12 hB12 hb13
  have ct0 : w13.cell? ⟨w.heap.size, 0, none⟩ = some (.slice A ps.length c) := bT13.cell 0 rfl
  have ct1 : w13.cell? ⟨w.heap.size, 1, none⟩ = some (.int .i64 cl) := bT13.cell 1 rfl
  have ct2 : w13.cell? ⟨w.heap.size, 2, none⟩ = some (.int .i64 lo) := bT13.cell 2 rfl
  have ct3 : w13.cell? ⟨w.heap.size, 3, none⟩ = some (.int .i64 hi) := bT13.cell 3 rfl
  have lT13 := bT13.lt
  have cx0 : w13.cell? ⟨w.heap.size + 1, 0, none⟩ = some (.int .i64 (m : Int)) := bX13.cell 0 rfl
  have cx1 : w13.cell? ⟨w.heap.size + 1, 1, none⟩ = some (.slice Ae es.length ce) := bX13.cell 1 rfl
  have lX13 := bX13.lt
  go_wp2_with fail
  refine (HL2.out _ _ _ hB13 pw13.out).mono ?_
  rintro e w14 ⟨rfl, hb14⟩
  have bT14 := bT13.below hb14
  have bX14 := bX13.below hb14
  have hB14 := hB13.trans (hb14.mono hB13.size)
  have wo14 : Hid (Prs w14 w14.heap.size Aw ws) := (wo13.out.keep hb14).wider hb14.size
  have eo14 : Hid (GIn w14 w14.heap.size Ae ce es) := (eo13.out.keep hb14).wider hb14.size
  have pw14 : Hid (Prs w14 w14.heap.size AP PV) := (pw13.out.keep hb14).wider hb14.size
  have qw14 : Hid (Prs w14 w14.heap.size AQ QV) := (qw13.out.keep hb14).wider hb14.size
  have ra14 : Hid (Ints w14 w14.heap.size (.slice Ara RL.length cra) RL) := (ra13.out.keep hb14).more hb14.size
  have rb14 : Hid (Ints w14 w14.heap.size (.slice Arb NL.length crb) NL) := (rb13.out.keep hb14).more hb14.size
  have rc14 : Hid (Ints w14 w14.heap.size (.slice Arc RL.length crc) RL) := (rc13.out.keep hb14).more hb14.size
  clear ct0 ct1 ct2 ct3 lT13 cx0 cx1 lX13 bT13 bX13 wo13 eo13 pw13 qw13 ra13 rb13 rc13 hB13 hb14
  have ct0 : w14.cell? ⟨w.heap.size, 0, none⟩ = some (.slice A ps.length c) := bT14.cell 0 rfl
  have ct1 : w14.cell? ⟨w.heap.size, 1, none⟩ = some (.int .i64 cl) := bT14.cell 1 rfl
  have ct2 : w14.cell? ⟨w.heap.size, 2, none⟩ = some (.int .i64 lo) := bT14.cell 2 rfl
  have ct3 : w14.cell? ⟨w.heap.size, 3, none⟩ = some (.int .i64 hi) := bT14.cell 3 rfl
  have lT14 := bT14.lt
  have cx0 : w14.cell? ⟨w.heap.size + 1, 0, none⟩ = some (.int .i64 (m : Int)) := bX14.cell 0 rfl
  have cx1 : w14.cell? ⟨w.heap.size + 1, 1, none⟩ = some (.slice Ae es.length ce) := bX14.cell 1 rfl
  have lX14 := bX14.lt
  go_wp2_with fail
  refine (HL3.out _ _ _ hB14 qw14.out).mono ?_
  rintro e w15 ⟨rfl, hb15⟩
  have bT15 := bT14.below hb15
  have bX15 := bX14.below hb15
  have hB15 := hB14.trans (hb15.mono hB14.size)
  have wo15 : Hid (Prs w15 w15.heap.size Aw ws) := (wo14.out.keep hb15).wider hb15.size
  have eo15 : Hid (GIn w15 w15.heap.size Ae ce es) := (eo14.out.keep hb15).wider hb15.size
  have pw15 : Hid (Prs w15 w15.heap.size AP PV) := (pw14.out.keep hb15).wider hb15.size
  have qw15 : Hid (Prs w15 w15.heap.size AQ QV) := (qw14.out.keep hb15).wider hb15.size
  have ra15 : Hid (Ints w15 w15.heap.size (.slice Ara RL.length cra) RL) := (ra14.out.keep hb15).more hb15.size
  have rb15 : Hid (Ints w15 w15.heap.size (.slice Arb NL.length crb) NL) := (rb14.out.keep hb15).more hb15.size
  have rc15 : Hid (Ints w15 w15.heap.size (.slice Arc RL.length crc) RL) := (rc14.out.keep hb15).more hb15.size
  clear ct0 ct1 ct2 ct3 lT14 cx0 cx1 lX14 bT14 bX14 wo14 eo14 pw14 qw14 ra14 rb14 rc14 hB14 hb15
  have ct0 : w15.cell? ⟨w.heap.size, 0, none⟩ = some (.slice A ps.length c) := bT15.cell 0 rfl
  have ct1 : w15.cell? ⟨w.heap.size, 1, none⟩ = some (.int .i64 cl) := bT15.cell 1 rfl
  have ct2 : w15.cell? ⟨w.heap.size, 2, none⟩ = some (.int .i64 lo) := bT15.cell 2 rfl
  have ct3 : w15.cell? ⟨w.heap.size, 3, none⟩ = some (.int .i64 hi) := bT15.cell 3 rfl
  have lT15 := bT15.lt
  have cx0 : w15.cell? ⟨w.heap.size + 1, 0, none⟩ = some (.int .i64 (m : Int)) := bX15.cell 0 rfl
  have cx1 : w15.cell? ⟨w.heap.size + 1, 1, none⟩ = some (.slice Ae es.length ce) := bX15.cell 1 rfl
  have lX15 := bX15.lt
  go_wp2_with fail
  refine (HSI.out _ _ _ _ ra15.out rc15.out (by have := HRB.out; omega)).mono ?_
  rintro e w16 ⟨rfl, hb16⟩
  have bT16 := bT15.below hb16
  have bX16 := bX15.below hb16
  have hB16 := hB15.trans (hb16.mono hB15.size)
  have wo16 : Hid (Prs w16 w16.heap.size Aw ws) := (wo15.out.keep hb16).wider hb16.size
  have eo16 : Hid (GIn w16 w16.heap.size Ae ce es) := (eo15.out.keep hb16).wider hb16.size
  have pw16 : Hid (Prs w16 w16.heap.size AP PV) := (pw15.out.keep hb16).wider hb16.size
  have qw16 : Hid (Prs w16 w16.heap.size AQ QV) := (qw15.out.keep hb16).wider hb16.size
  have ra16 : Hid (Ints w16 w16.heap.size (.slice Ara RL.length cra) RL) := (ra15.out.keep hb16).more hb16.size
  have rb16 : Hid (Ints w16 w16.heap.size (.slice Arb NL.length crb) NL) := (rb15.out.keep hb16).more hb16.size
  have rc16 : Hid (Ints w16 w16.heap.size (.slice Arc RL.length crc) RL) := (rc15.out.keep hb16).more hb16.size
  clear ct0 ct1 ct2 ct3 lT15 cx0 cx1 lX15 bT15 bX15 wo15 eo15 pw15 qw15 ra15 rb15 rc15 hB15 hb16
  have ct0 : w16.cell? ⟨w.heap.size, 0, none⟩ = some (.slice A ps.length c) := bT16.cell 0 rfl
  have ct1 : w16.cell? ⟨w.heap.size, 1, none⟩ = some (.int .i64 cl) := bT16.cell 1 rfl
  have ct2 : w16.cell? ⟨w.heap.size, 2, none⟩ = some (.int .i64 lo) := bT16.cell 2 rfl
  have ct3 : w16.cell? ⟨w.heap.size, 3, none⟩ = some (.int .i64 hi) := bT16.cell 3 rfl
  have lT16 := bT16.lt
  have cx0 : w16.cell? ⟨w.heap.size + 1, 0, none⟩ = some (.int .i64 (m : Int)) := bX16.cell 0 rfl
  have cx1 : w16.cell? ⟨w.heap.size + 1, 1, none⟩ = some (.slice Ae es.length ce) := bX16.cell 1 rfl
  have lX16 := bX16.lt
  go_wp2_with fail
  clear rc16
  clear ct0 ct1 ct2 ct3 lT16 cx0 cx1 lX16
  clear HA1 HA2 HA3 HM1 HM2 HM3 HR1 HR2 HR3 HL1 HL2 HL3 HSI HKN HRD hav hav2 hmv hlv2 hse hkn hsl2
  go_loopg [27] RL.length (fun g x27 wx => ∃ k : Nat, Hid (k + g = RL.length) ∧ (k : Int) ≤ RL.length ∧ x27 = .int .i64 (k : Int) ∧ Below w16.heap.size w16 wx)
  case atStart => exact ⟨0, by simp [Hid], by omega, rfl, Below.refl _ _⟩
  case round =>
    obtain ⟨k, hk, hk1, rfl, hbb⟩ := hrel
    have hk0 := Int.natCast_nonneg k
    by_cases hlt : (k : Int) < RL.length
    · have hkn : k < RL.length := by omega
      obtain ⟨x, hx⟩ : ∃ x, RL[k]? = some x := ⟨_, List.getElem?_eq_getElem hkn⟩
      have hnx := HNX.out k x hx
      have hxb := HRX.out x (List.mem_of_getElem? hx)
      have hNLl := hNL.out
      rcases ra16.out with ⟨_, e⟩ | ⟨b, off, cap, e, hb, hc⟩
      · subst e; simp at hkn
      · injection e with eA _ ec
        subst eA ec
        rcases rb16.out with ⟨_, e⟩ | ⟨b2, off2, cap2, e, hb2, hc2⟩
        · subst e; simp at hNLl; omega
        · injection e with eA _ ec
          subst eA ec
          have d0 := (hbb.cell (p := ⟨b, off + k, none⟩) hb).trans (hc k x hx)
          have d1 := (hbb.cell (p := ⟨b2, off2 + (RL.length - 1 - k), none⟩) hb2).trans (hc2 _ _ hnx)
          have hbr : b < wr.heap.size := by have := hbb.size; omega
          have hbr2 : b2 < wr.heap.size := by have := hbb.size; omega
          have hw0 : IntKind.i64.wrap ((NL.length : Int) - 1) = (NL.length : Int) - 1 := IntWalk.i64_in _ (by have := HRB.out; omega)
          have hj : (NL.length : Int) - 1 - k = ((RL.length - 1 - k : Nat) : Int) := by omega
          have hjl : RL.length - 1 - k < NL.length := by omega
          have hw1 : IntKind.i64.wrap ((NL.length : Int) - 1 - k) = ((RL.length - 1 - k : Nat) : Int) := by rw [hj]; exact IntWalk.i64_in _ (by have := HRB.out; omega)
          have hw2 : IntKind.i64.wrap (-x) = -x := IntWalk.i64_in _ (by omega)
          have hw3 : IntKind.i64.wrap ((k : Int) + 1) = (k : Int) + 1 := IntWalk.i64_in _ (by have := HRB.out; omega)
          clear hc hc2 hx hnx hxb hj
          generalize RL.length - 1 - k = j at *
          have hj0 := Int.natCast_nonneg j
          have e1 : decide ((k : Int) < 0) = false := decide_eq_false (by omega)
          have e2 : decide ((RL.length : Int) ≤ (k : Int)) = false := decide_eq_false (by omega)
          have e4 : decide (RL.length ≤ k) = false := decide_eq_false (by omega)
          have e5 : decide ((j : Int) < 0) = false := decide_eq_false (by omega)
          have e6 : decide ((NL.length : Int) ≤ (j : Int)) = false := decide_eq_false (by omega)
          have e7 : decide (NL.length ≤ j) = false := decide_eq_false (by omega)
          have hxx : (-x != -x) = false := by simp
          clear hNLl
          go_wp2_with fail
          refine (wpIn_wide (n := 4)).1 ?_
          refine wpIn_region_held (fun W' => W' = wr.drew) 30 hmo ?_
          refine wpHeldIn_take (i := 0) (v := ?_) (plain_of (by kernel_rfl)) rfl (by kernel_rfl) (fun _ _ _ h => h) (yieldsSoIn_of (by kernel_rfl) ?_ (fun _ => rfl)) rfl ?_; rotate_left; focus (intro w hw; cases hw; go_simp; try (with_reducible rfl))
          refine wpHeldIn_take (i := 1) (v := ?_) (plain_of (by kernel_rfl)) rfl (by kernel_rfl) (fun _ _ _ h => h) (yieldsSoIn_of (by kernel_rfl) ?_ (fun _ => rfl)) rfl ?_; rotate_left; focus (intro w hw; cases hw; go_simp; try (with_reducible rfl))
          refine wpHeldIn_take (i := 2) (v := ?_) (plain_of (by kernel_rfl)) rfl (by kernel_rfl) (fun _ _ _ h => h) (yieldsSoIn_of (by kernel_rfl) ?_ (fun _ => rfl)) rfl ?_; rotate_left; focus (intro w hw; cases hw; go_simp; try (with_reducible rfl))
          refine wpHeldIn_take (i := 3) (v := ?_) (plain_of (by kernel_rfl)) rfl (by kernel_rfl) (fun _ _ _ h => h) (yieldsSoIn_of (by kernel_rfl) ?_ (fun _ => rfl)) rfl ?_; rotate_left; focus (intro w hw; cases hw; go_simp; try (with_reducible rfl))
          refine wpHeldIn_take (i := 4) (v := ?_) (plain_of (by kernel_rfl)) rfl (by kernel_rfl) (fun _ _ _ h => h) (yieldsSoIn_of (by kernel_rfl) ?_ (fun _ => rfl)) rfl ?_; rotate_left; focus (intro w hw; cases hw; go_simp; try (with_reducible rfl))
          refine wpHeldIn_take (i := 5) (v := ?_) (plain_of (by kernel_rfl)) rfl (by kernel_rfl) (fun _ _ _ h => h) (yieldsSoIn_of (by kernel_rfl) ?_ (fun _ => rfl)) rfl ?_; rotate_left; focus (intro w hw; cases hw; go_simp; try (with_reducible rfl))
          refine wpHeldIn_take (i := 6) (v := ?_) (plain_of (by kernel_rfl)) rfl (by kernel_rfl) (fun _ _ _ h => h) (yieldsSoIn_of (by kernel_rfl) ?_ (fun _ => rfl)) rfl ?_; rotate_left; focus (intro w hw; cases hw; go_simp; try (with_reducible rfl))
          refine wpHeldIn_take (i := 7) (v := ?_) (plain_of (by kernel_rfl)) rfl (by kernel_rfl) (fun _ _ _ h => h) (yieldsSoIn_of (by kernel_rfl) ?_ (fun _ => rfl)) rfl ?_; rotate_left; focus (intro w hw; cases hw; go_simp; try (with_reducible rfl))
          refine wpHeldIn_take (i := 8) (v := ?_) (plain_of (by kernel_rfl)) rfl (by kernel_rfl) (fun _ _ _ h => h) (yieldsSoIn_of (by kernel_rfl) ?_ (fun _ => rfl)) rfl ?_; rotate_left; focus (intro w hw; cases hw; go_simp; try (with_reducible rfl))
          refine wpHeldIn_take (i := 9) (v := ?_) (plain_of (by kernel_rfl)) rfl (by kernel_rfl) (fun _ _ _ h => h) (yieldsSoIn_of (by kernel_rfl) ?_ (fun _ => rfl)) rfl ?_; rotate_left; focus (intro w hw; cases hw; go_simp; try (with_reducible rfl))
          refine wpHeldIn_take (i := 10) (v := ?_) (plain_of (by kernel_rfl)) rfl (by kernel_rfl) (fun _ _ _ h => h) (yieldsSoIn_of (by kernel_rfl) ?_ (fun _ => rfl)) rfl ?_; rotate_left; focus (intro w hw; cases hw; go_simp; try (with_reducible rfl))
          refine wpHeldIn_take (i := 11) (v := ?_) (plain_of (by kernel_rfl)) rfl (by kernel_rfl) (fun _ _ _ h => h) (yieldsSoIn_of (by kernel_rfl) ?_ (fun _ => rfl)) rfl ?_; rotate_left; focus (intro w hw; cases hw; go_simp; try (with_reducible rfl))
          refine wpHeldIn_take (i := 12) (v := ?_) (plain_of (by kernel_rfl)) rfl (by kernel_rfl) (fun _ _ _ h => h) (yieldsSoIn_of (by kernel_rfl) ?_ (fun _ => rfl)) rfl ?_; rotate_left; focus (intro w hw; cases hw; go_simp; try (with_reducible rfl))
          refine wpHeldIn_take (i := 13) (v := ?_) (plain_of (by kernel_rfl)) rfl (by kernel_rfl) (fun _ _ _ h => h) (yieldsSoIn_of (by kernel_rfl) ?_ (fun _ => rfl)) rfl ?_; rotate_left; focus (intro w hw; cases hw; go_simp; try (with_reducible rfl))
          refine wpHeldIn_done (by kernel_rfl) ?_ _
          go_simp
          have hbb2 : Below w16.heap.size w16 wr.drew := hbb.drew
          go_wp2_with fail
          obtain ⟨g', hg'⟩ : ∃ g', gk = g' + 1 := ⟨gk - 1, by have := hk.out; omega⟩
          go_roundg g'
          case measure => omega
          case rel => exact ⟨k + 1, by have := hk.out; simp only [Hid]; omega, by omega, by go_num, hbb2⟩
    · skip
      obtain ⟨w17, rfl⟩ : ∃ w17, w17 = wr := ⟨_, rfl⟩
      have hgo : ¬ (k : Int) < RL.length := hlt
      have bT17 := bT16.below hbb
      have bX17 := bX16.below hbb
      have hB17 := hB16.trans (hbb.mono hB16.size)
      have wo17 : Hid (Prs w17 w17.heap.size Aw ws) := (wo16.out.keep hbb).wider hbb.size
      have eo17 : Hid (GIn w17 w17.heap.size Ae ce es) := (eo16.out.keep hbb).wider hbb.size
      have pw17 : Hid (Prs w17 w17.heap.size AP PV) := (pw16.out.keep hbb).wider hbb.size
      have qw17 : Hid (Prs w17 w17.heap.size AQ QV) := (qw16.out.keep hbb).wider hbb.size
      have ra17 : Hid (Ints w17 w17.heap.size (.slice Ara RL.length cra) RL) := (ra16.out.keep hbb).more hbb.size
      have rb17 : Hid (Ints w17 w17.heap.size (.slice Arb NL.length crb) NL) := (rb16.out.keep hbb).more hbb.size
      clear bT16 bX16 wo16 eo16 pw16 qw16 ra16 rb16 hB16 hbb rb17
      have ct0 : w17.cell? ⟨w.heap.size, 0, none⟩ = some (.slice A ps.length c) := bT17.cell 0 rfl
      have ct1 : w17.cell? ⟨w.heap.size, 1, none⟩ = some (.int .i64 cl) := bT17.cell 1 rfl
      have ct2 : w17.cell? ⟨w.heap.size, 2, none⟩ = some (.int .i64 lo) := bT17.cell 2 rfl
      have ct3 : w17.cell? ⟨w.heap.size, 3, none⟩ = some (.int .i64 hi) := bT17.cell 3 rfl
      have lT17 := bT17.lt
      have cx0 : w17.cell? ⟨w.heap.size + 1, 0, none⟩ = some (.int .i64 (m : Int)) := bX17.cell 0 rfl
      have cx1 : w17.cell? ⟨w.heap.size + 1, 1, none⟩ = some (.slice Ae es.length ce) := bX17.cell 1 rfl
      have lX17 := bX17.lt
      go_wp2_with fail
      cases hEB : Wl.elbV ⟨ps, cl, lo, hi⟩ ws es
      · have HAE9 := HAE
        rw [hEB] at HAE9
        clear HAE HSW1 HSW2 HTU1 HTU2 HEY HIN
        refine (HAE9.out _ _ _ _ _ hB17 wo17.out eo17.out).mono ?_
        rintro e w18 ⟨rfl, hb18⟩
        have bT18 := bT17.below hb18
        have bX18 := bX17.below hb18
        have hB18 := hB17.trans (hb18.mono hB17.size)
        have wo18 : Hid (Prs w18 w18.heap.size Aw ws) := (wo17.out.keep hb18).wider hb18.size
        have eo18 : Hid (GIn w18 w18.heap.size Ae ce es) := (eo17.out.keep hb18).wider hb18.size
        have pw18 : Hid (Prs w18 w18.heap.size AP PV) := (pw17.out.keep hb18).wider hb18.size
        have qw18 : Hid (Prs w18 w18.heap.size AQ QV) := (qw17.out.keep hb18).wider hb18.size
        have ra18 : Hid (Ints w18 w18.heap.size (.slice Ara RL.length cra) RL) := (ra17.out.keep hb18).more hb18.size
        clear ct0 ct1 ct2 ct3 lT17 cx0 cx1 lX17 bT17 bX17 wo17 eo17 pw17 qw17 ra17 hB17 hb18
        have ct0 : w18.cell? ⟨w.heap.size, 0, none⟩ = some (.slice A ps.length c) := bT18.cell 0 rfl
        have ct1 : w18.cell? ⟨w.heap.size, 1, none⟩ = some (.int .i64 cl) := bT18.cell 1 rfl
        have ct2 : w18.cell? ⟨w.heap.size, 2, none⟩ = some (.int .i64 lo) := bT18.cell 2 rfl
        have ct3 : w18.cell? ⟨w.heap.size, 3, none⟩ = some (.int .i64 hi) := bT18.cell 3 rfl
        have lT18 := bT18.lt
        have cx0 : w18.cell? ⟨w.heap.size + 1, 0, none⟩ = some (.int .i64 (m : Int)) := bX18.cell 0 rfl
        have cx1 : w18.cell? ⟨w.heap.size + 1, 1, none⟩ = some (.slice Ae es.length ce) := bX18.cell 1 rfl
        have lX18 := bX18.lt
        go_wp2_with fail
        refine (HWK.out _).mono ?_
        rintro e wz ⟨rfl, hbz⟩
        have hBz := hB18.trans (hbz.mono hB18.size)
        go_wp2_with fail
        go_returns
        exact ⟨rfl, hBz⟩
      · have HAE9 := HAE
        rw [hEB] at HAE9
        have HSW1 := Lib.hid (HSW1.out hEB)
        have HSW2 := Lib.hid (HSW2.out hEB)
        have HTU1 := Lib.hid (HTU1.out hEB)
        have HTU2 := Lib.hid (HTU2.out hEB)
        obtain ⟨hy1, hep, hy3, hy4⟩ := HEY.out hEB
        have HIN9 : Hid (∀ (v : Value) (W : World), Ints W W.heap.size v RL → Calls Try.prog 45 #[v, .int .i64 (Wl.sweepV ⟨ps, cl, lo, hi⟩ ws es)] W fun e w' => e = .returned (.bool true) ∧ w' = W) := fun v W h => HIN.out v RL _ W h (by have := HRB.out; omega) hy1
        clear HAE HEY HIN hy1
        generalize Wl.sweepV ⟨ps, cl, lo, hi⟩ ws es = SV at *
        generalize Wl.turnsV ⟨ps, cl, lo, hi⟩ es = TV at *
        have hn1 : IntKind.i64.wrap (-SV) = -SV := IntWalk.i64_in _ (by omega)
        have hn2 : IntKind.i64.wrap (-TV) = -TV := IntWalk.i64_in _ (by omega)
        have hn3 : (-SV == -SV) = true := by simp
        have hn4 : (-TV == -TV) = true := by simp
        have hn5 : IntKind.i64.wrap ((es.length : Int) - 1) = (es.length : Int) - 1 := IntWalk.i64_in _ (by omega)
        clear hy3 hy4
        unfold TwoPost at HSW1 HSW2 HTU1 HTU2
        refine (HAE9.out _ _ _ _ _ hB17 wo17.out eo17.out).mono ?_
        rintro e w18 ⟨rfl, hb18⟩
        have bT18 := bT17.below hb18
        have bX18 := bX17.below hb18
        have hB18 := hB17.trans (hb18.mono hB17.size)
        have wo18 : Hid (Prs w18 w18.heap.size Aw ws) := (wo17.out.keep hb18).wider hb18.size
        have eo18 : Hid (GIn w18 w18.heap.size Ae ce es) := (eo17.out.keep hb18).wider hb18.size
        have pw18 : Hid (Prs w18 w18.heap.size AP PV) := (pw17.out.keep hb18).wider hb18.size
        have qw18 : Hid (Prs w18 w18.heap.size AQ QV) := (qw17.out.keep hb18).wider hb18.size
        have ra18 : Hid (Ints w18 w18.heap.size (.slice Ara RL.length cra) RL) := (ra17.out.keep hb18).more hb18.size
        clear ct0 ct1 ct2 ct3 lT17 cx0 cx1 lX17 bT17 bX17 wo17 eo17 pw17 qw17 ra17 hB17 hb18
        have ct0 : w18.cell? ⟨w.heap.size, 0, none⟩ = some (.slice A ps.length c) := bT18.cell 0 rfl
        have ct1 : w18.cell? ⟨w.heap.size, 1, none⟩ = some (.int .i64 cl) := bT18.cell 1 rfl
        have ct2 : w18.cell? ⟨w.heap.size, 2, none⟩ = some (.int .i64 lo) := bT18.cell 2 rfl
        have ct3 : w18.cell? ⟨w.heap.size, 3, none⟩ = some (.int .i64 hi) := bT18.cell 3 rfl
        have lT18 := bT18.lt
        have cx0 : w18.cell? ⟨w.heap.size + 1, 0, none⟩ = some (.int .i64 (m : Int)) := bX18.cell 0 rfl
        have cx1 : w18.cell? ⟨w.heap.size + 1, 1, none⟩ = some (.slice Ae es.length ce) := bX18.cell 1 rfl
        have lX18 := bX18.lt
        go_wp2_with fail
        clear ct0 ct1 ct2 ct3 lT18 cx0 cx1 lX18
        go_loopg [28, 29] es.length (fun g x28 x29 wx => ∃ z : Nat, Hid (z + g = es.length) ∧ (z : Int) ≤ es.length ∧ x29 = .int .i64 ((es.length : Int) - 1 - z) ∧ Below w18.heap.size w18 wx ∧ Hid (wx.ownsRow w18.heap.size 3 1 x28 z ((ET z).map (Value.int .i64))))
        case atStart => exact ⟨0, by simp [Hid], by omega, by simp, Below.refl _ _, by unfold Hid; rw [HE0.out]; exact World.ownsRow_nil _ _ _ _⟩
        case round =>
          obtain ⟨z, hz, hz1, rfl, hbb, hO⟩ := hrel
          have hz0 := Int.natCast_nonneg z
          have bX9 := bX18.below hbb
          have x0 := bX9.cell 0 rfl
          have x1 := bX9.cell 1 rfl
          have lX9 := bX9.lt
          by_cases hltz : (z : Int) < es.length
          · have hzn : z < es.length := by omega
            have hjn : es.length - 1 - z < es.length := by omega
            have hj : ((es.length : Int) - 1 - z) = ((es.length - 1 - z : Nat) : Int) := by omega
            have HS := Lib.hid (HES.out z hzn)
            have hg1 : es[es.length - 1 - z]? = some (Wl.esAt es (es.length - 1 - z)) := by unfold Wl.esAt; rw [List.getElem?_eq_getElem hjn]; rfl
            rcases (eo18.out (by omega)) with ⟨_, e⟩ | ⟨b, off, cap, e, hb, hc⟩
            · subst e; simp at hzn
            · injection e with eA _ ec
              subst eA ec
              have d0 := (hbb.cell (p := ⟨b, _, none⟩) hb).trans (hc _ _ hg1)
              rw [hj]
              have hw1 : IntKind.i64.wrap (((es.length - 1 - z : Nat) : Int) - 1) = (es.length : Int) - 1 - ((z + 1 : Nat) : Int) := by rw [IntWalk.i64_in _ (by omega)]; omega
              clear hc hg1
              generalize Wl.esAt es (es.length - 1 - z) = p at *
              generalize es.length - 1 - z = jj at *
              have hjj0 := Int.natCast_nonneg jj
              have e1 : decide ((jj : Int) < 0) = false := decide_eq_false (by omega)
              have e2 : decide ((es.length : Int) ≤ (jj : Int)) = false := decide_eq_false (by omega)
              have e4 : decide (es.length ≤ jj) = false := decide_eq_false (by omega)
              have e5 : decide (0 ≤ (jj : Int)) = true := decide_eq_true (by omega)
              have hbr : b < wr.heap.size := by have := hbb.size; omega
              go_wp2_with (at_builtin; go_must (refine wpList_pushi rfl (.tmp 248) (.tmp 254) rfl p w18.heap.size _ z ((ET z).map (Value.int .i64)) rfl rfl hO.out hbb.size (by omega) ?_; intro v' w5 hown5 hb5; have HO5 := Lib.hid hown5; have hB5 := hbb.trans hb5; clear hown5))
              obtain ⟨g', hg'⟩ : ∃ g', gk = g' + 1 := ⟨gk - 1, by have := hz.out; omega⟩
              go_roundg g'
              case measure => omega
              case rel => exact ⟨z + 1, by have := hz.out; simp only [Hid]; omega, by omega, by go_num, hB5, by rw [HS.out, List.map_append]; exact HO5.out⟩
          · have ez : z = es.length := by omega
            have hmz : decide (0 ≤ (es.length : Int) - 1 - (z : Int)) = false := decide_eq_false (by omega)
            have HO : Hid (∃ A c, u28 = .slice A EV.length c ∧ Ints wr wr.heap.size (.slice A EV.length c) EV) := by
              have h := hO.out
              have hlen := HEL.out es.length (Nat.le_refl _)
              rw [ez, HEA.out] at h
              rw [HEA.out] at hlen
              rw [← hlen] at h
              obtain ⟨A', c', rfl⟩ := owni_form h
              exact ⟨A', c', rfl, Ints.of_own h⟩
            obtain ⟨AV2, cV2, hu28, hI28⟩ := HO.out
            subst hu28
            clear hO HO ez HES HEL HEA HE0 x0 x1 lX9 bX9
            obtain ⟨w19, rfl⟩ : ∃ w19, w19 = wr := ⟨_, rfl⟩
            have ev19 : Hid (Ints w19 w19.heap.size (.slice AV2 EV.length cV2) EV) := hI28
            clear hI28
            have bT19 := bT18.below hbb
            have bX19 := bX18.below hbb
            have hB19 := hB18.trans (hbb.mono hB18.size)
            have wo19 : Hid (Prs w19 w19.heap.size Aw ws) := (wo18.out.keep hbb).wider hbb.size
            have eo19 : Hid (GIn w19 w19.heap.size Ae ce es) := (eo18.out.keep hbb).wider hbb.size
            have pw19 : Hid (Prs w19 w19.heap.size AP PV) := (pw18.out.keep hbb).wider hbb.size
            have qw19 : Hid (Prs w19 w19.heap.size AQ QV) := (qw18.out.keep hbb).wider hbb.size
            have ra19 : Hid (Ints w19 w19.heap.size (.slice Ara RL.length cra) RL) := (ra18.out.keep hbb).more hbb.size
            clear bT18 bX18 wo18 eo18 pw18 qw18 ra18 hB18 hbb
            have ct0 : w19.cell? ⟨w.heap.size, 0, none⟩ = some (.slice A ps.length c) := bT19.cell 0 rfl
            have ct1 : w19.cell? ⟨w.heap.size, 1, none⟩ = some (.int .i64 cl) := bT19.cell 1 rfl
            have ct2 : w19.cell? ⟨w.heap.size, 2, none⟩ = some (.int .i64 lo) := bT19.cell 2 rfl
            have ct3 : w19.cell? ⟨w.heap.size, 3, none⟩ = some (.int .i64 hi) := bT19.cell 3 rfl
            have lT19 := bT19.lt
            have cx0 : w19.cell? ⟨w.heap.size + 1, 0, none⟩ = some (.int .i64 (m : Int)) := bX19.cell 0 rfl
            have cx1 : w19.cell? ⟨w.heap.size + 1, 1, none⟩ = some (.slice Ae es.length ce) := bX19.cell 1 rfl
            have lX19 := bX19.lt
            go_wp2_with fail
            refine (HSW1.out _ _ _ _ _ hB19 wo19.out (eo19.out hep)).mono ?_
            rintro e w20 ⟨rfl, hb20⟩
            have bT20 := bT19.below hb20
            have bX20 := bX19.below hb20
            have hB20 := hB19.trans (hb20.mono hB19.size)
            have wo20 : Hid (Prs w20 w20.heap.size Aw ws) := (wo19.out.keep hb20).wider hb20.size
            have eo20 : Hid (GIn w20 w20.heap.size Ae ce es) := (eo19.out.keep hb20).wider hb20.size
            have pw20 : Hid (Prs w20 w20.heap.size AP PV) := (pw19.out.keep hb20).wider hb20.size
            have qw20 : Hid (Prs w20 w20.heap.size AQ QV) := (qw19.out.keep hb20).wider hb20.size
            have ra20 : Hid (Ints w20 w20.heap.size (.slice Ara RL.length cra) RL) := (ra19.out.keep hb20).more hb20.size
            have ev20 : Hid (Ints w20 w20.heap.size (.slice AV2 EV.length cV2) EV) := (ev19.out.keep hb20).more hb20.size
            clear ct0 ct1 ct2 ct3 lT19 cx0 cx1 lX19 bT19 bX19 wo19 eo19 pw19 qw19 ra19 ev19 hB19 hb20
            have ct0 : w20.cell? ⟨w.heap.size, 0, none⟩ = some (.slice A ps.length c) := bT20.cell 0 rfl
            have ct1 : w20.cell? ⟨w.heap.size, 1, none⟩ = some (.int .i64 cl) := bT20.cell 1 rfl
            have ct2 : w20.cell? ⟨w.heap.size, 2, none⟩ = some (.int .i64 lo) := bT20.cell 2 rfl
            have ct3 : w20.cell? ⟨w.heap.size, 3, none⟩ = some (.int .i64 hi) := bT20.cell 3 rfl
            have lT20 := bT20.lt
            have cx0 : w20.cell? ⟨w.heap.size + 1, 0, none⟩ = some (.int .i64 (m : Int)) := bX20.cell 0 rfl
            have cx1 : w20.cell? ⟨w.heap.size + 1, 1, none⟩ = some (.slice Ae es.length ce) := bX20.cell 1 rfl
            have lX20 := bX20.lt
            go_wp2_with fail
            refine (HSW2.out _ _ _ _ _ hB20 pw20.out ev20.out).mono ?_
            rintro e w21 ⟨rfl, hb21⟩
            have bT21 := bT20.below hb21
            have bX21 := bX20.below hb21
            have hB21 := hB20.trans (hb21.mono hB20.size)
            have wo21 : Hid (Prs w21 w21.heap.size Aw ws) := (wo20.out.keep hb21).wider hb21.size
            have eo21 : Hid (GIn w21 w21.heap.size Ae ce es) := (eo20.out.keep hb21).wider hb21.size
            have pw21 : Hid (Prs w21 w21.heap.size AP PV) := (pw20.out.keep hb21).wider hb21.size
            have qw21 : Hid (Prs w21 w21.heap.size AQ QV) := (qw20.out.keep hb21).wider hb21.size
            have ra21 : Hid (Ints w21 w21.heap.size (.slice Ara RL.length cra) RL) := (ra20.out.keep hb21).more hb21.size
            have ev21 : Hid (Ints w21 w21.heap.size (.slice AV2 EV.length cV2) EV) := (ev20.out.keep hb21).more hb21.size
            clear ct0 ct1 ct2 ct3 lT20 cx0 cx1 lX20 bT20 bX20 wo20 eo20 pw20 qw20 ra20 ev20 hB20 hb21
            have ct0 : w21.cell? ⟨w.heap.size, 0, none⟩ = some (.slice A ps.length c) := bT21.cell 0 rfl
            have ct1 : w21.cell? ⟨w.heap.size, 1, none⟩ = some (.int .i64 cl) := bT21.cell 1 rfl
            have ct2 : w21.cell? ⟨w.heap.size, 2, none⟩ = some (.int .i64 lo) := bT21.cell 2 rfl
            have ct3 : w21.cell? ⟨w.heap.size, 3, none⟩ = some (.int .i64 hi) := bT21.cell 3 rfl
            have lT21 := bT21.lt
            have cx0 : w21.cell? ⟨w.heap.size + 1, 0, none⟩ = some (.int .i64 (m : Int)) := bX21.cell 0 rfl
            have cx1 : w21.cell? ⟨w.heap.size + 1, 1, none⟩ = some (.slice Ae es.length ce) := bX21.cell 1 rfl
            have lX21 := bX21.lt
            go_wp2_with fail
            refine (HTU1.out _ _ _ _ _ hB21 wo21.out (eo21.out hep)).mono ?_
            rintro e w22 ⟨rfl, hb22⟩
            have bT22 := bT21.below hb22
            have bX22 := bX21.below hb22
            have hB22 := hB21.trans (hb22.mono hB21.size)
            have wo22 : Hid (Prs w22 w22.heap.size Aw ws) := (wo21.out.keep hb22).wider hb22.size
            have eo22 : Hid (GIn w22 w22.heap.size Ae ce es) := (eo21.out.keep hb22).wider hb22.size
            have pw22 : Hid (Prs w22 w22.heap.size AP PV) := (pw21.out.keep hb22).wider hb22.size
            have qw22 : Hid (Prs w22 w22.heap.size AQ QV) := (qw21.out.keep hb22).wider hb22.size
            have ra22 : Hid (Ints w22 w22.heap.size (.slice Ara RL.length cra) RL) := (ra21.out.keep hb22).more hb22.size
            have ev22 : Hid (Ints w22 w22.heap.size (.slice AV2 EV.length cV2) EV) := (ev21.out.keep hb22).more hb22.size
            clear ct0 ct1 ct2 ct3 lT21 cx0 cx1 lX21 bT21 bX21 wo21 eo21 pw21 qw21 ra21 ev21 hB21 hb22
            have ct0 : w22.cell? ⟨w.heap.size, 0, none⟩ = some (.slice A ps.length c) := bT22.cell 0 rfl
            have ct1 : w22.cell? ⟨w.heap.size, 1, none⟩ = some (.int .i64 cl) := bT22.cell 1 rfl
            have ct2 : w22.cell? ⟨w.heap.size, 2, none⟩ = some (.int .i64 lo) := bT22.cell 2 rfl
            have ct3 : w22.cell? ⟨w.heap.size, 3, none⟩ = some (.int .i64 hi) := bT22.cell 3 rfl
            have lT22 := bT22.lt
            have cx0 : w22.cell? ⟨w.heap.size + 1, 0, none⟩ = some (.int .i64 (m : Int)) := bX22.cell 0 rfl
            have cx1 : w22.cell? ⟨w.heap.size + 1, 1, none⟩ = some (.slice Ae es.length ce) := bX22.cell 1 rfl
            have lX22 := bX22.lt
            go_wp2_with fail
            refine (HTU2.out _ _ _ _ _ hB22 pw22.out ev22.out).mono ?_
            rintro e w23 ⟨rfl, hb23⟩
            have bT23 := bT22.below hb23
            have bX23 := bX22.below hb23
            have hB23 := hB22.trans (hb23.mono hB22.size)
            have wo23 : Hid (Prs w23 w23.heap.size Aw ws) := (wo22.out.keep hb23).wider hb23.size
            have eo23 : Hid (GIn w23 w23.heap.size Ae ce es) := (eo22.out.keep hb23).wider hb23.size
            have pw23 : Hid (Prs w23 w23.heap.size AP PV) := (pw22.out.keep hb23).wider hb23.size
            have qw23 : Hid (Prs w23 w23.heap.size AQ QV) := (qw22.out.keep hb23).wider hb23.size
            have ra23 : Hid (Ints w23 w23.heap.size (.slice Ara RL.length cra) RL) := (ra22.out.keep hb23).more hb23.size
            have ev23 : Hid (Ints w23 w23.heap.size (.slice AV2 EV.length cV2) EV) := (ev22.out.keep hb23).more hb23.size
            clear ct0 ct1 ct2 ct3 lT22 cx0 cx1 lX22 bT22 bX22 wo22 eo22 pw22 qw22 ra22 ev22 hB22 hb23
            have ct0 : w23.cell? ⟨w.heap.size, 0, none⟩ = some (.slice A ps.length c) := bT23.cell 0 rfl
            have ct1 : w23.cell? ⟨w.heap.size, 1, none⟩ = some (.int .i64 cl) := bT23.cell 1 rfl
            have ct2 : w23.cell? ⟨w.heap.size, 2, none⟩ = some (.int .i64 lo) := bT23.cell 2 rfl
            have ct3 : w23.cell? ⟨w.heap.size, 3, none⟩ = some (.int .i64 hi) := bT23.cell 3 rfl
            have lT23 := bT23.lt
            have cx0 : w23.cell? ⟨w.heap.size + 1, 0, none⟩ = some (.int .i64 (m : Int)) := bX23.cell 0 rfl
            have cx1 : w23.cell? ⟨w.heap.size + 1, 1, none⟩ = some (.slice Ae es.length ce) := bX23.cell 1 rfl
            have lX23 := bX23.lt
            go_wp2_with fail
            refine (HIN9.out _ _ ra23.out).mono ?_
            rintro e wq ⟨rfl, hq⟩
            have hq := hq.symm
            subst hq
            go_wp2_with fail
            refine (HWK.out _).mono ?_
            rintro e wz ⟨rfl, hbz⟩
            have hBz := hB23.trans (hbz.mono hB23.size)
            go_wp2_with fail
            go_returns
            exact ⟨rfl, hBz⟩
theorem lawBk_walk (t : Wl.Trk) (A : Option Addr) (c : Nat) (Aw : Option Addr) (cw : Nat) (ws : List (Int × Int)) (xb : Int) (Ae : Option Addr) (ce : Nat) (es : List Int) (w : World) (_h1 : t.ps.length ≤ maxLen) (hP : Prs w w.heap.size A t.ps) (_h2 : ws.length ≤ maxLen) (hQ : Prs w w.heap.size Aw ws) (hE : 0 < es.length → Ints w w.heap.size (.slice Ae es.length ce) es) :
    Calls Try.prog 8 #[.agg (trV t A c), .slice Aw ws.length cw, .agg #[.int .i64 xb, .slice Ae es.length ce]] w fun e w' => e = .returned (.bool true) ∧ Below w.heap.size w w' := by
  cases h : Wl.readyB t ws with
  | false => exact Bk_early t ws xb es A Aw Ae c cw ce w hP hQ (.inl h)
  | true =>
    by_cases g : xb < 0 ∨ 100 < xb ∨ 40 < es.length
    · exact Bk_early t ws xb es A Aw Ae c cw ce w hP hQ (.inr ⟨h, g⟩)
    · obtain ⟨m, rfl⟩ : ∃ m : Nat, xb = m := ⟨xb.toNat, by omega⟩
      exact Bk_short t ws m es A Aw Ae c cw ce w hP hQ hE h (by omega) (by omega)

open Go.ChangeShapes Go.WideShapes Go.ChangeAt Go.RowKit Go.Joins Go.Deep
section
variable {H : Type} {enc : TypeId × Value → H} {w : World} {base : Nat} {spare : Nat → Bool} {held : Bool} {r : Reach} {b0 : Nat} {v : Value} {d : DataW H} {p : List MemPlace}
set_option maxRecDepth 100000 in
theorem open_Turn5 (hv : Value.okWide Try.prog w r b0 54 v) (h : DataW.Trod enc Try.prog w base spare held 54 v d p) :
    ∃ (xb : Int) (A : Option Addr) (c : Nat) (es : List Int), v = .agg #[.int .i64 xb, .slice A es.length c] ∧ (0 < es.length → Ints w w.heap.size (.slice A es.length c) es) := by
  obtain ⟨cs, rfl, hsz⟩ := okWide_struct Try.underlying54 hv
  obtain ⟨l⟩ := cs
  match l, hsz.trans (by kernel_rfl : Try.prog.cellsOf 54 = 2) with
  | [c0, c1], _ =>
    obtain ⟨fuel, hf⟩ := h
    obtain ⟨xs, n, _, hx, _, hlen, hg⟩ := DataW.trod_struct Try.underlying54 hf
    match xs, hlen with
    | [y0, y1], _ =>
      have g0 := hg 0 _ rfl
      have g1 := hg 1 _ rfl
      simp [Value.cells, cells_int5, cells_ints5] at g0 g1
      obtain ⟨xb, e1, rfl, _⟩ := DataW.trod_int Try.underlying3 g0
      obtain ⟨A, c, es, rfl, h1, h2⟩ := trod_ints5 g1
      simp at e1
      subst e1
      exact ⟨xb, A, c, es, rfl, h1⟩
end

open Go.ChangeShapes Go.WideShapes Go.ChangeAt Go.RowKit Go.Joins

set_option maxRecDepth 100000 in
theorem back5_lifted (os : Os) (started : os.Started) (H : Type) (enc : TypeId × Value → H) :
    ReturnsInHanded {} Try.checked os 8 .any (Rows.walksBackSpec.pre6 enc Try.prog Try.f8 Rows.walksBackRow.domain false) (Rows.walksBackSpec.post enc Try.prog Try.f8 false true false false) := by
  refine returnsInHanded_of_change (C := Try.checked) own started (by kernel_rfl) Try.func8
    (ChangeSpec.witness6 (enc := enc) (C := Try.checked) false ⟨#[], #[.agg #[.slice none 0 0, .int .i64 0, .int .i64 0, .int .i64 0], .slice none 0 0, .agg #[.int .i64 0, .slice none 0 0]], []⟩ 8 (by kernel_rfl) (by kernel_rfl) (by kernel_rfl) (by kernel_rfl)) ?_
  intro W base args ds gs before hval0 hW hcnd _
  have hval : ∀ (j : Nat) t v, Try.f8.params[j]? = some t → args[j]? = some v → Value.okWide Try.prog W .any base t v := hval0
  have hW' := hW
  obtain ⟨p, q, hA0, hV, rfl, hfz, hnd⟩ := hW
  have hA : DataW.TrodAll enc Try.prog W 0 (fun _ => true) true Try.f8.params.toList args.toList ds p := hA0
  rw [Try.params8] at hA hval
  obtain ⟨v0, v1, v2, d0, d1, d2, p0, p1, p2, rfl, rfl, rfl, h0, h1, h2⟩ := trodAll_three hA
  obtain ⟨rfl, rfl⟩ := trodVars_none hV
  obtain ⟨t, A, c, rfl, hg_t, hl_t⟩ := open_Track (hval 0 26 v0 rfl rfl) h0
  obtain ⟨Aw, cw, ws, rfl, hg_ws, hl_ws⟩ := open_prs Try.underlying22 Try.underlying28 (by kernel_rfl) (by kernel_rfl) (by kernel_rfl) (by kernel_rfl) (by kernel_rfl) Try.underlying3 Try.underlying3 (hval 1 22 v1 rfl rfl) h1
  obtain ⟨xb, Ae, ce, es, rfl, hh2_0⟩ := open_Turn5 (hval 2 54 v2 rfl rfl) h2
  refine (lawBk_walk t A c Aw cw ws xb Ae ce es W hl_t hg_t hl_ws hg_ws hh2_0).mono fun e W' ⟨he, hb⟩ => ?_
  subst he
  exact ⟨_, rfl, law_post hW' rfl rfl (by intro t ht; have : t = 26 ∨ t = 22 ∨ t = 54 := (by rw [Try.params8] at ht; simpa using ht); rcases this with rfl | rfl | rfl <;> exact ⟨by kernel_rfl, of_decide_eq_true (by kernel_rfl)⟩) rfl rfl rfl hb⟩

theorem back5_holds : Rows.WalksBackSaid :=
  OpenClaim.holds_of_wide 8 Try.f8 rfl rfl rfl rfl rfl rfl rfl ⟨rfl, rfl, rfl, rfl, rfl⟩ rfl rfl rfl rfl rfl (by kernel_rfl) Try.func8 (by kernel_rfl)
    (of_decide_eq_true (by kernel_rfl)) (by unfold Func.isWrapper; rw [if_neg (of_decide_eq_false (by kernel_rfl))]; exact ⟨rfl, rfl⟩)
    (fun os started H enc _ => back5_lifted os started H enc)
end Go.Proofs.Ytmjcdggmofohcaa
