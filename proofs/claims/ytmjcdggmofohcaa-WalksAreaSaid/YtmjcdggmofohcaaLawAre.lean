/- Walks: the law WalksArea (P5.1 to P5.4). -/
import Derived.Test.YtmjcdggmofohcaaOp5
import Derived.Test.YtmjcdggmofohcaaWk5
import Derived.Test.YtmjcdggmofohcaaSt5
import Derived.Test.YtmjcdggmofohcaaSameI
namespace Go.Proofs.Ytmjcdggmofohcaa
open Go.RowKit
set_option maxRecDepth 100000 in
set_option maxHeartbeats 8000000 in
theorem Ar_early (t : Wl.Trk) (ws : List Wl.Pt) (A Aw : Option Addr) (c cw : Nat) (ax ay : Int) (w : World) (h : 40 < t.ps.length ∨ 40 < ws.length) :
    Calls Try.prog 3 #[.agg (trV t A c), .slice Aw ws.length cw, .agg #[.int .i64 ax, .int .i64 ay]] w fun e w' => e = .returned (.bool true) ∧ Below w.heap.size w w' := by
  have HWK : Hid (∀ W, Calls Try.prog 12 #[] W fun e w' => e = .returned (.bool true) ∧ Below W.heap.size W w') := works5_any
  obtain ⟨ps, cl, lo, hi⟩ := t
  unfold trV at *
  dsimp only at *
  by_cases h1 : 40 < ps.length
  · skip
    have da1 : decide (40 < (ps.length : Int)) = true := decide_eq_true (by omega)
    have da2 : decide (40 < ps.length) = true := decide_eq_true (by omega)
    clear h
    go_enter Try.func3, Try.ntmps3
    go_wp2_with fail
    have bT1 := (BoxS.new w 26 #[.slice A ps.length c, .int .i64 cl, .int .i64 lo, .int .i64 hi]).alloc (.cells #[.int .i64 ax, .int .i64 ay] 28)
    have bB1 := BoxS.new (w.alloc (.cells #[.slice A ps.length c, .int .i64 cl, .int .i64 lo, .int .i64 hi] 26)) 28 #[.int .i64 ax, .int .i64 ay]
    rw [World.size_alloc] at bB1
    have hB1 : Below w.heap.size w ((w.alloc (.cells #[.slice A ps.length c, .int .i64 cl, .int .i64 lo, .int .i64 hi] 26)).alloc (.cells #[.int .i64 ax, .int .i64 ay] 28)) := by (repeat' (first | (with_reducible exact Below.refl _ _) | (with_reducible assumption) | (with_reducible refine Below.alloc ?_ ?_ _) | (with_reducible refine Below.drew ?_) | (with_reducible refine Below.setCell ?_ ?_ _) | go_size | (exact (by simp)) | omega))
    generalize World.alloc (World.alloc w _) _ = w1 at *
    have ct0 : w1.cell? ⟨w.heap.size, 0, none⟩ = some (.slice A ps.length c) := bT1.cell 0 rfl
    have ct1 : w1.cell? ⟨w.heap.size, 1, none⟩ = some (.int .i64 cl) := bT1.cell 1 rfl
    have ct2 : w1.cell? ⟨w.heap.size, 2, none⟩ = some (.int .i64 lo) := bT1.cell 2 rfl
    have ct3 : w1.cell? ⟨w.heap.size, 3, none⟩ = some (.int .i64 hi) := bT1.cell 3 rfl
    have lT1 := bT1.lt
    have cb0 : w1.cell? ⟨w.heap.size + 1, 0, none⟩ = some (.int .i64 ax) := bB1.cell 0 rfl
    have cb1 : w1.cell? ⟨w.heap.size + 1, 1, none⟩ = some (.int .i64 ay) := bB1.cell 1 rfl
    have lB1 := bB1.lt
    try go_wp2_with fail
    refine (HWK.out _).mono ?_
    rintro e wz ⟨rfl, hbz⟩
    have hBz := hB1.trans (hbz.mono hB1.size)
    go_wp2_with fail
    go_returns
    exact ⟨rfl, hBz⟩
  · have h2 : 40 < ws.length := by omega
    have da1 : decide (40 < (ps.length : Int)) = false := decide_eq_false (by omega)
    have da2 : decide (40 < ps.length) = false := decide_eq_false (by omega)
    have db1 : decide (40 < (ws.length : Int)) = true := decide_eq_true (by omega)
    have db2 : decide (40 < ws.length) = true := decide_eq_true (by omega)
    clear h
    go_enter Try.func3, Try.ntmps3
    go_wp2_with fail
    have bT1 := (BoxS.new w 26 #[.slice A ps.length c, .int .i64 cl, .int .i64 lo, .int .i64 hi]).alloc (.cells #[.int .i64 ax, .int .i64 ay] 28)
    have bB1 := BoxS.new (w.alloc (.cells #[.slice A ps.length c, .int .i64 cl, .int .i64 lo, .int .i64 hi] 26)) 28 #[.int .i64 ax, .int .i64 ay]
    rw [World.size_alloc] at bB1
    have hB1 : Below w.heap.size w ((w.alloc (.cells #[.slice A ps.length c, .int .i64 cl, .int .i64 lo, .int .i64 hi] 26)).alloc (.cells #[.int .i64 ax, .int .i64 ay] 28)) := by (repeat' (first | (with_reducible exact Below.refl _ _) | (with_reducible assumption) | (with_reducible refine Below.alloc ?_ ?_ _) | (with_reducible refine Below.drew ?_) | (with_reducible refine Below.setCell ?_ ?_ _) | go_size | (exact (by simp)) | omega))
    generalize World.alloc (World.alloc w _) _ = w1 at *
    have ct0 : w1.cell? ⟨w.heap.size, 0, none⟩ = some (.slice A ps.length c) := bT1.cell 0 rfl
    have ct1 : w1.cell? ⟨w.heap.size, 1, none⟩ = some (.int .i64 cl) := bT1.cell 1 rfl
    have ct2 : w1.cell? ⟨w.heap.size, 2, none⟩ = some (.int .i64 lo) := bT1.cell 2 rfl
    have ct3 : w1.cell? ⟨w.heap.size, 3, none⟩ = some (.int .i64 hi) := bT1.cell 3 rfl
    have lT1 := bT1.lt
    have cb0 : w1.cell? ⟨w.heap.size + 1, 0, none⟩ = some (.int .i64 ax) := bB1.cell 0 rfl
    have cb1 : w1.cell? ⟨w.heap.size + 1, 1, none⟩ = some (.int .i64 ay) := bB1.cell 1 rfl
    have lB1 := bB1.lt
    try go_wp2_with fail
    refine (HWK.out _).mono ?_
    rintro e wz ⟨rfl, hbz⟩
    have hBz := hB1.trans (hbz.mono hB1.size)
    go_wp2_with fail
    go_returns
    exact ⟨rfl, hBz⟩
set_option maxRecDepth 100000 in
set_option maxHeartbeats 16000000 in
theorem Ar_short (t : Wl.Trk) (ws : List Wl.Pt) (A Aw : Option Addr) (c cw : Nat) (ax ay : Int) (w : World) (hP : Prs w w.heap.size A t.ps) (hQ : Prs w w.heap.size Aw ws) (h1 : t.ps.length ≤ 40) (h2 : ws.length ≤ 40) :
    Calls Try.prog 3 #[.agg (trV t A c), .slice Aw ws.length cw, .agg #[.int .i64 ax, .int .i64 ay]] w fun e w' => e = .returned (.bool true) ∧ Below w.heap.size w w' := by
  have HWK : Hid (∀ W, Calls Try.prog 12 #[] W fun e w' => e = .returned (.bool true) ∧ Below W.heap.size W w') := works5_any
  have hp9 : t.ps.length ≤ 1000000000 := by omega
  have hw9 : ws.length ≤ 1000000000 := by omega
  have HCP : Hid (∀ W, Below w.heap.size w W → Calls Try.prog 13 #[.agg (trV t A c)] W (Copy5Post t W)) := fun W hW => Copy5_own t A c hp9 W (prs_keep hP hW)
  have HCK : Hid (∀ (A' Aw' : Option Addr) (c' cw' : Nat) (W : World), Prs W W.heap.size A' t.ps → Prs W W.heap.size Aw' ws → Calls Try.prog 14 #[.agg #[.slice A' t.ps.length c', .int .i64 t.cl, .int .i64 t.lo, .int .i64 t.hi], .slice Aw' ws.length cw'] W (ErrPost (Wl.chkV t ws) W)) := fun A' Aw' c' cw' W h1 h2 => CheckW_any t ws A' Aw' c' cw' hp9 hw9 W h1 h2
  have HCK5 : Hid (∀ (A' Aw' : Option Addr) (c' cw' : Nat) (W : World), Prs W W.heap.size A' t.ps → Prs W W.heap.size Aw' ws → Calls Try.prog 15 #[.agg #[.slice A' t.ps.length c', .int .i64 t.cl, .int .i64 t.lo, .int .i64 t.hi], .slice Aw' ws.length cw'] W (ErrPost (Wl.chkV t ws) W)) := fun A' Aw' c' cw' W h1 h2 => Check5_any t ws A' Aw' c' cw' hp9 hw9 W h1 h2
  have HAR : Hid (∀ (Aw' : Option Addr) (cw' : Nat) (W : World), Prs W W.heap.size Aw' ws → Calls Try.prog 16 #[.slice Aw' ws.length cw'] W (TwoPost (if Wl.ptsB ws then Wl.dbl ws else 0) (if Wl.ptsB ws then 0 else 51) W)) := fun Aw' cw' W h2 => AreaW_any Aw' cw' ws hw9 W h2
  have HAR5 : Hid (∀ (Aw' : Option Addr) (cw' : Nat) (W : World), Prs W W.heap.size Aw' ws → Calls Try.prog 17 #[.slice Aw' ws.length cw'] W (TwoPost (if Wl.ptsB ws then Wl.dbl ws else 0) (if Wl.ptsB ws then 0 else 51) W)) := fun Aw' cw' W h2 => Area5_any Aw' cw' ws hw9 W h2
  have HRE : Hid (∀ (A' : Option Addr) (c' : Nat) (W : World), Prs W W.heap.size A' t.ps → Calls Try.prog 18 #[.agg #[.slice A' t.ps.length c', .int .i64 t.cl, .int .i64 t.lo, .int .i64 t.hi], .agg #[.int .i64 ax, .int .i64 ay]] W (IntsEPost (Wl.reachRL t (ax, ay)) (Wl.reachRE t (ax, ay)) W)) := fun A' c' W h1 => ReachP_any t A' c' (ax, ay) hp9 W h1
  have HRE5 : Hid (∀ (A' : Option Addr) (c' : Nat) (W : World), Prs W W.heap.size A' t.ps → Calls Try.prog 19 #[.agg #[.slice A' t.ps.length c', .int .i64 t.cl, .int .i64 t.lo, .int .i64 t.hi], .agg #[.int .i64 ax, .int .i64 ay]] W (IntsEPost (Wl.reachRL t (ax, ay)) (Wl.reachRE t (ax, ay)) W)) := fun A' c' W h1 => Reach5_any t A' c' (ax, ay) hp9 W h1
  have HSK : Hid (∀ (A' Aw' : Option Addr) (c' cw' : Nat) (W : World), Prs W W.heap.size A' t.ps → Prs W W.heap.size Aw' ws → Calls Try.prog 20 #[.agg #[.slice A' t.ps.length c', .int .i64 t.cl, .int .i64 t.lo, .int .i64 t.hi], .slice Aw' ws.length cw'] W (IntsEPost (Wl.stkL t ws) (Wl.chkV t ws) W)) := fun A' Aw' c' cw' W h1 h2 => StuckW_any t ws A' Aw' c' cw' hp9 hw9 W h1 h2
  have HSK5 : Hid (∀ (A' Aw' : Option Addr) (c' cw' : Nat) (W : World), Prs W W.heap.size A' t.ps → Prs W W.heap.size Aw' ws → Calls Try.prog 21 #[.agg #[.slice A' t.ps.length c', .int .i64 t.cl, .int .i64 t.lo, .int .i64 t.hi], .slice Aw' ws.length cw'] W (IntsEPost (Wl.stkL t ws) (Wl.chkV t ws) W)) := fun A' Aw' c' cw' W h1 h2 => Stuck5_any t ws A' Aw' c' cw' hp9 hw9 W h1 h2
  have HSI : Hid (∀ (v v' : Value) (xs : List Int) (W : World), Ints W W.heap.size v xs → Ints W W.heap.size v' xs → xs.length ≤ 1000000000 → Calls Try.prog 22 #[v, v'] W fun e w' => e = .returned (.bool true) ∧ Below W.heap.size W w') := fun v v' xs W h h' hl => by
    have := SameInts_any v v' xs xs W h h' hl hl
    rw [decide_eq_true rfl] at this
    exact this
  have HSP : Hid (∀ (A' A2 : Option Addr) (c' c2 : Nat) (L : List Wl.Pt) (W : World), L.length ≤ 40 → Prs W W.heap.size A' L → Prs W W.heap.size A2 L → Calls Try.prog 23 #[.slice A' L.length c', .slice A2 L.length c2] W fun e w' => e = .returned (.bool true) ∧ Below W.heap.size W w') := fun A' A2 c' c2 L W hl h1 h2 => samePoints5_yes A' A2 c' c2 L (by omega) W h1 h2
  have hRL : Hid ((Wl.reachRL t (ax, ay)).length ≤ 40) := by
    unfold Hid Wl.reachRL
    split
    · split
      · exact Nat.le_trans (Wl.reachL_len t _) h1
      · simp
    · simp
  have hSL : Hid ((Wl.stkL t ws).length ≤ 40) := by
    unfold Hid Wl.stkL
    split
    · exact Nat.le_trans (Wl.stkTo_len t ws _) h2
    · simp
  have hHP := Lib.hid hP
  have hHQ := Lib.hid hQ
  clear hP hQ
  unfold ErrPost at HCK HCK5
  unfold TwoPost at HAR HAR5
  unfold IntsEPost at HRE HRE5 HSK HSK5
  unfold Copy5Post at HCP
  generalize (if Wl.ptsB ws then Wl.dbl ws else 0) = AV at *
  generalize (if Wl.ptsB ws then (0 : Int) else 51) = AE at *
  generalize Wl.reachRL t (ax, ay) = RL at *
  generalize Wl.reachRE t (ax, ay) = RE at *
  generalize Wl.stkL t ws = SL at *
  generalize Wl.chkV t ws = CE at *
  obtain ⟨ps, cl, lo, hi⟩ := t
  unfold trV at *
  dsimp only at *
  have da1 : decide (40 < (ps.length : Int)) = false := decide_eq_false (by omega)
  have da2 : decide (40 < ps.length) = false := decide_eq_false (by omega)
  have db1 : decide (40 < (ws.length : Int)) = false := decide_eq_false (by omega)
  have db2 : decide (40 < ws.length) = false := decide_eq_false (by omega)
  have hav : (AV == AV) = true := by simp
  have hae : (AE == AE) = true := by simp
  have hre : (RE == RE) = true := by simp
  have hce : (CE == CE) = true := by simp
  have hcn : (CE != CE) = false := by simp
  go_enter Try.func3, Try.ntmps3
  go_wp2_with fail
  have bT1 := (BoxS.new w 26 #[.slice A ps.length c, .int .i64 cl, .int .i64 lo, .int .i64 hi]).alloc (.cells #[.int .i64 ax, .int .i64 ay] 28)
  have bB1 := BoxS.new (w.alloc (.cells #[.slice A ps.length c, .int .i64 cl, .int .i64 lo, .int .i64 hi] 26)) 28 #[.int .i64 ax, .int .i64 ay]
  rw [World.size_alloc] at bB1
  have hB1 : Below w.heap.size w ((w.alloc (.cells #[.slice A ps.length c, .int .i64 cl, .int .i64 lo, .int .i64 hi] 26)).alloc (.cells #[.int .i64 ax, .int .i64 ay] 28)) := by (repeat' (first | (with_reducible exact Below.refl _ _) | (with_reducible assumption) | (with_reducible refine Below.alloc ?_ ?_ _) | (with_reducible refine Below.drew ?_) | (with_reducible refine Below.setCell ?_ ?_ _) | go_size | (exact (by simp)) | omega))
  generalize World.alloc (World.alloc w _) _ = w1 at *
  have po1 : Hid (Prs w1 w1.heap.size A ps) := prs_keep hHP.out hB1
  have wo1 : Hid (Prs w1 w1.heap.size Aw ws) := prs_keep hHQ.out hB1
  have ct0 : w1.cell? ⟨w.heap.size, 0, none⟩ = some (.slice A ps.length c) := bT1.cell 0 rfl
  have ct1 : w1.cell? ⟨w.heap.size, 1, none⟩ = some (.int .i64 cl) := bT1.cell 1 rfl
  have ct2 : w1.cell? ⟨w.heap.size, 2, none⟩ = some (.int .i64 lo) := bT1.cell 2 rfl
  have ct3 : w1.cell? ⟨w.heap.size, 3, none⟩ = some (.int .i64 hi) := bT1.cell 3 rfl
  have lT1 := bT1.lt
  have cb0 : w1.cell? ⟨w.heap.size + 1, 0, none⟩ = some (.int .i64 ax) := bB1.cell 0 rfl
  have cb1 : w1.cell? ⟨w.heap.size + 1, 1, none⟩ = some (.int .i64 ay) := bB1.cell 1 rfl
  have lB1 := bB1.lt
  try go_wp2_with fail
  refine (HCP.out _ hB1).mono ?_
  rintro e w2 ⟨A1, cR, rfl, hO2, hb2⟩
  have pp2 : Hid (Prs w2 w2.heap.size A1 ps) := prsP_of_own hO2.out
  have bT2 := bT1.below hb2
  have bB2 := bB1.below hb2
  have hB2 := hB1.trans (hb2.mono hB1.size)
  have po2 : Hid (Prs w2 w2.heap.size A ps) := (po1.out.keep hb2).wider hb2.size
  have wo2 : Hid (Prs w2 w2.heap.size Aw ws) := (wo1.out.keep hb2).wider hb2.size
  clear ct0 ct1 ct2 ct3 lT1 cb0 cb1 lB1 bT1 bB1 po1 wo1 hB1 hb2 hO2
  go_wp2_with (at_builtin; go_must (refine wpList_copy rfl (.tmp 33) (.tmp 34) rfl Aw cw ws w2.heap.size rfl rfl rfl wo2.out (by omega) ?_; intro A2 cS w3 hown hb3))
  have ww3 : Hid (Prs w3 w3.heap.size A2 ws) := prsP_of_own hown
  have bT3 := bT2.below hb3
  have bB3 := bB2.below hb3
  have hB3 := hB2.trans (hb3.mono hB2.size)
  have po3 : Hid (Prs w3 w3.heap.size A ps) := (po2.out.keep hb3).wider hb3.size
  have wo3 : Hid (Prs w3 w3.heap.size Aw ws) := (wo2.out.keep hb3).wider hb3.size
  have pp3 : Hid (Prs w3 w3.heap.size A1 ps) := (pp2.out.keep hb3).wider hb3.size
  clear bT2 bB2 po2 wo2 pp2 hB2 hb3 hown
  have bO4n := BoxS.new w3 26 #[.slice A1 ps.length cR, .int .i64 cl, .int .i64 lo, .int .i64 hi]
  have hbx : Below w3.heap.size w3 (w3.alloc (.cells #[.slice A1 ps.length cR, .int .i64 cl, .int .i64 lo, .int .i64 hi] 26)) := (Below.refl _ _).alloc (Nat.le_refl _) _
  have bT4 := bT3.below hbx
  have bB4 := bB3.below hbx
  have hB4 := hB3.trans (hbx.mono hB3.size)
  have po4 : Hid (Prs (w3.alloc (.cells #[.slice A1 ps.length cR, .int .i64 cl, .int .i64 lo, .int .i64 hi] 26)) (w3.alloc (.cells #[.slice A1 ps.length cR, .int .i64 cl, .int .i64 lo, .int .i64 hi] 26)).heap.size A ps) := (po3.out.keep hbx).wider hbx.size
  have wo4 : Hid (Prs (w3.alloc (.cells #[.slice A1 ps.length cR, .int .i64 cl, .int .i64 lo, .int .i64 hi] 26)) (w3.alloc (.cells #[.slice A1 ps.length cR, .int .i64 cl, .int .i64 lo, .int .i64 hi] 26)).heap.size Aw ws) := (wo3.out.keep hbx).wider hbx.size
  have pp4 : Hid (Prs (w3.alloc (.cells #[.slice A1 ps.length cR, .int .i64 cl, .int .i64 lo, .int .i64 hi] 26)) (w3.alloc (.cells #[.slice A1 ps.length cR, .int .i64 cl, .int .i64 lo, .int .i64 hi] 26)).heap.size A1 ps) := (pp3.out.keep hbx).wider hbx.size
  have ww4 : Hid (Prs (w3.alloc (.cells #[.slice A1 ps.length cR, .int .i64 cl, .int .i64 lo, .int .i64 hi] 26)) (w3.alloc (.cells #[.slice A1 ps.length cR, .int .i64 cl, .int .i64 lo, .int .i64 hi] 26)).heap.size A2 ws) := (ww3.out.keep hbx).wider hbx.size
  obtain ⟨BO, hBe⟩ : ∃ B, B = w3.heap.size := ⟨_, rfl⟩
  have kO : w.heap.size < BO := by have := bT3.lt; omega
  rw [← hBe] at bO4n ⊢
  have bO4 := bO4n
  clear bT3 bB3 po3 wo3 pp3 ww3 hB3 hbx hBe bO4n
  generalize World.alloc w3 _ = w4 at *
  have hmo : Try.prog.follows .mixedOrders = true := by kernel_rfl
  have hqq : Below w4.heap.size w4 w4.drew := (Below.refl _ _).drew
  have KC : Hid (∀ W', Below w4.heap.size w4 W' → (W'.cell? ⟨BO, 0, none⟩ = some (.slice A1 ps.length cR) ∧ W'.cell? ⟨BO, 1, none⟩ = some (.int .i64 cl) ∧ W'.cell? ⟨BO, 2, none⟩ = some (.int .i64 lo) ∧ W'.cell? ⟨BO, 3, none⟩ = some (.int .i64 hi)) ∧ (W'.cell? ⟨w.heap.size, 0, none⟩ = some (.slice A ps.length c) ∧ W'.cell? ⟨w.heap.size, 1, none⟩ = some (.int .i64 cl) ∧ W'.cell? ⟨w.heap.size, 2, none⟩ = some (.int .i64 lo) ∧ W'.cell? ⟨w.heap.size, 3, none⟩ = some (.int .i64 hi))) := fun W' h => ⟨boxS4 (bO4.below h), boxS4 (bT4.below h)⟩
  refine (wpIn_wide (n := 4)).1 ?_
  refine wpIn_region_held (fun W' => Below w4.heap.size w4 W') 30 hmo ?_
  refine wpHeldIn_take (i := 0) (v := ?_) (plain_of (by kernel_rfl)) rfl (by kernel_rfl) (fun _ _ _ h => h) (yieldsSoIn_of (by kernel_rfl) ?_ (fun _ => rfl)) hqq ?_; rotate_left; focus (intro wq hw; have kq := KC.out wq hw; clear hw; go_simp; try (with_reducible rfl))
  refine wpHeldIn_take (i := 1) (v := ?_) (plain_of (by kernel_rfl)) rfl (by kernel_rfl) (fun _ _ _ h => h) (yieldsSoIn_of (by kernel_rfl) ?_ (fun _ => rfl)) hqq ?_; rotate_left; focus (intro wq hw; clear hw; go_simp; try (with_reducible rfl))
  refine wpHeldIn_take (i := 3) (v := ?_) (plain_of (by kernel_rfl)) rfl (by kernel_rfl) (fun _ _ _ h => h) (yieldsSoIn_of (by kernel_rfl) ?_ (fun _ => rfl)) hqq ?_; rotate_left; focus (intro wq hw; have kq := KC.out wq hw; clear hw; go_simp; try (with_reducible rfl))
  refine wpHeldIn_take (i := 4) (v := ?_) (plain_of (by kernel_rfl)) rfl (by kernel_rfl) (fun _ _ _ h => h) (yieldsSoIn_of (by kernel_rfl) ?_ (fun _ => rfl)) hqq ?_; rotate_left; focus (intro wq hw; clear hw; go_simp; try (with_reducible rfl))
  refine wpHeldIn_one (i := 2) (by kernel_rfl) (by kernel_rfl) rfl (by kernel_rfl) (fun K2 hK2 => ?_)
  go_simp
  refine ⟨trivial, (callsIn_wide.2 (HCK.out _ _ _ _ _ (prs_keep pp4.out hqq) (prs_keep ww4.out hqq))).mono ?_⟩
  rintro e w5 ⟨rfl, hb5⟩
  have q5 := hqq.trans (hb5.mono hqq.size)
  refine hK2 _ _ q5 ?_
  refine wpHeldIn_one (i := 5) (by kernel_rfl) (by kernel_rfl) rfl (by kernel_rfl) (fun K3 hK3 => ?_)
  go_simp
  refine ⟨trivial, (callsIn_wide.2 (HCK5.out _ _ _ _ _ (prs_keep po4.out q5) (prs_keep wo4.out q5))).mono ?_⟩
  rintro e w6 ⟨rfl, hb6⟩
  have hb9 := q5.trans (hb6.mono q5.size)
  refine hK3 _ _ hb9 ?_
  refine wpHeldIn_take (i := 6) (v := ?_) (plain_of (by kernel_rfl)) rfl (by kernel_rfl) (fun _ _ _ h => h) (yieldsSoIn_of (by kernel_rfl) ?_ (fun _ => rfl)) hb9 ?_; rotate_left; focus (intro wq hw; clear hw; go_simp; try (with_reducible rfl))
  refine wpHeldIn_done (by kernel_rfl) ?_ _
  go_simp
  have bT6 := bT4.below hb9
  have bB6 := bB4.below hb9
  have bO6 := bO4.below hb9
  have hB6 := hB4.trans (hb9.mono hB4.size)
  have po6 : Hid (Prs w6 w6.heap.size A ps) := (po4.out.keep hb9).wider hb9.size
  have wo6 : Hid (Prs w6 w6.heap.size Aw ws) := (wo4.out.keep hb9).wider hb9.size
  have pp6 : Hid (Prs w6 w6.heap.size A1 ps) := (pp4.out.keep hb9).wider hb9.size
  have ww6 : Hid (Prs w6 w6.heap.size A2 ws) := (ww4.out.keep hb9).wider hb9.size
  clear bT4 bB4 bO4 po4 wo4 pp4 ww4 hB4 hb9 q5 hqq hb5 hb6 KC
  have ct0 : w6.cell? ⟨w.heap.size, 0, none⟩ = some (.slice A ps.length c) := bT6.cell 0 rfl
  have ct1 : w6.cell? ⟨w.heap.size, 1, none⟩ = some (.int .i64 cl) := bT6.cell 1 rfl
  have ct2 : w6.cell? ⟨w.heap.size, 2, none⟩ = some (.int .i64 lo) := bT6.cell 2 rfl
  have ct3 : w6.cell? ⟨w.heap.size, 3, none⟩ = some (.int .i64 hi) := bT6.cell 3 rfl
  have lT6 := bT6.lt
  have cb0 : w6.cell? ⟨w.heap.size + 1, 0, none⟩ = some (.int .i64 ax) := bB6.cell 0 rfl
  have cb1 : w6.cell? ⟨w.heap.size + 1, 1, none⟩ = some (.int .i64 ay) := bB6.cell 1 rfl
  have lB6 := bB6.lt
  have co0 : w6.cell? ⟨BO, 0, none⟩ = some (.slice A1 ps.length cR) := bO6.cell 0 rfl
  have co1 : w6.cell? ⟨BO, 1, none⟩ = some (.int .i64 cl) := bO6.cell 1 rfl
  have co2 : w6.cell? ⟨BO, 2, none⟩ = some (.int .i64 lo) := bO6.cell 2 rfl
  have co3 : w6.cell? ⟨BO, 3, none⟩ = some (.int .i64 hi) := bO6.cell 3 rfl
  have lO6 := bO6.lt
  go_wp2_with fail
  refine (HAR.out _ _ _ ww6.out).mono ?_
  rintro e w7 ⟨rfl, hb7⟩
  have bT7 := bT6.below hb7
  have bB7 := bB6.below hb7
  have bO7 := bO6.below hb7
  have hB7 := hB6.trans (hb7.mono hB6.size)
  have po7 : Hid (Prs w7 w7.heap.size A ps) := (po6.out.keep hb7).wider hb7.size
  have wo7 : Hid (Prs w7 w7.heap.size Aw ws) := (wo6.out.keep hb7).wider hb7.size
  have pp7 : Hid (Prs w7 w7.heap.size A1 ps) := (pp6.out.keep hb7).wider hb7.size
  have ww7 : Hid (Prs w7 w7.heap.size A2 ws) := (ww6.out.keep hb7).wider hb7.size
  clear ct0 ct1 ct2 ct3 lT6 cb0 cb1 lB6 co0 co1 co2 co3 lO6 bT6 bB6 bO6 po6 wo6 pp6 ww6 hB6 hb7
  have ct0 : w7.cell? ⟨w.heap.size, 0, none⟩ = some (.slice A ps.length c) := bT7.cell 0 rfl
  have ct1 : w7.cell? ⟨w.heap.size, 1, none⟩ = some (.int .i64 cl) := bT7.cell 1 rfl
  have ct2 : w7.cell? ⟨w.heap.size, 2, none⟩ = some (.int .i64 lo) := bT7.cell 2 rfl
  have ct3 : w7.cell? ⟨w.heap.size, 3, none⟩ = some (.int .i64 hi) := bT7.cell 3 rfl
  have lT7 := bT7.lt
  have cb0 : w7.cell? ⟨w.heap.size + 1, 0, none⟩ = some (.int .i64 ax) := bB7.cell 0 rfl
  have cb1 : w7.cell? ⟨w.heap.size + 1, 1, none⟩ = some (.int .i64 ay) := bB7.cell 1 rfl
  have lB7 := bB7.lt
  have co0 : w7.cell? ⟨BO, 0, none⟩ = some (.slice A1 ps.length cR) := bO7.cell 0 rfl
  have co1 : w7.cell? ⟨BO, 1, none⟩ = some (.int .i64 cl) := bO7.cell 1 rfl
  have co2 : w7.cell? ⟨BO, 2, none⟩ = some (.int .i64 lo) := bO7.cell 2 rfl
  have co3 : w7.cell? ⟨BO, 3, none⟩ = some (.int .i64 hi) := bO7.cell 3 rfl
  have lO7 := bO7.lt
  go_wp2_with fail
  refine (HAR5.out _ _ _ wo7.out).mono ?_
  rintro e w8 ⟨rfl, hb8⟩
  have bT8 := bT7.below hb8
  have bB8 := bB7.below hb8
  have bO8 := bO7.below hb8
  have hB8 := hB7.trans (hb8.mono hB7.size)
  have po8 : Hid (Prs w8 w8.heap.size A ps) := (po7.out.keep hb8).wider hb8.size
  have wo8 : Hid (Prs w8 w8.heap.size Aw ws) := (wo7.out.keep hb8).wider hb8.size
  have pp8 : Hid (Prs w8 w8.heap.size A1 ps) := (pp7.out.keep hb8).wider hb8.size
  have ww8 : Hid (Prs w8 w8.heap.size A2 ws) := (ww7.out.keep hb8).wider hb8.size
  clear ct0 ct1 ct2 ct3 lT7 cb0 cb1 lB7 co0 co1 co2 co3 lO7 bT7 bB7 bO7 po7 wo7 pp7 ww7 hB7 hb8
  have ct0 : w8.cell? ⟨w.heap.size, 0, none⟩ = some (.slice A ps.length c) := bT8.cell 0 rfl
  have ct1 : w8.cell? ⟨w.heap.size, 1, none⟩ = some (.int .i64 cl) := bT8.cell 1 rfl
  have ct2 : w8.cell? ⟨w.heap.size, 2, none⟩ = some (.int .i64 lo) := bT8.cell 2 rfl
  have ct3 : w8.cell? ⟨w.heap.size, 3, none⟩ = some (.int .i64 hi) := bT8.cell 3 rfl
  have lT8 := bT8.lt
  have cb0 : w8.cell? ⟨w.heap.size + 1, 0, none⟩ = some (.int .i64 ax) := bB8.cell 0 rfl
  have cb1 : w8.cell? ⟨w.heap.size + 1, 1, none⟩ = some (.int .i64 ay) := bB8.cell 1 rfl
  have lB8 := bB8.lt
  have co0 : w8.cell? ⟨BO, 0, none⟩ = some (.slice A1 ps.length cR) := bO8.cell 0 rfl
  have co1 : w8.cell? ⟨BO, 1, none⟩ = some (.int .i64 cl) := bO8.cell 1 rfl
  have co2 : w8.cell? ⟨BO, 2, none⟩ = some (.int .i64 lo) := bO8.cell 2 rfl
  have co3 : w8.cell? ⟨BO, 3, none⟩ = some (.int .i64 hi) := bO8.cell 3 rfl
  have lO8 := bO8.lt
  go_wp2_with fail
  refine (HRE.out _ _ _ pp8.out).mono ?_
  rintro e w9 ⟨v9, rfl, hv9, hb9⟩
  obtain ⟨Ara, cra, rfl⟩ := ints_form hv9.out
  have bT9 := bT8.below hb9
  have bB9 := bB8.below hb9
  have bO9 := bO8.below hb9
  have hB9 := hB8.trans (hb9.mono hB8.size)
  have po9 : Hid (Prs w9 w9.heap.size A ps) := (po8.out.keep hb9).wider hb9.size
  have wo9 : Hid (Prs w9 w9.heap.size Aw ws) := (wo8.out.keep hb9).wider hb9.size
  have pp9 : Hid (Prs w9 w9.heap.size A1 ps) := (pp8.out.keep hb9).wider hb9.size
  have ww9 : Hid (Prs w9 w9.heap.size A2 ws) := (ww8.out.keep hb9).wider hb9.size
  clear ct0 ct1 ct2 ct3 lT8 cb0 cb1 lB8 co0 co1 co2 co3 lO8 bT8 bB8 bO8 po8 wo8 pp8 ww8 hB8 hb9
  have ra9 : Hid (Ints w9 w9.heap.size (.slice Ara RL.length cra) RL) := hv9
  clear hv9
  have ct0 : w9.cell? ⟨w.heap.size, 0, none⟩ = some (.slice A ps.length c) := bT9.cell 0 rfl
  have ct1 : w9.cell? ⟨w.heap.size, 1, none⟩ = some (.int .i64 cl) := bT9.cell 1 rfl
  have ct2 : w9.cell? ⟨w.heap.size, 2, none⟩ = some (.int .i64 lo) := bT9.cell 2 rfl
  have ct3 : w9.cell? ⟨w.heap.size, 3, none⟩ = some (.int .i64 hi) := bT9.cell 3 rfl
  have lT9 := bT9.lt
  have cb0 : w9.cell? ⟨w.heap.size + 1, 0, none⟩ = some (.int .i64 ax) := bB9.cell 0 rfl
  have cb1 : w9.cell? ⟨w.heap.size + 1, 1, none⟩ = some (.int .i64 ay) := bB9.cell 1 rfl
  have lB9 := bB9.lt
  have co0 : w9.cell? ⟨BO, 0, none⟩ = some (.slice A1 ps.length cR) := bO9.cell 0 rfl
  have co1 : w9.cell? ⟨BO, 1, none⟩ = some (.int .i64 cl) := bO9.cell 1 rfl
  have co2 : w9.cell? ⟨BO, 2, none⟩ = some (.int .i64 lo) := bO9.cell 2 rfl
  have co3 : w9.cell? ⟨BO, 3, none⟩ = some (.int .i64 hi) := bO9.cell 3 rfl
  have lO9 := bO9.lt
  go_wp2_with fail
  refine (HRE5.out _ _ _ po9.out).mono ?_
  rintro e w10 ⟨v10, rfl, hv10, hb10⟩
  obtain ⟨Arb, crb, rfl⟩ := ints_form hv10.out
  have bT10 := bT9.below hb10
  have bB10 := bB9.below hb10
  have bO10 := bO9.below hb10
  have hB10 := hB9.trans (hb10.mono hB9.size)
  have po10 : Hid (Prs w10 w10.heap.size A ps) := (po9.out.keep hb10).wider hb10.size
  have wo10 : Hid (Prs w10 w10.heap.size Aw ws) := (wo9.out.keep hb10).wider hb10.size
  have pp10 : Hid (Prs w10 w10.heap.size A1 ps) := (pp9.out.keep hb10).wider hb10.size
  have ww10 : Hid (Prs w10 w10.heap.size A2 ws) := (ww9.out.keep hb10).wider hb10.size
  have ra10 : Hid (Ints w10 w10.heap.size (.slice Ara RL.length cra) RL) := (ra9.out.keep hb10).more hb10.size
  clear ct0 ct1 ct2 ct3 lT9 cb0 cb1 lB9 co0 co1 co2 co3 lO9 bT9 bB9 bO9 po9 wo9 pp9 ww9 ra9 hB9 hb10
  have rb10 : Hid (Ints w10 w10.heap.size (.slice Arb RL.length crb) RL) := hv10
  clear hv10
  have ct0 : w10.cell? ⟨w.heap.size, 0, none⟩ = some (.slice A ps.length c) := bT10.cell 0 rfl
  have ct1 : w10.cell? ⟨w.heap.size, 1, none⟩ = some (.int .i64 cl) := bT10.cell 1 rfl
  have ct2 : w10.cell? ⟨w.heap.size, 2, none⟩ = some (.int .i64 lo) := bT10.cell 2 rfl
  have ct3 : w10.cell? ⟨w.heap.size, 3, none⟩ = some (.int .i64 hi) := bT10.cell 3 rfl
  have lT10 := bT10.lt
  have cb0 : w10.cell? ⟨w.heap.size + 1, 0, none⟩ = some (.int .i64 ax) := bB10.cell 0 rfl
  have cb1 : w10.cell? ⟨w.heap.size + 1, 1, none⟩ = some (.int .i64 ay) := bB10.cell 1 rfl
  have lB10 := bB10.lt
  have co0 : w10.cell? ⟨BO, 0, none⟩ = some (.slice A1 ps.length cR) := bO10.cell 0 rfl
  have co1 : w10.cell? ⟨BO, 1, none⟩ = some (.int .i64 cl) := bO10.cell 1 rfl
  have co2 : w10.cell? ⟨BO, 2, none⟩ = some (.int .i64 lo) := bO10.cell 2 rfl
  have co3 : w10.cell? ⟨BO, 3, none⟩ = some (.int .i64 hi) := bO10.cell 3 rfl
  have lO10 := bO10.lt
  go_wp2_with fail
  refine (HSK.out _ _ _ _ _ pp10.out ww10.out).mono ?_
  rintro e w11 ⟨v11, rfl, hv11, hb11⟩
  obtain ⟨Asa, csa, rfl⟩ := ints_form hv11.out
  have bT11 := bT10.below hb11
  have bB11 := bB10.below hb11
  have bO11 := bO10.below hb11
  have hB11 := hB10.trans (hb11.mono hB10.size)
  have po11 : Hid (Prs w11 w11.heap.size A ps) := (po10.out.keep hb11).wider hb11.size
  have wo11 : Hid (Prs w11 w11.heap.size Aw ws) := (wo10.out.keep hb11).wider hb11.size
  have pp11 : Hid (Prs w11 w11.heap.size A1 ps) := (pp10.out.keep hb11).wider hb11.size
  have ww11 : Hid (Prs w11 w11.heap.size A2 ws) := (ww10.out.keep hb11).wider hb11.size
  have ra11 : Hid (Ints w11 w11.heap.size (.slice Ara RL.length cra) RL) := (ra10.out.keep hb11).more hb11.size
  have rb11 : Hid (Ints w11 w11.heap.size (.slice Arb RL.length crb) RL) := (rb10.out.keep hb11).more hb11.size
  clear ct0 ct1 ct2 ct3 lT10 cb0 cb1 lB10 co0 co1 co2 co3 lO10 bT10 bB10 bO10 po10 wo10 pp10 ww10 ra10 rb10 hB10 hb11
  have sa11 : Hid (Ints w11 w11.heap.size (.slice Asa SL.length csa) SL) := hv11
  clear hv11
  have ct0 : w11.cell? ⟨w.heap.size, 0, none⟩ = some (.slice A ps.length c) := bT11.cell 0 rfl
  have ct1 : w11.cell? ⟨w.heap.size, 1, none⟩ = some (.int .i64 cl) := bT11.cell 1 rfl
  have ct2 : w11.cell? ⟨w.heap.size, 2, none⟩ = some (.int .i64 lo) := bT11.cell 2 rfl
  have ct3 : w11.cell? ⟨w.heap.size, 3, none⟩ = some (.int .i64 hi) := bT11.cell 3 rfl
  have lT11 := bT11.lt
  have cb0 : w11.cell? ⟨w.heap.size + 1, 0, none⟩ = some (.int .i64 ax) := bB11.cell 0 rfl
  have cb1 : w11.cell? ⟨w.heap.size + 1, 1, none⟩ = some (.int .i64 ay) := bB11.cell 1 rfl
  have lB11 := bB11.lt
  have co0 : w11.cell? ⟨BO, 0, none⟩ = some (.slice A1 ps.length cR) := bO11.cell 0 rfl
  have co1 : w11.cell? ⟨BO, 1, none⟩ = some (.int .i64 cl) := bO11.cell 1 rfl
  have co2 : w11.cell? ⟨BO, 2, none⟩ = some (.int .i64 lo) := bO11.cell 2 rfl
  have co3 : w11.cell? ⟨BO, 3, none⟩ = some (.int .i64 hi) := bO11.cell 3 rfl
  have lO11 := bO11.lt
  go_wp2_with fail
  refine (HSK5.out _ _ _ _ _ po11.out wo11.out).mono ?_
  rintro e w12 ⟨v12, rfl, hv12, hb12⟩
  obtain ⟨Asb, csb, rfl⟩ := ints_form hv12.out
  have bT12 := bT11.below hb12
  have bB12 := bB11.below hb12
  have bO12 := bO11.below hb12
  have hB12 := hB11.trans (hb12.mono hB11.size)
  have po12 : Hid (Prs w12 w12.heap.size A ps) := (po11.out.keep hb12).wider hb12.size
  have wo12 : Hid (Prs w12 w12.heap.size Aw ws) := (wo11.out.keep hb12).wider hb12.size
  have pp12 : Hid (Prs w12 w12.heap.size A1 ps) := (pp11.out.keep hb12).wider hb12.size
  have ww12 : Hid (Prs w12 w12.heap.size A2 ws) := (ww11.out.keep hb12).wider hb12.size
  have ra12 : Hid (Ints w12 w12.heap.size (.slice Ara RL.length cra) RL) := (ra11.out.keep hb12).more hb12.size
  have rb12 : Hid (Ints w12 w12.heap.size (.slice Arb RL.length crb) RL) := (rb11.out.keep hb12).more hb12.size
  have sa12 : Hid (Ints w12 w12.heap.size (.slice Asa SL.length csa) SL) := (sa11.out.keep hb12).more hb12.size
  clear ct0 ct1 ct2 ct3 lT11 cb0 cb1 lB11 co0 co1 co2 co3 lO11 bT11 bB11 bO11 po11 wo11 pp11 ww11 ra11 rb11 sa11 hB11 hb12
  have sb12 : Hid (Ints w12 w12.heap.size (.slice Asb SL.length csb) SL) := hv12
  clear hv12
  have ct0 : w12.cell? ⟨w.heap.size, 0, none⟩ = some (.slice A ps.length c) := bT12.cell 0 rfl
  have ct1 : w12.cell? ⟨w.heap.size, 1, none⟩ = some (.int .i64 cl) := bT12.cell 1 rfl
  have ct2 : w12.cell? ⟨w.heap.size, 2, none⟩ = some (.int .i64 lo) := bT12.cell 2 rfl
  have ct3 : w12.cell? ⟨w.heap.size, 3, none⟩ = some (.int .i64 hi) := bT12.cell 3 rfl
  have lT12 := bT12.lt
  have cb0 : w12.cell? ⟨w.heap.size + 1, 0, none⟩ = some (.int .i64 ax) := bB12.cell 0 rfl
  have cb1 : w12.cell? ⟨w.heap.size + 1, 1, none⟩ = some (.int .i64 ay) := bB12.cell 1 rfl
  have lB12 := bB12.lt
  have co0 : w12.cell? ⟨BO, 0, none⟩ = some (.slice A1 ps.length cR) := bO12.cell 0 rfl
  have co1 : w12.cell? ⟨BO, 1, none⟩ = some (.int .i64 cl) := bO12.cell 1 rfl
  have co2 : w12.cell? ⟨BO, 2, none⟩ = some (.int .i64 lo) := bO12.cell 2 rfl
  have co3 : w12.cell? ⟨BO, 3, none⟩ = some (.int .i64 hi) := bO12.cell 3 rfl
  have lO12 := bO12.lt
  go_wp2_with fail
  refine (HSI.out _ _ _ _ ra12.out rb12.out (by have := hRL.out; omega)).mono ?_
  rintro e w13 ⟨rfl, hb13⟩
  have bT13 := bT12.below hb13
  have bB13 := bB12.below hb13
  have bO13 := bO12.below hb13
  have hB13 := hB12.trans (hb13.mono hB12.size)
  have po13 : Hid (Prs w13 w13.heap.size A ps) := (po12.out.keep hb13).wider hb13.size
  have wo13 : Hid (Prs w13 w13.heap.size Aw ws) := (wo12.out.keep hb13).wider hb13.size
  have pp13 : Hid (Prs w13 w13.heap.size A1 ps) := (pp12.out.keep hb13).wider hb13.size
  have ww13 : Hid (Prs w13 w13.heap.size A2 ws) := (ww12.out.keep hb13).wider hb13.size
  have ra13 : Hid (Ints w13 w13.heap.size (.slice Ara RL.length cra) RL) := (ra12.out.keep hb13).more hb13.size
  have rb13 : Hid (Ints w13 w13.heap.size (.slice Arb RL.length crb) RL) := (rb12.out.keep hb13).more hb13.size
  have sa13 : Hid (Ints w13 w13.heap.size (.slice Asa SL.length csa) SL) := (sa12.out.keep hb13).more hb13.size
  have sb13 : Hid (Ints w13 w13.heap.size (.slice Asb SL.length csb) SL) := (sb12.out.keep hb13).more hb13.size
  clear ct0 ct1 ct2 ct3 lT12 cb0 cb1 lB12 co0 co1 co2 co3 lO12 bT12 bB12 bO12 po12 wo12 pp12 ww12 ra12 rb12 sa12 sb12 hB12 hb13
  have ct0 : w13.cell? ⟨w.heap.size, 0, none⟩ = some (.slice A ps.length c) := bT13.cell 0 rfl
  have ct1 : w13.cell? ⟨w.heap.size, 1, none⟩ = some (.int .i64 cl) := bT13.cell 1 rfl
  have ct2 : w13.cell? ⟨w.heap.size, 2, none⟩ = some (.int .i64 lo) := bT13.cell 2 rfl
  have ct3 : w13.cell? ⟨w.heap.size, 3, none⟩ = some (.int .i64 hi) := bT13.cell 3 rfl
  have lT13 := bT13.lt
  have cb0 : w13.cell? ⟨w.heap.size + 1, 0, none⟩ = some (.int .i64 ax) := bB13.cell 0 rfl
  have cb1 : w13.cell? ⟨w.heap.size + 1, 1, none⟩ = some (.int .i64 ay) := bB13.cell 1 rfl
  have lB13 := bB13.lt
  have co0 : w13.cell? ⟨BO, 0, none⟩ = some (.slice A1 ps.length cR) := bO13.cell 0 rfl
  have co1 : w13.cell? ⟨BO, 1, none⟩ = some (.int .i64 cl) := bO13.cell 1 rfl
  have co2 : w13.cell? ⟨BO, 2, none⟩ = some (.int .i64 lo) := bO13.cell 2 rfl
  have co3 : w13.cell? ⟨BO, 3, none⟩ = some (.int .i64 hi) := bO13.cell 3 rfl
  have lO13 := bO13.lt
  go_wp2_with fail
  refine (HSI.out _ _ _ _ sa13.out sb13.out (by have := hSL.out; omega)).mono ?_
  rintro e w14 ⟨rfl, hb14⟩
  have bT14 := bT13.below hb14
  have bB14 := bB13.below hb14
  have bO14 := bO13.below hb14
  have hB14 := hB13.trans (hb14.mono hB13.size)
  have po14 : Hid (Prs w14 w14.heap.size A ps) := (po13.out.keep hb14).wider hb14.size
  have wo14 : Hid (Prs w14 w14.heap.size Aw ws) := (wo13.out.keep hb14).wider hb14.size
  have pp14 : Hid (Prs w14 w14.heap.size A1 ps) := (pp13.out.keep hb14).wider hb14.size
  have ww14 : Hid (Prs w14 w14.heap.size A2 ws) := (ww13.out.keep hb14).wider hb14.size
  have ra14 : Hid (Ints w14 w14.heap.size (.slice Ara RL.length cra) RL) := (ra13.out.keep hb14).more hb14.size
  have rb14 : Hid (Ints w14 w14.heap.size (.slice Arb RL.length crb) RL) := (rb13.out.keep hb14).more hb14.size
  have sa14 : Hid (Ints w14 w14.heap.size (.slice Asa SL.length csa) SL) := (sa13.out.keep hb14).more hb14.size
  have sb14 : Hid (Ints w14 w14.heap.size (.slice Asb SL.length csb) SL) := (sb13.out.keep hb14).more hb14.size
  clear ct0 ct1 ct2 ct3 lT13 cb0 cb1 lB13 co0 co1 co2 co3 lO13 bT13 bB13 bO13 po13 wo13 pp13 ww13 ra13 rb13 sa13 sb13 hB13 hb14
  have ct0 : w14.cell? ⟨w.heap.size, 0, none⟩ = some (.slice A ps.length c) := bT14.cell 0 rfl
  have ct1 : w14.cell? ⟨w.heap.size, 1, none⟩ = some (.int .i64 cl) := bT14.cell 1 rfl
  have ct2 : w14.cell? ⟨w.heap.size, 2, none⟩ = some (.int .i64 lo) := bT14.cell 2 rfl
  have ct3 : w14.cell? ⟨w.heap.size, 3, none⟩ = some (.int .i64 hi) := bT14.cell 3 rfl
  have lT14 := bT14.lt
  have cb0 : w14.cell? ⟨w.heap.size + 1, 0, none⟩ = some (.int .i64 ax) := bB14.cell 0 rfl
  have cb1 : w14.cell? ⟨w.heap.size + 1, 1, none⟩ = some (.int .i64 ay) := bB14.cell 1 rfl
  have lB14 := bB14.lt
  have co0 : w14.cell? ⟨BO, 0, none⟩ = some (.slice A1 ps.length cR) := bO14.cell 0 rfl
  have co1 : w14.cell? ⟨BO, 1, none⟩ = some (.int .i64 cl) := bO14.cell 1 rfl
  have co2 : w14.cell? ⟨BO, 2, none⟩ = some (.int .i64 lo) := bO14.cell 2 rfl
  have co3 : w14.cell? ⟨BO, 3, none⟩ = some (.int .i64 hi) := bO14.cell 3 rfl
  have lO14 := bO14.lt
  go_wp2_with fail
  refine (HSP.out _ _ _ _ _ _ h1 pp14.out po14.out).mono ?_
  rintro e w15 ⟨rfl, hb15⟩
  have bT15 := bT14.below hb15
  have bB15 := bB14.below hb15
  have bO15 := bO14.below hb15
  have hB15 := hB14.trans (hb15.mono hB14.size)
  have po15 : Hid (Prs w15 w15.heap.size A ps) := (po14.out.keep hb15).wider hb15.size
  have wo15 : Hid (Prs w15 w15.heap.size Aw ws) := (wo14.out.keep hb15).wider hb15.size
  have pp15 : Hid (Prs w15 w15.heap.size A1 ps) := (pp14.out.keep hb15).wider hb15.size
  have ww15 : Hid (Prs w15 w15.heap.size A2 ws) := (ww14.out.keep hb15).wider hb15.size
  have ra15 : Hid (Ints w15 w15.heap.size (.slice Ara RL.length cra) RL) := (ra14.out.keep hb15).more hb15.size
  have rb15 : Hid (Ints w15 w15.heap.size (.slice Arb RL.length crb) RL) := (rb14.out.keep hb15).more hb15.size
  have sa15 : Hid (Ints w15 w15.heap.size (.slice Asa SL.length csa) SL) := (sa14.out.keep hb15).more hb15.size
  have sb15 : Hid (Ints w15 w15.heap.size (.slice Asb SL.length csb) SL) := (sb14.out.keep hb15).more hb15.size
  clear ct0 ct1 ct2 ct3 lT14 cb0 cb1 lB14 co0 co1 co2 co3 lO14 bT14 bB14 bO14 po14 wo14 pp14 ww14 ra14 rb14 sa14 sb14 hB14 hb15
  have ct0 : w15.cell? ⟨w.heap.size, 0, none⟩ = some (.slice A ps.length c) := bT15.cell 0 rfl
  have ct1 : w15.cell? ⟨w.heap.size, 1, none⟩ = some (.int .i64 cl) := bT15.cell 1 rfl
  have ct2 : w15.cell? ⟨w.heap.size, 2, none⟩ = some (.int .i64 lo) := bT15.cell 2 rfl
  have ct3 : w15.cell? ⟨w.heap.size, 3, none⟩ = some (.int .i64 hi) := bT15.cell 3 rfl
  have lT15 := bT15.lt
  have cb0 : w15.cell? ⟨w.heap.size + 1, 0, none⟩ = some (.int .i64 ax) := bB15.cell 0 rfl
  have cb1 : w15.cell? ⟨w.heap.size + 1, 1, none⟩ = some (.int .i64 ay) := bB15.cell 1 rfl
  have lB15 := bB15.lt
  have co0 : w15.cell? ⟨BO, 0, none⟩ = some (.slice A1 ps.length cR) := bO15.cell 0 rfl
  have co1 : w15.cell? ⟨BO, 1, none⟩ = some (.int .i64 cl) := bO15.cell 1 rfl
  have co2 : w15.cell? ⟨BO, 2, none⟩ = some (.int .i64 lo) := bO15.cell 2 rfl
  have co3 : w15.cell? ⟨BO, 3, none⟩ = some (.int .i64 hi) := bO15.cell 3 rfl
  have lO15 := bO15.lt
  go_wp2_with fail
  refine (HSP.out _ _ _ _ _ _ h2 ww15.out wo15.out).mono ?_
  rintro e w16 ⟨rfl, hb16⟩
  have bT16 := bT15.below hb16
  have bB16 := bB15.below hb16
  have bO16 := bO15.below hb16
  have hB16 := hB15.trans (hb16.mono hB15.size)
  have po16 : Hid (Prs w16 w16.heap.size A ps) := (po15.out.keep hb16).wider hb16.size
  have wo16 : Hid (Prs w16 w16.heap.size Aw ws) := (wo15.out.keep hb16).wider hb16.size
  have pp16 : Hid (Prs w16 w16.heap.size A1 ps) := (pp15.out.keep hb16).wider hb16.size
  have ww16 : Hid (Prs w16 w16.heap.size A2 ws) := (ww15.out.keep hb16).wider hb16.size
  have ra16 : Hid (Ints w16 w16.heap.size (.slice Ara RL.length cra) RL) := (ra15.out.keep hb16).more hb16.size
  have rb16 : Hid (Ints w16 w16.heap.size (.slice Arb RL.length crb) RL) := (rb15.out.keep hb16).more hb16.size
  have sa16 : Hid (Ints w16 w16.heap.size (.slice Asa SL.length csa) SL) := (sa15.out.keep hb16).more hb16.size
  have sb16 : Hid (Ints w16 w16.heap.size (.slice Asb SL.length csb) SL) := (sb15.out.keep hb16).more hb16.size
  clear ct0 ct1 ct2 ct3 lT15 cb0 cb1 lB15 co0 co1 co2 co3 lO15 bT15 bB15 bO15 po15 wo15 pp15 ww15 ra15 rb15 sa15 sb15 hB15 hb16
  have ct0 : w16.cell? ⟨w.heap.size, 0, none⟩ = some (.slice A ps.length c) := bT16.cell 0 rfl
  have ct1 : w16.cell? ⟨w.heap.size, 1, none⟩ = some (.int .i64 cl) := bT16.cell 1 rfl
  have ct2 : w16.cell? ⟨w.heap.size, 2, none⟩ = some (.int .i64 lo) := bT16.cell 2 rfl
  have ct3 : w16.cell? ⟨w.heap.size, 3, none⟩ = some (.int .i64 hi) := bT16.cell 3 rfl
  have lT16 := bT16.lt
  have cb0 : w16.cell? ⟨w.heap.size + 1, 0, none⟩ = some (.int .i64 ax) := bB16.cell 0 rfl
  have cb1 : w16.cell? ⟨w.heap.size + 1, 1, none⟩ = some (.int .i64 ay) := bB16.cell 1 rfl
  have lB16 := bB16.lt
  have co0 : w16.cell? ⟨BO, 0, none⟩ = some (.slice A1 ps.length cR) := bO16.cell 0 rfl
  have co1 : w16.cell? ⟨BO, 1, none⟩ = some (.int .i64 cl) := bO16.cell 1 rfl
  have co2 : w16.cell? ⟨BO, 2, none⟩ = some (.int .i64 lo) := bO16.cell 2 rfl
  have co3 : w16.cell? ⟨BO, 3, none⟩ = some (.int .i64 hi) := bO16.cell 3 rfl
  have lO16 := bO16.lt
  go_wp2_with fail
  refine (HWK.out _).mono ?_
  rintro e wz ⟨rfl, hbz⟩
  have hBz := hB16.trans (hbz.mono hB16.size)
  go_wp2_with fail
  go_returns
  exact ⟨rfl, hBz⟩
theorem lawArea_walk (t : Wl.Trk) (A : Option Addr) (c : Nat) (Aw : Option Addr) (cw : Nat) (ws : List (Int × Int)) (ax ay : Int) (w : World) (_h1 : t.ps.length ≤ maxLen) (hP : Prs w w.heap.size A t.ps) (_h2 : ws.length ≤ maxLen) (hQ : Prs w w.heap.size Aw ws) :
    Calls Try.prog 3 #[.agg (trV t A c), .slice Aw ws.length cw, .agg #[.int .i64 ax, .int .i64 ay]] w fun e w' => e = .returned (.bool true) ∧ Below w.heap.size w w' := by
  by_cases h : 40 < t.ps.length ∨ 40 < ws.length
  · exact Ar_early t ws A Aw c cw ax ay w h
  · exact Ar_short t ws A Aw c cw ax ay w hP hQ (by omega) (by omega)

open Go.ChangeShapes Go.WideShapes Go.ChangeAt Go.RowKit Go.Joins
section
variable {H : Type} {enc : TypeId × Value → H} {w : World} {base : Nat} {spare : Nat → Bool} {held : Bool} {r : Reach} {b0 : Nat} {v : Value} {d : DataW H} {p : List MemPlace}
set_option maxRecDepth 100000 in
theorem open_Point (hv : Value.okWide Try.prog w r b0 28 v) (h : DataW.Trod enc Try.prog w base spare held 28 v d p) : ∃ a b : Int, v = .agg #[.int .i64 a, .int .i64 b] := by
  obtain ⟨c0, c1, y0, y1, m, rfl, rfl, rfl, hy0, hy1⟩ := open_agg2 Try.underlying28 (by kernel_rfl) (by kernel_rfl : Try.prog.cellsOf 28 = 2) hv h
  obtain ⟨a, e0, rfl, wa⟩ := DataW.trod_int Try.underlying3 hy0
  obtain ⟨b, e1, rfl, wb⟩ := DataW.trod_int Try.underlying3 hy1
  simp at e0 e1
  subst e0 e1
  exact ⟨a, b, rfl⟩
end

open Go.ChangeShapes Go.WideShapes Go.ChangeAt Go.RowKit Go.Joins

set_option maxRecDepth 100000 in
theorem area5_lifted (os : Os) (started : os.Started) (H : Type) (enc : TypeId × Value → H) :
    ReturnsInHanded {} Try.checked os 3 .any (Rows.walksAreaSpec.pre6 enc Try.prog Try.f3 Rows.walksAreaRow.domain false) (Rows.walksAreaSpec.post enc Try.prog Try.f3 false true false false) := by
  refine returnsInHanded_of_change (C := Try.checked) own started (by kernel_rfl) Try.func3
    (ChangeSpec.witness6 (enc := enc) (C := Try.checked) false ⟨#[], #[.agg #[.slice none 0 0, .int .i64 0, .int .i64 0, .int .i64 0], .slice none 0 0, .agg #[.int .i64 0, .int .i64 0]], []⟩ 8 (by kernel_rfl) (by kernel_rfl) (by kernel_rfl) (by kernel_rfl)) ?_
  intro W base args ds gs before hval0 hW hcnd _
  have hval : ∀ (j : Nat) t v, Try.f3.params[j]? = some t → args[j]? = some v → Value.okWide Try.prog W .any base t v := hval0
  have hW' := hW
  obtain ⟨p, q, hA0, hV, rfl, hfz, hnd⟩ := hW
  have hA : DataW.TrodAll enc Try.prog W 0 (fun _ => true) true Try.f3.params.toList args.toList ds p := hA0
  rw [Try.params3] at hA hval
  obtain ⟨v0, v1, v2, d0, d1, d2, p0, p1, p2, rfl, rfl, rfl, h0, h1, h2⟩ := trodAll_three hA
  obtain ⟨rfl, rfl⟩ := trodVars_none hV
  obtain ⟨t, A, c, rfl, hg_t, hl_t⟩ := open_Track (hval 0 26 v0 rfl rfl) h0
  obtain ⟨Aw, cw, ws, rfl, hg_ws, hl_ws⟩ := open_prs Try.underlying22 Try.underlying28 (by kernel_rfl) (by kernel_rfl) (by kernel_rfl) (by kernel_rfl) (by kernel_rfl) Try.underlying3 Try.underlying3 (hval 1 22 v1 rfl rfl) h1
  obtain ⟨ax, ay, rfl⟩ := open_Point (hval 2 28 v2 rfl rfl) h2
  refine (lawArea_walk t A c Aw cw ws ax ay W hl_t hg_t hl_ws hg_ws).mono fun e W' ⟨he, hb⟩ => ?_
  subst he
  exact ⟨_, rfl, law_post hW' rfl rfl (by intro t ht; have : t = 26 ∨ t = 22 ∨ t = 28 := (by rw [Try.params3] at ht; simpa using ht); rcases this with rfl | rfl | rfl <;> exact ⟨by kernel_rfl, of_decide_eq_true (by kernel_rfl)⟩) rfl rfl rfl hb⟩

theorem area5_holds : Rows.WalksAreaSaid :=
  OpenClaim.holds_of_wide 3 Try.f3 rfl rfl rfl rfl rfl rfl rfl ⟨rfl, rfl, rfl, rfl, rfl⟩ rfl rfl rfl rfl rfl (by kernel_rfl) Try.func3 (by kernel_rfl)
    (of_decide_eq_true (by kernel_rfl)) (by unfold Func.isWrapper; rw [if_neg (of_decide_eq_false (by kernel_rfl))]; exact ⟨rfl, rfl⟩)
    (fun os started H enc _ => area5_lifted os started H enc)
end Go.Proofs.Ytmjcdggmofohcaa
