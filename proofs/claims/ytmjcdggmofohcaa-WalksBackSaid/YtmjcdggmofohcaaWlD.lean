/- Walks: what the program calls valid. -/
import Derived.Test.YtmjcdggmofohcaaWlA
namespace Go.Proofs.Ytmjcdggmofohcaa
open Go.RowKit
theorem withinW_any (n l h : Int) (w : World) : Calls Try.prog 80 #[.int .i64 n, .int .i64 l, .int .i64 h] w fun e w' => e = .returned (.bool (inB n l h)) ∧ w' = w := by
  go_enter Try.func80, Try.ntmps80
  go_wp2
  all_goals
    go_ret
    refine ⟨ret_b ?_, rfl⟩
    rw [Bool.eq_iff_iff]
    simp [inB]
    try omega
theorem validPointW_any (x y : Int) (w : World) :
    Calls Try.prog 54 #[.agg #[.int .i64 x, .int .i64 y]] w fun e w' => e = .returned (.bool (Geo.ptB (x, y))) ∧ Below w.heap.size w w' := by
  have HO : Hid (Geo.ptB (x, y) = (inB x (-200) 200 && inB y (-200) 200)) := rfl
  generalize Geo.ptB (x, y) = V at *
  cases hX : inB x (-200) 200
  · have HX := Lib.hid hX
    clear hX
    go_enter Try.func54, Try.ntmps54
    go_wp2_with fail
    refine (withinW_any _ _ _ _).mono ?_
    rintro e w1 ⟨rfl, rfl⟩
    rw [HX.out]
    go_wp2_with fail
    go_returns
    exact ⟨ret_b (by rw [HO.out, HX.out]; rfl), by (repeat' (first | (with_reducible exact Below.refl _ _) | (with_reducible assumption) | (with_reducible refine Below.alloc ?_ ?_ _) | (with_reducible refine below_drewN ?_ _) | (with_reducible refine Below.drew ?_) | (with_reducible refine Below.setCell ?_ ?_ _) | go_size))⟩
  · have HX := Lib.hid hX
    clear hX
    go_enter Try.func54, Try.ntmps54
    go_wp2_with fail
    refine (withinW_any _ _ _ _).mono ?_
    rintro e w1 ⟨rfl, rfl⟩
    rw [HX.out]
    go_wp2_with fail
    refine (withinW_any _ _ _ _).mono ?_
    rintro e w1 ⟨rfl, rfl⟩
    go_wp2_with fail
    go_returns
    exact ⟨ret_b (by rw [HO.out, HX.out]; rfl), by (repeat' (first | (with_reducible exact Below.refl _ _) | (with_reducible assumption) | (with_reducible refine Below.alloc ?_ ?_ _) | (with_reducible refine below_drewN ?_ _) | (with_reducible refine Below.drew ?_) | (with_reducible refine Below.setCell ?_ ?_ _) | go_size))⟩
set_option maxRecDepth 100000 in
set_option maxHeartbeats 8000000 in
theorem validPointsW_any (A : Option Addr) (c : Nat) (ps : List Wl.Pt) (hl : ps.length ≤ 1000000000) (w : World) (hP : Prs w w.heap.size A ps) :
    Calls Try.prog 81 #[.slice A ps.length c] w fun e w' => e = .returned (.bool (Wl.ptsTo ps ps.length)) ∧ Below w.heap.size w w' := by
  have HP := Lib.hid hP
  have HS0 : Hid (∀ k, Wl.ptsTo ps (k + 1) = (Wl.ptsTo ps k && Geo.ptB (Wl.ptAt ps k))) := fun _ => rfl
  have H0 : Hid (Wl.ptsTo ps 0 = true) := rfl
  have HNO : Hid (∀ k, k < ps.length → Geo.ptB (Wl.ptAt ps k) = false → Wl.ptsTo ps ps.length = false) := fun k hk h => Wl.ptsTo_no h _ hk
  generalize Wl.ptsTo ps = PT at *
  clear hP
  go_enter Try.func81, Try.ntmps81
  go_wp2_with fail
  go_loopw [7] (fun x wr => ∃ k : Nat, (k : Int) ≤ ps.length ∧ x = .int .i64 (k : Int) ∧ Hid (PT k = true) ∧ Below w.heap.size w wr) (fun x _ => (ps.length - intOf x).toNat)
  case atStart => exact ⟨0, by omega, rfl, H0, Below.refl _ _⟩
  case round =>
    obtain ⟨k, hk, rfl, hall, hB⟩ := hrel
    have hk0 := Int.natCast_nonneg k
    by_cases hlt : (k : Int) < ps.length
    · have hkn : k < ps.length := by omega
      have hPk : ps[k]? = some (Wl.ptAt ps k) := by unfold Wl.ptAt; rw [List.getElem?_eq_getElem hkn]; rfl
      obtain ⟨bp, op, rfl, hbp, hcp⟩ := HP.out (by omega)
      obtain ⟨h0, h1⟩ := hcp k _ hPk
      have a0 := (hB.cell (p := ⟨bp, _, none⟩) hbp).trans h0
      have a1 := (hB.cell (p := ⟨bp, _, none⟩) hbp).trans h1
      have HS := Lib.hid (HS0.out k)
      have HN := Lib.hid (HNO.out k hkn)
      have hw1 : IntKind.i64.wrap ((k : Int) + 1) = (k : Int) + 1 := IntWalk.i64_in _ (by omega)
      have hbr : bp < wr.heap.size := by have := hB.size; omega
      clear hcp hPk h0 h1 HNO
      generalize Wl.ptAt ps k = q at *
      obtain ⟨q1, q2⟩ := q
      dsimp only at a0 a1
      have HI : Hid (∀ W, Calls Try.prog 54 #[.agg #[.int .i64 q1, .int .i64 q2]] W fun e w' => e = .returned (.bool (Geo.ptB (q1, q2))) ∧ Below W.heap.size W w') := fun W => validPointW_any q1 q2 W
      have hBa : Below w.heap.size w (wr.alloc (.cells #[.int .i64 q1, .int .i64 q2] 28)) := hB.alloc hB.size _
      cases hb : Geo.ptB (q1, q2)
      · rw [hb] at HI
        have HR : Hid (PT ps.length = false) := HN.out hb
        clear hb
        go_wp2_with fail
        refine (HI.out _).mono ?_
        rintro e w2 ⟨rfl, hb2⟩
        have hB2 := hBa.trans (hb2.mono hBa.size)
        go_wp2_with fail
        go_returns
        exact ⟨by rw [HR.out]; rfl, hB2⟩
      · rw [hb] at HI
        have HS2 : Hid (PT (k + 1) = true) := by unfold Hid; rw [HS.out, hall.out, hb]; rfl
        clear hb
        go_wp2_with fail
        refine (HI.out _).mono ?_
        rintro e w2 ⟨rfl, hb2⟩
        have hB2 := hBa.trans (hb2.mono hBa.size)
        go_wp2_with fail
        go_roundw
        case rel => exact ⟨k + 1, by omega, by go_num, HS2, hB2⟩
        case measure => simp [intOf]; omega
    · have e : k = ps.length := by omega
      have HR : Hid (PT ps.length = true) := by unfold Hid; rw [← e]; exact hall.out
      clear e
      go_wp2_with fail
      go_returns
      exact ⟨by rw [HR.out]; rfl, hB⟩
set_option maxRecDepth 100000 in
set_option maxHeartbeats 8000000 in
theorem validWalkW_any (A : Option Addr) (c : Nat) (ps : List Wl.Pt) (hl : ps.length ≤ 1000000000) (w : World) (hP : Prs w w.heap.size A ps) :
    Calls Try.prog 50 #[.slice A ps.length c] w fun e w' => e = .returned (.bool (Wl.ptsB ps)) ∧ Below w.heap.size w w' := by
  have HA := Lib.hid (validPointsW_any A c ps hl w hP)
  have HW : Hid (∀ W, Calls Try.prog 80 #[.int .i64 (ps.length : Nat), .int .i64 1, .int .i64 8] W fun e w' => e = .returned (.bool (inB ps.length 1 8)) ∧ w' = W) := fun W => withinW_any _ 1 8 W
  have HR : Hid (Wl.ptsB ps = (Wl.ptsTo ps ps.length && inB ps.length 1 8)) := rfl
  generalize Wl.ptsB ps = R at *
  generalize Wl.ptsTo ps ps.length = bp at *
  generalize inB ps.length 1 8 = bl at *
  clear hP
  cases bl
  · go_enter Try.func50, Try.ntmps50
    go_wp2_with fail
    refine (HW.out _).mono ?_
    rintro e wq ⟨rfl, hq⟩
    have hq := hq.symm
    subst hq
    go_wp2_with fail
    go_returns
    exact ⟨by rw [HR.out, Bool.and_false]; rfl, Below.refl _ _⟩
  · go_enter Try.func50, Try.ntmps50
    go_wp2_with fail
    refine (HW.out _).mono ?_
    rintro e wq ⟨rfl, hq⟩
    have hq := hq.symm
    subst hq
    go_wp2_with fail
    refine HA.out.mono ?_
    rintro e w2 ⟨rfl, hb2⟩
    go_wp2_with fail
    go_returns
    exact ⟨by rw [HR.out, Bool.and_true]; rfl, hb2⟩
set_option maxRecDepth 100000 in
set_option maxHeartbeats 8000000 in
theorem validTrackW_any (t : Wl.Trk) (A : Option Addr) (c : Nat) (hl : t.ps.length ≤ 1000000000) (w : World) (hP : Prs w w.heap.size A t.ps) :
    Calls Try.prog 49 #[.agg (trV t A c)] w fun e w' => e = .returned (.bool (Wl.trkB t)) ∧ Below w.heap.size w w' := by
  obtain ⟨ps, cl, lo, hi⟩ := t
  unfold trV
  dsimp only at *
  have HA : Hid (∀ W, Below w.heap.size w W → Calls Try.prog 81 #[.slice A ps.length c] W fun e w' => e = .returned (.bool (Wl.ptsTo ps ps.length)) ∧ Below W.heap.size W w') := fun W hW => validPointsW_any A c ps hl W (prs_keep hP hW)
  have H0 : Hid (∀ W, Calls Try.prog 80 #[.int .i64 (ps.length : Nat), .int .i64 1, .int .i64 8] W fun e w' => e = .returned (.bool (inB ps.length 1 8)) ∧ w' = W) := fun W => withinW_any _ _ _ W
  have H1 : Hid (∀ W, Calls Try.prog 80 #[.int .i64 cl, .int .i64 0, .int .i64 1] W fun e w' => e = .returned (.bool (inB cl 0 1)) ∧ w' = W) := fun W => withinW_any _ _ _ W
  have H4 : Hid (∀ W, Calls Try.prog 80 #[.int .i64 lo, .int .i64 0, .int .i64 hi] W fun e w' => e = .returned (.bool (inB lo 0 hi)) ∧ w' = W) := fun W => withinW_any _ _ _ W
  have hcl : inB cl 0 1 = true → cl ≠ 1 → cl = 0 := fun h h2 => by
    unfold inB at h
    simp only [Bool.and_eq_true, decide_eq_true_eq] at h
    omega
  have HR0 : Hid (Wl.trkB ⟨ps, cl, lo, hi⟩ = (((((Wl.ptsTo ps ps.length && inB ps.length 1 8) && inB cl 0 1) && (decide (cl = 0) || decide (3 ≤ (ps.length : Int)))) && inB lo 0 hi) && decide (hi ≤ 320000))) := rfl
  generalize Wl.trkB ⟨ps, cl, lo, hi⟩ = R at *
  generalize Wl.ptsTo ps ps.length = bp at *
  generalize inB ps.length 1 8 = bl at *
  generalize inB cl 0 1 = b1 at *
  generalize inB lo 0 hi = b4 at *
  have HCL := Lib.hid hcl
  clear hP hl hcl
  cases bl with
  | false =>
    have HR : Hid (R = false) := by unfold Hid; rw [HR0.out]; simp []
    clear HR0
    go_enter Try.func49, Try.ntmps49
    go_wp2_with fail
    have bS1 := BoxS.new w 26 #[.slice A ps.length c, .int .i64 cl, .int .i64 lo, .int .i64 hi]
    have hB1 : Below w.heap.size w (w.alloc (.cells #[.slice A ps.length c, .int .i64 cl, .int .i64 lo, .int .i64 hi] 26)) := by (repeat' (first | (with_reducible exact Below.refl _ _) | (with_reducible assumption) | (with_reducible refine Below.alloc ?_ ?_ _) | (with_reducible refine Below.drew ?_) | (with_reducible refine Below.setCell ?_ ?_ _) | go_size | (exact (by simp)) | omega))
    generalize World.alloc w _ = w1 at *
    obtain ⟨s0, s1, s2, s3⟩ := boxS4 bS1
    have lS := bS1.lt
    go_wp2_with fail
    refine (H0.out _).mono ?_
    rintro e wq ⟨rfl, hq⟩
    have hq := hq.symm
    subst hq
    go_wp2_with fail
    go_returns
    exact ⟨by rw [HR.out]; rfl, hB1⟩
  | true =>
    cases b1 with
    | false =>
      have HR : Hid (R = false) := by unfold Hid; rw [HR0.out]; simp []
      clear HR0
      go_enter Try.func49, Try.ntmps49
      go_wp2_with fail
      have bS1 := BoxS.new w 26 #[.slice A ps.length c, .int .i64 cl, .int .i64 lo, .int .i64 hi]
      have hB1 : Below w.heap.size w (w.alloc (.cells #[.slice A ps.length c, .int .i64 cl, .int .i64 lo, .int .i64 hi] 26)) := by (repeat' (first | (with_reducible exact Below.refl _ _) | (with_reducible assumption) | (with_reducible refine Below.alloc ?_ ?_ _) | (with_reducible refine Below.drew ?_) | (with_reducible refine Below.setCell ?_ ?_ _) | go_size | (exact (by simp)) | omega))
      generalize World.alloc w _ = w1 at *
      obtain ⟨s0, s1, s2, s3⟩ := boxS4 bS1
      have lS := bS1.lt
      go_wp2_with fail
      refine (H0.out _).mono ?_
      rintro e wq ⟨rfl, hq⟩
      have hq := hq.symm
      subst hq
      go_wp2_with fail
      refine (H1.out _).mono ?_
      rintro e wq ⟨rfl, hq⟩
      have hq := hq.symm
      subst hq
      go_wp2_with fail
      go_returns
      exact ⟨by rw [HR.out]; rfl, hB1⟩
    | true =>
      by_cases hc : cl = 1
      · have hcb : (cl == 1) = true := by simpa using hc
        have hcz : ¬ cl = 0 := by omega
        clear hc
        by_cases h3 : ps.length < 3
        · have h3i : (ps.length : Int) < 3 := by omega
          have h3j : ¬ (3 : Int) ≤ (ps.length : Int) := by omega
          have h3k : ¬ 3 ≤ ps.length := by omega
          have h3d : decide ((ps.length : Int) < 3) = true := decide_eq_true h3i
          have HR : Hid (R = false) := by unfold Hid; rw [HR0.out]; simp [hcz, h3j, h3k]
          clear HR0
          go_enter Try.func49, Try.ntmps49
          go_wp2_with fail
          have bS1 := BoxS.new w 26 #[.slice A ps.length c, .int .i64 cl, .int .i64 lo, .int .i64 hi]
          have hB1 : Below w.heap.size w (w.alloc (.cells #[.slice A ps.length c, .int .i64 cl, .int .i64 lo, .int .i64 hi] 26)) := by (repeat' (first | (with_reducible exact Below.refl _ _) | (with_reducible assumption) | (with_reducible refine Below.alloc ?_ ?_ _) | (with_reducible refine Below.drew ?_) | (with_reducible refine Below.setCell ?_ ?_ _) | go_size | (exact (by simp)) | omega))
          generalize World.alloc w _ = w1 at *
          obtain ⟨s0, s1, s2, s3⟩ := boxS4 bS1
          have lS := bS1.lt
          go_wp2_with fail
          refine (H0.out _).mono ?_
          rintro e wq ⟨rfl, hq⟩
          have hq := hq.symm
          subst hq
          go_wp2_with fail
          refine (H1.out _).mono ?_
          rintro e wq ⟨rfl, hq⟩
          have hq := hq.symm
          subst hq
          go_wp2_with fail
          go_returns
          exact ⟨by rw [HR.out]; rfl, hB1⟩
        · have h3i : ¬ (ps.length : Int) < 3 := by omega
          have h3j : (3 : Int) ≤ (ps.length : Int) := by omega
          have h3k : 3 ≤ ps.length := by omega
          have h3d : decide ((ps.length : Int) < 3) = false := decide_eq_false h3i
          cases bp with
          | false =>
            have HR : Hid (R = false) := by unfold Hid; rw [HR0.out]; simp []
            clear HR0
            go_enter Try.func49, Try.ntmps49
            go_wp2_with fail
            have bS1 := BoxS.new w 26 #[.slice A ps.length c, .int .i64 cl, .int .i64 lo, .int .i64 hi]
            have hB1 : Below w.heap.size w (w.alloc (.cells #[.slice A ps.length c, .int .i64 cl, .int .i64 lo, .int .i64 hi] 26)) := by (repeat' (first | (with_reducible exact Below.refl _ _) | (with_reducible assumption) | (with_reducible refine Below.alloc ?_ ?_ _) | (with_reducible refine Below.drew ?_) | (with_reducible refine Below.setCell ?_ ?_ _) | go_size | (exact (by simp)) | omega))
            generalize World.alloc w _ = w1 at *
            obtain ⟨s0, s1, s2, s3⟩ := boxS4 bS1
            have lS := bS1.lt
            go_wp2_with fail
            refine (H0.out _).mono ?_
            rintro e wq ⟨rfl, hq⟩
            have hq := hq.symm
            subst hq
            go_wp2_with fail
            refine (H1.out _).mono ?_
            rintro e wq ⟨rfl, hq⟩
            have hq := hq.symm
            subst hq
            go_wp2_with fail
            refine (HA.out _ hB1).mono ?_
            rintro e w2 ⟨rfl, hb2⟩
            have bS2 := bS1.below hb2
            have hB2 := hB1.trans (hb2.mono hB1.size)
            clear s0 s1 s2 s3 lS bS1 hb2 hB1
            obtain ⟨s0, s1, s2, s3⟩ := boxS4 bS2
            have lS := bS2.lt
            go_wp2_with fail
            go_returns
            exact ⟨by rw [HR.out]; rfl, hB2⟩
          | true =>
            cases b4 with
            | false =>
              have HR : Hid (R = false) := by unfold Hid; rw [HR0.out]; simp []
              clear HR0
              go_enter Try.func49, Try.ntmps49
              go_wp2_with fail
              have bS1 := BoxS.new w 26 #[.slice A ps.length c, .int .i64 cl, .int .i64 lo, .int .i64 hi]
              have hB1 : Below w.heap.size w (w.alloc (.cells #[.slice A ps.length c, .int .i64 cl, .int .i64 lo, .int .i64 hi] 26)) := by (repeat' (first | (with_reducible exact Below.refl _ _) | (with_reducible assumption) | (with_reducible refine Below.alloc ?_ ?_ _) | (with_reducible refine Below.drew ?_) | (with_reducible refine Below.setCell ?_ ?_ _) | go_size | (exact (by simp)) | omega))
              generalize World.alloc w _ = w1 at *
              obtain ⟨s0, s1, s2, s3⟩ := boxS4 bS1
              have lS := bS1.lt
              go_wp2_with fail
              refine (H0.out _).mono ?_
              rintro e wq ⟨rfl, hq⟩
              have hq := hq.symm
              subst hq
              go_wp2_with fail
              refine (H1.out _).mono ?_
              rintro e wq ⟨rfl, hq⟩
              have hq := hq.symm
              subst hq
              go_wp2_with fail
              refine (HA.out _ hB1).mono ?_
              rintro e w2 ⟨rfl, hb2⟩
              have bS2 := bS1.below hb2
              have hB2 := hB1.trans (hb2.mono hB1.size)
              clear s0 s1 s2 s3 lS bS1 hb2 hB1
              obtain ⟨s0, s1, s2, s3⟩ := boxS4 bS2
              have lS := bS2.lt
              go_wp2_with fail
              refine (H4.out _).mono ?_
              rintro e wq ⟨rfl, hq⟩
              have hq := hq.symm
              subst hq
              go_wp2_with fail
              go_returns
              exact ⟨by rw [HR.out]; rfl, hB2⟩
            | true =>
              by_cases hd : hi ≤ 320000
              · have dd : decide (hi ≤ 320000) = true := decide_eq_true hd
                have HR : Hid (R = true) := by unfold Hid; rw [HR0.out]; simp [h3j, h3k, hd]
                clear HR0
                go_enter Try.func49, Try.ntmps49
                go_wp2_with fail
                have bS1 := BoxS.new w 26 #[.slice A ps.length c, .int .i64 cl, .int .i64 lo, .int .i64 hi]
                have hB1 : Below w.heap.size w (w.alloc (.cells #[.slice A ps.length c, .int .i64 cl, .int .i64 lo, .int .i64 hi] 26)) := by (repeat' (first | (with_reducible exact Below.refl _ _) | (with_reducible assumption) | (with_reducible refine Below.alloc ?_ ?_ _) | (with_reducible refine Below.drew ?_) | (with_reducible refine Below.setCell ?_ ?_ _) | go_size | (exact (by simp)) | omega))
                generalize World.alloc w _ = w1 at *
                obtain ⟨s0, s1, s2, s3⟩ := boxS4 bS1
                have lS := bS1.lt
                go_wp2_with fail
                refine (H0.out _).mono ?_
                rintro e wq ⟨rfl, hq⟩
                have hq := hq.symm
                subst hq
                go_wp2_with fail
                refine (H1.out _).mono ?_
                rintro e wq ⟨rfl, hq⟩
                have hq := hq.symm
                subst hq
                go_wp2_with fail
                refine (HA.out _ hB1).mono ?_
                rintro e w2 ⟨rfl, hb2⟩
                have bS2 := bS1.below hb2
                have hB2 := hB1.trans (hb2.mono hB1.size)
                clear s0 s1 s2 s3 lS bS1 hb2 hB1
                obtain ⟨s0, s1, s2, s3⟩ := boxS4 bS2
                have lS := bS2.lt
                go_wp2_with fail
                refine (H4.out _).mono ?_
                rintro e wq ⟨rfl, hq⟩
                have hq := hq.symm
                subst hq
                go_wp2_with fail
                go_returns
                exact ⟨by rw [HR.out]; rfl, hB2⟩
              · have dd : decide (hi ≤ 320000) = false := decide_eq_false hd
                have HR : Hid (R = false) := by unfold Hid; rw [HR0.out]; simp [hd]
                clear HR0
                go_enter Try.func49, Try.ntmps49
                go_wp2_with fail
                have bS1 := BoxS.new w 26 #[.slice A ps.length c, .int .i64 cl, .int .i64 lo, .int .i64 hi]
                have hB1 : Below w.heap.size w (w.alloc (.cells #[.slice A ps.length c, .int .i64 cl, .int .i64 lo, .int .i64 hi] 26)) := by (repeat' (first | (with_reducible exact Below.refl _ _) | (with_reducible assumption) | (with_reducible refine Below.alloc ?_ ?_ _) | (with_reducible refine Below.drew ?_) | (with_reducible refine Below.setCell ?_ ?_ _) | go_size | (exact (by simp)) | omega))
                generalize World.alloc w _ = w1 at *
                obtain ⟨s0, s1, s2, s3⟩ := boxS4 bS1
                have lS := bS1.lt
                go_wp2_with fail
                refine (H0.out _).mono ?_
                rintro e wq ⟨rfl, hq⟩
                have hq := hq.symm
                subst hq
                go_wp2_with fail
                refine (H1.out _).mono ?_
                rintro e wq ⟨rfl, hq⟩
                have hq := hq.symm
                subst hq
                go_wp2_with fail
                refine (HA.out _ hB1).mono ?_
                rintro e w2 ⟨rfl, hb2⟩
                have bS2 := bS1.below hb2
                have hB2 := hB1.trans (hb2.mono hB1.size)
                clear s0 s1 s2 s3 lS bS1 hb2 hB1
                obtain ⟨s0, s1, s2, s3⟩ := boxS4 bS2
                have lS := bS2.lt
                go_wp2_with fail
                refine (H4.out _).mono ?_
                rintro e wq ⟨rfl, hq⟩
                have hq := hq.symm
                subst hq
                go_wp2_with fail
                go_returns
                exact ⟨by rw [HR.out]; rfl, hB2⟩
      · have hcb : (cl == 1) = false := by simpa using hc
        have hcz := HCL.out rfl hc
        have hcd : decide (cl = 0) = true := decide_eq_true hcz
        clear hc hcz
        cases bp with
        | false =>
          have HR : Hid (R = false) := by unfold Hid; rw [HR0.out]; simp []
          clear HR0
          go_enter Try.func49, Try.ntmps49
          go_wp2_with fail
          have bS1 := BoxS.new w 26 #[.slice A ps.length c, .int .i64 cl, .int .i64 lo, .int .i64 hi]
          have hB1 : Below w.heap.size w (w.alloc (.cells #[.slice A ps.length c, .int .i64 cl, .int .i64 lo, .int .i64 hi] 26)) := by (repeat' (first | (with_reducible exact Below.refl _ _) | (with_reducible assumption) | (with_reducible refine Below.alloc ?_ ?_ _) | (with_reducible refine Below.drew ?_) | (with_reducible refine Below.setCell ?_ ?_ _) | go_size | (exact (by simp)) | omega))
          generalize World.alloc w _ = w1 at *
          obtain ⟨s0, s1, s2, s3⟩ := boxS4 bS1
          have lS := bS1.lt
          go_wp2_with fail
          refine (H0.out _).mono ?_
          rintro e wq ⟨rfl, hq⟩
          have hq := hq.symm
          subst hq
          go_wp2_with fail
          refine (H1.out _).mono ?_
          rintro e wq ⟨rfl, hq⟩
          have hq := hq.symm
          subst hq
          go_wp2_with fail
          refine (HA.out _ hB1).mono ?_
          rintro e w2 ⟨rfl, hb2⟩
          have bS2 := bS1.below hb2
          have hB2 := hB1.trans (hb2.mono hB1.size)
          clear s0 s1 s2 s3 lS bS1 hb2 hB1
          obtain ⟨s0, s1, s2, s3⟩ := boxS4 bS2
          have lS := bS2.lt
          go_wp2_with fail
          go_returns
          exact ⟨by rw [HR.out]; rfl, hB2⟩
        | true =>
          cases b4 with
          | false =>
            have HR : Hid (R = false) := by unfold Hid; rw [HR0.out]; simp []
            clear HR0
            go_enter Try.func49, Try.ntmps49
            go_wp2_with fail
            have bS1 := BoxS.new w 26 #[.slice A ps.length c, .int .i64 cl, .int .i64 lo, .int .i64 hi]
            have hB1 : Below w.heap.size w (w.alloc (.cells #[.slice A ps.length c, .int .i64 cl, .int .i64 lo, .int .i64 hi] 26)) := by (repeat' (first | (with_reducible exact Below.refl _ _) | (with_reducible assumption) | (with_reducible refine Below.alloc ?_ ?_ _) | (with_reducible refine Below.drew ?_) | (with_reducible refine Below.setCell ?_ ?_ _) | go_size | (exact (by simp)) | omega))
            generalize World.alloc w _ = w1 at *
            obtain ⟨s0, s1, s2, s3⟩ := boxS4 bS1
            have lS := bS1.lt
            go_wp2_with fail
            refine (H0.out _).mono ?_
            rintro e wq ⟨rfl, hq⟩
            have hq := hq.symm
            subst hq
            go_wp2_with fail
            refine (H1.out _).mono ?_
            rintro e wq ⟨rfl, hq⟩
            have hq := hq.symm
            subst hq
            go_wp2_with fail
            refine (HA.out _ hB1).mono ?_
            rintro e w2 ⟨rfl, hb2⟩
            have bS2 := bS1.below hb2
            have hB2 := hB1.trans (hb2.mono hB1.size)
            clear s0 s1 s2 s3 lS bS1 hb2 hB1
            obtain ⟨s0, s1, s2, s3⟩ := boxS4 bS2
            have lS := bS2.lt
            go_wp2_with fail
            refine (H4.out _).mono ?_
            rintro e wq ⟨rfl, hq⟩
            have hq := hq.symm
            subst hq
            go_wp2_with fail
            go_returns
            exact ⟨by rw [HR.out]; rfl, hB2⟩
          | true =>
            by_cases hd : hi ≤ 320000
            · have dd : decide (hi ≤ 320000) = true := decide_eq_true hd
              have HR : Hid (R = true) := by unfold Hid; rw [HR0.out]; simp [hcd, hd]
              clear HR0
              go_enter Try.func49, Try.ntmps49
              go_wp2_with fail
              have bS1 := BoxS.new w 26 #[.slice A ps.length c, .int .i64 cl, .int .i64 lo, .int .i64 hi]
              have hB1 : Below w.heap.size w (w.alloc (.cells #[.slice A ps.length c, .int .i64 cl, .int .i64 lo, .int .i64 hi] 26)) := by (repeat' (first | (with_reducible exact Below.refl _ _) | (with_reducible assumption) | (with_reducible refine Below.alloc ?_ ?_ _) | (with_reducible refine Below.drew ?_) | (with_reducible refine Below.setCell ?_ ?_ _) | go_size | (exact (by simp)) | omega))
              generalize World.alloc w _ = w1 at *
              obtain ⟨s0, s1, s2, s3⟩ := boxS4 bS1
              have lS := bS1.lt
              go_wp2_with fail
              refine (H0.out _).mono ?_
              rintro e wq ⟨rfl, hq⟩
              have hq := hq.symm
              subst hq
              go_wp2_with fail
              refine (H1.out _).mono ?_
              rintro e wq ⟨rfl, hq⟩
              have hq := hq.symm
              subst hq
              go_wp2_with fail
              refine (HA.out _ hB1).mono ?_
              rintro e w2 ⟨rfl, hb2⟩
              have bS2 := bS1.below hb2
              have hB2 := hB1.trans (hb2.mono hB1.size)
              clear s0 s1 s2 s3 lS bS1 hb2 hB1
              obtain ⟨s0, s1, s2, s3⟩ := boxS4 bS2
              have lS := bS2.lt
              go_wp2_with fail
              refine (H4.out _).mono ?_
              rintro e wq ⟨rfl, hq⟩
              have hq := hq.symm
              subst hq
              go_wp2_with fail
              go_returns
              exact ⟨by rw [HR.out]; rfl, hB2⟩
            · have dd : decide (hi ≤ 320000) = false := decide_eq_false hd
              have HR : Hid (R = false) := by unfold Hid; rw [HR0.out]; simp [hd]
              clear HR0
              go_enter Try.func49, Try.ntmps49
              go_wp2_with fail
              have bS1 := BoxS.new w 26 #[.slice A ps.length c, .int .i64 cl, .int .i64 lo, .int .i64 hi]
              have hB1 : Below w.heap.size w (w.alloc (.cells #[.slice A ps.length c, .int .i64 cl, .int .i64 lo, .int .i64 hi] 26)) := by (repeat' (first | (with_reducible exact Below.refl _ _) | (with_reducible assumption) | (with_reducible refine Below.alloc ?_ ?_ _) | (with_reducible refine Below.drew ?_) | (with_reducible refine Below.setCell ?_ ?_ _) | go_size | (exact (by simp)) | omega))
              generalize World.alloc w _ = w1 at *
              obtain ⟨s0, s1, s2, s3⟩ := boxS4 bS1
              have lS := bS1.lt
              go_wp2_with fail
              refine (H0.out _).mono ?_
              rintro e wq ⟨rfl, hq⟩
              have hq := hq.symm
              subst hq
              go_wp2_with fail
              refine (H1.out _).mono ?_
              rintro e wq ⟨rfl, hq⟩
              have hq := hq.symm
              subst hq
              go_wp2_with fail
              refine (HA.out _ hB1).mono ?_
              rintro e w2 ⟨rfl, hb2⟩
              have bS2 := bS1.below hb2
              have hB2 := hB1.trans (hb2.mono hB1.size)
              clear s0 s1 s2 s3 lS bS1 hb2 hB1
              obtain ⟨s0, s1, s2, s3⟩ := boxS4 bS2
              have lS := bS2.lt
              go_wp2_with fail
              refine (H4.out _).mono ?_
              rintro e wq ⟨rfl, hq⟩
              have hq := hq.symm
              subst hq
              go_wp2_with fail
              go_returns
              exact ⟨by rw [HR.out]; rfl, hB2⟩
set_option maxRecDepth 100000 in
set_option maxHeartbeats 8000000 in
theorem CheckW_any (t : Wl.Trk) (ws : List Wl.Pt) (A B : Option Addr) (c d : Nat) (hl : t.ps.length ≤ 1000000000) (hlw : ws.length ≤ 1000000000) (w : World) (hP : Prs w w.heap.size A t.ps) (hQ : Prs w w.heap.size B ws) :
    Calls Try.prog 14 #[.agg (trV t A c), .slice B ws.length d] w (ErrPost (Wl.chkV t ws) w) := by
  have HT : Hid (∀ W, Below w.heap.size w W → Calls Try.prog 49 #[.agg (trV t A c)] W fun e w' => e = .returned (.bool (Wl.trkB t)) ∧ Below W.heap.size W w') := fun W hW => validTrackW_any t A c hl W (prs_keep hP hW)
  have HW : Hid (∀ W, Below w.heap.size w W → Calls Try.prog 50 #[.slice B ws.length d] W fun e w' => e = .returned (.bool (Wl.ptsB ws)) ∧ Below W.heap.size W w') := fun W hW => validWalkW_any B d ws hlw W (prs_keep hQ hW)
  have HR : Hid (Wl.chkV t ws = if Wl.trkB t then (if Wl.ptsB ws then 0 else 51) else 50) := rfl
  generalize Wl.chkV t ws = R at *
  generalize Wl.trkB t = bt at *
  generalize Wl.ptsB ws = bw at *
  clear hP hQ hl hlw
  obtain ⟨ps, cl, lo, hi⟩ := t
  unfold trV at *
  dsimp only at *
  cases bt with
  | false =>
    go_enter Try.func14, Try.ntmps14
    go_wp2_with fail
    have hB1 : Below w.heap.size w (w.alloc (.cells #[.slice A ps.length c, .int .i64 cl, .int .i64 lo, .int .i64 hi] 26)) := by (repeat' (first | (with_reducible exact Below.refl _ _) | (with_reducible assumption) | (with_reducible refine Below.alloc ?_ ?_ _) | (with_reducible refine Below.drew ?_) | (with_reducible refine Below.setCell ?_ ?_ _) | go_size | (exact (by simp)) | omega))
    generalize World.alloc w _ = w1 at *
    refine (HT.out _ hB1).mono ?_
    rintro e w2 ⟨rfl, hb2⟩
    have hB2 := hB1.trans (hb2.mono hB1.size)
    clear hb2 hB1
    go_wp2_with fail
    go_returns
    exact ⟨by rw [HR.out]; rfl, hB2⟩
  | true =>
    cases bw with
    | false =>
      go_enter Try.func14, Try.ntmps14
      go_wp2_with fail
      have hB1 : Below w.heap.size w (w.alloc (.cells #[.slice A ps.length c, .int .i64 cl, .int .i64 lo, .int .i64 hi] 26)) := by (repeat' (first | (with_reducible exact Below.refl _ _) | (with_reducible assumption) | (with_reducible refine Below.alloc ?_ ?_ _) | (with_reducible refine Below.drew ?_) | (with_reducible refine Below.setCell ?_ ?_ _) | go_size | (exact (by simp)) | omega))
      generalize World.alloc w _ = w1 at *
      refine (HT.out _ hB1).mono ?_
      rintro e w2 ⟨rfl, hb2⟩
      have hB2 := hB1.trans (hb2.mono hB1.size)
      clear hb2 hB1
      go_wp2_with fail
      refine (HW.out _ hB2).mono ?_
      rintro e w3 ⟨rfl, hb3⟩
      have hB3 := hB2.trans (hb3.mono hB2.size)
      go_wp2_with fail
      go_returns
      exact ⟨by rw [HR.out]; rfl, hB3⟩
    | true =>
      go_enter Try.func14, Try.ntmps14
      go_wp2_with fail
      have hB1 : Below w.heap.size w (w.alloc (.cells #[.slice A ps.length c, .int .i64 cl, .int .i64 lo, .int .i64 hi] 26)) := by (repeat' (first | (with_reducible exact Below.refl _ _) | (with_reducible assumption) | (with_reducible refine Below.alloc ?_ ?_ _) | (with_reducible refine Below.drew ?_) | (with_reducible refine Below.setCell ?_ ?_ _) | go_size | (exact (by simp)) | omega))
      generalize World.alloc w _ = w1 at *
      refine (HT.out _ hB1).mono ?_
      rintro e w2 ⟨rfl, hb2⟩
      have hB2 := hB1.trans (hb2.mono hB1.size)
      clear hb2 hB1
      go_wp2_with fail
      refine (HW.out _ hB2).mono ?_
      rintro e w3 ⟨rfl, hb3⟩
      have hB3 := hB2.trans (hb3.mono hB2.size)
      go_wp2_with fail
      go_returns
      exact ⟨by rw [HR.out]; rfl, hB3⟩
end Go.Proofs.Ytmjcdggmofohcaa
