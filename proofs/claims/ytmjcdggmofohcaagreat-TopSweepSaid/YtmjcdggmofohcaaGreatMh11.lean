/- Texts of this proof, one behind the other: WlD, WlE, WlS, WlH. Each says its own conditions. -/
import Derived.Test.YtmjcdggmofohcaaGreatMh04
import Derived.Test.YtmjcdggmofohcaaGreatMh09
import Derived.Test.YtmjcdggmofohcaaGreatMh10
import Derived.Deep.Onto
namespace Go.Proofs.YtmjcdggmofohcaaGreat
open Go.RowKit
theorem withinW_any (n l h : Int) (w : World) : Calls Tryz.prog 64 #[.int .i64 n, .int .i64 l, .int .i64 h] w fun e w' => e = .returned (.bool (inB n l h)) ∧ w' = w := by
  go_enter Tryz.func64, Tryz.ntmps64
  go_wp2
  all_goals
    go_ret
    refine ⟨ret_b ?_, rfl⟩
    rw [Bool.eq_iff_iff]
    simp [inB]
    try omega
theorem validPointW_any (x y : Int) (w : World) :
    Calls Tryz.prog 86 #[.agg #[.int .i64 x, .int .i64 y]] w fun e w' => e = .returned (.bool (Geo.ptB (x, y))) ∧ Below w.heap.size w w' := by
  have HO : Hid (Geo.ptB (x, y) = (inB x (-200) 200 && inB y (-200) 200)) := rfl
  generalize Geo.ptB (x, y) = V at *
  cases hX : inB x (-200) 200
  · have HX := Lib.hid hX
    clear hX
    go_enter Tryz.func86, Tryz.ntmps86
    go_wp2_with fail
    refine (withinW_any _ _ _ _).mono ?_
    rintro e w1 ⟨rfl, rfl⟩
    rw [HX.out]
    go_wp2_with fail
    go_returns
    exact ⟨ret_b (by rw [HO.out, HX.out]; rfl), by (repeat' (first | (with_reducible exact Below.refl _ _) | (with_reducible assumption) | (with_reducible refine Below.alloc ?_ ?_ _) | (with_reducible refine below_drewN ?_ _) | (with_reducible refine Below.drew ?_) | (with_reducible refine Below.setCell ?_ ?_ _) | go_size))⟩
  · have HX := Lib.hid hX
    clear hX
    go_enter Tryz.func86, Tryz.ntmps86
    go_wp2_with fail
    refine (withinW_any _ _ _ _).mono ?_
    rintro e w1 ⟨rfl, rfl⟩
    rw [HX.out]
    go_wp2_with fail
    refine (withinW_any _ _ _ _).mono ?_
    rintro e w1 ⟨rfl, rfl⟩
    go_wp2_with fail
    go_returns
    exact ⟨ret_b (by rw [HO.out, HX.out]; rfl), by (repeat' (first | (with_reducible exact Below.refl _ _) | (with_reducible assumption) | (with_reducible refine Below.alloc ?_ ?_ _) | (with_reducible refine below_drewN ?_ _) | (with_reducible refine Below.drew ?_) | (with_reducible refine Below.setCell ?_ ?_ _) | go_size))⟩
set_option maxRecDepth 100000 in
set_option maxHeartbeats 8000000 in
theorem validPointsW_any (A : Option Addr) (c : Nat) (ps : List Wl.Pt) (hl : ps.length ≤ 1000000000) (w : World) (hP : Prs w w.heap.size A ps) :
    Calls Tryz.prog 65 #[.slice A ps.length c] w fun e w' => e = .returned (.bool (Wl.ptsTo ps ps.length)) ∧ Below w.heap.size w w' := by
  have HP := Lib.hid hP
  have HS0 : Hid (∀ k, Wl.ptsTo ps (k + 1) = (Wl.ptsTo ps k && Geo.ptB (Wl.ptAt ps k))) := fun _ => rfl
  have H0 : Hid (Wl.ptsTo ps 0 = true) := rfl
  have HNO : Hid (∀ k, k < ps.length → Geo.ptB (Wl.ptAt ps k) = false → Wl.ptsTo ps ps.length = false) := fun k hk h => Wl.ptsTo_no h _ hk
  generalize Wl.ptsTo ps = PT at *
  clear hP
  go_enter Tryz.func65, Tryz.ntmps65
  go_wp2_with fail
  go_loopw [7] (fun x wr => ∃ k : Nat, (k : Int) ≤ ps.length ∧ x = .int .i64 (k : Int) ∧ Hid (PT k = true) ∧ Below w.heap.size w wr) (fun x _ => (ps.length - intOf x).toNat)
  case atStart => exact ⟨0, by omega, rfl, H0, Below.refl _ _⟩
  case round =>
    obtain ⟨k, hk, rfl, hall, hB⟩ := hrel
    have hk0 := Int.natCast_nonneg k
    by_cases hlt : (k : Int) < ps.length
    · have hkn : k < ps.length := by omega
      have hPk : ps[k]? = some (Wl.ptAt ps k) := by unfold Wl.ptAt; rw [List.getElem?_eq_getElem hkn]; rfl
      obtain ⟨bp, op, rfl, hbp, hcp⟩ := HP.out (by omega)
      obtain ⟨h0, h1⟩ := hcp k _ hPk
      have a0 := (hB.cell (p := ⟨bp, _, none⟩) hbp).trans h0
      have a1 := (hB.cell (p := ⟨bp, _, none⟩) hbp).trans h1
      have HS := Lib.hid (HS0.out k)
      have HN := Lib.hid (HNO.out k hkn)
      have hw1 : IntKind.i64.wrap ((k : Int) + 1) = (k : Int) + 1 := IntWalk.i64_in _ (by omega)
      have hbr : bp < wr.heap.size := by have := hB.size; omega
      clear hcp hPk h0 h1 HNO
      generalize Wl.ptAt ps k = q at *
      obtain ⟨q1, q2⟩ := q
      dsimp only at a0 a1
      have HI : Hid (∀ W, Calls Tryz.prog 86 #[.agg #[.int .i64 q1, .int .i64 q2]] W fun e w' => e = .returned (.bool (Geo.ptB (q1, q2))) ∧ Below W.heap.size W w') := fun W => validPointW_any q1 q2 W
      have hBa : Below w.heap.size w (wr.alloc (.cells #[.int .i64 q1, .int .i64 q2] 53)) := hB.alloc hB.size _
      cases hb : Geo.ptB (q1, q2)
      · rw [hb] at HI
        have HR : Hid (PT ps.length = false) := HN.out hb
        clear hb
        go_wp2_with fail
        refine (HI.out _).mono ?_
        rintro e w2 ⟨rfl, hb2⟩
        have hB2 := hBa.trans (hb2.mono hBa.size)
        go_wp2_with fail
        go_returns
        exact ⟨by rw [HR.out]; rfl, hB2⟩
      · rw [hb] at HI
        have HS2 : Hid (PT (k + 1) = true) := by unfold Hid; rw [HS.out, hall.out, hb]; rfl
        clear hb
        go_wp2_with fail
        refine (HI.out _).mono ?_
        rintro e w2 ⟨rfl, hb2⟩
        have hB2 := hBa.trans (hb2.mono hBa.size)
        go_wp2_with fail
        go_roundw
        case rel => exact ⟨k + 1, by omega, by go_num, HS2, hB2⟩
        case measure => simp [intOf]; omega
    · have e : k = ps.length := by omega
      have HR : Hid (PT ps.length = true) := by unfold Hid; rw [← e]; exact hall.out
      clear e
      go_wp2_with fail
      go_returns
      exact ⟨by rw [HR.out]; rfl, hB⟩
set_option maxRecDepth 100000 in
set_option maxHeartbeats 8000000 in
theorem validWalkW_any (A : Option Addr) (c : Nat) (ps : List Wl.Pt) (hl : ps.length ≤ 1000000000) (w : World) (hP : Prs w w.heap.size A ps) :
    Calls Tryz.prog 37 #[.slice A ps.length c] w fun e w' => e = .returned (.bool (Wl.ptsB ps)) ∧ Below w.heap.size w w' := by
  have HA := Lib.hid (validPointsW_any A c ps hl w hP)
  have HW : Hid (∀ W, Calls Tryz.prog 64 #[.int .i64 (ps.length : Nat), .int .i64 1, .int .i64 8] W fun e w' => e = .returned (.bool (inB ps.length 1 8)) ∧ w' = W) := fun W => withinW_any _ 1 8 W
  have HR : Hid (Wl.ptsB ps = (Wl.ptsTo ps ps.length && inB ps.length 1 8)) := rfl
  generalize Wl.ptsB ps = R at *
  generalize Wl.ptsTo ps ps.length = bp at *
  generalize inB ps.length 1 8 = bl at *
  clear hP
  cases bl
  · go_enter Tryz.func37, Tryz.ntmps37
    go_wp2_with fail
    refine (HW.out _).mono ?_
    rintro e wq ⟨rfl, hq⟩
    have hq := hq.symm
    subst hq
    go_wp2_with fail
    go_returns
    exact ⟨by rw [HR.out, Bool.and_false]; rfl, Below.refl _ _⟩
  · go_enter Tryz.func37, Tryz.ntmps37
    go_wp2_with fail
    refine (HW.out _).mono ?_
    rintro e wq ⟨rfl, hq⟩
    have hq := hq.symm
    subst hq
    go_wp2_with fail
    refine HA.out.mono ?_
    rintro e w2 ⟨rfl, hb2⟩
    go_wp2_with fail
    go_returns
    exact ⟨by rw [HR.out, Bool.and_true]; rfl, hb2⟩
set_option maxRecDepth 100000 in
set_option maxHeartbeats 8000000 in
theorem validTrackW_any (t : Wl.Trk) (A : Option Addr) (c : Nat) (hl : t.ps.length ≤ 1000000000) (w : World) (hP : Prs w w.heap.size A t.ps) :
    Calls Tryz.prog 78 #[.agg (trV t A c)] w fun e w' => e = .returned (.bool (Wl.trkB t)) ∧ Below w.heap.size w w' := by
  obtain ⟨ps, cl, lo, hi⟩ := t
  unfold trV
  dsimp only at *
  have HA : Hid (∀ W, Below w.heap.size w W → Calls Tryz.prog 65 #[.slice A ps.length c] W fun e w' => e = .returned (.bool (Wl.ptsTo ps ps.length)) ∧ Below W.heap.size W w') := fun W hW => validPointsW_any A c ps hl W (prs_keep hP hW)
  have H0 : Hid (∀ W, Calls Tryz.prog 64 #[.int .i64 (ps.length : Nat), .int .i64 1, .int .i64 8] W fun e w' => e = .returned (.bool (inB ps.length 1 8)) ∧ w' = W) := fun W => withinW_any _ _ _ W
  have H1 : Hid (∀ W, Calls Tryz.prog 64 #[.int .i64 cl, .int .i64 0, .int .i64 1] W fun e w' => e = .returned (.bool (inB cl 0 1)) ∧ w' = W) := fun W => withinW_any _ _ _ W
  have H4 : Hid (∀ W, Calls Tryz.prog 64 #[.int .i64 lo, .int .i64 0, .int .i64 hi] W fun e w' => e = .returned (.bool (inB lo 0 hi)) ∧ w' = W) := fun W => withinW_any _ _ _ W
  have hcl : inB cl 0 1 = true → cl ≠ 1 → cl = 0 := fun h h2 => by
    unfold inB at h
    simp only [Bool.and_eq_true, decide_eq_true_eq] at h
    omega
  have HR0 : Hid (Wl.trkB ⟨ps, cl, lo, hi⟩ = (((((Wl.ptsTo ps ps.length && inB ps.length 1 8) && inB cl 0 1) && (decide (cl = 0) || decide (3 ≤ (ps.length : Int)))) && inB lo 0 hi) && decide (hi ≤ 320000))) := rfl
  generalize Wl.trkB ⟨ps, cl, lo, hi⟩ = R at *
  generalize Wl.ptsTo ps ps.length = bp at *
  generalize inB ps.length 1 8 = bl at *
  generalize inB cl 0 1 = b1 at *
  generalize inB lo 0 hi = b4 at *
  have HCL := Lib.hid hcl
  clear hP hl hcl
  cases bl with
  | false =>
    have HR : Hid (R = false) := by unfold Hid; rw [HR0.out]; simp []
    clear HR0
    go_enter Tryz.func78, Tryz.ntmps78
    go_wp2_with fail
    have bS1 := BoxS.new w 26 #[.slice A ps.length c, .int .i64 cl, .int .i64 lo, .int .i64 hi]
    have hB1 : Below w.heap.size w (w.alloc (.cells #[.slice A ps.length c, .int .i64 cl, .int .i64 lo, .int .i64 hi] 26)) := by (repeat' (first | (with_reducible exact Below.refl _ _) | (with_reducible assumption) | (with_reducible refine Below.alloc ?_ ?_ _) | (with_reducible refine Below.drew ?_) | (with_reducible refine Below.setCell ?_ ?_ _) | go_size | (exact (by simp)) | omega))
    generalize World.alloc w _ = w1 at *
    obtain ⟨s0, s1, s2, s3⟩ := boxS4 bS1
    have lS := bS1.lt
    go_wp2_with fail
    refine (H0.out _).mono ?_
    rintro e wq ⟨rfl, hq⟩
    have hq := hq.symm
    subst hq
    go_wp2_with fail
    go_returns
    exact ⟨by rw [HR.out]; rfl, hB1⟩
  | true =>
    cases b1 with
    | false =>
      have HR : Hid (R = false) := by unfold Hid; rw [HR0.out]; simp []
      clear HR0
      go_enter Tryz.func78, Tryz.ntmps78
      go_wp2_with fail
      have bS1 := BoxS.new w 26 #[.slice A ps.length c, .int .i64 cl, .int .i64 lo, .int .i64 hi]
      have hB1 : Below w.heap.size w (w.alloc (.cells #[.slice A ps.length c, .int .i64 cl, .int .i64 lo, .int .i64 hi] 26)) := by (repeat' (first | (with_reducible exact Below.refl _ _) | (with_reducible assumption) | (with_reducible refine Below.alloc ?_ ?_ _) | (with_reducible refine Below.drew ?_) | (with_reducible refine Below.setCell ?_ ?_ _) | go_size | (exact (by simp)) | omega))
      generalize World.alloc w _ = w1 at *
      obtain ⟨s0, s1, s2, s3⟩ := boxS4 bS1
      have lS := bS1.lt
      go_wp2_with fail
      refine (H0.out _).mono ?_
      rintro e wq ⟨rfl, hq⟩
      have hq := hq.symm
      subst hq
      go_wp2_with fail
      refine (H1.out _).mono ?_
      rintro e wq ⟨rfl, hq⟩
      have hq := hq.symm
      subst hq
      go_wp2_with fail
      go_returns
      exact ⟨by rw [HR.out]; rfl, hB1⟩
    | true =>
      by_cases hc : cl = 1
      · have hcb : (cl == 1) = true := by simpa using hc
        have hcz : ¬ cl = 0 := by omega
        clear hc
        by_cases h3 : ps.length < 3
        · have h3i : (ps.length : Int) < 3 := by omega
          have h3j : ¬ (3 : Int) ≤ (ps.length : Int) := by omega
          have h3k : ¬ 3 ≤ ps.length := by omega
          have h3d : decide ((ps.length : Int) < 3) = true := decide_eq_true h3i
          have HR : Hid (R = false) := by unfold Hid; rw [HR0.out]; simp [hcz, h3j, h3k]
          clear HR0
          go_enter Tryz.func78, Tryz.ntmps78
          go_wp2_with fail
          have bS1 := BoxS.new w 26 #[.slice A ps.length c, .int .i64 cl, .int .i64 lo, .int .i64 hi]
          have hB1 : Below w.heap.size w (w.alloc (.cells #[.slice A ps.length c, .int .i64 cl, .int .i64 lo, .int .i64 hi] 26)) := by (repeat' (first | (with_reducible exact Below.refl _ _) | (with_reducible assumption) | (with_reducible refine Below.alloc ?_ ?_ _) | (with_reducible refine Below.drew ?_) | (with_reducible refine Below.setCell ?_ ?_ _) | go_size | (exact (by simp)) | omega))
          generalize World.alloc w _ = w1 at *
          obtain ⟨s0, s1, s2, s3⟩ := boxS4 bS1
          have lS := bS1.lt
          go_wp2_with fail
          refine (H0.out _).mono ?_
          rintro e wq ⟨rfl, hq⟩
          have hq := hq.symm
          subst hq
          go_wp2_with fail
          refine (H1.out _).mono ?_
          rintro e wq ⟨rfl, hq⟩
          have hq := hq.symm
          subst hq
          go_wp2_with fail
          go_returns
          exact ⟨by rw [HR.out]; rfl, hB1⟩
        · have h3i : ¬ (ps.length : Int) < 3 := by omega
          have h3j : (3 : Int) ≤ (ps.length : Int) := by omega
          have h3k : 3 ≤ ps.length := by omega
          have h3d : decide ((ps.length : Int) < 3) = false := decide_eq_false h3i
          cases bp with
          | false =>
            have HR : Hid (R = false) := by unfold Hid; rw [HR0.out]; simp []
            clear HR0
            go_enter Tryz.func78, Tryz.ntmps78
            go_wp2_with fail
            have bS1 := BoxS.new w 26 #[.slice A ps.length c, .int .i64 cl, .int .i64 lo, .int .i64 hi]
            have hB1 : Below w.heap.size w (w.alloc (.cells #[.slice A ps.length c, .int .i64 cl, .int .i64 lo, .int .i64 hi] 26)) := by (repeat' (first | (with_reducible exact Below.refl _ _) | (with_reducible assumption) | (with_reducible refine Below.alloc ?_ ?_ _) | (with_reducible refine Below.drew ?_) | (with_reducible refine Below.setCell ?_ ?_ _) | go_size | (exact (by simp)) | omega))
            generalize World.alloc w _ = w1 at *
            obtain ⟨s0, s1, s2, s3⟩ := boxS4 bS1
            have lS := bS1.lt
            go_wp2_with fail
            refine (H0.out _).mono ?_
            rintro e wq ⟨rfl, hq⟩
            have hq := hq.symm
            subst hq
            go_wp2_with fail
            refine (H1.out _).mono ?_
            rintro e wq ⟨rfl, hq⟩
            have hq := hq.symm
            subst hq
            go_wp2_with fail
            refine (HA.out _ hB1).mono ?_
            rintro e w2 ⟨rfl, hb2⟩
            have bS2 := bS1.below hb2
            have hB2 := hB1.trans (hb2.mono hB1.size)
            clear s0 s1 s2 s3 lS bS1 hb2 hB1
            obtain ⟨s0, s1, s2, s3⟩ := boxS4 bS2
            have lS := bS2.lt
            go_wp2_with fail
            go_returns
            exact ⟨by rw [HR.out]; rfl, hB2⟩
          | true =>
            cases b4 with
            | false =>
              have HR : Hid (R = false) := by unfold Hid; rw [HR0.out]; simp []
              clear HR0
              go_enter Tryz.func78, Tryz.ntmps78
              go_wp2_with fail
              have bS1 := BoxS.new w 26 #[.slice A ps.length c, .int .i64 cl, .int .i64 lo, .int .i64 hi]
              have hB1 : Below w.heap.size w (w.alloc (.cells #[.slice A ps.length c, .int .i64 cl, .int .i64 lo, .int .i64 hi] 26)) := by (repeat' (first | (with_reducible exact Below.refl _ _) | (with_reducible assumption) | (with_reducible refine Below.alloc ?_ ?_ _) | (with_reducible refine Below.drew ?_) | (with_reducible refine Below.setCell ?_ ?_ _) | go_size | (exact (by simp)) | omega))
              generalize World.alloc w _ = w1 at *
              obtain ⟨s0, s1, s2, s3⟩ := boxS4 bS1
              have lS := bS1.lt
              go_wp2_with fail
              refine (H0.out _).mono ?_
              rintro e wq ⟨rfl, hq⟩
              have hq := hq.symm
              subst hq
              go_wp2_with fail
              refine (H1.out _).mono ?_
              rintro e wq ⟨rfl, hq⟩
              have hq := hq.symm
              subst hq
              go_wp2_with fail
              refine (HA.out _ hB1).mono ?_
              rintro e w2 ⟨rfl, hb2⟩
              have bS2 := bS1.below hb2
              have hB2 := hB1.trans (hb2.mono hB1.size)
              clear s0 s1 s2 s3 lS bS1 hb2 hB1
              obtain ⟨s0, s1, s2, s3⟩ := boxS4 bS2
              have lS := bS2.lt
              go_wp2_with fail
              refine (H4.out _).mono ?_
              rintro e wq ⟨rfl, hq⟩
              have hq := hq.symm
              subst hq
              go_wp2_with fail
              go_returns
              exact ⟨by rw [HR.out]; rfl, hB2⟩
            | true =>
              by_cases hd : hi ≤ 320000
              · have dd : decide (hi ≤ 320000) = true := decide_eq_true hd
                have HR : Hid (R = true) := by unfold Hid; rw [HR0.out]; simp [h3j, h3k, hd]
                clear HR0
                go_enter Tryz.func78, Tryz.ntmps78
                go_wp2_with fail
                have bS1 := BoxS.new w 26 #[.slice A ps.length c, .int .i64 cl, .int .i64 lo, .int .i64 hi]
                have hB1 : Below w.heap.size w (w.alloc (.cells #[.slice A ps.length c, .int .i64 cl, .int .i64 lo, .int .i64 hi] 26)) := by (repeat' (first | (with_reducible exact Below.refl _ _) | (with_reducible assumption) | (with_reducible refine Below.alloc ?_ ?_ _) | (with_reducible refine Below.drew ?_) | (with_reducible refine Below.setCell ?_ ?_ _) | go_size | (exact (by simp)) | omega))
                generalize World.alloc w _ = w1 at *
                obtain ⟨s0, s1, s2, s3⟩ := boxS4 bS1
                have lS := bS1.lt
                go_wp2_with fail
                refine (H0.out _).mono ?_
                rintro e wq ⟨rfl, hq⟩
                have hq := hq.symm
                subst hq
                go_wp2_with fail
                refine (H1.out _).mono ?_
                rintro e wq ⟨rfl, hq⟩
                have hq := hq.symm
                subst hq
                go_wp2_with fail
                refine (HA.out _ hB1).mono ?_
                rintro e w2 ⟨rfl, hb2⟩
                have bS2 := bS1.below hb2
                have hB2 := hB1.trans (hb2.mono hB1.size)
                clear s0 s1 s2 s3 lS bS1 hb2 hB1
                obtain ⟨s0, s1, s2, s3⟩ := boxS4 bS2
                have lS := bS2.lt
                go_wp2_with fail
                refine (H4.out _).mono ?_
                rintro e wq ⟨rfl, hq⟩
                have hq := hq.symm
                subst hq
                go_wp2_with fail
                go_returns
                exact ⟨by rw [HR.out]; rfl, hB2⟩
              · have dd : decide (hi ≤ 320000) = false := decide_eq_false hd
                have HR : Hid (R = false) := by unfold Hid; rw [HR0.out]; simp [hd]
                clear HR0
                go_enter Tryz.func78, Tryz.ntmps78
                go_wp2_with fail
                have bS1 := BoxS.new w 26 #[.slice A ps.length c, .int .i64 cl, .int .i64 lo, .int .i64 hi]
                have hB1 : Below w.heap.size w (w.alloc (.cells #[.slice A ps.length c, .int .i64 cl, .int .i64 lo, .int .i64 hi] 26)) := by (repeat' (first | (with_reducible exact Below.refl _ _) | (with_reducible assumption) | (with_reducible refine Below.alloc ?_ ?_ _) | (with_reducible refine Below.drew ?_) | (with_reducible refine Below.setCell ?_ ?_ _) | go_size | (exact (by simp)) | omega))
                generalize World.alloc w _ = w1 at *
                obtain ⟨s0, s1, s2, s3⟩ := boxS4 bS1
                have lS := bS1.lt
                go_wp2_with fail
                refine (H0.out _).mono ?_
                rintro e wq ⟨rfl, hq⟩
                have hq := hq.symm
                subst hq
                go_wp2_with fail
                refine (H1.out _).mono ?_
                rintro e wq ⟨rfl, hq⟩
                have hq := hq.symm
                subst hq
                go_wp2_with fail
                refine (HA.out _ hB1).mono ?_
                rintro e w2 ⟨rfl, hb2⟩
                have bS2 := bS1.below hb2
                have hB2 := hB1.trans (hb2.mono hB1.size)
                clear s0 s1 s2 s3 lS bS1 hb2 hB1
                obtain ⟨s0, s1, s2, s3⟩ := boxS4 bS2
                have lS := bS2.lt
                go_wp2_with fail
                refine (H4.out _).mono ?_
                rintro e wq ⟨rfl, hq⟩
                have hq := hq.symm
                subst hq
                go_wp2_with fail
                go_returns
                exact ⟨by rw [HR.out]; rfl, hB2⟩
      · have hcb : (cl == 1) = false := by simpa using hc
        have hcz := HCL.out rfl hc
        have hcd : decide (cl = 0) = true := decide_eq_true hcz
        clear hc hcz
        cases bp with
        | false =>
          have HR : Hid (R = false) := by unfold Hid; rw [HR0.out]; simp []
          clear HR0
          go_enter Tryz.func78, Tryz.ntmps78
          go_wp2_with fail
          have bS1 := BoxS.new w 26 #[.slice A ps.length c, .int .i64 cl, .int .i64 lo, .int .i64 hi]
          have hB1 : Below w.heap.size w (w.alloc (.cells #[.slice A ps.length c, .int .i64 cl, .int .i64 lo, .int .i64 hi] 26)) := by (repeat' (first | (with_reducible exact Below.refl _ _) | (with_reducible assumption) | (with_reducible refine Below.alloc ?_ ?_ _) | (with_reducible refine Below.drew ?_) | (with_reducible refine Below.setCell ?_ ?_ _) | go_size | (exact (by simp)) | omega))
          generalize World.alloc w _ = w1 at *
          obtain ⟨s0, s1, s2, s3⟩ := boxS4 bS1
          have lS := bS1.lt
          go_wp2_with fail
          refine (H0.out _).mono ?_
          rintro e wq ⟨rfl, hq⟩
          have hq := hq.symm
          subst hq
          go_wp2_with fail
          refine (H1.out _).mono ?_
          rintro e wq ⟨rfl, hq⟩
          have hq := hq.symm
          subst hq
          go_wp2_with fail
          refine (HA.out _ hB1).mono ?_
          rintro e w2 ⟨rfl, hb2⟩
          have bS2 := bS1.below hb2
          have hB2 := hB1.trans (hb2.mono hB1.size)
          clear s0 s1 s2 s3 lS bS1 hb2 hB1
          obtain ⟨s0, s1, s2, s3⟩ := boxS4 bS2
          have lS := bS2.lt
          go_wp2_with fail
          go_returns
          exact ⟨by rw [HR.out]; rfl, hB2⟩
        | true =>
          cases b4 with
          | false =>
            have HR : Hid (R = false) := by unfold Hid; rw [HR0.out]; simp []
            clear HR0
            go_enter Tryz.func78, Tryz.ntmps78
            go_wp2_with fail
            have bS1 := BoxS.new w 26 #[.slice A ps.length c, .int .i64 cl, .int .i64 lo, .int .i64 hi]
            have hB1 : Below w.heap.size w (w.alloc (.cells #[.slice A ps.length c, .int .i64 cl, .int .i64 lo, .int .i64 hi] 26)) := by (repeat' (first | (with_reducible exact Below.refl _ _) | (with_reducible assumption) | (with_reducible refine Below.alloc ?_ ?_ _) | (with_reducible refine Below.drew ?_) | (with_reducible refine Below.setCell ?_ ?_ _) | go_size | (exact (by simp)) | omega))
            generalize World.alloc w _ = w1 at *
            obtain ⟨s0, s1, s2, s3⟩ := boxS4 bS1
            have lS := bS1.lt
            go_wp2_with fail
            refine (H0.out _).mono ?_
            rintro e wq ⟨rfl, hq⟩
            have hq := hq.symm
            subst hq
            go_wp2_with fail
            refine (H1.out _).mono ?_
            rintro e wq ⟨rfl, hq⟩
            have hq := hq.symm
            subst hq
            go_wp2_with fail
            refine (HA.out _ hB1).mono ?_
            rintro e w2 ⟨rfl, hb2⟩
            have bS2 := bS1.below hb2
            have hB2 := hB1.trans (hb2.mono hB1.size)
            clear s0 s1 s2 s3 lS bS1 hb2 hB1
            obtain ⟨s0, s1, s2, s3⟩ := boxS4 bS2
            have lS := bS2.lt
            go_wp2_with fail
            refine (H4.out _).mono ?_
            rintro e wq ⟨rfl, hq⟩
            have hq := hq.symm
            subst hq
            go_wp2_with fail
            go_returns
            exact ⟨by rw [HR.out]; rfl, hB2⟩
          | true =>
            by_cases hd : hi ≤ 320000
            · have dd : decide (hi ≤ 320000) = true := decide_eq_true hd
              have HR : Hid (R = true) := by unfold Hid; rw [HR0.out]; simp [hcd, hd]
              clear HR0
              go_enter Tryz.func78, Tryz.ntmps78
              go_wp2_with fail
              have bS1 := BoxS.new w 26 #[.slice A ps.length c, .int .i64 cl, .int .i64 lo, .int .i64 hi]
              have hB1 : Below w.heap.size w (w.alloc (.cells #[.slice A ps.length c, .int .i64 cl, .int .i64 lo, .int .i64 hi] 26)) := by (repeat' (first | (with_reducible exact Below.refl _ _) | (with_reducible assumption) | (with_reducible refine Below.alloc ?_ ?_ _) | (with_reducible refine Below.drew ?_) | (with_reducible refine Below.setCell ?_ ?_ _) | go_size | (exact (by simp)) | omega))
              generalize World.alloc w _ = w1 at *
              obtain ⟨s0, s1, s2, s3⟩ := boxS4 bS1
              have lS := bS1.lt
              go_wp2_with fail
              refine (H0.out _).mono ?_
              rintro e wq ⟨rfl, hq⟩
              have hq := hq.symm
              subst hq
              go_wp2_with fail
              refine (H1.out _).mono ?_
              rintro e wq ⟨rfl, hq⟩
              have hq := hq.symm
              subst hq
              go_wp2_with fail
              refine (HA.out _ hB1).mono ?_
              rintro e w2 ⟨rfl, hb2⟩
              have bS2 := bS1.below hb2
              have hB2 := hB1.trans (hb2.mono hB1.size)
              clear s0 s1 s2 s3 lS bS1 hb2 hB1
              obtain ⟨s0, s1, s2, s3⟩ := boxS4 bS2
              have lS := bS2.lt
              go_wp2_with fail
              refine (H4.out _).mono ?_
              rintro e wq ⟨rfl, hq⟩
              have hq := hq.symm
              subst hq
              go_wp2_with fail
              go_returns
              exact ⟨by rw [HR.out]; rfl, hB2⟩
            · have dd : decide (hi ≤ 320000) = false := decide_eq_false hd
              have HR : Hid (R = false) := by unfold Hid; rw [HR0.out]; simp [hd]
              clear HR0
              go_enter Tryz.func78, Tryz.ntmps78
              go_wp2_with fail
              have bS1 := BoxS.new w 26 #[.slice A ps.length c, .int .i64 cl, .int .i64 lo, .int .i64 hi]
              have hB1 : Below w.heap.size w (w.alloc (.cells #[.slice A ps.length c, .int .i64 cl, .int .i64 lo, .int .i64 hi] 26)) := by (repeat' (first | (with_reducible exact Below.refl _ _) | (with_reducible assumption) | (with_reducible refine Below.alloc ?_ ?_ _) | (with_reducible refine Below.drew ?_) | (with_reducible refine Below.setCell ?_ ?_ _) | go_size | (exact (by simp)) | omega))
              generalize World.alloc w _ = w1 at *
              obtain ⟨s0, s1, s2, s3⟩ := boxS4 bS1
              have lS := bS1.lt
              go_wp2_with fail
              refine (H0.out _).mono ?_
              rintro e wq ⟨rfl, hq⟩
              have hq := hq.symm
              subst hq
              go_wp2_with fail
              refine (H1.out _).mono ?_
              rintro e wq ⟨rfl, hq⟩
              have hq := hq.symm
              subst hq
              go_wp2_with fail
              refine (HA.out _ hB1).mono ?_
              rintro e w2 ⟨rfl, hb2⟩
              have bS2 := bS1.below hb2
              have hB2 := hB1.trans (hb2.mono hB1.size)
              clear s0 s1 s2 s3 lS bS1 hb2 hB1
              obtain ⟨s0, s1, s2, s3⟩ := boxS4 bS2
              have lS := bS2.lt
              go_wp2_with fail
              refine (H4.out _).mono ?_
              rintro e wq ⟨rfl, hq⟩
              have hq := hq.symm
              subst hq
              go_wp2_with fail
              go_returns
              exact ⟨by rw [HR.out]; rfl, hB2⟩
set_option maxRecDepth 100000 in
set_option maxHeartbeats 8000000 in
theorem CheckW_any (t : Wl.Trk) (ws : List Wl.Pt) (A B : Option Addr) (c d : Nat) (hl : t.ps.length ≤ 1000000000) (hlw : ws.length ≤ 1000000000) (w : World) (hP : Prs w w.heap.size A t.ps) (hQ : Prs w w.heap.size B ws) :
    Calls Tryz.prog 55 #[.agg (trV t A c), .slice B ws.length d] w (ErrPost (Wl.chkV t ws) w) := by
  have HT : Hid (∀ W, Below w.heap.size w W → Calls Tryz.prog 78 #[.agg (trV t A c)] W fun e w' => e = .returned (.bool (Wl.trkB t)) ∧ Below W.heap.size W w') := fun W hW => validTrackW_any t A c hl W (prs_keep hP hW)
  have HW : Hid (∀ W, Below w.heap.size w W → Calls Tryz.prog 37 #[.slice B ws.length d] W fun e w' => e = .returned (.bool (Wl.ptsB ws)) ∧ Below W.heap.size W w') := fun W hW => validWalkW_any B d ws hlw W (prs_keep hQ hW)
  have HR : Hid (Wl.chkV t ws = if Wl.trkB t then (if Wl.ptsB ws then 0 else 51) else 50) := rfl
  generalize Wl.chkV t ws = R at *
  generalize Wl.trkB t = bt at *
  generalize Wl.ptsB ws = bw at *
  clear hP hQ hl hlw
  obtain ⟨ps, cl, lo, hi⟩ := t
  unfold trV at *
  dsimp only at *
  cases bt with
  | false =>
    go_enter Tryz.func55, Tryz.ntmps55
    go_wp2_with fail
    have hB1 : Below w.heap.size w (w.alloc (.cells #[.slice A ps.length c, .int .i64 cl, .int .i64 lo, .int .i64 hi] 26)) := by (repeat' (first | (with_reducible exact Below.refl _ _) | (with_reducible assumption) | (with_reducible refine Below.alloc ?_ ?_ _) | (with_reducible refine Below.drew ?_) | (with_reducible refine Below.setCell ?_ ?_ _) | go_size | (exact (by simp)) | omega))
    generalize World.alloc w _ = w1 at *
    refine (HT.out _ hB1).mono ?_
    rintro e w2 ⟨rfl, hb2⟩
    have hB2 := hB1.trans (hb2.mono hB1.size)
    clear hb2 hB1
    go_wp2_with fail
    go_returns
    exact ⟨by rw [HR.out]; rfl, hB2⟩
  | true =>
    cases bw with
    | false =>
      go_enter Tryz.func55, Tryz.ntmps55
      go_wp2_with fail
      have hB1 : Below w.heap.size w (w.alloc (.cells #[.slice A ps.length c, .int .i64 cl, .int .i64 lo, .int .i64 hi] 26)) := by (repeat' (first | (with_reducible exact Below.refl _ _) | (with_reducible assumption) | (with_reducible refine Below.alloc ?_ ?_ _) | (with_reducible refine Below.drew ?_) | (with_reducible refine Below.setCell ?_ ?_ _) | go_size | (exact (by simp)) | omega))
      generalize World.alloc w _ = w1 at *
      refine (HT.out _ hB1).mono ?_
      rintro e w2 ⟨rfl, hb2⟩
      have hB2 := hB1.trans (hb2.mono hB1.size)
      clear hb2 hB1
      go_wp2_with fail
      refine (HW.out _ hB2).mono ?_
      rintro e w3 ⟨rfl, hb3⟩
      have hB3 := hB2.trans (hb3.mono hB2.size)
      go_wp2_with fail
      go_returns
      exact ⟨by rw [HR.out]; rfl, hB3⟩
    | true =>
      go_enter Tryz.func55, Tryz.ntmps55
      go_wp2_with fail
      have hB1 : Below w.heap.size w (w.alloc (.cells #[.slice A ps.length c, .int .i64 cl, .int .i64 lo, .int .i64 hi] 26)) := by (repeat' (first | (with_reducible exact Below.refl _ _) | (with_reducible assumption) | (with_reducible refine Below.alloc ?_ ?_ _) | (with_reducible refine Below.drew ?_) | (with_reducible refine Below.setCell ?_ ?_ _) | go_size | (exact (by simp)) | omega))
      generalize World.alloc w _ = w1 at *
      refine (HT.out _ hB1).mono ?_
      rintro e w2 ⟨rfl, hb2⟩
      have hB2 := hB1.trans (hb2.mono hB1.size)
      clear hb2 hB1
      go_wp2_with fail
      refine (HW.out _ hB2).mono ?_
      rintro e w3 ⟨rfl, hb3⟩
      have hB3 := hB2.trans (hb3.mono hB2.size)
      go_wp2_with fail
      go_returns
      exact ⟨by rw [HR.out]; rfl, hB3⟩
end Go.Proofs.YtmjcdggmofohcaaGreat
namespace Go.Proofs.YtmjcdggmofohcaaGreat
open Go.RowKit
/-- A machine as a value: a track and a walk. -/
def mcV (t : Wl.Trk) (A : Option Addr) (c : Nat) (Aw : Option Addr) (m cw : Nat) : Array Value := #[.slice A t.ps.length c, .int .i64 t.cl, .int .i64 t.lo, .int .i64 t.hi, .slice Aw m cw]
set_option maxRecDepth 100000 in
set_option maxHeartbeats 8000000 in
theorem reachesW_any (t : Wl.Trk) (A : Option Addr) (c : Nat) (Aw : Option Addr) (m cw : Nat) (p : Nat) (a : Wl.Pt) (hp : p < t.ps.length) (h1 : Geo.sm (Wl.ptAt t.ps p)) (h2 : Geo.sm a) (w : World) (hP : Prs w w.heap.size A t.ps) (hl : t.ps.length ≤ 1000000000) :
    Calls Tryz.prog 84 #[.agg (mcV t A c Aw m cw), .int .i64 (p : Nat), .agg #[.int .i64 a.1, .int .i64 a.2]] w fun e w' => e = .returned (.bool (Wl.reachB t p a)) ∧ Below w.heap.size w w' := by
  have hPk : t.ps[p]? = some (Wl.ptAt t.ps p) := by unfold Wl.ptAt; rw [List.getElem?_eq_getElem hp]; rfl
  have HR : Hid (Wl.reachB t p a = inB ((a.1 - (Wl.ptAt t.ps p).1) * (a.1 - (Wl.ptAt t.ps p).1) + (a.2 - (Wl.ptAt t.ps p).2) * (a.2 - (Wl.ptAt t.ps p).2)) t.lo t.hi) := by
    unfold Hid Wl.reachB Wl.sqV inB
    rw [Int.toNat_natCast]
  have HP := Lib.hid hP
  obtain ⟨ps, cl, lo, hi⟩ := t
  unfold mcV
  dsimp only at *
  generalize Wl.reachB ⟨ps, cl, lo, hi⟩ p a = R at *
  generalize Wl.ptAt ps p = q at *
  obtain ⟨q1, q2⟩ := q
  obtain ⟨a1, a2⟩ := a
  unfold Geo.sm at h1 h2
  dsimp only at *
  obtain ⟨bp, op, rfl, hbp, hcp⟩ := HP.out (by omega)
  obtain ⟨g0, g1⟩ := hcp p _ hPk
  dsimp only at g0 g1
  have m1 := mul_bd (x := 2000) (y := 2000) (show -2000 ≤ a1 - q1 by omega) (by omega) (show -2000 ≤ a1 - q1 by omega) (by omega)
  have m2 := mul_bd (x := 2000) (y := 2000) (show -2000 ≤ a2 - q2 by omega) (by omega) (show -2000 ≤ a2 - q2 by omega) (by omega)
  have e1 : IntKind.i64.wrap (a1 - q1) = a1 - q1 := IntWalk.i64_in _ (by omega)
  have e2 : IntKind.i64.wrap (a2 - q2) = a2 - q2 := IntWalk.i64_in _ (by omega)
  have HW : Hid (∀ W S, Calls Tryz.prog 64 #[.int .i64 S, .int .i64 lo, .int .i64 hi] W fun e w' => e = .returned (.bool (inB S lo hi)) ∧ w' = W) := fun W S => withinW_any S lo hi W
  have d1 : decide ((p : Int) < 0) = false := decide_eq_false (by omega)
  have d2 : decide ((ps.length : Int) ≤ (p : Int)) = false := decide_eq_false (by omega)
  have d4 : decide (ps.length ≤ p) = false := decide_eq_false (by omega)
  have hmo : Tryz.prog.follows .mixedOrders = true := by kernel_rfl
  clear hcp hPk HP hP
  go_enter Tryz.func84, Tryz.ntmps84
  go_wp2_with fail
  have bS1 := (BoxS.new w 61 #[.slice (some ⟨bp, op, none⟩) ps.length c, .int .i64 cl, .int .i64 lo, .int .i64 hi, .slice Aw m cw]).alloc (.cells #[.int .i64 a1, .int .i64 a2] 53)
  have bQ1 := BoxS.new (w.alloc (.cells #[.slice (some ⟨bp, op, none⟩) ps.length c, .int .i64 cl, .int .i64 lo, .int .i64 hi, .slice Aw m cw] 61)) 53 #[.int .i64 a1, .int .i64 a2]
  rw [World.size_alloc] at bQ1
  have hB1 : Below w.heap.size w ((w.alloc (.cells #[.slice (some ⟨bp, op, none⟩) ps.length c, .int .i64 cl, .int .i64 lo, .int .i64 hi, .slice Aw m cw] 61)).alloc (.cells #[.int .i64 a1, .int .i64 a2] 53)) := by (repeat' (first | (with_reducible exact Below.refl _ _) | (with_reducible assumption) | (with_reducible refine Below.alloc ?_ ?_ _) | (with_reducible refine Below.drew ?_) | (with_reducible refine Below.setCell ?_ ?_ _) | go_size | (exact (by simp)) | omega))
  generalize World.alloc (World.alloc w _) _ = w1 at *
  have q0 : Below w1.heap.size w1 w1.drew := (Below.refl _ _).drew
  have KC : Hid (∀ W', Below w1.heap.size w1 W' → (W'.cell? ⟨w.heap.size, 0, none⟩ = some (.slice (some ⟨bp, op, none⟩) ps.length c)) ∧ (W'.cell? ⟨w.heap.size + 1, 0, none⟩ = some (.int .i64 a1) ∧ W'.cell? ⟨w.heap.size + 1, 1, none⟩ = some (.int .i64 a2)) ∧ W'.cell? ⟨bp, op + p * 2, none⟩ = some (.int .i64 q1) ∧ W'.cell? ⟨bp, op + p * 2 + 1, none⟩ = some (.int .i64 q2)) := fun W' h => by
    have h2 := hB1.trans (h.mono hB1.size)
    exact ⟨(bS1.below h).cell 0 rfl, ⟨(bQ1.below h).cell 0 rfl, (bQ1.below h).cell 1 rfl⟩, (h2.cell (p := ⟨bp, _, none⟩) hbp).trans g0, (h2.cell (p := ⟨bp, _, none⟩) hbp).trans g1⟩
  clear g0 g1
  refine (wpIn_wide (n := 4)).1 ?_
  refine wpIn_region_held (fun W' => Below w1.heap.size w1 W') 30 hmo ?_
  refine wpHeldIn_take (i := 0) (v := ?_) (plain_of (by kernel_rfl)) rfl (by kernel_rfl) (fun _ _ _ h => h) (yieldsSoIn_of (by kernel_rfl) ?_ (fun _ => rfl)) q0 ?_; rotate_left; focus (intro wq hw; clear hw; go_simp; try (with_reducible rfl))
  refine wpHeldIn_take (i := 1) (v := ?_) (plain_of (by kernel_rfl)) rfl (by kernel_rfl) (fun _ _ _ h => h) (yieldsSoIn_of (by kernel_rfl) ?_ (fun _ => rfl)) q0 ?_; rotate_left; focus (intro wq hw; have kq := KC.out wq hw; clear hw; go_simp; try (with_reducible rfl))
  refine wpHeldIn_take (i := 2) (v := ?_) (plain_of (by kernel_rfl)) rfl (by kernel_rfl) (fun _ _ _ h => h) (yieldsSoIn_of (by kernel_rfl) ?_ (fun _ => rfl)) q0 ?_; rotate_left; focus (intro wq hw; clear hw; go_simp; try (with_reducible rfl))
  refine wpHeldIn_take (i := 3) (v := ?_) (plain_of (by kernel_rfl)) rfl (by kernel_rfl) (fun _ _ _ h => h) (yieldsSoIn_of (by kernel_rfl) ?_ (fun _ => rfl)) q0 ?_; rotate_left; focus (intro wq hw; clear hw; go_simp; try (with_reducible rfl))
  refine wpHeldIn_take (i := 4) (v := ?_) (plain_of (by kernel_rfl)) rfl (by kernel_rfl) (fun _ _ _ h => h) (yieldsSoIn_of (by kernel_rfl) ?_ (fun _ => rfl)) q0 ?_; rotate_left; focus (intro wq hw; have kq := KC.out wq hw; clear hw; go_simp; try (with_reducible rfl))
  refine wpHeldIn_take (i := 5) (v := ?_) (plain_of (by kernel_rfl)) rfl (by kernel_rfl) (fun _ _ _ h => h) (yieldsSoIn_of (by kernel_rfl) ?_ (fun _ => rfl)) q0 ?_; rotate_left; focus (intro wq hw; clear hw; go_simp; try (with_reducible rfl))
  refine wpHeldIn_take (i := 6) (v := ?_) (plain_of (by kernel_rfl)) rfl (by kernel_rfl) (fun _ _ _ h => h) (yieldsSoIn_of (by kernel_rfl) ?_ (fun _ => rfl)) q0 ?_; rotate_left; focus (intro wq hw; clear hw; go_simp; try (with_reducible rfl))
  refine wpHeldIn_take (i := 7) (v := ?_) (plain_of (by kernel_rfl)) rfl (by kernel_rfl) (fun _ _ _ h => h) (yieldsSoIn_of (by kernel_rfl) ?_ (fun _ => rfl)) q0 ?_; rotate_left; focus (intro wq hw; clear hw; go_simp; try (with_reducible rfl))
  refine wpHeldIn_take (i := 8) (v := ?_) (plain_of (by kernel_rfl)) rfl (by kernel_rfl) (fun _ _ _ h => h) (yieldsSoIn_of (by kernel_rfl) ?_ (fun _ => rfl)) q0 ?_; rotate_left; focus (intro wq hw; have kq := KC.out wq hw; clear hw; go_simp; try (with_reducible rfl))
  refine wpHeldIn_take (i := 9) (v := ?_) (plain_of (by kernel_rfl)) rfl (by kernel_rfl) (fun _ _ _ h => h) (yieldsSoIn_of (by kernel_rfl) ?_ (fun _ => rfl)) q0 ?_; rotate_left; focus (intro wq hw; clear hw; go_simp; try (with_reducible rfl))
  refine wpHeldIn_take (i := 10) (v := ?_) (plain_of (by kernel_rfl)) rfl (by kernel_rfl) (fun _ _ _ h => h) (yieldsSoIn_of (by kernel_rfl) ?_ (fun _ => rfl)) q0 ?_; rotate_left; focus (intro wq hw; clear hw; go_simp; try (with_reducible rfl))
  refine wpHeldIn_take (i := 11) (v := ?_) (plain_of (by kernel_rfl)) rfl (by kernel_rfl) (fun _ _ _ h => h) (yieldsSoIn_of (by kernel_rfl) ?_ (fun _ => rfl)) q0 ?_; rotate_left; focus (intro wq hw; have kq := KC.out wq hw; clear hw; go_simp; try (with_reducible rfl))
  refine wpHeldIn_take (i := 12) (v := ?_) (plain_of (by kernel_rfl)) rfl (by kernel_rfl) (fun _ _ _ h => h) (yieldsSoIn_of (by kernel_rfl) ?_ (fun _ => rfl)) q0 ?_; rotate_left; focus (intro wq hw; clear hw; go_simp; try (with_reducible rfl))
  refine wpHeldIn_take (i := 13) (v := ?_) (plain_of (by kernel_rfl)) rfl (by kernel_rfl) (fun _ _ _ h => h) (yieldsSoIn_of (by kernel_rfl) ?_ (fun _ => rfl)) q0 ?_; rotate_left; focus (intro wq hw; clear hw; go_simp; try (with_reducible rfl))
  refine wpHeldIn_take (i := 14) (v := ?_) (plain_of (by kernel_rfl)) rfl (by kernel_rfl) (fun _ _ _ h => h) (yieldsSoIn_of (by kernel_rfl) ?_ (fun _ => rfl)) q0 ?_; rotate_left; focus (intro wq hw; have kq := KC.out wq hw; clear hw; go_simp; try (with_reducible rfl))
  refine wpHeldIn_take (i := 15) (v := ?_) (plain_of (by kernel_rfl)) rfl (by kernel_rfl) (fun _ _ _ h => h) (yieldsSoIn_of (by kernel_rfl) ?_ (fun _ => rfl)) q0 ?_; rotate_left; focus (intro wq hw; clear hw; go_simp; try (with_reducible rfl))
  refine wpHeldIn_take (i := 16) (v := ?_) (plain_of (by kernel_rfl)) rfl (by kernel_rfl) (fun _ _ _ h => h) (yieldsSoIn_of (by kernel_rfl) ?_ (fun _ => rfl)) q0 ?_; rotate_left; focus (intro wq hw; clear hw; go_simp; try (with_reducible rfl))
  refine wpHeldIn_take (i := 17) (v := ?_) (plain_of (by kernel_rfl)) rfl (by kernel_rfl) (fun _ _ _ h => h) (yieldsSoIn_of (by kernel_rfl) ?_ (fun _ => rfl)) q0 ?_; rotate_left; focus (intro wq hw; clear hw; go_simp; try (with_reducible rfl))
  refine wpHeldIn_take (i := 18) (v := ?_) (plain_of (by kernel_rfl)) rfl (by kernel_rfl) (fun _ _ _ h => h) (yieldsSoIn_of (by kernel_rfl) ?_ (fun _ => rfl)) q0 ?_; rotate_left; focus (intro wq hw; have kq := KC.out wq hw; clear hw; go_simp; try (with_reducible rfl))
  refine wpHeldIn_take (i := 19) (v := ?_) (plain_of (by kernel_rfl)) rfl (by kernel_rfl) (fun _ _ _ h => h) (yieldsSoIn_of (by kernel_rfl) ?_ (fun _ => rfl)) q0 ?_; rotate_left; focus (intro wq hw; clear hw; go_simp; try (with_reducible rfl))
  refine wpHeldIn_take (i := 20) (v := ?_) (plain_of (by kernel_rfl)) rfl (by kernel_rfl) (fun _ _ _ h => h) (yieldsSoIn_of (by kernel_rfl) ?_ (fun _ => rfl)) q0 ?_; rotate_left; focus (intro wq hw; clear hw; go_simp; try (with_reducible rfl))
  refine wpHeldIn_take (i := 21) (v := ?_) (plain_of (by kernel_rfl)) rfl (by kernel_rfl) (fun _ _ _ h => h) (yieldsSoIn_of (by kernel_rfl) ?_ (fun _ => rfl)) q0 ?_; rotate_left; focus (intro wq hw; clear hw; go_simp; try (with_reducible rfl))
  refine wpHeldIn_done (by kernel_rfl) ?_ _
  go_simp
  have bS2 := bS1.below q0
  have hB2 := hB1.trans (q0.mono hB1.size)
  clear KC q0 bS1 bQ1 hB1
  generalize World.drew w1 = w2 at *
  have s2 := bS2.cell 2 rfl
  have s3 := bS2.cell 3 rfl
  have lS := bS2.lt
  obtain ⟨X, hX⟩ : ∃ X, X = a1 - q1 := ⟨_, rfl⟩
  obtain ⟨Y, hY⟩ : ∃ Y, Y = a2 - q2 := ⟨_, rfl⟩
  rw [← hX] at m1 e1 ⊢
  rw [← hY] at m2 e2 ⊢
  have e3 : IntKind.i64.wrap (X * X) = X * X := IntWalk.i64_in _ (by omega)
  have e4 : IntKind.i64.wrap (Y * Y) = Y * Y := IntWalk.i64_in _ (by omega)
  have e5 : IntKind.i64.wrap (X * X + Y * Y) = X * X + Y * Y := IntWalk.i64_in _ (by omega)
  have HX := Lib.hid (And.intro hX hY)
  clear hX hY e1 e2 d1 d2 d4
  go_wp2_with fail
  refine (HW.out _ _).mono ?_
  rintro e wq ⟨rfl, hq⟩
  have hq := hq.symm
  subst hq
  go_wp2_with fail
  go_returns
  exact ⟨by rw [HR.out, ← HX.out.1, ← HX.out.2]; rfl, hB2⟩
set_option maxRecDepth 100000 in
set_option maxHeartbeats 8000000 in
theorem stepW_any (t : Wl.Trk) (A : Option Addr) (c : Nat) (Aw : Option Addr) (m cw : Nat) (a b : Int) (ha : -1000000 ≤ a ∧ a ≤ 1000000) (hb : -1000000 ≤ b ∧ b ≤ 1000000) (hl : t.ps.length ≤ 1000000000) (w : World) :
    Calls Tryz.prog 63 #[.agg (mcV t A c Aw m cw), .int .i64 a, .int .i64 b] w fun e w' => e = .returned (.int .i64 (Wl.stepV t a b)) ∧ Below w.heap.size w w' := by
  have HR0 : Hid (Wl.stepV t a b = if t.cl = 1 ∧ b - a = (t.ps.length : Int) - 1 then -1 else if t.cl = 1 ∧ b - a = -((t.ps.length : Int) - 1) then 1 else b - a) := rfl
  obtain ⟨ps, cl, lo, hi⟩ := t
  unfold mcV
  dsimp only at *
  generalize Wl.stepV ⟨ps, cl, lo, hi⟩ a b = R at *
  obtain ⟨D, hD⟩ : ∃ D, D = b - a := ⟨_, rfl⟩
  obtain ⟨L, hL⟩ : ∃ L, L = (ps.length : Int) - 1 := ⟨_, rfl⟩
  obtain ⟨M, hM⟩ : ∃ M, M = -L := ⟨_, rfl⟩
  have w1 : IntKind.i64.wrap (b - a) = D := by rw [hD]; exact IntWalk.i64_in _ (by omega)
  have w2 : IntKind.i64.wrap ((ps.length : Int) - 1) = L := by rw [hL]; exact IntWalk.i64_in _ (by omega)
  have w3 : IntKind.i64.wrap (-L) = M := by rw [hM]; exact IntWalk.i64_in _ (by omega)
  rw [← hD, ← hL, ← hM] at HR0
  have HD := Lib.hid hD
  have hmo : Tryz.prog.follows .mixedOrders = true := by kernel_rfl
  clear hD hL hM ha hb hl
  by_cases x1 : cl = 1
  · have b1 : (cl == 1) = true := by simpa using x1
    by_cases x2 : D = L
    · have b2 : (D == L) = true := by simpa using x2
      have HR : Hid (R = -1) := by unfold Hid; rw [HR0.out, if_pos ⟨x1, x2⟩]
      clear HR0 x1 x2
      go_enter Tryz.func63, Tryz.ntmps63
      go_wp2_with fail
      have bS1 := BoxS.new w 61 #[.slice A ps.length c, .int .i64 cl, .int .i64 lo, .int .i64 hi, .slice Aw m cw]
      have hB1 : Below w.heap.size w (w.alloc (.cells #[.slice A ps.length c, .int .i64 cl, .int .i64 lo, .int .i64 hi, .slice Aw m cw] 61)) := by (repeat' (first | (with_reducible exact Below.refl _ _) | (with_reducible assumption) | (with_reducible refine Below.alloc ?_ ?_ _) | (with_reducible refine Below.drew ?_) | (with_reducible refine Below.setCell ?_ ?_ _) | go_size | (exact (by simp)) | omega))
      generalize World.alloc w _ = w1 at *
      have q0 : Below w1.heap.size w1 w1.drew := (Below.refl _ _).drew
      have KC : Hid (∀ W', Below w1.heap.size w1 W' → W'.cell? ⟨w.heap.size, 0, none⟩ = some (.slice A ps.length c)) := fun W' h => (bS1.below h).cell 0 rfl
      refine (wpIn_wide (n := 4)).1 ?_
      refine wpIn_region_held (fun W' => Below w1.heap.size w1 W') 30 hmo ?_
      refine wpHeldIn_take (i := 0) (v := ?_) (plain_of (by kernel_rfl)) rfl (by kernel_rfl) (fun _ _ _ h => h) (yieldsSoIn_of (by kernel_rfl) ?_ (fun _ => rfl)) q0 ?_; rotate_left; focus (intro wq hw; clear hw; go_simp; try (with_reducible rfl))
      refine wpHeldIn_take (i := 1) (v := ?_) (plain_of (by kernel_rfl)) rfl (by kernel_rfl) (fun _ _ _ h => h) (yieldsSoIn_of (by kernel_rfl) ?_ (fun _ => rfl)) q0 ?_; rotate_left; focus (intro wq hw; clear hw; go_simp; try (with_reducible rfl))
      refine wpHeldIn_take (i := 2) (v := ?_) (plain_of (by kernel_rfl)) rfl (by kernel_rfl) (fun _ _ _ h => h) (yieldsSoIn_of (by kernel_rfl) ?_ (fun _ => rfl)) q0 ?_; rotate_left; focus (intro wq hw; clear hw; go_simp; try (with_reducible rfl))
      refine wpHeldIn_take (i := 3) (v := ?_) (plain_of (by kernel_rfl)) rfl (by kernel_rfl) (fun _ _ _ h => h) (yieldsSoIn_of (by kernel_rfl) ?_ (fun _ => rfl)) q0 ?_; rotate_left; focus (intro wq hw; clear hw; go_simp; try (with_reducible rfl))
      refine wpHeldIn_take (i := 4) (v := ?_) (plain_of (by kernel_rfl)) rfl (by kernel_rfl) (fun _ _ _ h => h) (yieldsSoIn_of (by kernel_rfl) ?_ (fun _ => rfl)) q0 ?_; rotate_left; focus (intro wq hw; clear hw; go_simp; try (with_reducible rfl))
      refine wpHeldIn_take (i := 5) (v := ?_) (plain_of (by kernel_rfl)) rfl (by kernel_rfl) (fun _ _ _ h => h) (yieldsSoIn_of (by kernel_rfl) ?_ (fun _ => rfl)) q0 ?_; rotate_left; focus (intro wq hw; have kq := KC.out wq hw; clear hw; go_simp; try (with_reducible rfl))
      refine wpHeldIn_take (i := 6) (v := ?_) (plain_of (by kernel_rfl)) rfl (by kernel_rfl) (fun _ _ _ h => h) (yieldsSoIn_of (by kernel_rfl) ?_ (fun _ => rfl)) q0 ?_; rotate_left; focus (intro wq hw; clear hw; go_simp; try (with_reducible rfl))
      refine wpHeldIn_take (i := 7) (v := ?_) (plain_of (by kernel_rfl)) rfl (by kernel_rfl) (fun _ _ _ h => h) (yieldsSoIn_of (by kernel_rfl) ?_ (fun _ => rfl)) q0 ?_; rotate_left; focus (intro wq hw; clear hw; go_simp; try (with_reducible rfl))
      refine wpHeldIn_take (i := 8) (v := ?_) (plain_of (by kernel_rfl)) rfl (by kernel_rfl) (fun _ _ _ h => h) (yieldsSoIn_of (by kernel_rfl) ?_ (fun _ => rfl)) q0 ?_; rotate_left; focus (intro wq hw; clear hw; go_simp; try (with_reducible rfl))
      refine wpHeldIn_take (i := 9) (v := ?_) (plain_of (by kernel_rfl)) rfl (by kernel_rfl) (fun _ _ _ h => h) (yieldsSoIn_of (by kernel_rfl) ?_ (fun _ => rfl)) q0 ?_; rotate_left; focus (intro wq hw; clear hw; go_simp; try (with_reducible rfl))
      refine wpHeldIn_done (by kernel_rfl) ?_ _
      go_simp
      have bS2 := bS1.below q0
      have hB2 := hB1.trans (q0.mono hB1.size)
      clear KC q0 bS1 hB1
      generalize World.drew w1 = w2 at *
      have s1 := bS2.cell 1 rfl
      have lS := bS2.lt
      go_wp2_with fail
      go_returns
      exact ⟨by rw [HR.out]; first | rfl | simp [HD.out], hB2⟩
    · have b2 : (D == L) = false := by simpa using x2
      by_cases x3 : D = M
      · have b3 : (D == M) = true := by simpa using x3
        have HR : Hid (R = 1) := by unfold Hid; rw [HR0.out, if_neg (fun h => x2 h.2), if_pos ⟨x1, x3⟩]
        clear HR0 x1 x2 x3
        go_enter Tryz.func63, Tryz.ntmps63
        go_wp2_with fail
        have bS1 := BoxS.new w 61 #[.slice A ps.length c, .int .i64 cl, .int .i64 lo, .int .i64 hi, .slice Aw m cw]
        have hB1 : Below w.heap.size w (w.alloc (.cells #[.slice A ps.length c, .int .i64 cl, .int .i64 lo, .int .i64 hi, .slice Aw m cw] 61)) := by (repeat' (first | (with_reducible exact Below.refl _ _) | (with_reducible assumption) | (with_reducible refine Below.alloc ?_ ?_ _) | (with_reducible refine Below.drew ?_) | (with_reducible refine Below.setCell ?_ ?_ _) | go_size | (exact (by simp)) | omega))
        generalize World.alloc w _ = w1 at *
        have q0 : Below w1.heap.size w1 w1.drew := (Below.refl _ _).drew
        have KC : Hid (∀ W', Below w1.heap.size w1 W' → W'.cell? ⟨w.heap.size, 0, none⟩ = some (.slice A ps.length c)) := fun W' h => (bS1.below h).cell 0 rfl
        refine (wpIn_wide (n := 4)).1 ?_
        refine wpIn_region_held (fun W' => Below w1.heap.size w1 W') 30 hmo ?_
        refine wpHeldIn_take (i := 0) (v := ?_) (plain_of (by kernel_rfl)) rfl (by kernel_rfl) (fun _ _ _ h => h) (yieldsSoIn_of (by kernel_rfl) ?_ (fun _ => rfl)) q0 ?_; rotate_left; focus (intro wq hw; clear hw; go_simp; try (with_reducible rfl))
        refine wpHeldIn_take (i := 1) (v := ?_) (plain_of (by kernel_rfl)) rfl (by kernel_rfl) (fun _ _ _ h => h) (yieldsSoIn_of (by kernel_rfl) ?_ (fun _ => rfl)) q0 ?_; rotate_left; focus (intro wq hw; clear hw; go_simp; try (with_reducible rfl))
        refine wpHeldIn_take (i := 2) (v := ?_) (plain_of (by kernel_rfl)) rfl (by kernel_rfl) (fun _ _ _ h => h) (yieldsSoIn_of (by kernel_rfl) ?_ (fun _ => rfl)) q0 ?_; rotate_left; focus (intro wq hw; clear hw; go_simp; try (with_reducible rfl))
        refine wpHeldIn_take (i := 3) (v := ?_) (plain_of (by kernel_rfl)) rfl (by kernel_rfl) (fun _ _ _ h => h) (yieldsSoIn_of (by kernel_rfl) ?_ (fun _ => rfl)) q0 ?_; rotate_left; focus (intro wq hw; clear hw; go_simp; try (with_reducible rfl))
        refine wpHeldIn_take (i := 4) (v := ?_) (plain_of (by kernel_rfl)) rfl (by kernel_rfl) (fun _ _ _ h => h) (yieldsSoIn_of (by kernel_rfl) ?_ (fun _ => rfl)) q0 ?_; rotate_left; focus (intro wq hw; clear hw; go_simp; try (with_reducible rfl))
        refine wpHeldIn_take (i := 5) (v := ?_) (plain_of (by kernel_rfl)) rfl (by kernel_rfl) (fun _ _ _ h => h) (yieldsSoIn_of (by kernel_rfl) ?_ (fun _ => rfl)) q0 ?_; rotate_left; focus (intro wq hw; have kq := KC.out wq hw; clear hw; go_simp; try (with_reducible rfl))
        refine wpHeldIn_take (i := 6) (v := ?_) (plain_of (by kernel_rfl)) rfl (by kernel_rfl) (fun _ _ _ h => h) (yieldsSoIn_of (by kernel_rfl) ?_ (fun _ => rfl)) q0 ?_; rotate_left; focus (intro wq hw; clear hw; go_simp; try (with_reducible rfl))
        refine wpHeldIn_take (i := 7) (v := ?_) (plain_of (by kernel_rfl)) rfl (by kernel_rfl) (fun _ _ _ h => h) (yieldsSoIn_of (by kernel_rfl) ?_ (fun _ => rfl)) q0 ?_; rotate_left; focus (intro wq hw; clear hw; go_simp; try (with_reducible rfl))
        refine wpHeldIn_take (i := 8) (v := ?_) (plain_of (by kernel_rfl)) rfl (by kernel_rfl) (fun _ _ _ h => h) (yieldsSoIn_of (by kernel_rfl) ?_ (fun _ => rfl)) q0 ?_; rotate_left; focus (intro wq hw; clear hw; go_simp; try (with_reducible rfl))
        refine wpHeldIn_take (i := 9) (v := ?_) (plain_of (by kernel_rfl)) rfl (by kernel_rfl) (fun _ _ _ h => h) (yieldsSoIn_of (by kernel_rfl) ?_ (fun _ => rfl)) q0 ?_; rotate_left; focus (intro wq hw; clear hw; go_simp; try (with_reducible rfl))
        refine wpHeldIn_done (by kernel_rfl) ?_ _
        go_simp
        have bS2 := bS1.below q0
        have hB2 := hB1.trans (q0.mono hB1.size)
        clear KC q0 bS1 hB1
        generalize World.drew w1 = w2 at *
        have s1 := bS2.cell 1 rfl
        have lS := bS2.lt
        go_wp2_with fail
        go_returns
        exact ⟨by rw [HR.out]; first | rfl | simp [HD.out], hB2⟩
      · have b3 : (D == M) = false := by simpa using x3
        have HR : Hid (R = D) := by unfold Hid; rw [HR0.out, if_neg (fun h => x2 h.2), if_neg (fun h => x3 h.2)]
        clear HR0 x1 x2 x3
        go_enter Tryz.func63, Tryz.ntmps63
        go_wp2_with fail
        have bS1 := BoxS.new w 61 #[.slice A ps.length c, .int .i64 cl, .int .i64 lo, .int .i64 hi, .slice Aw m cw]
        have hB1 : Below w.heap.size w (w.alloc (.cells #[.slice A ps.length c, .int .i64 cl, .int .i64 lo, .int .i64 hi, .slice Aw m cw] 61)) := by (repeat' (first | (with_reducible exact Below.refl _ _) | (with_reducible assumption) | (with_reducible refine Below.alloc ?_ ?_ _) | (with_reducible refine Below.drew ?_) | (with_reducible refine Below.setCell ?_ ?_ _) | go_size | (exact (by simp)) | omega))
        generalize World.alloc w _ = w1 at *
        have q0 : Below w1.heap.size w1 w1.drew := (Below.refl _ _).drew
        have KC : Hid (∀ W', Below w1.heap.size w1 W' → W'.cell? ⟨w.heap.size, 0, none⟩ = some (.slice A ps.length c)) := fun W' h => (bS1.below h).cell 0 rfl
        refine (wpIn_wide (n := 4)).1 ?_
        refine wpIn_region_held (fun W' => Below w1.heap.size w1 W') 30 hmo ?_
        refine wpHeldIn_take (i := 0) (v := ?_) (plain_of (by kernel_rfl)) rfl (by kernel_rfl) (fun _ _ _ h => h) (yieldsSoIn_of (by kernel_rfl) ?_ (fun _ => rfl)) q0 ?_; rotate_left; focus (intro wq hw; clear hw; go_simp; try (with_reducible rfl))
        refine wpHeldIn_take (i := 1) (v := ?_) (plain_of (by kernel_rfl)) rfl (by kernel_rfl) (fun _ _ _ h => h) (yieldsSoIn_of (by kernel_rfl) ?_ (fun _ => rfl)) q0 ?_; rotate_left; focus (intro wq hw; clear hw; go_simp; try (with_reducible rfl))
        refine wpHeldIn_take (i := 2) (v := ?_) (plain_of (by kernel_rfl)) rfl (by kernel_rfl) (fun _ _ _ h => h) (yieldsSoIn_of (by kernel_rfl) ?_ (fun _ => rfl)) q0 ?_; rotate_left; focus (intro wq hw; clear hw; go_simp; try (with_reducible rfl))
        refine wpHeldIn_take (i := 3) (v := ?_) (plain_of (by kernel_rfl)) rfl (by kernel_rfl) (fun _ _ _ h => h) (yieldsSoIn_of (by kernel_rfl) ?_ (fun _ => rfl)) q0 ?_; rotate_left; focus (intro wq hw; clear hw; go_simp; try (with_reducible rfl))
        refine wpHeldIn_take (i := 4) (v := ?_) (plain_of (by kernel_rfl)) rfl (by kernel_rfl) (fun _ _ _ h => h) (yieldsSoIn_of (by kernel_rfl) ?_ (fun _ => rfl)) q0 ?_; rotate_left; focus (intro wq hw; clear hw; go_simp; try (with_reducible rfl))
        refine wpHeldIn_take (i := 5) (v := ?_) (plain_of (by kernel_rfl)) rfl (by kernel_rfl) (fun _ _ _ h => h) (yieldsSoIn_of (by kernel_rfl) ?_ (fun _ => rfl)) q0 ?_; rotate_left; focus (intro wq hw; have kq := KC.out wq hw; clear hw; go_simp; try (with_reducible rfl))
        refine wpHeldIn_take (i := 6) (v := ?_) (plain_of (by kernel_rfl)) rfl (by kernel_rfl) (fun _ _ _ h => h) (yieldsSoIn_of (by kernel_rfl) ?_ (fun _ => rfl)) q0 ?_; rotate_left; focus (intro wq hw; clear hw; go_simp; try (with_reducible rfl))
        refine wpHeldIn_take (i := 7) (v := ?_) (plain_of (by kernel_rfl)) rfl (by kernel_rfl) (fun _ _ _ h => h) (yieldsSoIn_of (by kernel_rfl) ?_ (fun _ => rfl)) q0 ?_; rotate_left; focus (intro wq hw; clear hw; go_simp; try (with_reducible rfl))
        refine wpHeldIn_take (i := 8) (v := ?_) (plain_of (by kernel_rfl)) rfl (by kernel_rfl) (fun _ _ _ h => h) (yieldsSoIn_of (by kernel_rfl) ?_ (fun _ => rfl)) q0 ?_; rotate_left; focus (intro wq hw; clear hw; go_simp; try (with_reducible rfl))
        refine wpHeldIn_take (i := 9) (v := ?_) (plain_of (by kernel_rfl)) rfl (by kernel_rfl) (fun _ _ _ h => h) (yieldsSoIn_of (by kernel_rfl) ?_ (fun _ => rfl)) q0 ?_; rotate_left; focus (intro wq hw; clear hw; go_simp; try (with_reducible rfl))
        refine wpHeldIn_done (by kernel_rfl) ?_ _
        go_simp
        have bS2 := bS1.below q0
        have hB2 := hB1.trans (q0.mono hB1.size)
        clear KC q0 bS1 hB1
        generalize World.drew w1 = w2 at *
        have s1 := bS2.cell 1 rfl
        have lS := bS2.lt
        go_wp2_with fail
        go_returns
        exact ⟨by rw [HR.out]; first | rfl | simp [HD.out], hB2⟩
  · have b1 : (cl == 1) = false := by simpa using x1
    have HR : Hid (R = D) := by unfold Hid; rw [HR0.out, if_neg (fun h => x1 h.1), if_neg (fun h => x1 h.1)]
    clear HR0 x1
    go_enter Tryz.func63, Tryz.ntmps63
    go_wp2_with fail
    have bS1 := BoxS.new w 61 #[.slice A ps.length c, .int .i64 cl, .int .i64 lo, .int .i64 hi, .slice Aw m cw]
    have hB1 : Below w.heap.size w (w.alloc (.cells #[.slice A ps.length c, .int .i64 cl, .int .i64 lo, .int .i64 hi, .slice Aw m cw] 61)) := by (repeat' (first | (with_reducible exact Below.refl _ _) | (with_reducible assumption) | (with_reducible refine Below.alloc ?_ ?_ _) | (with_reducible refine Below.drew ?_) | (with_reducible refine Below.setCell ?_ ?_ _) | go_size | (exact (by simp)) | omega))
    generalize World.alloc w _ = w1 at *
    have q0 : Below w1.heap.size w1 w1.drew := (Below.refl _ _).drew
    have KC : Hid (∀ W', Below w1.heap.size w1 W' → W'.cell? ⟨w.heap.size, 0, none⟩ = some (.slice A ps.length c)) := fun W' h => (bS1.below h).cell 0 rfl
    refine (wpIn_wide (n := 4)).1 ?_
    refine wpIn_region_held (fun W' => Below w1.heap.size w1 W') 30 hmo ?_
    refine wpHeldIn_take (i := 0) (v := ?_) (plain_of (by kernel_rfl)) rfl (by kernel_rfl) (fun _ _ _ h => h) (yieldsSoIn_of (by kernel_rfl) ?_ (fun _ => rfl)) q0 ?_; rotate_left; focus (intro wq hw; clear hw; go_simp; try (with_reducible rfl))
    refine wpHeldIn_take (i := 1) (v := ?_) (plain_of (by kernel_rfl)) rfl (by kernel_rfl) (fun _ _ _ h => h) (yieldsSoIn_of (by kernel_rfl) ?_ (fun _ => rfl)) q0 ?_; rotate_left; focus (intro wq hw; clear hw; go_simp; try (with_reducible rfl))
    refine wpHeldIn_take (i := 2) (v := ?_) (plain_of (by kernel_rfl)) rfl (by kernel_rfl) (fun _ _ _ h => h) (yieldsSoIn_of (by kernel_rfl) ?_ (fun _ => rfl)) q0 ?_; rotate_left; focus (intro wq hw; clear hw; go_simp; try (with_reducible rfl))
    refine wpHeldIn_take (i := 3) (v := ?_) (plain_of (by kernel_rfl)) rfl (by kernel_rfl) (fun _ _ _ h => h) (yieldsSoIn_of (by kernel_rfl) ?_ (fun _ => rfl)) q0 ?_; rotate_left; focus (intro wq hw; clear hw; go_simp; try (with_reducible rfl))
    refine wpHeldIn_take (i := 4) (v := ?_) (plain_of (by kernel_rfl)) rfl (by kernel_rfl) (fun _ _ _ h => h) (yieldsSoIn_of (by kernel_rfl) ?_ (fun _ => rfl)) q0 ?_; rotate_left; focus (intro wq hw; clear hw; go_simp; try (with_reducible rfl))
    refine wpHeldIn_take (i := 5) (v := ?_) (plain_of (by kernel_rfl)) rfl (by kernel_rfl) (fun _ _ _ h => h) (yieldsSoIn_of (by kernel_rfl) ?_ (fun _ => rfl)) q0 ?_; rotate_left; focus (intro wq hw; have kq := KC.out wq hw; clear hw; go_simp; try (with_reducible rfl))
    refine wpHeldIn_take (i := 6) (v := ?_) (plain_of (by kernel_rfl)) rfl (by kernel_rfl) (fun _ _ _ h => h) (yieldsSoIn_of (by kernel_rfl) ?_ (fun _ => rfl)) q0 ?_; rotate_left; focus (intro wq hw; clear hw; go_simp; try (with_reducible rfl))
    refine wpHeldIn_take (i := 7) (v := ?_) (plain_of (by kernel_rfl)) rfl (by kernel_rfl) (fun _ _ _ h => h) (yieldsSoIn_of (by kernel_rfl) ?_ (fun _ => rfl)) q0 ?_; rotate_left; focus (intro wq hw; clear hw; go_simp; try (with_reducible rfl))
    refine wpHeldIn_take (i := 8) (v := ?_) (plain_of (by kernel_rfl)) rfl (by kernel_rfl) (fun _ _ _ h => h) (yieldsSoIn_of (by kernel_rfl) ?_ (fun _ => rfl)) q0 ?_; rotate_left; focus (intro wq hw; clear hw; go_simp; try (with_reducible rfl))
    refine wpHeldIn_take (i := 9) (v := ?_) (plain_of (by kernel_rfl)) rfl (by kernel_rfl) (fun _ _ _ h => h) (yieldsSoIn_of (by kernel_rfl) ?_ (fun _ => rfl)) q0 ?_; rotate_left; focus (intro wq hw; clear hw; go_simp; try (with_reducible rfl))
    refine wpHeldIn_done (by kernel_rfl) ?_ _
    go_simp
    have bS2 := bS1.below q0
    have hB2 := hB1.trans (q0.mono hB1.size)
    clear KC q0 bS1 hB1
    generalize World.drew w1 = w2 at *
    have s1 := bS2.cell 1 rfl
    have lS := bS2.lt
    go_wp2_with fail
    go_returns
    exact ⟨by rw [HR.out]; first | rfl | simp [HD.out], hB2⟩
set_option maxRecDepth 100000 in
set_option maxHeartbeats 8000000 in
theorem nearW_any (t : Wl.Trk) (A : Option Addr) (c : Nat) (Aw : Option Addr) (m cw : Nat) (a b : Int) (ha : -1000000 ≤ a ∧ a ≤ 1000000) (hb : -1000000 ≤ b ∧ b ≤ 1000000) (hl : t.ps.length ≤ 1000000000) (w : World) :
    Calls Tryz.prog 79 #[.agg (mcV t A c Aw m cw), .int .i64 a, .int .i64 b] w fun e w' => e = .returned (.bool (Wl.nearB t a b)) ∧ Below w.heap.size w w' := by
  have HS : Hid (∀ W, Calls Tryz.prog 63 #[.agg (mcV t A c Aw m cw), .int .i64 a, .int .i64 b] W fun e w' => e = .returned (.int .i64 (Wl.stepV t a b)) ∧ Below W.heap.size W w') := fun W => stepW_any t A c Aw m cw a b ha hb hl W
  have HN : Hid (Wl.nearB t a b = inB (Wl.stepV t a b) (-1) 1) := rfl
  have HW : Hid (∀ W S, Calls Tryz.prog 64 #[.int .i64 S, .int .i64 (-1), .int .i64 1] W fun e w' => e = .returned (.bool (inB S (-1) 1)) ∧ w' = W) := fun W S => withinW_any S (-1) 1 W
  generalize Wl.nearB t a b = R at *
  generalize Wl.stepV t a b = S at *
  obtain ⟨ps, cl, lo, hi⟩ := t
  unfold mcV at *
  dsimp only at *
  clear ha hb hl
  go_enter Tryz.func79, Tryz.ntmps79
  go_wp2_with fail
  have hB1 : Below w.heap.size w (w.alloc (.cells #[.slice A ps.length c, .int .i64 cl, .int .i64 lo, .int .i64 hi, .slice Aw m cw] 61)) := by (repeat' (first | (with_reducible exact Below.refl _ _) | (with_reducible assumption) | (with_reducible refine Below.alloc ?_ ?_ _) | (with_reducible refine Below.drew ?_) | (with_reducible refine Below.setCell ?_ ?_ _) | go_size | (exact (by simp)) | omega))
  generalize World.alloc w _ = w1 at *
  refine (HS.out _).mono ?_
  rintro e w2 ⟨rfl, hb2⟩
  have hB2 := hB1.trans (hb2.mono hB1.size)
  go_wp2_with fail
  refine (HW.out _ _).mono ?_
  rintro e wq ⟨rfl, hq⟩
  have hq := hq.symm
  subst hq
  go_wp2_with fail
  go_returns
  exact ⟨by rw [HN.out]; rfl, hB2⟩
end Go.Proofs.YtmjcdggmofohcaaGreat
namespace Go.Proofs.YtmjcdggmofohcaaGreat
open Go.RowKit
namespace Wl
def reTo (t : Trk) (a : Pt) : Nat → List Int
  | 0 => []
  | k + 1 => if reachB t (k : Int) a then reTo t a k ++ [(k : Int)] else reTo t a k
theorem reTo_eq (t : Trk) (a : Pt) : ∀ k, reTo t a k = ((List.range k).filter (fun p : Nat => reachB t (p : Int) a)).map (fun p : Nat => (p : Int))
  | 0 => rfl
  | k + 1 => by
    rw [List.range_succ, List.filter_append, List.map_append, ← reTo_eq t a k]
    show (if reachB t (k : Int) a then reTo t a k ++ [(k : Int)] else reTo t a k) = _
    cases h : reachB t (k : Int) a <;> simp [h]
theorem reTo_len (t : Trk) (a : Pt) : ∀ k, (reTo t a k).length ≤ k
  | 0 => Nat.le_refl _
  | k + 1 => by
    have := reTo_len t a k
    show (if reachB t (k : Int) a then reTo t a k ++ [(k : Int)] else reTo t a k).length ≤ k + 1
    split
    · simp; omega
    · omega
end Wl
def OwnIPost (L : List Int) (w : World) (e : Ending) (w' : World) : Prop := ∃ v : Value, e = .returned v ∧ Hid (w'.ownsRow w.heap.size 3 1 v L.length (L.map (Value.int .i64))) ∧ Below w.heap.size w w'
set_option maxRecDepth 100000 in
set_option maxHeartbeats 8000000 in
theorem reachO_any (t : Wl.Trk) (A Aw : Option Addr) (c m cw : Nat) (a : Wl.Pt) (hs : ∀ k, k < t.ps.length → Geo.sm (Wl.ptAt t.ps k)) (ha : Geo.sm a) (hl : t.ps.length ≤ 1000) (w : World) (hP : Prs w w.heap.size A t.ps) :
    Calls Tryz.prog 80 #[.agg (mcV t A c Aw m cw), .agg #[.int .i64 a.1, .int .i64 a.2]] w (OwnIPost (Wl.reachL t a) w) := by
  have HRE : Hid (∀ (p : Nat), p < t.ps.length → ∀ W, Below w.heap.size w W → Calls Tryz.prog 84 #[.agg (mcV t A c Aw m cw), .int .i64 (p : Nat), .agg #[.int .i64 a.1, .int .i64 a.2]] W fun e w' => e = .returned (.bool (Wl.reachB t p a)) ∧ Below W.heap.size W w') := fun p hp W hW => reachesW_any t A c Aw m cw p a hp (hs p hp) ha W (prs_keep hP hW) (by omega)
  have H0 : Hid (Wl.reTo t a 0 = []) := rfl
  have HS0 : Hid (∀ k : Nat, Wl.reTo t a (k + 1) = if Wl.reachB t (k : Int) a then Wl.reTo t a k ++ [(k : Int)] else Wl.reTo t a k) := fun _ => rfl
  have HE : Hid (Wl.reachL t a = Wl.reTo t a t.ps.length) := (Wl.reTo_eq t a _).symm
  have HL : Hid (∀ k, (Wl.reTo t a k).length ≤ k) := Wl.reTo_len t a
  generalize Wl.reTo t a = RT at *
  generalize Wl.reachL t a = RL at *
  obtain ⟨ps, cl, lo, hi⟩ := t
  obtain ⟨a1, a2⟩ := a
  unfold mcV at *
  dsimp only at *
  generalize hrb : (fun p : Int => Wl.reachB ⟨ps, cl, lo, hi⟩ p (a1, a2)) = RB at *
  have HRB : ∀ p : Int, Wl.reachB ⟨ps, cl, lo, hi⟩ p (a1, a2) = RB p := fun p => by rw [← hrb]
  simp only [HRB] at HRE HS0
  clear hP hs ha hrb HRB
  go_enter Tryz.func80, Tryz.ntmps80
  go_wp2_with fail
  have bM := (BoxS.new w 61 #[.slice A ps.length c, .int .i64 cl, .int .i64 lo, .int .i64 hi, .slice Aw m cw]).alloc (.cells #[.int .i64 a1, .int .i64 a2] 53)
  have bP := BoxS.new (w.alloc (.cells #[.slice A ps.length c, .int .i64 cl, .int .i64 lo, .int .i64 hi, .slice Aw m cw] 61)) 53 #[.int .i64 a1, .int .i64 a2]
  rw [World.size_alloc] at bP
  have hBb : Below w.heap.size w ((w.alloc (.cells #[.slice A ps.length c, .int .i64 cl, .int .i64 lo, .int .i64 hi, .slice Aw m cw] 61)).alloc (.cells #[.int .i64 a1, .int .i64 a2] 53)) := by (repeat' (first | (with_reducible exact Below.refl _ _) | (with_reducible assumption) | (with_reducible refine Below.alloc ?_ ?_ _) | (with_reducible refine Below.drew ?_) | (with_reducible refine Below.setCell ?_ ?_ _) | go_size | (exact (by simp)) | omega))
  generalize World.alloc (World.alloc w _) _ = wb at *
  have c0 := bM.cell 0 rfl
  have lM := bM.lt
  try go_wp2_with fail
  clear c0 lM
  go_loopg [5, 11] ps.length (fun g x5 x11 wx => ∃ k : Nat, Hid (k + g = ps.length) ∧ (k : Int) ≤ ps.length ∧ x11 = .int .i64 (k : Int) ∧ Below wb.heap.size wb wx ∧ wx.ownsRow wb.heap.size 3 1 x5 (RT k).length ((RT k).map (Value.int .i64)))
  case atStart => exact ⟨0, by simp [Hid], by omega, rfl, Below.refl _ _, by rw [H0.out]; exact owni_nil _ _⟩
  case round =>
    obtain ⟨k, hk, hk1, rfl, hbb, hown⟩ := hrel
    have hk0 := Int.natCast_nonneg k
    have bM1 := bM.below hbb
    have bP1 := bP.below hbb
    by_cases hlt : (k : Int) < ps.length
    · have hkn : k < ps.length := by omega
      have HS := Lib.hid (HS0.out k)
      have hln := HL.out k
      have HO := Lib.hid hown
      have HR1 := Lib.hid (fun W (hW : Below wr.heap.size wr W) => HRE.out k hkn W (hBb.trans (hbb.mono hBb.size |>.trans (hW.mono (Nat.le_trans hBb.size hbb.size)))))
      have hw1 : IntKind.i64.wrap ((k : Int) + 1) = (k : Int) + 1 := IntWalk.i64_in _ (by omega)
      have hsz := hbb.size
      clear hown HS0
      generalize RT k = L at *
      have s0 := bM1.cell 0 rfl
      have s1 := bM1.cell 1 rfl
      have s2 := bM1.cell 2 rfl
      have s3 := bM1.cell 3 rfl
      have s4 := bM1.cell 4 rfl
      have p0 := bP1.cell 0 rfl
      have p1 := bP1.cell 1 rfl
      have lM := bM1.lt
      have lP := bP1.lt
      cases hb : RB k with
      | true =>
        rw [hb] at HR1
        have HS2 : Hid (RT (k + 1) = L ++ [(k : Int)]) := by unfold Hid; rw [HS.out, if_pos hb]
        clear hb
        go_wp2_with fail
        refine (HR1.out _ (Below.refl _ _)).mono ?_
        rintro e w2 ⟨rfl, hb2⟩
        have HO2 := Lib.hid (owni_below HO.out hb2)
        have hb2' := hbb.trans (hb2.mono hbb.size)
        clear s0 s1 s2 s3 s4 p0 p1 lM lP HO
        go_wp2_with (at_builtin; refine wpList_pushi rfl (.tmp 18) (.tmp 20) rfl (k : Int) wb.heap.size _ _ _ rfl rfl HO2.out (by have := hb2'.size; omega) (by omega) ?_; intro v' w5 hown5 hb5; have HO5 := Lib.hid hown5; clear hown5)
        obtain ⟨g', hg'⟩ : ∃ g', gk = g' + 1 := ⟨gk - 1, by have := hk.out; omega⟩
        go_roundg g'
        case measure => omega
        case rel =>
          refine ⟨k + 1, by have := hk.out; simp only [Hid]; omega, by omega, by go_num, hb2'.trans hb5, ?_⟩
          rw [HS2.out, List.length_append, List.map_append]
          exact HO5.out
      | false =>
        rw [hb] at HR1
        have HS2 : Hid (RT (k + 1) = L) := by unfold Hid; rw [HS.out, hb]; rfl
        clear hb
        go_wp2_with fail
        refine (HR1.out _ (Below.refl _ _)).mono ?_
        rintro e w2 ⟨rfl, hb2⟩
        have HO2 := Lib.hid (owni_below HO.out hb2)
        have hb2' := hbb.trans (hb2.mono hbb.size)
        clear s0 s1 s2 s3 s4 p0 p1 lM lP HO
        go_wp2_with fail
        obtain ⟨g', hg'⟩ : ∃ g', gk = g' + 1 := ⟨gk - 1, by have := hk.out; omega⟩
        go_roundg g'
        case measure => omega
        case rel =>
          refine ⟨k + 1, by have := hk.out; simp only [Hid]; omega, by omega, by go_num, hb2', ?_⟩
          rw [HS2.out]
          exact HO2.out
    · have ek : k = ps.length := by omega
      rw [ek, ← HE.out] at hown
      have hI := Lib.hid (hown.mono hBb.size)
      have hBr := hBb.trans (hbb.mono hBb.size)
      clear hown ek
      go_wp2_with fail
      go_returns
      exact ⟨_, rfl, hI, hBr⟩
theorem reachP_any (t : Wl.Trk) (A Aw : Option Addr) (c m cw : Nat) (a : Wl.Pt) (hs : ∀ k, k < t.ps.length → Geo.sm (Wl.ptAt t.ps k)) (ha : Geo.sm a) (hl : t.ps.length ≤ 1000) (w : World) (hP : Prs w w.heap.size A t.ps) :
    Calls Tryz.prog 80 #[.agg (mcV t A c Aw m cw), .agg #[.int .i64 a.1, .int .i64 a.2]] w (IntsPost (Wl.reachL t a) w) :=
  (reachO_any t A Aw c m cw a hs ha hl w hP).mono fun e w' h => by
    obtain ⟨v, rfl, ho, hb⟩ := h
    exact ⟨v, rfl, Ints.of_own ho.out, hb⟩
namespace Wl
def reachRL (t : Trk) (a : Pt) : List Int := if trkB t then (if Geo.ptB a then reachL t a else []) else []
def reachRE (t : Trk) (a : Pt) : Int := if trkB t then (if Geo.ptB a then 0 else 1) else 50
theorem ptB_sm {a : Pt} (h : Geo.ptB a = true) : Geo.sm a := by
  unfold Geo.ptB inB at h
  simp only [Bool.and_eq_true, decide_eq_true_eq] at h
  unfold Geo.sm
  omega
theorem trk_sm {t : Trk} (h : trkB t = true) : ∀ k, k < t.ps.length → Geo.sm (ptAt t.ps k) := fun k hk => pts_sm (trk_parts h).1 hk
end Wl
end Go.Proofs.YtmjcdggmofohcaaGreat
namespace Go.Proofs.YtmjcdggmofohcaaGreat
open Go.RowKit Go.Shelf
attribute [local go_sem] Oper.semAt_some
/-- A leg: both its places are small enough to be reckoned with. -/
def smI (x : Int) : Prop := -1000 ≤ x ∧ x ≤ 1000
abbrev Leg := { p : Int × Int // smI p.1 ∧ smI p.2 }
theorem smI_getD {es : List Int} (h : ∀ e ∈ es, smI e) (k : Nat) : smI ((es[k]?).getD 0) := by
  cases e : es[k]? with
  | none => simp [smI]
  | some p => exact h p (List.mem_of_getElem? e)
def legAt (es : List Int) (h : ∀ e ∈ es, smI e) (k : Nat) : Leg := ⟨((es[k]?).getD 0, (es[(k + 1) % es.length]?).getD 0), smI_getD h _, smI_getD h _⟩
def legsTo (es : List Int) (h : ∀ e ∈ es, smI e) (k : Nat) : List Leg := (List.range k).map (legAt es h)
theorem legsTo_succ (es : List Int) (h : ∀ e ∈ es, smI e) (k : Nat) : legsTo es h (k + 1) = legsTo es h k ++ [legAt es h k] := by
  unfold legsTo
  rw [List.range_succ, List.map_append]
  rfl
set_option maxRecDepth 100000 in
set_option maxHeartbeats 4000000 in
/-- The closure of around: for every loop body that keeps what lay below n₀. -/
theorem aroundI_in (F : Fence) (n : Nat) (hF : F.fn 85) (hro : F.round = none) (hn : 1 ≤ n) (l Bs n₀ : Nat) (A : Option Addr) (c : Nat) (ps : List Int) (hps : ∀ e ∈ ps, smI e) (hlen : ps.length ≤ 100) (J Jx : List Leg → World → Prop)
    (hY : ∀ pre x W, J pre W → pre.length < ps.length → YieldAt F (n - 1) Tryz.prog l #[.int .i64 x.1.1, .int .i64 x.1.2] W fun e W' =>
      (e = .returned (.bool true) ∧ J (pre ++ [x]) W' ∧ KpS n₀ Bs W W') ∨ (e = .returned (.bool false) ∧ Jx (pre ++ [x]) W'))
    (W : World) (hJ : AbidesFrom W.heap.size J) (hBs : Boxed W Bs 27 (.slice A ps.length c)) (hn0 : n₀ ≤ W.heap.size) (hP : Ints W n₀ (.slice A ps.length c) ps) (h0 : J [] W) :
    CallsIn F n Tryz.prog 85 #[.func (.yield l) #[] #[], .pointer (some ⟨Bs, 0, none⟩)] W fun e W' => (∃ v, e = .returned v) ∧
      ((∃ ys, ys = legsTo ps hps ps.length ∧ J ys W') ∨ (∃ pre, (∃ k, k ≤ ps.length ∧ pre = legsTo ps hps k) ∧ Jx pre W')) := by
  refine callsIn_of_wp Tryz.func85 rfl hF ?_ hro
  have hBc := hBs.cell
  simp only [Tryz.ntmps85, List.size_toArray, List.length_cons, List.length_nil, Nat.reduceAdd, Nat.reduceSub, Array.replicate_succ, Array.replicate_zero, List.push_toArray, List.append_toArray, List.nil_append, List.cons_append]
  gi_wp2
  gi_loopw [7] (fun i wr => ∃ k : Nat, (k : Int) ≤ ps.length ∧ i = .int .i64 k ∧ KpS n₀ Bs W wr ∧ W.heap.size ≤ wr.heap.size ∧ J (legsTo ps hps k) wr) (fun i _ => (ps.length - intOf i).toNat)
  case atStart => exact ⟨0, by omega, rfl, KpS.refl _ _ _, Nat.le_refl _, h0⟩
  case round =>
    obtain ⟨k, hk, rfl, hB, hsz, hJs⟩ := hrel
    have hk0 := Int.natCast_nonneg k
    by_cases hlt : (k : Int) < ps.length
    · have hkl : k < ps.length := by omega
      have hpk : ps[k]? = some ps[k] := List.getElem?_eq_getElem hkl
      have hm : (k + 1) % ps.length < ps.length := Nat.mod_lt _ (by omega)
      have hqk : ps[(k + 1) % ps.length]? = some ps[(k + 1) % ps.length] := List.getElem?_eq_getElem hm
      rcases hP with ⟨_, e⟩ | ⟨b, off, cap, e, hb, hc⟩
      · subst e; simp at hkl
      injection e with eA _ ec
      subst eA ec
      have d0 := (hB.1.cell (p := ⟨b, off + k, none⟩) hb).trans (hc k _ hpk)
      have d2 := (hB.1.cell (p := ⟨b, off + (k + 1) % ps.length, none⟩) hb).trans (hc _ _ hqk)
      have hBs4 : Boxed wr Bs 27 (.slice (some ⟨b, off, none⟩) ps.length c) := hB.2 _ hBs
      have d4 := hBs4.cell
      have hbr : b < wr.heap.size := by omega
      have hBr : Bs < wr.heap.size := hBs4.lt
      clear hBs4
      have HE : (legAt ps hps k).1.1 = ps[k] := by unfold legAt; simp [hpk]
      have HE2 : (legAt ps hps k).1.2 = ps[(k + 1) % ps.length] := by unfold legAt; simp [hqk]
      have hr1 : ((k : Int) + 1) % (ps.length : Int) = (((k + 1) % ps.length : Nat) : Int) := by rw [Int.natCast_emod]; rfl
      have hr2 : ((k : Int) + 1).tmod (ps.length : Int) = (((k + 1) % ps.length : Nat) : Int) := by rw [Int.tmod_eq_emod_of_nonneg (by omega)]; exact hr1
      have hss := legsTo_succ ps hps k
      have hpl : (legsTo ps hps k).length < ps.length := by unfold legsTo; simp; omega
      generalize legAt ps hps k = sd at *
      generalize (k + 1) % ps.length = r at *
      generalize hpe : ps[k] = p at *
      generalize hqe : ps[r] = q at *
      have hw1 : IntKind.i64.wrap ((k : Int) + 1) = (k : Int) + 1 := IntWalk.i64_in _ (by omega)
      have hw2 : IntKind.i64.wrap (r : Int) = (r : Int) := IntWalk.i64_in _ (by omega)
      have hne : ¬ (ps.length : Int) = 0 := by omega
      have hne2 : ¬ ps.length = 0 := by omega
      have hne3 : ¬ ps = [] := by intro e; subst e; simp at hne2
      have hr0 : (0 : Int) ≤ (r : Int) := Int.natCast_nonneg r
      have hrl : (r : Int) < (ps.length : Int) := by omega
      obtain ⟨fn, tmps, assign, body, hy, hR⟩ := hY (legsTo ps hps k) sd wr.drew (hJ _ _ _ none hJs ⟨rfl, rfl, rfl, Nat.le_refl _, fun _ _ _ => rfl⟩ (fun r e => by cases e)) hpl
      rw [HE, HE2] at hy
      have HSS := Lib.hid hss
      have hk2 : KpS n₀ Bs wr wr.drew := KpS.drew _
      have HR := Lib.hid hR
      clear hpe hqe hpk hqk hss HE HE2 hR hm hJs hY
      gi_wp2
      have hmo : Tryz.prog.follows .mixedOrders = true := by kernel_rfl
      refine wpIn_region_held (fun W => W = wr.drew) 10 hmo ?_
      refine wpHeldIn_take (i := 0) (v := ?_) (plain_of (by kernel_rfl)) rfl (by kernel_rfl) (fun _ _ _ h => h) (yieldsSoIn_of (by kernel_rfl) ?_ (fun _ => rfl)) rfl ?_; rotate_left; focus (intro w hw; cases hw; go_simp; try (with_reducible rfl))
      refine wpHeldIn_take (i := 1) (v := ?_) (plain_of (by kernel_rfl)) rfl (by kernel_rfl) (fun _ _ _ h => h) (yieldsSoIn_of (by kernel_rfl) ?_ (fun _ => rfl)) rfl ?_; rotate_left; focus (intro w hw; cases hw; go_simp; try (with_reducible rfl))
      refine wpHeldIn_take (i := 2) (v := ?_) (plain_of (by kernel_rfl)) rfl (by kernel_rfl) (fun _ _ _ h => h) (yieldsSoIn_of (by kernel_rfl) ?_ (fun _ => rfl)) rfl ?_; rotate_left; focus (intro w hw; cases hw; go_simp; try (with_reducible rfl))
      refine wpHeldIn_take (i := 3) (v := ?_) (plain_of (by kernel_rfl)) rfl (by kernel_rfl) (fun _ _ _ h => h) (yieldsSoIn_of (by kernel_rfl) ?_ (fun _ => rfl)) rfl ?_; rotate_left; focus (intro w hw; cases hw; go_simp; try (with_reducible rfl))
      refine wpHeldIn_take (i := 4) (v := ?_) (plain_of (by kernel_rfl)) rfl (by kernel_rfl) (fun _ _ _ h => h) (yieldsSoIn_of (by kernel_rfl) ?_ (fun _ => rfl)) rfl ?_; rotate_left; focus (intro w hw; cases hw; go_simp; try (with_reducible rfl))
      refine wpHeldIn_take (i := 5) (v := ?_) (plain_of (by kernel_rfl)) rfl (by kernel_rfl) (fun _ _ _ h => h) (yieldsSoIn_of (by kernel_rfl) ?_ (fun _ => rfl)) rfl ?_; rotate_left; focus (intro w hw; cases hw; go_simp; try (with_reducible rfl))
      refine wpHeldIn_take (i := 6) (v := ?_) (plain_of (by kernel_rfl)) rfl (by kernel_rfl) (fun _ _ _ h => h) (yieldsSoIn_of (by kernel_rfl) ?_ (fun _ => rfl)) rfl ?_; rotate_left; focus (intro w hw; cases hw; go_simp; try (with_reducible rfl))
      refine wpHeldIn_take (i := 7) (v := ?_) (plain_of (by kernel_rfl)) rfl (by kernel_rfl) (fun _ _ _ h => h) (yieldsSoIn_of (by kernel_rfl) ?_ (fun _ => rfl)) rfl ?_; rotate_left; focus (intro w hw; cases hw; go_simp; try (with_reducible rfl))
      refine wpHeldIn_take (i := 8) (v := ?_) (plain_of (by kernel_rfl)) rfl (by kernel_rfl) (fun _ _ _ h => h) (yieldsSoIn_of (by kernel_rfl) ?_ (fun _ => rfl)) rfl ?_; rotate_left; focus (intro w hw; cases hw; go_simp; try (with_reducible rfl))
      refine wpHeldIn_take (i := 9) (v := ?_) (plain_of (by kernel_rfl)) rfl (by kernel_rfl) (fun _ _ _ h => h) (yieldsSoIn_of (by kernel_rfl) ?_ (fun _ => rfl)) rfl ?_; rotate_left; focus (intro w hw; cases hw; go_simp; try (with_reducible rfl))
      refine wpHeldIn_last (by kernel_rfl) rfl (by rfl) (fun K' hK' => ?_)
      go_simp
      refine HR.out.mono ?_
      rintro e W3 (⟨rfl, hJ3, hk3⟩ | ⟨rfl, hJx3⟩)
      · refine hK' _ _ ?_
        refine wpHeldIn_take (i := 11) (v := ?_) (plain_of (by kernel_rfl)) rfl (by kernel_rfl) (fun _ _ _ h => h) (yieldsSoIn_of (by kernel_rfl) ?_ (fun _ => rfl)) trivial ?_; rotate_left; focus (intro w _; go_simp; try (with_reducible rfl))
        refine wpHeldIn_done (by kernel_rfl) ?_ _
        gi_wp2
        go_roundw
        case rel => exact ⟨k + 1, by omega, by go_num, hB.trans (hk2.trans hk3), by have := hk2.1.size; have := hk3.1.size; omega, by rw [HSS.out]; exact hJ3⟩
        case measure => simp [intOf]; omega
      · refine hK' _ _ ?_
        refine wpHeldIn_take (i := 11) (v := ?_) (plain_of (by kernel_rfl)) rfl (by kernel_rfl) (fun _ _ _ h => h) (yieldsSoIn_of (by kernel_rfl) ?_ (fun _ => rfl)) trivial ?_; rotate_left; focus (intro w _; go_simp; try (with_reducible rfl))
        refine wpHeldIn_done (by kernel_rfl) ?_ _
        gi_wp2
        refine bodyPost_ret (results_none rfl _ _ _) rfl ?_
        exact ⟨⟨_, rfl⟩, .inr ⟨_, ⟨k + 1, by omega, HSS.out.symm⟩, hJx3⟩⟩
    · obtain rfl : k = ps.length := by omega
      gi_wp2
      go_end0
      exact ⟨⟨_, rfl⟩, .inl hJs⟩
end Go.Proofs.YtmjcdggmofohcaaGreat
