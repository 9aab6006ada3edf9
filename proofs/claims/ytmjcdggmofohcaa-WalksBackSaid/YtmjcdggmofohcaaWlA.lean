/- Walks: what the reference calls valid. -/
import Derived.Test.YtmjcdggmofohcaaWlP
import Derived.Test.YtmjcdggmofohcaaIntsB
import Derived.Test.YtmjcdggmofohcaaIter
namespace Go.Proofs.Ytmjcdggmofohcaa
open Go.RowKit
namespace Wl
def ptsTo (ps : List Pt) : Nat → Bool
  | 0 => true
  | k + 1 => ptsTo ps k && Geo.ptB (ptAt ps k)
def ptsB (ps : List Pt) : Bool := ptsTo ps ps.length && inB ps.length 1 8
def trkB (t : Trk) : Bool := (((ptsB t.ps && inB t.cl 0 1) && (decide (t.cl = 0) || decide (3 ≤ (t.ps.length : Int)))) && inB t.lo 0 t.hi) && decide (t.hi ≤ 320000)
def chkV (t : Trk) (ws : List Pt) : Int := if trkB t then (if ptsB ws then 0 else 51) else 50
theorem ptsTo_no {ps : List Pt} {k : Nat} (h : Geo.ptB (ptAt ps k) = false) : ∀ n, k < n → ptsTo ps n = false
  | n + 1, hk => by
    show (ptsTo ps n && Geo.ptB (ptAt ps n)) = false
    by_cases e : k = n
    · subst e; rw [h, Bool.and_false]
    · rw [ptsTo_no h n (by omega), Bool.false_and]
end Wl
/-- A track as a value. -/
def trV (t : Wl.Trk) (A : Option Addr) (c : Nat) : Array Value := #[.slice A t.ps.length c, .int .i64 t.cl, .int .i64 t.lo, .int .i64 t.hi]
theorem within1_5 (n l h : Int) (w : World) : Calls Try.prog 92 #[.int .i64 n, .int .i64 l, .int .i64 h] w fun e w' => e = .returned (.bool (inB n l h)) ∧ w' = w := by
  go_enter Try.func92, Try.ntmps92
  go_wp2
  all_goals
    go_ret
    refine ⟨ret_b ?_, rfl⟩
    rw [Bool.eq_iff_iff]
    simp [inB]
    try omega
theorem within5_any (n l h : Int) (w : World) : Calls Try.prog 70 #[.int .i64 n, .int .i64 l, .int .i64 h] w fun e w' => e = .returned (.bool (inB n l h)) ∧ w' = w := by
  go_enter Try.func70, Try.ntmps70
  go_wp2_with fail
  refine (within1_5 n l h _).mono ?_
  rintro e w1 ⟨rfl, rfl⟩
  go_wp2_with fail
  go_returns
  exact ⟨rfl, rfl⟩
theorem IsPoint5_any (x y : Int) (w : World) :
    Calls Try.prog 47 #[.agg #[.int .i64 x, .int .i64 y]] w fun e w' => e = .returned (.bool (Geo.ptB (x, y))) ∧ Below w.heap.size w w' := by
  have HO : Hid (Geo.ptB (x, y) = (inB x (-200) 200 && inB y (-200) 200)) := rfl
  generalize Geo.ptB (x, y) = V at *
  cases hX : inB x (-200) 200
  · have HX := Lib.hid hX
    clear hX
    go_enter Try.func47, Try.ntmps47
    go_wp2_with fail
    refine (within5_any _ _ _ _).mono ?_
    rintro e w1 ⟨rfl, rfl⟩
    rw [HX.out]
    go_wp2_with fail
    go_returns
    exact ⟨ret_b (by rw [HO.out, HX.out]; rfl), by (repeat' (first | (with_reducible exact Below.refl _ _) | (with_reducible assumption) | (with_reducible refine Below.alloc ?_ ?_ _) | (with_reducible refine below_drewN ?_ _) | (with_reducible refine Below.drew ?_) | (with_reducible refine Below.setCell ?_ ?_ _) | go_size))⟩
  · have HX := Lib.hid hX
    clear hX
    go_enter Try.func47, Try.ntmps47
    go_wp2_with fail
    refine (within5_any _ _ _ _).mono ?_
    rintro e w1 ⟨rfl, rfl⟩
    rw [HX.out]
    go_wp2_with fail
    refine (within5_any _ _ _ _).mono ?_
    rintro e w1 ⟨rfl, rfl⟩
    go_wp2_with fail
    go_returns
    exact ⟨ret_b (by rw [HO.out, HX.out]; rfl), by (repeat' (first | (with_reducible exact Below.refl _ _) | (with_reducible assumption) | (with_reducible refine Below.alloc ?_ ?_ _) | (with_reducible refine below_drewN ?_ _) | (with_reducible refine Below.drew ?_) | (with_reducible refine Below.setCell ?_ ?_ _) | go_size))⟩
set_option maxRecDepth 100000 in
set_option maxHeartbeats 8000000 in
theorem arePoints5_any (A : Option Addr) (c : Nat) (ps : List Wl.Pt) (hl : ps.length ≤ 1000000000) (w : World) (hP : Prs w w.heap.size A ps) :
    Calls Try.prog 73 #[.slice A ps.length c, .int .i64 8] w fun e w' => e = .returned (.bool (Wl.ptsB ps)) ∧ Below w.heap.size w w' := by
  have HP := Lib.hid hP
  have HB : Hid (Wl.ptsB ps = (Wl.ptsTo ps ps.length && inB ps.length 1 8)) := rfl
  have HS0 : Hid (∀ k, Wl.ptsTo ps (k + 1) = (Wl.ptsTo ps k && Geo.ptB (Wl.ptAt ps k))) := fun _ => rfl
  have H0 : Hid (Wl.ptsTo ps 0 = true) := rfl
  have HNO : Hid (∀ k, k < ps.length → Geo.ptB (Wl.ptAt ps k) = false → Wl.ptsTo ps ps.length = false) := fun k hk h => Wl.ptsTo_no h _ hk
  have HW : Hid (∀ W, Calls Try.prog 70 #[.int .i64 (ps.length : Nat), .int .i64 1, .int .i64 8] W fun e w' => e = .returned (.bool (inB ps.length 1 8)) ∧ w' = W) := fun W => within5_any _ 1 8 W
  generalize inB ps.length 1 8 = bl at *
  generalize Wl.ptsB ps = R at *
  generalize Wl.ptsTo ps = PT at *
  clear hP
  go_enter Try.func73, Try.ntmps73
  go_wp2_with fail
  go_loopw [5] (fun x wr => ∃ k : Nat, (k : Int) ≤ ps.length ∧ x = .int .i64 (k : Int) ∧ Hid (PT k = true) ∧ Below w.heap.size w wr) (fun x _ => (ps.length - intOf x).toNat)
  case atStart => exact ⟨0, by omega, rfl, H0, Below.refl _ _⟩
  case round =>
    obtain ⟨k, hk, rfl, hall, hB⟩ := hrel
    have hk0 := Int.natCast_nonneg k
    by_cases hlt : (k : Int) < ps.length
    · have hkn : k < ps.length := by omega
      have hPk : ps[k]? = some (Wl.ptAt ps k) := by unfold Wl.ptAt; rw [List.getElem?_eq_getElem hkn]; rfl
      obtain ⟨bp, op, rfl, hbp, hcp⟩ := HP.out (by omega)
      obtain ⟨h0, h1⟩ := hcp k _ hPk
      have a0 := (hB.cell (p := ⟨bp, _, none⟩) hbp).trans h0
      have a1 := (hB.cell (p := ⟨bp, _, none⟩) hbp).trans h1
      have HS := Lib.hid (HS0.out k)
      have HN := Lib.hid (HNO.out k hkn)
      have hw1 : IntKind.i64.wrap ((k : Int) + 1) = (k : Int) + 1 := IntWalk.i64_in _ (by omega)
      clear hcp hPk h0 h1 HNO
      generalize Wl.ptAt ps k = q at *
      obtain ⟨q1, q2⟩ := q
      dsimp only at a0 a1
      have HI : Hid (∀ W, Calls Try.prog 47 #[.agg #[.int .i64 q1, .int .i64 q2]] W fun e w' => e = .returned (.bool (Geo.ptB (q1, q2))) ∧ Below W.heap.size W w') := fun W => IsPoint5_any q1 q2 W
      cases hb : Geo.ptB (q1, q2)
      · rw [hb] at HI
        have HR : Hid (R = false) := by unfold Hid; rw [HB.out, HN.out hb, Bool.false_and]
        clear hb
        go_wp2_with fail
        refine (HI.out _).mono ?_
        rintro e w2 ⟨rfl, hb2⟩
        have hB2 := hB.trans (hb2.mono hB.size)
        go_wp2_with fail
        go_returns
        exact ⟨by rw [HR.out]; rfl, hB2⟩
      · rw [hb] at HI
        have HS2 : Hid (PT (k + 1) = true) := by unfold Hid; rw [HS.out, hall.out, hb]; rfl
        clear hb
        go_wp2_with fail
        refine (HI.out _).mono ?_
        rintro e w2 ⟨rfl, hb2⟩
        have hB2 := hB.trans (hb2.mono hB.size)
        go_wp2_with fail
        go_roundw
        case rel => exact ⟨k + 1, by omega, by go_num, HS2, hB2⟩
        case measure => simp [intOf]; omega
    · have e : k = ps.length := by omega
      have HR : Hid (R = bl) := by unfold Hid; rw [HB.out, ← e, hall.out, Bool.true_and]
      clear e
      go_wp2_with fail
      refine (HW.out _).mono ?_
      rintro e w2 ⟨rfl, hq⟩
      have hq := hq.symm
      subst hq
      go_wp2_with fail
      go_returns
      exact ⟨by rw [HR.out]; rfl, hB⟩
set_option maxRecDepth 100000 in
set_option maxHeartbeats 8000000 in
theorem IsWalk5_any (A : Option Addr) (c : Nat) (ps : List Wl.Pt) (hl : ps.length ≤ 1000000000) (w : World) (hP : Prs w w.heap.size A ps) :
    Calls Try.prog 39 #[.slice A ps.length c] w fun e w' => e = .returned (.bool (Wl.ptsB ps)) ∧ Below w.heap.size w w' := by
  have HA := Lib.hid (arePoints5_any A c ps hl w hP)
  clear hP
  go_enter Try.func39, Try.ntmps39
  go_wp2_with fail
  refine HA.out.mono ?_
  rintro e w2 ⟨rfl, hb2⟩
  go_wp2_with fail
  go_returns
  exact ⟨rfl, hb2⟩
set_option maxRecDepth 100000 in
set_option maxHeartbeats 8000000 in
theorem isTrack5_any (t : Wl.Trk) (A : Option Addr) (c : Nat) (hl : t.ps.length ≤ 1000000000) (w : World) (hP : Prs w w.heap.size A t.ps) :
    Calls Try.prog 51 #[.agg (trV t A c)] w fun e w' => e = .returned (.bool (Wl.trkB t)) ∧ Below w.heap.size w w' := by
  obtain ⟨ps, cl, lo, hi⟩ := t
  unfold trV
  dsimp only at *
  have HA : Hid (∀ W, Below w.heap.size w W → Calls Try.prog 73 #[.slice A ps.length c, .int .i64 8] W fun e w' => e = .returned (.bool (Wl.ptsB ps)) ∧ Below W.heap.size W w') := fun W hW => arePoints5_any A c ps hl W (prs_keep hP hW)
  have H1 : Hid (∀ W, Calls Try.prog 70 #[.int .i64 cl, .int .i64 0, .int .i64 1] W fun e w' => e = .returned (.bool (inB cl 0 1)) ∧ w' = W) := fun W => within5_any _ _ _ W
  have H4 : Hid (∀ W, Calls Try.prog 70 #[.int .i64 lo, .int .i64 0, .int .i64 hi] W fun e w' => e = .returned (.bool (inB lo 0 hi)) ∧ w' = W) := fun W => within5_any _ _ _ W
  have HR : Hid (Wl.trkB ⟨ps, cl, lo, hi⟩ = ((((Wl.ptsB ps && inB cl 0 1) && (decide (cl = 0) || decide (3 ≤ (ps.length : Int)))) && inB lo 0 hi) && decide (hi ≤ 320000))) := rfl
  generalize Wl.trkB ⟨ps, cl, lo, hi⟩ = R at *
  generalize Wl.ptsB ps = b0 at *
  generalize inB cl 0 1 = b1 at *
  generalize inB lo 0 hi = b4 at *
  clear hP hl
  cases b0 with
  | false =>
    go_enter Try.func51, Try.ntmps51
    go_wp2_with fail
    have bS1 := BoxS.new w 26 #[.slice A ps.length c, .int .i64 cl, .int .i64 lo, .int .i64 hi]
    have hB1 : Below w.heap.size w (w.alloc (.cells #[.slice A ps.length c, .int .i64 cl, .int .i64 lo, .int .i64 hi] 26)) := by (repeat' (first | (with_reducible exact Below.refl _ _) | (with_reducible assumption) | (with_reducible refine Below.alloc ?_ ?_ _) | (with_reducible refine Below.drew ?_) | (with_reducible refine Below.setCell ?_ ?_ _) | go_size | (exact (by simp)) | omega))
    generalize World.alloc w _ = w1 at *
    obtain ⟨s0, s1, s2, s3⟩ := boxS4 bS1
    have lS := bS1.lt
    go_wp2_with fail
    refine (HA.out _ hB1).mono ?_
    rintro e w2 ⟨rfl, hb2⟩
    have bS2 := bS1.below hb2
    have hB2 := hB1.trans (hb2.mono hB1.size)
    clear s0 s1 s2 s3 lS bS1 hb2 hB1
    obtain ⟨s0, s1, s2, s3⟩ := boxS4 bS2
    have lS := bS2.lt
    go_wp2_with fail
    go_returns
    exact ⟨by rw [HR.out]; first | rfl | simp [*], hB2⟩
  | true =>
    cases b1 with
    | false =>
      go_enter Try.func51, Try.ntmps51
      go_wp2_with fail
      have bS1 := BoxS.new w 26 #[.slice A ps.length c, .int .i64 cl, .int .i64 lo, .int .i64 hi]
      have hB1 : Below w.heap.size w (w.alloc (.cells #[.slice A ps.length c, .int .i64 cl, .int .i64 lo, .int .i64 hi] 26)) := by (repeat' (first | (with_reducible exact Below.refl _ _) | (with_reducible assumption) | (with_reducible refine Below.alloc ?_ ?_ _) | (with_reducible refine Below.drew ?_) | (with_reducible refine Below.setCell ?_ ?_ _) | go_size | (exact (by simp)) | omega))
      generalize World.alloc w _ = w1 at *
      obtain ⟨s0, s1, s2, s3⟩ := boxS4 bS1
      have lS := bS1.lt
      go_wp2_with fail
      refine (HA.out _ hB1).mono ?_
      rintro e w2 ⟨rfl, hb2⟩
      have bS2 := bS1.below hb2
      have hB2 := hB1.trans (hb2.mono hB1.size)
      clear s0 s1 s2 s3 lS bS1 hb2 hB1
      obtain ⟨s0, s1, s2, s3⟩ := boxS4 bS2
      have lS := bS2.lt
      go_wp2_with fail
      refine (H1.out _).mono ?_
      rintro e wq ⟨rfl, hq⟩
      have hq := hq.symm
      subst hq
      go_wp2_with fail
      go_returns
      exact ⟨by rw [HR.out]; first | rfl | simp [*], hB2⟩
    | true =>
      by_cases hc : cl = 0
      · have hcb : (cl == 0) = true := by simpa using hc
        have hcd : decide (cl = 0) = true := decide_eq_true hc
        clear hc
        cases b4 with
        | false =>
          go_enter Try.func51, Try.ntmps51
          go_wp2_with fail
          have bS1 := BoxS.new w 26 #[.slice A ps.length c, .int .i64 cl, .int .i64 lo, .int .i64 hi]
          have hB1 : Below w.heap.size w (w.alloc (.cells #[.slice A ps.length c, .int .i64 cl, .int .i64 lo, .int .i64 hi] 26)) := by (repeat' (first | (with_reducible exact Below.refl _ _) | (with_reducible assumption) | (with_reducible refine Below.alloc ?_ ?_ _) | (with_reducible refine Below.drew ?_) | (with_reducible refine Below.setCell ?_ ?_ _) | go_size | (exact (by simp)) | omega))
          generalize World.alloc w _ = w1 at *
          obtain ⟨s0, s1, s2, s3⟩ := boxS4 bS1
          have lS := bS1.lt
          go_wp2_with fail
          refine (HA.out _ hB1).mono ?_
          rintro e w2 ⟨rfl, hb2⟩
          have bS2 := bS1.below hb2
          have hB2 := hB1.trans (hb2.mono hB1.size)
          clear s0 s1 s2 s3 lS bS1 hb2 hB1
          obtain ⟨s0, s1, s2, s3⟩ := boxS4 bS2
          have lS := bS2.lt
          go_wp2_with fail
          refine (H1.out _).mono ?_
          rintro e wq ⟨rfl, hq⟩
          have hq := hq.symm
          subst hq
          go_wp2_with fail
          refine (H4.out _).mono ?_
          rintro e wq ⟨rfl, hq⟩
          have hq := hq.symm
          subst hq
          go_wp2_with fail
          go_returns
          exact ⟨by rw [HR.out]; first | rfl | simp [*], hB2⟩
        | true =>
          by_cases hd : hi ≤ 320000
          · have dd : decide (hi ≤ 320000) = true := decide_eq_true hd
            go_enter Try.func51, Try.ntmps51
            go_wp2_with fail
            have bS1 := BoxS.new w 26 #[.slice A ps.length c, .int .i64 cl, .int .i64 lo, .int .i64 hi]
            have hB1 : Below w.heap.size w (w.alloc (.cells #[.slice A ps.length c, .int .i64 cl, .int .i64 lo, .int .i64 hi] 26)) := by (repeat' (first | (with_reducible exact Below.refl _ _) | (with_reducible assumption) | (with_reducible refine Below.alloc ?_ ?_ _) | (with_reducible refine Below.drew ?_) | (with_reducible refine Below.setCell ?_ ?_ _) | go_size | (exact (by simp)) | omega))
            generalize World.alloc w _ = w1 at *
            obtain ⟨s0, s1, s2, s3⟩ := boxS4 bS1
            have lS := bS1.lt
            go_wp2_with fail
            refine (HA.out _ hB1).mono ?_
            rintro e w2 ⟨rfl, hb2⟩
            have bS2 := bS1.below hb2
            have hB2 := hB1.trans (hb2.mono hB1.size)
            clear s0 s1 s2 s3 lS bS1 hb2 hB1
            obtain ⟨s0, s1, s2, s3⟩ := boxS4 bS2
            have lS := bS2.lt
            go_wp2_with fail
            refine (H1.out _).mono ?_
            rintro e wq ⟨rfl, hq⟩
            have hq := hq.symm
            subst hq
            go_wp2_with fail
            refine (H4.out _).mono ?_
            rintro e wq ⟨rfl, hq⟩
            have hq := hq.symm
            subst hq
            go_wp2_with fail
            go_returns
            exact ⟨by rw [HR.out]; first | rfl | simp [*], hB2⟩
          · have dd : decide (hi ≤ 320000) = false := decide_eq_false hd
            go_enter Try.func51, Try.ntmps51
            go_wp2_with fail
            have bS1 := BoxS.new w 26 #[.slice A ps.length c, .int .i64 cl, .int .i64 lo, .int .i64 hi]
            have hB1 : Below w.heap.size w (w.alloc (.cells #[.slice A ps.length c, .int .i64 cl, .int .i64 lo, .int .i64 hi] 26)) := by (repeat' (first | (with_reducible exact Below.refl _ _) | (with_reducible assumption) | (with_reducible refine Below.alloc ?_ ?_ _) | (with_reducible refine Below.drew ?_) | (with_reducible refine Below.setCell ?_ ?_ _) | go_size | (exact (by simp)) | omega))
            generalize World.alloc w _ = w1 at *
            obtain ⟨s0, s1, s2, s3⟩ := boxS4 bS1
            have lS := bS1.lt
            go_wp2_with fail
            refine (HA.out _ hB1).mono ?_
            rintro e w2 ⟨rfl, hb2⟩
            have bS2 := bS1.below hb2
            have hB2 := hB1.trans (hb2.mono hB1.size)
            clear s0 s1 s2 s3 lS bS1 hb2 hB1
            obtain ⟨s0, s1, s2, s3⟩ := boxS4 bS2
            have lS := bS2.lt
            go_wp2_with fail
            refine (H1.out _).mono ?_
            rintro e wq ⟨rfl, hq⟩
            have hq := hq.symm
            subst hq
            go_wp2_with fail
            refine (H4.out _).mono ?_
            rintro e wq ⟨rfl, hq⟩
            have hq := hq.symm
            subst hq
            go_wp2_with fail
            go_returns
            exact ⟨by rw [HR.out]; first | rfl | simp [*], hB2⟩
      · have hcb : (cl == 0) = false := by simpa using hc
        have hcd : decide (cl = 0) = false := decide_eq_false hc
        by_cases h3 : 3 ≤ ps.length
        · have h3i : (3 : Int) ≤ (ps.length : Int) := by omega
          have h3d : decide ((3 : Int) ≤ (ps.length : Int)) = true := decide_eq_true h3i
          have h3n : decide (3 ≤ ps.length) = true := decide_eq_true h3
          cases b4 with
          | false =>
            go_enter Try.func51, Try.ntmps51
            go_wp2_with fail
            have bS1 := BoxS.new w 26 #[.slice A ps.length c, .int .i64 cl, .int .i64 lo, .int .i64 hi]
            have hB1 : Below w.heap.size w (w.alloc (.cells #[.slice A ps.length c, .int .i64 cl, .int .i64 lo, .int .i64 hi] 26)) := by (repeat' (first | (with_reducible exact Below.refl _ _) | (with_reducible assumption) | (with_reducible refine Below.alloc ?_ ?_ _) | (with_reducible refine Below.drew ?_) | (with_reducible refine Below.setCell ?_ ?_ _) | go_size | (exact (by simp)) | omega))
            generalize World.alloc w _ = w1 at *
            obtain ⟨s0, s1, s2, s3⟩ := boxS4 bS1
            have lS := bS1.lt
            go_wp2_with fail
            refine (HA.out _ hB1).mono ?_
            rintro e w2 ⟨rfl, hb2⟩
            have bS2 := bS1.below hb2
            have hB2 := hB1.trans (hb2.mono hB1.size)
            clear s0 s1 s2 s3 lS bS1 hb2 hB1
            obtain ⟨s0, s1, s2, s3⟩ := boxS4 bS2
            have lS := bS2.lt
            go_wp2_with fail
            refine (H1.out _).mono ?_
            rintro e wq ⟨rfl, hq⟩
            have hq := hq.symm
            subst hq
            go_wp2_with fail
            refine (H4.out _).mono ?_
            rintro e wq ⟨rfl, hq⟩
            have hq := hq.symm
            subst hq
            go_wp2_with fail
            go_returns
            exact ⟨by rw [HR.out]; first | rfl | simp [*], hB2⟩
          | true =>
            by_cases hd : hi ≤ 320000
            · have dd : decide (hi ≤ 320000) = true := decide_eq_true hd
              go_enter Try.func51, Try.ntmps51
              go_wp2_with fail
              have bS1 := BoxS.new w 26 #[.slice A ps.length c, .int .i64 cl, .int .i64 lo, .int .i64 hi]
              have hB1 : Below w.heap.size w (w.alloc (.cells #[.slice A ps.length c, .int .i64 cl, .int .i64 lo, .int .i64 hi] 26)) := by (repeat' (first | (with_reducible exact Below.refl _ _) | (with_reducible assumption) | (with_reducible refine Below.alloc ?_ ?_ _) | (with_reducible refine Below.drew ?_) | (with_reducible refine Below.setCell ?_ ?_ _) | go_size | (exact (by simp)) | omega))
              generalize World.alloc w _ = w1 at *
              obtain ⟨s0, s1, s2, s3⟩ := boxS4 bS1
              have lS := bS1.lt
              go_wp2_with fail
              refine (HA.out _ hB1).mono ?_
              rintro e w2 ⟨rfl, hb2⟩
              have bS2 := bS1.below hb2
              have hB2 := hB1.trans (hb2.mono hB1.size)
              clear s0 s1 s2 s3 lS bS1 hb2 hB1
              obtain ⟨s0, s1, s2, s3⟩ := boxS4 bS2
              have lS := bS2.lt
              go_wp2_with fail
              refine (H1.out _).mono ?_
              rintro e wq ⟨rfl, hq⟩
              have hq := hq.symm
              subst hq
              go_wp2_with fail
              refine (H4.out _).mono ?_
              rintro e wq ⟨rfl, hq⟩
              have hq := hq.symm
              subst hq
              go_wp2_with fail
              go_returns
              exact ⟨by rw [HR.out]; first | rfl | simp [*], hB2⟩
            · have dd : decide (hi ≤ 320000) = false := decide_eq_false hd
              go_enter Try.func51, Try.ntmps51
              go_wp2_with fail
              have bS1 := BoxS.new w 26 #[.slice A ps.length c, .int .i64 cl, .int .i64 lo, .int .i64 hi]
              have hB1 : Below w.heap.size w (w.alloc (.cells #[.slice A ps.length c, .int .i64 cl, .int .i64 lo, .int .i64 hi] 26)) := by (repeat' (first | (with_reducible exact Below.refl _ _) | (with_reducible assumption) | (with_reducible refine Below.alloc ?_ ?_ _) | (with_reducible refine Below.drew ?_) | (with_reducible refine Below.setCell ?_ ?_ _) | go_size | (exact (by simp)) | omega))
              generalize World.alloc w _ = w1 at *
              obtain ⟨s0, s1, s2, s3⟩ := boxS4 bS1
              have lS := bS1.lt
              go_wp2_with fail
              refine (HA.out _ hB1).mono ?_
              rintro e w2 ⟨rfl, hb2⟩
              have bS2 := bS1.below hb2
              have hB2 := hB1.trans (hb2.mono hB1.size)
              clear s0 s1 s2 s3 lS bS1 hb2 hB1
              obtain ⟨s0, s1, s2, s3⟩ := boxS4 bS2
              have lS := bS2.lt
              go_wp2_with fail
              refine (H1.out _).mono ?_
              rintro e wq ⟨rfl, hq⟩
              have hq := hq.symm
              subst hq
              go_wp2_with fail
              refine (H4.out _).mono ?_
              rintro e wq ⟨rfl, hq⟩
              have hq := hq.symm
              subst hq
              go_wp2_with fail
              go_returns
              exact ⟨by rw [HR.out]; first | rfl | simp [*], hB2⟩
        · have h3i : ¬ (3 : Int) ≤ (ps.length : Int) := by omega
          have h3d : decide ((3 : Int) ≤ (ps.length : Int)) = false := decide_eq_false h3i
          have h3n : decide (3 ≤ ps.length) = false := decide_eq_false h3
          go_enter Try.func51, Try.ntmps51
          go_wp2_with fail
          have bS1 := BoxS.new w 26 #[.slice A ps.length c, .int .i64 cl, .int .i64 lo, .int .i64 hi]
          have hB1 : Below w.heap.size w (w.alloc (.cells #[.slice A ps.length c, .int .i64 cl, .int .i64 lo, .int .i64 hi] 26)) := by (repeat' (first | (with_reducible exact Below.refl _ _) | (with_reducible assumption) | (with_reducible refine Below.alloc ?_ ?_ _) | (with_reducible refine Below.drew ?_) | (with_reducible refine Below.setCell ?_ ?_ _) | go_size | (exact (by simp)) | omega))
          generalize World.alloc w _ = w1 at *
          obtain ⟨s0, s1, s2, s3⟩ := boxS4 bS1
          have lS := bS1.lt
          go_wp2_with fail
          refine (HA.out _ hB1).mono ?_
          rintro e w2 ⟨rfl, hb2⟩
          have bS2 := bS1.below hb2
          have hB2 := hB1.trans (hb2.mono hB1.size)
          clear s0 s1 s2 s3 lS bS1 hb2 hB1
          obtain ⟨s0, s1, s2, s3⟩ := boxS4 bS2
          have lS := bS2.lt
          go_wp2_with fail
          refine (H1.out _).mono ?_
          rintro e wq ⟨rfl, hq⟩
          have hq := hq.symm
          subst hq
          go_wp2_with fail
          go_returns
          exact ⟨by rw [HR.out]; first | rfl | simp [*], hB2⟩
set_option maxRecDepth 100000 in
set_option maxHeartbeats 8000000 in
theorem Check5_any (t : Wl.Trk) (ws : List Wl.Pt) (A B : Option Addr) (c d : Nat) (hl : t.ps.length ≤ 1000000000) (hlw : ws.length ≤ 1000000000) (w : World) (hP : Prs w w.heap.size A t.ps) (hQ : Prs w w.heap.size B ws) :
    Calls Try.prog 15 #[.agg (trV t A c), .slice B ws.length d] w (ErrPost (Wl.chkV t ws) w) := by
  have HT : Hid (∀ W, Below w.heap.size w W → Calls Try.prog 51 #[.agg (trV t A c)] W fun e w' => e = .returned (.bool (Wl.trkB t)) ∧ Below W.heap.size W w') := fun W hW => isTrack5_any t A c hl W (prs_keep hP hW)
  have HW : Hid (∀ W, Below w.heap.size w W → Calls Try.prog 39 #[.slice B ws.length d] W fun e w' => e = .returned (.bool (Wl.ptsB ws)) ∧ Below W.heap.size W w') := fun W hW => IsWalk5_any B d ws hlw W (prs_keep hQ hW)
  have HR : Hid (Wl.chkV t ws = if Wl.trkB t then (if Wl.ptsB ws then 0 else 51) else 50) := rfl
  generalize Wl.chkV t ws = R at *
  generalize Wl.trkB t = bt at *
  generalize Wl.ptsB ws = bw at *
  clear hP hQ hl hlw
  obtain ⟨ps, cl, lo, hi⟩ := t
  unfold trV at *
  dsimp only at *
  cases bt with
  | false =>
    go_enter Try.func15, Try.ntmps15
    go_wp2_with fail
    have hB1 : Below w.heap.size w (w.alloc (.cells #[.slice A ps.length c, .int .i64 cl, .int .i64 lo, .int .i64 hi] 26)) := by (repeat' (first | (with_reducible exact Below.refl _ _) | (with_reducible assumption) | (with_reducible refine Below.alloc ?_ ?_ _) | (with_reducible refine Below.drew ?_) | (with_reducible refine Below.setCell ?_ ?_ _) | go_size | (exact (by simp)) | omega))
    generalize World.alloc w _ = w1 at *
    refine (HT.out _ hB1).mono ?_
    rintro e w2 ⟨rfl, hb2⟩
    have hB2 := hB1.trans (hb2.mono hB1.size)
    clear hb2 hB1
    go_wp2_with fail
    go_returns
    exact ⟨by rw [HR.out]; rfl, hB2⟩
  | true =>
    cases bw with
    | false =>
      go_enter Try.func15, Try.ntmps15
      go_wp2_with fail
      have hB1 : Below w.heap.size w (w.alloc (.cells #[.slice A ps.length c, .int .i64 cl, .int .i64 lo, .int .i64 hi] 26)) := by (repeat' (first | (with_reducible exact Below.refl _ _) | (with_reducible assumption) | (with_reducible refine Below.alloc ?_ ?_ _) | (with_reducible refine Below.drew ?_) | (with_reducible refine Below.setCell ?_ ?_ _) | go_size | (exact (by simp)) | omega))
      generalize World.alloc w _ = w1 at *
      refine (HT.out _ hB1).mono ?_
      rintro e w2 ⟨rfl, hb2⟩
      have hB2 := hB1.trans (hb2.mono hB1.size)
      clear hb2 hB1
      go_wp2_with fail
      refine (HW.out _ hB2).mono ?_
      rintro e w3 ⟨rfl, hb3⟩
      have hB3 := hB2.trans (hb3.mono hB2.size)
      go_wp2_with fail
      go_returns
      exact ⟨by rw [HR.out]; rfl, hB3⟩
    | true =>
      go_enter Try.func15, Try.ntmps15
      go_wp2_with fail
      have hB1 : Below w.heap.size w (w.alloc (.cells #[.slice A ps.length c, .int .i64 cl, .int .i64 lo, .int .i64 hi] 26)) := by (repeat' (first | (with_reducible exact Below.refl _ _) | (with_reducible assumption) | (with_reducible refine Below.alloc ?_ ?_ _) | (with_reducible refine Below.drew ?_) | (with_reducible refine Below.setCell ?_ ?_ _) | go_size | (exact (by simp)) | omega))
      generalize World.alloc w _ = w1 at *
      refine (HT.out _ hB1).mono ?_
      rintro e w2 ⟨rfl, hb2⟩
      have hB2 := hB1.trans (hb2.mono hB1.size)
      clear hb2 hB1
      go_wp2_with fail
      refine (HW.out _ hB2).mono ?_
      rintro e w3 ⟨rfl, hb3⟩
      have hB3 := hB2.trans (hb3.mono hB2.size)
      go_wp2_with fail
      go_returns
      exact ⟨by rw [HR.out]; rfl, hB3⟩
end Go.Proofs.Ytmjcdggmofohcaa
