/- Texts of this proof, one behind the other: WlP, WlA, WlB. Each says its own conditions. -/
import Derived.Test.YtmjcdggmofohcaaGreatMh01
import Derived.Test.YtmjcdggmofohcaaGreatMh04
namespace Go.Proofs.YtmjcdggmofohcaaGreat
namespace Wl
abbrev Pt := Int × Int
def cr (a b : Pt) : Int := a.1 * b.2 - a.2 * b.1
theorem cr_self (a : Pt) : cr a a = 0 := by unfold cr; rw [Int.mul_comm a.1 a.2]; omega
theorem cr_neg (a b : Pt) : cr a b = -cr b a := by unfold cr; rw [Int.mul_comm a.1 b.2, Int.mul_comm a.2 b.1]; omega
def ptAt (ps : List Pt) (k : Nat) : Pt := (ps[k]?).getD (0, 0)
/-- The doubled area of the first sides. -/
def dblTo (ps : List Pt) : Nat → Int
  | 0 => 0
  | k + 1 => dblTo ps k + cr (ptAt ps k) (ptAt ps ((k + 1) % ps.length))
def dbl (ps : List Pt) : Int := dblTo ps ps.length
/-- A track: its places, whether it is closed, and the reach of the arm. -/
structure Trk where
  ps : List Pt
  cl : Int
  lo : Int
  hi : Int
/-- By how many places another one is ahead, as the program says it. -/
def stepV (t : Trk) (a b : Int) : Int := if t.cl = 1 ∧ b - a = (t.ps.length : Int) - 1 then -1 else if t.cl = 1 ∧ b - a = -((t.ps.length : Int) - 1) then 1 else b - a
def nearB (t : Trk) (a b : Int) : Bool := decide (-1 ≤ stepV t a b) && decide (stepV t a b ≤ 1)
def sqV (t : Trk) (p : Int) (at' : Pt) : Int := (at'.1 - (ptAt t.ps p.toNat).1) * (at'.1 - (ptAt t.ps p.toNat).1) + (at'.2 - (ptAt t.ps p.toNat).2) * (at'.2 - (ptAt t.ps p.toNat).2)
def reachB (t : Trk) (p : Int) (at' : Pt) : Bool := decide (t.lo ≤ sqV t p at') && decide (sqV t p at' ≤ t.hi)
def eAt (es : List Int) (k : Nat) : Int := (es[k % es.length]?).getD 0
/-- The steps of the first elbows. -/
def stTo (t : Trk) (es : List Int) : Nat → Int
  | 0 => 0
  | k + 1 => stTo t es k + stepV t (eAt es k) (eAt es (k + 1))
def turnsV (t : Trk) (es : List Int) : Int := (stTo t es es.length).tdiv t.ps.length
def quad (a b c d : Pt) : Int := cr a b + cr b c + cr c d + cr d a
def swTo (t : Trk) (ws : List Pt) (es : List Int) : Nat → Int
  | 0 => 0
  | k + 1 => swTo t ws es k + quad (ptAt t.ps (eAt es k).toNat) (ptAt ws (k % ws.length)) (ptAt ws ((k + 1) % ws.length)) (ptAt t.ps (eAt es (k + 1)).toNat)
def sweepV (t : Trk) (ws : List Pt) (es : List Int) : Int := swTo t ws es es.length
/-- Elbows: places of the track, each near the one before. -/
def elbB (t : Trk) (es : List Int) : Prop := (∀ k, 0 ≤ eAt es k ∧ eAt es k < t.ps.length) ∧ ∀ k, nearB t (eAt es k) (eAt es (k + 1)) = true
def crTo (t : Trk) (es : List Int) : Nat → Int
  | 0 => 0
  | k + 1 => crTo t es k + cr (ptAt t.ps (eAt es k).toNat) (ptAt t.ps (eAt es (k + 1)).toNat)
theorem eAt_round (es : List Int) : eAt es es.length = eAt es 0 := by unfold eAt; rw [Nat.mod_self, Nat.zero_mod]
/-- What one step adds. -/
theorem step_cr {t : Trk} {a b : Int} (hc : t.cl = 1 → 3 ≤ t.ps.length) (ha : 0 ≤ a ∧ a < t.ps.length) (hb : 0 ≤ b ∧ b < t.ps.length) (hn : nearB t a b = true) :
    ∃ m : Int, a + stepV t a b - b = m * t.ps.length ∧ (t.cl ≠ 1 → m = 0) ∧ cr (ptAt t.ps a.toNat) (ptAt t.ps b.toNat) = dblTo t.ps b.toNat - dblTo t.ps a.toNat + m * dbl t.ps := by
  unfold nearB at hn
  simp only [Bool.and_eq_true, decide_eq_true_eq] at hn
  obtain ⟨i, rfl⟩ : ∃ i : Nat, a = i := ⟨a.toNat, by omega⟩
  obtain ⟨j, rfl⟩ : ∃ j : Nat, b = j := ⟨b.toNat, by omega⟩
  simp only [Int.toNat_natCast]
  have sc : ∀ k, dblTo t.ps (k + 1) = dblTo t.ps k + cr (ptAt t.ps k) (ptAt t.ps ((k + 1) % t.ps.length)) := fun k => rfl
  have inn : ∀ k, k + 1 < t.ps.length → dblTo t.ps (k + 1) = dblTo t.ps k + cr (ptAt t.ps k) (ptAt t.ps (k + 1)) := fun k hk => by rw [sc, Nat.mod_eq_of_lt hk]
  have out : ∀ k, k + 1 = t.ps.length → dbl t.ps = dblTo t.ps k + cr (ptAt t.ps k) (ptAt t.ps 0) := fun k hk => by unfold dbl; rw [← hk, sc, ← hk, Nat.mod_self]
  have d0 : dblTo t.ps 0 = 0 := rfl
  unfold stepV at hn ⊢
  split at hn
  · rename_i h1
    rw [if_pos h1]
    have h3 := hc h1.1
    have hi : i = 0 := by omega
    have hj : j + 1 = t.ps.length := by omega
    subst hi
    refine ⟨-1, by omega, fun h => absurd h1.1 h, ?_⟩
    rw [cr_neg, out j hj, d0]
    omega
  · rename_i h1
    rw [if_neg h1]
    split at hn
    · rename_i h2
      rw [if_pos h2]
      have h3 := hc h2.1
      have hj : j = 0 := by omega
      have hi : i + 1 = t.ps.length := by omega
      subst hj
      refine ⟨1, by omega, fun h => absurd h2.1 h, ?_⟩
      rw [out i hi, d0]
      omega
    · rename_i h2
      rw [if_neg h2]
      refine ⟨0, by omega, fun _ => rfl, ?_⟩
      rcases (by omega : j = i ∨ j = i + 1 ∨ i = j + 1) with e | e | e
      · subst e; rw [cr_self]; omega
      · subst e; rw [inn i (by omega)]; omega
      · subst e; rw [cr_neg, inn j (by omega)]; omega
theorem path {t : Trk} {es : List Int} (hc : t.cl = 1 → 3 ≤ t.ps.length) (h : elbB t es) : ∀ k, ∃ m : Int,
    eAt es 0 + stTo t es k - eAt es k = m * t.ps.length ∧ (t.cl ≠ 1 → m = 0) ∧ crTo t es k = dblTo t.ps (eAt es k).toNat - dblTo t.ps (eAt es 0).toNat + m * dbl t.ps
  | 0 => ⟨0, by simp [stTo], fun _ => rfl, by simp [crTo]⟩
  | k + 1 => by
    obtain ⟨m, h1, h2, h3⟩ := path hc h k
    obtain ⟨m', g1, g2, g3⟩ := step_cr hc (h.1 k) (h.1 (k + 1)) (h.2 k)
    have e1 : stTo t es (k + 1) = stTo t es k + stepV t (eAt es k) (eAt es (k + 1)) := rfl
    have e2 : crTo t es (k + 1) = crTo t es k + cr (ptAt t.ps (eAt es k).toNat) (ptAt t.ps (eAt es (k + 1)).toNat) := rfl
    refine ⟨m + m', ?_, fun hh => by rw [h2 hh, g2 hh]; rfl, ?_⟩
    · rw [e1, Int.add_mul]; omega
    · rw [e2, h3, g3, Int.add_mul]; omega
/-- The doubled area of the first sides, the points taken around. -/
def arTo (ws : List Pt) : Nat → Int
  | 0 => 0
  | k + 1 => arTo ws k + cr (ptAt ws (k % ws.length)) (ptAt ws ((k + 1) % ws.length))
theorem arTo_dbl (ws : List Pt) : ∀ k, k ≤ ws.length → arTo ws k = dblTo ws k
  | 0, _ => rfl
  | k + 1, h => by
    have ih := arTo_dbl ws k (by omega)
    show arTo ws k + _ = dblTo ws k + _
    rw [ih, Nat.mod_eq_of_lt (show k < ws.length by omega)]
theorem sw_step (t : Trk) (ws : List Pt) (es : List Int) : ∀ k, swTo t ws es k = cr (ptAt t.ps (eAt es 0).toNat) (ptAt ws (0 % ws.length)) - cr (ptAt t.ps (eAt es k).toNat) (ptAt ws (k % ws.length)) + arTo ws k - crTo t es k
  | 0 => by simp [swTo, arTo, crTo]
  | k + 1 => by
    have ih := sw_step t ws es k
    show swTo t ws es k + quad _ _ _ _ = _ - _ + (arTo ws k + _) - (crTo t es k + _)
    rw [ih]
    unfold quad
    rw [cr_neg (ptAt ws ((k + 1) % ws.length)) (ptAt t.ps (eAt es (k + 1)).toNat), cr_neg (ptAt t.ps (eAt es (k + 1)).toNat) (ptAt t.ps (eAt es k).toNat)]
    omega
/-- A sweep is the doubled area of the walk, less the turns times that of the track. -/
theorem meter {t : Trk} {ws : List Pt} {es : List Int} (hc : t.cl = 1 → 3 ≤ t.ps.length) (h : elbB t es) (hl : es.length = ws.length) (h0 : 0 < t.ps.length) :
    sweepV t ws es = dbl ws - turnsV t es * dbl t.ps ∧ (t.cl ≠ 1 → turnsV t es = 0) := by
  obtain ⟨m, h1, h2, h3⟩ := path hc h es.length
  have hr := eAt_round es
  rw [hr] at h1 h3
  have hs : stTo t es es.length = m * t.ps.length := by omega
  have ht : turnsV t es = m := by
    unfold turnsV
    rw [hs]
    exact Int.mul_tdiv_cancel _ (by omega)
  rw [ht]
  refine ⟨?_, h2⟩
  unfold sweepV
  rw [sw_step, h3, hr, hl, arTo_dbl ws _ (Nat.le_refl _), Nat.mod_self, Nat.zero_mod]
  unfold dbl
  omega
end Wl
end Go.Proofs.YtmjcdggmofohcaaGreat
namespace Go.Proofs.YtmjcdggmofohcaaGreat
open Go.RowKit
namespace Wl
def ptsTo (ps : List Pt) : Nat → Bool
  | 0 => true
  | k + 1 => ptsTo ps k && Geo.ptB (ptAt ps k)
def ptsB (ps : List Pt) : Bool := ptsTo ps ps.length && inB ps.length 1 8
def trkB (t : Trk) : Bool := (((ptsB t.ps && inB t.cl 0 1) && (decide (t.cl = 0) || decide (3 ≤ (t.ps.length : Int)))) && inB t.lo 0 t.hi) && decide (t.hi ≤ 320000)
def chkV (t : Trk) (ws : List Pt) : Int := if trkB t then (if ptsB ws then 0 else 51) else 50
theorem ptsTo_no {ps : List Pt} {k : Nat} (h : Geo.ptB (ptAt ps k) = false) : ∀ n, k < n → ptsTo ps n = false
  | n + 1, hk => by
    show (ptsTo ps n && Geo.ptB (ptAt ps n)) = false
    by_cases e : k = n
    · subst e; rw [h, Bool.and_false]
    · rw [ptsTo_no h n (by omega), Bool.false_and]
end Wl
/-- A track as a value. -/
def trV (t : Wl.Trk) (A : Option Addr) (c : Nat) : Array Value := #[.slice A t.ps.length c, .int .i64 t.cl, .int .i64 t.lo, .int .i64 t.hi]
theorem within1_5 (n l h : Int) (w : World) : Calls Tryz.prog 60 #[.int .i64 n, .int .i64 l, .int .i64 h] w fun e w' => e = .returned (.bool (inB n l h)) ∧ w' = w := by
  go_enter Tryz.func60, Tryz.ntmps60
  go_wp2
  all_goals
    go_ret
    refine ⟨ret_b ?_, rfl⟩
    rw [Bool.eq_iff_iff]
    simp [inB]
    try omega
theorem within5_any (n l h : Int) (w : World) : Calls Tryz.prog 32 #[.int .i64 n, .int .i64 l, .int .i64 h] w fun e w' => e = .returned (.bool (inB n l h)) ∧ w' = w := by
  go_enter Tryz.func32, Tryz.ntmps32
  go_wp2_with fail
  refine (within1_5 n l h _).mono ?_
  rintro e w1 ⟨rfl, rfl⟩
  go_wp2_with fail
  go_returns
  exact ⟨rfl, rfl⟩
theorem IsPoint5_any (x y : Int) (w : World) :
    Calls Tryz.prog 69 #[.agg #[.int .i64 x, .int .i64 y]] w fun e w' => e = .returned (.bool (Geo.ptB (x, y))) ∧ Below w.heap.size w w' := by
  have HO : Hid (Geo.ptB (x, y) = (inB x (-200) 200 && inB y (-200) 200)) := rfl
  generalize Geo.ptB (x, y) = V at *
  cases hX : inB x (-200) 200
  · have HX := Lib.hid hX
    clear hX
    go_enter Tryz.func69, Tryz.ntmps69
    go_wp2_with fail
    refine (within5_any _ _ _ _).mono ?_
    rintro e w1 ⟨rfl, rfl⟩
    rw [HX.out]
    go_wp2_with fail
    go_returns
    exact ⟨ret_b (by rw [HO.out, HX.out]; rfl), by (repeat' (first | (with_reducible exact Below.refl _ _) | (with_reducible assumption) | (with_reducible refine Below.alloc ?_ ?_ _) | (with_reducible refine below_drewN ?_ _) | (with_reducible refine Below.drew ?_) | (with_reducible refine Below.setCell ?_ ?_ _) | go_size))⟩
  · have HX := Lib.hid hX
    clear hX
    go_enter Tryz.func69, Tryz.ntmps69
    go_wp2_with fail
    refine (within5_any _ _ _ _).mono ?_
    rintro e w1 ⟨rfl, rfl⟩
    rw [HX.out]
    go_wp2_with fail
    refine (within5_any _ _ _ _).mono ?_
    rintro e w1 ⟨rfl, rfl⟩
    go_wp2_with fail
    go_returns
    exact ⟨ret_b (by rw [HO.out, HX.out]; rfl), by (repeat' (first | (with_reducible exact Below.refl _ _) | (with_reducible assumption) | (with_reducible refine Below.alloc ?_ ?_ _) | (with_reducible refine below_drewN ?_ _) | (with_reducible refine Below.drew ?_) | (with_reducible refine Below.setCell ?_ ?_ _) | go_size))⟩
set_option maxRecDepth 100000 in
set_option maxHeartbeats 8000000 in
theorem arePoints5_any (A : Option Addr) (c : Nat) (ps : List Wl.Pt) (hl : ps.length ≤ 1000000000) (w : World) (hP : Prs w w.heap.size A ps) :
    Calls Tryz.prog 42 #[.slice A ps.length c, .int .i64 8] w fun e w' => e = .returned (.bool (Wl.ptsB ps)) ∧ Below w.heap.size w w' := by
  have HP := Lib.hid hP
  have HB : Hid (Wl.ptsB ps = (Wl.ptsTo ps ps.length && inB ps.length 1 8)) := rfl
  have HS0 : Hid (∀ k, Wl.ptsTo ps (k + 1) = (Wl.ptsTo ps k && Geo.ptB (Wl.ptAt ps k))) := fun _ => rfl
  have H0 : Hid (Wl.ptsTo ps 0 = true) := rfl
  have HNO : Hid (∀ k, k < ps.length → Geo.ptB (Wl.ptAt ps k) = false → Wl.ptsTo ps ps.length = false) := fun k hk h => Wl.ptsTo_no h _ hk
  have HW : Hid (∀ W, Calls Tryz.prog 32 #[.int .i64 (ps.length : Nat), .int .i64 1, .int .i64 8] W fun e w' => e = .returned (.bool (inB ps.length 1 8)) ∧ w' = W) := fun W => within5_any _ 1 8 W
  generalize inB ps.length 1 8 = bl at *
  generalize Wl.ptsB ps = R at *
  generalize Wl.ptsTo ps = PT at *
  clear hP
  go_enter Tryz.func42, Tryz.ntmps42
  go_wp2_with fail
  go_loopw [5] (fun x wr => ∃ k : Nat, (k : Int) ≤ ps.length ∧ x = .int .i64 (k : Int) ∧ Hid (PT k = true) ∧ Below w.heap.size w wr) (fun x _ => (ps.length - intOf x).toNat)
  case atStart => exact ⟨0, by omega, rfl, H0, Below.refl _ _⟩
  case round =>
    obtain ⟨k, hk, rfl, hall, hB⟩ := hrel
    have hk0 := Int.natCast_nonneg k
    by_cases hlt : (k : Int) < ps.length
    · have hkn : k < ps.length := by omega
      have hPk : ps[k]? = some (Wl.ptAt ps k) := by unfold Wl.ptAt; rw [List.getElem?_eq_getElem hkn]; rfl
      obtain ⟨bp, op, rfl, hbp, hcp⟩ := HP.out (by omega)
      obtain ⟨h0, h1⟩ := hcp k _ hPk
      have a0 := (hB.cell (p := ⟨bp, _, none⟩) hbp).trans h0
      have a1 := (hB.cell (p := ⟨bp, _, none⟩) hbp).trans h1
      have HS := Lib.hid (HS0.out k)
      have HN := Lib.hid (HNO.out k hkn)
      have hw1 : IntKind.i64.wrap ((k : Int) + 1) = (k : Int) + 1 := IntWalk.i64_in _ (by omega)
      clear hcp hPk h0 h1 HNO
      generalize Wl.ptAt ps k = q at *
      obtain ⟨q1, q2⟩ := q
      dsimp only at a0 a1
      have HI : Hid (∀ W, Calls Tryz.prog 69 #[.agg #[.int .i64 q1, .int .i64 q2]] W fun e w' => e = .returned (.bool (Geo.ptB (q1, q2))) ∧ Below W.heap.size W w') := fun W => IsPoint5_any q1 q2 W
      cases hb : Geo.ptB (q1, q2)
      · rw [hb] at HI
        have HR : Hid (R = false) := by unfold Hid; rw [HB.out, HN.out hb, Bool.false_and]
        clear hb
        go_wp2_with fail
        refine (HI.out _).mono ?_
        rintro e w2 ⟨rfl, hb2⟩
        have hB2 := hB.trans (hb2.mono hB.size)
        go_wp2_with fail
        go_returns
        exact ⟨by rw [HR.out]; rfl, hB2⟩
      · rw [hb] at HI
        have HS2 : Hid (PT (k + 1) = true) := by unfold Hid; rw [HS.out, hall.out, hb]; rfl
        clear hb
        go_wp2_with fail
        refine (HI.out _).mono ?_
        rintro e w2 ⟨rfl, hb2⟩
        have hB2 := hB.trans (hb2.mono hB.size)
        go_wp2_with fail
        go_roundw
        case rel => exact ⟨k + 1, by omega, by go_num, HS2, hB2⟩
        case measure => simp [intOf]; omega
    · have e : k = ps.length := by omega
      have HR : Hid (R = bl) := by unfold Hid; rw [HB.out, ← e, hall.out, Bool.true_and]
      clear e
      go_wp2_with fail
      refine (HW.out _).mono ?_
      rintro e w2 ⟨rfl, hq⟩
      have hq := hq.symm
      subst hq
      go_wp2_with fail
      go_returns
      exact ⟨by rw [HR.out]; rfl, hB⟩
set_option maxRecDepth 100000 in
set_option maxHeartbeats 8000000 in
theorem IsWalk5_any (A : Option Addr) (c : Nat) (ps : List Wl.Pt) (hl : ps.length ≤ 1000000000) (w : World) (hP : Prs w w.heap.size A ps) :
    Calls Tryz.prog 17 #[.slice A ps.length c] w fun e w' => e = .returned (.bool (Wl.ptsB ps)) ∧ Below w.heap.size w w' := by
  have HA := Lib.hid (arePoints5_any A c ps hl w hP)
  clear hP
  go_enter Tryz.func17, Tryz.ntmps17
  go_wp2_with fail
  refine HA.out.mono ?_
  rintro e w2 ⟨rfl, hb2⟩
  go_wp2_with fail
  go_returns
  exact ⟨rfl, hb2⟩
set_option maxRecDepth 100000 in
set_option maxHeartbeats 8000000 in
theorem isTrack5_any (t : Wl.Trk) (A : Option Addr) (c : Nat) (hl : t.ps.length ≤ 1000000000) (w : World) (hP : Prs w w.heap.size A t.ps) :
    Calls Tryz.prog 16 #[.agg (trV t A c)] w fun e w' => e = .returned (.bool (Wl.trkB t)) ∧ Below w.heap.size w w' := by
  obtain ⟨ps, cl, lo, hi⟩ := t
  unfold trV
  dsimp only at *
  have HA : Hid (∀ W, Below w.heap.size w W → Calls Tryz.prog 42 #[.slice A ps.length c, .int .i64 8] W fun e w' => e = .returned (.bool (Wl.ptsB ps)) ∧ Below W.heap.size W w') := fun W hW => arePoints5_any A c ps hl W (prs_keep hP hW)
  have H1 : Hid (∀ W, Calls Tryz.prog 32 #[.int .i64 cl, .int .i64 0, .int .i64 1] W fun e w' => e = .returned (.bool (inB cl 0 1)) ∧ w' = W) := fun W => within5_any _ _ _ W
  have H4 : Hid (∀ W, Calls Tryz.prog 32 #[.int .i64 lo, .int .i64 0, .int .i64 hi] W fun e w' => e = .returned (.bool (inB lo 0 hi)) ∧ w' = W) := fun W => within5_any _ _ _ W
  have HR : Hid (Wl.trkB ⟨ps, cl, lo, hi⟩ = ((((Wl.ptsB ps && inB cl 0 1) && (decide (cl = 0) || decide (3 ≤ (ps.length : Int)))) && inB lo 0 hi) && decide (hi ≤ 320000))) := rfl
  generalize Wl.trkB ⟨ps, cl, lo, hi⟩ = R at *
  generalize Wl.ptsB ps = b0 at *
  generalize inB cl 0 1 = b1 at *
  generalize inB lo 0 hi = b4 at *
  clear hP hl
  cases b0 with
  | false =>
    go_enter Tryz.func16, Tryz.ntmps16
    go_wp2_with fail
    have bS1 := BoxS.new w 26 #[.slice A ps.length c, .int .i64 cl, .int .i64 lo, .int .i64 hi]
    have hB1 : Below w.heap.size w (w.alloc (.cells #[.slice A ps.length c, .int .i64 cl, .int .i64 lo, .int .i64 hi] 26)) := by (repeat' (first | (with_reducible exact Below.refl _ _) | (with_reducible assumption) | (with_reducible refine Below.alloc ?_ ?_ _) | (with_reducible refine Below.drew ?_) | (with_reducible refine Below.setCell ?_ ?_ _) | go_size | (exact (by simp)) | omega))
    generalize World.alloc w _ = w1 at *
    obtain ⟨s0, s1, s2, s3⟩ := boxS4 bS1
    have lS := bS1.lt
    go_wp2_with fail
    refine (HA.out _ hB1).mono ?_
    rintro e w2 ⟨rfl, hb2⟩
    have bS2 := bS1.below hb2
    have hB2 := hB1.trans (hb2.mono hB1.size)
    clear s0 s1 s2 s3 lS bS1 hb2 hB1
    obtain ⟨s0, s1, s2, s3⟩ := boxS4 bS2
    have lS := bS2.lt
    go_wp2_with fail
    go_returns
    exact ⟨by rw [HR.out]; first | rfl | simp [*], hB2⟩
  | true =>
    cases b1 with
    | false =>
      go_enter Tryz.func16, Tryz.ntmps16
      go_wp2_with fail
      have bS1 := BoxS.new w 26 #[.slice A ps.length c, .int .i64 cl, .int .i64 lo, .int .i64 hi]
      have hB1 : Below w.heap.size w (w.alloc (.cells #[.slice A ps.length c, .int .i64 cl, .int .i64 lo, .int .i64 hi] 26)) := by (repeat' (first | (with_reducible exact Below.refl _ _) | (with_reducible assumption) | (with_reducible refine Below.alloc ?_ ?_ _) | (with_reducible refine Below.drew ?_) | (with_reducible refine Below.setCell ?_ ?_ _) | go_size | (exact (by simp)) | omega))
      generalize World.alloc w _ = w1 at *
      obtain ⟨s0, s1, s2, s3⟩ := boxS4 bS1
      have lS := bS1.lt
      go_wp2_with fail
      refine (HA.out _ hB1).mono ?_
      rintro e w2 ⟨rfl, hb2⟩
      have bS2 := bS1.below hb2
      have hB2 := hB1.trans (hb2.mono hB1.size)
      clear s0 s1 s2 s3 lS bS1 hb2 hB1
      obtain ⟨s0, s1, s2, s3⟩ := boxS4 bS2
      have lS := bS2.lt
      go_wp2_with fail
      refine (H1.out _).mono ?_
      rintro e wq ⟨rfl, hq⟩
      have hq := hq.symm
      subst hq
      go_wp2_with fail
      go_returns
      exact ⟨by rw [HR.out]; first | rfl | simp [*], hB2⟩
    | true =>
      by_cases hc : cl = 0
      · have hcb : (cl == 0) = true := by simpa using hc
        have hcd : decide (cl = 0) = true := decide_eq_true hc
        clear hc
        cases b4 with
        | false =>
          go_enter Tryz.func16, Tryz.ntmps16
          go_wp2_with fail
          have bS1 := BoxS.new w 26 #[.slice A ps.length c, .int .i64 cl, .int .i64 lo, .int .i64 hi]
          have hB1 : Below w.heap.size w (w.alloc (.cells #[.slice A ps.length c, .int .i64 cl, .int .i64 lo, .int .i64 hi] 26)) := by (repeat' (first | (with_reducible exact Below.refl _ _) | (with_reducible assumption) | (with_reducible refine Below.alloc ?_ ?_ _) | (with_reducible refine Below.drew ?_) | (with_reducible refine Below.setCell ?_ ?_ _) | go_size | (exact (by simp)) | omega))
          generalize World.alloc w _ = w1 at *
          obtain ⟨s0, s1, s2, s3⟩ := boxS4 bS1
          have lS := bS1.lt
          go_wp2_with fail
          refine (HA.out _ hB1).mono ?_
          rintro e w2 ⟨rfl, hb2⟩
          have bS2 := bS1.below hb2
          have hB2 := hB1.trans (hb2.mono hB1.size)
          clear s0 s1 s2 s3 lS bS1 hb2 hB1
          obtain ⟨s0, s1, s2, s3⟩ := boxS4 bS2
          have lS := bS2.lt
          go_wp2_with fail
          refine (H1.out _).mono ?_
          rintro e wq ⟨rfl, hq⟩
          have hq := hq.symm
          subst hq
          go_wp2_with fail
          refine (H4.out _).mono ?_
          rintro e wq ⟨rfl, hq⟩
          have hq := hq.symm
          subst hq
          go_wp2_with fail
          go_returns
          exact ⟨by rw [HR.out]; first | rfl | simp [*], hB2⟩
        | true =>
          by_cases hd : hi ≤ 320000
          · have dd : decide (hi ≤ 320000) = true := decide_eq_true hd
            go_enter Tryz.func16, Tryz.ntmps16
            go_wp2_with fail
            have bS1 := BoxS.new w 26 #[.slice A ps.length c, .int .i64 cl, .int .i64 lo, .int .i64 hi]
            have hB1 : Below w.heap.size w (w.alloc (.cells #[.slice A ps.length c, .int .i64 cl, .int .i64 lo, .int .i64 hi] 26)) := by (repeat' (first | (with_reducible exact Below.refl _ _) | (with_reducible assumption) | (with_reducible refine Below.alloc ?_ ?_ _) | (with_reducible refine Below.drew ?_) | (with_reducible refine Below.setCell ?_ ?_ _) | go_size | (exact (by simp)) | omega))
            generalize World.alloc w _ = w1 at *
            obtain ⟨s0, s1, s2, s3⟩ := boxS4 bS1
            have lS := bS1.lt
            go_wp2_with fail
            refine (HA.out _ hB1).mono ?_
            rintro e w2 ⟨rfl, hb2⟩
            have bS2 := bS1.below hb2
            have hB2 := hB1.trans (hb2.mono hB1.size)
            clear s0 s1 s2 s3 lS bS1 hb2 hB1
            obtain ⟨s0, s1, s2, s3⟩ := boxS4 bS2
            have lS := bS2.lt
            go_wp2_with fail
            refine (H1.out _).mono ?_
            rintro e wq ⟨rfl, hq⟩
            have hq := hq.symm
            subst hq
            go_wp2_with fail
            refine (H4.out _).mono ?_
            rintro e wq ⟨rfl, hq⟩
            have hq := hq.symm
            subst hq
            go_wp2_with fail
            go_returns
            exact ⟨by rw [HR.out]; first | rfl | simp [*], hB2⟩
          · have dd : decide (hi ≤ 320000) = false := decide_eq_false hd
            go_enter Tryz.func16, Tryz.ntmps16
            go_wp2_with fail
            have bS1 := BoxS.new w 26 #[.slice A ps.length c, .int .i64 cl, .int .i64 lo, .int .i64 hi]
            have hB1 : Below w.heap.size w (w.alloc (.cells #[.slice A ps.length c, .int .i64 cl, .int .i64 lo, .int .i64 hi] 26)) := by (repeat' (first | (with_reducible exact Below.refl _ _) | (with_reducible assumption) | (with_reducible refine Below.alloc ?_ ?_ _) | (with_reducible refine Below.drew ?_) | (with_reducible refine Below.setCell ?_ ?_ _) | go_size | (exact (by simp)) | omega))
            generalize World.alloc w _ = w1 at *
            obtain ⟨s0, s1, s2, s3⟩ := boxS4 bS1
            have lS := bS1.lt
            go_wp2_with fail
            refine (HA.out _ hB1).mono ?_
            rintro e w2 ⟨rfl, hb2⟩
            have bS2 := bS1.below hb2
            have hB2 := hB1.trans (hb2.mono hB1.size)
            clear s0 s1 s2 s3 lS bS1 hb2 hB1
            obtain ⟨s0, s1, s2, s3⟩ := boxS4 bS2
            have lS := bS2.lt
            go_wp2_with fail
            refine (H1.out _).mono ?_
            rintro e wq ⟨rfl, hq⟩
            have hq := hq.symm
            subst hq
            go_wp2_with fail
            refine (H4.out _).mono ?_
            rintro e wq ⟨rfl, hq⟩
            have hq := hq.symm
            subst hq
            go_wp2_with fail
            go_returns
            exact ⟨by rw [HR.out]; first | rfl | simp [*], hB2⟩
      · have hcb : (cl == 0) = false := by simpa using hc
        have hcd : decide (cl = 0) = false := decide_eq_false hc
        by_cases h3 : 3 ≤ ps.length
        · have h3i : (3 : Int) ≤ (ps.length : Int) := by omega
          have h3d : decide ((3 : Int) ≤ (ps.length : Int)) = true := decide_eq_true h3i
          have h3n : decide (3 ≤ ps.length) = true := decide_eq_true h3
          cases b4 with
          | false =>
            go_enter Tryz.func16, Tryz.ntmps16
            go_wp2_with fail
            have bS1 := BoxS.new w 26 #[.slice A ps.length c, .int .i64 cl, .int .i64 lo, .int .i64 hi]
            have hB1 : Below w.heap.size w (w.alloc (.cells #[.slice A ps.length c, .int .i64 cl, .int .i64 lo, .int .i64 hi] 26)) := by (repeat' (first | (with_reducible exact Below.refl _ _) | (with_reducible assumption) | (with_reducible refine Below.alloc ?_ ?_ _) | (with_reducible refine Below.drew ?_) | (with_reducible refine Below.setCell ?_ ?_ _) | go_size | (exact (by simp)) | omega))
            generalize World.alloc w _ = w1 at *
            obtain ⟨s0, s1, s2, s3⟩ := boxS4 bS1
            have lS := bS1.lt
            go_wp2_with fail
            refine (HA.out _ hB1).mono ?_
            rintro e w2 ⟨rfl, hb2⟩
            have bS2 := bS1.below hb2
            have hB2 := hB1.trans (hb2.mono hB1.size)
            clear s0 s1 s2 s3 lS bS1 hb2 hB1
            obtain ⟨s0, s1, s2, s3⟩ := boxS4 bS2
            have lS := bS2.lt
            go_wp2_with fail
            refine (H1.out _).mono ?_
            rintro e wq ⟨rfl, hq⟩
            have hq := hq.symm
            subst hq
            go_wp2_with fail
            refine (H4.out _).mono ?_
            rintro e wq ⟨rfl, hq⟩
            have hq := hq.symm
            subst hq
            go_wp2_with fail
            go_returns
            exact ⟨by rw [HR.out]; first | rfl | simp [*], hB2⟩
          | true =>
            by_cases hd : hi ≤ 320000
            · have dd : decide (hi ≤ 320000) = true := decide_eq_true hd
              go_enter Tryz.func16, Tryz.ntmps16
              go_wp2_with fail
              have bS1 := BoxS.new w 26 #[.slice A ps.length c, .int .i64 cl, .int .i64 lo, .int .i64 hi]
              have hB1 : Below w.heap.size w (w.alloc (.cells #[.slice A ps.length c, .int .i64 cl, .int .i64 lo, .int .i64 hi] 26)) := by (repeat' (first | (with_reducible exact Below.refl _ _) | (with_reducible assumption) | (with_reducible refine Below.alloc ?_ ?_ _) | (with_reducible refine Below.drew ?_) | (with_reducible refine Below.setCell ?_ ?_ _) | go_size | (exact (by simp)) | omega))
              generalize World.alloc w _ = w1 at *
              obtain ⟨s0, s1, s2, s3⟩ := boxS4 bS1
              have lS := bS1.lt
              go_wp2_with fail
              refine (HA.out _ hB1).mono ?_
              rintro e w2 ⟨rfl, hb2⟩
              have bS2 := bS1.below hb2
              have hB2 := hB1.trans (hb2.mono hB1.size)
              clear s0 s1 s2 s3 lS bS1 hb2 hB1
              obtain ⟨s0, s1, s2, s3⟩ := boxS4 bS2
              have lS := bS2.lt
              go_wp2_with fail
              refine (H1.out _).mono ?_
              rintro e wq ⟨rfl, hq⟩
              have hq := hq.symm
              subst hq
              go_wp2_with fail
              refine (H4.out _).mono ?_
              rintro e wq ⟨rfl, hq⟩
              have hq := hq.symm
              subst hq
              go_wp2_with fail
              go_returns
              exact ⟨by rw [HR.out]; first | rfl | simp [*], hB2⟩
            · have dd : decide (hi ≤ 320000) = false := decide_eq_false hd
              go_enter Tryz.func16, Tryz.ntmps16
              go_wp2_with fail
              have bS1 := BoxS.new w 26 #[.slice A ps.length c, .int .i64 cl, .int .i64 lo, .int .i64 hi]
              have hB1 : Below w.heap.size w (w.alloc (.cells #[.slice A ps.length c, .int .i64 cl, .int .i64 lo, .int .i64 hi] 26)) := by (repeat' (first | (with_reducible exact Below.refl _ _) | (with_reducible assumption) | (with_reducible refine Below.alloc ?_ ?_ _) | (with_reducible refine Below.drew ?_) | (with_reducible refine Below.setCell ?_ ?_ _) | go_size | (exact (by simp)) | omega))
              generalize World.alloc w _ = w1 at *
              obtain ⟨s0, s1, s2, s3⟩ := boxS4 bS1
              have lS := bS1.lt
              go_wp2_with fail
              refine (HA.out _ hB1).mono ?_
              rintro e w2 ⟨rfl, hb2⟩
              have bS2 := bS1.below hb2
              have hB2 := hB1.trans (hb2.mono hB1.size)
              clear s0 s1 s2 s3 lS bS1 hb2 hB1
              obtain ⟨s0, s1, s2, s3⟩ := boxS4 bS2
              have lS := bS2.lt
              go_wp2_with fail
              refine (H1.out _).mono ?_
              rintro e wq ⟨rfl, hq⟩
              have hq := hq.symm
              subst hq
              go_wp2_with fail
              refine (H4.out _).mono ?_
              rintro e wq ⟨rfl, hq⟩
              have hq := hq.symm
              subst hq
              go_wp2_with fail
              go_returns
              exact ⟨by rw [HR.out]; first | rfl | simp [*], hB2⟩
        · have h3i : ¬ (3 : Int) ≤ (ps.length : Int) := by omega
          have h3d : decide ((3 : Int) ≤ (ps.length : Int)) = false := decide_eq_false h3i
          have h3n : decide (3 ≤ ps.length) = false := decide_eq_false h3
          go_enter Tryz.func16, Tryz.ntmps16
          go_wp2_with fail
          have bS1 := BoxS.new w 26 #[.slice A ps.length c, .int .i64 cl, .int .i64 lo, .int .i64 hi]
          have hB1 : Below w.heap.size w (w.alloc (.cells #[.slice A ps.length c, .int .i64 cl, .int .i64 lo, .int .i64 hi] 26)) := by (repeat' (first | (with_reducible exact Below.refl _ _) | (with_reducible assumption) | (with_reducible refine Below.alloc ?_ ?_ _) | (with_reducible refine Below.drew ?_) | (with_reducible refine Below.setCell ?_ ?_ _) | go_size | (exact (by simp)) | omega))
          generalize World.alloc w _ = w1 at *
          obtain ⟨s0, s1, s2, s3⟩ := boxS4 bS1
          have lS := bS1.lt
          go_wp2_with fail
          refine (HA.out _ hB1).mono ?_
          rintro e w2 ⟨rfl, hb2⟩
          have bS2 := bS1.below hb2
          have hB2 := hB1.trans (hb2.mono hB1.size)
          clear s0 s1 s2 s3 lS bS1 hb2 hB1
          obtain ⟨s0, s1, s2, s3⟩ := boxS4 bS2
          have lS := bS2.lt
          go_wp2_with fail
          refine (H1.out _).mono ?_
          rintro e wq ⟨rfl, hq⟩
          have hq := hq.symm
          subst hq
          go_wp2_with fail
          go_returns
          exact ⟨by rw [HR.out]; first | rfl | simp [*], hB2⟩
set_option maxRecDepth 100000 in
set_option maxHeartbeats 8000000 in
theorem Check5_any (t : Wl.Trk) (ws : List Wl.Pt) (A B : Option Addr) (c d : Nat) (hl : t.ps.length ≤ 1000000000) (hlw : ws.length ≤ 1000000000) (w : World) (hP : Prs w w.heap.size A t.ps) (hQ : Prs w w.heap.size B ws) :
    Calls Tryz.prog 6 #[.agg (trV t A c), .slice B ws.length d] w (ErrPost (Wl.chkV t ws) w) := by
  have HT : Hid (∀ W, Below w.heap.size w W → Calls Tryz.prog 16 #[.agg (trV t A c)] W fun e w' => e = .returned (.bool (Wl.trkB t)) ∧ Below W.heap.size W w') := fun W hW => isTrack5_any t A c hl W (prs_keep hP hW)
  have HW : Hid (∀ W, Below w.heap.size w W → Calls Tryz.prog 17 #[.slice B ws.length d] W fun e w' => e = .returned (.bool (Wl.ptsB ws)) ∧ Below W.heap.size W w') := fun W hW => IsWalk5_any B d ws hlw W (prs_keep hQ hW)
  have HR : Hid (Wl.chkV t ws = if Wl.trkB t then (if Wl.ptsB ws then 0 else 51) else 50) := rfl
  generalize Wl.chkV t ws = R at *
  generalize Wl.trkB t = bt at *
  generalize Wl.ptsB ws = bw at *
  clear hP hQ hl hlw
  obtain ⟨ps, cl, lo, hi⟩ := t
  unfold trV at *
  dsimp only at *
  cases bt with
  | false =>
    go_enter Tryz.func6, Tryz.ntmps6
    go_wp2_with fail
    have hB1 : Below w.heap.size w (w.alloc (.cells #[.slice A ps.length c, .int .i64 cl, .int .i64 lo, .int .i64 hi] 26)) := by (repeat' (first | (with_reducible exact Below.refl _ _) | (with_reducible assumption) | (with_reducible refine Below.alloc ?_ ?_ _) | (with_reducible refine Below.drew ?_) | (with_reducible refine Below.setCell ?_ ?_ _) | go_size | (exact (by simp)) | omega))
    generalize World.alloc w _ = w1 at *
    refine (HT.out _ hB1).mono ?_
    rintro e w2 ⟨rfl, hb2⟩
    have hB2 := hB1.trans (hb2.mono hB1.size)
    clear hb2 hB1
    go_wp2_with fail
    go_returns
    exact ⟨by rw [HR.out]; rfl, hB2⟩
  | true =>
    cases bw with
    | false =>
      go_enter Tryz.func6, Tryz.ntmps6
      go_wp2_with fail
      have hB1 : Below w.heap.size w (w.alloc (.cells #[.slice A ps.length c, .int .i64 cl, .int .i64 lo, .int .i64 hi] 26)) := by (repeat' (first | (with_reducible exact Below.refl _ _) | (with_reducible assumption) | (with_reducible refine Below.alloc ?_ ?_ _) | (with_reducible refine Below.drew ?_) | (with_reducible refine Below.setCell ?_ ?_ _) | go_size | (exact (by simp)) | omega))
      generalize World.alloc w _ = w1 at *
      refine (HT.out _ hB1).mono ?_
      rintro e w2 ⟨rfl, hb2⟩
      have hB2 := hB1.trans (hb2.mono hB1.size)
      clear hb2 hB1
      go_wp2_with fail
      refine (HW.out _ hB2).mono ?_
      rintro e w3 ⟨rfl, hb3⟩
      have hB3 := hB2.trans (hb3.mono hB2.size)
      go_wp2_with fail
      go_returns
      exact ⟨by rw [HR.out]; rfl, hB3⟩
    | true =>
      go_enter Tryz.func6, Tryz.ntmps6
      go_wp2_with fail
      have hB1 : Below w.heap.size w (w.alloc (.cells #[.slice A ps.length c, .int .i64 cl, .int .i64 lo, .int .i64 hi] 26)) := by (repeat' (first | (with_reducible exact Below.refl _ _) | (with_reducible assumption) | (with_reducible refine Below.alloc ?_ ?_ _) | (with_reducible refine Below.drew ?_) | (with_reducible refine Below.setCell ?_ ?_ _) | go_size | (exact (by simp)) | omega))
      generalize World.alloc w _ = w1 at *
      refine (HT.out _ hB1).mono ?_
      rintro e w2 ⟨rfl, hb2⟩
      have hB2 := hB1.trans (hb2.mono hB1.size)
      clear hb2 hB1
      go_wp2_with fail
      refine (HW.out _ hB2).mono ?_
      rintro e w3 ⟨rfl, hb3⟩
      have hB3 := hB2.trans (hb3.mono hB2.size)
      go_wp2_with fail
      go_returns
      exact ⟨by rw [HR.out]; rfl, hB3⟩
end Go.Proofs.YtmjcdggmofohcaaGreat
namespace Go.Proofs.YtmjcdggmofohcaaGreat
open Go.RowKit
namespace Wl
theorem sq_neg (x y : Int) : (x - y) * (x - y) = (y - x) * (y - x) := by
  have e : x - y = -(y - x) := by omega
  rw [e, Int.neg_mul_neg]
theorem tmod_next {n a : Int} (h0 : 0 ≤ a) (h1 : a < n) : (a + 1).tmod n = if a + 1 = n then 0 else a + 1 := by
  rw [Int.tmod_eq_emod_of_nonneg (by omega)]
  split
  · rename_i h; rw [h, Int.emod_self]
  · exact Int.emod_eq_of_lt (by omega) (by omega)
theorem near_iff {t : Trk} {a b : Int} (hc : t.cl = 1 → 3 ≤ t.ps.length) (ha : 0 ≤ a ∧ a < t.ps.length) (hb : 0 ≤ b ∧ b < t.ps.length) :
    nearB t a b = true ↔ a = b ∨ b = a + 1 ∨ (t.cl = 1 ∧ b = (a + 1).tmod t.ps.length) ∨ a = b + 1 ∨ (t.cl = 1 ∧ a = (b + 1).tmod t.ps.length) := by
  rw [tmod_next ha.1 ha.2, tmod_next hb.1 hb.2]
  unfold nearB stepV
  simp only [Bool.and_eq_true, decide_eq_true_eq]
  by_cases h : t.cl = 1
  · have h3 := hc h
    simp only [h, true_and]
    split <;> split <;> split <;> first | omega | (split <;> omega)
  · simp only [h, false_and, if_false, false_or, or_false]
    omega
end Wl
set_option maxRecDepth 100000 in
set_option maxHeartbeats 8000000 in
theorem Reaches5_any (t : Wl.Trk) (A : Option Addr) (c : Nat) (p : Nat) (a : Wl.Pt) (hp : p < t.ps.length) (h1 : Geo.sm (Wl.ptAt t.ps p)) (h2 : Geo.sm a) (w : World) (hP : Prs w w.heap.size A t.ps) (hl : t.ps.length ≤ 1000000000) :
    Calls Tryz.prog 33 #[.agg (trV t A c), .int .i64 (p : Nat), .agg #[.int .i64 a.1, .int .i64 a.2]] w fun e w' => e = .returned (.bool (Wl.reachB t p a)) ∧ Below w.heap.size w w' := by
  have hPk : t.ps[p]? = some (Wl.ptAt t.ps p) := by unfold Wl.ptAt; rw [List.getElem?_eq_getElem hp]; rfl
  have HR : Hid (Wl.reachB t p a = inB (((Wl.ptAt t.ps p).1 - a.1) * ((Wl.ptAt t.ps p).1 - a.1) + ((Wl.ptAt t.ps p).2 - a.2) * ((Wl.ptAt t.ps p).2 - a.2)) t.lo t.hi) := by
    unfold Hid Wl.reachB Wl.sqV inB
    rw [Int.toNat_natCast, Wl.sq_neg a.1, Wl.sq_neg a.2]
  have HP := Lib.hid hP
  obtain ⟨ps, cl, lo, hi⟩ := t
  unfold trV
  dsimp only at *
  generalize Wl.reachB ⟨ps, cl, lo, hi⟩ p a = R at *
  generalize Wl.ptAt ps p = q at *
  obtain ⟨q1, q2⟩ := q
  obtain ⟨a1, a2⟩ := a
  unfold Geo.sm at h1 h2
  dsimp only at *
  obtain ⟨bp, op, rfl, hbp, hcp⟩ := HP.out (by omega)
  obtain ⟨g0, g1⟩ := hcp p _ hPk
  dsimp only at g0 g1
  have m1 := mul_bd (x := 2000) (y := 2000) (show -2000 ≤ q1 - a1 by omega) (by omega) (show -2000 ≤ q1 - a1 by omega) (by omega)
  have m2 := mul_bd (x := 2000) (y := 2000) (show -2000 ≤ q2 - a2 by omega) (by omega) (show -2000 ≤ q2 - a2 by omega) (by omega)
  have e1 : IntKind.i64.wrap (q1 - a1) = q1 - a1 := IntWalk.i64_in _ (by omega)
  have e2 : IntKind.i64.wrap (q2 - a2) = q2 - a2 := IntWalk.i64_in _ (by omega)
  have HW : Hid (∀ W S, Calls Tryz.prog 32 #[.int .i64 S, .int .i64 lo, .int .i64 hi] W fun e w' => e = .returned (.bool (inB S lo hi)) ∧ w' = W) := fun W S => within5_any S lo hi W
  have d1 : decide ((p : Int) < 0) = false := decide_eq_false (by omega)
  have d2 : decide ((ps.length : Int) ≤ (p : Int)) = false := decide_eq_false (by omega)
  have d4 : decide (ps.length ≤ p) = false := decide_eq_false (by omega)
  have hmo : Tryz.prog.follows .mixedOrders = true := by kernel_rfl
  clear hcp hPk HP hP
  go_enter Tryz.func33, Tryz.ntmps33
  go_wp2_with fail
  have bS1 := (BoxS.new w 26 #[.slice (some ⟨bp, op, none⟩) ps.length c, .int .i64 cl, .int .i64 lo, .int .i64 hi]).alloc (.cells #[.int .i64 a1, .int .i64 a2] 53)
  have bQ1 := BoxS.new (w.alloc (.cells #[.slice (some ⟨bp, op, none⟩) ps.length c, .int .i64 cl, .int .i64 lo, .int .i64 hi] 26)) 53 #[.int .i64 a1, .int .i64 a2]
  rw [World.size_alloc] at bQ1
  have hB1 : Below w.heap.size w ((w.alloc (.cells #[.slice (some ⟨bp, op, none⟩) ps.length c, .int .i64 cl, .int .i64 lo, .int .i64 hi] 26)).alloc (.cells #[.int .i64 a1, .int .i64 a2] 53)) := by (repeat' (first | (with_reducible exact Below.refl _ _) | (with_reducible assumption) | (with_reducible refine Below.alloc ?_ ?_ _) | (with_reducible refine Below.drew ?_) | (with_reducible refine Below.setCell ?_ ?_ _) | go_size | (exact (by simp)) | omega))
  generalize World.alloc (World.alloc w _) _ = w1 at *
  have q0 : Below w1.heap.size w1 w1.drew := (Below.refl _ _).drew
  have KC : Hid (∀ W', Below w1.heap.size w1 W' → (W'.cell? ⟨w.heap.size, 0, none⟩ = some (.slice (some ⟨bp, op, none⟩) ps.length c)) ∧ (W'.cell? ⟨w.heap.size + 1, 0, none⟩ = some (.int .i64 a1) ∧ W'.cell? ⟨w.heap.size + 1, 1, none⟩ = some (.int .i64 a2)) ∧ W'.cell? ⟨bp, op + p * 2, none⟩ = some (.int .i64 q1) ∧ W'.cell? ⟨bp, op + p * 2 + 1, none⟩ = some (.int .i64 q2)) := fun W' h => by
    have h2 := hB1.trans (h.mono hB1.size)
    exact ⟨(bS1.below h).cell 0 rfl, ⟨(bQ1.below h).cell 0 rfl, (bQ1.below h).cell 1 rfl⟩, (h2.cell (p := ⟨bp, _, none⟩) hbp).trans g0, (h2.cell (p := ⟨bp, _, none⟩) hbp).trans g1⟩
  clear g0 g1
  refine (wpIn_wide (n := 4)).1 ?_
  refine wpIn_region_held (fun W' => Below w1.heap.size w1 W') 30 hmo ?_
  refine wpHeldIn_take (i := 0) (v := ?_) (plain_of (by kernel_rfl)) rfl (by kernel_rfl) (fun _ _ _ h => h) (yieldsSoIn_of (by kernel_rfl) ?_ (fun _ => rfl)) q0 ?_; rotate_left; focus (intro wq hw; clear hw; go_simp; try (with_reducible rfl))
  refine wpHeldIn_take (i := 1) (v := ?_) (plain_of (by kernel_rfl)) rfl (by kernel_rfl) (fun _ _ _ h => h) (yieldsSoIn_of (by kernel_rfl) ?_ (fun _ => rfl)) q0 ?_; rotate_left; focus (intro wq hw; have kq := KC.out wq hw; clear hw; go_simp; try (with_reducible rfl))
  refine wpHeldIn_take (i := 2) (v := ?_) (plain_of (by kernel_rfl)) rfl (by kernel_rfl) (fun _ _ _ h => h) (yieldsSoIn_of (by kernel_rfl) ?_ (fun _ => rfl)) q0 ?_; rotate_left; focus (intro wq hw; clear hw; go_simp; try (with_reducible rfl))
  refine wpHeldIn_take (i := 3) (v := ?_) (plain_of (by kernel_rfl)) rfl (by kernel_rfl) (fun _ _ _ h => h) (yieldsSoIn_of (by kernel_rfl) ?_ (fun _ => rfl)) q0 ?_; rotate_left; focus (intro wq hw; clear hw; go_simp; try (with_reducible rfl))
  refine wpHeldIn_take (i := 4) (v := ?_) (plain_of (by kernel_rfl)) rfl (by kernel_rfl) (fun _ _ _ h => h) (yieldsSoIn_of (by kernel_rfl) ?_ (fun _ => rfl)) q0 ?_; rotate_left; focus (intro wq hw; clear hw; go_simp; try (with_reducible rfl))
  refine wpHeldIn_take (i := 5) (v := ?_) (plain_of (by kernel_rfl)) rfl (by kernel_rfl) (fun _ _ _ h => h) (yieldsSoIn_of (by kernel_rfl) ?_ (fun _ => rfl)) q0 ?_; rotate_left; focus (intro wq hw; have kq := KC.out wq hw; clear hw; go_simp; try (with_reducible rfl))
  refine wpHeldIn_take (i := 6) (v := ?_) (plain_of (by kernel_rfl)) rfl (by kernel_rfl) (fun _ _ _ h => h) (yieldsSoIn_of (by kernel_rfl) ?_ (fun _ => rfl)) q0 ?_; rotate_left; focus (intro wq hw; clear hw; go_simp; try (with_reducible rfl))
  refine wpHeldIn_take (i := 7) (v := ?_) (plain_of (by kernel_rfl)) rfl (by kernel_rfl) (fun _ _ _ h => h) (yieldsSoIn_of (by kernel_rfl) ?_ (fun _ => rfl)) q0 ?_; rotate_left; focus (intro wq hw; have kq := KC.out wq hw; clear hw; go_simp; try (with_reducible rfl))
  refine wpHeldIn_take (i := 8) (v := ?_) (plain_of (by kernel_rfl)) rfl (by kernel_rfl) (fun _ _ _ h => h) (yieldsSoIn_of (by kernel_rfl) ?_ (fun _ => rfl)) q0 ?_; rotate_left; focus (intro wq hw; clear hw; go_simp; try (with_reducible rfl))
  refine wpHeldIn_take (i := 9) (v := ?_) (plain_of (by kernel_rfl)) rfl (by kernel_rfl) (fun _ _ _ h => h) (yieldsSoIn_of (by kernel_rfl) ?_ (fun _ => rfl)) q0 ?_; rotate_left; focus (intro wq hw; clear hw; go_simp; try (with_reducible rfl))
  refine wpHeldIn_take (i := 10) (v := ?_) (plain_of (by kernel_rfl)) rfl (by kernel_rfl) (fun _ _ _ h => h) (yieldsSoIn_of (by kernel_rfl) ?_ (fun _ => rfl)) q0 ?_; rotate_left; focus (intro wq hw; have kq := KC.out wq hw; clear hw; go_simp; try (with_reducible rfl))
  refine wpHeldIn_take (i := 11) (v := ?_) (plain_of (by kernel_rfl)) rfl (by kernel_rfl) (fun _ _ _ h => h) (yieldsSoIn_of (by kernel_rfl) ?_ (fun _ => rfl)) q0 ?_; rotate_left; focus (intro wq hw; clear hw; go_simp; try (with_reducible rfl))
  refine wpHeldIn_take (i := 12) (v := ?_) (plain_of (by kernel_rfl)) rfl (by kernel_rfl) (fun _ _ _ h => h) (yieldsSoIn_of (by kernel_rfl) ?_ (fun _ => rfl)) q0 ?_; rotate_left; focus (intro wq hw; clear hw; go_simp; try (with_reducible rfl))
  refine wpHeldIn_take (i := 13) (v := ?_) (plain_of (by kernel_rfl)) rfl (by kernel_rfl) (fun _ _ _ h => h) (yieldsSoIn_of (by kernel_rfl) ?_ (fun _ => rfl)) q0 ?_; rotate_left; focus (intro wq hw; clear hw; go_simp; try (with_reducible rfl))
  refine wpHeldIn_take (i := 14) (v := ?_) (plain_of (by kernel_rfl)) rfl (by kernel_rfl) (fun _ _ _ h => h) (yieldsSoIn_of (by kernel_rfl) ?_ (fun _ => rfl)) q0 ?_; rotate_left; focus (intro wq hw; have kq := KC.out wq hw; clear hw; go_simp; try (with_reducible rfl))
  refine wpHeldIn_take (i := 15) (v := ?_) (plain_of (by kernel_rfl)) rfl (by kernel_rfl) (fun _ _ _ h => h) (yieldsSoIn_of (by kernel_rfl) ?_ (fun _ => rfl)) q0 ?_; rotate_left; focus (intro wq hw; clear hw; go_simp; try (with_reducible rfl))
  refine wpHeldIn_take (i := 16) (v := ?_) (plain_of (by kernel_rfl)) rfl (by kernel_rfl) (fun _ _ _ h => h) (yieldsSoIn_of (by kernel_rfl) ?_ (fun _ => rfl)) q0 ?_; rotate_left; focus (intro wq hw; have kq := KC.out wq hw; clear hw; go_simp; try (with_reducible rfl))
  refine wpHeldIn_take (i := 17) (v := ?_) (plain_of (by kernel_rfl)) rfl (by kernel_rfl) (fun _ _ _ h => h) (yieldsSoIn_of (by kernel_rfl) ?_ (fun _ => rfl)) q0 ?_; rotate_left; focus (intro wq hw; clear hw; go_simp; try (with_reducible rfl))
  refine wpHeldIn_take (i := 18) (v := ?_) (plain_of (by kernel_rfl)) rfl (by kernel_rfl) (fun _ _ _ h => h) (yieldsSoIn_of (by kernel_rfl) ?_ (fun _ => rfl)) q0 ?_; rotate_left; focus (intro wq hw; clear hw; go_simp; try (with_reducible rfl))
  refine wpHeldIn_take (i := 19) (v := ?_) (plain_of (by kernel_rfl)) rfl (by kernel_rfl) (fun _ _ _ h => h) (yieldsSoIn_of (by kernel_rfl) ?_ (fun _ => rfl)) q0 ?_; rotate_left; focus (intro wq hw; clear hw; go_simp; try (with_reducible rfl))
  refine wpHeldIn_done (by kernel_rfl) ?_ _
  go_simp
  have bS2 := bS1.below q0
  have hB2 := hB1.trans (q0.mono hB1.size)
  clear KC q0 bS1 bQ1 hB1
  generalize World.drew w1 = w2 at *
  have s2 := bS2.cell 2 rfl
  have s3 := bS2.cell 3 rfl
  have lS := bS2.lt
  obtain ⟨X, hX⟩ : ∃ X, X = q1 - a1 := ⟨_, rfl⟩
  obtain ⟨Y, hY⟩ : ∃ Y, Y = q2 - a2 := ⟨_, rfl⟩
  rw [← hX] at m1 e1 ⊢
  rw [← hY] at m2 e2 ⊢
  have e3 : IntKind.i64.wrap (X * X) = X * X := IntWalk.i64_in _ (by omega)
  have e4 : IntKind.i64.wrap (Y * Y) = Y * Y := IntWalk.i64_in _ (by omega)
  have e5 : IntKind.i64.wrap (X * X + Y * Y) = X * X + Y * Y := IntWalk.i64_in _ (by omega)
  have HX := Lib.hid (And.intro hX hY)
  clear hX hY e1 e2 d1 d2 d4
  go_wp2_with fail
  refine (HW.out _ _).mono ?_
  rintro e wq ⟨rfl, hq⟩
  have hq := hq.symm
  subst hq
  go_wp2_with fail
  go_returns
  exact ⟨by rw [HR.out, ← HX.out.1, ← HX.out.2]; rfl, hB2⟩
set_option maxRecDepth 100000 in
set_option maxHeartbeats 8000000 in
theorem step5_any (t : Wl.Trk) (A : Option Addr) (c : Nat) (a b : Int) (hc : t.cl = 1 → 3 ≤ t.ps.length) (ha : 0 ≤ a ∧ a < t.ps.length) (hb : 0 ≤ b ∧ b < t.ps.length) (hl : t.ps.length ≤ 1000000000) (w : World) :
    Calls Tryz.prog 34 #[.agg (trV t A c), .int .i64 a, .int .i64 b] w fun e w' => ∃ s : Int, e = .returned (.tuple #[.int .i64 s, .bool (Wl.nearB t a b)]) ∧ Below w.heap.size w w' := by
  have hn := Wl.near_iff hc ha hb
  obtain ⟨ps, cl, lo, hi⟩ := t
  unfold trV
  dsimp only at *
  generalize Wl.nearB ⟨ps, cl, lo, hi⟩ a b = N at *
  obtain ⟨n, hnn⟩ : ∃ n : Int, n = (ps.length : Int) := ⟨_, rfl⟩
  have w1 : IntKind.i64.wrap (a + 1) = a + 1 := IntWalk.i64_in _ (by omega)
  have w2 : IntKind.i64.wrap (b + 1) = b + 1 := IntWalk.i64_in _ (by omega)
  have hne : ((ps.length : Int) == 0) = false := by
    have : (ps.length : Int) ≠ 0 := by omega
    simpa using this
  have hne2 : ¬ (ps.length : Int) = 0 := by omega
  have hne3 : ¬ ps.length = 0 := by omega
  have hne4 : ¬ ps = [] := by intro e; subst e; simp at hne3
  obtain ⟨u, hu⟩ : ∃ u, u = (a + 1).tmod (ps.length : Int) := ⟨_, rfl⟩
  obtain ⟨v, hv⟩ : ∃ v, v = (b + 1).tmod (ps.length : Int) := ⟨_, rfl⟩
  have wu : IntKind.i64.wrap u = u := by
    rw [hu, Wl.tmod_next ha.1 ha.2]
    split
    · rfl
    · exact w1
  have wv : IntKind.i64.wrap v = v := by
    rw [hv, Wl.tmod_next hb.1 hb.2]
    split
    · rfl
    · exact w2
  rw [← hu, ← hv] at hn
  have hu' := hu.symm
  have hv' := hv.symm
  have HN := Lib.hid hn
  clear hn hnn hu hv hc hl
  by_cases x1 : a = b
  · have bx1 : (a == b) = true := by simpa using x1
    have HR : Hid (N = true) := HN.out.2 (.inl x1)
    clear HN x1
    go_enter Tryz.func34, Tryz.ntmps34
    go_wp2_with fail
    have bS1 := BoxS.new w 26 #[.slice A ps.length c, .int .i64 cl, .int .i64 lo, .int .i64 hi]
    have hB1 : Below w.heap.size w (w.alloc (.cells #[.slice A ps.length c, .int .i64 cl, .int .i64 lo, .int .i64 hi] 26)) := by (repeat' (first | (with_reducible exact Below.refl _ _) | (with_reducible assumption) | (with_reducible refine Below.alloc ?_ ?_ _) | (with_reducible refine Below.drew ?_) | (with_reducible refine Below.setCell ?_ ?_ _) | go_size | (exact (by simp)) | omega))
    generalize World.alloc w _ = w1 at *
    obtain ⟨s0, s1, s2, s3⟩ := boxS4 bS1
    have lS := bS1.lt
    go_wp2_with fail
    go_returns
    exact ⟨_, by rw [HR.out]; rfl, hB1⟩
  · have bx1 : (a == b) = false := by simpa using x1
    by_cases x2 : b = a + 1
    · have bx2 : (b == (a + 1)) = true := by simpa using x2
      have HR : Hid (N = true) := HN.out.2 (.inr (.inl x2))
      clear HN x1 x2
      go_enter Tryz.func34, Tryz.ntmps34
      go_wp2_with fail
      have bS1 := BoxS.new w 26 #[.slice A ps.length c, .int .i64 cl, .int .i64 lo, .int .i64 hi]
      have hB1 : Below w.heap.size w (w.alloc (.cells #[.slice A ps.length c, .int .i64 cl, .int .i64 lo, .int .i64 hi] 26)) := by (repeat' (first | (with_reducible exact Below.refl _ _) | (with_reducible assumption) | (with_reducible refine Below.alloc ?_ ?_ _) | (with_reducible refine Below.drew ?_) | (with_reducible refine Below.setCell ?_ ?_ _) | go_size | (exact (by simp)) | omega))
      generalize World.alloc w _ = w1 at *
      obtain ⟨s0, s1, s2, s3⟩ := boxS4 bS1
      have lS := bS1.lt
      go_wp2_with fail
      go_returns
      exact ⟨_, by rw [HR.out]; rfl, hB1⟩
    · have bx2 : (b == (a + 1)) = false := by simpa using x2
      by_cases x3 : cl = 1
      · have bx3 : (cl == 1) = true := by simpa using x3
        by_cases x4 : b = u
        · have bx4 : (b == u) = true := by simpa using x4
          have HR : Hid (N = true) := HN.out.2 (.inr (.inr (.inl ⟨x3, x4⟩)))
          clear HN x1 x2 x3 x4
          go_enter Tryz.func34, Tryz.ntmps34
          go_wp2_with fail
          have bS1 := BoxS.new w 26 #[.slice A ps.length c, .int .i64 cl, .int .i64 lo, .int .i64 hi]
          have hB1 : Below w.heap.size w (w.alloc (.cells #[.slice A ps.length c, .int .i64 cl, .int .i64 lo, .int .i64 hi] 26)) := by (repeat' (first | (with_reducible exact Below.refl _ _) | (with_reducible assumption) | (with_reducible refine Below.alloc ?_ ?_ _) | (with_reducible refine Below.drew ?_) | (with_reducible refine Below.setCell ?_ ?_ _) | go_size | (exact (by simp)) | omega))
          generalize World.alloc w _ = w1 at *
          obtain ⟨s0, s1, s2, s3⟩ := boxS4 bS1
          have lS := bS1.lt
          go_wp2_with fail
          go_returns
          exact ⟨_, by rw [HR.out]; rfl, hB1⟩
        · have bx4 : (b == u) = false := by simpa using x4
          by_cases x5 : a = b + 1
          · have bx5 : (a == (b + 1)) = true := by simpa using x5
            have HR : Hid (N = true) := HN.out.2 (.inr (.inr (.inr (.inl x5))))
            clear HN x1 x2 x3 x4 x5
            go_enter Tryz.func34, Tryz.ntmps34
            go_wp2_with fail
            have bS1 := BoxS.new w 26 #[.slice A ps.length c, .int .i64 cl, .int .i64 lo, .int .i64 hi]
            have hB1 : Below w.heap.size w (w.alloc (.cells #[.slice A ps.length c, .int .i64 cl, .int .i64 lo, .int .i64 hi] 26)) := by (repeat' (first | (with_reducible exact Below.refl _ _) | (with_reducible assumption) | (with_reducible refine Below.alloc ?_ ?_ _) | (with_reducible refine Below.drew ?_) | (with_reducible refine Below.setCell ?_ ?_ _) | go_size | (exact (by simp)) | omega))
            generalize World.alloc w _ = w1 at *
            obtain ⟨s0, s1, s2, s3⟩ := boxS4 bS1
            have lS := bS1.lt
            go_wp2_with fail
            go_returns
            exact ⟨_, by rw [HR.out]; rfl, hB1⟩
          · have bx5 : (a == (b + 1)) = false := by simpa using x5
            by_cases x6 : a = v
            · have bx6 : (a == v) = true := by simpa using x6
              have HR : Hid (N = true) := HN.out.2 (.inr (.inr (.inr (.inr ⟨x3, x6⟩))))
              clear HN x1 x2 x3 x4 x5 x6
              go_enter Tryz.func34, Tryz.ntmps34
              go_wp2_with fail
              have bS1 := BoxS.new w 26 #[.slice A ps.length c, .int .i64 cl, .int .i64 lo, .int .i64 hi]
              have hB1 : Below w.heap.size w (w.alloc (.cells #[.slice A ps.length c, .int .i64 cl, .int .i64 lo, .int .i64 hi] 26)) := by (repeat' (first | (with_reducible exact Below.refl _ _) | (with_reducible assumption) | (with_reducible refine Below.alloc ?_ ?_ _) | (with_reducible refine Below.drew ?_) | (with_reducible refine Below.setCell ?_ ?_ _) | go_size | (exact (by simp)) | omega))
              generalize World.alloc w _ = w1 at *
              obtain ⟨s0, s1, s2, s3⟩ := boxS4 bS1
              have lS := bS1.lt
              go_wp2_with fail
              go_returns
              exact ⟨_, by rw [HR.out]; rfl, hB1⟩
            · have bx6 : (a == v) = false := by simpa using x6
              have HR : Hid (N = false) := by
                unfold Hid
                refine Bool.eq_false_iff.2 (fun h => ?_)
                have := HN.out.1 h
                omega
              clear HN x1 x2 x3 x4 x5 x6
              go_enter Tryz.func34, Tryz.ntmps34
              go_wp2_with fail
              have bS1 := BoxS.new w 26 #[.slice A ps.length c, .int .i64 cl, .int .i64 lo, .int .i64 hi]
              have hB1 : Below w.heap.size w (w.alloc (.cells #[.slice A ps.length c, .int .i64 cl, .int .i64 lo, .int .i64 hi] 26)) := by (repeat' (first | (with_reducible exact Below.refl _ _) | (with_reducible assumption) | (with_reducible refine Below.alloc ?_ ?_ _) | (with_reducible refine Below.drew ?_) | (with_reducible refine Below.setCell ?_ ?_ _) | go_size | (exact (by simp)) | omega))
              generalize World.alloc w _ = w1 at *
              obtain ⟨s0, s1, s2, s3⟩ := boxS4 bS1
              have lS := bS1.lt
              go_wp2_with fail
              go_returns
              exact ⟨_, by rw [HR.out]; rfl, hB1⟩
      · have bx3 : (cl == 1) = false := by simpa using x3
        by_cases x5 : a = b + 1
        · have bx5 : (a == (b + 1)) = true := by simpa using x5
          have HR : Hid (N = true) := HN.out.2 (.inr (.inr (.inr (.inl x5))))
          clear HN x1 x2 x3 x5
          go_enter Tryz.func34, Tryz.ntmps34
          go_wp2_with fail
          have bS1 := BoxS.new w 26 #[.slice A ps.length c, .int .i64 cl, .int .i64 lo, .int .i64 hi]
          have hB1 : Below w.heap.size w (w.alloc (.cells #[.slice A ps.length c, .int .i64 cl, .int .i64 lo, .int .i64 hi] 26)) := by (repeat' (first | (with_reducible exact Below.refl _ _) | (with_reducible assumption) | (with_reducible refine Below.alloc ?_ ?_ _) | (with_reducible refine Below.drew ?_) | (with_reducible refine Below.setCell ?_ ?_ _) | go_size | (exact (by simp)) | omega))
          generalize World.alloc w _ = w1 at *
          obtain ⟨s0, s1, s2, s3⟩ := boxS4 bS1
          have lS := bS1.lt
          go_wp2_with fail
          go_returns
          exact ⟨_, by rw [HR.out]; rfl, hB1⟩
        · have bx5 : (a == (b + 1)) = false := by simpa using x5
          have HR : Hid (N = false) := by
            unfold Hid
            refine Bool.eq_false_iff.2 (fun h => ?_)
            have := HN.out.1 h
            omega
          clear HN x1 x2 x3 x5
          go_enter Tryz.func34, Tryz.ntmps34
          go_wp2_with fail
          have bS1 := BoxS.new w 26 #[.slice A ps.length c, .int .i64 cl, .int .i64 lo, .int .i64 hi]
          have hB1 : Below w.heap.size w (w.alloc (.cells #[.slice A ps.length c, .int .i64 cl, .int .i64 lo, .int .i64 hi] 26)) := by (repeat' (first | (with_reducible exact Below.refl _ _) | (with_reducible assumption) | (with_reducible refine Below.alloc ?_ ?_ _) | (with_reducible refine Below.drew ?_) | (with_reducible refine Below.setCell ?_ ?_ _) | go_size | (exact (by simp)) | omega))
          generalize World.alloc w _ = w1 at *
          obtain ⟨s0, s1, s2, s3⟩ := boxS4 bS1
          have lS := bS1.lt
          go_wp2_with fail
          go_returns
          exact ⟨_, by rw [HR.out]; rfl, hB1⟩
end Go.Proofs.YtmjcdggmofohcaaGreat
