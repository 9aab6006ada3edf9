/- Trials: a law's argument, opened; trials with very long rows. -/
import Derived.Test.YtkmacpkjobdffaaGreatTjE
import Derived.Test.YtkmacpkjobdffaaGreatFrame
import Derived.Deep.Slices
namespace Go.Proofs.YtkmacpkjobdffaaGreat
open Go.RowKit
namespace Ti
def manyTo (ts : List Tst) : Nat → Int
  | 0 => 0
  | k + 1 => max (manyTo ts k) ((tstAt ts k).2.length : Int)
def longTo (ts : List Tst) : Nat → Bool
  | 0 => false
  | k + 1 => longTo ts k || decide (20 < (tstAt ts k).2.length)
theorem longTo_yes {ts : List Tst} {k : Nat} (h : 20 < (tstAt ts k).2.length) : ∀ n, k < n → longTo ts n = true
  | n + 1, hk => by
    show (longTo ts n || decide (20 < (tstAt ts n).2.length)) = true
    by_cases e : k = n
    · subst e; rw [decide_eq_true h, Bool.or_true]
    · rw [longTo_yes h n (by omega), Bool.true_or]
theorem longTo_no {ts : List Tst} : ∀ n, longTo ts n = false → ∀ k, k < n → (tstAt ts k).2.length ≤ 20
  | n + 1, h, k, hk => by
    have h' : (longTo ts n || decide (20 < (tstAt ts n).2.length)) = false := h
    rw [Bool.or_eq_false_iff] at h'
    by_cases e : k = n
    · subst e; have := h'.2; rw [decide_eq_false_iff_not] at this; omega
    · exact longTo_no n h'.1 k (by omega)
def bigB (t : Tri) : Bool := (((decide (2 < max (max t.d.read t.d.slip) t.d.skew) || decide (120 < t.d.full)) || decide (6 < t.gain)) || decide (4 < t.ts.length)) || decide (2 < manyTo t.ts t.ts.length)
def farB (t : Tri) : Bool := (decide (20 < t.ts.length) || longTo t.ts t.ts.length) || (decide (chkV t = 0) && bigB t)
def readyB (t : Tri) : Bool := !farB t && decide (chkV t = 0)
end Ti
set_option maxRecDepth 100000 in
set_option maxHeartbeats 8000000 in
theorem Far9_any (t : Ti.Tri) (A : Option Addr) (c : Nat) (w : World) (hl : t.ts.length ≤ 1000000000) (hg : Tsts w w.heap.size A t.ts) :
    Calls Tryz.prog 8 #[.agg (tiV t A c)] w fun e w' => e = .returned (.bool (Ti.farB t)) ∧ Below w.heap.size w w' := by
  have HC : Hid (∀ W, Below w.heap.size w W → Calls Tryz.prog 12 #[.agg (tiV t A c)] W (ErrPost (Ti.chkV t) W)) := fun W hW => Check9_any t A c hl W ((hg.keep hW).wider hW.size)
  have HG := Lib.hid hg
  clear hg
  by_cases h20 : 20 < t.ts.length
  · have hR : Ti.farB t = true := by unfold Ti.farB; rw [decide_eq_true h20]; rfl
    rw [hR]
    have h4i : decide ((20 : Int) < (t.ts.length : Int)) = true := decide_eq_true (by omega)
    clear HC HG hR
    obtain ⟨d, gain, ts⟩ := t
    obtain ⟨full, read, slip, skew, circ, glo, ghi, wrn, dws⟩ := d
    unfold tiV at *
    dsimp only at *
    go_enter Tryz.func8, Tryz.ntmps8
    go_wp2_with fail
    go_returns
    exact ⟨rfl, by (repeat' (first | (with_reducible exact Below.refl _ _) | (with_reducible assumption) | (with_reducible refine Below.alloc ?_ ?_ _) | (with_reducible refine Below.drew ?_) | (with_reducible refine Below.setCell ?_ ?_ _) | go_size | (exact (by simp)) | omega))⟩
  · have h4i : decide ((20 : Int) < (t.ts.length : Int)) = false := decide_eq_false (by omega)
    have HFL : Hid (Ti.longTo t.ts t.ts.length = true → Ti.farB t = true) := fun h => by unfold Ti.farB; rw [h, Bool.or_true]; rfl
    have HFC : Hid (Ti.longTo t.ts t.ts.length = false → Ti.chkV t = 0 → Ti.farB t = ((((decide (2 < max (max t.d.read t.d.slip) t.d.skew) || decide (120 < t.d.full)) || decide (6 < t.gain)) || decide (4 < t.ts.length)) || decide (2 < Ti.manyTo t.ts t.ts.length))) := fun h1 h2 => by
      unfold Ti.farB Ti.bigB
      rw [h1, decide_eq_false h20, decide_eq_true h2]
      simp
    have HFN : Hid (Ti.longTo t.ts t.ts.length = false → Ti.chkV t ≠ 0 → Ti.farB t = false) := fun h1 h2 => by
      unfold Ti.farB
      rw [h1, decide_eq_false h20, decide_eq_false h2]
      rfl
    have HM0 : Hid (Ti.manyTo t.ts 0 = 0) := rfl
    have HMS : Hid (∀ k, Ti.manyTo t.ts (k + 1) = max (Ti.manyTo t.ts k) ((Ti.tstAt t.ts k).2.length : Int)) := fun k => rfl
    have HL0 : Hid (Ti.longTo t.ts 0 = false) := rfl
    have HLS : Hid (∀ k, Ti.longTo t.ts (k + 1) = (Ti.longTo t.ts k || decide (20 < (Ti.tstAt t.ts k).2.length))) := fun k => rfl
    have HLY : Hid (∀ k, k < t.ts.length → 20 < (Ti.tstAt t.ts k).2.length → Ti.longTo t.ts t.ts.length = true) := fun k h1 h2 => Ti.longTo_yes h2 _ h1
    generalize Ti.farB t = R at *
    generalize Ti.chkV t = CK at *
    generalize Ti.longTo t.ts = LT at *
    generalize Ti.manyTo t.ts = MT at *
    unfold ErrPost at HC
    clear h20
    obtain ⟨d, gain, ts⟩ := t
    obtain ⟨full, read, slip, skew, circ, glo, ghi, wrn, dws⟩ := d
    unfold tiV at *
    dsimp only at *
    go_enter Tryz.func8, Tryz.ntmps8
    go_wp2_with fail
    have bT := BoxS.new w 28 #[.int .i64 full, .int .i64 read, .int .i64 slip, .int .i64 skew, .int .i64 circ, .int .i64 glo, .int .i64 ghi, .int .i64 wrn, .int .i64 gain, .slice A ts.length c]
    have hB1 : Below w.heap.size w (w.alloc (.cells #[.int .i64 full, .int .i64 read, .int .i64 slip, .int .i64 skew, .int .i64 circ, .int .i64 glo, .int .i64 ghi, .int .i64 wrn, .int .i64 gain, .slice A ts.length c] 28)) := by (repeat' (first | (with_reducible exact Below.refl _ _) | (with_reducible assumption) | (with_reducible refine Below.alloc ?_ ?_ _) | (with_reducible refine Below.drew ?_) | (with_reducible refine Below.setCell ?_ ?_ _) | go_size | (exact (by simp)) | omega))
    generalize World.alloc w _ = w1 at *
    go_loopw [3, 4] (fun x3 x4 wr => ∃ k : Nat, (k : Int) ≤ ts.length ∧ x3 = .int .i64 (MT k) ∧ x4 = .int .i64 (k : Int) ∧ Below w.heap.size w wr ∧ BoxS wr w.heap.size 28 #[.int .i64 full, .int .i64 read, .int .i64 slip, .int .i64 skew, .int .i64 circ, .int .i64 glo, .int .i64 ghi, .int .i64 wrn, .int .i64 gain, .slice A ts.length c] ∧ Hid (LT k = false)) (fun _ x4 _ => (ts.length - intOf x4).toNat)
    case atStart => exact ⟨0, by omega, by rw [HM0.out], rfl, hB1, bT, HL0.out⟩
    case round =>
      clear bT hB1
      obtain ⟨k, hk, rfl, rfl, hBr, bT1, hat⟩ := hrel
      have hk0 := Int.natCast_nonneg k
      by_cases hlt : (k : Int) < ts.length
      · have hkn : k < ts.length := by omega
        have hw1 : IntKind.i64.wrap ((k : Int) + 1) = (k : Int) + 1 := IntWalk.i64_in _ (by omega)
        obtain ⟨b, off, rfl, hb, hc⟩ := HG.out (by omega)
        obtain ⟨A', c', x0, x1, _, hwl⟩ := hc k _ (tst_at hkn)
        have y0 := (hBr.cell (p := ⟨b, _, none⟩) hb).trans x0
        have y1 := (hBr.cell (p := ⟨b, _, none⟩) hb).trans x1
        have hbr : b < wr.heap.size := by have := hBr.size; omega
        have HMS1 := Lib.hid (HMS.out k)
        have HLS1 := Lib.hid (HLS.out k)
        have HLY1 := Lib.hid (HLY.out k hkn)
        clear hc x0 x1
        generalize Ti.tstAt ts k = x at *
        obtain ⟨xa, xw⟩ := x
        dsimp only at *
        have c9 := bT1.cell 9 rfl
        have lT := bT1.lt
        by_cases hx : 20 < xw.length
        · have hxi : decide ((20 : Int) < (xw.length : Int)) = true := decide_eq_true (by omega)
          have hR1 := HFL.out (HLY1.out hx)
          go_wp2_with fail
          go_returns
          exact ⟨by first | rfl | (rw [hR1]; rfl) | rw [hR1], hBr⟩
        · have hxi : decide ((20 : Int) < (xw.length : Int)) = false := decide_eq_false (by omega)
          go_wp2_with fail
          go_roundw
          case rel => exact ⟨k + 1, by omega, by rw [HMS1.out], by go_num, hBr, bT1, by unfold Hid; rw [HLS1.out, hat.out, decide_eq_false hx]; rfl⟩
          case measure => simp [intOf]; omega
      · have ek : k = ts.length := by omega
        subst ek
        by_cases hck : CK = 0
        · have hR1 := HFC.out hat.out hck
          subst hck
          have b4 : decide ((4 : Int) < (ts.length : Int)) = decide (4 < ts.length) := decide_eq_decide.2 (by omega)
          have HR1 := Lib.hid hR1
          clear hR1 HFC HFN HFL HLY HLS HMS HM0 HL0 hat
          have c0 := bT1.cell 0 rfl
          have c1 := bT1.cell 1 rfl
          have c2 := bT1.cell 2 rfl
          have c3 := bT1.cell 3 rfl
          have c4 := bT1.cell 4 rfl
          have c5 := bT1.cell 5 rfl
          have c6 := bT1.cell 6 rfl
          have c7 := bT1.cell 7 rfl
          have c8 := bT1.cell 8 rfl
          have c9 := bT1.cell 9 rfl
          have lT := bT1.lt
          go_wp2_with fail
          refine (HC.out _ hBr).mono ?_
          rintro e w5 ⟨rfl, hb5⟩
          have hB5 := hBr.trans (hb5.mono hBr.size)
          have bT5 := bT1.below hb5
          clear c0 c1 c2 c3 c4 c5 c6 c7 c8 c9 lT
          have c0 := bT5.cell 0 rfl
          have c1 := bT5.cell 1 rfl
          have c2 := bT5.cell 2 rfl
          have c3 := bT5.cell 3 rfl
          have c8 := bT5.cell 8 rfl
          have c9 := bT5.cell 9 rfl
          have lT := bT5.lt
          clear hb5 HC HG bT1
          go_wp2_with fail
          all_goals
            go_returns
            refine ⟨ret_b ?_, hB5⟩
            rw [HR1.out, Bool.eq_iff_iff]
            simp only [Bool.or_eq_true, decide_eq_true_eq] at *
            first | omega | (simp; omega) | (constructor <;> intro <;> simp_all <;> omega)
        · have hR1 := HFN.out hat.out hck
          have hcb : (CK == 0) = false := by simpa using hck
          have HR1 := Lib.hid hR1
          clear hR1 HFC HFN HFL HLY HLS HMS HM0 HL0 hat
          have c0 := bT1.cell 0 rfl
          have c1 := bT1.cell 1 rfl
          have c2 := bT1.cell 2 rfl
          have c3 := bT1.cell 3 rfl
          have c4 := bT1.cell 4 rfl
          have c5 := bT1.cell 5 rfl
          have c6 := bT1.cell 6 rfl
          have c7 := bT1.cell 7 rfl
          have c8 := bT1.cell 8 rfl
          have c9 := bT1.cell 9 rfl
          have lT := bT1.lt
          go_wp2_with fail
          refine (HC.out _ hBr).mono ?_
          rintro e w5 ⟨rfl, hb5⟩
          have hB5 := hBr.trans (hb5.mono hBr.size)
          have bT5 := bT1.below hb5
          clear c0 c1 c2 c3 c4 c5 c6 c7 c8 c9 lT
          have c0 := bT5.cell 0 rfl
          have c1 := bT5.cell 1 rfl
          have c2 := bT5.cell 2 rfl
          have c3 := bT5.cell 3 rfl
          have c8 := bT5.cell 8 rfl
          have c9 := bT5.cell 9 rfl
          have lT := bT5.lt
          clear hb5 HC HG bT1
          go_wp2_with fail
          go_returns
          exact ⟨by first | rfl | (rw [HR1.out]; rfl), hB5⟩
set_option maxRecDepth 100000 in
set_option maxHeartbeats 4000000 in
theorem ready9_any (t : Ti.Tri) (A : Option Addr) (c : Nat) (w : World) (hl : t.ts.length ≤ 1000000000) (hg : Tsts w w.heap.size A t.ts) :
    Calls Tryz.prog 36 #[.agg (tiV t A c)] w fun e w' => e = .returned (.bool (Ti.readyB t)) ∧ Below w.heap.size w w' := by
  have HF : Hid (∀ W, Below w.heap.size w W → Calls Tryz.prog 8 #[.agg (tiV t A c)] W fun e w' => e = .returned (.bool (Ti.farB t)) ∧ Below W.heap.size W w') := fun W hW => Far9_any t A c W hl ((hg.keep hW).wider hW.size)
  have HC : Hid (∀ W, Below w.heap.size w W → Calls Tryz.prog 12 #[.agg (tiV t A c)] W (ErrPost (Ti.chkV t) W)) := fun W hW => Check9_any t A c hl W ((hg.keep hW).wider hW.size)
  have HR : Hid (Ti.readyB t = (!Ti.farB t && decide (Ti.chkV t = 0))) := rfl
  generalize Ti.readyB t = R at *
  unfold ErrPost at HC
  clear hg
  cases hf : Ti.farB t
  · rw [hf] at HF HR
    clear hf
    generalize Ti.chkV t = CK at *
    have hcb : (CK == 0) = decide (CK = 0) := rfl
    obtain ⟨d, gain, ts⟩ := t
    obtain ⟨full, read, slip, skew, circ, glo, ghi, wrn, dws⟩ := d
    unfold tiV at *
    dsimp only at *
    go_enter Tryz.func36, Tryz.ntmps36
    go_wp2_with fail
    have bT := BoxS.new w 28 #[.int .i64 full, .int .i64 read, .int .i64 slip, .int .i64 skew, .int .i64 circ, .int .i64 glo, .int .i64 ghi, .int .i64 wrn, .int .i64 gain, .slice A ts.length c]
    have hB1 : Below w.heap.size w (w.alloc (.cells #[.int .i64 full, .int .i64 read, .int .i64 slip, .int .i64 skew, .int .i64 circ, .int .i64 glo, .int .i64 ghi, .int .i64 wrn, .int .i64 gain, .slice A ts.length c] 28)) := by (repeat' (first | (with_reducible exact Below.refl _ _) | (with_reducible assumption) | (with_reducible refine Below.alloc ?_ ?_ _) | (with_reducible refine Below.drew ?_) | (with_reducible refine Below.setCell ?_ ?_ _) | go_size | (exact (by simp)) | omega))
    generalize World.alloc w _ = w1 at *
    refine (HF.out _ hB1).mono ?_
    rintro e w2 ⟨rfl, hb2⟩
    have bT2 := bT.below hb2
    have hB2 := hB1.trans (hb2.mono hB1.size)
    clear bT hB1 hb2 HF
    have c0 := bT2.cell 0 rfl
    have c1 := bT2.cell 1 rfl
    have c2 := bT2.cell 2 rfl
    have c3 := bT2.cell 3 rfl
    have c4 := bT2.cell 4 rfl
    have c5 := bT2.cell 5 rfl
    have c6 := bT2.cell 6 rfl
    have c7 := bT2.cell 7 rfl
    have c8 := bT2.cell 8 rfl
    have c9 := bT2.cell 9 rfl
    have lT := bT2.lt
    go_wp2_with fail
    refine (HC.out _ hB2).mono ?_
    rintro e w3 ⟨rfl, hb3⟩
    have hB3 := hB2.trans (hb3.mono hB2.size)
    go_wp2_with fail
    go_returns
    exact ⟨ret_b (by rw [HR.out]; simp), hB3⟩
  · rw [hf] at HF HR
    clear hf HC
    obtain ⟨d, gain, ts⟩ := t
    obtain ⟨full, read, slip, skew, circ, glo, ghi, wrn, dws⟩ := d
    unfold tiV at *
    dsimp only at *
    go_enter Tryz.func36, Tryz.ntmps36
    go_wp2_with fail
    have bT := BoxS.new w 28 #[.int .i64 full, .int .i64 read, .int .i64 slip, .int .i64 skew, .int .i64 circ, .int .i64 glo, .int .i64 ghi, .int .i64 wrn, .int .i64 gain, .slice A ts.length c]
    have hB1 : Below w.heap.size w (w.alloc (.cells #[.int .i64 full, .int .i64 read, .int .i64 slip, .int .i64 skew, .int .i64 circ, .int .i64 glo, .int .i64 ghi, .int .i64 wrn, .int .i64 gain, .slice A ts.length c] 28)) := by (repeat' (first | (with_reducible exact Below.refl _ _) | (with_reducible assumption) | (with_reducible refine Below.alloc ?_ ?_ _) | (with_reducible refine Below.drew ?_) | (with_reducible refine Below.setCell ?_ ?_ _) | go_size | (exact (by simp)) | omega))
    generalize World.alloc w _ = w1 at *
    refine (HF.out _ hB1).mono ?_
    rintro e w2 ⟨rfl, hb2⟩
    have hB2 := hB1.trans (hb2.mono hB1.size)
    go_wp2_with fail
    go_returns
    exact ⟨ret_b (by rw [HR.out]; rfl), hB2⟩
set_option maxHeartbeats 1000000 in
theorem isArea9_any (n : Int) (w : World) : Calls Tryz.prog 64 #[.int .i64 n] w fun e w' => e = .returned (.bool (inB n 0 9000)) ∧ w' = w := by
  go_enter Tryz.func64, Tryz.ntmps64
  go_wp2_with fail
  refine (within9_any n 0 9000 _).mono ?_
  rintro e w1 ⟨rfl, rfl⟩
  go_wp2_with fail
  go_returns
  exact ⟨rfl, rfl⟩
set_option maxHeartbeats 2000000 in
theorem IsClass9_any (sz mo : Int) (w : World) : Calls Tryz.prog 37 #[.agg #[.int .i64 sz, .int .i64 mo]] w fun e w' => e = .returned (.bool (Ti.classB sz mo)) ∧ Below w.heap.size w w' := by
  have H1 : Hid (∀ W, Calls Tryz.prog 64 #[.int .i64 sz] W fun e w' => e = .returned (.bool (inB sz 0 9000)) ∧ w' = W) := fun W => isArea9_any sz W
  have H2 : Hid (∀ W, Calls Tryz.prog 52 #[.int .i64 mo, .int .i64 0, .int .i64 9999] W fun e w' => e = .returned (.bool (inB mo 0 9999)) ∧ w' = W) := fun W => within9_any mo 0 9999 W
  have HR : Hid (Ti.classB sz mo = (inB sz 0 9000 && inB mo 0 9999)) := rfl
  generalize Ti.classB sz mo = R at *
  generalize inB mo 0 9999 = B2 at *
  cases hb : inB sz 0 9000
  · rw [hb] at H1 HR
    clear hb H2
    go_enter Tryz.func37, Tryz.ntmps37
    go_wp2_with fail
    have hB1 : Below w.heap.size w (w.alloc (.cells #[.int .i64 sz, .int .i64 mo] 45)) := by (repeat' (first | (with_reducible exact Below.refl _ _) | (with_reducible assumption) | (with_reducible refine Below.alloc ?_ ?_ _) | (with_reducible refine Below.drew ?_) | (with_reducible refine Below.setCell ?_ ?_ _) | go_size | (exact (by simp)) | omega))
    refine (H1.out _).mono ?_
    rintro e w2 ⟨rfl, rfl⟩
    go_wp2_with fail
    go_returns
    exact ⟨ret_b (by rw [HR.out]; rfl), hB1⟩
  · rw [hb] at H1 HR
    clear hb
    go_enter Tryz.func37, Tryz.ntmps37
    go_wp2_with fail
    have hB1 : Below w.heap.size w (w.alloc (.cells #[.int .i64 sz, .int .i64 mo] 45)) := by (repeat' (first | (with_reducible exact Below.refl _ _) | (with_reducible assumption) | (with_reducible refine Below.alloc ?_ ?_ _) | (with_reducible refine Below.drew ?_) | (with_reducible refine Below.setCell ?_ ?_ _) | go_size | (exact (by simp)) | omega))
    refine (H1.out _).mono ?_
    rintro e w2 ⟨rfl, rfl⟩
    go_wp2_with fail
    refine (H2.out _).mono ?_
    rintro e w3 ⟨rfl, rfl⟩
    go_wp2_with fail
    go_returns
    exact ⟨ret_b (by rw [HR.out]; rfl), hB1⟩
end Go.Proofs.YtkmacpkjobdffaaGreat
namespace Go.Proofs.YtkmacpkjobdffaaGreat
open Go.RowKit
/-- A row of tests, of any length. -/
def Tsts0 (w : World) (B : Nat) (A : Option Addr) (ts : List Ti.Tst) : Prop :=
  0 < ts.length → ∃ b off, A = some ⟨b, off, none⟩ ∧ b < B ∧ ∀ k x, ts[k]? = some x → ∃ A' c', w.cell? ⟨b, off + k * 2, none⟩ = some (.int .i64 x.1) ∧ w.cell? ⟨b, off + k * 2 + 1, none⟩ = some (.slice A' x.2.length c') ∧ Wks w B A' x.2
theorem Tsts0.short {w : World} {B : Nat} {A : Option Addr} {ts : List Ti.Tst} (h : Tsts0 w B A ts) (hl : Ti.longTo ts ts.length = false) : Tsts w B A ts := fun hn => by
  obtain ⟨b, off, e, hB, hc⟩ := h hn
  refine ⟨b, off, e, hB, fun k x hk => ?_⟩
  obtain ⟨A', c', h1, h2, h3⟩ := hc k x hk
  have hk' := (List.getElem?_eq_some_iff.1 hk).1
  have := Ti.longTo_no _ hl k hk'
  have e2 : Ti.tstAt ts k = x := by unfold Ti.tstAt; rw [hk]; rfl
  rw [e2] at this
  exact ⟨A', c', h1, h2, h3, by omega⟩
set_option maxRecDepth 100000 in
set_option maxHeartbeats 8000000 in
theorem Far9_long (t : Ti.Tri) (A : Option Addr) (c : Nat) (w : World) (hll : 20 < t.ts.length ∨ Ti.longTo t.ts t.ts.length = true) (hg : Tsts0 w w.heap.size A t.ts) :
    Calls Tryz.prog 8 #[.agg (tiV t A c)] w fun e w' => e = .returned (.bool true) ∧ Below w.heap.size w w' := by
  have HG := Lib.hid hg
  clear hg
  by_cases h20 : 20 < t.ts.length
  · have h4i : decide ((20 : Int) < (t.ts.length : Int)) = true := decide_eq_true (by omega)
    clear HG hll
    obtain ⟨d, gain, ts⟩ := t
    obtain ⟨full, read, slip, skew, circ, glo, ghi, wrn, dws⟩ := d
    unfold tiV at *
    dsimp only at *
    go_enter Tryz.func8, Tryz.ntmps8
    go_wp2_with fail
    go_returns
    exact ⟨rfl, by (repeat' (first | (with_reducible exact Below.refl _ _) | (with_reducible assumption) | (with_reducible refine Below.alloc ?_ ?_ _) | (with_reducible refine Below.drew ?_) | (with_reducible refine Below.setCell ?_ ?_ _) | go_size | (exact (by simp)) | omega))⟩
  · have h4i : decide ((20 : Int) < (t.ts.length : Int)) = false := decide_eq_false (by omega)
    have hLT := hll.resolve_left h20
    have HLT := Lib.hid hLT
    clear hLT hll
    have HM0 : Hid (Ti.manyTo t.ts 0 = 0) := rfl
    have HMS : Hid (∀ k, Ti.manyTo t.ts (k + 1) = max (Ti.manyTo t.ts k) ((Ti.tstAt t.ts k).2.length : Int)) := fun k => rfl
    have HL0 : Hid (Ti.longTo t.ts 0 = false) := rfl
    have HLS : Hid (∀ k, Ti.longTo t.ts (k + 1) = (Ti.longTo t.ts k || decide (20 < (Ti.tstAt t.ts k).2.length))) := fun k => rfl
    have HLY : Hid (∀ k, k < t.ts.length → 20 < (Ti.tstAt t.ts k).2.length → Ti.longTo t.ts t.ts.length = true) := fun k h1 h2 => Ti.longTo_yes h2 _ h1
    generalize Ti.longTo t.ts = LT at *
    generalize Ti.manyTo t.ts = MT at *
    have hn20 : t.ts.length ≤ 20 := by omega
    clear h20
    obtain ⟨d, gain, ts⟩ := t
    obtain ⟨full, read, slip, skew, circ, glo, ghi, wrn, dws⟩ := d
    unfold tiV at *
    dsimp only at *
    go_enter Tryz.func8, Tryz.ntmps8
    go_wp2_with fail
    have bT := BoxS.new w 28 #[.int .i64 full, .int .i64 read, .int .i64 slip, .int .i64 skew, .int .i64 circ, .int .i64 glo, .int .i64 ghi, .int .i64 wrn, .int .i64 gain, .slice A ts.length c]
    have hB1 : Below w.heap.size w (w.alloc (.cells #[.int .i64 full, .int .i64 read, .int .i64 slip, .int .i64 skew, .int .i64 circ, .int .i64 glo, .int .i64 ghi, .int .i64 wrn, .int .i64 gain, .slice A ts.length c] 28)) := by (repeat' (first | (with_reducible exact Below.refl _ _) | (with_reducible assumption) | (with_reducible refine Below.alloc ?_ ?_ _) | (with_reducible refine Below.drew ?_) | (with_reducible refine Below.setCell ?_ ?_ _) | go_size | (exact (by simp)) | omega))
    generalize World.alloc w _ = w1 at *
    go_loopw [3, 4] (fun x3 x4 wr => ∃ k : Nat, (k : Int) ≤ ts.length ∧ x3 = .int .i64 (MT k) ∧ x4 = .int .i64 (k : Int) ∧ Below w.heap.size w wr ∧ BoxS wr w.heap.size 28 #[.int .i64 full, .int .i64 read, .int .i64 slip, .int .i64 skew, .int .i64 circ, .int .i64 glo, .int .i64 ghi, .int .i64 wrn, .int .i64 gain, .slice A ts.length c] ∧ Hid (LT k = false)) (fun _ x4 _ => (ts.length - intOf x4).toNat)
    case atStart => exact ⟨0, by omega, by rw [HM0.out], rfl, hB1, bT, HL0.out⟩
    case round =>
      clear bT hB1
      obtain ⟨k, hk, rfl, rfl, hBr, bT1, hat⟩ := hrel
      have hk0 := Int.natCast_nonneg k
      by_cases hlt : (k : Int) < ts.length
      · have hkn : k < ts.length := by omega
        have hw1 : IntKind.i64.wrap ((k : Int) + 1) = (k : Int) + 1 := IntWalk.i64_in _ (by omega)
        obtain ⟨b, off, rfl, hb, hc⟩ := HG.out (by omega)
        obtain ⟨A', c', x0, x1, _⟩ := hc k _ (tst_at hkn)
        have y0 := (hBr.cell (p := ⟨b, _, none⟩) hb).trans x0
        have y1 := (hBr.cell (p := ⟨b, _, none⟩) hb).trans x1
        have hbr : b < wr.heap.size := by have := hBr.size; omega
        have HMS1 := Lib.hid (HMS.out k)
        have HLS1 := Lib.hid (HLS.out k)
        have HLY1 := Lib.hid (HLY.out k hkn)
        clear hc x0 x1
        generalize Ti.tstAt ts k = x at *
        obtain ⟨xa, xw⟩ := x
        dsimp only at *
        have c9 := bT1.cell 9 rfl
        have lT := bT1.lt
        by_cases hx : 20 < xw.length
        · have hxi : decide ((20 : Int) < (xw.length : Int)) = true := decide_eq_true (by omega)
          go_wp2_with fail
          go_returns
          exact ⟨rfl, hBr⟩
        · have hxi : decide ((20 : Int) < (xw.length : Int)) = false := decide_eq_false (by omega)
          go_wp2_with fail
          go_roundw
          case rel => exact ⟨k + 1, by omega, by rw [HMS1.out], by go_num, hBr, bT1, by unfold Hid; rw [HLS1.out, hat.out, decide_eq_false hx]; rfl⟩
          case measure => simp [intOf]; omega
      · have ek : k = ts.length := by omega
        subst ek
        exact absurd hat.out (by rw [HLT.out]; simp)
set_option maxRecDepth 100000 in
set_option maxHeartbeats 4000000 in
theorem ready9_long (t : Ti.Tri) (A : Option Addr) (c : Nat) (w : World) (hll : 20 < t.ts.length ∨ Ti.longTo t.ts t.ts.length = true) (hg : Tsts0 w w.heap.size A t.ts) :
    Calls Tryz.prog 36 #[.agg (tiV t A c)] w fun e w' => e = .returned (.bool false) ∧ Below w.heap.size w w' := by
  have HF : Hid (∀ W, Below w.heap.size w W → Calls Tryz.prog 8 #[.agg (tiV t A c)] W fun e w' => e = .returned (.bool true) ∧ Below W.heap.size W w') := fun W hW => Far9_long t A c W hll (fun hn => by
    obtain ⟨b, off, e, hB, hc⟩ := hg hn
    refine ⟨b, off, e, by have := hW.size; omega, fun k x hk => ?_⟩
    obtain ⟨A', c', h1, h2, h3⟩ := hc k x hk
    exact ⟨A', c', (hW.cell (p := ⟨b, _, none⟩) hB).trans h1, (hW.cell (p := ⟨b, _, none⟩) hB).trans h2, (h3.keep hW).wider hW.size⟩)
  clear hg hll
  obtain ⟨d, gain, ts⟩ := t
  obtain ⟨full, read, slip, skew, circ, glo, ghi, wrn, dws⟩ := d
  unfold tiV at *
  dsimp only at *
  go_enter Tryz.func36, Tryz.ntmps36
  go_wp2_with fail
  have bT := BoxS.new w 28 #[.int .i64 full, .int .i64 read, .int .i64 slip, .int .i64 skew, .int .i64 circ, .int .i64 glo, .int .i64 ghi, .int .i64 wrn, .int .i64 gain, .slice A ts.length c]
  have hB1 : Below w.heap.size w (w.alloc (.cells #[.int .i64 full, .int .i64 read, .int .i64 slip, .int .i64 skew, .int .i64 circ, .int .i64 glo, .int .i64 ghi, .int .i64 wrn, .int .i64 gain, .slice A ts.length c] 28)) := by (repeat' (first | (with_reducible exact Below.refl _ _) | (with_reducible assumption) | (with_reducible refine Below.alloc ?_ ?_ _) | (with_reducible refine Below.drew ?_) | (with_reducible refine Below.setCell ?_ ?_ _) | go_size | (exact (by simp)) | omega))
  generalize World.alloc w _ = w1 at *
  refine (HF.out _ hB1).mono ?_
  rintro e w2 ⟨rfl, hb2⟩
  have hB2 := hB1.trans (hb2.mono hB1.size)
  go_wp2_with fail
  go_returns
  exact ⟨rfl, hB2⟩

open Go.ChangeShapes Go.WideShapes Go.ChangeAt Go.RowKit Go.Joins Go.Deep
theorem addr_add (b off j : Nat) : (⟨b, off, none⟩ : Addr).add j = ⟨b, off + j, none⟩ := by
  unfold Addr.add
  by_cases h0 : j = 0 <;> simp [h0]
theorem cells_int4 : Tryz.prog.cellsOf 3 = 1 := by kernel_rfl
theorem cells_span5 : Tryz.prog.cellsOf 23 = 2 := by kernel_rfl
theorem cells_wk5 : Tryz.prog.cellsOf 67 = 5 := by kernel_rfl
section
variable {H : Type} {enc : TypeId × Value → H} {w : World} {base : Nat} {spare : Nat → Bool} {held : Bool} {r : Reach} {b0 : Nat} {v : Value} {d : DataW H} {p : List MemPlace}
set_option maxRecDepth 100000 in
theorem trod_span_cells {n : Nat} {c0 c1 : Value} {x : DataW H × List MemPlace} (h : DataW.trod enc Tryz.prog w base spare held n 23 [c0, c1] = some x) : ∃ a b : Int, c0 = .int .i64 a ∧ c1 = .int .i64 b := by
  obtain ⟨y0, y1, m, hx, _, h0, h1⟩ := trod_struct2 Tryz.underlying23 h
  obtain ⟨a, e0, rfl, wa⟩ := DataW.trod_int Tryz.underlying3 (by simpa using h0)
  obtain ⟨b, e1, rfl, wb⟩ := DataW.trod_int Tryz.underlying3 (by simpa using h1)
  rw [cells_int4] at e0 e1
  exact ⟨a, b, by simpa using e0, by simpa using e1⟩
set_option maxRecDepth 100000 in
theorem trod_wk_cells {n : Nat} {c0 c1 c2 c3 c4 : Value} {x : DataW H × List MemPlace} (h : DataW.trod enc Tryz.prog w base spare held n 67 [c0, c1, c2, c3, c4] = some x) : ∃ q : Wh.Wk, c0 = .int .i64 q.1 ∧ c1 = .int .i64 q.2.1 ∧ c2 = .int .i64 q.2.2.1 ∧ c3 = .int .i64 q.2.2.2.1 ∧ c4 = .int .i64 q.2.2.2.2 := by
  obtain ⟨xs, n, _, hx, _, hlen, hg⟩ := DataW.trod_struct Tryz.underlying67 h
  match xs, hlen with
  | [y0, y1, y2, y3, y4], _ =>
    have g0 := hg 0 _ rfl
    have g1 := hg 1 _ rfl
    have g2 := hg 2 _ rfl
    have g3 := hg 3 _ rfl
    have g4 := hg 4 _ rfl
    simp [cells_int4] at g0 g1 g2 g3 g4
    obtain ⟨a, e0, _, _⟩ := DataW.trod_int Tryz.underlying3 g0
    obtain ⟨b, e1, _, _⟩ := DataW.trod_int Tryz.underlying3 g1
    obtain ⟨c, e2, _, _⟩ := DataW.trod_int Tryz.underlying3 g2
    obtain ⟨d, e3, _, _⟩ := DataW.trod_int Tryz.underlying3 g3
    obtain ⟨f, e4, _, _⟩ := DataW.trod_int Tryz.underlying3 g4
    simp at e0 e1 e2 e3 e4
    exact ⟨(a, b, c, d, f), e0, e1, e2, e3, e4⟩
set_option maxRecDepth 100000 in
theorem trod_wks {n : Nat} {c0 : Value} {x : DataW H × List MemPlace} (h : DataW.trod enc Tryz.prog w base spare held n 75 [c0] = some x) :
    ∃ (A : Option Addr) (c : Nat) (cs : List Wh.Wk), c0 = .slice A cs.length c ∧ Wks w w.heap.size A cs ∧ cs.length ≤ maxLen ∧ cs.length ≤ c := by
  rcases open_slice Tryz.underlying75 h with ⟨e, _⟩ | ⟨a, len, cap, m, n, D, Pl, e, hb, hl, hm, hmm, _, hx⟩
  · obtain rfl : c0 = .slice none 0 0 := by simpa using e
    exact ⟨none, 0, [], rfl, fun h => by simp at h, by simp, by simp⟩
  · obtain rfl : c0 = .slice (some a) len cap := by simpa using e
    have hlm : len ≤ m := by rw [hmm]; split <;> omega
    have each : ∀ i, i < m → ∃ q : Wh.Wk, w.cell? (a.add (i * 5)) = some (.int .i64 q.1) ∧ w.cell? (a.add (i * 5 + 1)) = some (.int .i64 q.2.1) ∧ w.cell? (a.add (i * 5 + 2)) = some (.int .i64 q.2.2.1) ∧ w.cell? (a.add (i * 5 + 3)) = some (.int .i64 q.2.2.2.1) ∧ w.cell? (a.add (i * 5 + 4)) = some (.int .i64 q.2.2.2.2) := by
      intro i hi
      obtain ⟨cs', h1, h2⟩ := hx i hi
      rw [cells_wk5] at h1
      obtain ⟨_, hlen, hcell⟩ := World.cells?_some h1
      match cs', hlen with
      | [v0, v1, v2, v3, v4], _ =>
        obtain ⟨q, rfl, rfl, rfl, rfl, rfl⟩ := trod_wk_cells h2
        have e0 := hcell 0 (by omega)
        have e1 := hcell 1 (by omega)
        have e2 := hcell 2 (by omega)
        have e3 := hcell 3 (by omega)
        have e4 := hcell 4 (by omega)
        rw [Go.Deep.add_add] at e0 e1 e2 e3 e4
        exact ⟨q, by simpa using e0, by simpa using e1, by simpa using e2, by simpa using e3, by simpa using e4⟩
    obtain ⟨q, hq⟩ := choose_lt each
    refine ⟨some a, cap, (List.range len).map q, by simp, fun hn => ?_, by simp; omega, by simp; omega⟩
    have hn' : 0 < len := by simpa using hn
    have hc0 := (hq 0 (by omega)).1
    have hs := World.cell?_spot hc0
    have hlt := cell_lt hc0
    obtain ⟨b, off, spot⟩ := a
    have hs' : spot = none := by simpa [Addr.add] using hs
    subst hs'
    refine ⟨b, off, rfl, by simpa [addr_add] using hlt, fun k hk => ?_⟩
    have hkl : k < len := by simpa using hk
    have hg : Wh.wkAt ((List.range len).map q) k = q k := by
      unfold Wh.wkAt
      rw [List.getElem?_map, List.getElem?_range hkl]
      rfl
    rw [hg]
    obtain ⟨x0, x1, x2, x3, x4⟩ := hq k (by omega)
    rw [addr_add] at x0 x1 x2 x3 x4
    exact ⟨x0, x1, x2, x3, x4⟩
theorem cells_wks5 : Tryz.prog.cellsOf 75 = 1 := by kernel_rfl
theorem cells_test5 : Tryz.prog.cellsOf 78 = 2 := by kernel_rfl
theorem cells_tests5 : Tryz.prog.cellsOf 26 = 1 := by kernel_rfl
theorem cells_wheel5 : Tryz.prog.cellsOf 25 = 8 := by kernel_rfl
set_option maxRecDepth 100000 in
theorem trod_wheel_cells {n : Nat} {c0 c1 c2 c3 c4 c5 c6 c7 : Value} {x : DataW H × List MemPlace} (h : DataW.trod enc Tryz.prog w base spare held n 25 [c0, c1, c2, c3, c4, c5, c6, c7] = some x) :
    ∃ f1 f2 f3 f4 f5 f6 f7 f8 : Int, c0 = .int .i64 f1 ∧ c1 = .int .i64 f2 ∧ c2 = .int .i64 f3 ∧ c3 = .int .i64 f4 ∧ c4 = .int .i64 f5 ∧ c5 = .int .i64 f6 ∧ c6 = .int .i64 f7 ∧ c7 = .int .i64 f8 := by
  obtain ⟨xs, n, _, hx, _, hlen, hg⟩ := DataW.trod_struct Tryz.underlying25 h
  match xs, hlen with
  | [y0, y1, y2, y3, y4, y5, y6], _ =>
    have g0 := hg 0 _ rfl
    have g1 := hg 1 _ rfl
    have g2 := hg 2 _ rfl
    have g3 := hg 3 _ rfl
    have g4 := hg 4 _ rfl
    have g5 := hg 5 _ rfl
    have g6 := hg 6 _ rfl
    simp [cells_int4, cells_span5] at g0 g1 g2 g3 g4 g5 g6
    obtain ⟨f1, e0, _, _⟩ := DataW.trod_int Tryz.underlying3 g0
    obtain ⟨f2, e1, _, _⟩ := DataW.trod_int Tryz.underlying3 g1
    obtain ⟨f3, e2, _, _⟩ := DataW.trod_int Tryz.underlying3 g2
    obtain ⟨f4, e3, _, _⟩ := DataW.trod_int Tryz.underlying3 g3
    obtain ⟨f5, e4, _, _⟩ := DataW.trod_int Tryz.underlying3 g4
    obtain ⟨f6, f7, e5, e6⟩ := trod_span_cells g5
    obtain ⟨f8, e7, _, _⟩ := DataW.trod_int Tryz.underlying3 g6
    simp at e0 e1 e2 e3 e4 e7
    exact ⟨f1, f2, f3, f4, f5, f6, f7, f8, e0, e1, e2, e3, e4, e5, e6, e7⟩
set_option maxRecDepth 100000 in
theorem trod_tsts {n : Nat} {c0 : Value} {x : DataW H × List MemPlace} (h : DataW.trod enc Tryz.prog w base spare held n 26 [c0] = some x) :
    ∃ (A : Option Addr) (c : Nat) (ts : List Ti.Tst), c0 = .slice A ts.length c ∧ Tsts0 w w.heap.size A ts ∧ ts.length ≤ maxLen := by
  rcases open_slice Tryz.underlying26 h with ⟨e, _⟩ | ⟨a, len, cap, m, n, D, Pl, e, hb, hl, hm, hmm, _, hx⟩
  · obtain rfl : c0 = .slice none 0 0 := by simpa using e
    exact ⟨none, 0, [], rfl, fun h => by simp at h, by simp⟩
  · obtain rfl : c0 = .slice (some a) len cap := by simpa using e
    have hlm : len ≤ m := by rw [hmm]; split <;> omega
    have each : ∀ i, i < m → ∃ q : Ti.Tst × Option Addr × Nat, w.cell? (a.add (i * 2)) = some (.int .i64 q.1.1) ∧ w.cell? (a.add (i * 2 + 1)) = some (.slice q.2.1 q.1.2.length q.2.2) ∧ Wks w w.heap.size q.2.1 q.1.2 := by
      intro i hi
      obtain ⟨cs', h1, h2⟩ := hx i hi
      rw [cells_test5] at h1
      obtain ⟨_, hlen, hcell⟩ := World.cells?_some h1
      match cs', hlen with
      | [v0, v1], _ =>
        obtain ⟨y0, y1, m', hx', _, g0, g1⟩ := trod_struct2 Tryz.underlying78 h2
        obtain ⟨a0, e0', _, _⟩ := DataW.trod_int Tryz.underlying3 (by simpa using g0)
        rw [cells_int4] at e0'
        obtain rfl : v0 = .int .i64 a0 := by simpa using e0'
        obtain ⟨A', c', cs, rfl, hw, _⟩ := trod_wks (c0 := v1) (by simpa [cells_wks5] using g1)
        have e0 := hcell 0 (by omega)
        have e1 := hcell 1 (by omega)
        rw [Go.Deep.add_add] at e0 e1
        exact ⟨((a0, cs), A', c'), by simpa using e0, by simpa using e1, hw⟩
    obtain ⟨q, hq⟩ := choose_lt each
    refine ⟨some a, cap, (List.range len).map fun i => (q i).1, by simp, fun hn => ?_, by simp; omega⟩
    have hn' : 0 < len := by simpa using hn
    have hc0 := (hq 0 (by omega)).1
    have hs := World.cell?_spot hc0
    have hlt := cell_lt hc0
    obtain ⟨b, off, spot⟩ := a
    have hs' : spot = none := by simpa [Addr.add] using hs
    subst hs'
    refine ⟨b, off, rfl, by simpa [addr_add] using hlt, fun k g hk => ?_⟩
    have hkl : k < len := by have := (List.getElem?_eq_some_iff.1 hk).1; simpa using this
    rw [List.getElem?_map, List.getElem?_range hkl] at hk
    obtain rfl : (q k).1 = g := by simpa using hk
    obtain ⟨x0, x1, x2⟩ := hq k (by omega)
    rw [addr_add] at x0 x1
    exact ⟨_, _, x0, x1, x2⟩
set_option maxRecDepth 100000 in
theorem open_Trial (hv : Value.okWide Tryz.prog w r b0 28 v) (h : DataW.Trod enc Tryz.prog w base spare held 28 v d p) :
    ∃ (t : Ti.Tri) (A : Option Addr) (c : Nat), v = .agg (tiV t A c) ∧ t.ts.length ≤ maxLen ∧ Tsts0 w w.heap.size A t.ts := by
  obtain ⟨cs, rfl, hsz⟩ := okWide_struct Tryz.underlying28 hv
  obtain ⟨l⟩ := cs
  match l, hsz.trans (by kernel_rfl : Tryz.prog.cellsOf 28 = 10) with
  | [c0, c1, c2, c3, c4, c5, c6, c7, c8, c9], _ =>
    obtain ⟨fuel, hf⟩ := h
    obtain ⟨xs, n, _, hx, _, hlen, hg⟩ := DataW.trod_struct Tryz.underlying28 hf
    match xs, hlen with
    | [y0, y1, y2], _ =>
      have g0 := hg 0 _ rfl
      have g1 := hg 1 _ rfl
      have g2 := hg 2 _ rfl
      simp [Value.cells, cells_int4, cells_wheel5, cells_tests5] at g0 g1 g2
      obtain ⟨f1, f2, f3, f4, f5, f6, f7, f8, rfl, rfl, rfl, rfl, rfl, rfl, rfl, rfl⟩ := trod_wheel_cells g0
      obtain ⟨f9, e1, _, _⟩ := DataW.trod_int Tryz.underlying3 g1
      obtain ⟨A, c, ts, rfl, hT, hl⟩ := trod_tsts g2
      simp at e1
      subst e1
      exact ⟨⟨⟨f1, f2, f3, f4, f5, f6, f7, f8, []⟩, f9, ts⟩, A, c, rfl, hl, hT⟩
end
end Go.Proofs.YtkmacpkjobdffaaGreat
