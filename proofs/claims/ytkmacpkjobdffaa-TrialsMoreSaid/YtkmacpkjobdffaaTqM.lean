/- Trials: the theorem of one more test (P9.12): the walk. -/
import Derived.Test.YtkmacpkjobdffaaTqC
import Derived.Test.YtkmacpkjobdffaaTpC
import Derived.Test.YtkmacpkjobdffaaLawCls
namespace Go.Proofs.Ytkmacpkjobdffaa
open Go.RowKit
set_option maxRecDepth 100000 in
set_option maxHeartbeats 16000000 in
theorem lawMore9_walk (t : Ti.Tri) (A : Option Addr) (c : Nat) (xa : Int) (AX : Option Addr) (xw : List Wh.Wk) (cX : Nat) (g sz mo : Int) (w : World) (hl : t.ts.length ≤ 1000000000) (hx : xw.length ≤ 20 → Wks w w.heap.size AX xw) (hg : Tsts w w.heap.size A t.ts) :
    Calls Try.prog 3 #[.agg (tiV t A c), .agg #[.int .i64 xa, .slice AX xw.length cX, .int .i64 g], .agg #[.int .i64 sz, .int .i64 mo]] w fun e w' => e = .returned (.bool true) ∧ Below w.heap.size w w' := by
  have HWK : Hid (∀ W, Calls Try.prog 10 #[] W fun e w' => e = .returned (.bool true) ∧ Below W.heap.size W w') := works9_any
  have HRD : Hid (∀ W, Below w.heap.size w W → Calls Try.prog 8 #[.agg (tiV t A c)] W fun e w' => e = .returned (.bool (Ti.readyB t)) ∧ Below W.heap.size W w') := fun W hW => ready9_any t A c W hl ((hg.keep hW).wider hW.size)
  have HIC : Hid (∀ W, Calls Try.prog 9 #[.agg #[.int .i64 sz, .int .i64 mo]] W fun e w' => e = .returned (.bool (Ti.classB sz mo)) ∧ Below W.heap.size W w') := fun W => IsClass9_any sz mo W
  cases hr : Ti.readyB t
  · rw [hr] at HRD
    clear hg hr HIC hx
    obtain ⟨d, gain, ts⟩ := t
    obtain ⟨full, read, slip, skew, circ, glo, ghi, wrn, dws⟩ := d
    unfold tiV at *
    dsimp only at *
    go_enter Try.func3, Try.ntmps3
    go_wp2_with fail
    have bT1 := (((BoxS.new w 28 #[.int .i64 full, .int .i64 read, .int .i64 slip, .int .i64 skew, .int .i64 circ, .int .i64 glo, .int .i64 ghi, .int .i64 wrn, .int .i64 gain, .slice A ts.length c]).alloc (.cells #[.int .i64 xa, .slice AX xw.length cX, .int .i64 g] 33)).alloc (.cells #[.int .i64 sz, .int .i64 mo] 35))
    have bX1 := ((BoxS.new (World.alloc w (.cells #[.int .i64 full, .int .i64 read, .int .i64 slip, .int .i64 skew, .int .i64 circ, .int .i64 glo, .int .i64 ghi, .int .i64 wrn, .int .i64 gain, .slice A ts.length c] 28)) 33 #[.int .i64 xa, .slice AX xw.length cX, .int .i64 g]).alloc (.cells #[.int .i64 sz, .int .i64 mo] 35))
    have bC1 := (BoxS.new (World.alloc (World.alloc w (.cells #[.int .i64 full, .int .i64 read, .int .i64 slip, .int .i64 skew, .int .i64 circ, .int .i64 glo, .int .i64 ghi, .int .i64 wrn, .int .i64 gain, .slice A ts.length c] 28)) (.cells #[.int .i64 xa, .slice AX xw.length cX, .int .i64 g] 33)) 35 #[.int .i64 sz, .int .i64 mo])
    have hB1 : Below w.heap.size w (World.alloc (World.alloc (World.alloc w (.cells #[.int .i64 full, .int .i64 read, .int .i64 slip, .int .i64 skew, .int .i64 circ, .int .i64 glo, .int .i64 ghi, .int .i64 wrn, .int .i64 gain, .slice A ts.length c] 28)) (.cells #[.int .i64 xa, .slice AX xw.length cX, .int .i64 g] 33)) (.cells #[.int .i64 sz, .int .i64 mo] 35)) := by (repeat' (first | (with_reducible exact Below.refl _ _) | (with_reducible assumption) | (with_reducible refine Below.alloc ?_ ?_ _) | (with_reducible refine Below.drew ?_) | (with_reducible refine Below.setCell ?_ ?_ _) | go_size | (exact (by simp)) | omega))
    simp only [World.size_alloc] at bX1 bC1
    generalize World.alloc (World.alloc (World.alloc w _) _) _ = w1 at *
    refine (HRD.out _ hB1).mono ?_
    rintro e w2 ⟨rfl, hb2⟩
    have bT2 := bT1.below hb2
    have bX2 := bX1.below hb2
    have bC2 := bC1.below hb2
    have hB2 := hB1.trans (hb2.mono hB1.size)
    clear bT1 bX1 bC1 hB1
    have kT0 := bT2.cell 0 rfl
    have kT1 := bT2.cell 1 rfl
    have kT2 := bT2.cell 2 rfl
    have kT3 := bT2.cell 3 rfl
    have kT4 := bT2.cell 4 rfl
    have kT5 := bT2.cell 5 rfl
    have kT6 := bT2.cell 6 rfl
    have kT7 := bT2.cell 7 rfl
    have kT8 := bT2.cell 8 rfl
    have kT9 := bT2.cell 9 rfl
    have lT := bT2.lt
    have kX0 := bX2.cell 0 rfl
    have kX1 := bX2.cell 1 rfl
    have kX2 := bX2.cell 2 rfl
    have lX := bX2.lt
    have kC0 := bC2.cell 0 rfl
    have kC1 := bC2.cell 1 rfl
    have lC := bC2.lt
    go_wp2_with fail
    clear kT0 kT1 kT2 kT3 kT4 kT5 kT6 kT7 kT8 kT9 lT kX0 kX1 kX2 lX kC0 kC1 lC
    refine (HWK.out _).mono ?_
    rintro e w3 ⟨rfl, hb3⟩
    have bT3 := bT2.below hb3
    have bX3 := bX2.below hb3
    have bC3 := bC2.below hb3
    have hB3 := hB2.trans (hb3.mono hB2.size)
    clear bT2 bX2 bC2 hB2
    go_wp2_with fail
    go_returns
    exact ⟨rfl, hB3⟩
  rw [hr] at HRD
  have hck : Ti.chkV t = 0 := by unfold Ti.readyB at hr; rw [Bool.and_eq_true, decide_eq_true_eq] at hr; exact hr.2
  obtain ⟨hga, _, _⟩ := Ti.chk_ok hck
  by_cases h3 : 3 < t.ts.length
  · have h3b : decide ((3 : Int) < (t.ts.length : Int)) = true := decide_eq_true (by omega)
    clear hg hr HIC hx hck hga
    obtain ⟨d, gain, ts⟩ := t
    obtain ⟨full, read, slip, skew, circ, glo, ghi, wrn, dws⟩ := d
    unfold tiV at *
    dsimp only at *
    go_enter Try.func3, Try.ntmps3
    go_wp2_with fail
    have bT1 := (((BoxS.new w 28 #[.int .i64 full, .int .i64 read, .int .i64 slip, .int .i64 skew, .int .i64 circ, .int .i64 glo, .int .i64 ghi, .int .i64 wrn, .int .i64 gain, .slice A ts.length c]).alloc (.cells #[.int .i64 xa, .slice AX xw.length cX, .int .i64 g] 33)).alloc (.cells #[.int .i64 sz, .int .i64 mo] 35))
    have bX1 := ((BoxS.new (World.alloc w (.cells #[.int .i64 full, .int .i64 read, .int .i64 slip, .int .i64 skew, .int .i64 circ, .int .i64 glo, .int .i64 ghi, .int .i64 wrn, .int .i64 gain, .slice A ts.length c] 28)) 33 #[.int .i64 xa, .slice AX xw.length cX, .int .i64 g]).alloc (.cells #[.int .i64 sz, .int .i64 mo] 35))
    have bC1 := (BoxS.new (World.alloc (World.alloc w (.cells #[.int .i64 full, .int .i64 read, .int .i64 slip, .int .i64 skew, .int .i64 circ, .int .i64 glo, .int .i64 ghi, .int .i64 wrn, .int .i64 gain, .slice A ts.length c] 28)) (.cells #[.int .i64 xa, .slice AX xw.length cX, .int .i64 g] 33)) 35 #[.int .i64 sz, .int .i64 mo])
    have hB1 : Below w.heap.size w (World.alloc (World.alloc (World.alloc w (.cells #[.int .i64 full, .int .i64 read, .int .i64 slip, .int .i64 skew, .int .i64 circ, .int .i64 glo, .int .i64 ghi, .int .i64 wrn, .int .i64 gain, .slice A ts.length c] 28)) (.cells #[.int .i64 xa, .slice AX xw.length cX, .int .i64 g] 33)) (.cells #[.int .i64 sz, .int .i64 mo] 35)) := by (repeat' (first | (with_reducible exact Below.refl _ _) | (with_reducible assumption) | (with_reducible refine Below.alloc ?_ ?_ _) | (with_reducible refine Below.drew ?_) | (with_reducible refine Below.setCell ?_ ?_ _) | go_size | (exact (by simp)) | omega))
    simp only [World.size_alloc] at bX1 bC1
    generalize World.alloc (World.alloc (World.alloc w _) _) _ = w1 at *
    refine (HRD.out _ hB1).mono ?_
    rintro e w2 ⟨rfl, hb2⟩
    have bT2 := bT1.below hb2
    have bX2 := bX1.below hb2
    have bC2 := bC1.below hb2
    have hB2 := hB1.trans (hb2.mono hB1.size)
    clear bT1 bX1 bC1 hB1
    have kT0 := bT2.cell 0 rfl
    have kT1 := bT2.cell 1 rfl
    have kT2 := bT2.cell 2 rfl
    have kT3 := bT2.cell 3 rfl
    have kT4 := bT2.cell 4 rfl
    have kT5 := bT2.cell 5 rfl
    have kT6 := bT2.cell 6 rfl
    have kT7 := bT2.cell 7 rfl
    have kT8 := bT2.cell 8 rfl
    have kT9 := bT2.cell 9 rfl
    have lT := bT2.lt
    have kX0 := bX2.cell 0 rfl
    have kX1 := bX2.cell 1 rfl
    have kX2 := bX2.cell 2 rfl
    have lX := bX2.lt
    have kC0 := bC2.cell 0 rfl
    have kC1 := bC2.cell 1 rfl
    have lC := bC2.lt
    go_wp2_with fail
    clear kT0 kT1 kT2 kT3 kT4 kT5 kT6 kT7 kT8 kT9 lT kX0 kX1 kX2 lX kC0 kC1 lC
    refine (HWK.out _).mono ?_
    rintro e w3 ⟨rfl, hb3⟩
    have bT3 := bT2.below hb3
    have bX3 := bX2.below hb3
    have bC3 := bC2.below hb3
    have hB3 := hB2.trans (hb3.mono hB2.size)
    clear bT2 bX2 bC2 hB2
    go_wp2_with fail
    go_returns
    exact ⟨rfl, hB3⟩
  have h3b : decide ((3 : Int) < (t.ts.length : Int)) = false := decide_eq_false (by omega)
  by_cases h20 : 20 < xw.length
  · have h20b : decide ((20 : Int) < (xw.length : Int)) = true := decide_eq_true (by omega)
    clear hg hr HIC hx hck hga
    obtain ⟨d, gain, ts⟩ := t
    obtain ⟨full, read, slip, skew, circ, glo, ghi, wrn, dws⟩ := d
    unfold tiV at *
    dsimp only at *
    go_enter Try.func3, Try.ntmps3
    go_wp2_with fail
    have bT1 := (((BoxS.new w 28 #[.int .i64 full, .int .i64 read, .int .i64 slip, .int .i64 skew, .int .i64 circ, .int .i64 glo, .int .i64 ghi, .int .i64 wrn, .int .i64 gain, .slice A ts.length c]).alloc (.cells #[.int .i64 xa, .slice AX xw.length cX, .int .i64 g] 33)).alloc (.cells #[.int .i64 sz, .int .i64 mo] 35))
    have bX1 := ((BoxS.new (World.alloc w (.cells #[.int .i64 full, .int .i64 read, .int .i64 slip, .int .i64 skew, .int .i64 circ, .int .i64 glo, .int .i64 ghi, .int .i64 wrn, .int .i64 gain, .slice A ts.length c] 28)) 33 #[.int .i64 xa, .slice AX xw.length cX, .int .i64 g]).alloc (.cells #[.int .i64 sz, .int .i64 mo] 35))
    have bC1 := (BoxS.new (World.alloc (World.alloc w (.cells #[.int .i64 full, .int .i64 read, .int .i64 slip, .int .i64 skew, .int .i64 circ, .int .i64 glo, .int .i64 ghi, .int .i64 wrn, .int .i64 gain, .slice A ts.length c] 28)) (.cells #[.int .i64 xa, .slice AX xw.length cX, .int .i64 g] 33)) 35 #[.int .i64 sz, .int .i64 mo])
    have hB1 : Below w.heap.size w (World.alloc (World.alloc (World.alloc w (.cells #[.int .i64 full, .int .i64 read, .int .i64 slip, .int .i64 skew, .int .i64 circ, .int .i64 glo, .int .i64 ghi, .int .i64 wrn, .int .i64 gain, .slice A ts.length c] 28)) (.cells #[.int .i64 xa, .slice AX xw.length cX, .int .i64 g] 33)) (.cells #[.int .i64 sz, .int .i64 mo] 35)) := by (repeat' (first | (with_reducible exact Below.refl _ _) | (with_reducible assumption) | (with_reducible refine Below.alloc ?_ ?_ _) | (with_reducible refine Below.drew ?_) | (with_reducible refine Below.setCell ?_ ?_ _) | go_size | (exact (by simp)) | omega))
    simp only [World.size_alloc] at bX1 bC1
    generalize World.alloc (World.alloc (World.alloc w _) _) _ = w1 at *
    refine (HRD.out _ hB1).mono ?_
    rintro e w2 ⟨rfl, hb2⟩
    have bT2 := bT1.below hb2
    have bX2 := bX1.below hb2
    have bC2 := bC1.below hb2
    have hB2 := hB1.trans (hb2.mono hB1.size)
    clear bT1 bX1 bC1 hB1
    have kT0 := bT2.cell 0 rfl
    have kT1 := bT2.cell 1 rfl
    have kT2 := bT2.cell 2 rfl
    have kT3 := bT2.cell 3 rfl
    have kT4 := bT2.cell 4 rfl
    have kT5 := bT2.cell 5 rfl
    have kT6 := bT2.cell 6 rfl
    have kT7 := bT2.cell 7 rfl
    have kT8 := bT2.cell 8 rfl
    have kT9 := bT2.cell 9 rfl
    have lT := bT2.lt
    have kX0 := bX2.cell 0 rfl
    have kX1 := bX2.cell 1 rfl
    have kX2 := bX2.cell 2 rfl
    have lX := bX2.lt
    have kC0 := bC2.cell 0 rfl
    have kC1 := bC2.cell 1 rfl
    have lC := bC2.lt
    go_wp2_with fail
    clear kT0 kT1 kT2 kT3 kT4 kT5 kT6 kT7 kT8 kT9 lT kX0 kX1 kX2 lX kC0 kC1 lC
    refine (HWK.out _).mono ?_
    rintro e w3 ⟨rfl, hb3⟩
    have bT3 := bT2.below hb3
    have bX3 := bX2.below hb3
    have bC3 := bC2.below hb3
    have hB3 := hB2.trans (hb3.mono hB2.size)
    clear bT2 bX2 bC2 hB2
    go_wp2_with fail
    go_returns
    exact ⟨rfl, hB3⟩
  have h20b : decide ((20 : Int) < (xw.length : Int)) = false := decide_eq_false (by omega)
  cases hcb : Ti.classB sz mo
  · rw [hcb] at HIC
    clear hg hr hx hck hga hcb
    obtain ⟨d, gain, ts⟩ := t
    obtain ⟨full, read, slip, skew, circ, glo, ghi, wrn, dws⟩ := d
    unfold tiV at *
    dsimp only at *
    go_enter Try.func3, Try.ntmps3
    go_wp2_with fail
    have bT1 := (((BoxS.new w 28 #[.int .i64 full, .int .i64 read, .int .i64 slip, .int .i64 skew, .int .i64 circ, .int .i64 glo, .int .i64 ghi, .int .i64 wrn, .int .i64 gain, .slice A ts.length c]).alloc (.cells #[.int .i64 xa, .slice AX xw.length cX, .int .i64 g] 33)).alloc (.cells #[.int .i64 sz, .int .i64 mo] 35))
    have bX1 := ((BoxS.new (World.alloc w (.cells #[.int .i64 full, .int .i64 read, .int .i64 slip, .int .i64 skew, .int .i64 circ, .int .i64 glo, .int .i64 ghi, .int .i64 wrn, .int .i64 gain, .slice A ts.length c] 28)) 33 #[.int .i64 xa, .slice AX xw.length cX, .int .i64 g]).alloc (.cells #[.int .i64 sz, .int .i64 mo] 35))
    have bC1 := (BoxS.new (World.alloc (World.alloc w (.cells #[.int .i64 full, .int .i64 read, .int .i64 slip, .int .i64 skew, .int .i64 circ, .int .i64 glo, .int .i64 ghi, .int .i64 wrn, .int .i64 gain, .slice A ts.length c] 28)) (.cells #[.int .i64 xa, .slice AX xw.length cX, .int .i64 g] 33)) 35 #[.int .i64 sz, .int .i64 mo])
    have hB1 : Below w.heap.size w (World.alloc (World.alloc (World.alloc w (.cells #[.int .i64 full, .int .i64 read, .int .i64 slip, .int .i64 skew, .int .i64 circ, .int .i64 glo, .int .i64 ghi, .int .i64 wrn, .int .i64 gain, .slice A ts.length c] 28)) (.cells #[.int .i64 xa, .slice AX xw.length cX, .int .i64 g] 33)) (.cells #[.int .i64 sz, .int .i64 mo] 35)) := by (repeat' (first | (with_reducible exact Below.refl _ _) | (with_reducible assumption) | (with_reducible refine Below.alloc ?_ ?_ _) | (with_reducible refine Below.drew ?_) | (with_reducible refine Below.setCell ?_ ?_ _) | go_size | (exact (by simp)) | omega))
    simp only [World.size_alloc] at bX1 bC1
    generalize World.alloc (World.alloc (World.alloc w _) _) _ = w1 at *
    refine (HRD.out _ hB1).mono ?_
    rintro e w2 ⟨rfl, hb2⟩
    have bT2 := bT1.below hb2
    have bX2 := bX1.below hb2
    have bC2 := bC1.below hb2
    have hB2 := hB1.trans (hb2.mono hB1.size)
    clear bT1 bX1 bC1 hB1
    have kT0 := bT2.cell 0 rfl
    have kT1 := bT2.cell 1 rfl
    have kT2 := bT2.cell 2 rfl
    have kT3 := bT2.cell 3 rfl
    have kT4 := bT2.cell 4 rfl
    have kT5 := bT2.cell 5 rfl
    have kT6 := bT2.cell 6 rfl
    have kT7 := bT2.cell 7 rfl
    have kT8 := bT2.cell 8 rfl
    have kT9 := bT2.cell 9 rfl
    have lT := bT2.lt
    have kX0 := bX2.cell 0 rfl
    have kX1 := bX2.cell 1 rfl
    have kX2 := bX2.cell 2 rfl
    have lX := bX2.lt
    have kC0 := bC2.cell 0 rfl
    have kC1 := bC2.cell 1 rfl
    have lC := bC2.lt
    go_wp2_with fail
    clear kT0 kT1 kT2 kT3 kT4 kT5 kT6 kT7 kT8 kT9 lT kX0 kX1 kX2 lX kC0 kC1 lC
    refine (HIC.out _).mono ?_
    rintro e w3 ⟨rfl, hb3⟩
    have bT3 := bT2.below hb3
    have bX3 := bX2.below hb3
    have bC3 := bC2.below hb3
    have hB3 := hB2.trans (hb3.mono hB2.size)
    clear bT2 bX2 bC2 hB2
    have kT0 := bT3.cell 0 rfl
    have kT1 := bT3.cell 1 rfl
    have kT2 := bT3.cell 2 rfl
    have kT3 := bT3.cell 3 rfl
    have kT4 := bT3.cell 4 rfl
    have kT5 := bT3.cell 5 rfl
    have kT6 := bT3.cell 6 rfl
    have kT7 := bT3.cell 7 rfl
    have kT8 := bT3.cell 8 rfl
    have kT9 := bT3.cell 9 rfl
    have lT := bT3.lt
    have kX0 := bX3.cell 0 rfl
    have kX1 := bX3.cell 1 rfl
    have kX2 := bX3.cell 2 rfl
    have lX := bX3.lt
    have kC0 := bC3.cell 0 rfl
    have kC1 := bC3.cell 1 rfl
    have lC := bC3.lt
    go_wp2_with fail
    clear kT0 kT1 kT2 kT3 kT4 kT5 kT6 kT7 kT8 kT9 lT kX0 kX1 kX2 lX kC0 kC1 lC
    refine (HWK.out _).mono ?_
    rintro e w4 ⟨rfl, hb4⟩
    have bT4 := bT3.below hb4
    have bX4 := bX3.below hb4
    have bC4 := bC3.below hb4
    have hB4 := hB3.trans (hb4.mono hB3.size)
    clear bT3 bX3 bC3 hB3
    go_wp2_with fail
    go_returns
    exact ⟨rfl, hB4⟩
  rw [hcb] at HIC
  by_cases hg0 : g < 0
  · have hg0b : decide (g < 0) = true := decide_eq_true hg0
    clear hg hr hx hck hga hcb
    obtain ⟨d, gain, ts⟩ := t
    obtain ⟨full, read, slip, skew, circ, glo, ghi, wrn, dws⟩ := d
    unfold tiV at *
    dsimp only at *
    go_enter Try.func3, Try.ntmps3
    go_wp2_with fail
    have bT1 := (((BoxS.new w 28 #[.int .i64 full, .int .i64 read, .int .i64 slip, .int .i64 skew, .int .i64 circ, .int .i64 glo, .int .i64 ghi, .int .i64 wrn, .int .i64 gain, .slice A ts.length c]).alloc (.cells #[.int .i64 xa, .slice AX xw.length cX, .int .i64 g] 33)).alloc (.cells #[.int .i64 sz, .int .i64 mo] 35))
    have bX1 := ((BoxS.new (World.alloc w (.cells #[.int .i64 full, .int .i64 read, .int .i64 slip, .int .i64 skew, .int .i64 circ, .int .i64 glo, .int .i64 ghi, .int .i64 wrn, .int .i64 gain, .slice A ts.length c] 28)) 33 #[.int .i64 xa, .slice AX xw.length cX, .int .i64 g]).alloc (.cells #[.int .i64 sz, .int .i64 mo] 35))
    have bC1 := (BoxS.new (World.alloc (World.alloc w (.cells #[.int .i64 full, .int .i64 read, .int .i64 slip, .int .i64 skew, .int .i64 circ, .int .i64 glo, .int .i64 ghi, .int .i64 wrn, .int .i64 gain, .slice A ts.length c] 28)) (.cells #[.int .i64 xa, .slice AX xw.length cX, .int .i64 g] 33)) 35 #[.int .i64 sz, .int .i64 mo])
    have hB1 : Below w.heap.size w (World.alloc (World.alloc (World.alloc w (.cells #[.int .i64 full, .int .i64 read, .int .i64 slip, .int .i64 skew, .int .i64 circ, .int .i64 glo, .int .i64 ghi, .int .i64 wrn, .int .i64 gain, .slice A ts.length c] 28)) (.cells #[.int .i64 xa, .slice AX xw.length cX, .int .i64 g] 33)) (.cells #[.int .i64 sz, .int .i64 mo] 35)) := by (repeat' (first | (with_reducible exact Below.refl _ _) | (with_reducible assumption) | (with_reducible refine Below.alloc ?_ ?_ _) | (with_reducible refine Below.drew ?_) | (with_reducible refine Below.setCell ?_ ?_ _) | go_size | (exact (by simp)) | omega))
    simp only [World.size_alloc] at bX1 bC1
    generalize World.alloc (World.alloc (World.alloc w _) _) _ = w1 at *
    refine (HRD.out _ hB1).mono ?_
    rintro e w2 ⟨rfl, hb2⟩
    have bT2 := bT1.below hb2
    have bX2 := bX1.below hb2
    have bC2 := bC1.below hb2
    have hB2 := hB1.trans (hb2.mono hB1.size)
    clear bT1 bX1 bC1 hB1
    have kT0 := bT2.cell 0 rfl
    have kT1 := bT2.cell 1 rfl
    have kT2 := bT2.cell 2 rfl
    have kT3 := bT2.cell 3 rfl
    have kT4 := bT2.cell 4 rfl
    have kT5 := bT2.cell 5 rfl
    have kT6 := bT2.cell 6 rfl
    have kT7 := bT2.cell 7 rfl
    have kT8 := bT2.cell 8 rfl
    have kT9 := bT2.cell 9 rfl
    have lT := bT2.lt
    have kX0 := bX2.cell 0 rfl
    have kX1 := bX2.cell 1 rfl
    have kX2 := bX2.cell 2 rfl
    have lX := bX2.lt
    have kC0 := bC2.cell 0 rfl
    have kC1 := bC2.cell 1 rfl
    have lC := bC2.lt
    go_wp2_with fail
    clear kT0 kT1 kT2 kT3 kT4 kT5 kT6 kT7 kT8 kT9 lT kX0 kX1 kX2 lX kC0 kC1 lC
    refine (HIC.out _).mono ?_
    rintro e w3 ⟨rfl, hb3⟩
    have bT3 := bT2.below hb3
    have bX3 := bX2.below hb3
    have bC3 := bC2.below hb3
    have hB3 := hB2.trans (hb3.mono hB2.size)
    clear bT2 bX2 bC2 hB2
    have kT0 := bT3.cell 0 rfl
    have kT1 := bT3.cell 1 rfl
    have kT2 := bT3.cell 2 rfl
    have kT3 := bT3.cell 3 rfl
    have kT4 := bT3.cell 4 rfl
    have kT5 := bT3.cell 5 rfl
    have kT6 := bT3.cell 6 rfl
    have kT7 := bT3.cell 7 rfl
    have kT8 := bT3.cell 8 rfl
    have kT9 := bT3.cell 9 rfl
    have lT := bT3.lt
    have kX0 := bX3.cell 0 rfl
    have kX1 := bX3.cell 1 rfl
    have kX2 := bX3.cell 2 rfl
    have lX := bX3.lt
    have kC0 := bC3.cell 0 rfl
    have kC1 := bC3.cell 1 rfl
    have lC := bC3.lt
    go_wp2_with fail
    clear kT0 kT1 kT2 kT3 kT4 kT5 kT6 kT7 kT8 kT9 lT kX0 kX1 kX2 lX kC0 kC1 lC
    refine (HWK.out _).mono ?_
    rintro e w4 ⟨rfl, hb4⟩
    have bT4 := bT3.below hb4
    have bX4 := bX3.below hb4
    have bC4 := bC3.below hb4
    have hB4 := hB3.trans (hb4.mono hB3.size)
    clear bT3 bX3 bC3 hB3
    go_wp2_with fail
    go_returns
    exact ⟨rfl, hB4⟩
  by_cases hg5 : 50 < g
  · have hg0b : decide (g < 0) = false := decide_eq_false hg0
    have hg5b : decide (50 < g) = true := decide_eq_true hg5
    clear hg hr hx hck hga hcb
    obtain ⟨d, gain, ts⟩ := t
    obtain ⟨full, read, slip, skew, circ, glo, ghi, wrn, dws⟩ := d
    unfold tiV at *
    dsimp only at *
    go_enter Try.func3, Try.ntmps3
    go_wp2_with fail
    have bT1 := (((BoxS.new w 28 #[.int .i64 full, .int .i64 read, .int .i64 slip, .int .i64 skew, .int .i64 circ, .int .i64 glo, .int .i64 ghi, .int .i64 wrn, .int .i64 gain, .slice A ts.length c]).alloc (.cells #[.int .i64 xa, .slice AX xw.length cX, .int .i64 g] 33)).alloc (.cells #[.int .i64 sz, .int .i64 mo] 35))
    have bX1 := ((BoxS.new (World.alloc w (.cells #[.int .i64 full, .int .i64 read, .int .i64 slip, .int .i64 skew, .int .i64 circ, .int .i64 glo, .int .i64 ghi, .int .i64 wrn, .int .i64 gain, .slice A ts.length c] 28)) 33 #[.int .i64 xa, .slice AX xw.length cX, .int .i64 g]).alloc (.cells #[.int .i64 sz, .int .i64 mo] 35))
    have bC1 := (BoxS.new (World.alloc (World.alloc w (.cells #[.int .i64 full, .int .i64 read, .int .i64 slip, .int .i64 skew, .int .i64 circ, .int .i64 glo, .int .i64 ghi, .int .i64 wrn, .int .i64 gain, .slice A ts.length c] 28)) (.cells #[.int .i64 xa, .slice AX xw.length cX, .int .i64 g] 33)) 35 #[.int .i64 sz, .int .i64 mo])
    have hB1 : Below w.heap.size w (World.alloc (World.alloc (World.alloc w (.cells #[.int .i64 full, .int .i64 read, .int .i64 slip, .int .i64 skew, .int .i64 circ, .int .i64 glo, .int .i64 ghi, .int .i64 wrn, .int .i64 gain, .slice A ts.length c] 28)) (.cells #[.int .i64 xa, .slice AX xw.length cX, .int .i64 g] 33)) (.cells #[.int .i64 sz, .int .i64 mo] 35)) := by (repeat' (first | (with_reducible exact Below.refl _ _) | (with_reducible assumption) | (with_reducible refine Below.alloc ?_ ?_ _) | (with_reducible refine Below.drew ?_) | (with_reducible refine Below.setCell ?_ ?_ _) | go_size | (exact (by simp)) | omega))
    simp only [World.size_alloc] at bX1 bC1
    generalize World.alloc (World.alloc (World.alloc w _) _) _ = w1 at *
    refine (HRD.out _ hB1).mono ?_
    rintro e w2 ⟨rfl, hb2⟩
    have bT2 := bT1.below hb2
    have bX2 := bX1.below hb2
    have bC2 := bC1.below hb2
    have hB2 := hB1.trans (hb2.mono hB1.size)
    clear bT1 bX1 bC1 hB1
    have kT0 := bT2.cell 0 rfl
    have kT1 := bT2.cell 1 rfl
    have kT2 := bT2.cell 2 rfl
    have kT3 := bT2.cell 3 rfl
    have kT4 := bT2.cell 4 rfl
    have kT5 := bT2.cell 5 rfl
    have kT6 := bT2.cell 6 rfl
    have kT7 := bT2.cell 7 rfl
    have kT8 := bT2.cell 8 rfl
    have kT9 := bT2.cell 9 rfl
    have lT := bT2.lt
    have kX0 := bX2.cell 0 rfl
    have kX1 := bX2.cell 1 rfl
    have kX2 := bX2.cell 2 rfl
    have lX := bX2.lt
    have kC0 := bC2.cell 0 rfl
    have kC1 := bC2.cell 1 rfl
    have lC := bC2.lt
    go_wp2_with fail
    clear kT0 kT1 kT2 kT3 kT4 kT5 kT6 kT7 kT8 kT9 lT kX0 kX1 kX2 lX kC0 kC1 lC
    refine (HIC.out _).mono ?_
    rintro e w3 ⟨rfl, hb3⟩
    have bT3 := bT2.below hb3
    have bX3 := bX2.below hb3
    have bC3 := bC2.below hb3
    have hB3 := hB2.trans (hb3.mono hB2.size)
    clear bT2 bX2 bC2 hB2
    have kT0 := bT3.cell 0 rfl
    have kT1 := bT3.cell 1 rfl
    have kT2 := bT3.cell 2 rfl
    have kT3 := bT3.cell 3 rfl
    have kT4 := bT3.cell 4 rfl
    have kT5 := bT3.cell 5 rfl
    have kT6 := bT3.cell 6 rfl
    have kT7 := bT3.cell 7 rfl
    have kT8 := bT3.cell 8 rfl
    have kT9 := bT3.cell 9 rfl
    have lT := bT3.lt
    have kX0 := bX3.cell 0 rfl
    have kX1 := bX3.cell 1 rfl
    have kX2 := bX3.cell 2 rfl
    have lX := bX3.lt
    have kC0 := bC3.cell 0 rfl
    have kC1 := bC3.cell 1 rfl
    have lC := bC3.lt
    go_wp2_with fail
    clear kT0 kT1 kT2 kT3 kT4 kT5 kT6 kT7 kT8 kT9 lT kX0 kX1 kX2 lX kC0 kC1 lC
    refine (HWK.out _).mono ?_
    rintro e w4 ⟨rfl, hb4⟩
    have bT4 := bT3.below hb4
    have bX4 := bX3.below hb4
    have bC4 := bC3.below hb4
    have hB4 := hB3.trans (hb4.mono hB3.size)
    clear bT3 bX3 bC3 hB3
    go_wp2_with fail
    go_returns
    exact ⟨rfl, hB4⟩
  have hg0b : decide (g < 0) = false := decide_eq_false hg0
  have hg5b : decide (50 < g) = false := decide_eq_false hg5
  have hg0 : 0 ≤ g := by omega
  have hszB : inB sz 0 9000 = true := by unfold Ti.classB at hcb; rw [Bool.and_eq_true] at hcb; exact hcb.1
  have HMT : Hid (∀ W, Below w.heap.size w W → Calls Try.prog 11 #[.agg (tiV t A c)] W (TwoPost (Ti.manyE (Ti.opE t true) t) (Ti.opE t true) W)) := fun W hW => ManyT_any t A c W hl ((hg.keep hW).wider hW.size)
  have HER : Hid (∀ W, Below w.heap.size w W → Calls Try.prog 12 #[.agg (tiV t A c), .int .i64 sz] W (SpanPost (Ti.lowE (fun x => Ti.errV x sz) (Ti.opE (t) true) (t)) (Ti.highE (fun x => Ti.errV x sz) (Ti.opE (t) true) (t)) (Ti.opE t true) W)) := fun W hW => by
    have := Errs_any t sz A c W hl ((hg.keep hW).wider hW.size)
    rwa [hszB] at this
  have HCE : Hid (∀ W, Below w.heap.size w W → Calls Try.prog 13 #[.agg (tiV t A c), .agg #[.int .i64 sz, .int .i64 mo]] W (TwoPost (Ti.certV t sz mo (Ti.opE t true)) (Ti.opE t true) W)) := fun W hW => by
    have := Certify_any t sz mo A c W hl ((hg.keep hW).wider hW.size)
    rwa [hcb] at this
  have HGT : Hid (∀ W, Below w.heap.size w W → Calls Try.prog 16 #[.agg (tiV t A c)] W (IntsEPost (Ti.allE (fun x => x.1) (Ti.opE t true) t) (Ti.opE t true) W)) := fun W hW => GainsT_any t A c W hl ((hg.keep hW).wider hW.size)
  have HST : Hid (∀ W, Below w.heap.size w W → Calls Try.prog 17 #[.agg (tiV t A c)] W (IntsEPost (Ti.allE (fun x => x.2) (Ti.opE t true) t) (Ti.opE t true) W)) := fun W hW => SkewsT_any t A c W hl ((hg.keep hW).wider hW.size)
  have HCP : Hid (∀ W, Below w.heap.size w W → Calls Try.prog 15 #[.agg (tiV t A c)] W fun e w' => ∃ (AT : Option Addr) (cT : Nat) (xs : List Value), e = .returned (.agg (tiV t AT cT)) ∧ Hid (w'.ownsRow W.heap.size 31 2 (.slice AT t.ts.length cT) t.ts.length xs) ∧ Hid (CpRow W.heap.size w' t.ts t.ts.length xs) ∧ Below W.heap.size W w') := fun W hW => Copy9_any t A c W (by omega) ((hg.keep hW).wider hW.size)
  have hlo : (Ti.moreT t (xa, xw)).ts.length = t.ts.length + 1 := by unfold Ti.moreT; simp
  have HRO : Hid (∀ A' c' W, Tsts W W.heap.size A' (t.ts ++ [(xa, xw)]) → Calls Try.prog 8 #[.agg #[.int .i64 t.d.full, .int .i64 t.d.read, .int .i64 t.d.slip, .int .i64 t.d.skew, .int .i64 t.d.circ, .int .i64 t.d.glo, .int .i64 t.d.ghi, .int .i64 t.d.wr, .int .i64 t.gain, .slice A' (t.ts.length + 1) c']] W fun e w' => e = .returned (.bool (Ti.readyB (Ti.moreT t (xa, xw)))) ∧ Below W.heap.size W w') := fun A' c' W h => by
    have := ready9_any (Ti.moreT t (xa, xw)) A' c' W (by rw [hlo]; omega) h
    unfold tiV at this
    rw [hlo] at this
    exact this
  have HMO : Hid (∀ A' c' W, Tsts W W.heap.size A' (t.ts ++ [(xa, xw)]) → Calls Try.prog 11 #[.agg #[.int .i64 t.d.full, .int .i64 t.d.read, .int .i64 t.d.slip, .int .i64 t.d.skew, .int .i64 t.d.circ, .int .i64 t.d.glo, .int .i64 t.d.ghi, .int .i64 t.d.wr, .int .i64 t.gain, .slice A' (t.ts.length + 1) c']] W (TwoPost (Ti.manyE (Ti.opE (Ti.moreT t (xa, xw)) true) (Ti.moreT t (xa, xw))) (Ti.opE (Ti.moreT t (xa, xw)) true) W)) := fun A' c' W h => by
    have := ManyT_any (Ti.moreT t (xa, xw)) A' c' W (by rw [hlo]; omega) h
    unfold tiV at this
    rw [hlo] at this
    exact this
  have HEO : Hid (∀ A' c' W, Tsts W W.heap.size A' (t.ts ++ [(xa, xw)]) → Calls Try.prog 12 #[.agg #[.int .i64 t.d.full, .int .i64 t.d.read, .int .i64 t.d.slip, .int .i64 t.d.skew, .int .i64 t.d.circ, .int .i64 t.d.glo, .int .i64 t.d.ghi, .int .i64 t.d.wr, .int .i64 t.gain, .slice A' (t.ts.length + 1) c'], .int .i64 sz] W (SpanPost (Ti.lowE (fun x => Ti.errV x sz) (Ti.opE (Ti.moreT t (xa, xw)) true) (Ti.moreT t (xa, xw))) (Ti.highE (fun x => Ti.errV x sz) (Ti.opE (Ti.moreT t (xa, xw)) true) (Ti.moreT t (xa, xw))) (Ti.opE (Ti.moreT t (xa, xw)) true) W)) := fun A' c' W h => by
    have := Errs_any (Ti.moreT t (xa, xw)) sz A' c' W (by rw [hlo]; omega) h
    unfold tiV at this
    rw [hlo, hszB] at this
    exact this
  have HCO : Hid (∀ A' c' W, Tsts W W.heap.size A' (t.ts ++ [(xa, xw)]) → Calls Try.prog 13 #[.agg #[.int .i64 t.d.full, .int .i64 t.d.read, .int .i64 t.d.slip, .int .i64 t.d.skew, .int .i64 t.d.circ, .int .i64 t.d.glo, .int .i64 t.d.ghi, .int .i64 t.d.wr, .int .i64 t.gain, .slice A' (t.ts.length + 1) c'], .agg #[.int .i64 sz, .int .i64 mo]] W (TwoPost (Ti.certV (Ti.moreT t (xa, xw)) sz mo (Ti.opE (Ti.moreT t (xa, xw)) true)) (Ti.opE (Ti.moreT t (xa, xw)) true) W)) := fun A' c' W h => by
    have := Certify_any (Ti.moreT t (xa, xw)) sz mo A' c' W (by rw [hlo]; omega) h
    unfold tiV at this
    rw [hlo, hcb] at this
    exact this
  have HRW : Hid (∀ A' c' W, Tsts W W.heap.size A' t.ts → Calls Try.prog 8 #[.agg #[.int .i64 t.d.full, .int .i64 t.d.read, .int .i64 t.d.slip, .int .i64 t.d.skew, .int .i64 t.d.circ, .int .i64 t.d.glo, .int .i64 t.d.ghi, .int .i64 t.d.wr, .int .i64 (t.gain + g), .slice A' t.ts.length c']] W fun e w' => e = .returned (.bool (Ti.readyB (Ti.widT t g))) ∧ Below W.heap.size W w') := fun A' c' W h => ready9_any (Ti.widT t g) A' c' W hl h
  have HMW : Hid (∀ A' c' W, Tsts W W.heap.size A' t.ts → Calls Try.prog 11 #[.agg #[.int .i64 t.d.full, .int .i64 t.d.read, .int .i64 t.d.slip, .int .i64 t.d.skew, .int .i64 t.d.circ, .int .i64 t.d.glo, .int .i64 t.d.ghi, .int .i64 t.d.wr, .int .i64 (t.gain + g), .slice A' t.ts.length c']] W (TwoPost (Ti.manyE (Ti.opE (Ti.widT t g) true) (Ti.widT t g)) (Ti.opE (Ti.widT t g) true) W)) := fun A' c' W h => ManyT_any (Ti.widT t g) A' c' W hl h
  have HGW : Hid (∀ A' c' W, Tsts W W.heap.size A' t.ts → Calls Try.prog 16 #[.agg #[.int .i64 t.d.full, .int .i64 t.d.read, .int .i64 t.d.slip, .int .i64 t.d.skew, .int .i64 t.d.circ, .int .i64 t.d.glo, .int .i64 t.d.ghi, .int .i64 t.d.wr, .int .i64 (t.gain + g), .slice A' t.ts.length c']] W (IntsEPost (Ti.allE (fun x => x.1) (Ti.opE (Ti.widT t g) true) (Ti.widT t g)) (Ti.opE (Ti.widT t g) true) W)) := fun A' c' W h => GainsT_any (Ti.widT t g) A' c' W hl h
  have HSW : Hid (∀ A' c' W, Tsts W W.heap.size A' t.ts → Calls Try.prog 17 #[.agg #[.int .i64 t.d.full, .int .i64 t.d.read, .int .i64 t.d.slip, .int .i64 t.d.skew, .int .i64 t.d.circ, .int .i64 t.d.glo, .int .i64 t.d.ghi, .int .i64 t.d.wr, .int .i64 (t.gain + g), .slice A' t.ts.length c']] W (IntsEPost (Ti.allE (fun x => x.2) (Ti.opE (Ti.widT t g) true) (Ti.widT t g)) (Ti.opE (Ti.widT t g) true) W)) := fun A' c' W h => SkewsT_any (Ti.widT t g) A' c' W hl h
  have hOchk : Ti.readyB (Ti.moreT t (xa, xw)) = true → Ti.chkV (Ti.moreT t (xa, xw)) = 0 := fun h => by unfold Ti.readyB at h; rw [Bool.and_eq_true, decide_eq_true_eq] at h; exact h.2
  have hWchk : Ti.readyB (Ti.widT t g) = true → Ti.chkV (Ti.widT t g) = 0 := fun h => by unfold Ti.readyB at h; rw [Bool.and_eq_true, decide_eq_true_eq] at h; exact h.2
  have HEC : Hid (Ti.opE t true = 0 ∨ Ti.opE t true = 3) := Ti.op_cases hck true rfl
  have HEE : Hid (Ti.readyB (Ti.moreT t (xa, xw)) = true → Ti.opE (Ti.moreT t (xa, xw)) true = 0 ∨ Ti.opE (Ti.moreT t (xa, xw)) true = 3) := fun h => Ti.op_cases (hOchk h) true rfl
  have HFO : Hid (Ti.readyB (Ti.moreT t (xa, xw)) = true → Ti.opE (Ti.moreT t (xa, xw)) true = 0 → Ti.opE t true = 0 ∧ Ti.manyE (Ti.opE (Ti.moreT t (xa, xw)) true) (Ti.moreT t (xa, xw)) ≤ Ti.manyE (Ti.opE t true) t ∧ Ti.lowE (fun x => Ti.errV x sz) (Ti.opE (t) true) (t) ≤ Ti.lowE (fun x => Ti.errV x sz) (Ti.opE (Ti.moreT t (xa, xw)) true) (Ti.moreT t (xa, xw)) ∧ Ti.highE (fun x => Ti.errV x sz) (Ti.opE (Ti.moreT t (xa, xw)) true) (Ti.moreT t (xa, xw)) ≤ Ti.highE (fun x => Ti.errV x sz) (Ti.opE (t) true) (t) ∧ (Ti.certV t sz mo (Ti.opE t true) = 3 ∨ Ti.certV (Ti.moreT t (xa, xw)) sz mo (Ti.opE (Ti.moreT t (xa, xw)) true) = Ti.certV t sz mo (Ti.opE t true))) := fun h h0 => by
    obtain ⟨a, b, c, d, e⟩ := Ti.more_facts (x := (xa, xw)) hcb hck (hOchk h) h0
    rw [a, h0]
    exact ⟨rfl, b, c, d, Classical.byCases .inl fun h3 => .inr (e h3)⟩
  have HFW : Hid (Ti.readyB (Ti.widT t g) = true → Ti.opE t true = 0 → Ti.opE (Ti.widT t g) true = 0 ∧ Ti.manyE (Ti.opE t true) t ≤ Ti.manyE (Ti.opE (Ti.widT t g) true) (Ti.widT t g) ∧ ((∀ i ∈ Ti.allE (fun x => x.1) (Ti.opE t true) t, i ∈ Ti.allE (fun x => x.1) (Ti.opE (Ti.widT t g) true) (Ti.widT t g)) ∧ (Ti.allE (fun x => x.1) (Ti.opE t true) t).length ≤ (Ti.allE (fun x => x.1) (Ti.opE (Ti.widT t g) true) (Ti.widT t g)).length) ∧ ((∀ i ∈ Ti.allE (fun x => x.2) (Ti.opE t true) t, i ∈ Ti.allE (fun x => x.2) (Ti.opE (Ti.widT t g) true) (Ti.widT t g)) ∧ (Ti.allE (fun x => x.2) (Ti.opE t true) t).length ≤ (Ti.allE (fun x => x.2) (Ti.opE (Ti.widT t g) true) (Ti.widT t g)).length) ∧ (Ti.allE (fun x => x.1) (Ti.opE (Ti.widT t g) true) (Ti.widT t g)).length ≤ 200 ∧ (Ti.allE (fun x => x.2) (Ti.opE (Ti.widT t g) true) (Ti.widT t g)).length ≤ 200) := fun h h0 => by
    obtain ⟨a, b⟩ := Ti.wid_facts hg0 hck (hWchk h) h0
    rw [a, h0]
    exact ⟨rfl, b⟩
  have HKN : Hid (∀ W, Calls Try.prog 14 #[.int .i64 (Ti.opE t true)] W fun e w' => e = .returned (.bool true) ∧ w' = W) := fun W => by
    have := isKnown9_any (Ti.opE t true) W
    rwa [decide_eq_true HEC.out] at this
  have HKO : Hid (Ti.readyB (Ti.moreT t (xa, xw)) = true → ∀ W, Calls Try.prog 14 #[.int .i64 (Ti.opE (Ti.moreT t (xa, xw)) true)] W fun e w' => e = .returned (.bool true) ∧ w' = W) := fun h W => by
    have := isKnown9_any (Ti.opE (Ti.moreT t (xa, xw)) true) W
    rwa [decide_eq_true (HEE.out h)] at this
  have HSU : Hid (∀ xs ys : List Int, xs.length ≤ ys.length → ys.length ≤ 200 → (∀ i ∈ xs, i ∈ ys) → ∀ v v' W, Ints W W.heap.size v xs → Ints W W.heap.size v' ys → Calls Try.prog 18 #[v, v'] W fun e w' => e = .returned (.bool true) ∧ w' = W) := fun xs ys h1 h2 h3 v v' W hv hv' => subset_yes v v' xs ys W hv hv' (by omega) (by omega) h3 h1
  have hx' := hx (by omega)
  unfold SpanPost at HER HEO
  unfold TwoPost at HMT HCE HMO HCO HMW
  unfold IntsEPost at HGT HST HGW HSW
  generalize Ti.readyB (Ti.moreT t (xa, xw)) = R1 at *
  generalize Ti.readyB (Ti.widT t g) = R2 at *
  generalize Ti.manyE (Ti.opE (Ti.moreT t (xa, xw)) true) (Ti.moreT t (xa, xw)) = MO at *
  generalize Ti.lowE (fun x => Ti.errV x sz) (Ti.opE (Ti.moreT t (xa, xw)) true) (Ti.moreT t (xa, xw)) = LO2 at *
  generalize Ti.highE (fun x => Ti.errV x sz) (Ti.opE (Ti.moreT t (xa, xw)) true) (Ti.moreT t (xa, xw)) = HI2 at *
  generalize Ti.certV (Ti.moreT t (xa, xw)) sz mo (Ti.opE (Ti.moreT t (xa, xw)) true) = NO at *
  generalize Ti.manyE (Ti.opE (Ti.widT t g) true) (Ti.widT t g) = MW at *
  generalize Ti.allE (fun x => x.1) (Ti.opE (Ti.widT t g) true) (Ti.widT t g) = GW at *
  generalize Ti.allE (fun x => x.2) (Ti.opE (Ti.widT t g) true) (Ti.widT t g) = SW at *
  generalize Ti.manyE (Ti.opE t true) t = M at *
  generalize Ti.lowE (fun x => Ti.errV x sz) (Ti.opE (t) true) (t) = LO at *
  generalize Ti.highE (fun x => Ti.errV x sz) (Ti.opE (t) true) (t) = HI at *
  generalize Ti.certV t sz mo (Ti.opE t true) = N at *
  generalize Ti.allE (fun x => x.1) (Ti.opE t true) t = GT at *
  generalize Ti.allE (fun x => x.2) (Ti.opE t true) t = ST at *
  generalize Ti.opE (Ti.moreT t (xa, xw)) true = EO at *
  generalize Ti.opE (Ti.widT t g) true = EW at *
  generalize Ti.opE t true = E at *
  clear hg hr hck hcb hszB hOchk hWchk hlo
  have hwg : IntKind.i64.wrap (t.gain + g) = t.gain + g := IntWalk.i64_in _ (by omega)
  clear hga
  obtain ⟨d, gain, ts⟩ := t
  obtain ⟨full, read, slip, skew, circ, glo, ghi, wrn, dws⟩ := d
  unfold tiV at *
  dsimp only at *
  go_enter Try.func3, Try.ntmps3
  go_wp2_with fail
  have bT1 := (((BoxS.new w 28 #[.int .i64 full, .int .i64 read, .int .i64 slip, .int .i64 skew, .int .i64 circ, .int .i64 glo, .int .i64 ghi, .int .i64 wrn, .int .i64 gain, .slice A ts.length c]).alloc (.cells #[.int .i64 xa, .slice AX xw.length cX, .int .i64 g] 33)).alloc (.cells #[.int .i64 sz, .int .i64 mo] 35))
  have bX1 := ((BoxS.new (World.alloc w (.cells #[.int .i64 full, .int .i64 read, .int .i64 slip, .int .i64 skew, .int .i64 circ, .int .i64 glo, .int .i64 ghi, .int .i64 wrn, .int .i64 gain, .slice A ts.length c] 28)) 33 #[.int .i64 xa, .slice AX xw.length cX, .int .i64 g]).alloc (.cells #[.int .i64 sz, .int .i64 mo] 35))
  have bC1 := (BoxS.new (World.alloc (World.alloc w (.cells #[.int .i64 full, .int .i64 read, .int .i64 slip, .int .i64 skew, .int .i64 circ, .int .i64 glo, .int .i64 ghi, .int .i64 wrn, .int .i64 gain, .slice A ts.length c] 28)) (.cells #[.int .i64 xa, .slice AX xw.length cX, .int .i64 g] 33)) 35 #[.int .i64 sz, .int .i64 mo])
  have hB1 : Below w.heap.size w (World.alloc (World.alloc (World.alloc w (.cells #[.int .i64 full, .int .i64 read, .int .i64 slip, .int .i64 skew, .int .i64 circ, .int .i64 glo, .int .i64 ghi, .int .i64 wrn, .int .i64 gain, .slice A ts.length c] 28)) (.cells #[.int .i64 xa, .slice AX xw.length cX, .int .i64 g] 33)) (.cells #[.int .i64 sz, .int .i64 mo] 35)) := by (repeat' (first | (with_reducible exact Below.refl _ _) | (with_reducible assumption) | (with_reducible refine Below.alloc ?_ ?_ _) | (with_reducible refine Below.drew ?_) | (with_reducible refine Below.setCell ?_ ?_ _) | go_size | (exact (by simp)) | omega))
  simp only [World.size_alloc] at bX1 bC1
  generalize World.alloc (World.alloc (World.alloc w _) _) _ = w1 at *
  refine (HRD.out _ hB1).mono ?_
  rintro e w2 ⟨rfl, hb2⟩
  have bT2 := bT1.below hb2
  have bX2 := bX1.below hb2
  have bC2 := bC1.below hb2
  have hB2 := hB1.trans (hb2.mono hB1.size)
  clear bT1 bX1 bC1 hB1
  have kT0 := bT2.cell 0 rfl
  have kT1 := bT2.cell 1 rfl
  have kT2 := bT2.cell 2 rfl
  have kT3 := bT2.cell 3 rfl
  have kT4 := bT2.cell 4 rfl
  have kT5 := bT2.cell 5 rfl
  have kT6 := bT2.cell 6 rfl
  have kT7 := bT2.cell 7 rfl
  have kT8 := bT2.cell 8 rfl
  have kT9 := bT2.cell 9 rfl
  have lT := bT2.lt
  have kX0 := bX2.cell 0 rfl
  have kX1 := bX2.cell 1 rfl
  have kX2 := bX2.cell 2 rfl
  have lX := bX2.lt
  have kC0 := bC2.cell 0 rfl
  have kC1 := bC2.cell 1 rfl
  have lC := bC2.lt
  go_wp2_with fail
  clear kT0 kT1 kT2 kT3 kT4 kT5 kT6 kT7 kT8 kT9 lT kX0 kX1 kX2 lX kC0 kC1 lC
  refine (HIC.out _).mono ?_
  rintro e w3 ⟨rfl, hb3⟩
  have bT3 := bT2.below hb3
  have bX3 := bX2.below hb3
  have bC3 := bC2.below hb3
  have hB3 := hB2.trans (hb3.mono hB2.size)
  clear bT2 bX2 bC2 hB2
  have kT0 := bT3.cell 0 rfl
  have kT1 := bT3.cell 1 rfl
  have kT2 := bT3.cell 2 rfl
  have kT3 := bT3.cell 3 rfl
  have kT4 := bT3.cell 4 rfl
  have kT5 := bT3.cell 5 rfl
  have kT6 := bT3.cell 6 rfl
  have kT7 := bT3.cell 7 rfl
  have kT8 := bT3.cell 8 rfl
  have kT9 := bT3.cell 9 rfl
  have lT := bT3.lt
  have kX0 := bX3.cell 0 rfl
  have kX1 := bX3.cell 1 rfl
  have kX2 := bX3.cell 2 rfl
  have lX := bX3.lt
  have kC0 := bC3.cell 0 rfl
  have kC1 := bC3.cell 1 rfl
  have lC := bC3.lt
  go_wp2_with fail
  clear kT0 kT1 kT2 kT3 kT4 kT5 kT6 kT7 kT8 kT9 lT kX0 kX1 kX2 lX kC0 kC1 lC
  refine (HMT.out _ hB3).mono ?_
  rintro e w4 ⟨rfl, hb4⟩
  have bT4 := bT3.below hb4
  have bX4 := bX3.below hb4
  have bC4 := bC3.below hb4
  have hB4 := hB3.trans (hb4.mono hB3.size)
  clear bT3 bX3 bC3 hB3
  have kT0 := bT4.cell 0 rfl
  have kT1 := bT4.cell 1 rfl
  have kT2 := bT4.cell 2 rfl
  have kT3 := bT4.cell 3 rfl
  have kT4 := bT4.cell 4 rfl
  have kT5 := bT4.cell 5 rfl
  have kT6 := bT4.cell 6 rfl
  have kT7 := bT4.cell 7 rfl
  have kT8 := bT4.cell 8 rfl
  have kT9 := bT4.cell 9 rfl
  have lT := bT4.lt
  have kX0 := bX4.cell 0 rfl
  have kX1 := bX4.cell 1 rfl
  have kX2 := bX4.cell 2 rfl
  have lX := bX4.lt
  have kC0 := bC4.cell 0 rfl
  have kC1 := bC4.cell 1 rfl
  have lC := bC4.lt
  go_wp2_with fail
  clear kT0 kT1 kT2 kT3 kT4 kT5 kT6 kT7 kT8 kT9 lT kX0 kX1 kX2 lX kC0 kC1 lC
  refine (HER.out _ hB4).mono ?_
  rintro e w5 ⟨rfl, hb5⟩
  have bT5 := bT4.below hb5
  have bX5 := bX4.below hb5
  have bC5 := bC4.below hb5
  have hB5 := hB4.trans (hb5.mono hB4.size)
  clear bT4 bX4 bC4 hB4
  have kT0 := bT5.cell 0 rfl
  have kT1 := bT5.cell 1 rfl
  have kT2 := bT5.cell 2 rfl
  have kT3 := bT5.cell 3 rfl
  have kT4 := bT5.cell 4 rfl
  have kT5 := bT5.cell 5 rfl
  have kT6 := bT5.cell 6 rfl
  have kT7 := bT5.cell 7 rfl
  have kT8 := bT5.cell 8 rfl
  have kT9 := bT5.cell 9 rfl
  have lT := bT5.lt
  have kX0 := bX5.cell 0 rfl
  have kX1 := bX5.cell 1 rfl
  have kX2 := bX5.cell 2 rfl
  have lX := bX5.lt
  have kC0 := bC5.cell 0 rfl
  have kC1 := bC5.cell 1 rfl
  have lC := bC5.lt
  go_wp2_with fail
  clear kT0 kT1 kT2 kT3 kT4 kT5 kT6 kT7 kT8 kT9 lT kX0 kX1 kX2 lX kC0 kC1 lC
  have bT6 := (bT5.alloc (.cells #[.int .i64 LO, .int .i64 HI] 23))
  have bX6 := (bX5.alloc (.cells #[.int .i64 LO, .int .i64 HI] 23))
  have bC6 := (bC5.alloc (.cells #[.int .i64 LO, .int .i64 HI] 23))
  have bS6 := (BoxS.new w5 23 #[.int .i64 LO, .int .i64 HI])
  have hB6 : Below w.heap.size w (World.alloc w5 (.cells #[.int .i64 LO, .int .i64 HI] 23)) := (hB5.alloc hB5.size _)
  obtain ⟨BS, hBS⟩ : ∃ B, B = w5.heap.size := ⟨_, rfl⟩
  clear bT5 bX5 bC5 hB5
  generalize World.alloc w5 _ = w6 at *
  rw [← hBS]
  rw [← hBS] at bS6
  clear hBS
  refine (HCE.out _ hB6).mono ?_
  rintro e w7 ⟨rfl, hb7⟩
  have bT7 := bT6.below hb7
  have bX7 := bX6.below hb7
  have bC7 := bC6.below hb7
  have bS7 := bS6.below hb7
  have hB7 := hB6.trans (hb7.mono hB6.size)
  clear bT6 bX6 bC6 bS6 hB6
  have kT0 := bT7.cell 0 rfl
  have kT1 := bT7.cell 1 rfl
  have kT2 := bT7.cell 2 rfl
  have kT3 := bT7.cell 3 rfl
  have kT4 := bT7.cell 4 rfl
  have kT5 := bT7.cell 5 rfl
  have kT6 := bT7.cell 6 rfl
  have kT7 := bT7.cell 7 rfl
  have kT8 := bT7.cell 8 rfl
  have kT9 := bT7.cell 9 rfl
  have lT := bT7.lt
  have kX0 := bX7.cell 0 rfl
  have kX1 := bX7.cell 1 rfl
  have kX2 := bX7.cell 2 rfl
  have lX := bX7.lt
  have kC0 := bC7.cell 0 rfl
  have kC1 := bC7.cell 1 rfl
  have lC := bC7.lt
  have kS0 := bS7.cell 0 rfl
  have kS1 := bS7.cell 1 rfl
  have lS := bS7.lt
  go_wp2_with fail
  clear kT0 kT1 kT2 kT3 kT4 kT5 kT6 kT7 kT8 kT9 lT kX0 kX1 kX2 lX kC0 kC1 lC kS0 kS1 lS
  refine (HKN.out _).mono ?_
  rintro e wq ⟨rfl, hq⟩
  have hq := hq.symm
  subst hq
  have kT0 := bT7.cell 0 rfl
  have kT1 := bT7.cell 1 rfl
  have kT2 := bT7.cell 2 rfl
  have kT3 := bT7.cell 3 rfl
  have kT4 := bT7.cell 4 rfl
  have kT5 := bT7.cell 5 rfl
  have kT6 := bT7.cell 6 rfl
  have kT7 := bT7.cell 7 rfl
  have kT8 := bT7.cell 8 rfl
  have kT9 := bT7.cell 9 rfl
  have lT := bT7.lt
  have kX0 := bX7.cell 0 rfl
  have kX1 := bX7.cell 1 rfl
  have kX2 := bX7.cell 2 rfl
  have lX := bX7.lt
  have kC0 := bC7.cell 0 rfl
  have kC1 := bC7.cell 1 rfl
  have lC := bC7.lt
  have kS0 := bS7.cell 0 rfl
  have kS1 := bS7.cell 1 rfl
  have lS := bS7.lt
  go_wp2_with fail
  clear kT0 kT1 kT2 kT3 kT4 kT5 kT6 kT7 kT8 kT9 lT kX0 kX1 kX2 lX kC0 kC1 lC kS0 kS1 lS
  have hB0s := hB7.size
  refine (HCP.out _ hB7).mono ?_
  rintro e w8 ⟨AC, cC, xs, rfl, hOC, hCC, hb8⟩
  have bT8 := bT7.below hb8
  have bX8 := bX7.below hb8
  have bC8 := bC7.below hb8
  have bS8 := bS7.below hb8
  have hB8 := hB7.trans (hb8.mono hB7.size)
  clear bT7 bX7 bC7 bS7 hB7
  obtain ⟨B0, hB0⟩ : ∃ B, B = w7.heap.size := ⟨_, rfl⟩
  rw [← hB0] at hOC hCC
  have hBB : B0 ≤ w8.heap.size := by have := hb8.size; omega
  have kT0 := bT8.cell 0 rfl
  have kT1 := bT8.cell 1 rfl
  have kT2 := bT8.cell 2 rfl
  have kT3 := bT8.cell 3 rfl
  have kT4 := bT8.cell 4 rfl
  have kT5 := bT8.cell 5 rfl
  have kT6 := bT8.cell 6 rfl
  have kT7 := bT8.cell 7 rfl
  have kT8 := bT8.cell 8 rfl
  have kT9 := bT8.cell 9 rfl
  have lT := bT8.lt
  have kX0 := bX8.cell 0 rfl
  have kX1 := bX8.cell 1 rfl
  have kX2 := bX8.cell 2 rfl
  have lX := bX8.lt
  have kC0 := bC8.cell 0 rfl
  have kC1 := bC8.cell 1 rfl
  have lC := bC8.lt
  have kS0 := bS8.cell 0 rfl
  have kS1 := bS8.cell 1 rfl
  have lS := bS8.lt
  go_upto_region 9 with fail
  clear kT0 kT1 kT2 kT3 kT4 kT5 kT6 kT7 kT8 kT9 kX0 kX1 kX2 kC0 kC1 kS0 kS1 lT lX lC lS
  have hbO : Below w8.heap.size w8 (World.alloc w8 (.cells #[.int .i64 full, .int .i64 read, .int .i64 slip, .int .i64 skew, .int .i64 circ, .int .i64 glo, .int .i64 ghi, .int .i64 wrn, .int .i64 gain, .slice AC ts.length cC] 28)) := (Below.refl _ _).alloc (Nat.le_refl _) _
  have hOC1 := Lib.hid (owns_below hOC.out hbO)
  have hCC1 := Lib.hid (hCC.out.below hbO)
  have hBB1 : B0 ≤ (World.alloc w8 (.cells #[.int .i64 full, .int .i64 read, .int .i64 slip, .int .i64 skew, .int .i64 circ, .int .i64 glo, .int .i64 ghi, .int .i64 wrn, .int .i64 gain, .slice AC ts.length cC] 28)).heap.size := by have := hbO.size; omega
  clear hOC hCC hbO
  have hTO : w.heap.size + 1 + 1 < w8.heap.size ∧ BS < w8.heap.size := ⟨bC8.lt, bS8.lt⟩
  have hB00 : w.heap.size ≤ B0 := by omega
  have bT9 := (bT8.alloc (.cells #[.int .i64 full, .int .i64 read, .int .i64 slip, .int .i64 skew, .int .i64 circ, .int .i64 glo, .int .i64 ghi, .int .i64 wrn, .int .i64 gain, .slice AC ts.length cC] 28))
  have bX9 := (bX8.alloc (.cells #[.int .i64 full, .int .i64 read, .int .i64 slip, .int .i64 skew, .int .i64 circ, .int .i64 glo, .int .i64 ghi, .int .i64 wrn, .int .i64 gain, .slice AC ts.length cC] 28))
  have bC9 := (bC8.alloc (.cells #[.int .i64 full, .int .i64 read, .int .i64 slip, .int .i64 skew, .int .i64 circ, .int .i64 glo, .int .i64 ghi, .int .i64 wrn, .int .i64 gain, .slice AC ts.length cC] 28))
  have bS9 := (bS8.alloc (.cells #[.int .i64 full, .int .i64 read, .int .i64 slip, .int .i64 skew, .int .i64 circ, .int .i64 glo, .int .i64 ghi, .int .i64 wrn, .int .i64 gain, .slice AC ts.length cC] 28))
  have bO9 := (BoxS.new w8 28 #[.int .i64 full, .int .i64 read, .int .i64 slip, .int .i64 skew, .int .i64 circ, .int .i64 glo, .int .i64 ghi, .int .i64 wrn, .int .i64 gain, .slice AC ts.length cC])
  have hB9 : Below w.heap.size w (World.alloc w8 (.cells #[.int .i64 full, .int .i64 read, .int .i64 slip, .int .i64 skew, .int .i64 circ, .int .i64 glo, .int .i64 ghi, .int .i64 wrn, .int .i64 gain, .slice AC ts.length cC] 28)) := (hB8.alloc hB8.size _)
  obtain ⟨BO, hBO⟩ : ∃ B, B = w8.heap.size := ⟨_, rfl⟩
  clear bT8 bX8 bC8 bS8 hB8
  generalize World.alloc w8 _ = w9 at *
  rw [← hBO]
  rw [← hBO] at bO9 hTO
  clear hBO
  have kT0 := bT9.cell 0 rfl
  have kT1 := bT9.cell 1 rfl
  have kT2 := bT9.cell 2 rfl
  have kT3 := bT9.cell 3 rfl
  have kT4 := bT9.cell 4 rfl
  have kT5 := bT9.cell 5 rfl
  have kT6 := bT9.cell 6 rfl
  have kT7 := bT9.cell 7 rfl
  have kT8 := bT9.cell 8 rfl
  have kT9 := bT9.cell 9 rfl
  have lT := bT9.lt
  have kX0 := bX9.cell 0 rfl
  have kX1 := bX9.cell 1 rfl
  have kX2 := bX9.cell 2 rfl
  have lX := bX9.lt
  have kC0 := bC9.cell 0 rfl
  have kC1 := bC9.cell 1 rfl
  have lC := bC9.lt
  have kS0 := bS9.cell 0 rfl
  have kS1 := bS9.cell 1 rfl
  have lS := bS9.lt
  have kO0 := bO9.cell 0 rfl
  have kO1 := bO9.cell 1 rfl
  have kO2 := bO9.cell 2 rfl
  have kO3 := bO9.cell 3 rfl
  have kO4 := bO9.cell 4 rfl
  have kO5 := bO9.cell 5 rfl
  have kO6 := bO9.cell 6 rfl
  have kO7 := bO9.cell 7 rfl
  have kO8 := bO9.cell 8 rfl
  have kO9 := bO9.cell 9 rfl
  have lO := bO9.lt
  go_upto_region 10 with (at_builtin; go_must (refine wpList_pushT rfl (.tmp 97) (.tmp 100) rfl xa AX xw.length cX B0 (.slice AC ts.length cC) ts.length xs rfl rfl hOC1.out hBB1 (by omega) ?_; intro AO cO wz k1 k2; have qT := (bT9.alloc (.cells #[.int .i64 xa, .slice AX xw.length cX] 31)).kept k2 (row_ne_box (hOC1.out.alloc (.cells #[.int .i64 xa, .slice AX xw.length cX] 31)) (bT9.alloc (.cells #[.int .i64 xa, .slice AX xw.length cX] 31)) (by decide)); have qX := (bX9.alloc (.cells #[.int .i64 xa, .slice AX xw.length cX] 31)).kept k2 (row_ne_box (hOC1.out.alloc (.cells #[.int .i64 xa, .slice AX xw.length cX] 31)) (bX9.alloc (.cells #[.int .i64 xa, .slice AX xw.length cX] 31)) (by decide)); have qC := (bC9.alloc (.cells #[.int .i64 xa, .slice AX xw.length cX] 31)).kept k2 (row_ne_box (hOC1.out.alloc (.cells #[.int .i64 xa, .slice AX xw.length cX] 31)) (bC9.alloc (.cells #[.int .i64 xa, .slice AX xw.length cX] 31)) (by decide)); have qS := (bS9.alloc (.cells #[.int .i64 xa, .slice AX xw.length cX] 31)).kept k2 (row_ne_box (hOC1.out.alloc (.cells #[.int .i64 xa, .slice AX xw.length cX] 31)) (bS9.alloc (.cells #[.int .i64 xa, .slice AX xw.length cX] 31)) (by decide)); have qO := (bO9.alloc (.cells #[.int .i64 xa, .slice AX xw.length cX] 31)).kept k2 (row_ne_box (hOC1.out.alloc (.cells #[.int .i64 xa, .slice AX xw.length cX] 31)) (bO9.alloc (.cells #[.int .i64 xa, .slice AX xw.length cX] 31)) (by decide)); have fO9 := qO.frozen 9; have cO9 := qO.cell 9 rfl))
  clear kT0 kT1 kT2 kT3 kT4 kT5 kT6 kT7 kT8 kT9 kX0 kX1 kX2 kC0 kC1 kS0 kS1 kO0 kO1 kO2 kO3 kO4 kO5 kO6 kO7 kO8 kO9 lT lX lC lS lO fO9 cO9
  have bT10 := qT.away (B' := BO) (by omega) 9 (.slice AO (ts.length + 1) cO)
  have bX10 := qX.away (B' := BO) (by omega) 9 (.slice AO (ts.length + 1) cO)
  have bC10 := qC.away (B' := BO) (by omega) 9 (.slice AO (ts.length + 1) cO)
  have bS10 := qS.away (B' := BO) (by omega) 9 (.slice AO (ts.length + 1) cO)
  have bO10 := qO.put9 9 (.slice AO (ts.length + 1) cO)
  have hal : Below w9.heap.size w9 (w9.alloc (.cells #[.int .i64 xa, .slice AX xw.length cX] 31)) := (Below.refl _ _).alloc (Nat.le_refl _) _
  have hBz : Below w.heap.size w wz := (hB9.trans (hal.mono hB9.size)).grown k2 (by have := hB9.size; have := hal.size; omega) (fun g hg => by have := (World.ownsRow.lt hOC1.out g hg).1; omega)
  have hB10 : Below w.heap.size w (wz.setCell ⟨BO, 9, none⟩ (.slice AO (ts.length + 1) cO)) := hBz.setCell (by simp; omega) _
  have HTO10 : Hid (Tsts (wz.setCell ⟨BO, 9, none⟩ (.slice AO (ts.length + 1) cO)) (wz.setCell ⟨BO, 9, none⟩ (.slice AO (ts.length + 1) cO)).heap.size AO (ts ++ [(xa, xw)])) := Lib.hid (more_tsts (owns_set k1 qO (by decide) 9 _) (((hCC1.out.below hal).row (hOC1.out.alloc (.cells #[.int .i64 xa, .slice AX xw.length cX] 31)) k2).set qO (by decide) 9 _) hx' hB10 (by omega))
  clear qT qX qC qS qO k1 k2 hal hBz hOC1 hCC1 hBB1 hBB hB00 xs
  clear bT9 bX9 bC9 bS9 bO9 hB9
  generalize World.setCell wz _ _ = w10 at *
  have kT0 := bT10.cell 0 rfl
  have kT1 := bT10.cell 1 rfl
  have kT2 := bT10.cell 2 rfl
  have kT3 := bT10.cell 3 rfl
  have kT4 := bT10.cell 4 rfl
  have kT5 := bT10.cell 5 rfl
  have kT6 := bT10.cell 6 rfl
  have kT7 := bT10.cell 7 rfl
  have kT8 := bT10.cell 8 rfl
  have kT9 := bT10.cell 9 rfl
  have lT := bT10.lt
  have kX0 := bX10.cell 0 rfl
  have kX1 := bX10.cell 1 rfl
  have kX2 := bX10.cell 2 rfl
  have lX := bX10.lt
  have kC0 := bC10.cell 0 rfl
  have kC1 := bC10.cell 1 rfl
  have lC := bC10.lt
  have kS0 := bS10.cell 0 rfl
  have kS1 := bS10.cell 1 rfl
  have lS := bS10.lt
  have kO0 := bO10.cell 0 rfl
  have kO1 := bO10.cell 1 rfl
  have kO2 := bO10.cell 2 rfl
  have kO3 := bO10.cell 3 rfl
  have kO4 := bO10.cell 4 rfl
  have kO5 := bO10.cell 5 rfl
  have kO6 := bO10.cell 6 rfl
  have kO7 := bO10.cell 7 rfl
  have kO8 := bO10.cell 8 rfl
  have kO9 := bO10.cell 9 rfl
  have lO := bO10.lt
  go_wp2_with fail
  clear kT0 kT1 kT2 kT3 kT4 kT5 kT6 kT7 kT8 kT9 lT kX0 kX1 kX2 lX kC0 kC1 lC kS0 kS1 lS kO0 kO1 kO2 kO3 kO4 kO5 kO6 kO7 kO8 kO9 lO
  refine (HRO.out AO cO _ HTO10.out).mono ?_
  rintro e w11 ⟨rfl, hb11⟩
  have bT11 := bT10.below hb11
  have bX11 := bX10.below hb11
  have bC11 := bC10.below hb11
  have bS11 := bS10.below hb11
  have bO11 := bO10.below hb11
  have hB11 := hB10.trans (hb11.mono hB10.size)
  clear bT10 bX10 bC10 bS10 bO10 hB10
  have HTO11 := Lib.hid ((HTO10.out.keep hb11).wider hb11.size)
  clear HTO10
  cases R1
  ·
    clear HTO11
    have kT0 := bT11.cell 0 rfl
    have kT1 := bT11.cell 1 rfl
    have kT2 := bT11.cell 2 rfl
    have kT3 := bT11.cell 3 rfl
    have kT4 := bT11.cell 4 rfl
    have kT5 := bT11.cell 5 rfl
    have kT6 := bT11.cell 6 rfl
    have kT7 := bT11.cell 7 rfl
    have kT8 := bT11.cell 8 rfl
    have kT9 := bT11.cell 9 rfl
    have lT := bT11.lt
    have kX0 := bX11.cell 0 rfl
    have kX1 := bX11.cell 1 rfl
    have kX2 := bX11.cell 2 rfl
    have lX := bX11.lt
    have kC0 := bC11.cell 0 rfl
    have kC1 := bC11.cell 1 rfl
    have lC := bC11.lt
    have kS0 := bS11.cell 0 rfl
    have kS1 := bS11.cell 1 rfl
    have lS := bS11.lt
    have kO0 := bO11.cell 0 rfl
    have kO1 := bO11.cell 1 rfl
    have kO2 := bO11.cell 2 rfl
    have kO3 := bO11.cell 3 rfl
    have kO4 := bO11.cell 4 rfl
    have kO5 := bO11.cell 5 rfl
    have kO6 := bO11.cell 6 rfl
    have kO7 := bO11.cell 7 rfl
    have kO8 := bO11.cell 8 rfl
    have kO9 := bO11.cell 9 rfl
    have lO := bO11.lt
    go_wp2_with fail
    clear kT0 kT1 kT2 kT3 kT4 kT5 kT6 kT7 kT8 kT9 lT kX0 kX1 kX2 lX kC0 kC1 lC kS0 kS1 lS kO0 kO1 kO2 kO3 kO4 kO5 kO6 kO7 kO8 kO9 lO
    refine (HCP.out _ hB11).mono ?_
    rintro e w12 ⟨AW, cW, ys, rfl, hOW, hCW, hb12⟩
    have bT12 := bT11.below hb12
    have bX12 := bX11.below hb12
    have bC12 := bC11.below hb12
    have bS12 := bS11.below hb12
    have bO12 := bO11.below hb12
    have hB12 := hB11.trans (hb12.mono hB11.size)
    clear bT11 bX11 bC11 bS11 bO11 hB11
    have HTW12 : Hid (Tsts w12 w12.heap.size AW ts) := Lib.hid (hCW.out.tsts hOW.out)
    clear hOW hCW ys
    have kT0 := bT12.cell 0 rfl
    have kT1 := bT12.cell 1 rfl
    have kT2 := bT12.cell 2 rfl
    have kT3 := bT12.cell 3 rfl
    have kT4 := bT12.cell 4 rfl
    have kT5 := bT12.cell 5 rfl
    have kT6 := bT12.cell 6 rfl
    have kT7 := bT12.cell 7 rfl
    have kT8 := bT12.cell 8 rfl
    have kT9 := bT12.cell 9 rfl
    have lT := bT12.lt
    have kX0 := bX12.cell 0 rfl
    have kX1 := bX12.cell 1 rfl
    have kX2 := bX12.cell 2 rfl
    have lX := bX12.lt
    have kC0 := bC12.cell 0 rfl
    have kC1 := bC12.cell 1 rfl
    have lC := bC12.lt
    have kS0 := bS12.cell 0 rfl
    have kS1 := bS12.cell 1 rfl
    have lS := bS12.lt
    have kO0 := bO12.cell 0 rfl
    have kO1 := bO12.cell 1 rfl
    have kO2 := bO12.cell 2 rfl
    have kO3 := bO12.cell 3 rfl
    have kO4 := bO12.cell 4 rfl
    have kO5 := bO12.cell 5 rfl
    have kO6 := bO12.cell 6 rfl
    have kO7 := bO12.cell 7 rfl
    have kO8 := bO12.cell 8 rfl
    have kO9 := bO12.cell 9 rfl
    have lO := bO12.lt
    go_wp2_with fail
    clear kT0 kT1 kT2 kT3 kT4 kT5 kT6 kT7 kT8 kT9 lT kX0 kX1 kX2 lX kC0 kC1 lC kS0 kS1 lS kO0 kO1 kO2 kO3 kO4 kO5 kO6 kO7 kO8 kO9 lO
    have HTW13 : Hid (Tsts (World.alloc w12 (.cells #[.int .i64 full, .int .i64 read, .int .i64 slip, .int .i64 skew, .int .i64 circ, .int .i64 glo, .int .i64 ghi, .int .i64 wrn, .int .i64 (gain + g), .slice AW ts.length cW] 28)) (World.alloc w12 (.cells #[.int .i64 full, .int .i64 read, .int .i64 slip, .int .i64 skew, .int .i64 circ, .int .i64 glo, .int .i64 ghi, .int .i64 wrn, .int .i64 (gain + g), .slice AW ts.length cW] 28)).heap.size AW ts) := Lib.hid ((HTW12.out.keep ((Below.refl w12.heap.size w12).alloc (Below.refl w12.heap.size w12).size _)).wider ((Below.refl w12.heap.size w12).alloc (Below.refl w12.heap.size w12).size _).size)
    clear HTW12
    have bT13 := (bT12.alloc (.cells #[.int .i64 full, .int .i64 read, .int .i64 slip, .int .i64 skew, .int .i64 circ, .int .i64 glo, .int .i64 ghi, .int .i64 wrn, .int .i64 (gain + g), .slice AW ts.length cW] 28))
    have bX13 := (bX12.alloc (.cells #[.int .i64 full, .int .i64 read, .int .i64 slip, .int .i64 skew, .int .i64 circ, .int .i64 glo, .int .i64 ghi, .int .i64 wrn, .int .i64 (gain + g), .slice AW ts.length cW] 28))
    have bC13 := (bC12.alloc (.cells #[.int .i64 full, .int .i64 read, .int .i64 slip, .int .i64 skew, .int .i64 circ, .int .i64 glo, .int .i64 ghi, .int .i64 wrn, .int .i64 (gain + g), .slice AW ts.length cW] 28))
    have bS13 := (bS12.alloc (.cells #[.int .i64 full, .int .i64 read, .int .i64 slip, .int .i64 skew, .int .i64 circ, .int .i64 glo, .int .i64 ghi, .int .i64 wrn, .int .i64 (gain + g), .slice AW ts.length cW] 28))
    have bO13 := (bO12.alloc (.cells #[.int .i64 full, .int .i64 read, .int .i64 slip, .int .i64 skew, .int .i64 circ, .int .i64 glo, .int .i64 ghi, .int .i64 wrn, .int .i64 (gain + g), .slice AW ts.length cW] 28))
    have bD13 := (BoxS.new w12 28 #[.int .i64 full, .int .i64 read, .int .i64 slip, .int .i64 skew, .int .i64 circ, .int .i64 glo, .int .i64 ghi, .int .i64 wrn, .int .i64 (gain + g), .slice AW ts.length cW])
    have hB13 : Below w.heap.size w (World.alloc w12 (.cells #[.int .i64 full, .int .i64 read, .int .i64 slip, .int .i64 skew, .int .i64 circ, .int .i64 glo, .int .i64 ghi, .int .i64 wrn, .int .i64 (gain + g), .slice AW ts.length cW] 28)) := (hB12.alloc hB12.size _)
    obtain ⟨BD, hBD⟩ : ∃ B, B = w12.heap.size := ⟨_, rfl⟩
    clear bT12 bX12 bC12 bS12 bO12 hB12
    generalize World.alloc w12 _ = w13 at *
    rw [← hBD]
    rw [← hBD] at bD13
    clear hBD
    refine (HRW.out AW cW _ HTW13.out).mono ?_
    rintro e w14 ⟨rfl, hb14⟩
    have bT14 := bT13.below hb14
    have bX14 := bX13.below hb14
    have bC14 := bC13.below hb14
    have bS14 := bS13.below hb14
    have bO14 := bO13.below hb14
    have bD14 := bD13.below hb14
    have hB14 := hB13.trans (hb14.mono hB13.size)
    clear bT13 bX13 bC13 bS13 bO13 bD13 hB13
    have HTW14 := Lib.hid ((HTW13.out.keep hb14).wider hb14.size)
    clear HTW13
    cases R2
    ·
      have kT0 := bT14.cell 0 rfl
      have kT1 := bT14.cell 1 rfl
      have kT2 := bT14.cell 2 rfl
      have kT3 := bT14.cell 3 rfl
      have kT4 := bT14.cell 4 rfl
      have kT5 := bT14.cell 5 rfl
      have kT6 := bT14.cell 6 rfl
      have kT7 := bT14.cell 7 rfl
      have kT8 := bT14.cell 8 rfl
      have kT9 := bT14.cell 9 rfl
      have lT := bT14.lt
      have kX0 := bX14.cell 0 rfl
      have kX1 := bX14.cell 1 rfl
      have kX2 := bX14.cell 2 rfl
      have lX := bX14.lt
      have kC0 := bC14.cell 0 rfl
      have kC1 := bC14.cell 1 rfl
      have lC := bC14.lt
      have kS0 := bS14.cell 0 rfl
      have kS1 := bS14.cell 1 rfl
      have lS := bS14.lt
      have kO0 := bO14.cell 0 rfl
      have kO1 := bO14.cell 1 rfl
      have kO2 := bO14.cell 2 rfl
      have kO3 := bO14.cell 3 rfl
      have kO4 := bO14.cell 4 rfl
      have kO5 := bO14.cell 5 rfl
      have kO6 := bO14.cell 6 rfl
      have kO7 := bO14.cell 7 rfl
      have kO8 := bO14.cell 8 rfl
      have kO9 := bO14.cell 9 rfl
      have lO := bO14.lt
      have kD0 := bD14.cell 0 rfl
      have kD1 := bD14.cell 1 rfl
      have kD2 := bD14.cell 2 rfl
      have kD3 := bD14.cell 3 rfl
      have kD4 := bD14.cell 4 rfl
      have kD5 := bD14.cell 5 rfl
      have kD6 := bD14.cell 6 rfl
      have kD7 := bD14.cell 7 rfl
      have kD8 := bD14.cell 8 rfl
      have kD9 := bD14.cell 9 rfl
      have lD := bD14.lt
      go_wp2_with fail
      clear kT0 kT1 kT2 kT3 kT4 kT5 kT6 kT7 kT8 kT9 lT kX0 kX1 kX2 lX kC0 kC1 lC kS0 kS1 lS kO0 kO1 kO2 kO3 kO4 kO5 kO6 kO7 kO8 kO9 lO kD0 kD1 kD2 kD3 kD4 kD5 kD6 kD7 kD8 kD9 lD
      refine (HWK.out _).mono ?_
      rintro e w15 ⟨rfl, hb15⟩
      have bT15 := bT14.below hb15
      have bX15 := bX14.below hb15
      have bC15 := bC14.below hb15
      have bS15 := bS14.below hb15
      have bO15 := bO14.below hb15
      have bD15 := bD14.below hb15
      have hB15 := hB14.trans (hb15.mono hB14.size)
      clear bT14 bX14 bC14 bS14 bO14 bD14 hB14
      go_wp2_with fail
      go_returns
      exact ⟨rfl, hB15⟩
    ·
      rcases HEC.out with hE0 | hE3
      ·
        subst hE0
        obtain ⟨hEW, hmw, ⟨hsg, hlg⟩, ⟨hss, hls⟩, hgw, hsw⟩ := HFW.out (by first | rfl | trivial) (by first | rfl | trivial)
        subst hEW
        have d1 : M ≤ MW := hmw
        have d2 : decide ((GW.length : Int) ≤ 200) = true := decide_eq_true (by omega)
        have d3 : decide ((SW.length : Int) ≤ 200) = true := decide_eq_true (by omega)
        have HS1 := Lib.hid (HSU.out GT GW hlg hgw hsg)
        have HS2 := Lib.hid (HSU.out ST SW hls hsw hss)
        clear hsg hlg hss hls hmw
        have kT0 := bT14.cell 0 rfl
        have kT1 := bT14.cell 1 rfl
        have kT2 := bT14.cell 2 rfl
        have kT3 := bT14.cell 3 rfl
        have kT4 := bT14.cell 4 rfl
        have kT5 := bT14.cell 5 rfl
        have kT6 := bT14.cell 6 rfl
        have kT7 := bT14.cell 7 rfl
        have kT8 := bT14.cell 8 rfl
        have kT9 := bT14.cell 9 rfl
        have lT := bT14.lt
        have kX0 := bX14.cell 0 rfl
        have kX1 := bX14.cell 1 rfl
        have kX2 := bX14.cell 2 rfl
        have lX := bX14.lt
        have kC0 := bC14.cell 0 rfl
        have kC1 := bC14.cell 1 rfl
        have lC := bC14.lt
        have kS0 := bS14.cell 0 rfl
        have kS1 := bS14.cell 1 rfl
        have lS := bS14.lt
        have kO0 := bO14.cell 0 rfl
        have kO1 := bO14.cell 1 rfl
        have kO2 := bO14.cell 2 rfl
        have kO3 := bO14.cell 3 rfl
        have kO4 := bO14.cell 4 rfl
        have kO5 := bO14.cell 5 rfl
        have kO6 := bO14.cell 6 rfl
        have kO7 := bO14.cell 7 rfl
        have kO8 := bO14.cell 8 rfl
        have kO9 := bO14.cell 9 rfl
        have lO := bO14.lt
        have kD0 := bD14.cell 0 rfl
        have kD1 := bD14.cell 1 rfl
        have kD2 := bD14.cell 2 rfl
        have kD3 := bD14.cell 3 rfl
        have kD4 := bD14.cell 4 rfl
        have kD5 := bD14.cell 5 rfl
        have kD6 := bD14.cell 6 rfl
        have kD7 := bD14.cell 7 rfl
        have kD8 := bD14.cell 8 rfl
        have kD9 := bD14.cell 9 rfl
        have lD := bD14.lt
        go_wp2_with fail
        clear kT0 kT1 kT2 kT3 kT4 kT5 kT6 kT7 kT8 kT9 lT kX0 kX1 kX2 lX kC0 kC1 lC kS0 kS1 lS kO0 kO1 kO2 kO3 kO4 kO5 kO6 kO7 kO8 kO9 lO kD0 kD1 kD2 kD3 kD4 kD5 kD6 kD7 kD8 kD9 lD
        refine (HMW.out AW cW _ HTW14.out).mono ?_
        rintro e w15 ⟨rfl, hb15⟩
        have bT15 := bT14.below hb15
        have bX15 := bX14.below hb15
        have bC15 := bC14.below hb15
        have bS15 := bS14.below hb15
        have bO15 := bO14.below hb15
        have bD15 := bD14.below hb15
        have hB15 := hB14.trans (hb15.mono hB14.size)
        clear bT14 bX14 bC14 bS14 bO14 bD14 hB14
        have HTW15 := Lib.hid ((HTW14.out.keep hb15).wider hb15.size)
        clear HTW14
        have kT0 := bT15.cell 0 rfl
        have kT1 := bT15.cell 1 rfl
        have kT2 := bT15.cell 2 rfl
        have kT3 := bT15.cell 3 rfl
        have kT4 := bT15.cell 4 rfl
        have kT5 := bT15.cell 5 rfl
        have kT6 := bT15.cell 6 rfl
        have kT7 := bT15.cell 7 rfl
        have kT8 := bT15.cell 8 rfl
        have kT9 := bT15.cell 9 rfl
        have lT := bT15.lt
        have kX0 := bX15.cell 0 rfl
        have kX1 := bX15.cell 1 rfl
        have kX2 := bX15.cell 2 rfl
        have lX := bX15.lt
        have kC0 := bC15.cell 0 rfl
        have kC1 := bC15.cell 1 rfl
        have lC := bC15.lt
        have kS0 := bS15.cell 0 rfl
        have kS1 := bS15.cell 1 rfl
        have lS := bS15.lt
        have kO0 := bO15.cell 0 rfl
        have kO1 := bO15.cell 1 rfl
        have kO2 := bO15.cell 2 rfl
        have kO3 := bO15.cell 3 rfl
        have kO4 := bO15.cell 4 rfl
        have kO5 := bO15.cell 5 rfl
        have kO6 := bO15.cell 6 rfl
        have kO7 := bO15.cell 7 rfl
        have kO8 := bO15.cell 8 rfl
        have kO9 := bO15.cell 9 rfl
        have lO := bO15.lt
        have kD0 := bD15.cell 0 rfl
        have kD1 := bD15.cell 1 rfl
        have kD2 := bD15.cell 2 rfl
        have kD3 := bD15.cell 3 rfl
        have kD4 := bD15.cell 4 rfl
        have kD5 := bD15.cell 5 rfl
        have kD6 := bD15.cell 6 rfl
        have kD7 := bD15.cell 7 rfl
        have kD8 := bD15.cell 8 rfl
        have kD9 := bD15.cell 9 rfl
        have lD := bD15.lt
        go_wp2_with fail
        clear kT0 kT1 kT2 kT3 kT4 kT5 kT6 kT7 kT8 kT9 lT kX0 kX1 kX2 lX kC0 kC1 lC kS0 kS1 lS kO0 kO1 kO2 kO3 kO4 kO5 kO6 kO7 kO8 kO9 lO kD0 kD1 kD2 kD3 kD4 kD5 kD6 kD7 kD8 kD9 lD
        refine (HGT.out _ hB15).mono ?_
        rintro e w16 ⟨vA, rfl, hvA, hb16⟩
        have bT16 := bT15.below hb16
        have bX16 := bX15.below hb16
        have bC16 := bC15.below hb16
        have bS16 := bS15.below hb16
        have bO16 := bO15.below hb16
        have bD16 := bD15.below hb16
        have hB16 := hB15.trans (hb16.mono hB15.size)
        clear bT15 bX15 bC15 bS15 bO15 bD15 hB15
        have HVA16 := Lib.hid hvA.out
        clear hvA
        obtain ⟨AA, cA, rfl⟩ := ints_form HVA16.out
        have HTW16 := Lib.hid ((HTW15.out.keep hb16).wider hb16.size)
        clear HTW15
        have kT0 := bT16.cell 0 rfl
        have kT1 := bT16.cell 1 rfl
        have kT2 := bT16.cell 2 rfl
        have kT3 := bT16.cell 3 rfl
        have kT4 := bT16.cell 4 rfl
        have kT5 := bT16.cell 5 rfl
        have kT6 := bT16.cell 6 rfl
        have kT7 := bT16.cell 7 rfl
        have kT8 := bT16.cell 8 rfl
        have kT9 := bT16.cell 9 rfl
        have lT := bT16.lt
        have kX0 := bX16.cell 0 rfl
        have kX1 := bX16.cell 1 rfl
        have kX2 := bX16.cell 2 rfl
        have lX := bX16.lt
        have kC0 := bC16.cell 0 rfl
        have kC1 := bC16.cell 1 rfl
        have lC := bC16.lt
        have kS0 := bS16.cell 0 rfl
        have kS1 := bS16.cell 1 rfl
        have lS := bS16.lt
        have kO0 := bO16.cell 0 rfl
        have kO1 := bO16.cell 1 rfl
        have kO2 := bO16.cell 2 rfl
        have kO3 := bO16.cell 3 rfl
        have kO4 := bO16.cell 4 rfl
        have kO5 := bO16.cell 5 rfl
        have kO6 := bO16.cell 6 rfl
        have kO7 := bO16.cell 7 rfl
        have kO8 := bO16.cell 8 rfl
        have kO9 := bO16.cell 9 rfl
        have lO := bO16.lt
        have kD0 := bD16.cell 0 rfl
        have kD1 := bD16.cell 1 rfl
        have kD2 := bD16.cell 2 rfl
        have kD3 := bD16.cell 3 rfl
        have kD4 := bD16.cell 4 rfl
        have kD5 := bD16.cell 5 rfl
        have kD6 := bD16.cell 6 rfl
        have kD7 := bD16.cell 7 rfl
        have kD8 := bD16.cell 8 rfl
        have kD9 := bD16.cell 9 rfl
        have lD := bD16.lt
        go_wp2_with fail
        clear kT0 kT1 kT2 kT3 kT4 kT5 kT6 kT7 kT8 kT9 lT kX0 kX1 kX2 lX kC0 kC1 lC kS0 kS1 lS kO0 kO1 kO2 kO3 kO4 kO5 kO6 kO7 kO8 kO9 lO kD0 kD1 kD2 kD3 kD4 kD5 kD6 kD7 kD8 kD9 lD
        refine (HGW.out AW cW _ HTW16.out).mono ?_
        rintro e w17 ⟨vB, rfl, hvB, hb17⟩
        have bT17 := bT16.below hb17
        have bX17 := bX16.below hb17
        have bC17 := bC16.below hb17
        have bS17 := bS16.below hb17
        have bO17 := bO16.below hb17
        have bD17 := bD16.below hb17
        have hB17 := hB16.trans (hb17.mono hB16.size)
        clear bT16 bX16 bC16 bS16 bO16 bD16 hB16
        have HVB17 := Lib.hid hvB.out
        clear hvB
        obtain ⟨AB, cB, rfl⟩ := ints_form HVB17.out
        have HTW17 := Lib.hid ((HTW16.out.keep hb17).wider hb17.size)
        clear HTW16
        have HVA17 := Lib.hid ((HVA16.out.keep hb17).more hb17.size)
        clear HVA16
        have kT0 := bT17.cell 0 rfl
        have kT1 := bT17.cell 1 rfl
        have kT2 := bT17.cell 2 rfl
        have kT3 := bT17.cell 3 rfl
        have kT4 := bT17.cell 4 rfl
        have kT5 := bT17.cell 5 rfl
        have kT6 := bT17.cell 6 rfl
        have kT7 := bT17.cell 7 rfl
        have kT8 := bT17.cell 8 rfl
        have kT9 := bT17.cell 9 rfl
        have lT := bT17.lt
        have kX0 := bX17.cell 0 rfl
        have kX1 := bX17.cell 1 rfl
        have kX2 := bX17.cell 2 rfl
        have lX := bX17.lt
        have kC0 := bC17.cell 0 rfl
        have kC1 := bC17.cell 1 rfl
        have lC := bC17.lt
        have kS0 := bS17.cell 0 rfl
        have kS1 := bS17.cell 1 rfl
        have lS := bS17.lt
        have kO0 := bO17.cell 0 rfl
        have kO1 := bO17.cell 1 rfl
        have kO2 := bO17.cell 2 rfl
        have kO3 := bO17.cell 3 rfl
        have kO4 := bO17.cell 4 rfl
        have kO5 := bO17.cell 5 rfl
        have kO6 := bO17.cell 6 rfl
        have kO7 := bO17.cell 7 rfl
        have kO8 := bO17.cell 8 rfl
        have kO9 := bO17.cell 9 rfl
        have lO := bO17.lt
        have kD0 := bD17.cell 0 rfl
        have kD1 := bD17.cell 1 rfl
        have kD2 := bD17.cell 2 rfl
        have kD3 := bD17.cell 3 rfl
        have kD4 := bD17.cell 4 rfl
        have kD5 := bD17.cell 5 rfl
        have kD6 := bD17.cell 6 rfl
        have kD7 := bD17.cell 7 rfl
        have kD8 := bD17.cell 8 rfl
        have kD9 := bD17.cell 9 rfl
        have lD := bD17.lt
        go_wp2_with fail
        clear kT0 kT1 kT2 kT3 kT4 kT5 kT6 kT7 kT8 kT9 lT kX0 kX1 kX2 lX kC0 kC1 lC kS0 kS1 lS kO0 kO1 kO2 kO3 kO4 kO5 kO6 kO7 kO8 kO9 lO kD0 kD1 kD2 kD3 kD4 kD5 kD6 kD7 kD8 kD9 lD
        refine (HST.out _ hB17).mono ?_
        rintro e w18 ⟨vP, rfl, hvP, hb18⟩
        have bT18 := bT17.below hb18
        have bX18 := bX17.below hb18
        have bC18 := bC17.below hb18
        have bS18 := bS17.below hb18
        have bO18 := bO17.below hb18
        have bD18 := bD17.below hb18
        have hB18 := hB17.trans (hb18.mono hB17.size)
        clear bT17 bX17 bC17 bS17 bO17 bD17 hB17
        have HVP18 := Lib.hid hvP.out
        clear hvP
        obtain ⟨AP, cP, rfl⟩ := ints_form HVP18.out
        have HTW18 := Lib.hid ((HTW17.out.keep hb18).wider hb18.size)
        clear HTW17
        have HVA18 := Lib.hid ((HVA17.out.keep hb18).more hb18.size)
        have HVB18 := Lib.hid ((HVB17.out.keep hb18).more hb18.size)
        clear HVA17 HVB17
        have kT0 := bT18.cell 0 rfl
        have kT1 := bT18.cell 1 rfl
        have kT2 := bT18.cell 2 rfl
        have kT3 := bT18.cell 3 rfl
        have kT4 := bT18.cell 4 rfl
        have kT5 := bT18.cell 5 rfl
        have kT6 := bT18.cell 6 rfl
        have kT7 := bT18.cell 7 rfl
        have kT8 := bT18.cell 8 rfl
        have kT9 := bT18.cell 9 rfl
        have lT := bT18.lt
        have kX0 := bX18.cell 0 rfl
        have kX1 := bX18.cell 1 rfl
        have kX2 := bX18.cell 2 rfl
        have lX := bX18.lt
        have kC0 := bC18.cell 0 rfl
        have kC1 := bC18.cell 1 rfl
        have lC := bC18.lt
        have kS0 := bS18.cell 0 rfl
        have kS1 := bS18.cell 1 rfl
        have lS := bS18.lt
        have kO0 := bO18.cell 0 rfl
        have kO1 := bO18.cell 1 rfl
        have kO2 := bO18.cell 2 rfl
        have kO3 := bO18.cell 3 rfl
        have kO4 := bO18.cell 4 rfl
        have kO5 := bO18.cell 5 rfl
        have kO6 := bO18.cell 6 rfl
        have kO7 := bO18.cell 7 rfl
        have kO8 := bO18.cell 8 rfl
        have kO9 := bO18.cell 9 rfl
        have lO := bO18.lt
        have kD0 := bD18.cell 0 rfl
        have kD1 := bD18.cell 1 rfl
        have kD2 := bD18.cell 2 rfl
        have kD3 := bD18.cell 3 rfl
        have kD4 := bD18.cell 4 rfl
        have kD5 := bD18.cell 5 rfl
        have kD6 := bD18.cell 6 rfl
        have kD7 := bD18.cell 7 rfl
        have kD8 := bD18.cell 8 rfl
        have kD9 := bD18.cell 9 rfl
        have lD := bD18.lt
        go_wp2_with fail
        clear kT0 kT1 kT2 kT3 kT4 kT5 kT6 kT7 kT8 kT9 lT kX0 kX1 kX2 lX kC0 kC1 lC kS0 kS1 lS kO0 kO1 kO2 kO3 kO4 kO5 kO6 kO7 kO8 kO9 lO kD0 kD1 kD2 kD3 kD4 kD5 kD6 kD7 kD8 kD9 lD
        refine (HSW.out AW cW _ HTW18.out).mono ?_
        rintro e w19 ⟨vQ, rfl, hvQ, hb19⟩
        have bT19 := bT18.below hb19
        have bX19 := bX18.below hb19
        have bC19 := bC18.below hb19
        have bS19 := bS18.below hb19
        have bO19 := bO18.below hb19
        have bD19 := bD18.below hb19
        have hB19 := hB18.trans (hb19.mono hB18.size)
        clear bT18 bX18 bC18 bS18 bO18 bD18 hB18
        have HVQ19 := Lib.hid hvQ.out
        clear hvQ
        obtain ⟨AQ, cQ, rfl⟩ := ints_form HVQ19.out
        have HTW19 := Lib.hid ((HTW18.out.keep hb19).wider hb19.size)
        clear HTW18
        have HVA19 := Lib.hid ((HVA18.out.keep hb19).more hb19.size)
        have HVB19 := Lib.hid ((HVB18.out.keep hb19).more hb19.size)
        have HVP19 := Lib.hid ((HVP18.out.keep hb19).more hb19.size)
        clear HVA18 HVB18 HVP18
        have kT0 := bT19.cell 0 rfl
        have kT1 := bT19.cell 1 rfl
        have kT2 := bT19.cell 2 rfl
        have kT3 := bT19.cell 3 rfl
        have kT4 := bT19.cell 4 rfl
        have kT5 := bT19.cell 5 rfl
        have kT6 := bT19.cell 6 rfl
        have kT7 := bT19.cell 7 rfl
        have kT8 := bT19.cell 8 rfl
        have kT9 := bT19.cell 9 rfl
        have lT := bT19.lt
        have kX0 := bX19.cell 0 rfl
        have kX1 := bX19.cell 1 rfl
        have kX2 := bX19.cell 2 rfl
        have lX := bX19.lt
        have kC0 := bC19.cell 0 rfl
        have kC1 := bC19.cell 1 rfl
        have lC := bC19.lt
        have kS0 := bS19.cell 0 rfl
        have kS1 := bS19.cell 1 rfl
        have lS := bS19.lt
        have kO0 := bO19.cell 0 rfl
        have kO1 := bO19.cell 1 rfl
        have kO2 := bO19.cell 2 rfl
        have kO3 := bO19.cell 3 rfl
        have kO4 := bO19.cell 4 rfl
        have kO5 := bO19.cell 5 rfl
        have kO6 := bO19.cell 6 rfl
        have kO7 := bO19.cell 7 rfl
        have kO8 := bO19.cell 8 rfl
        have kO9 := bO19.cell 9 rfl
        have lO := bO19.lt
        have kD0 := bD19.cell 0 rfl
        have kD1 := bD19.cell 1 rfl
        have kD2 := bD19.cell 2 rfl
        have kD3 := bD19.cell 3 rfl
        have kD4 := bD19.cell 4 rfl
        have kD5 := bD19.cell 5 rfl
        have kD6 := bD19.cell 6 rfl
        have kD7 := bD19.cell 7 rfl
        have kD8 := bD19.cell 8 rfl
        have kD9 := bD19.cell 9 rfl
        have lD := bD19.lt
        go_wp2_with fail
        clear kT0 kT1 kT2 kT3 kT4 kT5 kT6 kT7 kT8 kT9 lT kX0 kX1 kX2 lX kC0 kC1 lC kS0 kS1 lS kO0 kO1 kO2 kO3 kO4 kO5 kO6 kO7 kO8 kO9 lO kD0 kD1 kD2 kD3 kD4 kD5 kD6 kD7 kD8 kD9 lD
        refine (HS1.out _ _ _ HVA19.out HVB19.out).mono ?_
        rintro e wq ⟨rfl, hq⟩
        have hq := hq.symm
        subst hq
        have kT0 := bT19.cell 0 rfl
        have kT1 := bT19.cell 1 rfl
        have kT2 := bT19.cell 2 rfl
        have kT3 := bT19.cell 3 rfl
        have kT4 := bT19.cell 4 rfl
        have kT5 := bT19.cell 5 rfl
        have kT6 := bT19.cell 6 rfl
        have kT7 := bT19.cell 7 rfl
        have kT8 := bT19.cell 8 rfl
        have kT9 := bT19.cell 9 rfl
        have lT := bT19.lt
        have kX0 := bX19.cell 0 rfl
        have kX1 := bX19.cell 1 rfl
        have kX2 := bX19.cell 2 rfl
        have lX := bX19.lt
        have kC0 := bC19.cell 0 rfl
        have kC1 := bC19.cell 1 rfl
        have lC := bC19.lt
        have kS0 := bS19.cell 0 rfl
        have kS1 := bS19.cell 1 rfl
        have lS := bS19.lt
        have kO0 := bO19.cell 0 rfl
        have kO1 := bO19.cell 1 rfl
        have kO2 := bO19.cell 2 rfl
        have kO3 := bO19.cell 3 rfl
        have kO4 := bO19.cell 4 rfl
        have kO5 := bO19.cell 5 rfl
        have kO6 := bO19.cell 6 rfl
        have kO7 := bO19.cell 7 rfl
        have kO8 := bO19.cell 8 rfl
        have kO9 := bO19.cell 9 rfl
        have lO := bO19.lt
        have kD0 := bD19.cell 0 rfl
        have kD1 := bD19.cell 1 rfl
        have kD2 := bD19.cell 2 rfl
        have kD3 := bD19.cell 3 rfl
        have kD4 := bD19.cell 4 rfl
        have kD5 := bD19.cell 5 rfl
        have kD6 := bD19.cell 6 rfl
        have kD7 := bD19.cell 7 rfl
        have kD8 := bD19.cell 8 rfl
        have kD9 := bD19.cell 9 rfl
        have lD := bD19.lt
        go_wp2_with fail
        clear kT0 kT1 kT2 kT3 kT4 kT5 kT6 kT7 kT8 kT9 lT kX0 kX1 kX2 lX kC0 kC1 lC kS0 kS1 lS kO0 kO1 kO2 kO3 kO4 kO5 kO6 kO7 kO8 kO9 lO kD0 kD1 kD2 kD3 kD4 kD5 kD6 kD7 kD8 kD9 lD
        refine (HS2.out _ _ _ HVP19.out HVQ19.out).mono ?_
        rintro e wq ⟨rfl, hq⟩
        have hq := hq.symm
        subst hq
        have kT0 := bT19.cell 0 rfl
        have kT1 := bT19.cell 1 rfl
        have kT2 := bT19.cell 2 rfl
        have kT3 := bT19.cell 3 rfl
        have kT4 := bT19.cell 4 rfl
        have kT5 := bT19.cell 5 rfl
        have kT6 := bT19.cell 6 rfl
        have kT7 := bT19.cell 7 rfl
        have kT8 := bT19.cell 8 rfl
        have kT9 := bT19.cell 9 rfl
        have lT := bT19.lt
        have kX0 := bX19.cell 0 rfl
        have kX1 := bX19.cell 1 rfl
        have kX2 := bX19.cell 2 rfl
        have lX := bX19.lt
        have kC0 := bC19.cell 0 rfl
        have kC1 := bC19.cell 1 rfl
        have lC := bC19.lt
        have kS0 := bS19.cell 0 rfl
        have kS1 := bS19.cell 1 rfl
        have lS := bS19.lt
        have kO0 := bO19.cell 0 rfl
        have kO1 := bO19.cell 1 rfl
        have kO2 := bO19.cell 2 rfl
        have kO3 := bO19.cell 3 rfl
        have kO4 := bO19.cell 4 rfl
        have kO5 := bO19.cell 5 rfl
        have kO6 := bO19.cell 6 rfl
        have kO7 := bO19.cell 7 rfl
        have kO8 := bO19.cell 8 rfl
        have kO9 := bO19.cell 9 rfl
        have lO := bO19.lt
        have kD0 := bD19.cell 0 rfl
        have kD1 := bD19.cell 1 rfl
        have kD2 := bD19.cell 2 rfl
        have kD3 := bD19.cell 3 rfl
        have kD4 := bD19.cell 4 rfl
        have kD5 := bD19.cell 5 rfl
        have kD6 := bD19.cell 6 rfl
        have kD7 := bD19.cell 7 rfl
        have kD8 := bD19.cell 8 rfl
        have kD9 := bD19.cell 9 rfl
        have lD := bD19.lt
        go_wp2_with fail
        clear kT0 kT1 kT2 kT3 kT4 kT5 kT6 kT7 kT8 kT9 lT kX0 kX1 kX2 lX kC0 kC1 lC kS0 kS1 lS kO0 kO1 kO2 kO3 kO4 kO5 kO6 kO7 kO8 kO9 lO kD0 kD1 kD2 kD3 kD4 kD5 kD6 kD7 kD8 kD9 lD
        refine (HWK.out _).mono ?_
        rintro e w20 ⟨rfl, hb20⟩
        have bT20 := bT19.below hb20
        have bX20 := bX19.below hb20
        have bC20 := bC19.below hb20
        have bS20 := bS19.below hb20
        have bO20 := bO19.below hb20
        have bD20 := bD19.below hb20
        have hB20 := hB19.trans (hb20.mono hB19.size)
        clear bT19 bX19 bC19 bS19 bO19 bD19 hB19
        go_wp2_with fail
        go_returns
        exact ⟨rfl, hB20⟩
      ·
        subst hE3
        have kT0 := bT14.cell 0 rfl
        have kT1 := bT14.cell 1 rfl
        have kT2 := bT14.cell 2 rfl
        have kT3 := bT14.cell 3 rfl
        have kT4 := bT14.cell 4 rfl
        have kT5 := bT14.cell 5 rfl
        have kT6 := bT14.cell 6 rfl
        have kT7 := bT14.cell 7 rfl
        have kT8 := bT14.cell 8 rfl
        have kT9 := bT14.cell 9 rfl
        have lT := bT14.lt
        have kX0 := bX14.cell 0 rfl
        have kX1 := bX14.cell 1 rfl
        have kX2 := bX14.cell 2 rfl
        have lX := bX14.lt
        have kC0 := bC14.cell 0 rfl
        have kC1 := bC14.cell 1 rfl
        have lC := bC14.lt
        have kS0 := bS14.cell 0 rfl
        have kS1 := bS14.cell 1 rfl
        have lS := bS14.lt
        have kO0 := bO14.cell 0 rfl
        have kO1 := bO14.cell 1 rfl
        have kO2 := bO14.cell 2 rfl
        have kO3 := bO14.cell 3 rfl
        have kO4 := bO14.cell 4 rfl
        have kO5 := bO14.cell 5 rfl
        have kO6 := bO14.cell 6 rfl
        have kO7 := bO14.cell 7 rfl
        have kO8 := bO14.cell 8 rfl
        have kO9 := bO14.cell 9 rfl
        have lO := bO14.lt
        have kD0 := bD14.cell 0 rfl
        have kD1 := bD14.cell 1 rfl
        have kD2 := bD14.cell 2 rfl
        have kD3 := bD14.cell 3 rfl
        have kD4 := bD14.cell 4 rfl
        have kD5 := bD14.cell 5 rfl
        have kD6 := bD14.cell 6 rfl
        have kD7 := bD14.cell 7 rfl
        have kD8 := bD14.cell 8 rfl
        have kD9 := bD14.cell 9 rfl
        have lD := bD14.lt
        go_wp2_with fail
        clear kT0 kT1 kT2 kT3 kT4 kT5 kT6 kT7 kT8 kT9 lT kX0 kX1 kX2 lX kC0 kC1 lC kS0 kS1 lS kO0 kO1 kO2 kO3 kO4 kO5 kO6 kO7 kO8 kO9 lO kD0 kD1 kD2 kD3 kD4 kD5 kD6 kD7 kD8 kD9 lD
        refine (HWK.out _).mono ?_
        rintro e w15 ⟨rfl, hb15⟩
        have bT15 := bT14.below hb15
        have bX15 := bX14.below hb15
        have bC15 := bC14.below hb15
        have bS15 := bS14.below hb15
        have bO15 := bO14.below hb15
        have bD15 := bD14.below hb15
        have hB15 := hB14.trans (hb15.mono hB14.size)
        clear bT14 bX14 bC14 bS14 bO14 bD14 hB14
        go_wp2_with fail
        go_returns
        exact ⟨rfl, hB15⟩
  ·
    have kT0 := bT11.cell 0 rfl
    have kT1 := bT11.cell 1 rfl
    have kT2 := bT11.cell 2 rfl
    have kT3 := bT11.cell 3 rfl
    have kT4 := bT11.cell 4 rfl
    have kT5 := bT11.cell 5 rfl
    have kT6 := bT11.cell 6 rfl
    have kT7 := bT11.cell 7 rfl
    have kT8 := bT11.cell 8 rfl
    have kT9 := bT11.cell 9 rfl
    have lT := bT11.lt
    have kX0 := bX11.cell 0 rfl
    have kX1 := bX11.cell 1 rfl
    have kX2 := bX11.cell 2 rfl
    have lX := bX11.lt
    have kC0 := bC11.cell 0 rfl
    have kC1 := bC11.cell 1 rfl
    have lC := bC11.lt
    have kS0 := bS11.cell 0 rfl
    have kS1 := bS11.cell 1 rfl
    have lS := bS11.lt
    have kO0 := bO11.cell 0 rfl
    have kO1 := bO11.cell 1 rfl
    have kO2 := bO11.cell 2 rfl
    have kO3 := bO11.cell 3 rfl
    have kO4 := bO11.cell 4 rfl
    have kO5 := bO11.cell 5 rfl
    have kO6 := bO11.cell 6 rfl
    have kO7 := bO11.cell 7 rfl
    have kO8 := bO11.cell 8 rfl
    have kO9 := bO11.cell 9 rfl
    have lO := bO11.lt
    go_wp2_with fail
    clear kT0 kT1 kT2 kT3 kT4 kT5 kT6 kT7 kT8 kT9 lT kX0 kX1 kX2 lX kC0 kC1 lC kS0 kS1 lS kO0 kO1 kO2 kO3 kO4 kO5 kO6 kO7 kO8 kO9 lO
    refine (HMO.out AO cO _ HTO11.out).mono ?_
    rintro e w12 ⟨rfl, hb12⟩
    have bT12 := bT11.below hb12
    have bX12 := bX11.below hb12
    have bC12 := bC11.below hb12
    have bS12 := bS11.below hb12
    have bO12 := bO11.below hb12
    have hB12 := hB11.trans (hb12.mono hB11.size)
    clear bT11 bX11 bC11 bS11 bO11 hB11
    have HTO12 := Lib.hid ((HTO11.out.keep hb12).wider hb12.size)
    clear HTO11
    have kT0 := bT12.cell 0 rfl
    have kT1 := bT12.cell 1 rfl
    have kT2 := bT12.cell 2 rfl
    have kT3 := bT12.cell 3 rfl
    have kT4 := bT12.cell 4 rfl
    have kT5 := bT12.cell 5 rfl
    have kT6 := bT12.cell 6 rfl
    have kT7 := bT12.cell 7 rfl
    have kT8 := bT12.cell 8 rfl
    have kT9 := bT12.cell 9 rfl
    have lT := bT12.lt
    have kX0 := bX12.cell 0 rfl
    have kX1 := bX12.cell 1 rfl
    have kX2 := bX12.cell 2 rfl
    have lX := bX12.lt
    have kC0 := bC12.cell 0 rfl
    have kC1 := bC12.cell 1 rfl
    have lC := bC12.lt
    have kS0 := bS12.cell 0 rfl
    have kS1 := bS12.cell 1 rfl
    have lS := bS12.lt
    have kO0 := bO12.cell 0 rfl
    have kO1 := bO12.cell 1 rfl
    have kO2 := bO12.cell 2 rfl
    have kO3 := bO12.cell 3 rfl
    have kO4 := bO12.cell 4 rfl
    have kO5 := bO12.cell 5 rfl
    have kO6 := bO12.cell 6 rfl
    have kO7 := bO12.cell 7 rfl
    have kO8 := bO12.cell 8 rfl
    have kO9 := bO12.cell 9 rfl
    have lO := bO12.lt
    go_wp2_with fail
    clear kT0 kT1 kT2 kT3 kT4 kT5 kT6 kT7 kT8 kT9 lT kX0 kX1 kX2 lX kC0 kC1 lC kS0 kS1 lS kO0 kO1 kO2 kO3 kO4 kO5 kO6 kO7 kO8 kO9 lO
    refine (HEO.out AO cO _ HTO12.out).mono ?_
    rintro e w13 ⟨rfl, hb13⟩
    have bT13 := bT12.below hb13
    have bX13 := bX12.below hb13
    have bC13 := bC12.below hb13
    have bS13 := bS12.below hb13
    have bO13 := bO12.below hb13
    have hB13 := hB12.trans (hb13.mono hB12.size)
    clear bT12 bX12 bC12 bS12 bO12 hB12
    have HTO13 := Lib.hid ((HTO12.out.keep hb13).wider hb13.size)
    clear HTO12
    have kT0 := bT13.cell 0 rfl
    have kT1 := bT13.cell 1 rfl
    have kT2 := bT13.cell 2 rfl
    have kT3 := bT13.cell 3 rfl
    have kT4 := bT13.cell 4 rfl
    have kT5 := bT13.cell 5 rfl
    have kT6 := bT13.cell 6 rfl
    have kT7 := bT13.cell 7 rfl
    have kT8 := bT13.cell 8 rfl
    have kT9 := bT13.cell 9 rfl
    have lT := bT13.lt
    have kX0 := bX13.cell 0 rfl
    have kX1 := bX13.cell 1 rfl
    have kX2 := bX13.cell 2 rfl
    have lX := bX13.lt
    have kC0 := bC13.cell 0 rfl
    have kC1 := bC13.cell 1 rfl
    have lC := bC13.lt
    have kS0 := bS13.cell 0 rfl
    have kS1 := bS13.cell 1 rfl
    have lS := bS13.lt
    have kO0 := bO13.cell 0 rfl
    have kO1 := bO13.cell 1 rfl
    have kO2 := bO13.cell 2 rfl
    have kO3 := bO13.cell 3 rfl
    have kO4 := bO13.cell 4 rfl
    have kO5 := bO13.cell 5 rfl
    have kO6 := bO13.cell 6 rfl
    have kO7 := bO13.cell 7 rfl
    have kO8 := bO13.cell 8 rfl
    have kO9 := bO13.cell 9 rfl
    have lO := bO13.lt
    go_wp2_with fail
    clear kT0 kT1 kT2 kT3 kT4 kT5 kT6 kT7 kT8 kT9 lT kX0 kX1 kX2 lX kC0 kC1 lC kS0 kS1 lS kO0 kO1 kO2 kO3 kO4 kO5 kO6 kO7 kO8 kO9 lO
    have HTO14 : Hid (Tsts (World.alloc w13 (.cells #[.int .i64 LO2, .int .i64 HI2] 23)) (World.alloc w13 (.cells #[.int .i64 LO2, .int .i64 HI2] 23)).heap.size AO (ts ++ [(xa, xw)])) := Lib.hid ((HTO13.out.keep ((Below.refl w13.heap.size w13).alloc (Below.refl w13.heap.size w13).size _)).wider ((Below.refl w13.heap.size w13).alloc (Below.refl w13.heap.size w13).size _).size)
    clear HTO13
    have bT14 := (bT13.alloc (.cells #[.int .i64 LO2, .int .i64 HI2] 23))
    have bX14 := (bX13.alloc (.cells #[.int .i64 LO2, .int .i64 HI2] 23))
    have bC14 := (bC13.alloc (.cells #[.int .i64 LO2, .int .i64 HI2] 23))
    have bS14 := (bS13.alloc (.cells #[.int .i64 LO2, .int .i64 HI2] 23))
    have bO14 := (bO13.alloc (.cells #[.int .i64 LO2, .int .i64 HI2] 23))
    have bU14 := (BoxS.new w13 23 #[.int .i64 LO2, .int .i64 HI2])
    have hB14 : Below w.heap.size w (World.alloc w13 (.cells #[.int .i64 LO2, .int .i64 HI2] 23)) := (hB13.alloc hB13.size _)
    obtain ⟨BU, hBU⟩ : ∃ B, B = w13.heap.size := ⟨_, rfl⟩
    clear bT13 bX13 bC13 bS13 bO13 hB13
    generalize World.alloc w13 _ = w14 at *
    rw [← hBU]
    rw [← hBU] at bU14
    clear hBU
    refine (HCO.out AO cO _ HTO14.out).mono ?_
    rintro e w15 ⟨rfl, hb15⟩
    have bT15 := bT14.below hb15
    have bX15 := bX14.below hb15
    have bC15 := bC14.below hb15
    have bS15 := bS14.below hb15
    have bO15 := bO14.below hb15
    have bU15 := bU14.below hb15
    have hB15 := hB14.trans (hb15.mono hB14.size)
    clear bT14 bX14 bC14 bS14 bO14 bU14 hB14
    clear HTO14
    have kT0 := bT15.cell 0 rfl
    have kT1 := bT15.cell 1 rfl
    have kT2 := bT15.cell 2 rfl
    have kT3 := bT15.cell 3 rfl
    have kT4 := bT15.cell 4 rfl
    have kT5 := bT15.cell 5 rfl
    have kT6 := bT15.cell 6 rfl
    have kT7 := bT15.cell 7 rfl
    have kT8 := bT15.cell 8 rfl
    have kT9 := bT15.cell 9 rfl
    have lT := bT15.lt
    have kX0 := bX15.cell 0 rfl
    have kX1 := bX15.cell 1 rfl
    have kX2 := bX15.cell 2 rfl
    have lX := bX15.lt
    have kC0 := bC15.cell 0 rfl
    have kC1 := bC15.cell 1 rfl
    have lC := bC15.lt
    have kS0 := bS15.cell 0 rfl
    have kS1 := bS15.cell 1 rfl
    have lS := bS15.lt
    have kO0 := bO15.cell 0 rfl
    have kO1 := bO15.cell 1 rfl
    have kO2 := bO15.cell 2 rfl
    have kO3 := bO15.cell 3 rfl
    have kO4 := bO15.cell 4 rfl
    have kO5 := bO15.cell 5 rfl
    have kO6 := bO15.cell 6 rfl
    have kO7 := bO15.cell 7 rfl
    have kO8 := bO15.cell 8 rfl
    have kO9 := bO15.cell 9 rfl
    have lO := bO15.lt
    have kU0 := bU15.cell 0 rfl
    have kU1 := bU15.cell 1 rfl
    have lU := bU15.lt
    go_wp2_with fail
    clear kT0 kT1 kT2 kT3 kT4 kT5 kT6 kT7 kT8 kT9 lT kX0 kX1 kX2 lX kC0 kC1 lC kS0 kS1 lS kO0 kO1 kO2 kO3 kO4 kO5 kO6 kO7 kO8 kO9 lO kU0 kU1 lU
    have HKQ := Lib.hid (HKO.out (by first | rfl | trivial))
    refine (HKQ.out _).mono ?_
    rintro e wq ⟨rfl, hq⟩
    have hq := hq.symm
    subst hq
    rcases HEE.out (by first | rfl | trivial) with hEO | hEO
    ·
      obtain ⟨hE0, hm, hlo1, hhi1, hN⟩ := HFO.out (by first | rfl | trivial) hEO
      subst hEO
      subst hE0
      have d4 : decide (M < MO) = false := decide_eq_false (by omega)
      have d5 : decide (LO2 < LO) = false := decide_eq_false (by omega)
      have d6 : decide (HI < HI2) = false := decide_eq_false (by omega)
      clear hm hlo1 hhi1
      by_cases hN3 : N = 3
      ·
        subst hN3
        clear hN
        have kT0 := bT15.cell 0 rfl
        have kT1 := bT15.cell 1 rfl
        have kT2 := bT15.cell 2 rfl
        have kT3 := bT15.cell 3 rfl
        have kT4 := bT15.cell 4 rfl
        have kT5 := bT15.cell 5 rfl
        have kT6 := bT15.cell 6 rfl
        have kT7 := bT15.cell 7 rfl
        have kT8 := bT15.cell 8 rfl
        have kT9 := bT15.cell 9 rfl
        have lT := bT15.lt
        have kX0 := bX15.cell 0 rfl
        have kX1 := bX15.cell 1 rfl
        have kX2 := bX15.cell 2 rfl
        have lX := bX15.lt
        have kC0 := bC15.cell 0 rfl
        have kC1 := bC15.cell 1 rfl
        have lC := bC15.lt
        have kS0 := bS15.cell 0 rfl
        have kS1 := bS15.cell 1 rfl
        have lS := bS15.lt
        have kO0 := bO15.cell 0 rfl
        have kO1 := bO15.cell 1 rfl
        have kO2 := bO15.cell 2 rfl
        have kO3 := bO15.cell 3 rfl
        have kO4 := bO15.cell 4 rfl
        have kO5 := bO15.cell 5 rfl
        have kO6 := bO15.cell 6 rfl
        have kO7 := bO15.cell 7 rfl
        have kO8 := bO15.cell 8 rfl
        have kO9 := bO15.cell 9 rfl
        have lO := bO15.lt
        have kU0 := bU15.cell 0 rfl
        have kU1 := bU15.cell 1 rfl
        have lU := bU15.lt
        go_wp2_with fail
        clear kT0 kT1 kT2 kT3 kT4 kT5 kT6 kT7 kT8 kT9 lT kX0 kX1 kX2 lX kC0 kC1 lC kS0 kS1 lS kO0 kO1 kO2 kO3 kO4 kO5 kO6 kO7 kO8 kO9 lO kU0 kU1 lU
        refine (HCP.out _ hB15).mono ?_
        rintro e w16 ⟨AW, cW, ys, rfl, hOW, hCW, hb16⟩
        have bT16 := bT15.below hb16
        have bX16 := bX15.below hb16
        have bC16 := bC15.below hb16
        have bS16 := bS15.below hb16
        have bO16 := bO15.below hb16
        have bU16 := bU15.below hb16
        have hB16 := hB15.trans (hb16.mono hB15.size)
        clear bT15 bX15 bC15 bS15 bO15 bU15 hB15
        have HTW16 : Hid (Tsts w16 w16.heap.size AW ts) := Lib.hid (hCW.out.tsts hOW.out)
        clear hOW hCW ys
        have kT0 := bT16.cell 0 rfl
        have kT1 := bT16.cell 1 rfl
        have kT2 := bT16.cell 2 rfl
        have kT3 := bT16.cell 3 rfl
        have kT4 := bT16.cell 4 rfl
        have kT5 := bT16.cell 5 rfl
        have kT6 := bT16.cell 6 rfl
        have kT7 := bT16.cell 7 rfl
        have kT8 := bT16.cell 8 rfl
        have kT9 := bT16.cell 9 rfl
        have lT := bT16.lt
        have kX0 := bX16.cell 0 rfl
        have kX1 := bX16.cell 1 rfl
        have kX2 := bX16.cell 2 rfl
        have lX := bX16.lt
        have kC0 := bC16.cell 0 rfl
        have kC1 := bC16.cell 1 rfl
        have lC := bC16.lt
        have kS0 := bS16.cell 0 rfl
        have kS1 := bS16.cell 1 rfl
        have lS := bS16.lt
        have kO0 := bO16.cell 0 rfl
        have kO1 := bO16.cell 1 rfl
        have kO2 := bO16.cell 2 rfl
        have kO3 := bO16.cell 3 rfl
        have kO4 := bO16.cell 4 rfl
        have kO5 := bO16.cell 5 rfl
        have kO6 := bO16.cell 6 rfl
        have kO7 := bO16.cell 7 rfl
        have kO8 := bO16.cell 8 rfl
        have kO9 := bO16.cell 9 rfl
        have lO := bO16.lt
        have kU0 := bU16.cell 0 rfl
        have kU1 := bU16.cell 1 rfl
        have lU := bU16.lt
        go_wp2_with fail
        clear kT0 kT1 kT2 kT3 kT4 kT5 kT6 kT7 kT8 kT9 lT kX0 kX1 kX2 lX kC0 kC1 lC kS0 kS1 lS kO0 kO1 kO2 kO3 kO4 kO5 kO6 kO7 kO8 kO9 lO kU0 kU1 lU
        have HTW17 : Hid (Tsts (World.alloc w16 (.cells #[.int .i64 full, .int .i64 read, .int .i64 slip, .int .i64 skew, .int .i64 circ, .int .i64 glo, .int .i64 ghi, .int .i64 wrn, .int .i64 (gain + g), .slice AW ts.length cW] 28)) (World.alloc w16 (.cells #[.int .i64 full, .int .i64 read, .int .i64 slip, .int .i64 skew, .int .i64 circ, .int .i64 glo, .int .i64 ghi, .int .i64 wrn, .int .i64 (gain + g), .slice AW ts.length cW] 28)).heap.size AW ts) := Lib.hid ((HTW16.out.keep ((Below.refl w16.heap.size w16).alloc (Below.refl w16.heap.size w16).size _)).wider ((Below.refl w16.heap.size w16).alloc (Below.refl w16.heap.size w16).size _).size)
        clear HTW16
        have bT17 := (bT16.alloc (.cells #[.int .i64 full, .int .i64 read, .int .i64 slip, .int .i64 skew, .int .i64 circ, .int .i64 glo, .int .i64 ghi, .int .i64 wrn, .int .i64 (gain + g), .slice AW ts.length cW] 28))
        have bX17 := (bX16.alloc (.cells #[.int .i64 full, .int .i64 read, .int .i64 slip, .int .i64 skew, .int .i64 circ, .int .i64 glo, .int .i64 ghi, .int .i64 wrn, .int .i64 (gain + g), .slice AW ts.length cW] 28))
        have bC17 := (bC16.alloc (.cells #[.int .i64 full, .int .i64 read, .int .i64 slip, .int .i64 skew, .int .i64 circ, .int .i64 glo, .int .i64 ghi, .int .i64 wrn, .int .i64 (gain + g), .slice AW ts.length cW] 28))
        have bS17 := (bS16.alloc (.cells #[.int .i64 full, .int .i64 read, .int .i64 slip, .int .i64 skew, .int .i64 circ, .int .i64 glo, .int .i64 ghi, .int .i64 wrn, .int .i64 (gain + g), .slice AW ts.length cW] 28))
        have bO17 := (bO16.alloc (.cells #[.int .i64 full, .int .i64 read, .int .i64 slip, .int .i64 skew, .int .i64 circ, .int .i64 glo, .int .i64 ghi, .int .i64 wrn, .int .i64 (gain + g), .slice AW ts.length cW] 28))
        have bU17 := (bU16.alloc (.cells #[.int .i64 full, .int .i64 read, .int .i64 slip, .int .i64 skew, .int .i64 circ, .int .i64 glo, .int .i64 ghi, .int .i64 wrn, .int .i64 (gain + g), .slice AW ts.length cW] 28))
        have bD17 := (BoxS.new w16 28 #[.int .i64 full, .int .i64 read, .int .i64 slip, .int .i64 skew, .int .i64 circ, .int .i64 glo, .int .i64 ghi, .int .i64 wrn, .int .i64 (gain + g), .slice AW ts.length cW])
        have hB17 : Below w.heap.size w (World.alloc w16 (.cells #[.int .i64 full, .int .i64 read, .int .i64 slip, .int .i64 skew, .int .i64 circ, .int .i64 glo, .int .i64 ghi, .int .i64 wrn, .int .i64 (gain + g), .slice AW ts.length cW] 28)) := (hB16.alloc hB16.size _)
        obtain ⟨BD, hBD⟩ : ∃ B, B = w16.heap.size := ⟨_, rfl⟩
        clear bT16 bX16 bC16 bS16 bO16 bU16 hB16
        generalize World.alloc w16 _ = w17 at *
        rw [← hBD]
        rw [← hBD] at bD17
        clear hBD
        refine (HRW.out AW cW _ HTW17.out).mono ?_
        rintro e w18 ⟨rfl, hb18⟩
        have bT18 := bT17.below hb18
        have bX18 := bX17.below hb18
        have bC18 := bC17.below hb18
        have bS18 := bS17.below hb18
        have bO18 := bO17.below hb18
        have bU18 := bU17.below hb18
        have bD18 := bD17.below hb18
        have hB18 := hB17.trans (hb18.mono hB17.size)
        clear bT17 bX17 bC17 bS17 bO17 bU17 bD17 hB17
        have HTW18 := Lib.hid ((HTW17.out.keep hb18).wider hb18.size)
        clear HTW17
        cases R2
        ·
          have kT0 := bT18.cell 0 rfl
          have kT1 := bT18.cell 1 rfl
          have kT2 := bT18.cell 2 rfl
          have kT3 := bT18.cell 3 rfl
          have kT4 := bT18.cell 4 rfl
          have kT5 := bT18.cell 5 rfl
          have kT6 := bT18.cell 6 rfl
          have kT7 := bT18.cell 7 rfl
          have kT8 := bT18.cell 8 rfl
          have kT9 := bT18.cell 9 rfl
          have lT := bT18.lt
          have kX0 := bX18.cell 0 rfl
          have kX1 := bX18.cell 1 rfl
          have kX2 := bX18.cell 2 rfl
          have lX := bX18.lt
          have kC0 := bC18.cell 0 rfl
          have kC1 := bC18.cell 1 rfl
          have lC := bC18.lt
          have kS0 := bS18.cell 0 rfl
          have kS1 := bS18.cell 1 rfl
          have lS := bS18.lt
          have kO0 := bO18.cell 0 rfl
          have kO1 := bO18.cell 1 rfl
          have kO2 := bO18.cell 2 rfl
          have kO3 := bO18.cell 3 rfl
          have kO4 := bO18.cell 4 rfl
          have kO5 := bO18.cell 5 rfl
          have kO6 := bO18.cell 6 rfl
          have kO7 := bO18.cell 7 rfl
          have kO8 := bO18.cell 8 rfl
          have kO9 := bO18.cell 9 rfl
          have lO := bO18.lt
          have kU0 := bU18.cell 0 rfl
          have kU1 := bU18.cell 1 rfl
          have lU := bU18.lt
          have kD0 := bD18.cell 0 rfl
          have kD1 := bD18.cell 1 rfl
          have kD2 := bD18.cell 2 rfl
          have kD3 := bD18.cell 3 rfl
          have kD4 := bD18.cell 4 rfl
          have kD5 := bD18.cell 5 rfl
          have kD6 := bD18.cell 6 rfl
          have kD7 := bD18.cell 7 rfl
          have kD8 := bD18.cell 8 rfl
          have kD9 := bD18.cell 9 rfl
          have lD := bD18.lt
          go_wp2_with fail
          clear kT0 kT1 kT2 kT3 kT4 kT5 kT6 kT7 kT8 kT9 lT kX0 kX1 kX2 lX kC0 kC1 lC kS0 kS1 lS kO0 kO1 kO2 kO3 kO4 kO5 kO6 kO7 kO8 kO9 lO kU0 kU1 lU kD0 kD1 kD2 kD3 kD4 kD5 kD6 kD7 kD8 kD9 lD
          refine (HWK.out _).mono ?_
          rintro e w19 ⟨rfl, hb19⟩
          have bT19 := bT18.below hb19
          have bX19 := bX18.below hb19
          have bC19 := bC18.below hb19
          have bS19 := bS18.below hb19
          have bO19 := bO18.below hb19
          have bU19 := bU18.below hb19
          have bD19 := bD18.below hb19
          have hB19 := hB18.trans (hb19.mono hB18.size)
          clear bT18 bX18 bC18 bS18 bO18 bU18 bD18 hB18
          go_wp2_with fail
          go_returns
          exact ⟨rfl, hB19⟩
        ·
          obtain ⟨hEW, hmw, ⟨hsg, hlg⟩, ⟨hss, hls⟩, hgw, hsw⟩ := HFW.out (by first | rfl | trivial) (by first | rfl | trivial)
          subst hEW
          have d1 : M ≤ MW := hmw
          have d2 : decide ((GW.length : Int) ≤ 200) = true := decide_eq_true (by omega)
          have d3 : decide ((SW.length : Int) ≤ 200) = true := decide_eq_true (by omega)
          have HS1 := Lib.hid (HSU.out GT GW hlg hgw hsg)
          have HS2 := Lib.hid (HSU.out ST SW hls hsw hss)
          clear hsg hlg hss hls hmw
          have kT0 := bT18.cell 0 rfl
          have kT1 := bT18.cell 1 rfl
          have kT2 := bT18.cell 2 rfl
          have kT3 := bT18.cell 3 rfl
          have kT4 := bT18.cell 4 rfl
          have kT5 := bT18.cell 5 rfl
          have kT6 := bT18.cell 6 rfl
          have kT7 := bT18.cell 7 rfl
          have kT8 := bT18.cell 8 rfl
          have kT9 := bT18.cell 9 rfl
          have lT := bT18.lt
          have kX0 := bX18.cell 0 rfl
          have kX1 := bX18.cell 1 rfl
          have kX2 := bX18.cell 2 rfl
          have lX := bX18.lt
          have kC0 := bC18.cell 0 rfl
          have kC1 := bC18.cell 1 rfl
          have lC := bC18.lt
          have kS0 := bS18.cell 0 rfl
          have kS1 := bS18.cell 1 rfl
          have lS := bS18.lt
          have kO0 := bO18.cell 0 rfl
          have kO1 := bO18.cell 1 rfl
          have kO2 := bO18.cell 2 rfl
          have kO3 := bO18.cell 3 rfl
          have kO4 := bO18.cell 4 rfl
          have kO5 := bO18.cell 5 rfl
          have kO6 := bO18.cell 6 rfl
          have kO7 := bO18.cell 7 rfl
          have kO8 := bO18.cell 8 rfl
          have kO9 := bO18.cell 9 rfl
          have lO := bO18.lt
          have kU0 := bU18.cell 0 rfl
          have kU1 := bU18.cell 1 rfl
          have lU := bU18.lt
          have kD0 := bD18.cell 0 rfl
          have kD1 := bD18.cell 1 rfl
          have kD2 := bD18.cell 2 rfl
          have kD3 := bD18.cell 3 rfl
          have kD4 := bD18.cell 4 rfl
          have kD5 := bD18.cell 5 rfl
          have kD6 := bD18.cell 6 rfl
          have kD7 := bD18.cell 7 rfl
          have kD8 := bD18.cell 8 rfl
          have kD9 := bD18.cell 9 rfl
          have lD := bD18.lt
          go_wp2_with fail
          clear kT0 kT1 kT2 kT3 kT4 kT5 kT6 kT7 kT8 kT9 lT kX0 kX1 kX2 lX kC0 kC1 lC kS0 kS1 lS kO0 kO1 kO2 kO3 kO4 kO5 kO6 kO7 kO8 kO9 lO kU0 kU1 lU kD0 kD1 kD2 kD3 kD4 kD5 kD6 kD7 kD8 kD9 lD
          refine (HMW.out AW cW _ HTW18.out).mono ?_
          rintro e w19 ⟨rfl, hb19⟩
          have bT19 := bT18.below hb19
          have bX19 := bX18.below hb19
          have bC19 := bC18.below hb19
          have bS19 := bS18.below hb19
          have bO19 := bO18.below hb19
          have bU19 := bU18.below hb19
          have bD19 := bD18.below hb19
          have hB19 := hB18.trans (hb19.mono hB18.size)
          clear bT18 bX18 bC18 bS18 bO18 bU18 bD18 hB18
          have HTW19 := Lib.hid ((HTW18.out.keep hb19).wider hb19.size)
          clear HTW18
          have kT0 := bT19.cell 0 rfl
          have kT1 := bT19.cell 1 rfl
          have kT2 := bT19.cell 2 rfl
          have kT3 := bT19.cell 3 rfl
          have kT4 := bT19.cell 4 rfl
          have kT5 := bT19.cell 5 rfl
          have kT6 := bT19.cell 6 rfl
          have kT7 := bT19.cell 7 rfl
          have kT8 := bT19.cell 8 rfl
          have kT9 := bT19.cell 9 rfl
          have lT := bT19.lt
          have kX0 := bX19.cell 0 rfl
          have kX1 := bX19.cell 1 rfl
          have kX2 := bX19.cell 2 rfl
          have lX := bX19.lt
          have kC0 := bC19.cell 0 rfl
          have kC1 := bC19.cell 1 rfl
          have lC := bC19.lt
          have kS0 := bS19.cell 0 rfl
          have kS1 := bS19.cell 1 rfl
          have lS := bS19.lt
          have kO0 := bO19.cell 0 rfl
          have kO1 := bO19.cell 1 rfl
          have kO2 := bO19.cell 2 rfl
          have kO3 := bO19.cell 3 rfl
          have kO4 := bO19.cell 4 rfl
          have kO5 := bO19.cell 5 rfl
          have kO6 := bO19.cell 6 rfl
          have kO7 := bO19.cell 7 rfl
          have kO8 := bO19.cell 8 rfl
          have kO9 := bO19.cell 9 rfl
          have lO := bO19.lt
          have kU0 := bU19.cell 0 rfl
          have kU1 := bU19.cell 1 rfl
          have lU := bU19.lt
          have kD0 := bD19.cell 0 rfl
          have kD1 := bD19.cell 1 rfl
          have kD2 := bD19.cell 2 rfl
          have kD3 := bD19.cell 3 rfl
          have kD4 := bD19.cell 4 rfl
          have kD5 := bD19.cell 5 rfl
          have kD6 := bD19.cell 6 rfl
          have kD7 := bD19.cell 7 rfl
          have kD8 := bD19.cell 8 rfl
          have kD9 := bD19.cell 9 rfl
          have lD := bD19.lt
          go_wp2_with fail
          clear kT0 kT1 kT2 kT3 kT4 kT5 kT6 kT7 kT8 kT9 lT kX0 kX1 kX2 lX kC0 kC1 lC kS0 kS1 lS kO0 kO1 kO2 kO3 kO4 kO5 kO6 kO7 kO8 kO9 lO kU0 kU1 lU kD0 kD1 kD2 kD3 kD4 kD5 kD6 kD7 kD8 kD9 lD
          refine (HGT.out _ hB19).mono ?_
          rintro e w20 ⟨vA, rfl, hvA, hb20⟩
          have bT20 := bT19.below hb20
          have bX20 := bX19.below hb20
          have bC20 := bC19.below hb20
          have bS20 := bS19.below hb20
          have bO20 := bO19.below hb20
          have bU20 := bU19.below hb20
          have bD20 := bD19.below hb20
          have hB20 := hB19.trans (hb20.mono hB19.size)
          clear bT19 bX19 bC19 bS19 bO19 bU19 bD19 hB19
          have HVA20 := Lib.hid hvA.out
          clear hvA
          obtain ⟨AA, cA, rfl⟩ := ints_form HVA20.out
          have HTW20 := Lib.hid ((HTW19.out.keep hb20).wider hb20.size)
          clear HTW19
          have kT0 := bT20.cell 0 rfl
          have kT1 := bT20.cell 1 rfl
          have kT2 := bT20.cell 2 rfl
          have kT3 := bT20.cell 3 rfl
          have kT4 := bT20.cell 4 rfl
          have kT5 := bT20.cell 5 rfl
          have kT6 := bT20.cell 6 rfl
          have kT7 := bT20.cell 7 rfl
          have kT8 := bT20.cell 8 rfl
          have kT9 := bT20.cell 9 rfl
          have lT := bT20.lt
          have kX0 := bX20.cell 0 rfl
          have kX1 := bX20.cell 1 rfl
          have kX2 := bX20.cell 2 rfl
          have lX := bX20.lt
          have kC0 := bC20.cell 0 rfl
          have kC1 := bC20.cell 1 rfl
          have lC := bC20.lt
          have kS0 := bS20.cell 0 rfl
          have kS1 := bS20.cell 1 rfl
          have lS := bS20.lt
          have kO0 := bO20.cell 0 rfl
          have kO1 := bO20.cell 1 rfl
          have kO2 := bO20.cell 2 rfl
          have kO3 := bO20.cell 3 rfl
          have kO4 := bO20.cell 4 rfl
          have kO5 := bO20.cell 5 rfl
          have kO6 := bO20.cell 6 rfl
          have kO7 := bO20.cell 7 rfl
          have kO8 := bO20.cell 8 rfl
          have kO9 := bO20.cell 9 rfl
          have lO := bO20.lt
          have kU0 := bU20.cell 0 rfl
          have kU1 := bU20.cell 1 rfl
          have lU := bU20.lt
          have kD0 := bD20.cell 0 rfl
          have kD1 := bD20.cell 1 rfl
          have kD2 := bD20.cell 2 rfl
          have kD3 := bD20.cell 3 rfl
          have kD4 := bD20.cell 4 rfl
          have kD5 := bD20.cell 5 rfl
          have kD6 := bD20.cell 6 rfl
          have kD7 := bD20.cell 7 rfl
          have kD8 := bD20.cell 8 rfl
          have kD9 := bD20.cell 9 rfl
          have lD := bD20.lt
          go_wp2_with fail
          clear kT0 kT1 kT2 kT3 kT4 kT5 kT6 kT7 kT8 kT9 lT kX0 kX1 kX2 lX kC0 kC1 lC kS0 kS1 lS kO0 kO1 kO2 kO3 kO4 kO5 kO6 kO7 kO8 kO9 lO kU0 kU1 lU kD0 kD1 kD2 kD3 kD4 kD5 kD6 kD7 kD8 kD9 lD
          refine (HGW.out AW cW _ HTW20.out).mono ?_
          rintro e w21 ⟨vB, rfl, hvB, hb21⟩
          have bT21 := bT20.below hb21
          have bX21 := bX20.below hb21
          have bC21 := bC20.below hb21
          have bS21 := bS20.below hb21
          have bO21 := bO20.below hb21
          have bU21 := bU20.below hb21
          have bD21 := bD20.below hb21
          have hB21 := hB20.trans (hb21.mono hB20.size)
          clear bT20 bX20 bC20 bS20 bO20 bU20 bD20 hB20
          have HVB21 := Lib.hid hvB.out
          clear hvB
          obtain ⟨AB, cB, rfl⟩ := ints_form HVB21.out
          have HTW21 := Lib.hid ((HTW20.out.keep hb21).wider hb21.size)
          clear HTW20
          have HVA21 := Lib.hid ((HVA20.out.keep hb21).more hb21.size)
          clear HVA20
          have kT0 := bT21.cell 0 rfl
          have kT1 := bT21.cell 1 rfl
          have kT2 := bT21.cell 2 rfl
          have kT3 := bT21.cell 3 rfl
          have kT4 := bT21.cell 4 rfl
          have kT5 := bT21.cell 5 rfl
          have kT6 := bT21.cell 6 rfl
          have kT7 := bT21.cell 7 rfl
          have kT8 := bT21.cell 8 rfl
          have kT9 := bT21.cell 9 rfl
          have lT := bT21.lt
          have kX0 := bX21.cell 0 rfl
          have kX1 := bX21.cell 1 rfl
          have kX2 := bX21.cell 2 rfl
          have lX := bX21.lt
          have kC0 := bC21.cell 0 rfl
          have kC1 := bC21.cell 1 rfl
          have lC := bC21.lt
          have kS0 := bS21.cell 0 rfl
          have kS1 := bS21.cell 1 rfl
          have lS := bS21.lt
          have kO0 := bO21.cell 0 rfl
          have kO1 := bO21.cell 1 rfl
          have kO2 := bO21.cell 2 rfl
          have kO3 := bO21.cell 3 rfl
          have kO4 := bO21.cell 4 rfl
          have kO5 := bO21.cell 5 rfl
          have kO6 := bO21.cell 6 rfl
          have kO7 := bO21.cell 7 rfl
          have kO8 := bO21.cell 8 rfl
          have kO9 := bO21.cell 9 rfl
          have lO := bO21.lt
          have kU0 := bU21.cell 0 rfl
          have kU1 := bU21.cell 1 rfl
          have lU := bU21.lt
          have kD0 := bD21.cell 0 rfl
          have kD1 := bD21.cell 1 rfl
          have kD2 := bD21.cell 2 rfl
          have kD3 := bD21.cell 3 rfl
          have kD4 := bD21.cell 4 rfl
          have kD5 := bD21.cell 5 rfl
          have kD6 := bD21.cell 6 rfl
          have kD7 := bD21.cell 7 rfl
          have kD8 := bD21.cell 8 rfl
          have kD9 := bD21.cell 9 rfl
          have lD := bD21.lt
          go_wp2_with fail
          clear kT0 kT1 kT2 kT3 kT4 kT5 kT6 kT7 kT8 kT9 lT kX0 kX1 kX2 lX kC0 kC1 lC kS0 kS1 lS kO0 kO1 kO2 kO3 kO4 kO5 kO6 kO7 kO8 kO9 lO kU0 kU1 lU kD0 kD1 kD2 kD3 kD4 kD5 kD6 kD7 kD8 kD9 lD
          refine (HST.out _ hB21).mono ?_
          rintro e w22 ⟨vP, rfl, hvP, hb22⟩
          have bT22 := bT21.below hb22
          have bX22 := bX21.below hb22
          have bC22 := bC21.below hb22
          have bS22 := bS21.below hb22
          have bO22 := bO21.below hb22
          have bU22 := bU21.below hb22
          have bD22 := bD21.below hb22
          have hB22 := hB21.trans (hb22.mono hB21.size)
          clear bT21 bX21 bC21 bS21 bO21 bU21 bD21 hB21
          have HVP22 := Lib.hid hvP.out
          clear hvP
          obtain ⟨AP, cP, rfl⟩ := ints_form HVP22.out
          have HTW22 := Lib.hid ((HTW21.out.keep hb22).wider hb22.size)
          clear HTW21
          have HVA22 := Lib.hid ((HVA21.out.keep hb22).more hb22.size)
          have HVB22 := Lib.hid ((HVB21.out.keep hb22).more hb22.size)
          clear HVA21 HVB21
          have kT0 := bT22.cell 0 rfl
          have kT1 := bT22.cell 1 rfl
          have kT2 := bT22.cell 2 rfl
          have kT3 := bT22.cell 3 rfl
          have kT4 := bT22.cell 4 rfl
          have kT5 := bT22.cell 5 rfl
          have kT6 := bT22.cell 6 rfl
          have kT7 := bT22.cell 7 rfl
          have kT8 := bT22.cell 8 rfl
          have kT9 := bT22.cell 9 rfl
          have lT := bT22.lt
          have kX0 := bX22.cell 0 rfl
          have kX1 := bX22.cell 1 rfl
          have kX2 := bX22.cell 2 rfl
          have lX := bX22.lt
          have kC0 := bC22.cell 0 rfl
          have kC1 := bC22.cell 1 rfl
          have lC := bC22.lt
          have kS0 := bS22.cell 0 rfl
          have kS1 := bS22.cell 1 rfl
          have lS := bS22.lt
          have kO0 := bO22.cell 0 rfl
          have kO1 := bO22.cell 1 rfl
          have kO2 := bO22.cell 2 rfl
          have kO3 := bO22.cell 3 rfl
          have kO4 := bO22.cell 4 rfl
          have kO5 := bO22.cell 5 rfl
          have kO6 := bO22.cell 6 rfl
          have kO7 := bO22.cell 7 rfl
          have kO8 := bO22.cell 8 rfl
          have kO9 := bO22.cell 9 rfl
          have lO := bO22.lt
          have kU0 := bU22.cell 0 rfl
          have kU1 := bU22.cell 1 rfl
          have lU := bU22.lt
          have kD0 := bD22.cell 0 rfl
          have kD1 := bD22.cell 1 rfl
          have kD2 := bD22.cell 2 rfl
          have kD3 := bD22.cell 3 rfl
          have kD4 := bD22.cell 4 rfl
          have kD5 := bD22.cell 5 rfl
          have kD6 := bD22.cell 6 rfl
          have kD7 := bD22.cell 7 rfl
          have kD8 := bD22.cell 8 rfl
          have kD9 := bD22.cell 9 rfl
          have lD := bD22.lt
          go_wp2_with fail
          clear kT0 kT1 kT2 kT3 kT4 kT5 kT6 kT7 kT8 kT9 lT kX0 kX1 kX2 lX kC0 kC1 lC kS0 kS1 lS kO0 kO1 kO2 kO3 kO4 kO5 kO6 kO7 kO8 kO9 lO kU0 kU1 lU kD0 kD1 kD2 kD3 kD4 kD5 kD6 kD7 kD8 kD9 lD
          refine (HSW.out AW cW _ HTW22.out).mono ?_
          rintro e w23 ⟨vQ, rfl, hvQ, hb23⟩
          have bT23 := bT22.below hb23
          have bX23 := bX22.below hb23
          have bC23 := bC22.below hb23
          have bS23 := bS22.below hb23
          have bO23 := bO22.below hb23
          have bU23 := bU22.below hb23
          have bD23 := bD22.below hb23
          have hB23 := hB22.trans (hb23.mono hB22.size)
          clear bT22 bX22 bC22 bS22 bO22 bU22 bD22 hB22
          have HVQ23 := Lib.hid hvQ.out
          clear hvQ
          obtain ⟨AQ, cQ, rfl⟩ := ints_form HVQ23.out
          have HTW23 := Lib.hid ((HTW22.out.keep hb23).wider hb23.size)
          clear HTW22
          have HVA23 := Lib.hid ((HVA22.out.keep hb23).more hb23.size)
          have HVB23 := Lib.hid ((HVB22.out.keep hb23).more hb23.size)
          have HVP23 := Lib.hid ((HVP22.out.keep hb23).more hb23.size)
          clear HVA22 HVB22 HVP22
          have kT0 := bT23.cell 0 rfl
          have kT1 := bT23.cell 1 rfl
          have kT2 := bT23.cell 2 rfl
          have kT3 := bT23.cell 3 rfl
          have kT4 := bT23.cell 4 rfl
          have kT5 := bT23.cell 5 rfl
          have kT6 := bT23.cell 6 rfl
          have kT7 := bT23.cell 7 rfl
          have kT8 := bT23.cell 8 rfl
          have kT9 := bT23.cell 9 rfl
          have lT := bT23.lt
          have kX0 := bX23.cell 0 rfl
          have kX1 := bX23.cell 1 rfl
          have kX2 := bX23.cell 2 rfl
          have lX := bX23.lt
          have kC0 := bC23.cell 0 rfl
          have kC1 := bC23.cell 1 rfl
          have lC := bC23.lt
          have kS0 := bS23.cell 0 rfl
          have kS1 := bS23.cell 1 rfl
          have lS := bS23.lt
          have kO0 := bO23.cell 0 rfl
          have kO1 := bO23.cell 1 rfl
          have kO2 := bO23.cell 2 rfl
          have kO3 := bO23.cell 3 rfl
          have kO4 := bO23.cell 4 rfl
          have kO5 := bO23.cell 5 rfl
          have kO6 := bO23.cell 6 rfl
          have kO7 := bO23.cell 7 rfl
          have kO8 := bO23.cell 8 rfl
          have kO9 := bO23.cell 9 rfl
          have lO := bO23.lt
          have kU0 := bU23.cell 0 rfl
          have kU1 := bU23.cell 1 rfl
          have lU := bU23.lt
          have kD0 := bD23.cell 0 rfl
          have kD1 := bD23.cell 1 rfl
          have kD2 := bD23.cell 2 rfl
          have kD3 := bD23.cell 3 rfl
          have kD4 := bD23.cell 4 rfl
          have kD5 := bD23.cell 5 rfl
          have kD6 := bD23.cell 6 rfl
          have kD7 := bD23.cell 7 rfl
          have kD8 := bD23.cell 8 rfl
          have kD9 := bD23.cell 9 rfl
          have lD := bD23.lt
          go_wp2_with fail
          clear kT0 kT1 kT2 kT3 kT4 kT5 kT6 kT7 kT8 kT9 lT kX0 kX1 kX2 lX kC0 kC1 lC kS0 kS1 lS kO0 kO1 kO2 kO3 kO4 kO5 kO6 kO7 kO8 kO9 lO kU0 kU1 lU kD0 kD1 kD2 kD3 kD4 kD5 kD6 kD7 kD8 kD9 lD
          refine (HS1.out _ _ _ HVA23.out HVB23.out).mono ?_
          rintro e wq ⟨rfl, hq⟩
          have hq := hq.symm
          subst hq
          have kT0 := bT23.cell 0 rfl
          have kT1 := bT23.cell 1 rfl
          have kT2 := bT23.cell 2 rfl
          have kT3 := bT23.cell 3 rfl
          have kT4 := bT23.cell 4 rfl
          have kT5 := bT23.cell 5 rfl
          have kT6 := bT23.cell 6 rfl
          have kT7 := bT23.cell 7 rfl
          have kT8 := bT23.cell 8 rfl
          have kT9 := bT23.cell 9 rfl
          have lT := bT23.lt
          have kX0 := bX23.cell 0 rfl
          have kX1 := bX23.cell 1 rfl
          have kX2 := bX23.cell 2 rfl
          have lX := bX23.lt
          have kC0 := bC23.cell 0 rfl
          have kC1 := bC23.cell 1 rfl
          have lC := bC23.lt
          have kS0 := bS23.cell 0 rfl
          have kS1 := bS23.cell 1 rfl
          have lS := bS23.lt
          have kO0 := bO23.cell 0 rfl
          have kO1 := bO23.cell 1 rfl
          have kO2 := bO23.cell 2 rfl
          have kO3 := bO23.cell 3 rfl
          have kO4 := bO23.cell 4 rfl
          have kO5 := bO23.cell 5 rfl
          have kO6 := bO23.cell 6 rfl
          have kO7 := bO23.cell 7 rfl
          have kO8 := bO23.cell 8 rfl
          have kO9 := bO23.cell 9 rfl
          have lO := bO23.lt
          have kU0 := bU23.cell 0 rfl
          have kU1 := bU23.cell 1 rfl
          have lU := bU23.lt
          have kD0 := bD23.cell 0 rfl
          have kD1 := bD23.cell 1 rfl
          have kD2 := bD23.cell 2 rfl
          have kD3 := bD23.cell 3 rfl
          have kD4 := bD23.cell 4 rfl
          have kD5 := bD23.cell 5 rfl
          have kD6 := bD23.cell 6 rfl
          have kD7 := bD23.cell 7 rfl
          have kD8 := bD23.cell 8 rfl
          have kD9 := bD23.cell 9 rfl
          have lD := bD23.lt
          go_wp2_with fail
          clear kT0 kT1 kT2 kT3 kT4 kT5 kT6 kT7 kT8 kT9 lT kX0 kX1 kX2 lX kC0 kC1 lC kS0 kS1 lS kO0 kO1 kO2 kO3 kO4 kO5 kO6 kO7 kO8 kO9 lO kU0 kU1 lU kD0 kD1 kD2 kD3 kD4 kD5 kD6 kD7 kD8 kD9 lD
          refine (HS2.out _ _ _ HVP23.out HVQ23.out).mono ?_
          rintro e wq ⟨rfl, hq⟩
          have hq := hq.symm
          subst hq
          have kT0 := bT23.cell 0 rfl
          have kT1 := bT23.cell 1 rfl
          have kT2 := bT23.cell 2 rfl
          have kT3 := bT23.cell 3 rfl
          have kT4 := bT23.cell 4 rfl
          have kT5 := bT23.cell 5 rfl
          have kT6 := bT23.cell 6 rfl
          have kT7 := bT23.cell 7 rfl
          have kT8 := bT23.cell 8 rfl
          have kT9 := bT23.cell 9 rfl
          have lT := bT23.lt
          have kX0 := bX23.cell 0 rfl
          have kX1 := bX23.cell 1 rfl
          have kX2 := bX23.cell 2 rfl
          have lX := bX23.lt
          have kC0 := bC23.cell 0 rfl
          have kC1 := bC23.cell 1 rfl
          have lC := bC23.lt
          have kS0 := bS23.cell 0 rfl
          have kS1 := bS23.cell 1 rfl
          have lS := bS23.lt
          have kO0 := bO23.cell 0 rfl
          have kO1 := bO23.cell 1 rfl
          have kO2 := bO23.cell 2 rfl
          have kO3 := bO23.cell 3 rfl
          have kO4 := bO23.cell 4 rfl
          have kO5 := bO23.cell 5 rfl
          have kO6 := bO23.cell 6 rfl
          have kO7 := bO23.cell 7 rfl
          have kO8 := bO23.cell 8 rfl
          have kO9 := bO23.cell 9 rfl
          have lO := bO23.lt
          have kU0 := bU23.cell 0 rfl
          have kU1 := bU23.cell 1 rfl
          have lU := bU23.lt
          have kD0 := bD23.cell 0 rfl
          have kD1 := bD23.cell 1 rfl
          have kD2 := bD23.cell 2 rfl
          have kD3 := bD23.cell 3 rfl
          have kD4 := bD23.cell 4 rfl
          have kD5 := bD23.cell 5 rfl
          have kD6 := bD23.cell 6 rfl
          have kD7 := bD23.cell 7 rfl
          have kD8 := bD23.cell 8 rfl
          have kD9 := bD23.cell 9 rfl
          have lD := bD23.lt
          go_wp2_with fail
          clear kT0 kT1 kT2 kT3 kT4 kT5 kT6 kT7 kT8 kT9 lT kX0 kX1 kX2 lX kC0 kC1 lC kS0 kS1 lS kO0 kO1 kO2 kO3 kO4 kO5 kO6 kO7 kO8 kO9 lO kU0 kU1 lU kD0 kD1 kD2 kD3 kD4 kD5 kD6 kD7 kD8 kD9 lD
          refine (HWK.out _).mono ?_
          rintro e w24 ⟨rfl, hb24⟩
          have bT24 := bT23.below hb24
          have bX24 := bX23.below hb24
          have bC24 := bC23.below hb24
          have bS24 := bS23.below hb24
          have bO24 := bO23.below hb24
          have bU24 := bU23.below hb24
          have bD24 := bD23.below hb24
          have hB24 := hB23.trans (hb24.mono hB23.size)
          clear bT23 bX23 bC23 bS23 bO23 bU23 bD23 hB23
          go_wp2_with fail
          go_returns
          exact ⟨rfl, hB24⟩
      ·
        have hN := hN.resolve_left hN3
        subst hN
        have hNb : (NO != 3) = true := by simpa using hN3
        clear hN3
        have kT0 := bT15.cell 0 rfl
        have kT1 := bT15.cell 1 rfl
        have kT2 := bT15.cell 2 rfl
        have kT3 := bT15.cell 3 rfl
        have kT4 := bT15.cell 4 rfl
        have kT5 := bT15.cell 5 rfl
        have kT6 := bT15.cell 6 rfl
        have kT7 := bT15.cell 7 rfl
        have kT8 := bT15.cell 8 rfl
        have kT9 := bT15.cell 9 rfl
        have lT := bT15.lt
        have kX0 := bX15.cell 0 rfl
        have kX1 := bX15.cell 1 rfl
        have kX2 := bX15.cell 2 rfl
        have lX := bX15.lt
        have kC0 := bC15.cell 0 rfl
        have kC1 := bC15.cell 1 rfl
        have lC := bC15.lt
        have kS0 := bS15.cell 0 rfl
        have kS1 := bS15.cell 1 rfl
        have lS := bS15.lt
        have kO0 := bO15.cell 0 rfl
        have kO1 := bO15.cell 1 rfl
        have kO2 := bO15.cell 2 rfl
        have kO3 := bO15.cell 3 rfl
        have kO4 := bO15.cell 4 rfl
        have kO5 := bO15.cell 5 rfl
        have kO6 := bO15.cell 6 rfl
        have kO7 := bO15.cell 7 rfl
        have kO8 := bO15.cell 8 rfl
        have kO9 := bO15.cell 9 rfl
        have lO := bO15.lt
        have kU0 := bU15.cell 0 rfl
        have kU1 := bU15.cell 1 rfl
        have lU := bU15.lt
        go_wp2_with fail
        clear kT0 kT1 kT2 kT3 kT4 kT5 kT6 kT7 kT8 kT9 lT kX0 kX1 kX2 lX kC0 kC1 lC kS0 kS1 lS kO0 kO1 kO2 kO3 kO4 kO5 kO6 kO7 kO8 kO9 lO kU0 kU1 lU
        refine (HCP.out _ hB15).mono ?_
        rintro e w16 ⟨AW, cW, ys, rfl, hOW, hCW, hb16⟩
        have bT16 := bT15.below hb16
        have bX16 := bX15.below hb16
        have bC16 := bC15.below hb16
        have bS16 := bS15.below hb16
        have bO16 := bO15.below hb16
        have bU16 := bU15.below hb16
        have hB16 := hB15.trans (hb16.mono hB15.size)
        clear bT15 bX15 bC15 bS15 bO15 bU15 hB15
        have HTW16 : Hid (Tsts w16 w16.heap.size AW ts) := Lib.hid (hCW.out.tsts hOW.out)
        clear hOW hCW ys
        have kT0 := bT16.cell 0 rfl
        have kT1 := bT16.cell 1 rfl
        have kT2 := bT16.cell 2 rfl
        have kT3 := bT16.cell 3 rfl
        have kT4 := bT16.cell 4 rfl
        have kT5 := bT16.cell 5 rfl
        have kT6 := bT16.cell 6 rfl
        have kT7 := bT16.cell 7 rfl
        have kT8 := bT16.cell 8 rfl
        have kT9 := bT16.cell 9 rfl
        have lT := bT16.lt
        have kX0 := bX16.cell 0 rfl
        have kX1 := bX16.cell 1 rfl
        have kX2 := bX16.cell 2 rfl
        have lX := bX16.lt
        have kC0 := bC16.cell 0 rfl
        have kC1 := bC16.cell 1 rfl
        have lC := bC16.lt
        have kS0 := bS16.cell 0 rfl
        have kS1 := bS16.cell 1 rfl
        have lS := bS16.lt
        have kO0 := bO16.cell 0 rfl
        have kO1 := bO16.cell 1 rfl
        have kO2 := bO16.cell 2 rfl
        have kO3 := bO16.cell 3 rfl
        have kO4 := bO16.cell 4 rfl
        have kO5 := bO16.cell 5 rfl
        have kO6 := bO16.cell 6 rfl
        have kO7 := bO16.cell 7 rfl
        have kO8 := bO16.cell 8 rfl
        have kO9 := bO16.cell 9 rfl
        have lO := bO16.lt
        have kU0 := bU16.cell 0 rfl
        have kU1 := bU16.cell 1 rfl
        have lU := bU16.lt
        go_wp2_with fail
        clear kT0 kT1 kT2 kT3 kT4 kT5 kT6 kT7 kT8 kT9 lT kX0 kX1 kX2 lX kC0 kC1 lC kS0 kS1 lS kO0 kO1 kO2 kO3 kO4 kO5 kO6 kO7 kO8 kO9 lO kU0 kU1 lU
        have HTW17 : Hid (Tsts (World.alloc w16 (.cells #[.int .i64 full, .int .i64 read, .int .i64 slip, .int .i64 skew, .int .i64 circ, .int .i64 glo, .int .i64 ghi, .int .i64 wrn, .int .i64 (gain + g), .slice AW ts.length cW] 28)) (World.alloc w16 (.cells #[.int .i64 full, .int .i64 read, .int .i64 slip, .int .i64 skew, .int .i64 circ, .int .i64 glo, .int .i64 ghi, .int .i64 wrn, .int .i64 (gain + g), .slice AW ts.length cW] 28)).heap.size AW ts) := Lib.hid ((HTW16.out.keep ((Below.refl w16.heap.size w16).alloc (Below.refl w16.heap.size w16).size _)).wider ((Below.refl w16.heap.size w16).alloc (Below.refl w16.heap.size w16).size _).size)
        clear HTW16
        have bT17 := (bT16.alloc (.cells #[.int .i64 full, .int .i64 read, .int .i64 slip, .int .i64 skew, .int .i64 circ, .int .i64 glo, .int .i64 ghi, .int .i64 wrn, .int .i64 (gain + g), .slice AW ts.length cW] 28))
        have bX17 := (bX16.alloc (.cells #[.int .i64 full, .int .i64 read, .int .i64 slip, .int .i64 skew, .int .i64 circ, .int .i64 glo, .int .i64 ghi, .int .i64 wrn, .int .i64 (gain + g), .slice AW ts.length cW] 28))
        have bC17 := (bC16.alloc (.cells #[.int .i64 full, .int .i64 read, .int .i64 slip, .int .i64 skew, .int .i64 circ, .int .i64 glo, .int .i64 ghi, .int .i64 wrn, .int .i64 (gain + g), .slice AW ts.length cW] 28))
        have bS17 := (bS16.alloc (.cells #[.int .i64 full, .int .i64 read, .int .i64 slip, .int .i64 skew, .int .i64 circ, .int .i64 glo, .int .i64 ghi, .int .i64 wrn, .int .i64 (gain + g), .slice AW ts.length cW] 28))
        have bO17 := (bO16.alloc (.cells #[.int .i64 full, .int .i64 read, .int .i64 slip, .int .i64 skew, .int .i64 circ, .int .i64 glo, .int .i64 ghi, .int .i64 wrn, .int .i64 (gain + g), .slice AW ts.length cW] 28))
        have bU17 := (bU16.alloc (.cells #[.int .i64 full, .int .i64 read, .int .i64 slip, .int .i64 skew, .int .i64 circ, .int .i64 glo, .int .i64 ghi, .int .i64 wrn, .int .i64 (gain + g), .slice AW ts.length cW] 28))
        have bD17 := (BoxS.new w16 28 #[.int .i64 full, .int .i64 read, .int .i64 slip, .int .i64 skew, .int .i64 circ, .int .i64 glo, .int .i64 ghi, .int .i64 wrn, .int .i64 (gain + g), .slice AW ts.length cW])
        have hB17 : Below w.heap.size w (World.alloc w16 (.cells #[.int .i64 full, .int .i64 read, .int .i64 slip, .int .i64 skew, .int .i64 circ, .int .i64 glo, .int .i64 ghi, .int .i64 wrn, .int .i64 (gain + g), .slice AW ts.length cW] 28)) := (hB16.alloc hB16.size _)
        obtain ⟨BD, hBD⟩ : ∃ B, B = w16.heap.size := ⟨_, rfl⟩
        clear bT16 bX16 bC16 bS16 bO16 bU16 hB16
        generalize World.alloc w16 _ = w17 at *
        rw [← hBD]
        rw [← hBD] at bD17
        clear hBD
        refine (HRW.out AW cW _ HTW17.out).mono ?_
        rintro e w18 ⟨rfl, hb18⟩
        have bT18 := bT17.below hb18
        have bX18 := bX17.below hb18
        have bC18 := bC17.below hb18
        have bS18 := bS17.below hb18
        have bO18 := bO17.below hb18
        have bU18 := bU17.below hb18
        have bD18 := bD17.below hb18
        have hB18 := hB17.trans (hb18.mono hB17.size)
        clear bT17 bX17 bC17 bS17 bO17 bU17 bD17 hB17
        have HTW18 := Lib.hid ((HTW17.out.keep hb18).wider hb18.size)
        clear HTW17
        cases R2
        ·
          have kT0 := bT18.cell 0 rfl
          have kT1 := bT18.cell 1 rfl
          have kT2 := bT18.cell 2 rfl
          have kT3 := bT18.cell 3 rfl
          have kT4 := bT18.cell 4 rfl
          have kT5 := bT18.cell 5 rfl
          have kT6 := bT18.cell 6 rfl
          have kT7 := bT18.cell 7 rfl
          have kT8 := bT18.cell 8 rfl
          have kT9 := bT18.cell 9 rfl
          have lT := bT18.lt
          have kX0 := bX18.cell 0 rfl
          have kX1 := bX18.cell 1 rfl
          have kX2 := bX18.cell 2 rfl
          have lX := bX18.lt
          have kC0 := bC18.cell 0 rfl
          have kC1 := bC18.cell 1 rfl
          have lC := bC18.lt
          have kS0 := bS18.cell 0 rfl
          have kS1 := bS18.cell 1 rfl
          have lS := bS18.lt
          have kO0 := bO18.cell 0 rfl
          have kO1 := bO18.cell 1 rfl
          have kO2 := bO18.cell 2 rfl
          have kO3 := bO18.cell 3 rfl
          have kO4 := bO18.cell 4 rfl
          have kO5 := bO18.cell 5 rfl
          have kO6 := bO18.cell 6 rfl
          have kO7 := bO18.cell 7 rfl
          have kO8 := bO18.cell 8 rfl
          have kO9 := bO18.cell 9 rfl
          have lO := bO18.lt
          have kU0 := bU18.cell 0 rfl
          have kU1 := bU18.cell 1 rfl
          have lU := bU18.lt
          have kD0 := bD18.cell 0 rfl
          have kD1 := bD18.cell 1 rfl
          have kD2 := bD18.cell 2 rfl
          have kD3 := bD18.cell 3 rfl
          have kD4 := bD18.cell 4 rfl
          have kD5 := bD18.cell 5 rfl
          have kD6 := bD18.cell 6 rfl
          have kD7 := bD18.cell 7 rfl
          have kD8 := bD18.cell 8 rfl
          have kD9 := bD18.cell 9 rfl
          have lD := bD18.lt
          go_wp2_with fail
          clear kT0 kT1 kT2 kT3 kT4 kT5 kT6 kT7 kT8 kT9 lT kX0 kX1 kX2 lX kC0 kC1 lC kS0 kS1 lS kO0 kO1 kO2 kO3 kO4 kO5 kO6 kO7 kO8 kO9 lO kU0 kU1 lU kD0 kD1 kD2 kD3 kD4 kD5 kD6 kD7 kD8 kD9 lD
          refine (HWK.out _).mono ?_
          rintro e w19 ⟨rfl, hb19⟩
          have bT19 := bT18.below hb19
          have bX19 := bX18.below hb19
          have bC19 := bC18.below hb19
          have bS19 := bS18.below hb19
          have bO19 := bO18.below hb19
          have bU19 := bU18.below hb19
          have bD19 := bD18.below hb19
          have hB19 := hB18.trans (hb19.mono hB18.size)
          clear bT18 bX18 bC18 bS18 bO18 bU18 bD18 hB18
          go_wp2_with fail
          go_returns
          exact ⟨rfl, hB19⟩
        ·
          obtain ⟨hEW, hmw, ⟨hsg, hlg⟩, ⟨hss, hls⟩, hgw, hsw⟩ := HFW.out (by first | rfl | trivial) (by first | rfl | trivial)
          subst hEW
          have d1 : M ≤ MW := hmw
          have d2 : decide ((GW.length : Int) ≤ 200) = true := decide_eq_true (by omega)
          have d3 : decide ((SW.length : Int) ≤ 200) = true := decide_eq_true (by omega)
          have HS1 := Lib.hid (HSU.out GT GW hlg hgw hsg)
          have HS2 := Lib.hid (HSU.out ST SW hls hsw hss)
          clear hsg hlg hss hls hmw
          have kT0 := bT18.cell 0 rfl
          have kT1 := bT18.cell 1 rfl
          have kT2 := bT18.cell 2 rfl
          have kT3 := bT18.cell 3 rfl
          have kT4 := bT18.cell 4 rfl
          have kT5 := bT18.cell 5 rfl
          have kT6 := bT18.cell 6 rfl
          have kT7 := bT18.cell 7 rfl
          have kT8 := bT18.cell 8 rfl
          have kT9 := bT18.cell 9 rfl
          have lT := bT18.lt
          have kX0 := bX18.cell 0 rfl
          have kX1 := bX18.cell 1 rfl
          have kX2 := bX18.cell 2 rfl
          have lX := bX18.lt
          have kC0 := bC18.cell 0 rfl
          have kC1 := bC18.cell 1 rfl
          have lC := bC18.lt
          have kS0 := bS18.cell 0 rfl
          have kS1 := bS18.cell 1 rfl
          have lS := bS18.lt
          have kO0 := bO18.cell 0 rfl
          have kO1 := bO18.cell 1 rfl
          have kO2 := bO18.cell 2 rfl
          have kO3 := bO18.cell 3 rfl
          have kO4 := bO18.cell 4 rfl
          have kO5 := bO18.cell 5 rfl
          have kO6 := bO18.cell 6 rfl
          have kO7 := bO18.cell 7 rfl
          have kO8 := bO18.cell 8 rfl
          have kO9 := bO18.cell 9 rfl
          have lO := bO18.lt
          have kU0 := bU18.cell 0 rfl
          have kU1 := bU18.cell 1 rfl
          have lU := bU18.lt
          have kD0 := bD18.cell 0 rfl
          have kD1 := bD18.cell 1 rfl
          have kD2 := bD18.cell 2 rfl
          have kD3 := bD18.cell 3 rfl
          have kD4 := bD18.cell 4 rfl
          have kD5 := bD18.cell 5 rfl
          have kD6 := bD18.cell 6 rfl
          have kD7 := bD18.cell 7 rfl
          have kD8 := bD18.cell 8 rfl
          have kD9 := bD18.cell 9 rfl
          have lD := bD18.lt
          go_wp2_with fail
          clear kT0 kT1 kT2 kT3 kT4 kT5 kT6 kT7 kT8 kT9 lT kX0 kX1 kX2 lX kC0 kC1 lC kS0 kS1 lS kO0 kO1 kO2 kO3 kO4 kO5 kO6 kO7 kO8 kO9 lO kU0 kU1 lU kD0 kD1 kD2 kD3 kD4 kD5 kD6 kD7 kD8 kD9 lD
          refine (HMW.out AW cW _ HTW18.out).mono ?_
          rintro e w19 ⟨rfl, hb19⟩
          have bT19 := bT18.below hb19
          have bX19 := bX18.below hb19
          have bC19 := bC18.below hb19
          have bS19 := bS18.below hb19
          have bO19 := bO18.below hb19
          have bU19 := bU18.below hb19
          have bD19 := bD18.below hb19
          have hB19 := hB18.trans (hb19.mono hB18.size)
          clear bT18 bX18 bC18 bS18 bO18 bU18 bD18 hB18
          have HTW19 := Lib.hid ((HTW18.out.keep hb19).wider hb19.size)
          clear HTW18
          have kT0 := bT19.cell 0 rfl
          have kT1 := bT19.cell 1 rfl
          have kT2 := bT19.cell 2 rfl
          have kT3 := bT19.cell 3 rfl
          have kT4 := bT19.cell 4 rfl
          have kT5 := bT19.cell 5 rfl
          have kT6 := bT19.cell 6 rfl
          have kT7 := bT19.cell 7 rfl
          have kT8 := bT19.cell 8 rfl
          have kT9 := bT19.cell 9 rfl
          have lT := bT19.lt
          have kX0 := bX19.cell 0 rfl
          have kX1 := bX19.cell 1 rfl
          have kX2 := bX19.cell 2 rfl
          have lX := bX19.lt
          have kC0 := bC19.cell 0 rfl
          have kC1 := bC19.cell 1 rfl
          have lC := bC19.lt
          have kS0 := bS19.cell 0 rfl
          have kS1 := bS19.cell 1 rfl
          have lS := bS19.lt
          have kO0 := bO19.cell 0 rfl
          have kO1 := bO19.cell 1 rfl
          have kO2 := bO19.cell 2 rfl
          have kO3 := bO19.cell 3 rfl
          have kO4 := bO19.cell 4 rfl
          have kO5 := bO19.cell 5 rfl
          have kO6 := bO19.cell 6 rfl
          have kO7 := bO19.cell 7 rfl
          have kO8 := bO19.cell 8 rfl
          have kO9 := bO19.cell 9 rfl
          have lO := bO19.lt
          have kU0 := bU19.cell 0 rfl
          have kU1 := bU19.cell 1 rfl
          have lU := bU19.lt
          have kD0 := bD19.cell 0 rfl
          have kD1 := bD19.cell 1 rfl
          have kD2 := bD19.cell 2 rfl
          have kD3 := bD19.cell 3 rfl
          have kD4 := bD19.cell 4 rfl
          have kD5 := bD19.cell 5 rfl
          have kD6 := bD19.cell 6 rfl
          have kD7 := bD19.cell 7 rfl
          have kD8 := bD19.cell 8 rfl
          have kD9 := bD19.cell 9 rfl
          have lD := bD19.lt
          go_wp2_with fail
          clear kT0 kT1 kT2 kT3 kT4 kT5 kT6 kT7 kT8 kT9 lT kX0 kX1 kX2 lX kC0 kC1 lC kS0 kS1 lS kO0 kO1 kO2 kO3 kO4 kO5 kO6 kO7 kO8 kO9 lO kU0 kU1 lU kD0 kD1 kD2 kD3 kD4 kD5 kD6 kD7 kD8 kD9 lD
          refine (HGT.out _ hB19).mono ?_
          rintro e w20 ⟨vA, rfl, hvA, hb20⟩
          have bT20 := bT19.below hb20
          have bX20 := bX19.below hb20
          have bC20 := bC19.below hb20
          have bS20 := bS19.below hb20
          have bO20 := bO19.below hb20
          have bU20 := bU19.below hb20
          have bD20 := bD19.below hb20
          have hB20 := hB19.trans (hb20.mono hB19.size)
          clear bT19 bX19 bC19 bS19 bO19 bU19 bD19 hB19
          have HVA20 := Lib.hid hvA.out
          clear hvA
          obtain ⟨AA, cA, rfl⟩ := ints_form HVA20.out
          have HTW20 := Lib.hid ((HTW19.out.keep hb20).wider hb20.size)
          clear HTW19
          have kT0 := bT20.cell 0 rfl
          have kT1 := bT20.cell 1 rfl
          have kT2 := bT20.cell 2 rfl
          have kT3 := bT20.cell 3 rfl
          have kT4 := bT20.cell 4 rfl
          have kT5 := bT20.cell 5 rfl
          have kT6 := bT20.cell 6 rfl
          have kT7 := bT20.cell 7 rfl
          have kT8 := bT20.cell 8 rfl
          have kT9 := bT20.cell 9 rfl
          have lT := bT20.lt
          have kX0 := bX20.cell 0 rfl
          have kX1 := bX20.cell 1 rfl
          have kX2 := bX20.cell 2 rfl
          have lX := bX20.lt
          have kC0 := bC20.cell 0 rfl
          have kC1 := bC20.cell 1 rfl
          have lC := bC20.lt
          have kS0 := bS20.cell 0 rfl
          have kS1 := bS20.cell 1 rfl
          have lS := bS20.lt
          have kO0 := bO20.cell 0 rfl
          have kO1 := bO20.cell 1 rfl
          have kO2 := bO20.cell 2 rfl
          have kO3 := bO20.cell 3 rfl
          have kO4 := bO20.cell 4 rfl
          have kO5 := bO20.cell 5 rfl
          have kO6 := bO20.cell 6 rfl
          have kO7 := bO20.cell 7 rfl
          have kO8 := bO20.cell 8 rfl
          have kO9 := bO20.cell 9 rfl
          have lO := bO20.lt
          have kU0 := bU20.cell 0 rfl
          have kU1 := bU20.cell 1 rfl
          have lU := bU20.lt
          have kD0 := bD20.cell 0 rfl
          have kD1 := bD20.cell 1 rfl
          have kD2 := bD20.cell 2 rfl
          have kD3 := bD20.cell 3 rfl
          have kD4 := bD20.cell 4 rfl
          have kD5 := bD20.cell 5 rfl
          have kD6 := bD20.cell 6 rfl
          have kD7 := bD20.cell 7 rfl
          have kD8 := bD20.cell 8 rfl
          have kD9 := bD20.cell 9 rfl
          have lD := bD20.lt
          go_wp2_with fail
          clear kT0 kT1 kT2 kT3 kT4 kT5 kT6 kT7 kT8 kT9 lT kX0 kX1 kX2 lX kC0 kC1 lC kS0 kS1 lS kO0 kO1 kO2 kO3 kO4 kO5 kO6 kO7 kO8 kO9 lO kU0 kU1 lU kD0 kD1 kD2 kD3 kD4 kD5 kD6 kD7 kD8 kD9 lD
          refine (HGW.out AW cW _ HTW20.out).mono ?_
          rintro e w21 ⟨vB, rfl, hvB, hb21⟩
          have bT21 := bT20.below hb21
          have bX21 := bX20.below hb21
          have bC21 := bC20.below hb21
          have bS21 := bS20.below hb21
          have bO21 := bO20.below hb21
          have bU21 := bU20.below hb21
          have bD21 := bD20.below hb21
          have hB21 := hB20.trans (hb21.mono hB20.size)
          clear bT20 bX20 bC20 bS20 bO20 bU20 bD20 hB20
          have HVB21 := Lib.hid hvB.out
          clear hvB
          obtain ⟨AB, cB, rfl⟩ := ints_form HVB21.out
          have HTW21 := Lib.hid ((HTW20.out.keep hb21).wider hb21.size)
          clear HTW20
          have HVA21 := Lib.hid ((HVA20.out.keep hb21).more hb21.size)
          clear HVA20
          have kT0 := bT21.cell 0 rfl
          have kT1 := bT21.cell 1 rfl
          have kT2 := bT21.cell 2 rfl
          have kT3 := bT21.cell 3 rfl
          have kT4 := bT21.cell 4 rfl
          have kT5 := bT21.cell 5 rfl
          have kT6 := bT21.cell 6 rfl
          have kT7 := bT21.cell 7 rfl
          have kT8 := bT21.cell 8 rfl
          have kT9 := bT21.cell 9 rfl
          have lT := bT21.lt
          have kX0 := bX21.cell 0 rfl
          have kX1 := bX21.cell 1 rfl
          have kX2 := bX21.cell 2 rfl
          have lX := bX21.lt
          have kC0 := bC21.cell 0 rfl
          have kC1 := bC21.cell 1 rfl
          have lC := bC21.lt
          have kS0 := bS21.cell 0 rfl
          have kS1 := bS21.cell 1 rfl
          have lS := bS21.lt
          have kO0 := bO21.cell 0 rfl
          have kO1 := bO21.cell 1 rfl
          have kO2 := bO21.cell 2 rfl
          have kO3 := bO21.cell 3 rfl
          have kO4 := bO21.cell 4 rfl
          have kO5 := bO21.cell 5 rfl
          have kO6 := bO21.cell 6 rfl
          have kO7 := bO21.cell 7 rfl
          have kO8 := bO21.cell 8 rfl
          have kO9 := bO21.cell 9 rfl
          have lO := bO21.lt
          have kU0 := bU21.cell 0 rfl
          have kU1 := bU21.cell 1 rfl
          have lU := bU21.lt
          have kD0 := bD21.cell 0 rfl
          have kD1 := bD21.cell 1 rfl
          have kD2 := bD21.cell 2 rfl
          have kD3 := bD21.cell 3 rfl
          have kD4 := bD21.cell 4 rfl
          have kD5 := bD21.cell 5 rfl
          have kD6 := bD21.cell 6 rfl
          have kD7 := bD21.cell 7 rfl
          have kD8 := bD21.cell 8 rfl
          have kD9 := bD21.cell 9 rfl
          have lD := bD21.lt
          go_wp2_with fail
          clear kT0 kT1 kT2 kT3 kT4 kT5 kT6 kT7 kT8 kT9 lT kX0 kX1 kX2 lX kC0 kC1 lC kS0 kS1 lS kO0 kO1 kO2 kO3 kO4 kO5 kO6 kO7 kO8 kO9 lO kU0 kU1 lU kD0 kD1 kD2 kD3 kD4 kD5 kD6 kD7 kD8 kD9 lD
          refine (HST.out _ hB21).mono ?_
          rintro e w22 ⟨vP, rfl, hvP, hb22⟩
          have bT22 := bT21.below hb22
          have bX22 := bX21.below hb22
          have bC22 := bC21.below hb22
          have bS22 := bS21.below hb22
          have bO22 := bO21.below hb22
          have bU22 := bU21.below hb22
          have bD22 := bD21.below hb22
          have hB22 := hB21.trans (hb22.mono hB21.size)
          clear bT21 bX21 bC21 bS21 bO21 bU21 bD21 hB21
          have HVP22 := Lib.hid hvP.out
          clear hvP
          obtain ⟨AP, cP, rfl⟩ := ints_form HVP22.out
          have HTW22 := Lib.hid ((HTW21.out.keep hb22).wider hb22.size)
          clear HTW21
          have HVA22 := Lib.hid ((HVA21.out.keep hb22).more hb22.size)
          have HVB22 := Lib.hid ((HVB21.out.keep hb22).more hb22.size)
          clear HVA21 HVB21
          have kT0 := bT22.cell 0 rfl
          have kT1 := bT22.cell 1 rfl
          have kT2 := bT22.cell 2 rfl
          have kT3 := bT22.cell 3 rfl
          have kT4 := bT22.cell 4 rfl
          have kT5 := bT22.cell 5 rfl
          have kT6 := bT22.cell 6 rfl
          have kT7 := bT22.cell 7 rfl
          have kT8 := bT22.cell 8 rfl
          have kT9 := bT22.cell 9 rfl
          have lT := bT22.lt
          have kX0 := bX22.cell 0 rfl
          have kX1 := bX22.cell 1 rfl
          have kX2 := bX22.cell 2 rfl
          have lX := bX22.lt
          have kC0 := bC22.cell 0 rfl
          have kC1 := bC22.cell 1 rfl
          have lC := bC22.lt
          have kS0 := bS22.cell 0 rfl
          have kS1 := bS22.cell 1 rfl
          have lS := bS22.lt
          have kO0 := bO22.cell 0 rfl
          have kO1 := bO22.cell 1 rfl
          have kO2 := bO22.cell 2 rfl
          have kO3 := bO22.cell 3 rfl
          have kO4 := bO22.cell 4 rfl
          have kO5 := bO22.cell 5 rfl
          have kO6 := bO22.cell 6 rfl
          have kO7 := bO22.cell 7 rfl
          have kO8 := bO22.cell 8 rfl
          have kO9 := bO22.cell 9 rfl
          have lO := bO22.lt
          have kU0 := bU22.cell 0 rfl
          have kU1 := bU22.cell 1 rfl
          have lU := bU22.lt
          have kD0 := bD22.cell 0 rfl
          have kD1 := bD22.cell 1 rfl
          have kD2 := bD22.cell 2 rfl
          have kD3 := bD22.cell 3 rfl
          have kD4 := bD22.cell 4 rfl
          have kD5 := bD22.cell 5 rfl
          have kD6 := bD22.cell 6 rfl
          have kD7 := bD22.cell 7 rfl
          have kD8 := bD22.cell 8 rfl
          have kD9 := bD22.cell 9 rfl
          have lD := bD22.lt
          go_wp2_with fail
          clear kT0 kT1 kT2 kT3 kT4 kT5 kT6 kT7 kT8 kT9 lT kX0 kX1 kX2 lX kC0 kC1 lC kS0 kS1 lS kO0 kO1 kO2 kO3 kO4 kO5 kO6 kO7 kO8 kO9 lO kU0 kU1 lU kD0 kD1 kD2 kD3 kD4 kD5 kD6 kD7 kD8 kD9 lD
          refine (HSW.out AW cW _ HTW22.out).mono ?_
          rintro e w23 ⟨vQ, rfl, hvQ, hb23⟩
          have bT23 := bT22.below hb23
          have bX23 := bX22.below hb23
          have bC23 := bC22.below hb23
          have bS23 := bS22.below hb23
          have bO23 := bO22.below hb23
          have bU23 := bU22.below hb23
          have bD23 := bD22.below hb23
          have hB23 := hB22.trans (hb23.mono hB22.size)
          clear bT22 bX22 bC22 bS22 bO22 bU22 bD22 hB22
          have HVQ23 := Lib.hid hvQ.out
          clear hvQ
          obtain ⟨AQ, cQ, rfl⟩ := ints_form HVQ23.out
          have HTW23 := Lib.hid ((HTW22.out.keep hb23).wider hb23.size)
          clear HTW22
          have HVA23 := Lib.hid ((HVA22.out.keep hb23).more hb23.size)
          have HVB23 := Lib.hid ((HVB22.out.keep hb23).more hb23.size)
          have HVP23 := Lib.hid ((HVP22.out.keep hb23).more hb23.size)
          clear HVA22 HVB22 HVP22
          have kT0 := bT23.cell 0 rfl
          have kT1 := bT23.cell 1 rfl
          have kT2 := bT23.cell 2 rfl
          have kT3 := bT23.cell 3 rfl
          have kT4 := bT23.cell 4 rfl
          have kT5 := bT23.cell 5 rfl
          have kT6 := bT23.cell 6 rfl
          have kT7 := bT23.cell 7 rfl
          have kT8 := bT23.cell 8 rfl
          have kT9 := bT23.cell 9 rfl
          have lT := bT23.lt
          have kX0 := bX23.cell 0 rfl
          have kX1 := bX23.cell 1 rfl
          have kX2 := bX23.cell 2 rfl
          have lX := bX23.lt
          have kC0 := bC23.cell 0 rfl
          have kC1 := bC23.cell 1 rfl
          have lC := bC23.lt
          have kS0 := bS23.cell 0 rfl
          have kS1 := bS23.cell 1 rfl
          have lS := bS23.lt
          have kO0 := bO23.cell 0 rfl
          have kO1 := bO23.cell 1 rfl
          have kO2 := bO23.cell 2 rfl
          have kO3 := bO23.cell 3 rfl
          have kO4 := bO23.cell 4 rfl
          have kO5 := bO23.cell 5 rfl
          have kO6 := bO23.cell 6 rfl
          have kO7 := bO23.cell 7 rfl
          have kO8 := bO23.cell 8 rfl
          have kO9 := bO23.cell 9 rfl
          have lO := bO23.lt
          have kU0 := bU23.cell 0 rfl
          have kU1 := bU23.cell 1 rfl
          have lU := bU23.lt
          have kD0 := bD23.cell 0 rfl
          have kD1 := bD23.cell 1 rfl
          have kD2 := bD23.cell 2 rfl
          have kD3 := bD23.cell 3 rfl
          have kD4 := bD23.cell 4 rfl
          have kD5 := bD23.cell 5 rfl
          have kD6 := bD23.cell 6 rfl
          have kD7 := bD23.cell 7 rfl
          have kD8 := bD23.cell 8 rfl
          have kD9 := bD23.cell 9 rfl
          have lD := bD23.lt
          go_wp2_with fail
          clear kT0 kT1 kT2 kT3 kT4 kT5 kT6 kT7 kT8 kT9 lT kX0 kX1 kX2 lX kC0 kC1 lC kS0 kS1 lS kO0 kO1 kO2 kO3 kO4 kO5 kO6 kO7 kO8 kO9 lO kU0 kU1 lU kD0 kD1 kD2 kD3 kD4 kD5 kD6 kD7 kD8 kD9 lD
          refine (HS1.out _ _ _ HVA23.out HVB23.out).mono ?_
          rintro e wq ⟨rfl, hq⟩
          have hq := hq.symm
          subst hq
          have kT0 := bT23.cell 0 rfl
          have kT1 := bT23.cell 1 rfl
          have kT2 := bT23.cell 2 rfl
          have kT3 := bT23.cell 3 rfl
          have kT4 := bT23.cell 4 rfl
          have kT5 := bT23.cell 5 rfl
          have kT6 := bT23.cell 6 rfl
          have kT7 := bT23.cell 7 rfl
          have kT8 := bT23.cell 8 rfl
          have kT9 := bT23.cell 9 rfl
          have lT := bT23.lt
          have kX0 := bX23.cell 0 rfl
          have kX1 := bX23.cell 1 rfl
          have kX2 := bX23.cell 2 rfl
          have lX := bX23.lt
          have kC0 := bC23.cell 0 rfl
          have kC1 := bC23.cell 1 rfl
          have lC := bC23.lt
          have kS0 := bS23.cell 0 rfl
          have kS1 := bS23.cell 1 rfl
          have lS := bS23.lt
          have kO0 := bO23.cell 0 rfl
          have kO1 := bO23.cell 1 rfl
          have kO2 := bO23.cell 2 rfl
          have kO3 := bO23.cell 3 rfl
          have kO4 := bO23.cell 4 rfl
          have kO5 := bO23.cell 5 rfl
          have kO6 := bO23.cell 6 rfl
          have kO7 := bO23.cell 7 rfl
          have kO8 := bO23.cell 8 rfl
          have kO9 := bO23.cell 9 rfl
          have lO := bO23.lt
          have kU0 := bU23.cell 0 rfl
          have kU1 := bU23.cell 1 rfl
          have lU := bU23.lt
          have kD0 := bD23.cell 0 rfl
          have kD1 := bD23.cell 1 rfl
          have kD2 := bD23.cell 2 rfl
          have kD3 := bD23.cell 3 rfl
          have kD4 := bD23.cell 4 rfl
          have kD5 := bD23.cell 5 rfl
          have kD6 := bD23.cell 6 rfl
          have kD7 := bD23.cell 7 rfl
          have kD8 := bD23.cell 8 rfl
          have kD9 := bD23.cell 9 rfl
          have lD := bD23.lt
          go_wp2_with fail
          clear kT0 kT1 kT2 kT3 kT4 kT5 kT6 kT7 kT8 kT9 lT kX0 kX1 kX2 lX kC0 kC1 lC kS0 kS1 lS kO0 kO1 kO2 kO3 kO4 kO5 kO6 kO7 kO8 kO9 lO kU0 kU1 lU kD0 kD1 kD2 kD3 kD4 kD5 kD6 kD7 kD8 kD9 lD
          refine (HS2.out _ _ _ HVP23.out HVQ23.out).mono ?_
          rintro e wq ⟨rfl, hq⟩
          have hq := hq.symm
          subst hq
          have kT0 := bT23.cell 0 rfl
          have kT1 := bT23.cell 1 rfl
          have kT2 := bT23.cell 2 rfl
          have kT3 := bT23.cell 3 rfl
          have kT4 := bT23.cell 4 rfl
          have kT5 := bT23.cell 5 rfl
          have kT6 := bT23.cell 6 rfl
          have kT7 := bT23.cell 7 rfl
          have kT8 := bT23.cell 8 rfl
          have kT9 := bT23.cell 9 rfl
          have lT := bT23.lt
          have kX0 := bX23.cell 0 rfl
          have kX1 := bX23.cell 1 rfl
          have kX2 := bX23.cell 2 rfl
          have lX := bX23.lt
          have kC0 := bC23.cell 0 rfl
          have kC1 := bC23.cell 1 rfl
          have lC := bC23.lt
          have kS0 := bS23.cell 0 rfl
          have kS1 := bS23.cell 1 rfl
          have lS := bS23.lt
          have kO0 := bO23.cell 0 rfl
          have kO1 := bO23.cell 1 rfl
          have kO2 := bO23.cell 2 rfl
          have kO3 := bO23.cell 3 rfl
          have kO4 := bO23.cell 4 rfl
          have kO5 := bO23.cell 5 rfl
          have kO6 := bO23.cell 6 rfl
          have kO7 := bO23.cell 7 rfl
          have kO8 := bO23.cell 8 rfl
          have kO9 := bO23.cell 9 rfl
          have lO := bO23.lt
          have kU0 := bU23.cell 0 rfl
          have kU1 := bU23.cell 1 rfl
          have lU := bU23.lt
          have kD0 := bD23.cell 0 rfl
          have kD1 := bD23.cell 1 rfl
          have kD2 := bD23.cell 2 rfl
          have kD3 := bD23.cell 3 rfl
          have kD4 := bD23.cell 4 rfl
          have kD5 := bD23.cell 5 rfl
          have kD6 := bD23.cell 6 rfl
          have kD7 := bD23.cell 7 rfl
          have kD8 := bD23.cell 8 rfl
          have kD9 := bD23.cell 9 rfl
          have lD := bD23.lt
          go_wp2_with fail
          clear kT0 kT1 kT2 kT3 kT4 kT5 kT6 kT7 kT8 kT9 lT kX0 kX1 kX2 lX kC0 kC1 lC kS0 kS1 lS kO0 kO1 kO2 kO3 kO4 kO5 kO6 kO7 kO8 kO9 lO kU0 kU1 lU kD0 kD1 kD2 kD3 kD4 kD5 kD6 kD7 kD8 kD9 lD
          refine (HWK.out _).mono ?_
          rintro e w24 ⟨rfl, hb24⟩
          have bT24 := bT23.below hb24
          have bX24 := bX23.below hb24
          have bC24 := bC23.below hb24
          have bS24 := bS23.below hb24
          have bO24 := bO23.below hb24
          have bU24 := bU23.below hb24
          have bD24 := bD23.below hb24
          have hB24 := hB23.trans (hb24.mono hB23.size)
          clear bT23 bX23 bC23 bS23 bO23 bU23 bD23 hB23
          go_wp2_with fail
          go_returns
          exact ⟨rfl, hB24⟩
    ·
      subst hEO
      have kT0 := bT15.cell 0 rfl
      have kT1 := bT15.cell 1 rfl
      have kT2 := bT15.cell 2 rfl
      have kT3 := bT15.cell 3 rfl
      have kT4 := bT15.cell 4 rfl
      have kT5 := bT15.cell 5 rfl
      have kT6 := bT15.cell 6 rfl
      have kT7 := bT15.cell 7 rfl
      have kT8 := bT15.cell 8 rfl
      have kT9 := bT15.cell 9 rfl
      have lT := bT15.lt
      have kX0 := bX15.cell 0 rfl
      have kX1 := bX15.cell 1 rfl
      have kX2 := bX15.cell 2 rfl
      have lX := bX15.lt
      have kC0 := bC15.cell 0 rfl
      have kC1 := bC15.cell 1 rfl
      have lC := bC15.lt
      have kS0 := bS15.cell 0 rfl
      have kS1 := bS15.cell 1 rfl
      have lS := bS15.lt
      have kO0 := bO15.cell 0 rfl
      have kO1 := bO15.cell 1 rfl
      have kO2 := bO15.cell 2 rfl
      have kO3 := bO15.cell 3 rfl
      have kO4 := bO15.cell 4 rfl
      have kO5 := bO15.cell 5 rfl
      have kO6 := bO15.cell 6 rfl
      have kO7 := bO15.cell 7 rfl
      have kO8 := bO15.cell 8 rfl
      have kO9 := bO15.cell 9 rfl
      have lO := bO15.lt
      have kU0 := bU15.cell 0 rfl
      have kU1 := bU15.cell 1 rfl
      have lU := bU15.lt
      go_wp2_with fail
      clear kT0 kT1 kT2 kT3 kT4 kT5 kT6 kT7 kT8 kT9 lT kX0 kX1 kX2 lX kC0 kC1 lC kS0 kS1 lS kO0 kO1 kO2 kO3 kO4 kO5 kO6 kO7 kO8 kO9 lO kU0 kU1 lU
      refine (HCP.out _ hB15).mono ?_
      rintro e w16 ⟨AW, cW, ys, rfl, hOW, hCW, hb16⟩
      have bT16 := bT15.below hb16
      have bX16 := bX15.below hb16
      have bC16 := bC15.below hb16
      have bS16 := bS15.below hb16
      have bO16 := bO15.below hb16
      have bU16 := bU15.below hb16
      have hB16 := hB15.trans (hb16.mono hB15.size)
      clear bT15 bX15 bC15 bS15 bO15 bU15 hB15
      have HTW16 : Hid (Tsts w16 w16.heap.size AW ts) := Lib.hid (hCW.out.tsts hOW.out)
      clear hOW hCW ys
      have kT0 := bT16.cell 0 rfl
      have kT1 := bT16.cell 1 rfl
      have kT2 := bT16.cell 2 rfl
      have kT3 := bT16.cell 3 rfl
      have kT4 := bT16.cell 4 rfl
      have kT5 := bT16.cell 5 rfl
      have kT6 := bT16.cell 6 rfl
      have kT7 := bT16.cell 7 rfl
      have kT8 := bT16.cell 8 rfl
      have kT9 := bT16.cell 9 rfl
      have lT := bT16.lt
      have kX0 := bX16.cell 0 rfl
      have kX1 := bX16.cell 1 rfl
      have kX2 := bX16.cell 2 rfl
      have lX := bX16.lt
      have kC0 := bC16.cell 0 rfl
      have kC1 := bC16.cell 1 rfl
      have lC := bC16.lt
      have kS0 := bS16.cell 0 rfl
      have kS1 := bS16.cell 1 rfl
      have lS := bS16.lt
      have kO0 := bO16.cell 0 rfl
      have kO1 := bO16.cell 1 rfl
      have kO2 := bO16.cell 2 rfl
      have kO3 := bO16.cell 3 rfl
      have kO4 := bO16.cell 4 rfl
      have kO5 := bO16.cell 5 rfl
      have kO6 := bO16.cell 6 rfl
      have kO7 := bO16.cell 7 rfl
      have kO8 := bO16.cell 8 rfl
      have kO9 := bO16.cell 9 rfl
      have lO := bO16.lt
      have kU0 := bU16.cell 0 rfl
      have kU1 := bU16.cell 1 rfl
      have lU := bU16.lt
      go_wp2_with fail
      clear kT0 kT1 kT2 kT3 kT4 kT5 kT6 kT7 kT8 kT9 lT kX0 kX1 kX2 lX kC0 kC1 lC kS0 kS1 lS kO0 kO1 kO2 kO3 kO4 kO5 kO6 kO7 kO8 kO9 lO kU0 kU1 lU
      have HTW17 : Hid (Tsts (World.alloc w16 (.cells #[.int .i64 full, .int .i64 read, .int .i64 slip, .int .i64 skew, .int .i64 circ, .int .i64 glo, .int .i64 ghi, .int .i64 wrn, .int .i64 (gain + g), .slice AW ts.length cW] 28)) (World.alloc w16 (.cells #[.int .i64 full, .int .i64 read, .int .i64 slip, .int .i64 skew, .int .i64 circ, .int .i64 glo, .int .i64 ghi, .int .i64 wrn, .int .i64 (gain + g), .slice AW ts.length cW] 28)).heap.size AW ts) := Lib.hid ((HTW16.out.keep ((Below.refl w16.heap.size w16).alloc (Below.refl w16.heap.size w16).size _)).wider ((Below.refl w16.heap.size w16).alloc (Below.refl w16.heap.size w16).size _).size)
      clear HTW16
      have bT17 := (bT16.alloc (.cells #[.int .i64 full, .int .i64 read, .int .i64 slip, .int .i64 skew, .int .i64 circ, .int .i64 glo, .int .i64 ghi, .int .i64 wrn, .int .i64 (gain + g), .slice AW ts.length cW] 28))
      have bX17 := (bX16.alloc (.cells #[.int .i64 full, .int .i64 read, .int .i64 slip, .int .i64 skew, .int .i64 circ, .int .i64 glo, .int .i64 ghi, .int .i64 wrn, .int .i64 (gain + g), .slice AW ts.length cW] 28))
      have bC17 := (bC16.alloc (.cells #[.int .i64 full, .int .i64 read, .int .i64 slip, .int .i64 skew, .int .i64 circ, .int .i64 glo, .int .i64 ghi, .int .i64 wrn, .int .i64 (gain + g), .slice AW ts.length cW] 28))
      have bS17 := (bS16.alloc (.cells #[.int .i64 full, .int .i64 read, .int .i64 slip, .int .i64 skew, .int .i64 circ, .int .i64 glo, .int .i64 ghi, .int .i64 wrn, .int .i64 (gain + g), .slice AW ts.length cW] 28))
      have bO17 := (bO16.alloc (.cells #[.int .i64 full, .int .i64 read, .int .i64 slip, .int .i64 skew, .int .i64 circ, .int .i64 glo, .int .i64 ghi, .int .i64 wrn, .int .i64 (gain + g), .slice AW ts.length cW] 28))
      have bU17 := (bU16.alloc (.cells #[.int .i64 full, .int .i64 read, .int .i64 slip, .int .i64 skew, .int .i64 circ, .int .i64 glo, .int .i64 ghi, .int .i64 wrn, .int .i64 (gain + g), .slice AW ts.length cW] 28))
      have bD17 := (BoxS.new w16 28 #[.int .i64 full, .int .i64 read, .int .i64 slip, .int .i64 skew, .int .i64 circ, .int .i64 glo, .int .i64 ghi, .int .i64 wrn, .int .i64 (gain + g), .slice AW ts.length cW])
      have hB17 : Below w.heap.size w (World.alloc w16 (.cells #[.int .i64 full, .int .i64 read, .int .i64 slip, .int .i64 skew, .int .i64 circ, .int .i64 glo, .int .i64 ghi, .int .i64 wrn, .int .i64 (gain + g), .slice AW ts.length cW] 28)) := (hB16.alloc hB16.size _)
      obtain ⟨BD, hBD⟩ : ∃ B, B = w16.heap.size := ⟨_, rfl⟩
      clear bT16 bX16 bC16 bS16 bO16 bU16 hB16
      generalize World.alloc w16 _ = w17 at *
      rw [← hBD]
      rw [← hBD] at bD17
      clear hBD
      refine (HRW.out AW cW _ HTW17.out).mono ?_
      rintro e w18 ⟨rfl, hb18⟩
      have bT18 := bT17.below hb18
      have bX18 := bX17.below hb18
      have bC18 := bC17.below hb18
      have bS18 := bS17.below hb18
      have bO18 := bO17.below hb18
      have bU18 := bU17.below hb18
      have bD18 := bD17.below hb18
      have hB18 := hB17.trans (hb18.mono hB17.size)
      clear bT17 bX17 bC17 bS17 bO17 bU17 bD17 hB17
      have HTW18 := Lib.hid ((HTW17.out.keep hb18).wider hb18.size)
      clear HTW17
      cases R2
      ·
        have kT0 := bT18.cell 0 rfl
        have kT1 := bT18.cell 1 rfl
        have kT2 := bT18.cell 2 rfl
        have kT3 := bT18.cell 3 rfl
        have kT4 := bT18.cell 4 rfl
        have kT5 := bT18.cell 5 rfl
        have kT6 := bT18.cell 6 rfl
        have kT7 := bT18.cell 7 rfl
        have kT8 := bT18.cell 8 rfl
        have kT9 := bT18.cell 9 rfl
        have lT := bT18.lt
        have kX0 := bX18.cell 0 rfl
        have kX1 := bX18.cell 1 rfl
        have kX2 := bX18.cell 2 rfl
        have lX := bX18.lt
        have kC0 := bC18.cell 0 rfl
        have kC1 := bC18.cell 1 rfl
        have lC := bC18.lt
        have kS0 := bS18.cell 0 rfl
        have kS1 := bS18.cell 1 rfl
        have lS := bS18.lt
        have kO0 := bO18.cell 0 rfl
        have kO1 := bO18.cell 1 rfl
        have kO2 := bO18.cell 2 rfl
        have kO3 := bO18.cell 3 rfl
        have kO4 := bO18.cell 4 rfl
        have kO5 := bO18.cell 5 rfl
        have kO6 := bO18.cell 6 rfl
        have kO7 := bO18.cell 7 rfl
        have kO8 := bO18.cell 8 rfl
        have kO9 := bO18.cell 9 rfl
        have lO := bO18.lt
        have kU0 := bU18.cell 0 rfl
        have kU1 := bU18.cell 1 rfl
        have lU := bU18.lt
        have kD0 := bD18.cell 0 rfl
        have kD1 := bD18.cell 1 rfl
        have kD2 := bD18.cell 2 rfl
        have kD3 := bD18.cell 3 rfl
        have kD4 := bD18.cell 4 rfl
        have kD5 := bD18.cell 5 rfl
        have kD6 := bD18.cell 6 rfl
        have kD7 := bD18.cell 7 rfl
        have kD8 := bD18.cell 8 rfl
        have kD9 := bD18.cell 9 rfl
        have lD := bD18.lt
        go_wp2_with fail
        clear kT0 kT1 kT2 kT3 kT4 kT5 kT6 kT7 kT8 kT9 lT kX0 kX1 kX2 lX kC0 kC1 lC kS0 kS1 lS kO0 kO1 kO2 kO3 kO4 kO5 kO6 kO7 kO8 kO9 lO kU0 kU1 lU kD0 kD1 kD2 kD3 kD4 kD5 kD6 kD7 kD8 kD9 lD
        refine (HWK.out _).mono ?_
        rintro e w19 ⟨rfl, hb19⟩
        have bT19 := bT18.below hb19
        have bX19 := bX18.below hb19
        have bC19 := bC18.below hb19
        have bS19 := bS18.below hb19
        have bO19 := bO18.below hb19
        have bU19 := bU18.below hb19
        have bD19 := bD18.below hb19
        have hB19 := hB18.trans (hb19.mono hB18.size)
        clear bT18 bX18 bC18 bS18 bO18 bU18 bD18 hB18
        go_wp2_with fail
        go_returns
        exact ⟨rfl, hB19⟩
      ·
        rcases HEC.out with hE0 | hE3
        ·
          subst hE0
          obtain ⟨hEW, hmw, ⟨hsg, hlg⟩, ⟨hss, hls⟩, hgw, hsw⟩ := HFW.out (by first | rfl | trivial) (by first | rfl | trivial)
          subst hEW
          have d1 : M ≤ MW := hmw
          have d2 : decide ((GW.length : Int) ≤ 200) = true := decide_eq_true (by omega)
          have d3 : decide ((SW.length : Int) ≤ 200) = true := decide_eq_true (by omega)
          have HS1 := Lib.hid (HSU.out GT GW hlg hgw hsg)
          have HS2 := Lib.hid (HSU.out ST SW hls hsw hss)
          clear hsg hlg hss hls hmw
          have kT0 := bT18.cell 0 rfl
          have kT1 := bT18.cell 1 rfl
          have kT2 := bT18.cell 2 rfl
          have kT3 := bT18.cell 3 rfl
          have kT4 := bT18.cell 4 rfl
          have kT5 := bT18.cell 5 rfl
          have kT6 := bT18.cell 6 rfl
          have kT7 := bT18.cell 7 rfl
          have kT8 := bT18.cell 8 rfl
          have kT9 := bT18.cell 9 rfl
          have lT := bT18.lt
          have kX0 := bX18.cell 0 rfl
          have kX1 := bX18.cell 1 rfl
          have kX2 := bX18.cell 2 rfl
          have lX := bX18.lt
          have kC0 := bC18.cell 0 rfl
          have kC1 := bC18.cell 1 rfl
          have lC := bC18.lt
          have kS0 := bS18.cell 0 rfl
          have kS1 := bS18.cell 1 rfl
          have lS := bS18.lt
          have kO0 := bO18.cell 0 rfl
          have kO1 := bO18.cell 1 rfl
          have kO2 := bO18.cell 2 rfl
          have kO3 := bO18.cell 3 rfl
          have kO4 := bO18.cell 4 rfl
          have kO5 := bO18.cell 5 rfl
          have kO6 := bO18.cell 6 rfl
          have kO7 := bO18.cell 7 rfl
          have kO8 := bO18.cell 8 rfl
          have kO9 := bO18.cell 9 rfl
          have lO := bO18.lt
          have kU0 := bU18.cell 0 rfl
          have kU1 := bU18.cell 1 rfl
          have lU := bU18.lt
          have kD0 := bD18.cell 0 rfl
          have kD1 := bD18.cell 1 rfl
          have kD2 := bD18.cell 2 rfl
          have kD3 := bD18.cell 3 rfl
          have kD4 := bD18.cell 4 rfl
          have kD5 := bD18.cell 5 rfl
          have kD6 := bD18.cell 6 rfl
          have kD7 := bD18.cell 7 rfl
          have kD8 := bD18.cell 8 rfl
          have kD9 := bD18.cell 9 rfl
          have lD := bD18.lt
          go_wp2_with fail
          clear kT0 kT1 kT2 kT3 kT4 kT5 kT6 kT7 kT8 kT9 lT kX0 kX1 kX2 lX kC0 kC1 lC kS0 kS1 lS kO0 kO1 kO2 kO3 kO4 kO5 kO6 kO7 kO8 kO9 lO kU0 kU1 lU kD0 kD1 kD2 kD3 kD4 kD5 kD6 kD7 kD8 kD9 lD
          refine (HMW.out AW cW _ HTW18.out).mono ?_
          rintro e w19 ⟨rfl, hb19⟩
          have bT19 := bT18.below hb19
          have bX19 := bX18.below hb19
          have bC19 := bC18.below hb19
          have bS19 := bS18.below hb19
          have bO19 := bO18.below hb19
          have bU19 := bU18.below hb19
          have bD19 := bD18.below hb19
          have hB19 := hB18.trans (hb19.mono hB18.size)
          clear bT18 bX18 bC18 bS18 bO18 bU18 bD18 hB18
          have HTW19 := Lib.hid ((HTW18.out.keep hb19).wider hb19.size)
          clear HTW18
          have kT0 := bT19.cell 0 rfl
          have kT1 := bT19.cell 1 rfl
          have kT2 := bT19.cell 2 rfl
          have kT3 := bT19.cell 3 rfl
          have kT4 := bT19.cell 4 rfl
          have kT5 := bT19.cell 5 rfl
          have kT6 := bT19.cell 6 rfl
          have kT7 := bT19.cell 7 rfl
          have kT8 := bT19.cell 8 rfl
          have kT9 := bT19.cell 9 rfl
          have lT := bT19.lt
          have kX0 := bX19.cell 0 rfl
          have kX1 := bX19.cell 1 rfl
          have kX2 := bX19.cell 2 rfl
          have lX := bX19.lt
          have kC0 := bC19.cell 0 rfl
          have kC1 := bC19.cell 1 rfl
          have lC := bC19.lt
          have kS0 := bS19.cell 0 rfl
          have kS1 := bS19.cell 1 rfl
          have lS := bS19.lt
          have kO0 := bO19.cell 0 rfl
          have kO1 := bO19.cell 1 rfl
          have kO2 := bO19.cell 2 rfl
          have kO3 := bO19.cell 3 rfl
          have kO4 := bO19.cell 4 rfl
          have kO5 := bO19.cell 5 rfl
          have kO6 := bO19.cell 6 rfl
          have kO7 := bO19.cell 7 rfl
          have kO8 := bO19.cell 8 rfl
          have kO9 := bO19.cell 9 rfl
          have lO := bO19.lt
          have kU0 := bU19.cell 0 rfl
          have kU1 := bU19.cell 1 rfl
          have lU := bU19.lt
          have kD0 := bD19.cell 0 rfl
          have kD1 := bD19.cell 1 rfl
          have kD2 := bD19.cell 2 rfl
          have kD3 := bD19.cell 3 rfl
          have kD4 := bD19.cell 4 rfl
          have kD5 := bD19.cell 5 rfl
          have kD6 := bD19.cell 6 rfl
          have kD7 := bD19.cell 7 rfl
          have kD8 := bD19.cell 8 rfl
          have kD9 := bD19.cell 9 rfl
          have lD := bD19.lt
          go_wp2_with fail
          clear kT0 kT1 kT2 kT3 kT4 kT5 kT6 kT7 kT8 kT9 lT kX0 kX1 kX2 lX kC0 kC1 lC kS0 kS1 lS kO0 kO1 kO2 kO3 kO4 kO5 kO6 kO7 kO8 kO9 lO kU0 kU1 lU kD0 kD1 kD2 kD3 kD4 kD5 kD6 kD7 kD8 kD9 lD
          refine (HGT.out _ hB19).mono ?_
          rintro e w20 ⟨vA, rfl, hvA, hb20⟩
          have bT20 := bT19.below hb20
          have bX20 := bX19.below hb20
          have bC20 := bC19.below hb20
          have bS20 := bS19.below hb20
          have bO20 := bO19.below hb20
          have bU20 := bU19.below hb20
          have bD20 := bD19.below hb20
          have hB20 := hB19.trans (hb20.mono hB19.size)
          clear bT19 bX19 bC19 bS19 bO19 bU19 bD19 hB19
          have HVA20 := Lib.hid hvA.out
          clear hvA
          obtain ⟨AA, cA, rfl⟩ := ints_form HVA20.out
          have HTW20 := Lib.hid ((HTW19.out.keep hb20).wider hb20.size)
          clear HTW19
          have kT0 := bT20.cell 0 rfl
          have kT1 := bT20.cell 1 rfl
          have kT2 := bT20.cell 2 rfl
          have kT3 := bT20.cell 3 rfl
          have kT4 := bT20.cell 4 rfl
          have kT5 := bT20.cell 5 rfl
          have kT6 := bT20.cell 6 rfl
          have kT7 := bT20.cell 7 rfl
          have kT8 := bT20.cell 8 rfl
          have kT9 := bT20.cell 9 rfl
          have lT := bT20.lt
          have kX0 := bX20.cell 0 rfl
          have kX1 := bX20.cell 1 rfl
          have kX2 := bX20.cell 2 rfl
          have lX := bX20.lt
          have kC0 := bC20.cell 0 rfl
          have kC1 := bC20.cell 1 rfl
          have lC := bC20.lt
          have kS0 := bS20.cell 0 rfl
          have kS1 := bS20.cell 1 rfl
          have lS := bS20.lt
          have kO0 := bO20.cell 0 rfl
          have kO1 := bO20.cell 1 rfl
          have kO2 := bO20.cell 2 rfl
          have kO3 := bO20.cell 3 rfl
          have kO4 := bO20.cell 4 rfl
          have kO5 := bO20.cell 5 rfl
          have kO6 := bO20.cell 6 rfl
          have kO7 := bO20.cell 7 rfl
          have kO8 := bO20.cell 8 rfl
          have kO9 := bO20.cell 9 rfl
          have lO := bO20.lt
          have kU0 := bU20.cell 0 rfl
          have kU1 := bU20.cell 1 rfl
          have lU := bU20.lt
          have kD0 := bD20.cell 0 rfl
          have kD1 := bD20.cell 1 rfl
          have kD2 := bD20.cell 2 rfl
          have kD3 := bD20.cell 3 rfl
          have kD4 := bD20.cell 4 rfl
          have kD5 := bD20.cell 5 rfl
          have kD6 := bD20.cell 6 rfl
          have kD7 := bD20.cell 7 rfl
          have kD8 := bD20.cell 8 rfl
          have kD9 := bD20.cell 9 rfl
          have lD := bD20.lt
          go_wp2_with fail
          clear kT0 kT1 kT2 kT3 kT4 kT5 kT6 kT7 kT8 kT9 lT kX0 kX1 kX2 lX kC0 kC1 lC kS0 kS1 lS kO0 kO1 kO2 kO3 kO4 kO5 kO6 kO7 kO8 kO9 lO kU0 kU1 lU kD0 kD1 kD2 kD3 kD4 kD5 kD6 kD7 kD8 kD9 lD
          refine (HGW.out AW cW _ HTW20.out).mono ?_
          rintro e w21 ⟨vB, rfl, hvB, hb21⟩
          have bT21 := bT20.below hb21
          have bX21 := bX20.below hb21
          have bC21 := bC20.below hb21
          have bS21 := bS20.below hb21
          have bO21 := bO20.below hb21
          have bU21 := bU20.below hb21
          have bD21 := bD20.below hb21
          have hB21 := hB20.trans (hb21.mono hB20.size)
          clear bT20 bX20 bC20 bS20 bO20 bU20 bD20 hB20
          have HVB21 := Lib.hid hvB.out
          clear hvB
          obtain ⟨AB, cB, rfl⟩ := ints_form HVB21.out
          have HTW21 := Lib.hid ((HTW20.out.keep hb21).wider hb21.size)
          clear HTW20
          have HVA21 := Lib.hid ((HVA20.out.keep hb21).more hb21.size)
          clear HVA20
          have kT0 := bT21.cell 0 rfl
          have kT1 := bT21.cell 1 rfl
          have kT2 := bT21.cell 2 rfl
          have kT3 := bT21.cell 3 rfl
          have kT4 := bT21.cell 4 rfl
          have kT5 := bT21.cell 5 rfl
          have kT6 := bT21.cell 6 rfl
          have kT7 := bT21.cell 7 rfl
          have kT8 := bT21.cell 8 rfl
          have kT9 := bT21.cell 9 rfl
          have lT := bT21.lt
          have kX0 := bX21.cell 0 rfl
          have kX1 := bX21.cell 1 rfl
          have kX2 := bX21.cell 2 rfl
          have lX := bX21.lt
          have kC0 := bC21.cell 0 rfl
          have kC1 := bC21.cell 1 rfl
          have lC := bC21.lt
          have kS0 := bS21.cell 0 rfl
          have kS1 := bS21.cell 1 rfl
          have lS := bS21.lt
          have kO0 := bO21.cell 0 rfl
          have kO1 := bO21.cell 1 rfl
          have kO2 := bO21.cell 2 rfl
          have kO3 := bO21.cell 3 rfl
          have kO4 := bO21.cell 4 rfl
          have kO5 := bO21.cell 5 rfl
          have kO6 := bO21.cell 6 rfl
          have kO7 := bO21.cell 7 rfl
          have kO8 := bO21.cell 8 rfl
          have kO9 := bO21.cell 9 rfl
          have lO := bO21.lt
          have kU0 := bU21.cell 0 rfl
          have kU1 := bU21.cell 1 rfl
          have lU := bU21.lt
          have kD0 := bD21.cell 0 rfl
          have kD1 := bD21.cell 1 rfl
          have kD2 := bD21.cell 2 rfl
          have kD3 := bD21.cell 3 rfl
          have kD4 := bD21.cell 4 rfl
          have kD5 := bD21.cell 5 rfl
          have kD6 := bD21.cell 6 rfl
          have kD7 := bD21.cell 7 rfl
          have kD8 := bD21.cell 8 rfl
          have kD9 := bD21.cell 9 rfl
          have lD := bD21.lt
          go_wp2_with fail
          clear kT0 kT1 kT2 kT3 kT4 kT5 kT6 kT7 kT8 kT9 lT kX0 kX1 kX2 lX kC0 kC1 lC kS0 kS1 lS kO0 kO1 kO2 kO3 kO4 kO5 kO6 kO7 kO8 kO9 lO kU0 kU1 lU kD0 kD1 kD2 kD3 kD4 kD5 kD6 kD7 kD8 kD9 lD
          refine (HST.out _ hB21).mono ?_
          rintro e w22 ⟨vP, rfl, hvP, hb22⟩
          have bT22 := bT21.below hb22
          have bX22 := bX21.below hb22
          have bC22 := bC21.below hb22
          have bS22 := bS21.below hb22
          have bO22 := bO21.below hb22
          have bU22 := bU21.below hb22
          have bD22 := bD21.below hb22
          have hB22 := hB21.trans (hb22.mono hB21.size)
          clear bT21 bX21 bC21 bS21 bO21 bU21 bD21 hB21
          have HVP22 := Lib.hid hvP.out
          clear hvP
          obtain ⟨AP, cP, rfl⟩ := ints_form HVP22.out
          have HTW22 := Lib.hid ((HTW21.out.keep hb22).wider hb22.size)
          clear HTW21
          have HVA22 := Lib.hid ((HVA21.out.keep hb22).more hb22.size)
          have HVB22 := Lib.hid ((HVB21.out.keep hb22).more hb22.size)
          clear HVA21 HVB21
          have kT0 := bT22.cell 0 rfl
          have kT1 := bT22.cell 1 rfl
          have kT2 := bT22.cell 2 rfl
          have kT3 := bT22.cell 3 rfl
          have kT4 := bT22.cell 4 rfl
          have kT5 := bT22.cell 5 rfl
          have kT6 := bT22.cell 6 rfl
          have kT7 := bT22.cell 7 rfl
          have kT8 := bT22.cell 8 rfl
          have kT9 := bT22.cell 9 rfl
          have lT := bT22.lt
          have kX0 := bX22.cell 0 rfl
          have kX1 := bX22.cell 1 rfl
          have kX2 := bX22.cell 2 rfl
          have lX := bX22.lt
          have kC0 := bC22.cell 0 rfl
          have kC1 := bC22.cell 1 rfl
          have lC := bC22.lt
          have kS0 := bS22.cell 0 rfl
          have kS1 := bS22.cell 1 rfl
          have lS := bS22.lt
          have kO0 := bO22.cell 0 rfl
          have kO1 := bO22.cell 1 rfl
          have kO2 := bO22.cell 2 rfl
          have kO3 := bO22.cell 3 rfl
          have kO4 := bO22.cell 4 rfl
          have kO5 := bO22.cell 5 rfl
          have kO6 := bO22.cell 6 rfl
          have kO7 := bO22.cell 7 rfl
          have kO8 := bO22.cell 8 rfl
          have kO9 := bO22.cell 9 rfl
          have lO := bO22.lt
          have kU0 := bU22.cell 0 rfl
          have kU1 := bU22.cell 1 rfl
          have lU := bU22.lt
          have kD0 := bD22.cell 0 rfl
          have kD1 := bD22.cell 1 rfl
          have kD2 := bD22.cell 2 rfl
          have kD3 := bD22.cell 3 rfl
          have kD4 := bD22.cell 4 rfl
          have kD5 := bD22.cell 5 rfl
          have kD6 := bD22.cell 6 rfl
          have kD7 := bD22.cell 7 rfl
          have kD8 := bD22.cell 8 rfl
          have kD9 := bD22.cell 9 rfl
          have lD := bD22.lt
          go_wp2_with fail
          clear kT0 kT1 kT2 kT3 kT4 kT5 kT6 kT7 kT8 kT9 lT kX0 kX1 kX2 lX kC0 kC1 lC kS0 kS1 lS kO0 kO1 kO2 kO3 kO4 kO5 kO6 kO7 kO8 kO9 lO kU0 kU1 lU kD0 kD1 kD2 kD3 kD4 kD5 kD6 kD7 kD8 kD9 lD
          refine (HSW.out AW cW _ HTW22.out).mono ?_
          rintro e w23 ⟨vQ, rfl, hvQ, hb23⟩
          have bT23 := bT22.below hb23
          have bX23 := bX22.below hb23
          have bC23 := bC22.below hb23
          have bS23 := bS22.below hb23
          have bO23 := bO22.below hb23
          have bU23 := bU22.below hb23
          have bD23 := bD22.below hb23
          have hB23 := hB22.trans (hb23.mono hB22.size)
          clear bT22 bX22 bC22 bS22 bO22 bU22 bD22 hB22
          have HVQ23 := Lib.hid hvQ.out
          clear hvQ
          obtain ⟨AQ, cQ, rfl⟩ := ints_form HVQ23.out
          have HTW23 := Lib.hid ((HTW22.out.keep hb23).wider hb23.size)
          clear HTW22
          have HVA23 := Lib.hid ((HVA22.out.keep hb23).more hb23.size)
          have HVB23 := Lib.hid ((HVB22.out.keep hb23).more hb23.size)
          have HVP23 := Lib.hid ((HVP22.out.keep hb23).more hb23.size)
          clear HVA22 HVB22 HVP22
          have kT0 := bT23.cell 0 rfl
          have kT1 := bT23.cell 1 rfl
          have kT2 := bT23.cell 2 rfl
          have kT3 := bT23.cell 3 rfl
          have kT4 := bT23.cell 4 rfl
          have kT5 := bT23.cell 5 rfl
          have kT6 := bT23.cell 6 rfl
          have kT7 := bT23.cell 7 rfl
          have kT8 := bT23.cell 8 rfl
          have kT9 := bT23.cell 9 rfl
          have lT := bT23.lt
          have kX0 := bX23.cell 0 rfl
          have kX1 := bX23.cell 1 rfl
          have kX2 := bX23.cell 2 rfl
          have lX := bX23.lt
          have kC0 := bC23.cell 0 rfl
          have kC1 := bC23.cell 1 rfl
          have lC := bC23.lt
          have kS0 := bS23.cell 0 rfl
          have kS1 := bS23.cell 1 rfl
          have lS := bS23.lt
          have kO0 := bO23.cell 0 rfl
          have kO1 := bO23.cell 1 rfl
          have kO2 := bO23.cell 2 rfl
          have kO3 := bO23.cell 3 rfl
          have kO4 := bO23.cell 4 rfl
          have kO5 := bO23.cell 5 rfl
          have kO6 := bO23.cell 6 rfl
          have kO7 := bO23.cell 7 rfl
          have kO8 := bO23.cell 8 rfl
          have kO9 := bO23.cell 9 rfl
          have lO := bO23.lt
          have kU0 := bU23.cell 0 rfl
          have kU1 := bU23.cell 1 rfl
          have lU := bU23.lt
          have kD0 := bD23.cell 0 rfl
          have kD1 := bD23.cell 1 rfl
          have kD2 := bD23.cell 2 rfl
          have kD3 := bD23.cell 3 rfl
          have kD4 := bD23.cell 4 rfl
          have kD5 := bD23.cell 5 rfl
          have kD6 := bD23.cell 6 rfl
          have kD7 := bD23.cell 7 rfl
          have kD8 := bD23.cell 8 rfl
          have kD9 := bD23.cell 9 rfl
          have lD := bD23.lt
          go_wp2_with fail
          clear kT0 kT1 kT2 kT3 kT4 kT5 kT6 kT7 kT8 kT9 lT kX0 kX1 kX2 lX kC0 kC1 lC kS0 kS1 lS kO0 kO1 kO2 kO3 kO4 kO5 kO6 kO7 kO8 kO9 lO kU0 kU1 lU kD0 kD1 kD2 kD3 kD4 kD5 kD6 kD7 kD8 kD9 lD
          refine (HS1.out _ _ _ HVA23.out HVB23.out).mono ?_
          rintro e wq ⟨rfl, hq⟩
          have hq := hq.symm
          subst hq
          have kT0 := bT23.cell 0 rfl
          have kT1 := bT23.cell 1 rfl
          have kT2 := bT23.cell 2 rfl
          have kT3 := bT23.cell 3 rfl
          have kT4 := bT23.cell 4 rfl
          have kT5 := bT23.cell 5 rfl
          have kT6 := bT23.cell 6 rfl
          have kT7 := bT23.cell 7 rfl
          have kT8 := bT23.cell 8 rfl
          have kT9 := bT23.cell 9 rfl
          have lT := bT23.lt
          have kX0 := bX23.cell 0 rfl
          have kX1 := bX23.cell 1 rfl
          have kX2 := bX23.cell 2 rfl
          have lX := bX23.lt
          have kC0 := bC23.cell 0 rfl
          have kC1 := bC23.cell 1 rfl
          have lC := bC23.lt
          have kS0 := bS23.cell 0 rfl
          have kS1 := bS23.cell 1 rfl
          have lS := bS23.lt
          have kO0 := bO23.cell 0 rfl
          have kO1 := bO23.cell 1 rfl
          have kO2 := bO23.cell 2 rfl
          have kO3 := bO23.cell 3 rfl
          have kO4 := bO23.cell 4 rfl
          have kO5 := bO23.cell 5 rfl
          have kO6 := bO23.cell 6 rfl
          have kO7 := bO23.cell 7 rfl
          have kO8 := bO23.cell 8 rfl
          have kO9 := bO23.cell 9 rfl
          have lO := bO23.lt
          have kU0 := bU23.cell 0 rfl
          have kU1 := bU23.cell 1 rfl
          have lU := bU23.lt
          have kD0 := bD23.cell 0 rfl
          have kD1 := bD23.cell 1 rfl
          have kD2 := bD23.cell 2 rfl
          have kD3 := bD23.cell 3 rfl
          have kD4 := bD23.cell 4 rfl
          have kD5 := bD23.cell 5 rfl
          have kD6 := bD23.cell 6 rfl
          have kD7 := bD23.cell 7 rfl
          have kD8 := bD23.cell 8 rfl
          have kD9 := bD23.cell 9 rfl
          have lD := bD23.lt
          go_wp2_with fail
          clear kT0 kT1 kT2 kT3 kT4 kT5 kT6 kT7 kT8 kT9 lT kX0 kX1 kX2 lX kC0 kC1 lC kS0 kS1 lS kO0 kO1 kO2 kO3 kO4 kO5 kO6 kO7 kO8 kO9 lO kU0 kU1 lU kD0 kD1 kD2 kD3 kD4 kD5 kD6 kD7 kD8 kD9 lD
          refine (HS2.out _ _ _ HVP23.out HVQ23.out).mono ?_
          rintro e wq ⟨rfl, hq⟩
          have hq := hq.symm
          subst hq
          have kT0 := bT23.cell 0 rfl
          have kT1 := bT23.cell 1 rfl
          have kT2 := bT23.cell 2 rfl
          have kT3 := bT23.cell 3 rfl
          have kT4 := bT23.cell 4 rfl
          have kT5 := bT23.cell 5 rfl
          have kT6 := bT23.cell 6 rfl
          have kT7 := bT23.cell 7 rfl
          have kT8 := bT23.cell 8 rfl
          have kT9 := bT23.cell 9 rfl
          have lT := bT23.lt
          have kX0 := bX23.cell 0 rfl
          have kX1 := bX23.cell 1 rfl
          have kX2 := bX23.cell 2 rfl
          have lX := bX23.lt
          have kC0 := bC23.cell 0 rfl
          have kC1 := bC23.cell 1 rfl
          have lC := bC23.lt
          have kS0 := bS23.cell 0 rfl
          have kS1 := bS23.cell 1 rfl
          have lS := bS23.lt
          have kO0 := bO23.cell 0 rfl
          have kO1 := bO23.cell 1 rfl
          have kO2 := bO23.cell 2 rfl
          have kO3 := bO23.cell 3 rfl
          have kO4 := bO23.cell 4 rfl
          have kO5 := bO23.cell 5 rfl
          have kO6 := bO23.cell 6 rfl
          have kO7 := bO23.cell 7 rfl
          have kO8 := bO23.cell 8 rfl
          have kO9 := bO23.cell 9 rfl
          have lO := bO23.lt
          have kU0 := bU23.cell 0 rfl
          have kU1 := bU23.cell 1 rfl
          have lU := bU23.lt
          have kD0 := bD23.cell 0 rfl
          have kD1 := bD23.cell 1 rfl
          have kD2 := bD23.cell 2 rfl
          have kD3 := bD23.cell 3 rfl
          have kD4 := bD23.cell 4 rfl
          have kD5 := bD23.cell 5 rfl
          have kD6 := bD23.cell 6 rfl
          have kD7 := bD23.cell 7 rfl
          have kD8 := bD23.cell 8 rfl
          have kD9 := bD23.cell 9 rfl
          have lD := bD23.lt
          go_wp2_with fail
          clear kT0 kT1 kT2 kT3 kT4 kT5 kT6 kT7 kT8 kT9 lT kX0 kX1 kX2 lX kC0 kC1 lC kS0 kS1 lS kO0 kO1 kO2 kO3 kO4 kO5 kO6 kO7 kO8 kO9 lO kU0 kU1 lU kD0 kD1 kD2 kD3 kD4 kD5 kD6 kD7 kD8 kD9 lD
          refine (HWK.out _).mono ?_
          rintro e w24 ⟨rfl, hb24⟩
          have bT24 := bT23.below hb24
          have bX24 := bX23.below hb24
          have bC24 := bC23.below hb24
          have bS24 := bS23.below hb24
          have bO24 := bO23.below hb24
          have bU24 := bU23.below hb24
          have bD24 := bD23.below hb24
          have hB24 := hB23.trans (hb24.mono hB23.size)
          clear bT23 bX23 bC23 bS23 bO23 bU23 bD23 hB23
          go_wp2_with fail
          go_returns
          exact ⟨rfl, hB24⟩
        ·
          subst hE3
          have kT0 := bT18.cell 0 rfl
          have kT1 := bT18.cell 1 rfl
          have kT2 := bT18.cell 2 rfl
          have kT3 := bT18.cell 3 rfl
          have kT4 := bT18.cell 4 rfl
          have kT5 := bT18.cell 5 rfl
          have kT6 := bT18.cell 6 rfl
          have kT7 := bT18.cell 7 rfl
          have kT8 := bT18.cell 8 rfl
          have kT9 := bT18.cell 9 rfl
          have lT := bT18.lt
          have kX0 := bX18.cell 0 rfl
          have kX1 := bX18.cell 1 rfl
          have kX2 := bX18.cell 2 rfl
          have lX := bX18.lt
          have kC0 := bC18.cell 0 rfl
          have kC1 := bC18.cell 1 rfl
          have lC := bC18.lt
          have kS0 := bS18.cell 0 rfl
          have kS1 := bS18.cell 1 rfl
          have lS := bS18.lt
          have kO0 := bO18.cell 0 rfl
          have kO1 := bO18.cell 1 rfl
          have kO2 := bO18.cell 2 rfl
          have kO3 := bO18.cell 3 rfl
          have kO4 := bO18.cell 4 rfl
          have kO5 := bO18.cell 5 rfl
          have kO6 := bO18.cell 6 rfl
          have kO7 := bO18.cell 7 rfl
          have kO8 := bO18.cell 8 rfl
          have kO9 := bO18.cell 9 rfl
          have lO := bO18.lt
          have kU0 := bU18.cell 0 rfl
          have kU1 := bU18.cell 1 rfl
          have lU := bU18.lt
          have kD0 := bD18.cell 0 rfl
          have kD1 := bD18.cell 1 rfl
          have kD2 := bD18.cell 2 rfl
          have kD3 := bD18.cell 3 rfl
          have kD4 := bD18.cell 4 rfl
          have kD5 := bD18.cell 5 rfl
          have kD6 := bD18.cell 6 rfl
          have kD7 := bD18.cell 7 rfl
          have kD8 := bD18.cell 8 rfl
          have kD9 := bD18.cell 9 rfl
          have lD := bD18.lt
          go_wp2_with fail
          clear kT0 kT1 kT2 kT3 kT4 kT5 kT6 kT7 kT8 kT9 lT kX0 kX1 kX2 lX kC0 kC1 lC kS0 kS1 lS kO0 kO1 kO2 kO3 kO4 kO5 kO6 kO7 kO8 kO9 lO kU0 kU1 lU kD0 kD1 kD2 kD3 kD4 kD5 kD6 kD7 kD8 kD9 lD
          refine (HWK.out _).mono ?_
          rintro e w19 ⟨rfl, hb19⟩
          have bT19 := bT18.below hb19
          have bX19 := bX18.below hb19
          have bC19 := bC18.below hb19
          have bS19 := bS18.below hb19
          have bO19 := bO18.below hb19
          have bU19 := bU18.below hb19
          have bD19 := bD18.below hb19
          have hB19 := hB18.trans (hb19.mono hB18.size)
          clear bT18 bX18 bC18 bS18 bO18 bU18 bD18 hB18
          go_wp2_with fail
          go_returns
          exact ⟨rfl, hB19⟩
end Go.Proofs.Ytkmacpkjobdffaa
