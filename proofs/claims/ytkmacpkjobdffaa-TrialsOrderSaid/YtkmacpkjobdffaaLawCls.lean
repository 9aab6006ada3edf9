/- The law TrialsClasses (P9.13): for every trial, class and number the statement's function returns true and changes nothing. -/
import Derived.Test.YtkmacpkjobdffaaTjG
import Derived.Test.YtkmacpkjobdffaaTiM
namespace Go.Proofs.Ytkmacpkjobdffaa
open Go.RowKit
namespace Ti
theorem op_cases {t : Tri} (h : chkV t = 0) (v : Bool) (hv : v = true) : opE t v = 0 ∨ opE t v = 3 := by
  unfold opE
  rw [if_pos h, if_pos hv]
  split <;> simp
theorem low_le_high {t : Tri} {v : Bool} (h : opE t v = 0) (f : Gk → Int) : lowL f (truthsL t) ≤ highL f (truthsL t) := by
  have h2 := (op_ok h).2.2
  cases hs : truthsL t with
  | nil => exact absurd hs h2
  | cons x l =>
    have key : ∀ (l : List GkS) (a b : Int), l.foldl (fun m x => min m (f x.1)) a ≤ a ∧ b ≤ l.foldl (fun m x => max m (f x.1)) b := by
      intro l
      induction l with
      | nil => exact fun a b => ⟨Int.le_refl _, Int.le_refl _⟩
      | cons y l ih =>
        intro a b
        have := ih (min a (f y.1)) (max b (f y.1))
        simp only [List.foldl_cons]
        omega
    have := key l (min 9223372036854775807 (f x.1)) (max (-9223372036854775808) (f x.1))
    unfold lowL highL
    simp only [List.foldl_cons]
    omega
end Ti
set_option maxHeartbeats 1000000 in
theorem isKnown9_any (n : Int) (w : World) : Calls Try.prog 14 #[.int .i64 n] w fun e w' => e = .returned (.bool (decide (n = 0 ∨ n = 3))) ∧ w' = w := by
  by_cases h0 : n = 0
  · subst h0
    go_enter Try.func14, Try.ntmps14
    go_wp2_with fail
    go_returns
    exact ⟨rfl, rfl⟩
  · have h0b : (n == 0) = false := by simpa using h0
    go_enter Try.func14, Try.ntmps14
    go_wp2_with fail
    go_returns
    refine ⟨ret_b ?_, rfl⟩
    rw [Bool.eq_iff_iff]
    simp [h0]
set_option maxRecDepth 100000 in
set_option maxHeartbeats 8000000 in
theorem lawClasses_walk (t : Ti.Tri) (sz mo more : Int) (A : Option Addr) (c : Nat) (w : World) (hl : t.ts.length ≤ 1000000000) (hg : Tsts w w.heap.size A t.ts) :
    Calls Try.prog 4 #[.agg (tiV t A c), .agg #[.int .i64 sz, .int .i64 mo], .int .i64 more] w fun e w' => e = .returned (.bool true) ∧ Below w.heap.size w w' := by
  have HWK : Hid (∀ W, Calls Try.prog 10 #[] W fun e w' => e = .returned (.bool true) ∧ Below W.heap.size W w') := works9_any
  have HRD : Hid (∀ W, Below w.heap.size w W → Calls Try.prog 8 #[.agg (tiV t A c)] W fun e w' => e = .returned (.bool (Ti.readyB t)) ∧ Below W.heap.size W w') := fun W hW => ready9_any t A c W hl ((hg.keep hW).wider hW.size)
  have HIC : Hid (∀ W, Calls Try.prog 9 #[.agg #[.int .i64 sz, .int .i64 mo]] W fun e w' => e = .returned (.bool (Ti.classB sz mo)) ∧ Below W.heap.size W w') := fun W => IsClass9_any sz mo W
  have HIC2 : Hid (∀ W, Calls Try.prog 9 #[.agg #[.int .i64 sz, .int .i64 (mo + more)]] W fun e w' => e = .returned (.bool (Ti.classB sz (mo + more))) ∧ Below W.heap.size W w') := fun W => IsClass9_any sz (mo + more) W
  have HKN : Hid (∀ W, Calls Try.prog 14 #[.int .i64 (Ti.opE t true)] W fun e w' => e = .returned (.bool (decide (Ti.opE t true = 0 ∨ Ti.opE t true = 3))) ∧ w' = W) := fun W => isKnown9_any _ W
  cases hr : Ti.readyB t
  · rw [hr] at HRD
    clear hg hr HIC HIC2 HKN
    obtain ⟨d, gain, ts⟩ := t
    obtain ⟨full, read, slip, skew, circ, glo, ghi, wrn, dws⟩ := d
    unfold tiV at *
    dsimp only at *
    go_enter Try.func4, Try.ntmps4
    go_wp2_with fail
    have bT1 := ((BoxS.new w 28 #[.int .i64 full, .int .i64 read, .int .i64 slip, .int .i64 skew, .int .i64 circ, .int .i64 glo, .int .i64 ghi, .int .i64 wrn, .int .i64 gain, .slice A ts.length c]).alloc (.cells #[.int .i64 sz, .int .i64 mo] 35))
    have bC1 := (BoxS.new (World.alloc w (.cells #[.int .i64 full, .int .i64 read, .int .i64 slip, .int .i64 skew, .int .i64 circ, .int .i64 glo, .int .i64 ghi, .int .i64 wrn, .int .i64 gain, .slice A ts.length c] 28)) 35 #[.int .i64 sz, .int .i64 mo])
    have hB1 : Below w.heap.size w (World.alloc (World.alloc w (.cells #[.int .i64 full, .int .i64 read, .int .i64 slip, .int .i64 skew, .int .i64 circ, .int .i64 glo, .int .i64 ghi, .int .i64 wrn, .int .i64 gain, .slice A ts.length c] 28)) (.cells #[.int .i64 sz, .int .i64 mo] 35)) := by (repeat' (first | (with_reducible exact Below.refl _ _) | (with_reducible assumption) | (with_reducible refine Below.alloc ?_ ?_ _) | (with_reducible refine Below.drew ?_) | (with_reducible refine Below.setCell ?_ ?_ _) | go_size | (exact (by simp)) | omega))
    simp only [World.size_alloc] at bC1
    generalize World.alloc (World.alloc w _) _ = w1 at *
    refine (HRD.out _ hB1).mono ?_
    rintro e w2 ⟨rfl, hb2⟩
    have bT2 := bT1.below hb2
    have bC2 := bC1.below hb2
    have hB2 := hB1.trans (hb2.mono hB1.size)
    clear bT1 bC1 hB1
    have kT0 := bT2.cell 0 rfl
    have kT1 := bT2.cell 1 rfl
    have kT2 := bT2.cell 2 rfl
    have kT3 := bT2.cell 3 rfl
    have kT4 := bT2.cell 4 rfl
    have kT5 := bT2.cell 5 rfl
    have kT6 := bT2.cell 6 rfl
    have kT7 := bT2.cell 7 rfl
    have kT8 := bT2.cell 8 rfl
    have kT9 := bT2.cell 9 rfl
    have lT := bT2.lt
    have kC0 := bC2.cell 0 rfl
    have kC1 := bC2.cell 1 rfl
    have lC := bC2.lt
    go_wp2_with fail
    clear kT0 kT1 kT2 kT3 kT4 kT5 kT6 kT7 kT8 kT9 lT kC0 kC1 lC
    refine (HWK.out _).mono ?_
    rintro e w3 ⟨rfl, hb3⟩
    have bT3 := bT2.below hb3
    have bC3 := bC2.below hb3
    have hB3 := hB2.trans (hb3.mono hB2.size)
    clear bT2 bC2 hB2
    go_wp2_with fail
    go_returns
    exact ⟨rfl, hB3⟩
  rw [hr] at HRD
  have hck : Ti.chkV t = 0 := by unfold Ti.readyB at hr; rw [Bool.and_eq_true, decide_eq_true_eq] at hr; exact hr.2
  cases hcb : Ti.classB sz mo
  · rw [hcb] at HIC
    clear hg hr HIC2 HKN hck hcb
    obtain ⟨d, gain, ts⟩ := t
    obtain ⟨full, read, slip, skew, circ, glo, ghi, wrn, dws⟩ := d
    unfold tiV at *
    dsimp only at *
    go_enter Try.func4, Try.ntmps4
    go_wp2_with fail
    have bT1 := ((BoxS.new w 28 #[.int .i64 full, .int .i64 read, .int .i64 slip, .int .i64 skew, .int .i64 circ, .int .i64 glo, .int .i64 ghi, .int .i64 wrn, .int .i64 gain, .slice A ts.length c]).alloc (.cells #[.int .i64 sz, .int .i64 mo] 35))
    have bC1 := (BoxS.new (World.alloc w (.cells #[.int .i64 full, .int .i64 read, .int .i64 slip, .int .i64 skew, .int .i64 circ, .int .i64 glo, .int .i64 ghi, .int .i64 wrn, .int .i64 gain, .slice A ts.length c] 28)) 35 #[.int .i64 sz, .int .i64 mo])
    have hB1 : Below w.heap.size w (World.alloc (World.alloc w (.cells #[.int .i64 full, .int .i64 read, .int .i64 slip, .int .i64 skew, .int .i64 circ, .int .i64 glo, .int .i64 ghi, .int .i64 wrn, .int .i64 gain, .slice A ts.length c] 28)) (.cells #[.int .i64 sz, .int .i64 mo] 35)) := by (repeat' (first | (with_reducible exact Below.refl _ _) | (with_reducible assumption) | (with_reducible refine Below.alloc ?_ ?_ _) | (with_reducible refine Below.drew ?_) | (with_reducible refine Below.setCell ?_ ?_ _) | go_size | (exact (by simp)) | omega))
    simp only [World.size_alloc] at bC1
    generalize World.alloc (World.alloc w _) _ = w1 at *
    refine (HRD.out _ hB1).mono ?_
    rintro e w2 ⟨rfl, hb2⟩
    have bT2 := bT1.below hb2
    have bC2 := bC1.below hb2
    have hB2 := hB1.trans (hb2.mono hB1.size)
    clear bT1 bC1 hB1
    have kT0 := bT2.cell 0 rfl
    have kT1 := bT2.cell 1 rfl
    have kT2 := bT2.cell 2 rfl
    have kT3 := bT2.cell 3 rfl
    have kT4 := bT2.cell 4 rfl
    have kT5 := bT2.cell 5 rfl
    have kT6 := bT2.cell 6 rfl
    have kT7 := bT2.cell 7 rfl
    have kT8 := bT2.cell 8 rfl
    have kT9 := bT2.cell 9 rfl
    have lT := bT2.lt
    have kC0 := bC2.cell 0 rfl
    have kC1 := bC2.cell 1 rfl
    have lC := bC2.lt
    go_wp2_with fail
    clear kT0 kT1 kT2 kT3 kT4 kT5 kT6 kT7 kT8 kT9 lT kC0 kC1 lC
    refine (HIC.out _).mono ?_
    rintro e w3 ⟨rfl, hb3⟩
    have bT3 := bT2.below hb3
    have bC3 := bC2.below hb3
    have hB3 := hB2.trans (hb3.mono hB2.size)
    clear bT2 bC2 hB2
    have kT0 := bT3.cell 0 rfl
    have kT1 := bT3.cell 1 rfl
    have kT2 := bT3.cell 2 rfl
    have kT3 := bT3.cell 3 rfl
    have kT4 := bT3.cell 4 rfl
    have kT5 := bT3.cell 5 rfl
    have kT6 := bT3.cell 6 rfl
    have kT7 := bT3.cell 7 rfl
    have kT8 := bT3.cell 8 rfl
    have kT9 := bT3.cell 9 rfl
    have lT := bT3.lt
    have kC0 := bC3.cell 0 rfl
    have kC1 := bC3.cell 1 rfl
    have lC := bC3.lt
    go_wp2_with fail
    clear kT0 kT1 kT2 kT3 kT4 kT5 kT6 kT7 kT8 kT9 lT kC0 kC1 lC
    refine (HWK.out _).mono ?_
    rintro e w4 ⟨rfl, hb4⟩
    have bT4 := bT3.below hb4
    have bC4 := bC3.below hb4
    have hB4 := hB3.trans (hb4.mono hB3.size)
    clear bT3 bC3 hB3
    go_wp2_with fail
    go_returns
    exact ⟨rfl, hB4⟩
  rw [hcb] at HIC
  have hcc := hcb
  unfold Ti.classB at hcc
  rw [Bool.and_eq_true, inB_true, inB_true] at hcc
  obtain ⟨⟨z1, z2⟩, m1, m2⟩ := hcc
  have hza : inB sz 0 9000 = true := inB_true.2 ⟨z1, z2⟩
  have HER : Hid (∀ W, Below w.heap.size w W → Calls Try.prog 12 #[.agg (tiV t A c), .int .i64 sz] W (SpanPost (Ti.lowE (fun x => Ti.errV x sz) (Ti.opE t true) t) (Ti.highE (fun x => Ti.errV x sz) (Ti.opE t true) t) (Ti.opE t true) W)) := fun W hW => by
    have := Errs_any t sz A c W hl ((hg.keep hW).wider hW.size)
    rwa [hza] at this
  have HCE : Hid (∀ W, Below w.heap.size w W → Calls Try.prog 13 #[.agg (tiV t A c), .agg #[.int .i64 sz, .int .i64 mo]] W (TwoPost (Ti.certV t sz mo (Ti.opE t true)) (Ti.opE t true) W)) := fun W hW => by
    have := Certify_any t sz mo A c W hl ((hg.keep hW).wider hW.size)
    rwa [hcb] at this
  have HCE2 : Hid (Ti.classB sz (mo + more) = true → ∀ W, Below w.heap.size w W → Calls Try.prog 13 #[.agg (tiV t A c), .agg #[.int .i64 sz, .int .i64 (mo + more)]] W (TwoPost (Ti.certV t sz (mo + more) (Ti.opE t true)) (Ti.opE t true) W)) := fun hb W hW => by
    have := Certify_any t sz (mo + more) A c W hl ((hg.keep hW).wider hW.size)
    rwa [hb] at this
  have HOC := Ti.op_cases hck true rfl
  have HLH : Ti.opE t true = 0 → Ti.lowE (fun x => Ti.errV x sz) (Ti.opE t true) t ≤ Ti.highE (fun x => Ti.errV x sz) (Ti.opE t true) t := fun h0 => by
    unfold Ti.lowE Ti.highE
    rw [if_pos h0, if_pos h0]
    exact Ti.low_le_high h0 _
  have HN : ∀ m, Ti.opE t true = 0 → Ti.certV t sz m (Ti.opE t true) = Ti.cerV (Ti.lowE (fun x => Ti.errV x sz) (Ti.opE t true) t) (Ti.highE (fun x => Ti.errV x sz) (Ti.opE t true) t) m := fun m h0 => by
    unfold Ti.certV Ti.lowE Ti.highE
    rw [if_pos h0, if_pos h0, if_pos h0]
  unfold SpanPost at HER
  unfold TwoPost at HCE HCE2
  generalize Ti.lowE (fun x => Ti.errV x sz) (Ti.opE t true) t = LO at *
  generalize Ti.highE (fun x => Ti.errV x sz) (Ti.opE t true) t = HI at *
  generalize Ti.certV t sz = CV at *
  generalize Ti.opE t true = E at *
  generalize Ti.classB sz (mo + more) = C2 at *
  clear hg hr hcb hck hza z1 z2
  obtain ⟨d, gain, ts⟩ := t
  obtain ⟨full, read, slip, skew, circ, glo, ghi, wrn, dws⟩ := d
  unfold tiV at *
  dsimp only at *
  by_cases hm : more < 0 ∨ 9999 < more
  · clear HOC HLH HN HER HCE HCE2 HIC2 HKN
    rcases hm with hm | hm
    · have hm1 : decide (more < 0) = true := decide_eq_true hm
      go_enter Try.func4, Try.ntmps4
      go_wp2_with fail
      have bT1 := ((BoxS.new w 28 #[.int .i64 full, .int .i64 read, .int .i64 slip, .int .i64 skew, .int .i64 circ, .int .i64 glo, .int .i64 ghi, .int .i64 wrn, .int .i64 gain, .slice A ts.length c]).alloc (.cells #[.int .i64 sz, .int .i64 mo] 35))
      have bC1 := (BoxS.new (World.alloc w (.cells #[.int .i64 full, .int .i64 read, .int .i64 slip, .int .i64 skew, .int .i64 circ, .int .i64 glo, .int .i64 ghi, .int .i64 wrn, .int .i64 gain, .slice A ts.length c] 28)) 35 #[.int .i64 sz, .int .i64 mo])
      have hB1 : Below w.heap.size w (World.alloc (World.alloc w (.cells #[.int .i64 full, .int .i64 read, .int .i64 slip, .int .i64 skew, .int .i64 circ, .int .i64 glo, .int .i64 ghi, .int .i64 wrn, .int .i64 gain, .slice A ts.length c] 28)) (.cells #[.int .i64 sz, .int .i64 mo] 35)) := by (repeat' (first | (with_reducible exact Below.refl _ _) | (with_reducible assumption) | (with_reducible refine Below.alloc ?_ ?_ _) | (with_reducible refine Below.drew ?_) | (with_reducible refine Below.setCell ?_ ?_ _) | go_size | (exact (by simp)) | omega))
      simp only [World.size_alloc] at bC1
      generalize World.alloc (World.alloc w _) _ = w1 at *
      refine (HRD.out _ hB1).mono ?_
      rintro e w2 ⟨rfl, hb2⟩
      have bT2 := bT1.below hb2
      have bC2 := bC1.below hb2
      have hB2 := hB1.trans (hb2.mono hB1.size)
      clear bT1 bC1 hB1
      have kT0 := bT2.cell 0 rfl
      have kT1 := bT2.cell 1 rfl
      have kT2 := bT2.cell 2 rfl
      have kT3 := bT2.cell 3 rfl
      have kT4 := bT2.cell 4 rfl
      have kT5 := bT2.cell 5 rfl
      have kT6 := bT2.cell 6 rfl
      have kT7 := bT2.cell 7 rfl
      have kT8 := bT2.cell 8 rfl
      have kT9 := bT2.cell 9 rfl
      have lT := bT2.lt
      have kC0 := bC2.cell 0 rfl
      have kC1 := bC2.cell 1 rfl
      have lC := bC2.lt
      go_wp2_with fail
      clear kT0 kT1 kT2 kT3 kT4 kT5 kT6 kT7 kT8 kT9 lT kC0 kC1 lC
      refine (HIC.out _).mono ?_
      rintro e w3 ⟨rfl, hb3⟩
      have bT3 := bT2.below hb3
      have bC3 := bC2.below hb3
      have hB3 := hB2.trans (hb3.mono hB2.size)
      clear bT2 bC2 hB2
      have kT0 := bT3.cell 0 rfl
      have kT1 := bT3.cell 1 rfl
      have kT2 := bT3.cell 2 rfl
      have kT3 := bT3.cell 3 rfl
      have kT4 := bT3.cell 4 rfl
      have kT5 := bT3.cell 5 rfl
      have kT6 := bT3.cell 6 rfl
      have kT7 := bT3.cell 7 rfl
      have kT8 := bT3.cell 8 rfl
      have kT9 := bT3.cell 9 rfl
      have lT := bT3.lt
      have kC0 := bC3.cell 0 rfl
      have kC1 := bC3.cell 1 rfl
      have lC := bC3.lt
      go_wp2_with fail
      clear kT0 kT1 kT2 kT3 kT4 kT5 kT6 kT7 kT8 kT9 lT kC0 kC1 lC
      refine (HWK.out _).mono ?_
      rintro e w4 ⟨rfl, hb4⟩
      have bT4 := bT3.below hb4
      have bC4 := bC3.below hb4
      have hB4 := hB3.trans (hb4.mono hB3.size)
      clear bT3 bC3 hB3
      go_wp2_with fail
      go_returns
      exact ⟨rfl, hB4⟩
    · have hm1 : decide (more < 0) = false := decide_eq_false (by omega)
      have hm2 : decide (9999 < more) = true := decide_eq_true hm
      go_enter Try.func4, Try.ntmps4
      go_wp2_with fail
      have bT1 := ((BoxS.new w 28 #[.int .i64 full, .int .i64 read, .int .i64 slip, .int .i64 skew, .int .i64 circ, .int .i64 glo, .int .i64 ghi, .int .i64 wrn, .int .i64 gain, .slice A ts.length c]).alloc (.cells #[.int .i64 sz, .int .i64 mo] 35))
      have bC1 := (BoxS.new (World.alloc w (.cells #[.int .i64 full, .int .i64 read, .int .i64 slip, .int .i64 skew, .int .i64 circ, .int .i64 glo, .int .i64 ghi, .int .i64 wrn, .int .i64 gain, .slice A ts.length c] 28)) 35 #[.int .i64 sz, .int .i64 mo])
      have hB1 : Below w.heap.size w (World.alloc (World.alloc w (.cells #[.int .i64 full, .int .i64 read, .int .i64 slip, .int .i64 skew, .int .i64 circ, .int .i64 glo, .int .i64 ghi, .int .i64 wrn, .int .i64 gain, .slice A ts.length c] 28)) (.cells #[.int .i64 sz, .int .i64 mo] 35)) := by (repeat' (first | (with_reducible exact Below.refl _ _) | (with_reducible assumption) | (with_reducible refine Below.alloc ?_ ?_ _) | (with_reducible refine Below.drew ?_) | (with_reducible refine Below.setCell ?_ ?_ _) | go_size | (exact (by simp)) | omega))
      simp only [World.size_alloc] at bC1
      generalize World.alloc (World.alloc w _) _ = w1 at *
      refine (HRD.out _ hB1).mono ?_
      rintro e w2 ⟨rfl, hb2⟩
      have bT2 := bT1.below hb2
      have bC2 := bC1.below hb2
      have hB2 := hB1.trans (hb2.mono hB1.size)
      clear bT1 bC1 hB1
      have kT0 := bT2.cell 0 rfl
      have kT1 := bT2.cell 1 rfl
      have kT2 := bT2.cell 2 rfl
      have kT3 := bT2.cell 3 rfl
      have kT4 := bT2.cell 4 rfl
      have kT5 := bT2.cell 5 rfl
      have kT6 := bT2.cell 6 rfl
      have kT7 := bT2.cell 7 rfl
      have kT8 := bT2.cell 8 rfl
      have kT9 := bT2.cell 9 rfl
      have lT := bT2.lt
      have kC0 := bC2.cell 0 rfl
      have kC1 := bC2.cell 1 rfl
      have lC := bC2.lt
      go_wp2_with fail
      clear kT0 kT1 kT2 kT3 kT4 kT5 kT6 kT7 kT8 kT9 lT kC0 kC1 lC
      refine (HIC.out _).mono ?_
      rintro e w3 ⟨rfl, hb3⟩
      have bT3 := bT2.below hb3
      have bC3 := bC2.below hb3
      have hB3 := hB2.trans (hb3.mono hB2.size)
      clear bT2 bC2 hB2
      have kT0 := bT3.cell 0 rfl
      have kT1 := bT3.cell 1 rfl
      have kT2 := bT3.cell 2 rfl
      have kT3 := bT3.cell 3 rfl
      have kT4 := bT3.cell 4 rfl
      have kT5 := bT3.cell 5 rfl
      have kT6 := bT3.cell 6 rfl
      have kT7 := bT3.cell 7 rfl
      have kT8 := bT3.cell 8 rfl
      have kT9 := bT3.cell 9 rfl
      have lT := bT3.lt
      have kC0 := bC3.cell 0 rfl
      have kC1 := bC3.cell 1 rfl
      have lC := bC3.lt
      go_wp2_with fail
      clear kT0 kT1 kT2 kT3 kT4 kT5 kT6 kT7 kT8 kT9 lT kC0 kC1 lC
      refine (HWK.out _).mono ?_
      rintro e w4 ⟨rfl, hb4⟩
      have bT4 := bT3.below hb4
      have bC4 := bC3.below hb4
      have hB4 := hB3.trans (hb4.mono hB3.size)
      clear bT3 bC3 hB3
      go_wp2_with fail
      go_returns
      exact ⟨rfl, hB4⟩
  have hm1 : decide (more < 0) = false := decide_eq_false (by omega)
  have hm2 : decide (9999 < more) = false := decide_eq_false (by omega)
  rcases HOC with hE | hE
  · rw [hE] at HKN
    rw [decide_eq_true (show (0 : Int) = 0 ∨ (0 : Int) = 3 from .inl rfl)] at HKN
    have hLH := HLH hE
    have hN0 := HN mo hE
    have hN1 := HN (mo + more) hE
    have hw1 : IntKind.i64.wrap (mo + more) = mo + more := IntWalk.i64_in _ (by omega)
    subst hE
    clear HLH HN
    unfold Ti.cerV at hN0 hN1
    by_cases h1 : HI ≤ mo
    · skip
      rw [if_pos h1] at hN0
      rw [hN0] at HCE
      have f1 : decide (HI ≤ mo) = true := decide_eq_true h1
      have f2 : decide (mo < LO) = false := decide_eq_false (by omega)
      cases hc2 : C2
      · rw [hc2] at HIC2
        clear HCE2 hN1 hN0 hc2
        go_enter Try.func4, Try.ntmps4
        go_wp2_with fail
        have bT1 := ((BoxS.new w 28 #[.int .i64 full, .int .i64 read, .int .i64 slip, .int .i64 skew, .int .i64 circ, .int .i64 glo, .int .i64 ghi, .int .i64 wrn, .int .i64 gain, .slice A ts.length c]).alloc (.cells #[.int .i64 sz, .int .i64 mo] 35))
        have bC1 := (BoxS.new (World.alloc w (.cells #[.int .i64 full, .int .i64 read, .int .i64 slip, .int .i64 skew, .int .i64 circ, .int .i64 glo, .int .i64 ghi, .int .i64 wrn, .int .i64 gain, .slice A ts.length c] 28)) 35 #[.int .i64 sz, .int .i64 mo])
        have hB1 : Below w.heap.size w (World.alloc (World.alloc w (.cells #[.int .i64 full, .int .i64 read, .int .i64 slip, .int .i64 skew, .int .i64 circ, .int .i64 glo, .int .i64 ghi, .int .i64 wrn, .int .i64 gain, .slice A ts.length c] 28)) (.cells #[.int .i64 sz, .int .i64 mo] 35)) := by (repeat' (first | (with_reducible exact Below.refl _ _) | (with_reducible assumption) | (with_reducible refine Below.alloc ?_ ?_ _) | (with_reducible refine Below.drew ?_) | (with_reducible refine Below.setCell ?_ ?_ _) | go_size | (exact (by simp)) | omega))
        simp only [World.size_alloc] at bC1
        generalize World.alloc (World.alloc w _) _ = w1 at *
        refine (HRD.out _ hB1).mono ?_
        rintro e w2 ⟨rfl, hb2⟩
        have bT2 := bT1.below hb2
        have bC2 := bC1.below hb2
        have hB2 := hB1.trans (hb2.mono hB1.size)
        clear bT1 bC1 hB1
        have kT0 := bT2.cell 0 rfl
        have kT1 := bT2.cell 1 rfl
        have kT2 := bT2.cell 2 rfl
        have kT3 := bT2.cell 3 rfl
        have kT4 := bT2.cell 4 rfl
        have kT5 := bT2.cell 5 rfl
        have kT6 := bT2.cell 6 rfl
        have kT7 := bT2.cell 7 rfl
        have kT8 := bT2.cell 8 rfl
        have kT9 := bT2.cell 9 rfl
        have lT := bT2.lt
        have kC0 := bC2.cell 0 rfl
        have kC1 := bC2.cell 1 rfl
        have lC := bC2.lt
        go_wp2_with fail
        clear kT0 kT1 kT2 kT3 kT4 kT5 kT6 kT7 kT8 kT9 lT kC0 kC1 lC
        refine (HIC.out _).mono ?_
        rintro e w3 ⟨rfl, hb3⟩
        have bT3 := bT2.below hb3
        have bC3 := bC2.below hb3
        have hB3 := hB2.trans (hb3.mono hB2.size)
        clear bT2 bC2 hB2
        have kT0 := bT3.cell 0 rfl
        have kT1 := bT3.cell 1 rfl
        have kT2 := bT3.cell 2 rfl
        have kT3 := bT3.cell 3 rfl
        have kT4 := bT3.cell 4 rfl
        have kT5 := bT3.cell 5 rfl
        have kT6 := bT3.cell 6 rfl
        have kT7 := bT3.cell 7 rfl
        have kT8 := bT3.cell 8 rfl
        have kT9 := bT3.cell 9 rfl
        have lT := bT3.lt
        have kC0 := bC3.cell 0 rfl
        have kC1 := bC3.cell 1 rfl
        have lC := bC3.lt
        go_wp2_with fail
        clear kT0 kT1 kT2 kT3 kT4 kT5 kT6 kT7 kT8 kT9 lT kC0 kC1 lC
        refine (HER.out _ hB3).mono ?_
        rintro e w4 ⟨rfl, hb4⟩
        have bT4 := bT3.below hb4
        have bC4 := bC3.below hb4
        have hB4 := hB3.trans (hb4.mono hB3.size)
        clear bT3 bC3 hB3
        have kT0 := bT4.cell 0 rfl
        have kT1 := bT4.cell 1 rfl
        have kT2 := bT4.cell 2 rfl
        have kT3 := bT4.cell 3 rfl
        have kT4 := bT4.cell 4 rfl
        have kT5 := bT4.cell 5 rfl
        have kT6 := bT4.cell 6 rfl
        have kT7 := bT4.cell 7 rfl
        have kT8 := bT4.cell 8 rfl
        have kT9 := bT4.cell 9 rfl
        have lT := bT4.lt
        have kC0 := bC4.cell 0 rfl
        have kC1 := bC4.cell 1 rfl
        have lC := bC4.lt
        go_wp2_with fail
        clear kT0 kT1 kT2 kT3 kT4 kT5 kT6 kT7 kT8 kT9 lT kC0 kC1 lC
        have bT5 := (bT4.alloc (.cells #[.int .i64 LO, .int .i64 HI] 23))
        have bC5 := (bC4.alloc (.cells #[.int .i64 LO, .int .i64 HI] 23))
        have bS5 := (BoxS.new w4 23 #[.int .i64 LO, .int .i64 HI])
        have hB5 : Below w.heap.size w (World.alloc w4 (.cells #[.int .i64 LO, .int .i64 HI] 23)) := (hB4.alloc hB4.size _)
        obtain ⟨BS, hBS⟩ : ∃ B, B = w4.heap.size := ⟨_, rfl⟩
        clear bT4 bC4 hB4
        generalize World.alloc w4 _ = w5 at *
        rw [← hBS]
        rw [← hBS] at bS5
        clear hBS
        refine (HCE.out _ hB5).mono ?_
        rintro e w6 ⟨rfl, hb6⟩
        have bT6 := bT5.below hb6
        have bC6 := bC5.below hb6
        have bS6 := bS5.below hb6
        have hB6 := hB5.trans (hb6.mono hB5.size)
        clear bT5 bC5 bS5 hB5
        have kT0 := bT6.cell 0 rfl
        have kT1 := bT6.cell 1 rfl
        have kT2 := bT6.cell 2 rfl
        have kT3 := bT6.cell 3 rfl
        have kT4 := bT6.cell 4 rfl
        have kT5 := bT6.cell 5 rfl
        have kT6 := bT6.cell 6 rfl
        have kT7 := bT6.cell 7 rfl
        have kT8 := bT6.cell 8 rfl
        have kT9 := bT6.cell 9 rfl
        have lT := bT6.lt
        have kC0 := bC6.cell 0 rfl
        have kC1 := bC6.cell 1 rfl
        have lC := bC6.lt
        have kS0 := bS6.cell 0 rfl
        have kS1 := bS6.cell 1 rfl
        have lS := bS6.lt
        go_wp2_with fail
        clear kT0 kT1 kT2 kT3 kT4 kT5 kT6 kT7 kT8 kT9 lT kC0 kC1 lC kS0 kS1 lS
        refine (HKN.out _).mono ?_
        rintro e wq ⟨rfl, hq⟩
        have hq := hq.symm
        subst hq
        have kT0 := bT6.cell 0 rfl
        have kT1 := bT6.cell 1 rfl
        have kT2 := bT6.cell 2 rfl
        have kT3 := bT6.cell 3 rfl
        have kT4 := bT6.cell 4 rfl
        have kT5 := bT6.cell 5 rfl
        have kT6 := bT6.cell 6 rfl
        have kT7 := bT6.cell 7 rfl
        have kT8 := bT6.cell 8 rfl
        have kT9 := bT6.cell 9 rfl
        have lT := bT6.lt
        have kC0 := bC6.cell 0 rfl
        have kC1 := bC6.cell 1 rfl
        have lC := bC6.lt
        have kS0 := bS6.cell 0 rfl
        have kS1 := bS6.cell 1 rfl
        have lS := bS6.lt
        go_wp2_with fail
        clear kT0 kT1 kT2 kT3 kT4 kT5 kT6 kT7 kT8 kT9 lT kC0 kC1 lC kS0 kS1 lS
        have bT7 := (bT6.alloc (.cells #[.int .i64 sz, .int .i64 (mo + more)] 35))
        have bC7 := (bC6.alloc (.cells #[.int .i64 sz, .int .i64 (mo + more)] 35))
        have bS7 := (bS6.alloc (.cells #[.int .i64 sz, .int .i64 (mo + more)] 35))
        have bD7 := (BoxS.new w6 35 #[.int .i64 sz, .int .i64 (mo + more)])
        have hB7 : Below w.heap.size w (World.alloc w6 (.cells #[.int .i64 sz, .int .i64 (mo + more)] 35)) := (hB6.alloc hB6.size _)
        obtain ⟨BD, hBD⟩ : ∃ B, B = w6.heap.size := ⟨_, rfl⟩
        clear bT6 bC6 bS6 hB6
        generalize World.alloc w6 _ = w7 at *
        rw [← hBD]
        rw [← hBD] at bD7
        clear hBD
        refine (HIC2.out _).mono ?_
        rintro e w8 ⟨rfl, hb8⟩
        have bT8 := bT7.below hb8
        have bC8 := bC7.below hb8
        have bS8 := bS7.below hb8
        have bD8 := bD7.below hb8
        have hB8 := hB7.trans (hb8.mono hB7.size)
        clear bT7 bC7 bS7 bD7 hB7
        have kT0 := bT8.cell 0 rfl
        have kT1 := bT8.cell 1 rfl
        have kT2 := bT8.cell 2 rfl
        have kT3 := bT8.cell 3 rfl
        have kT4 := bT8.cell 4 rfl
        have kT5 := bT8.cell 5 rfl
        have kT6 := bT8.cell 6 rfl
        have kT7 := bT8.cell 7 rfl
        have kT8 := bT8.cell 8 rfl
        have kT9 := bT8.cell 9 rfl
        have lT := bT8.lt
        have kC0 := bC8.cell 0 rfl
        have kC1 := bC8.cell 1 rfl
        have lC := bC8.lt
        have kS0 := bS8.cell 0 rfl
        have kS1 := bS8.cell 1 rfl
        have lS := bS8.lt
        have kD0 := bD8.cell 0 rfl
        have kD1 := bD8.cell 1 rfl
        have lD := bD8.lt
        go_wp2_with fail
        clear kT0 kT1 kT2 kT3 kT4 kT5 kT6 kT7 kT8 kT9 lT kC0 kC1 lC kS0 kS1 lS kD0 kD1 lD
        refine (HWK.out _).mono ?_
        rintro e w9 ⟨rfl, hb9⟩
        have bT9 := bT8.below hb9
        have bC9 := bC8.below hb9
        have bS9 := bS8.below hb9
        have bD9 := bD8.below hb9
        have hB9 := hB8.trans (hb9.mono hB8.size)
        clear bT8 bC8 bS8 bD8 hB8
        go_wp2_with fail
        go_returns
        exact ⟨rfl, hB9⟩
      · rw [hc2] at HIC2
        replace HCE2 := Lib.hid (HCE2.out hc2)
        clear hc2
        rw [if_pos (by omega)] at hN1
        rw [hN1] at HCE2
        clear hN0 hN1
        go_enter Try.func4, Try.ntmps4
        go_wp2_with fail
        have bT1 := ((BoxS.new w 28 #[.int .i64 full, .int .i64 read, .int .i64 slip, .int .i64 skew, .int .i64 circ, .int .i64 glo, .int .i64 ghi, .int .i64 wrn, .int .i64 gain, .slice A ts.length c]).alloc (.cells #[.int .i64 sz, .int .i64 mo] 35))
        have bC1 := (BoxS.new (World.alloc w (.cells #[.int .i64 full, .int .i64 read, .int .i64 slip, .int .i64 skew, .int .i64 circ, .int .i64 glo, .int .i64 ghi, .int .i64 wrn, .int .i64 gain, .slice A ts.length c] 28)) 35 #[.int .i64 sz, .int .i64 mo])
        have hB1 : Below w.heap.size w (World.alloc (World.alloc w (.cells #[.int .i64 full, .int .i64 read, .int .i64 slip, .int .i64 skew, .int .i64 circ, .int .i64 glo, .int .i64 ghi, .int .i64 wrn, .int .i64 gain, .slice A ts.length c] 28)) (.cells #[.int .i64 sz, .int .i64 mo] 35)) := by (repeat' (first | (with_reducible exact Below.refl _ _) | (with_reducible assumption) | (with_reducible refine Below.alloc ?_ ?_ _) | (with_reducible refine Below.drew ?_) | (with_reducible refine Below.setCell ?_ ?_ _) | go_size | (exact (by simp)) | omega))
        simp only [World.size_alloc] at bC1
        generalize World.alloc (World.alloc w _) _ = w1 at *
        refine (HRD.out _ hB1).mono ?_
        rintro e w2 ⟨rfl, hb2⟩
        have bT2 := bT1.below hb2
        have bC2 := bC1.below hb2
        have hB2 := hB1.trans (hb2.mono hB1.size)
        clear bT1 bC1 hB1
        have kT0 := bT2.cell 0 rfl
        have kT1 := bT2.cell 1 rfl
        have kT2 := bT2.cell 2 rfl
        have kT3 := bT2.cell 3 rfl
        have kT4 := bT2.cell 4 rfl
        have kT5 := bT2.cell 5 rfl
        have kT6 := bT2.cell 6 rfl
        have kT7 := bT2.cell 7 rfl
        have kT8 := bT2.cell 8 rfl
        have kT9 := bT2.cell 9 rfl
        have lT := bT2.lt
        have kC0 := bC2.cell 0 rfl
        have kC1 := bC2.cell 1 rfl
        have lC := bC2.lt
        go_wp2_with fail
        clear kT0 kT1 kT2 kT3 kT4 kT5 kT6 kT7 kT8 kT9 lT kC0 kC1 lC
        refine (HIC.out _).mono ?_
        rintro e w3 ⟨rfl, hb3⟩
        have bT3 := bT2.below hb3
        have bC3 := bC2.below hb3
        have hB3 := hB2.trans (hb3.mono hB2.size)
        clear bT2 bC2 hB2
        have kT0 := bT3.cell 0 rfl
        have kT1 := bT3.cell 1 rfl
        have kT2 := bT3.cell 2 rfl
        have kT3 := bT3.cell 3 rfl
        have kT4 := bT3.cell 4 rfl
        have kT5 := bT3.cell 5 rfl
        have kT6 := bT3.cell 6 rfl
        have kT7 := bT3.cell 7 rfl
        have kT8 := bT3.cell 8 rfl
        have kT9 := bT3.cell 9 rfl
        have lT := bT3.lt
        have kC0 := bC3.cell 0 rfl
        have kC1 := bC3.cell 1 rfl
        have lC := bC3.lt
        go_wp2_with fail
        clear kT0 kT1 kT2 kT3 kT4 kT5 kT6 kT7 kT8 kT9 lT kC0 kC1 lC
        refine (HER.out _ hB3).mono ?_
        rintro e w4 ⟨rfl, hb4⟩
        have bT4 := bT3.below hb4
        have bC4 := bC3.below hb4
        have hB4 := hB3.trans (hb4.mono hB3.size)
        clear bT3 bC3 hB3
        have kT0 := bT4.cell 0 rfl
        have kT1 := bT4.cell 1 rfl
        have kT2 := bT4.cell 2 rfl
        have kT3 := bT4.cell 3 rfl
        have kT4 := bT4.cell 4 rfl
        have kT5 := bT4.cell 5 rfl
        have kT6 := bT4.cell 6 rfl
        have kT7 := bT4.cell 7 rfl
        have kT8 := bT4.cell 8 rfl
        have kT9 := bT4.cell 9 rfl
        have lT := bT4.lt
        have kC0 := bC4.cell 0 rfl
        have kC1 := bC4.cell 1 rfl
        have lC := bC4.lt
        go_wp2_with fail
        clear kT0 kT1 kT2 kT3 kT4 kT5 kT6 kT7 kT8 kT9 lT kC0 kC1 lC
        have bT5 := (bT4.alloc (.cells #[.int .i64 LO, .int .i64 HI] 23))
        have bC5 := (bC4.alloc (.cells #[.int .i64 LO, .int .i64 HI] 23))
        have bS5 := (BoxS.new w4 23 #[.int .i64 LO, .int .i64 HI])
        have hB5 : Below w.heap.size w (World.alloc w4 (.cells #[.int .i64 LO, .int .i64 HI] 23)) := (hB4.alloc hB4.size _)
        obtain ⟨BS, hBS⟩ : ∃ B, B = w4.heap.size := ⟨_, rfl⟩
        clear bT4 bC4 hB4
        generalize World.alloc w4 _ = w5 at *
        rw [← hBS]
        rw [← hBS] at bS5
        clear hBS
        refine (HCE.out _ hB5).mono ?_
        rintro e w6 ⟨rfl, hb6⟩
        have bT6 := bT5.below hb6
        have bC6 := bC5.below hb6
        have bS6 := bS5.below hb6
        have hB6 := hB5.trans (hb6.mono hB5.size)
        clear bT5 bC5 bS5 hB5
        have kT0 := bT6.cell 0 rfl
        have kT1 := bT6.cell 1 rfl
        have kT2 := bT6.cell 2 rfl
        have kT3 := bT6.cell 3 rfl
        have kT4 := bT6.cell 4 rfl
        have kT5 := bT6.cell 5 rfl
        have kT6 := bT6.cell 6 rfl
        have kT7 := bT6.cell 7 rfl
        have kT8 := bT6.cell 8 rfl
        have kT9 := bT6.cell 9 rfl
        have lT := bT6.lt
        have kC0 := bC6.cell 0 rfl
        have kC1 := bC6.cell 1 rfl
        have lC := bC6.lt
        have kS0 := bS6.cell 0 rfl
        have kS1 := bS6.cell 1 rfl
        have lS := bS6.lt
        go_wp2_with fail
        clear kT0 kT1 kT2 kT3 kT4 kT5 kT6 kT7 kT8 kT9 lT kC0 kC1 lC kS0 kS1 lS
        refine (HKN.out _).mono ?_
        rintro e wq ⟨rfl, hq⟩
        have hq := hq.symm
        subst hq
        have kT0 := bT6.cell 0 rfl
        have kT1 := bT6.cell 1 rfl
        have kT2 := bT6.cell 2 rfl
        have kT3 := bT6.cell 3 rfl
        have kT4 := bT6.cell 4 rfl
        have kT5 := bT6.cell 5 rfl
        have kT6 := bT6.cell 6 rfl
        have kT7 := bT6.cell 7 rfl
        have kT8 := bT6.cell 8 rfl
        have kT9 := bT6.cell 9 rfl
        have lT := bT6.lt
        have kC0 := bC6.cell 0 rfl
        have kC1 := bC6.cell 1 rfl
        have lC := bC6.lt
        have kS0 := bS6.cell 0 rfl
        have kS1 := bS6.cell 1 rfl
        have lS := bS6.lt
        go_wp2_with fail
        clear kT0 kT1 kT2 kT3 kT4 kT5 kT6 kT7 kT8 kT9 lT kC0 kC1 lC kS0 kS1 lS
        have bT7 := (bT6.alloc (.cells #[.int .i64 sz, .int .i64 (mo + more)] 35))
        have bC7 := (bC6.alloc (.cells #[.int .i64 sz, .int .i64 (mo + more)] 35))
        have bS7 := (bS6.alloc (.cells #[.int .i64 sz, .int .i64 (mo + more)] 35))
        have bD7 := (BoxS.new w6 35 #[.int .i64 sz, .int .i64 (mo + more)])
        have hB7 : Below w.heap.size w (World.alloc w6 (.cells #[.int .i64 sz, .int .i64 (mo + more)] 35)) := (hB6.alloc hB6.size _)
        obtain ⟨BD, hBD⟩ : ∃ B, B = w6.heap.size := ⟨_, rfl⟩
        clear bT6 bC6 bS6 hB6
        generalize World.alloc w6 _ = w7 at *
        rw [← hBD]
        rw [← hBD] at bD7
        clear hBD
        refine (HIC2.out _).mono ?_
        rintro e w8 ⟨rfl, hb8⟩
        have bT8 := bT7.below hb8
        have bC8 := bC7.below hb8
        have bS8 := bS7.below hb8
        have bD8 := bD7.below hb8
        have hB8 := hB7.trans (hb8.mono hB7.size)
        clear bT7 bC7 bS7 bD7 hB7
        have kT0 := bT8.cell 0 rfl
        have kT1 := bT8.cell 1 rfl
        have kT2 := bT8.cell 2 rfl
        have kT3 := bT8.cell 3 rfl
        have kT4 := bT8.cell 4 rfl
        have kT5 := bT8.cell 5 rfl
        have kT6 := bT8.cell 6 rfl
        have kT7 := bT8.cell 7 rfl
        have kT8 := bT8.cell 8 rfl
        have kT9 := bT8.cell 9 rfl
        have lT := bT8.lt
        have kC0 := bC8.cell 0 rfl
        have kC1 := bC8.cell 1 rfl
        have lC := bC8.lt
        have kS0 := bS8.cell 0 rfl
        have kS1 := bS8.cell 1 rfl
        have lS := bS8.lt
        have kD0 := bD8.cell 0 rfl
        have kD1 := bD8.cell 1 rfl
        have lD := bD8.lt
        go_wp2_with fail
        clear kT0 kT1 kT2 kT3 kT4 kT5 kT6 kT7 kT8 kT9 lT kC0 kC1 lC kS0 kS1 lS kD0 kD1 lD
        refine (HCE2.out _ hB8).mono ?_
        rintro e w9 ⟨rfl, hb9⟩
        have bT9 := bT8.below hb9
        have bC9 := bC8.below hb9
        have bS9 := bS8.below hb9
        have bD9 := bD8.below hb9
        have hB9 := hB8.trans (hb9.mono hB8.size)
        clear bT8 bC8 bS8 bD8 hB8
        have kT0 := bT9.cell 0 rfl
        have kT1 := bT9.cell 1 rfl
        have kT2 := bT9.cell 2 rfl
        have kT3 := bT9.cell 3 rfl
        have kT4 := bT9.cell 4 rfl
        have kT5 := bT9.cell 5 rfl
        have kT6 := bT9.cell 6 rfl
        have kT7 := bT9.cell 7 rfl
        have kT8 := bT9.cell 8 rfl
        have kT9 := bT9.cell 9 rfl
        have lT := bT9.lt
        have kC0 := bC9.cell 0 rfl
        have kC1 := bC9.cell 1 rfl
        have lC := bC9.lt
        have kS0 := bS9.cell 0 rfl
        have kS1 := bS9.cell 1 rfl
        have lS := bS9.lt
        have kD0 := bD9.cell 0 rfl
        have kD1 := bD9.cell 1 rfl
        have lD := bD9.lt
        go_wp2_with fail
        clear kT0 kT1 kT2 kT3 kT4 kT5 kT6 kT7 kT8 kT9 lT kC0 kC1 lC kS0 kS1 lS kD0 kD1 lD
        refine (HWK.out _).mono ?_
        rintro e w10 ⟨rfl, hb10⟩
        have bT10 := bT9.below hb10
        have bC10 := bC9.below hb10
        have bS10 := bS9.below hb10
        have bD10 := bD9.below hb10
        have hB10 := hB9.trans (hb10.mono hB9.size)
        clear bT9 bC9 bS9 bD9 hB9
        go_wp2_with fail
        go_returns
        exact ⟨rfl, hB10⟩
    by_cases h2 : mo < LO
    · skip
      rw [if_neg h1, if_pos h2] at hN0
      rw [hN0] at HCE
      have f1 : decide (HI ≤ mo) = false := decide_eq_false h1
      have f2 : decide (mo < LO) = true := decide_eq_true h2
      cases hc2 : C2
      · rw [hc2] at HIC2
        clear HCE2 hN1 hN0 hc2
        go_enter Try.func4, Try.ntmps4
        go_wp2_with fail
        have bT1 := ((BoxS.new w 28 #[.int .i64 full, .int .i64 read, .int .i64 slip, .int .i64 skew, .int .i64 circ, .int .i64 glo, .int .i64 ghi, .int .i64 wrn, .int .i64 gain, .slice A ts.length c]).alloc (.cells #[.int .i64 sz, .int .i64 mo] 35))
        have bC1 := (BoxS.new (World.alloc w (.cells #[.int .i64 full, .int .i64 read, .int .i64 slip, .int .i64 skew, .int .i64 circ, .int .i64 glo, .int .i64 ghi, .int .i64 wrn, .int .i64 gain, .slice A ts.length c] 28)) 35 #[.int .i64 sz, .int .i64 mo])
        have hB1 : Below w.heap.size w (World.alloc (World.alloc w (.cells #[.int .i64 full, .int .i64 read, .int .i64 slip, .int .i64 skew, .int .i64 circ, .int .i64 glo, .int .i64 ghi, .int .i64 wrn, .int .i64 gain, .slice A ts.length c] 28)) (.cells #[.int .i64 sz, .int .i64 mo] 35)) := by (repeat' (first | (with_reducible exact Below.refl _ _) | (with_reducible assumption) | (with_reducible refine Below.alloc ?_ ?_ _) | (with_reducible refine Below.drew ?_) | (with_reducible refine Below.setCell ?_ ?_ _) | go_size | (exact (by simp)) | omega))
        simp only [World.size_alloc] at bC1
        generalize World.alloc (World.alloc w _) _ = w1 at *
        refine (HRD.out _ hB1).mono ?_
        rintro e w2 ⟨rfl, hb2⟩
        have bT2 := bT1.below hb2
        have bC2 := bC1.below hb2
        have hB2 := hB1.trans (hb2.mono hB1.size)
        clear bT1 bC1 hB1
        have kT0 := bT2.cell 0 rfl
        have kT1 := bT2.cell 1 rfl
        have kT2 := bT2.cell 2 rfl
        have kT3 := bT2.cell 3 rfl
        have kT4 := bT2.cell 4 rfl
        have kT5 := bT2.cell 5 rfl
        have kT6 := bT2.cell 6 rfl
        have kT7 := bT2.cell 7 rfl
        have kT8 := bT2.cell 8 rfl
        have kT9 := bT2.cell 9 rfl
        have lT := bT2.lt
        have kC0 := bC2.cell 0 rfl
        have kC1 := bC2.cell 1 rfl
        have lC := bC2.lt
        go_wp2_with fail
        clear kT0 kT1 kT2 kT3 kT4 kT5 kT6 kT7 kT8 kT9 lT kC0 kC1 lC
        refine (HIC.out _).mono ?_
        rintro e w3 ⟨rfl, hb3⟩
        have bT3 := bT2.below hb3
        have bC3 := bC2.below hb3
        have hB3 := hB2.trans (hb3.mono hB2.size)
        clear bT2 bC2 hB2
        have kT0 := bT3.cell 0 rfl
        have kT1 := bT3.cell 1 rfl
        have kT2 := bT3.cell 2 rfl
        have kT3 := bT3.cell 3 rfl
        have kT4 := bT3.cell 4 rfl
        have kT5 := bT3.cell 5 rfl
        have kT6 := bT3.cell 6 rfl
        have kT7 := bT3.cell 7 rfl
        have kT8 := bT3.cell 8 rfl
        have kT9 := bT3.cell 9 rfl
        have lT := bT3.lt
        have kC0 := bC3.cell 0 rfl
        have kC1 := bC3.cell 1 rfl
        have lC := bC3.lt
        go_wp2_with fail
        clear kT0 kT1 kT2 kT3 kT4 kT5 kT6 kT7 kT8 kT9 lT kC0 kC1 lC
        refine (HER.out _ hB3).mono ?_
        rintro e w4 ⟨rfl, hb4⟩
        have bT4 := bT3.below hb4
        have bC4 := bC3.below hb4
        have hB4 := hB3.trans (hb4.mono hB3.size)
        clear bT3 bC3 hB3
        have kT0 := bT4.cell 0 rfl
        have kT1 := bT4.cell 1 rfl
        have kT2 := bT4.cell 2 rfl
        have kT3 := bT4.cell 3 rfl
        have kT4 := bT4.cell 4 rfl
        have kT5 := bT4.cell 5 rfl
        have kT6 := bT4.cell 6 rfl
        have kT7 := bT4.cell 7 rfl
        have kT8 := bT4.cell 8 rfl
        have kT9 := bT4.cell 9 rfl
        have lT := bT4.lt
        have kC0 := bC4.cell 0 rfl
        have kC1 := bC4.cell 1 rfl
        have lC := bC4.lt
        go_wp2_with fail
        clear kT0 kT1 kT2 kT3 kT4 kT5 kT6 kT7 kT8 kT9 lT kC0 kC1 lC
        have bT5 := (bT4.alloc (.cells #[.int .i64 LO, .int .i64 HI] 23))
        have bC5 := (bC4.alloc (.cells #[.int .i64 LO, .int .i64 HI] 23))
        have bS5 := (BoxS.new w4 23 #[.int .i64 LO, .int .i64 HI])
        have hB5 : Below w.heap.size w (World.alloc w4 (.cells #[.int .i64 LO, .int .i64 HI] 23)) := (hB4.alloc hB4.size _)
        obtain ⟨BS, hBS⟩ : ∃ B, B = w4.heap.size := ⟨_, rfl⟩
        clear bT4 bC4 hB4
        generalize World.alloc w4 _ = w5 at *
        rw [← hBS]
        rw [← hBS] at bS5
        clear hBS
        refine (HCE.out _ hB5).mono ?_
        rintro e w6 ⟨rfl, hb6⟩
        have bT6 := bT5.below hb6
        have bC6 := bC5.below hb6
        have bS6 := bS5.below hb6
        have hB6 := hB5.trans (hb6.mono hB5.size)
        clear bT5 bC5 bS5 hB5
        have kT0 := bT6.cell 0 rfl
        have kT1 := bT6.cell 1 rfl
        have kT2 := bT6.cell 2 rfl
        have kT3 := bT6.cell 3 rfl
        have kT4 := bT6.cell 4 rfl
        have kT5 := bT6.cell 5 rfl
        have kT6 := bT6.cell 6 rfl
        have kT7 := bT6.cell 7 rfl
        have kT8 := bT6.cell 8 rfl
        have kT9 := bT6.cell 9 rfl
        have lT := bT6.lt
        have kC0 := bC6.cell 0 rfl
        have kC1 := bC6.cell 1 rfl
        have lC := bC6.lt
        have kS0 := bS6.cell 0 rfl
        have kS1 := bS6.cell 1 rfl
        have lS := bS6.lt
        go_wp2_with fail
        clear kT0 kT1 kT2 kT3 kT4 kT5 kT6 kT7 kT8 kT9 lT kC0 kC1 lC kS0 kS1 lS
        refine (HKN.out _).mono ?_
        rintro e wq ⟨rfl, hq⟩
        have hq := hq.symm
        subst hq
        have kT0 := bT6.cell 0 rfl
        have kT1 := bT6.cell 1 rfl
        have kT2 := bT6.cell 2 rfl
        have kT3 := bT6.cell 3 rfl
        have kT4 := bT6.cell 4 rfl
        have kT5 := bT6.cell 5 rfl
        have kT6 := bT6.cell 6 rfl
        have kT7 := bT6.cell 7 rfl
        have kT8 := bT6.cell 8 rfl
        have kT9 := bT6.cell 9 rfl
        have lT := bT6.lt
        have kC0 := bC6.cell 0 rfl
        have kC1 := bC6.cell 1 rfl
        have lC := bC6.lt
        have kS0 := bS6.cell 0 rfl
        have kS1 := bS6.cell 1 rfl
        have lS := bS6.lt
        go_wp2_with fail
        clear kT0 kT1 kT2 kT3 kT4 kT5 kT6 kT7 kT8 kT9 lT kC0 kC1 lC kS0 kS1 lS
        have bT7 := (bT6.alloc (.cells #[.int .i64 sz, .int .i64 (mo + more)] 35))
        have bC7 := (bC6.alloc (.cells #[.int .i64 sz, .int .i64 (mo + more)] 35))
        have bS7 := (bS6.alloc (.cells #[.int .i64 sz, .int .i64 (mo + more)] 35))
        have bD7 := (BoxS.new w6 35 #[.int .i64 sz, .int .i64 (mo + more)])
        have hB7 : Below w.heap.size w (World.alloc w6 (.cells #[.int .i64 sz, .int .i64 (mo + more)] 35)) := (hB6.alloc hB6.size _)
        obtain ⟨BD, hBD⟩ : ∃ B, B = w6.heap.size := ⟨_, rfl⟩
        clear bT6 bC6 bS6 hB6
        generalize World.alloc w6 _ = w7 at *
        rw [← hBD]
        rw [← hBD] at bD7
        clear hBD
        refine (HIC2.out _).mono ?_
        rintro e w8 ⟨rfl, hb8⟩
        have bT8 := bT7.below hb8
        have bC8 := bC7.below hb8
        have bS8 := bS7.below hb8
        have bD8 := bD7.below hb8
        have hB8 := hB7.trans (hb8.mono hB7.size)
        clear bT7 bC7 bS7 bD7 hB7
        have kT0 := bT8.cell 0 rfl
        have kT1 := bT8.cell 1 rfl
        have kT2 := bT8.cell 2 rfl
        have kT3 := bT8.cell 3 rfl
        have kT4 := bT8.cell 4 rfl
        have kT5 := bT8.cell 5 rfl
        have kT6 := bT8.cell 6 rfl
        have kT7 := bT8.cell 7 rfl
        have kT8 := bT8.cell 8 rfl
        have kT9 := bT8.cell 9 rfl
        have lT := bT8.lt
        have kC0 := bC8.cell 0 rfl
        have kC1 := bC8.cell 1 rfl
        have lC := bC8.lt
        have kS0 := bS8.cell 0 rfl
        have kS1 := bS8.cell 1 rfl
        have lS := bS8.lt
        have kD0 := bD8.cell 0 rfl
        have kD1 := bD8.cell 1 rfl
        have lD := bD8.lt
        go_wp2_with fail
        clear kT0 kT1 kT2 kT3 kT4 kT5 kT6 kT7 kT8 kT9 lT kC0 kC1 lC kS0 kS1 lS kD0 kD1 lD
        refine (HWK.out _).mono ?_
        rintro e w9 ⟨rfl, hb9⟩
        have bT9 := bT8.below hb9
        have bC9 := bC8.below hb9
        have bS9 := bS8.below hb9
        have bD9 := bD8.below hb9
        have hB9 := hB8.trans (hb9.mono hB8.size)
        clear bT8 bC8 bS8 bD8 hB8
        go_wp2_with fail
        go_returns
        exact ⟨rfl, hB9⟩
      · rw [hc2] at HIC2
        replace HCE2 := Lib.hid (HCE2.out hc2)
        clear hc2
        by_cases g1 : HI ≤ mo + more
        · rw [if_pos g1] at hN1
          rw [hN1] at HCE2
          clear hN0 hN1
          go_enter Try.func4, Try.ntmps4
          go_wp2_with fail
          have bT1 := ((BoxS.new w 28 #[.int .i64 full, .int .i64 read, .int .i64 slip, .int .i64 skew, .int .i64 circ, .int .i64 glo, .int .i64 ghi, .int .i64 wrn, .int .i64 gain, .slice A ts.length c]).alloc (.cells #[.int .i64 sz, .int .i64 mo] 35))
          have bC1 := (BoxS.new (World.alloc w (.cells #[.int .i64 full, .int .i64 read, .int .i64 slip, .int .i64 skew, .int .i64 circ, .int .i64 glo, .int .i64 ghi, .int .i64 wrn, .int .i64 gain, .slice A ts.length c] 28)) 35 #[.int .i64 sz, .int .i64 mo])
          have hB1 : Below w.heap.size w (World.alloc (World.alloc w (.cells #[.int .i64 full, .int .i64 read, .int .i64 slip, .int .i64 skew, .int .i64 circ, .int .i64 glo, .int .i64 ghi, .int .i64 wrn, .int .i64 gain, .slice A ts.length c] 28)) (.cells #[.int .i64 sz, .int .i64 mo] 35)) := by (repeat' (first | (with_reducible exact Below.refl _ _) | (with_reducible assumption) | (with_reducible refine Below.alloc ?_ ?_ _) | (with_reducible refine Below.drew ?_) | (with_reducible refine Below.setCell ?_ ?_ _) | go_size | (exact (by simp)) | omega))
          simp only [World.size_alloc] at bC1
          generalize World.alloc (World.alloc w _) _ = w1 at *
          refine (HRD.out _ hB1).mono ?_
          rintro e w2 ⟨rfl, hb2⟩
          have bT2 := bT1.below hb2
          have bC2 := bC1.below hb2
          have hB2 := hB1.trans (hb2.mono hB1.size)
          clear bT1 bC1 hB1
          have kT0 := bT2.cell 0 rfl
          have kT1 := bT2.cell 1 rfl
          have kT2 := bT2.cell 2 rfl
          have kT3 := bT2.cell 3 rfl
          have kT4 := bT2.cell 4 rfl
          have kT5 := bT2.cell 5 rfl
          have kT6 := bT2.cell 6 rfl
          have kT7 := bT2.cell 7 rfl
          have kT8 := bT2.cell 8 rfl
          have kT9 := bT2.cell 9 rfl
          have lT := bT2.lt
          have kC0 := bC2.cell 0 rfl
          have kC1 := bC2.cell 1 rfl
          have lC := bC2.lt
          go_wp2_with fail
          clear kT0 kT1 kT2 kT3 kT4 kT5 kT6 kT7 kT8 kT9 lT kC0 kC1 lC
          refine (HIC.out _).mono ?_
          rintro e w3 ⟨rfl, hb3⟩
          have bT3 := bT2.below hb3
          have bC3 := bC2.below hb3
          have hB3 := hB2.trans (hb3.mono hB2.size)
          clear bT2 bC2 hB2
          have kT0 := bT3.cell 0 rfl
          have kT1 := bT3.cell 1 rfl
          have kT2 := bT3.cell 2 rfl
          have kT3 := bT3.cell 3 rfl
          have kT4 := bT3.cell 4 rfl
          have kT5 := bT3.cell 5 rfl
          have kT6 := bT3.cell 6 rfl
          have kT7 := bT3.cell 7 rfl
          have kT8 := bT3.cell 8 rfl
          have kT9 := bT3.cell 9 rfl
          have lT := bT3.lt
          have kC0 := bC3.cell 0 rfl
          have kC1 := bC3.cell 1 rfl
          have lC := bC3.lt
          go_wp2_with fail
          clear kT0 kT1 kT2 kT3 kT4 kT5 kT6 kT7 kT8 kT9 lT kC0 kC1 lC
          refine (HER.out _ hB3).mono ?_
          rintro e w4 ⟨rfl, hb4⟩
          have bT4 := bT3.below hb4
          have bC4 := bC3.below hb4
          have hB4 := hB3.trans (hb4.mono hB3.size)
          clear bT3 bC3 hB3
          have kT0 := bT4.cell 0 rfl
          have kT1 := bT4.cell 1 rfl
          have kT2 := bT4.cell 2 rfl
          have kT3 := bT4.cell 3 rfl
          have kT4 := bT4.cell 4 rfl
          have kT5 := bT4.cell 5 rfl
          have kT6 := bT4.cell 6 rfl
          have kT7 := bT4.cell 7 rfl
          have kT8 := bT4.cell 8 rfl
          have kT9 := bT4.cell 9 rfl
          have lT := bT4.lt
          have kC0 := bC4.cell 0 rfl
          have kC1 := bC4.cell 1 rfl
          have lC := bC4.lt
          go_wp2_with fail
          clear kT0 kT1 kT2 kT3 kT4 kT5 kT6 kT7 kT8 kT9 lT kC0 kC1 lC
          have bT5 := (bT4.alloc (.cells #[.int .i64 LO, .int .i64 HI] 23))
          have bC5 := (bC4.alloc (.cells #[.int .i64 LO, .int .i64 HI] 23))
          have bS5 := (BoxS.new w4 23 #[.int .i64 LO, .int .i64 HI])
          have hB5 : Below w.heap.size w (World.alloc w4 (.cells #[.int .i64 LO, .int .i64 HI] 23)) := (hB4.alloc hB4.size _)
          obtain ⟨BS, hBS⟩ : ∃ B, B = w4.heap.size := ⟨_, rfl⟩
          clear bT4 bC4 hB4
          generalize World.alloc w4 _ = w5 at *
          rw [← hBS]
          rw [← hBS] at bS5
          clear hBS
          refine (HCE.out _ hB5).mono ?_
          rintro e w6 ⟨rfl, hb6⟩
          have bT6 := bT5.below hb6
          have bC6 := bC5.below hb6
          have bS6 := bS5.below hb6
          have hB6 := hB5.trans (hb6.mono hB5.size)
          clear bT5 bC5 bS5 hB5
          have kT0 := bT6.cell 0 rfl
          have kT1 := bT6.cell 1 rfl
          have kT2 := bT6.cell 2 rfl
          have kT3 := bT6.cell 3 rfl
          have kT4 := bT6.cell 4 rfl
          have kT5 := bT6.cell 5 rfl
          have kT6 := bT6.cell 6 rfl
          have kT7 := bT6.cell 7 rfl
          have kT8 := bT6.cell 8 rfl
          have kT9 := bT6.cell 9 rfl
          have lT := bT6.lt
          have kC0 := bC6.cell 0 rfl
          have kC1 := bC6.cell 1 rfl
          have lC := bC6.lt
          have kS0 := bS6.cell 0 rfl
          have kS1 := bS6.cell 1 rfl
          have lS := bS6.lt
          go_wp2_with fail
          clear kT0 kT1 kT2 kT3 kT4 kT5 kT6 kT7 kT8 kT9 lT kC0 kC1 lC kS0 kS1 lS
          refine (HKN.out _).mono ?_
          rintro e wq ⟨rfl, hq⟩
          have hq := hq.symm
          subst hq
          have kT0 := bT6.cell 0 rfl
          have kT1 := bT6.cell 1 rfl
          have kT2 := bT6.cell 2 rfl
          have kT3 := bT6.cell 3 rfl
          have kT4 := bT6.cell 4 rfl
          have kT5 := bT6.cell 5 rfl
          have kT6 := bT6.cell 6 rfl
          have kT7 := bT6.cell 7 rfl
          have kT8 := bT6.cell 8 rfl
          have kT9 := bT6.cell 9 rfl
          have lT := bT6.lt
          have kC0 := bC6.cell 0 rfl
          have kC1 := bC6.cell 1 rfl
          have lC := bC6.lt
          have kS0 := bS6.cell 0 rfl
          have kS1 := bS6.cell 1 rfl
          have lS := bS6.lt
          go_wp2_with fail
          clear kT0 kT1 kT2 kT3 kT4 kT5 kT6 kT7 kT8 kT9 lT kC0 kC1 lC kS0 kS1 lS
          have bT7 := (bT6.alloc (.cells #[.int .i64 sz, .int .i64 (mo + more)] 35))
          have bC7 := (bC6.alloc (.cells #[.int .i64 sz, .int .i64 (mo + more)] 35))
          have bS7 := (bS6.alloc (.cells #[.int .i64 sz, .int .i64 (mo + more)] 35))
          have bD7 := (BoxS.new w6 35 #[.int .i64 sz, .int .i64 (mo + more)])
          have hB7 : Below w.heap.size w (World.alloc w6 (.cells #[.int .i64 sz, .int .i64 (mo + more)] 35)) := (hB6.alloc hB6.size _)
          obtain ⟨BD, hBD⟩ : ∃ B, B = w6.heap.size := ⟨_, rfl⟩
          clear bT6 bC6 bS6 hB6
          generalize World.alloc w6 _ = w7 at *
          rw [← hBD]
          rw [← hBD] at bD7
          clear hBD
          refine (HIC2.out _).mono ?_
          rintro e w8 ⟨rfl, hb8⟩
          have bT8 := bT7.below hb8
          have bC8 := bC7.below hb8
          have bS8 := bS7.below hb8
          have bD8 := bD7.below hb8
          have hB8 := hB7.trans (hb8.mono hB7.size)
          clear bT7 bC7 bS7 bD7 hB7
          have kT0 := bT8.cell 0 rfl
          have kT1 := bT8.cell 1 rfl
          have kT2 := bT8.cell 2 rfl
          have kT3 := bT8.cell 3 rfl
          have kT4 := bT8.cell 4 rfl
          have kT5 := bT8.cell 5 rfl
          have kT6 := bT8.cell 6 rfl
          have kT7 := bT8.cell 7 rfl
          have kT8 := bT8.cell 8 rfl
          have kT9 := bT8.cell 9 rfl
          have lT := bT8.lt
          have kC0 := bC8.cell 0 rfl
          have kC1 := bC8.cell 1 rfl
          have lC := bC8.lt
          have kS0 := bS8.cell 0 rfl
          have kS1 := bS8.cell 1 rfl
          have lS := bS8.lt
          have kD0 := bD8.cell 0 rfl
          have kD1 := bD8.cell 1 rfl
          have lD := bD8.lt
          go_wp2_with fail
          clear kT0 kT1 kT2 kT3 kT4 kT5 kT6 kT7 kT8 kT9 lT kC0 kC1 lC kS0 kS1 lS kD0 kD1 lD
          refine (HCE2.out _ hB8).mono ?_
          rintro e w9 ⟨rfl, hb9⟩
          have bT9 := bT8.below hb9
          have bC9 := bC8.below hb9
          have bS9 := bS8.below hb9
          have bD9 := bD8.below hb9
          have hB9 := hB8.trans (hb9.mono hB8.size)
          clear bT8 bC8 bS8 bD8 hB8
          have kT0 := bT9.cell 0 rfl
          have kT1 := bT9.cell 1 rfl
          have kT2 := bT9.cell 2 rfl
          have kT3 := bT9.cell 3 rfl
          have kT4 := bT9.cell 4 rfl
          have kT5 := bT9.cell 5 rfl
          have kT6 := bT9.cell 6 rfl
          have kT7 := bT9.cell 7 rfl
          have kT8 := bT9.cell 8 rfl
          have kT9 := bT9.cell 9 rfl
          have lT := bT9.lt
          have kC0 := bC9.cell 0 rfl
          have kC1 := bC9.cell 1 rfl
          have lC := bC9.lt
          have kS0 := bS9.cell 0 rfl
          have kS1 := bS9.cell 1 rfl
          have lS := bS9.lt
          have kD0 := bD9.cell 0 rfl
          have kD1 := bD9.cell 1 rfl
          have lD := bD9.lt
          go_wp2_with fail
          clear kT0 kT1 kT2 kT3 kT4 kT5 kT6 kT7 kT8 kT9 lT kC0 kC1 lC kS0 kS1 lS kD0 kD1 lD
          refine (HWK.out _).mono ?_
          rintro e w10 ⟨rfl, hb10⟩
          have bT10 := bT9.below hb10
          have bC10 := bC9.below hb10
          have bS10 := bS9.below hb10
          have bD10 := bD9.below hb10
          have hB10 := hB9.trans (hb10.mono hB9.size)
          clear bT9 bC9 bS9 bD9 hB9
          go_wp2_with fail
          go_returns
          exact ⟨rfl, hB10⟩
        by_cases g2 : mo + more < LO
        · rw [if_neg g1, if_pos g2] at hN1
          rw [hN1] at HCE2
          clear hN0 hN1
          go_enter Try.func4, Try.ntmps4
          go_wp2_with fail
          have bT1 := ((BoxS.new w 28 #[.int .i64 full, .int .i64 read, .int .i64 slip, .int .i64 skew, .int .i64 circ, .int .i64 glo, .int .i64 ghi, .int .i64 wrn, .int .i64 gain, .slice A ts.length c]).alloc (.cells #[.int .i64 sz, .int .i64 mo] 35))
          have bC1 := (BoxS.new (World.alloc w (.cells #[.int .i64 full, .int .i64 read, .int .i64 slip, .int .i64 skew, .int .i64 circ, .int .i64 glo, .int .i64 ghi, .int .i64 wrn, .int .i64 gain, .slice A ts.length c] 28)) 35 #[.int .i64 sz, .int .i64 mo])
          have hB1 : Below w.heap.size w (World.alloc (World.alloc w (.cells #[.int .i64 full, .int .i64 read, .int .i64 slip, .int .i64 skew, .int .i64 circ, .int .i64 glo, .int .i64 ghi, .int .i64 wrn, .int .i64 gain, .slice A ts.length c] 28)) (.cells #[.int .i64 sz, .int .i64 mo] 35)) := by (repeat' (first | (with_reducible exact Below.refl _ _) | (with_reducible assumption) | (with_reducible refine Below.alloc ?_ ?_ _) | (with_reducible refine Below.drew ?_) | (with_reducible refine Below.setCell ?_ ?_ _) | go_size | (exact (by simp)) | omega))
          simp only [World.size_alloc] at bC1
          generalize World.alloc (World.alloc w _) _ = w1 at *
          refine (HRD.out _ hB1).mono ?_
          rintro e w2 ⟨rfl, hb2⟩
          have bT2 := bT1.below hb2
          have bC2 := bC1.below hb2
          have hB2 := hB1.trans (hb2.mono hB1.size)
          clear bT1 bC1 hB1
          have kT0 := bT2.cell 0 rfl
          have kT1 := bT2.cell 1 rfl
          have kT2 := bT2.cell 2 rfl
          have kT3 := bT2.cell 3 rfl
          have kT4 := bT2.cell 4 rfl
          have kT5 := bT2.cell 5 rfl
          have kT6 := bT2.cell 6 rfl
          have kT7 := bT2.cell 7 rfl
          have kT8 := bT2.cell 8 rfl
          have kT9 := bT2.cell 9 rfl
          have lT := bT2.lt
          have kC0 := bC2.cell 0 rfl
          have kC1 := bC2.cell 1 rfl
          have lC := bC2.lt
          go_wp2_with fail
          clear kT0 kT1 kT2 kT3 kT4 kT5 kT6 kT7 kT8 kT9 lT kC0 kC1 lC
          refine (HIC.out _).mono ?_
          rintro e w3 ⟨rfl, hb3⟩
          have bT3 := bT2.below hb3
          have bC3 := bC2.below hb3
          have hB3 := hB2.trans (hb3.mono hB2.size)
          clear bT2 bC2 hB2
          have kT0 := bT3.cell 0 rfl
          have kT1 := bT3.cell 1 rfl
          have kT2 := bT3.cell 2 rfl
          have kT3 := bT3.cell 3 rfl
          have kT4 := bT3.cell 4 rfl
          have kT5 := bT3.cell 5 rfl
          have kT6 := bT3.cell 6 rfl
          have kT7 := bT3.cell 7 rfl
          have kT8 := bT3.cell 8 rfl
          have kT9 := bT3.cell 9 rfl
          have lT := bT3.lt
          have kC0 := bC3.cell 0 rfl
          have kC1 := bC3.cell 1 rfl
          have lC := bC3.lt
          go_wp2_with fail
          clear kT0 kT1 kT2 kT3 kT4 kT5 kT6 kT7 kT8 kT9 lT kC0 kC1 lC
          refine (HER.out _ hB3).mono ?_
          rintro e w4 ⟨rfl, hb4⟩
          have bT4 := bT3.below hb4
          have bC4 := bC3.below hb4
          have hB4 := hB3.trans (hb4.mono hB3.size)
          clear bT3 bC3 hB3
          have kT0 := bT4.cell 0 rfl
          have kT1 := bT4.cell 1 rfl
          have kT2 := bT4.cell 2 rfl
          have kT3 := bT4.cell 3 rfl
          have kT4 := bT4.cell 4 rfl
          have kT5 := bT4.cell 5 rfl
          have kT6 := bT4.cell 6 rfl
          have kT7 := bT4.cell 7 rfl
          have kT8 := bT4.cell 8 rfl
          have kT9 := bT4.cell 9 rfl
          have lT := bT4.lt
          have kC0 := bC4.cell 0 rfl
          have kC1 := bC4.cell 1 rfl
          have lC := bC4.lt
          go_wp2_with fail
          clear kT0 kT1 kT2 kT3 kT4 kT5 kT6 kT7 kT8 kT9 lT kC0 kC1 lC
          have bT5 := (bT4.alloc (.cells #[.int .i64 LO, .int .i64 HI] 23))
          have bC5 := (bC4.alloc (.cells #[.int .i64 LO, .int .i64 HI] 23))
          have bS5 := (BoxS.new w4 23 #[.int .i64 LO, .int .i64 HI])
          have hB5 : Below w.heap.size w (World.alloc w4 (.cells #[.int .i64 LO, .int .i64 HI] 23)) := (hB4.alloc hB4.size _)
          obtain ⟨BS, hBS⟩ : ∃ B, B = w4.heap.size := ⟨_, rfl⟩
          clear bT4 bC4 hB4
          generalize World.alloc w4 _ = w5 at *
          rw [← hBS]
          rw [← hBS] at bS5
          clear hBS
          refine (HCE.out _ hB5).mono ?_
          rintro e w6 ⟨rfl, hb6⟩
          have bT6 := bT5.below hb6
          have bC6 := bC5.below hb6
          have bS6 := bS5.below hb6
          have hB6 := hB5.trans (hb6.mono hB5.size)
          clear bT5 bC5 bS5 hB5
          have kT0 := bT6.cell 0 rfl
          have kT1 := bT6.cell 1 rfl
          have kT2 := bT6.cell 2 rfl
          have kT3 := bT6.cell 3 rfl
          have kT4 := bT6.cell 4 rfl
          have kT5 := bT6.cell 5 rfl
          have kT6 := bT6.cell 6 rfl
          have kT7 := bT6.cell 7 rfl
          have kT8 := bT6.cell 8 rfl
          have kT9 := bT6.cell 9 rfl
          have lT := bT6.lt
          have kC0 := bC6.cell 0 rfl
          have kC1 := bC6.cell 1 rfl
          have lC := bC6.lt
          have kS0 := bS6.cell 0 rfl
          have kS1 := bS6.cell 1 rfl
          have lS := bS6.lt
          go_wp2_with fail
          clear kT0 kT1 kT2 kT3 kT4 kT5 kT6 kT7 kT8 kT9 lT kC0 kC1 lC kS0 kS1 lS
          refine (HKN.out _).mono ?_
          rintro e wq ⟨rfl, hq⟩
          have hq := hq.symm
          subst hq
          have kT0 := bT6.cell 0 rfl
          have kT1 := bT6.cell 1 rfl
          have kT2 := bT6.cell 2 rfl
          have kT3 := bT6.cell 3 rfl
          have kT4 := bT6.cell 4 rfl
          have kT5 := bT6.cell 5 rfl
          have kT6 := bT6.cell 6 rfl
          have kT7 := bT6.cell 7 rfl
          have kT8 := bT6.cell 8 rfl
          have kT9 := bT6.cell 9 rfl
          have lT := bT6.lt
          have kC0 := bC6.cell 0 rfl
          have kC1 := bC6.cell 1 rfl
          have lC := bC6.lt
          have kS0 := bS6.cell 0 rfl
          have kS1 := bS6.cell 1 rfl
          have lS := bS6.lt
          go_wp2_with fail
          clear kT0 kT1 kT2 kT3 kT4 kT5 kT6 kT7 kT8 kT9 lT kC0 kC1 lC kS0 kS1 lS
          have bT7 := (bT6.alloc (.cells #[.int .i64 sz, .int .i64 (mo + more)] 35))
          have bC7 := (bC6.alloc (.cells #[.int .i64 sz, .int .i64 (mo + more)] 35))
          have bS7 := (bS6.alloc (.cells #[.int .i64 sz, .int .i64 (mo + more)] 35))
          have bD7 := (BoxS.new w6 35 #[.int .i64 sz, .int .i64 (mo + more)])
          have hB7 : Below w.heap.size w (World.alloc w6 (.cells #[.int .i64 sz, .int .i64 (mo + more)] 35)) := (hB6.alloc hB6.size _)
          obtain ⟨BD, hBD⟩ : ∃ B, B = w6.heap.size := ⟨_, rfl⟩
          clear bT6 bC6 bS6 hB6
          generalize World.alloc w6 _ = w7 at *
          rw [← hBD]
          rw [← hBD] at bD7
          clear hBD
          refine (HIC2.out _).mono ?_
          rintro e w8 ⟨rfl, hb8⟩
          have bT8 := bT7.below hb8
          have bC8 := bC7.below hb8
          have bS8 := bS7.below hb8
          have bD8 := bD7.below hb8
          have hB8 := hB7.trans (hb8.mono hB7.size)
          clear bT7 bC7 bS7 bD7 hB7
          have kT0 := bT8.cell 0 rfl
          have kT1 := bT8.cell 1 rfl
          have kT2 := bT8.cell 2 rfl
          have kT3 := bT8.cell 3 rfl
          have kT4 := bT8.cell 4 rfl
          have kT5 := bT8.cell 5 rfl
          have kT6 := bT8.cell 6 rfl
          have kT7 := bT8.cell 7 rfl
          have kT8 := bT8.cell 8 rfl
          have kT9 := bT8.cell 9 rfl
          have lT := bT8.lt
          have kC0 := bC8.cell 0 rfl
          have kC1 := bC8.cell 1 rfl
          have lC := bC8.lt
          have kS0 := bS8.cell 0 rfl
          have kS1 := bS8.cell 1 rfl
          have lS := bS8.lt
          have kD0 := bD8.cell 0 rfl
          have kD1 := bD8.cell 1 rfl
          have lD := bD8.lt
          go_wp2_with fail
          clear kT0 kT1 kT2 kT3 kT4 kT5 kT6 kT7 kT8 kT9 lT kC0 kC1 lC kS0 kS1 lS kD0 kD1 lD
          refine (HCE2.out _ hB8).mono ?_
          rintro e w9 ⟨rfl, hb9⟩
          have bT9 := bT8.below hb9
          have bC9 := bC8.below hb9
          have bS9 := bS8.below hb9
          have bD9 := bD8.below hb9
          have hB9 := hB8.trans (hb9.mono hB8.size)
          clear bT8 bC8 bS8 bD8 hB8
          have kT0 := bT9.cell 0 rfl
          have kT1 := bT9.cell 1 rfl
          have kT2 := bT9.cell 2 rfl
          have kT3 := bT9.cell 3 rfl
          have kT4 := bT9.cell 4 rfl
          have kT5 := bT9.cell 5 rfl
          have kT6 := bT9.cell 6 rfl
          have kT7 := bT9.cell 7 rfl
          have kT8 := bT9.cell 8 rfl
          have kT9 := bT9.cell 9 rfl
          have lT := bT9.lt
          have kC0 := bC9.cell 0 rfl
          have kC1 := bC9.cell 1 rfl
          have lC := bC9.lt
          have kS0 := bS9.cell 0 rfl
          have kS1 := bS9.cell 1 rfl
          have lS := bS9.lt
          have kD0 := bD9.cell 0 rfl
          have kD1 := bD9.cell 1 rfl
          have lD := bD9.lt
          go_wp2_with fail
          clear kT0 kT1 kT2 kT3 kT4 kT5 kT6 kT7 kT8 kT9 lT kC0 kC1 lC kS0 kS1 lS kD0 kD1 lD
          refine (HWK.out _).mono ?_
          rintro e w10 ⟨rfl, hb10⟩
          have bT10 := bT9.below hb10
          have bC10 := bC9.below hb10
          have bS10 := bS9.below hb10
          have bD10 := bD9.below hb10
          have hB10 := hB9.trans (hb10.mono hB9.size)
          clear bT9 bC9 bS9 bD9 hB9
          go_wp2_with fail
          go_returns
          exact ⟨rfl, hB10⟩
        · rw [if_neg g1, if_neg g2] at hN1
          rw [hN1] at HCE2
          clear hN0 hN1
          go_enter Try.func4, Try.ntmps4
          go_wp2_with fail
          have bT1 := ((BoxS.new w 28 #[.int .i64 full, .int .i64 read, .int .i64 slip, .int .i64 skew, .int .i64 circ, .int .i64 glo, .int .i64 ghi, .int .i64 wrn, .int .i64 gain, .slice A ts.length c]).alloc (.cells #[.int .i64 sz, .int .i64 mo] 35))
          have bC1 := (BoxS.new (World.alloc w (.cells #[.int .i64 full, .int .i64 read, .int .i64 slip, .int .i64 skew, .int .i64 circ, .int .i64 glo, .int .i64 ghi, .int .i64 wrn, .int .i64 gain, .slice A ts.length c] 28)) 35 #[.int .i64 sz, .int .i64 mo])
          have hB1 : Below w.heap.size w (World.alloc (World.alloc w (.cells #[.int .i64 full, .int .i64 read, .int .i64 slip, .int .i64 skew, .int .i64 circ, .int .i64 glo, .int .i64 ghi, .int .i64 wrn, .int .i64 gain, .slice A ts.length c] 28)) (.cells #[.int .i64 sz, .int .i64 mo] 35)) := by (repeat' (first | (with_reducible exact Below.refl _ _) | (with_reducible assumption) | (with_reducible refine Below.alloc ?_ ?_ _) | (with_reducible refine Below.drew ?_) | (with_reducible refine Below.setCell ?_ ?_ _) | go_size | (exact (by simp)) | omega))
          simp only [World.size_alloc] at bC1
          generalize World.alloc (World.alloc w _) _ = w1 at *
          refine (HRD.out _ hB1).mono ?_
          rintro e w2 ⟨rfl, hb2⟩
          have bT2 := bT1.below hb2
          have bC2 := bC1.below hb2
          have hB2 := hB1.trans (hb2.mono hB1.size)
          clear bT1 bC1 hB1
          have kT0 := bT2.cell 0 rfl
          have kT1 := bT2.cell 1 rfl
          have kT2 := bT2.cell 2 rfl
          have kT3 := bT2.cell 3 rfl
          have kT4 := bT2.cell 4 rfl
          have kT5 := bT2.cell 5 rfl
          have kT6 := bT2.cell 6 rfl
          have kT7 := bT2.cell 7 rfl
          have kT8 := bT2.cell 8 rfl
          have kT9 := bT2.cell 9 rfl
          have lT := bT2.lt
          have kC0 := bC2.cell 0 rfl
          have kC1 := bC2.cell 1 rfl
          have lC := bC2.lt
          go_wp2_with fail
          clear kT0 kT1 kT2 kT3 kT4 kT5 kT6 kT7 kT8 kT9 lT kC0 kC1 lC
          refine (HIC.out _).mono ?_
          rintro e w3 ⟨rfl, hb3⟩
          have bT3 := bT2.below hb3
          have bC3 := bC2.below hb3
          have hB3 := hB2.trans (hb3.mono hB2.size)
          clear bT2 bC2 hB2
          have kT0 := bT3.cell 0 rfl
          have kT1 := bT3.cell 1 rfl
          have kT2 := bT3.cell 2 rfl
          have kT3 := bT3.cell 3 rfl
          have kT4 := bT3.cell 4 rfl
          have kT5 := bT3.cell 5 rfl
          have kT6 := bT3.cell 6 rfl
          have kT7 := bT3.cell 7 rfl
          have kT8 := bT3.cell 8 rfl
          have kT9 := bT3.cell 9 rfl
          have lT := bT3.lt
          have kC0 := bC3.cell 0 rfl
          have kC1 := bC3.cell 1 rfl
          have lC := bC3.lt
          go_wp2_with fail
          clear kT0 kT1 kT2 kT3 kT4 kT5 kT6 kT7 kT8 kT9 lT kC0 kC1 lC
          refine (HER.out _ hB3).mono ?_
          rintro e w4 ⟨rfl, hb4⟩
          have bT4 := bT3.below hb4
          have bC4 := bC3.below hb4
          have hB4 := hB3.trans (hb4.mono hB3.size)
          clear bT3 bC3 hB3
          have kT0 := bT4.cell 0 rfl
          have kT1 := bT4.cell 1 rfl
          have kT2 := bT4.cell 2 rfl
          have kT3 := bT4.cell 3 rfl
          have kT4 := bT4.cell 4 rfl
          have kT5 := bT4.cell 5 rfl
          have kT6 := bT4.cell 6 rfl
          have kT7 := bT4.cell 7 rfl
          have kT8 := bT4.cell 8 rfl
          have kT9 := bT4.cell 9 rfl
          have lT := bT4.lt
          have kC0 := bC4.cell 0 rfl
          have kC1 := bC4.cell 1 rfl
          have lC := bC4.lt
          go_wp2_with fail
          clear kT0 kT1 kT2 kT3 kT4 kT5 kT6 kT7 kT8 kT9 lT kC0 kC1 lC
          have bT5 := (bT4.alloc (.cells #[.int .i64 LO, .int .i64 HI] 23))
          have bC5 := (bC4.alloc (.cells #[.int .i64 LO, .int .i64 HI] 23))
          have bS5 := (BoxS.new w4 23 #[.int .i64 LO, .int .i64 HI])
          have hB5 : Below w.heap.size w (World.alloc w4 (.cells #[.int .i64 LO, .int .i64 HI] 23)) := (hB4.alloc hB4.size _)
          obtain ⟨BS, hBS⟩ : ∃ B, B = w4.heap.size := ⟨_, rfl⟩
          clear bT4 bC4 hB4
          generalize World.alloc w4 _ = w5 at *
          rw [← hBS]
          rw [← hBS] at bS5
          clear hBS
          refine (HCE.out _ hB5).mono ?_
          rintro e w6 ⟨rfl, hb6⟩
          have bT6 := bT5.below hb6
          have bC6 := bC5.below hb6
          have bS6 := bS5.below hb6
          have hB6 := hB5.trans (hb6.mono hB5.size)
          clear bT5 bC5 bS5 hB5
          have kT0 := bT6.cell 0 rfl
          have kT1 := bT6.cell 1 rfl
          have kT2 := bT6.cell 2 rfl
          have kT3 := bT6.cell 3 rfl
          have kT4 := bT6.cell 4 rfl
          have kT5 := bT6.cell 5 rfl
          have kT6 := bT6.cell 6 rfl
          have kT7 := bT6.cell 7 rfl
          have kT8 := bT6.cell 8 rfl
          have kT9 := bT6.cell 9 rfl
          have lT := bT6.lt
          have kC0 := bC6.cell 0 rfl
          have kC1 := bC6.cell 1 rfl
          have lC := bC6.lt
          have kS0 := bS6.cell 0 rfl
          have kS1 := bS6.cell 1 rfl
          have lS := bS6.lt
          go_wp2_with fail
          clear kT0 kT1 kT2 kT3 kT4 kT5 kT6 kT7 kT8 kT9 lT kC0 kC1 lC kS0 kS1 lS
          refine (HKN.out _).mono ?_
          rintro e wq ⟨rfl, hq⟩
          have hq := hq.symm
          subst hq
          have kT0 := bT6.cell 0 rfl
          have kT1 := bT6.cell 1 rfl
          have kT2 := bT6.cell 2 rfl
          have kT3 := bT6.cell 3 rfl
          have kT4 := bT6.cell 4 rfl
          have kT5 := bT6.cell 5 rfl
          have kT6 := bT6.cell 6 rfl
          have kT7 := bT6.cell 7 rfl
          have kT8 := bT6.cell 8 rfl
          have kT9 := bT6.cell 9 rfl
          have lT := bT6.lt
          have kC0 := bC6.cell 0 rfl
          have kC1 := bC6.cell 1 rfl
          have lC := bC6.lt
          have kS0 := bS6.cell 0 rfl
          have kS1 := bS6.cell 1 rfl
          have lS := bS6.lt
          go_wp2_with fail
          clear kT0 kT1 kT2 kT3 kT4 kT5 kT6 kT7 kT8 kT9 lT kC0 kC1 lC kS0 kS1 lS
          have bT7 := (bT6.alloc (.cells #[.int .i64 sz, .int .i64 (mo + more)] 35))
          have bC7 := (bC6.alloc (.cells #[.int .i64 sz, .int .i64 (mo + more)] 35))
          have bS7 := (bS6.alloc (.cells #[.int .i64 sz, .int .i64 (mo + more)] 35))
          have bD7 := (BoxS.new w6 35 #[.int .i64 sz, .int .i64 (mo + more)])
          have hB7 : Below w.heap.size w (World.alloc w6 (.cells #[.int .i64 sz, .int .i64 (mo + more)] 35)) := (hB6.alloc hB6.size _)
          obtain ⟨BD, hBD⟩ : ∃ B, B = w6.heap.size := ⟨_, rfl⟩
          clear bT6 bC6 bS6 hB6
          generalize World.alloc w6 _ = w7 at *
          rw [← hBD]
          rw [← hBD] at bD7
          clear hBD
          refine (HIC2.out _).mono ?_
          rintro e w8 ⟨rfl, hb8⟩
          have bT8 := bT7.below hb8
          have bC8 := bC7.below hb8
          have bS8 := bS7.below hb8
          have bD8 := bD7.below hb8
          have hB8 := hB7.trans (hb8.mono hB7.size)
          clear bT7 bC7 bS7 bD7 hB7
          have kT0 := bT8.cell 0 rfl
          have kT1 := bT8.cell 1 rfl
          have kT2 := bT8.cell 2 rfl
          have kT3 := bT8.cell 3 rfl
          have kT4 := bT8.cell 4 rfl
          have kT5 := bT8.cell 5 rfl
          have kT6 := bT8.cell 6 rfl
          have kT7 := bT8.cell 7 rfl
          have kT8 := bT8.cell 8 rfl
          have kT9 := bT8.cell 9 rfl
          have lT := bT8.lt
          have kC0 := bC8.cell 0 rfl
          have kC1 := bC8.cell 1 rfl
          have lC := bC8.lt
          have kS0 := bS8.cell 0 rfl
          have kS1 := bS8.cell 1 rfl
          have lS := bS8.lt
          have kD0 := bD8.cell 0 rfl
          have kD1 := bD8.cell 1 rfl
          have lD := bD8.lt
          go_wp2_with fail
          clear kT0 kT1 kT2 kT3 kT4 kT5 kT6 kT7 kT8 kT9 lT kC0 kC1 lC kS0 kS1 lS kD0 kD1 lD
          refine (HCE2.out _ hB8).mono ?_
          rintro e w9 ⟨rfl, hb9⟩
          have bT9 := bT8.below hb9
          have bC9 := bC8.below hb9
          have bS9 := bS8.below hb9
          have bD9 := bD8.below hb9
          have hB9 := hB8.trans (hb9.mono hB8.size)
          clear bT8 bC8 bS8 bD8 hB8
          have kT0 := bT9.cell 0 rfl
          have kT1 := bT9.cell 1 rfl
          have kT2 := bT9.cell 2 rfl
          have kT3 := bT9.cell 3 rfl
          have kT4 := bT9.cell 4 rfl
          have kT5 := bT9.cell 5 rfl
          have kT6 := bT9.cell 6 rfl
          have kT7 := bT9.cell 7 rfl
          have kT8 := bT9.cell 8 rfl
          have kT9 := bT9.cell 9 rfl
          have lT := bT9.lt
          have kC0 := bC9.cell 0 rfl
          have kC1 := bC9.cell 1 rfl
          have lC := bC9.lt
          have kS0 := bS9.cell 0 rfl
          have kS1 := bS9.cell 1 rfl
          have lS := bS9.lt
          have kD0 := bD9.cell 0 rfl
          have kD1 := bD9.cell 1 rfl
          have lD := bD9.lt
          go_wp2_with fail
          clear kT0 kT1 kT2 kT3 kT4 kT5 kT6 kT7 kT8 kT9 lT kC0 kC1 lC kS0 kS1 lS kD0 kD1 lD
          refine (HWK.out _).mono ?_
          rintro e w10 ⟨rfl, hb10⟩
          have bT10 := bT9.below hb10
          have bC10 := bC9.below hb10
          have bS10 := bS9.below hb10
          have bD10 := bD9.below hb10
          have hB10 := hB9.trans (hb10.mono hB9.size)
          clear bT9 bC9 bS9 bD9 hB9
          go_wp2_with fail
          go_returns
          exact ⟨rfl, hB10⟩
    · skip
      rw [if_neg h1, if_neg h2] at hN0
      rw [hN0] at HCE
      have f1 : decide (HI ≤ mo) = false := decide_eq_false h1
      have f2 : decide (mo < LO) = false := decide_eq_false h2
      cases hc2 : C2
      · rw [hc2] at HIC2
        clear HCE2 hN1 hN0 hc2
        go_enter Try.func4, Try.ntmps4
        go_wp2_with fail
        have bT1 := ((BoxS.new w 28 #[.int .i64 full, .int .i64 read, .int .i64 slip, .int .i64 skew, .int .i64 circ, .int .i64 glo, .int .i64 ghi, .int .i64 wrn, .int .i64 gain, .slice A ts.length c]).alloc (.cells #[.int .i64 sz, .int .i64 mo] 35))
        have bC1 := (BoxS.new (World.alloc w (.cells #[.int .i64 full, .int .i64 read, .int .i64 slip, .int .i64 skew, .int .i64 circ, .int .i64 glo, .int .i64 ghi, .int .i64 wrn, .int .i64 gain, .slice A ts.length c] 28)) 35 #[.int .i64 sz, .int .i64 mo])
        have hB1 : Below w.heap.size w (World.alloc (World.alloc w (.cells #[.int .i64 full, .int .i64 read, .int .i64 slip, .int .i64 skew, .int .i64 circ, .int .i64 glo, .int .i64 ghi, .int .i64 wrn, .int .i64 gain, .slice A ts.length c] 28)) (.cells #[.int .i64 sz, .int .i64 mo] 35)) := by (repeat' (first | (with_reducible exact Below.refl _ _) | (with_reducible assumption) | (with_reducible refine Below.alloc ?_ ?_ _) | (with_reducible refine Below.drew ?_) | (with_reducible refine Below.setCell ?_ ?_ _) | go_size | (exact (by simp)) | omega))
        simp only [World.size_alloc] at bC1
        generalize World.alloc (World.alloc w _) _ = w1 at *
        refine (HRD.out _ hB1).mono ?_
        rintro e w2 ⟨rfl, hb2⟩
        have bT2 := bT1.below hb2
        have bC2 := bC1.below hb2
        have hB2 := hB1.trans (hb2.mono hB1.size)
        clear bT1 bC1 hB1
        have kT0 := bT2.cell 0 rfl
        have kT1 := bT2.cell 1 rfl
        have kT2 := bT2.cell 2 rfl
        have kT3 := bT2.cell 3 rfl
        have kT4 := bT2.cell 4 rfl
        have kT5 := bT2.cell 5 rfl
        have kT6 := bT2.cell 6 rfl
        have kT7 := bT2.cell 7 rfl
        have kT8 := bT2.cell 8 rfl
        have kT9 := bT2.cell 9 rfl
        have lT := bT2.lt
        have kC0 := bC2.cell 0 rfl
        have kC1 := bC2.cell 1 rfl
        have lC := bC2.lt
        go_wp2_with fail
        clear kT0 kT1 kT2 kT3 kT4 kT5 kT6 kT7 kT8 kT9 lT kC0 kC1 lC
        refine (HIC.out _).mono ?_
        rintro e w3 ⟨rfl, hb3⟩
        have bT3 := bT2.below hb3
        have bC3 := bC2.below hb3
        have hB3 := hB2.trans (hb3.mono hB2.size)
        clear bT2 bC2 hB2
        have kT0 := bT3.cell 0 rfl
        have kT1 := bT3.cell 1 rfl
        have kT2 := bT3.cell 2 rfl
        have kT3 := bT3.cell 3 rfl
        have kT4 := bT3.cell 4 rfl
        have kT5 := bT3.cell 5 rfl
        have kT6 := bT3.cell 6 rfl
        have kT7 := bT3.cell 7 rfl
        have kT8 := bT3.cell 8 rfl
        have kT9 := bT3.cell 9 rfl
        have lT := bT3.lt
        have kC0 := bC3.cell 0 rfl
        have kC1 := bC3.cell 1 rfl
        have lC := bC3.lt
        go_wp2_with fail
        clear kT0 kT1 kT2 kT3 kT4 kT5 kT6 kT7 kT8 kT9 lT kC0 kC1 lC
        refine (HER.out _ hB3).mono ?_
        rintro e w4 ⟨rfl, hb4⟩
        have bT4 := bT3.below hb4
        have bC4 := bC3.below hb4
        have hB4 := hB3.trans (hb4.mono hB3.size)
        clear bT3 bC3 hB3
        have kT0 := bT4.cell 0 rfl
        have kT1 := bT4.cell 1 rfl
        have kT2 := bT4.cell 2 rfl
        have kT3 := bT4.cell 3 rfl
        have kT4 := bT4.cell 4 rfl
        have kT5 := bT4.cell 5 rfl
        have kT6 := bT4.cell 6 rfl
        have kT7 := bT4.cell 7 rfl
        have kT8 := bT4.cell 8 rfl
        have kT9 := bT4.cell 9 rfl
        have lT := bT4.lt
        have kC0 := bC4.cell 0 rfl
        have kC1 := bC4.cell 1 rfl
        have lC := bC4.lt
        go_wp2_with fail
        clear kT0 kT1 kT2 kT3 kT4 kT5 kT6 kT7 kT8 kT9 lT kC0 kC1 lC
        have bT5 := (bT4.alloc (.cells #[.int .i64 LO, .int .i64 HI] 23))
        have bC5 := (bC4.alloc (.cells #[.int .i64 LO, .int .i64 HI] 23))
        have bS5 := (BoxS.new w4 23 #[.int .i64 LO, .int .i64 HI])
        have hB5 : Below w.heap.size w (World.alloc w4 (.cells #[.int .i64 LO, .int .i64 HI] 23)) := (hB4.alloc hB4.size _)
        obtain ⟨BS, hBS⟩ : ∃ B, B = w4.heap.size := ⟨_, rfl⟩
        clear bT4 bC4 hB4
        generalize World.alloc w4 _ = w5 at *
        rw [← hBS]
        rw [← hBS] at bS5
        clear hBS
        refine (HCE.out _ hB5).mono ?_
        rintro e w6 ⟨rfl, hb6⟩
        have bT6 := bT5.below hb6
        have bC6 := bC5.below hb6
        have bS6 := bS5.below hb6
        have hB6 := hB5.trans (hb6.mono hB5.size)
        clear bT5 bC5 bS5 hB5
        have kT0 := bT6.cell 0 rfl
        have kT1 := bT6.cell 1 rfl
        have kT2 := bT6.cell 2 rfl
        have kT3 := bT6.cell 3 rfl
        have kT4 := bT6.cell 4 rfl
        have kT5 := bT6.cell 5 rfl
        have kT6 := bT6.cell 6 rfl
        have kT7 := bT6.cell 7 rfl
        have kT8 := bT6.cell 8 rfl
        have kT9 := bT6.cell 9 rfl
        have lT := bT6.lt
        have kC0 := bC6.cell 0 rfl
        have kC1 := bC6.cell 1 rfl
        have lC := bC6.lt
        have kS0 := bS6.cell 0 rfl
        have kS1 := bS6.cell 1 rfl
        have lS := bS6.lt
        go_wp2_with fail
        clear kT0 kT1 kT2 kT3 kT4 kT5 kT6 kT7 kT8 kT9 lT kC0 kC1 lC kS0 kS1 lS
        refine (HKN.out _).mono ?_
        rintro e wq ⟨rfl, hq⟩
        have hq := hq.symm
        subst hq
        have kT0 := bT6.cell 0 rfl
        have kT1 := bT6.cell 1 rfl
        have kT2 := bT6.cell 2 rfl
        have kT3 := bT6.cell 3 rfl
        have kT4 := bT6.cell 4 rfl
        have kT5 := bT6.cell 5 rfl
        have kT6 := bT6.cell 6 rfl
        have kT7 := bT6.cell 7 rfl
        have kT8 := bT6.cell 8 rfl
        have kT9 := bT6.cell 9 rfl
        have lT := bT6.lt
        have kC0 := bC6.cell 0 rfl
        have kC1 := bC6.cell 1 rfl
        have lC := bC6.lt
        have kS0 := bS6.cell 0 rfl
        have kS1 := bS6.cell 1 rfl
        have lS := bS6.lt
        go_wp2_with fail
        clear kT0 kT1 kT2 kT3 kT4 kT5 kT6 kT7 kT8 kT9 lT kC0 kC1 lC kS0 kS1 lS
        have bT7 := (bT6.alloc (.cells #[.int .i64 sz, .int .i64 (mo + more)] 35))
        have bC7 := (bC6.alloc (.cells #[.int .i64 sz, .int .i64 (mo + more)] 35))
        have bS7 := (bS6.alloc (.cells #[.int .i64 sz, .int .i64 (mo + more)] 35))
        have bD7 := (BoxS.new w6 35 #[.int .i64 sz, .int .i64 (mo + more)])
        have hB7 : Below w.heap.size w (World.alloc w6 (.cells #[.int .i64 sz, .int .i64 (mo + more)] 35)) := (hB6.alloc hB6.size _)
        obtain ⟨BD, hBD⟩ : ∃ B, B = w6.heap.size := ⟨_, rfl⟩
        clear bT6 bC6 bS6 hB6
        generalize World.alloc w6 _ = w7 at *
        rw [← hBD]
        rw [← hBD] at bD7
        clear hBD
        refine (HIC2.out _).mono ?_
        rintro e w8 ⟨rfl, hb8⟩
        have bT8 := bT7.below hb8
        have bC8 := bC7.below hb8
        have bS8 := bS7.below hb8
        have bD8 := bD7.below hb8
        have hB8 := hB7.trans (hb8.mono hB7.size)
        clear bT7 bC7 bS7 bD7 hB7
        have kT0 := bT8.cell 0 rfl
        have kT1 := bT8.cell 1 rfl
        have kT2 := bT8.cell 2 rfl
        have kT3 := bT8.cell 3 rfl
        have kT4 := bT8.cell 4 rfl
        have kT5 := bT8.cell 5 rfl
        have kT6 := bT8.cell 6 rfl
        have kT7 := bT8.cell 7 rfl
        have kT8 := bT8.cell 8 rfl
        have kT9 := bT8.cell 9 rfl
        have lT := bT8.lt
        have kC0 := bC8.cell 0 rfl
        have kC1 := bC8.cell 1 rfl
        have lC := bC8.lt
        have kS0 := bS8.cell 0 rfl
        have kS1 := bS8.cell 1 rfl
        have lS := bS8.lt
        have kD0 := bD8.cell 0 rfl
        have kD1 := bD8.cell 1 rfl
        have lD := bD8.lt
        go_wp2_with fail
        clear kT0 kT1 kT2 kT3 kT4 kT5 kT6 kT7 kT8 kT9 lT kC0 kC1 lC kS0 kS1 lS kD0 kD1 lD
        refine (HWK.out _).mono ?_
        rintro e w9 ⟨rfl, hb9⟩
        have bT9 := bT8.below hb9
        have bC9 := bC8.below hb9
        have bS9 := bS8.below hb9
        have bD9 := bD8.below hb9
        have hB9 := hB8.trans (hb9.mono hB8.size)
        clear bT8 bC8 bS8 bD8 hB8
        go_wp2_with fail
        go_returns
        exact ⟨rfl, hB9⟩
      · rw [hc2] at HIC2
        replace HCE2 := Lib.hid (HCE2.out hc2)
        clear hc2
        by_cases g1 : HI ≤ mo + more
        · rw [if_pos g1] at hN1
          rw [hN1] at HCE2
          clear hN0 hN1
          go_enter Try.func4, Try.ntmps4
          go_wp2_with fail
          have bT1 := ((BoxS.new w 28 #[.int .i64 full, .int .i64 read, .int .i64 slip, .int .i64 skew, .int .i64 circ, .int .i64 glo, .int .i64 ghi, .int .i64 wrn, .int .i64 gain, .slice A ts.length c]).alloc (.cells #[.int .i64 sz, .int .i64 mo] 35))
          have bC1 := (BoxS.new (World.alloc w (.cells #[.int .i64 full, .int .i64 read, .int .i64 slip, .int .i64 skew, .int .i64 circ, .int .i64 glo, .int .i64 ghi, .int .i64 wrn, .int .i64 gain, .slice A ts.length c] 28)) 35 #[.int .i64 sz, .int .i64 mo])
          have hB1 : Below w.heap.size w (World.alloc (World.alloc w (.cells #[.int .i64 full, .int .i64 read, .int .i64 slip, .int .i64 skew, .int .i64 circ, .int .i64 glo, .int .i64 ghi, .int .i64 wrn, .int .i64 gain, .slice A ts.length c] 28)) (.cells #[.int .i64 sz, .int .i64 mo] 35)) := by (repeat' (first | (with_reducible exact Below.refl _ _) | (with_reducible assumption) | (with_reducible refine Below.alloc ?_ ?_ _) | (with_reducible refine Below.drew ?_) | (with_reducible refine Below.setCell ?_ ?_ _) | go_size | (exact (by simp)) | omega))
          simp only [World.size_alloc] at bC1
          generalize World.alloc (World.alloc w _) _ = w1 at *
          refine (HRD.out _ hB1).mono ?_
          rintro e w2 ⟨rfl, hb2⟩
          have bT2 := bT1.below hb2
          have bC2 := bC1.below hb2
          have hB2 := hB1.trans (hb2.mono hB1.size)
          clear bT1 bC1 hB1
          have kT0 := bT2.cell 0 rfl
          have kT1 := bT2.cell 1 rfl
          have kT2 := bT2.cell 2 rfl
          have kT3 := bT2.cell 3 rfl
          have kT4 := bT2.cell 4 rfl
          have kT5 := bT2.cell 5 rfl
          have kT6 := bT2.cell 6 rfl
          have kT7 := bT2.cell 7 rfl
          have kT8 := bT2.cell 8 rfl
          have kT9 := bT2.cell 9 rfl
          have lT := bT2.lt
          have kC0 := bC2.cell 0 rfl
          have kC1 := bC2.cell 1 rfl
          have lC := bC2.lt
          go_wp2_with fail
          clear kT0 kT1 kT2 kT3 kT4 kT5 kT6 kT7 kT8 kT9 lT kC0 kC1 lC
          refine (HIC.out _).mono ?_
          rintro e w3 ⟨rfl, hb3⟩
          have bT3 := bT2.below hb3
          have bC3 := bC2.below hb3
          have hB3 := hB2.trans (hb3.mono hB2.size)
          clear bT2 bC2 hB2
          have kT0 := bT3.cell 0 rfl
          have kT1 := bT3.cell 1 rfl
          have kT2 := bT3.cell 2 rfl
          have kT3 := bT3.cell 3 rfl
          have kT4 := bT3.cell 4 rfl
          have kT5 := bT3.cell 5 rfl
          have kT6 := bT3.cell 6 rfl
          have kT7 := bT3.cell 7 rfl
          have kT8 := bT3.cell 8 rfl
          have kT9 := bT3.cell 9 rfl
          have lT := bT3.lt
          have kC0 := bC3.cell 0 rfl
          have kC1 := bC3.cell 1 rfl
          have lC := bC3.lt
          go_wp2_with fail
          clear kT0 kT1 kT2 kT3 kT4 kT5 kT6 kT7 kT8 kT9 lT kC0 kC1 lC
          refine (HER.out _ hB3).mono ?_
          rintro e w4 ⟨rfl, hb4⟩
          have bT4 := bT3.below hb4
          have bC4 := bC3.below hb4
          have hB4 := hB3.trans (hb4.mono hB3.size)
          clear bT3 bC3 hB3
          have kT0 := bT4.cell 0 rfl
          have kT1 := bT4.cell 1 rfl
          have kT2 := bT4.cell 2 rfl
          have kT3 := bT4.cell 3 rfl
          have kT4 := bT4.cell 4 rfl
          have kT5 := bT4.cell 5 rfl
          have kT6 := bT4.cell 6 rfl
          have kT7 := bT4.cell 7 rfl
          have kT8 := bT4.cell 8 rfl
          have kT9 := bT4.cell 9 rfl
          have lT := bT4.lt
          have kC0 := bC4.cell 0 rfl
          have kC1 := bC4.cell 1 rfl
          have lC := bC4.lt
          go_wp2_with fail
          clear kT0 kT1 kT2 kT3 kT4 kT5 kT6 kT7 kT8 kT9 lT kC0 kC1 lC
          have bT5 := (bT4.alloc (.cells #[.int .i64 LO, .int .i64 HI] 23))
          have bC5 := (bC4.alloc (.cells #[.int .i64 LO, .int .i64 HI] 23))
          have bS5 := (BoxS.new w4 23 #[.int .i64 LO, .int .i64 HI])
          have hB5 : Below w.heap.size w (World.alloc w4 (.cells #[.int .i64 LO, .int .i64 HI] 23)) := (hB4.alloc hB4.size _)
          obtain ⟨BS, hBS⟩ : ∃ B, B = w4.heap.size := ⟨_, rfl⟩
          clear bT4 bC4 hB4
          generalize World.alloc w4 _ = w5 at *
          rw [← hBS]
          rw [← hBS] at bS5
          clear hBS
          refine (HCE.out _ hB5).mono ?_
          rintro e w6 ⟨rfl, hb6⟩
          have bT6 := bT5.below hb6
          have bC6 := bC5.below hb6
          have bS6 := bS5.below hb6
          have hB6 := hB5.trans (hb6.mono hB5.size)
          clear bT5 bC5 bS5 hB5
          have kT0 := bT6.cell 0 rfl
          have kT1 := bT6.cell 1 rfl
          have kT2 := bT6.cell 2 rfl
          have kT3 := bT6.cell 3 rfl
          have kT4 := bT6.cell 4 rfl
          have kT5 := bT6.cell 5 rfl
          have kT6 := bT6.cell 6 rfl
          have kT7 := bT6.cell 7 rfl
          have kT8 := bT6.cell 8 rfl
          have kT9 := bT6.cell 9 rfl
          have lT := bT6.lt
          have kC0 := bC6.cell 0 rfl
          have kC1 := bC6.cell 1 rfl
          have lC := bC6.lt
          have kS0 := bS6.cell 0 rfl
          have kS1 := bS6.cell 1 rfl
          have lS := bS6.lt
          go_wp2_with fail
          clear kT0 kT1 kT2 kT3 kT4 kT5 kT6 kT7 kT8 kT9 lT kC0 kC1 lC kS0 kS1 lS
          refine (HKN.out _).mono ?_
          rintro e wq ⟨rfl, hq⟩
          have hq := hq.symm
          subst hq
          have kT0 := bT6.cell 0 rfl
          have kT1 := bT6.cell 1 rfl
          have kT2 := bT6.cell 2 rfl
          have kT3 := bT6.cell 3 rfl
          have kT4 := bT6.cell 4 rfl
          have kT5 := bT6.cell 5 rfl
          have kT6 := bT6.cell 6 rfl
          have kT7 := bT6.cell 7 rfl
          have kT8 := bT6.cell 8 rfl
          have kT9 := bT6.cell 9 rfl
          have lT := bT6.lt
          have kC0 := bC6.cell 0 rfl
          have kC1 := bC6.cell 1 rfl
          have lC := bC6.lt
          have kS0 := bS6.cell 0 rfl
          have kS1 := bS6.cell 1 rfl
          have lS := bS6.lt
          go_wp2_with fail
          clear kT0 kT1 kT2 kT3 kT4 kT5 kT6 kT7 kT8 kT9 lT kC0 kC1 lC kS0 kS1 lS
          have bT7 := (bT6.alloc (.cells #[.int .i64 sz, .int .i64 (mo + more)] 35))
          have bC7 := (bC6.alloc (.cells #[.int .i64 sz, .int .i64 (mo + more)] 35))
          have bS7 := (bS6.alloc (.cells #[.int .i64 sz, .int .i64 (mo + more)] 35))
          have bD7 := (BoxS.new w6 35 #[.int .i64 sz, .int .i64 (mo + more)])
          have hB7 : Below w.heap.size w (World.alloc w6 (.cells #[.int .i64 sz, .int .i64 (mo + more)] 35)) := (hB6.alloc hB6.size _)
          obtain ⟨BD, hBD⟩ : ∃ B, B = w6.heap.size := ⟨_, rfl⟩
          clear bT6 bC6 bS6 hB6
          generalize World.alloc w6 _ = w7 at *
          rw [← hBD]
          rw [← hBD] at bD7
          clear hBD
          refine (HIC2.out _).mono ?_
          rintro e w8 ⟨rfl, hb8⟩
          have bT8 := bT7.below hb8
          have bC8 := bC7.below hb8
          have bS8 := bS7.below hb8
          have bD8 := bD7.below hb8
          have hB8 := hB7.trans (hb8.mono hB7.size)
          clear bT7 bC7 bS7 bD7 hB7
          have kT0 := bT8.cell 0 rfl
          have kT1 := bT8.cell 1 rfl
          have kT2 := bT8.cell 2 rfl
          have kT3 := bT8.cell 3 rfl
          have kT4 := bT8.cell 4 rfl
          have kT5 := bT8.cell 5 rfl
          have kT6 := bT8.cell 6 rfl
          have kT7 := bT8.cell 7 rfl
          have kT8 := bT8.cell 8 rfl
          have kT9 := bT8.cell 9 rfl
          have lT := bT8.lt
          have kC0 := bC8.cell 0 rfl
          have kC1 := bC8.cell 1 rfl
          have lC := bC8.lt
          have kS0 := bS8.cell 0 rfl
          have kS1 := bS8.cell 1 rfl
          have lS := bS8.lt
          have kD0 := bD8.cell 0 rfl
          have kD1 := bD8.cell 1 rfl
          have lD := bD8.lt
          go_wp2_with fail
          clear kT0 kT1 kT2 kT3 kT4 kT5 kT6 kT7 kT8 kT9 lT kC0 kC1 lC kS0 kS1 lS kD0 kD1 lD
          refine (HCE2.out _ hB8).mono ?_
          rintro e w9 ⟨rfl, hb9⟩
          have bT9 := bT8.below hb9
          have bC9 := bC8.below hb9
          have bS9 := bS8.below hb9
          have bD9 := bD8.below hb9
          have hB9 := hB8.trans (hb9.mono hB8.size)
          clear bT8 bC8 bS8 bD8 hB8
          have kT0 := bT9.cell 0 rfl
          have kT1 := bT9.cell 1 rfl
          have kT2 := bT9.cell 2 rfl
          have kT3 := bT9.cell 3 rfl
          have kT4 := bT9.cell 4 rfl
          have kT5 := bT9.cell 5 rfl
          have kT6 := bT9.cell 6 rfl
          have kT7 := bT9.cell 7 rfl
          have kT8 := bT9.cell 8 rfl
          have kT9 := bT9.cell 9 rfl
          have lT := bT9.lt
          have kC0 := bC9.cell 0 rfl
          have kC1 := bC9.cell 1 rfl
          have lC := bC9.lt
          have kS0 := bS9.cell 0 rfl
          have kS1 := bS9.cell 1 rfl
          have lS := bS9.lt
          have kD0 := bD9.cell 0 rfl
          have kD1 := bD9.cell 1 rfl
          have lD := bD9.lt
          go_wp2_with fail
          clear kT0 kT1 kT2 kT3 kT4 kT5 kT6 kT7 kT8 kT9 lT kC0 kC1 lC kS0 kS1 lS kD0 kD1 lD
          refine (HWK.out _).mono ?_
          rintro e w10 ⟨rfl, hb10⟩
          have bT10 := bT9.below hb10
          have bC10 := bC9.below hb10
          have bS10 := bS9.below hb10
          have bD10 := bD9.below hb10
          have hB10 := hB9.trans (hb10.mono hB9.size)
          clear bT9 bC9 bS9 bD9 hB9
          go_wp2_with fail
          go_returns
          exact ⟨rfl, hB10⟩
        · rw [if_neg g1, if_neg (by omega)] at hN1
          rw [hN1] at HCE2
          clear hN0 hN1
          go_enter Try.func4, Try.ntmps4
          go_wp2_with fail
          have bT1 := ((BoxS.new w 28 #[.int .i64 full, .int .i64 read, .int .i64 slip, .int .i64 skew, .int .i64 circ, .int .i64 glo, .int .i64 ghi, .int .i64 wrn, .int .i64 gain, .slice A ts.length c]).alloc (.cells #[.int .i64 sz, .int .i64 mo] 35))
          have bC1 := (BoxS.new (World.alloc w (.cells #[.int .i64 full, .int .i64 read, .int .i64 slip, .int .i64 skew, .int .i64 circ, .int .i64 glo, .int .i64 ghi, .int .i64 wrn, .int .i64 gain, .slice A ts.length c] 28)) 35 #[.int .i64 sz, .int .i64 mo])
          have hB1 : Below w.heap.size w (World.alloc (World.alloc w (.cells #[.int .i64 full, .int .i64 read, .int .i64 slip, .int .i64 skew, .int .i64 circ, .int .i64 glo, .int .i64 ghi, .int .i64 wrn, .int .i64 gain, .slice A ts.length c] 28)) (.cells #[.int .i64 sz, .int .i64 mo] 35)) := by (repeat' (first | (with_reducible exact Below.refl _ _) | (with_reducible assumption) | (with_reducible refine Below.alloc ?_ ?_ _) | (with_reducible refine Below.drew ?_) | (with_reducible refine Below.setCell ?_ ?_ _) | go_size | (exact (by simp)) | omega))
          simp only [World.size_alloc] at bC1
          generalize World.alloc (World.alloc w _) _ = w1 at *
          refine (HRD.out _ hB1).mono ?_
          rintro e w2 ⟨rfl, hb2⟩
          have bT2 := bT1.below hb2
          have bC2 := bC1.below hb2
          have hB2 := hB1.trans (hb2.mono hB1.size)
          clear bT1 bC1 hB1
          have kT0 := bT2.cell 0 rfl
          have kT1 := bT2.cell 1 rfl
          have kT2 := bT2.cell 2 rfl
          have kT3 := bT2.cell 3 rfl
          have kT4 := bT2.cell 4 rfl
          have kT5 := bT2.cell 5 rfl
          have kT6 := bT2.cell 6 rfl
          have kT7 := bT2.cell 7 rfl
          have kT8 := bT2.cell 8 rfl
          have kT9 := bT2.cell 9 rfl
          have lT := bT2.lt
          have kC0 := bC2.cell 0 rfl
          have kC1 := bC2.cell 1 rfl
          have lC := bC2.lt
          go_wp2_with fail
          clear kT0 kT1 kT2 kT3 kT4 kT5 kT6 kT7 kT8 kT9 lT kC0 kC1 lC
          refine (HIC.out _).mono ?_
          rintro e w3 ⟨rfl, hb3⟩
          have bT3 := bT2.below hb3
          have bC3 := bC2.below hb3
          have hB3 := hB2.trans (hb3.mono hB2.size)
          clear bT2 bC2 hB2
          have kT0 := bT3.cell 0 rfl
          have kT1 := bT3.cell 1 rfl
          have kT2 := bT3.cell 2 rfl
          have kT3 := bT3.cell 3 rfl
          have kT4 := bT3.cell 4 rfl
          have kT5 := bT3.cell 5 rfl
          have kT6 := bT3.cell 6 rfl
          have kT7 := bT3.cell 7 rfl
          have kT8 := bT3.cell 8 rfl
          have kT9 := bT3.cell 9 rfl
          have lT := bT3.lt
          have kC0 := bC3.cell 0 rfl
          have kC1 := bC3.cell 1 rfl
          have lC := bC3.lt
          go_wp2_with fail
          clear kT0 kT1 kT2 kT3 kT4 kT5 kT6 kT7 kT8 kT9 lT kC0 kC1 lC
          refine (HER.out _ hB3).mono ?_
          rintro e w4 ⟨rfl, hb4⟩
          have bT4 := bT3.below hb4
          have bC4 := bC3.below hb4
          have hB4 := hB3.trans (hb4.mono hB3.size)
          clear bT3 bC3 hB3
          have kT0 := bT4.cell 0 rfl
          have kT1 := bT4.cell 1 rfl
          have kT2 := bT4.cell 2 rfl
          have kT3 := bT4.cell 3 rfl
          have kT4 := bT4.cell 4 rfl
          have kT5 := bT4.cell 5 rfl
          have kT6 := bT4.cell 6 rfl
          have kT7 := bT4.cell 7 rfl
          have kT8 := bT4.cell 8 rfl
          have kT9 := bT4.cell 9 rfl
          have lT := bT4.lt
          have kC0 := bC4.cell 0 rfl
          have kC1 := bC4.cell 1 rfl
          have lC := bC4.lt
          go_wp2_with fail
          clear kT0 kT1 kT2 kT3 kT4 kT5 kT6 kT7 kT8 kT9 lT kC0 kC1 lC
          have bT5 := (bT4.alloc (.cells #[.int .i64 LO, .int .i64 HI] 23))
          have bC5 := (bC4.alloc (.cells #[.int .i64 LO, .int .i64 HI] 23))
          have bS5 := (BoxS.new w4 23 #[.int .i64 LO, .int .i64 HI])
          have hB5 : Below w.heap.size w (World.alloc w4 (.cells #[.int .i64 LO, .int .i64 HI] 23)) := (hB4.alloc hB4.size _)
          obtain ⟨BS, hBS⟩ : ∃ B, B = w4.heap.size := ⟨_, rfl⟩
          clear bT4 bC4 hB4
          generalize World.alloc w4 _ = w5 at *
          rw [← hBS]
          rw [← hBS] at bS5
          clear hBS
          refine (HCE.out _ hB5).mono ?_
          rintro e w6 ⟨rfl, hb6⟩
          have bT6 := bT5.below hb6
          have bC6 := bC5.below hb6
          have bS6 := bS5.below hb6
          have hB6 := hB5.trans (hb6.mono hB5.size)
          clear bT5 bC5 bS5 hB5
          have kT0 := bT6.cell 0 rfl
          have kT1 := bT6.cell 1 rfl
          have kT2 := bT6.cell 2 rfl
          have kT3 := bT6.cell 3 rfl
          have kT4 := bT6.cell 4 rfl
          have kT5 := bT6.cell 5 rfl
          have kT6 := bT6.cell 6 rfl
          have kT7 := bT6.cell 7 rfl
          have kT8 := bT6.cell 8 rfl
          have kT9 := bT6.cell 9 rfl
          have lT := bT6.lt
          have kC0 := bC6.cell 0 rfl
          have kC1 := bC6.cell 1 rfl
          have lC := bC6.lt
          have kS0 := bS6.cell 0 rfl
          have kS1 := bS6.cell 1 rfl
          have lS := bS6.lt
          go_wp2_with fail
          clear kT0 kT1 kT2 kT3 kT4 kT5 kT6 kT7 kT8 kT9 lT kC0 kC1 lC kS0 kS1 lS
          refine (HKN.out _).mono ?_
          rintro e wq ⟨rfl, hq⟩
          have hq := hq.symm
          subst hq
          have kT0 := bT6.cell 0 rfl
          have kT1 := bT6.cell 1 rfl
          have kT2 := bT6.cell 2 rfl
          have kT3 := bT6.cell 3 rfl
          have kT4 := bT6.cell 4 rfl
          have kT5 := bT6.cell 5 rfl
          have kT6 := bT6.cell 6 rfl
          have kT7 := bT6.cell 7 rfl
          have kT8 := bT6.cell 8 rfl
          have kT9 := bT6.cell 9 rfl
          have lT := bT6.lt
          have kC0 := bC6.cell 0 rfl
          have kC1 := bC6.cell 1 rfl
          have lC := bC6.lt
          have kS0 := bS6.cell 0 rfl
          have kS1 := bS6.cell 1 rfl
          have lS := bS6.lt
          go_wp2_with fail
          clear kT0 kT1 kT2 kT3 kT4 kT5 kT6 kT7 kT8 kT9 lT kC0 kC1 lC kS0 kS1 lS
          have bT7 := (bT6.alloc (.cells #[.int .i64 sz, .int .i64 (mo + more)] 35))
          have bC7 := (bC6.alloc (.cells #[.int .i64 sz, .int .i64 (mo + more)] 35))
          have bS7 := (bS6.alloc (.cells #[.int .i64 sz, .int .i64 (mo + more)] 35))
          have bD7 := (BoxS.new w6 35 #[.int .i64 sz, .int .i64 (mo + more)])
          have hB7 : Below w.heap.size w (World.alloc w6 (.cells #[.int .i64 sz, .int .i64 (mo + more)] 35)) := (hB6.alloc hB6.size _)
          obtain ⟨BD, hBD⟩ : ∃ B, B = w6.heap.size := ⟨_, rfl⟩
          clear bT6 bC6 bS6 hB6
          generalize World.alloc w6 _ = w7 at *
          rw [← hBD]
          rw [← hBD] at bD7
          clear hBD
          refine (HIC2.out _).mono ?_
          rintro e w8 ⟨rfl, hb8⟩
          have bT8 := bT7.below hb8
          have bC8 := bC7.below hb8
          have bS8 := bS7.below hb8
          have bD8 := bD7.below hb8
          have hB8 := hB7.trans (hb8.mono hB7.size)
          clear bT7 bC7 bS7 bD7 hB7
          have kT0 := bT8.cell 0 rfl
          have kT1 := bT8.cell 1 rfl
          have kT2 := bT8.cell 2 rfl
          have kT3 := bT8.cell 3 rfl
          have kT4 := bT8.cell 4 rfl
          have kT5 := bT8.cell 5 rfl
          have kT6 := bT8.cell 6 rfl
          have kT7 := bT8.cell 7 rfl
          have kT8 := bT8.cell 8 rfl
          have kT9 := bT8.cell 9 rfl
          have lT := bT8.lt
          have kC0 := bC8.cell 0 rfl
          have kC1 := bC8.cell 1 rfl
          have lC := bC8.lt
          have kS0 := bS8.cell 0 rfl
          have kS1 := bS8.cell 1 rfl
          have lS := bS8.lt
          have kD0 := bD8.cell 0 rfl
          have kD1 := bD8.cell 1 rfl
          have lD := bD8.lt
          go_wp2_with fail
          clear kT0 kT1 kT2 kT3 kT4 kT5 kT6 kT7 kT8 kT9 lT kC0 kC1 lC kS0 kS1 lS kD0 kD1 lD
          refine (HCE2.out _ hB8).mono ?_
          rintro e w9 ⟨rfl, hb9⟩
          have bT9 := bT8.below hb9
          have bC9 := bC8.below hb9
          have bS9 := bS8.below hb9
          have bD9 := bD8.below hb9
          have hB9 := hB8.trans (hb9.mono hB8.size)
          clear bT8 bC8 bS8 bD8 hB8
          have kT0 := bT9.cell 0 rfl
          have kT1 := bT9.cell 1 rfl
          have kT2 := bT9.cell 2 rfl
          have kT3 := bT9.cell 3 rfl
          have kT4 := bT9.cell 4 rfl
          have kT5 := bT9.cell 5 rfl
          have kT6 := bT9.cell 6 rfl
          have kT7 := bT9.cell 7 rfl
          have kT8 := bT9.cell 8 rfl
          have kT9 := bT9.cell 9 rfl
          have lT := bT9.lt
          have kC0 := bC9.cell 0 rfl
          have kC1 := bC9.cell 1 rfl
          have lC := bC9.lt
          have kS0 := bS9.cell 0 rfl
          have kS1 := bS9.cell 1 rfl
          have lS := bS9.lt
          have kD0 := bD9.cell 0 rfl
          have kD1 := bD9.cell 1 rfl
          have lD := bD9.lt
          go_wp2_with fail
          clear kT0 kT1 kT2 kT3 kT4 kT5 kT6 kT7 kT8 kT9 lT kC0 kC1 lC kS0 kS1 lS kD0 kD1 lD
          refine (HWK.out _).mono ?_
          rintro e w10 ⟨rfl, hb10⟩
          have bT10 := bT9.below hb10
          have bC10 := bC9.below hb10
          have bS10 := bS9.below hb10
          have bD10 := bD9.below hb10
          have hB10 := hB9.trans (hb10.mono hB9.size)
          clear bT9 bC9 bS9 bD9 hB9
          go_wp2_with fail
          go_returns
          exact ⟨rfl, hB10⟩
  · rw [hE] at HKN
    rw [decide_eq_true (show (3 : Int) = 0 ∨ (3 : Int) = 3 from .inr rfl)] at HKN
    clear HLH HN HIC2 HCE2
    subst hE
    generalize CV mo 3 = N at *
    go_enter Try.func4, Try.ntmps4
    go_wp2_with fail
    have bT1 := ((BoxS.new w 28 #[.int .i64 full, .int .i64 read, .int .i64 slip, .int .i64 skew, .int .i64 circ, .int .i64 glo, .int .i64 ghi, .int .i64 wrn, .int .i64 gain, .slice A ts.length c]).alloc (.cells #[.int .i64 sz, .int .i64 mo] 35))
    have bC1 := (BoxS.new (World.alloc w (.cells #[.int .i64 full, .int .i64 read, .int .i64 slip, .int .i64 skew, .int .i64 circ, .int .i64 glo, .int .i64 ghi, .int .i64 wrn, .int .i64 gain, .slice A ts.length c] 28)) 35 #[.int .i64 sz, .int .i64 mo])
    have hB1 : Below w.heap.size w (World.alloc (World.alloc w (.cells #[.int .i64 full, .int .i64 read, .int .i64 slip, .int .i64 skew, .int .i64 circ, .int .i64 glo, .int .i64 ghi, .int .i64 wrn, .int .i64 gain, .slice A ts.length c] 28)) (.cells #[.int .i64 sz, .int .i64 mo] 35)) := by (repeat' (first | (with_reducible exact Below.refl _ _) | (with_reducible assumption) | (with_reducible refine Below.alloc ?_ ?_ _) | (with_reducible refine Below.drew ?_) | (with_reducible refine Below.setCell ?_ ?_ _) | go_size | (exact (by simp)) | omega))
    simp only [World.size_alloc] at bC1
    generalize World.alloc (World.alloc w _) _ = w1 at *
    refine (HRD.out _ hB1).mono ?_
    rintro e w2 ⟨rfl, hb2⟩
    have bT2 := bT1.below hb2
    have bC2 := bC1.below hb2
    have hB2 := hB1.trans (hb2.mono hB1.size)
    clear bT1 bC1 hB1
    have kT0 := bT2.cell 0 rfl
    have kT1 := bT2.cell 1 rfl
    have kT2 := bT2.cell 2 rfl
    have kT3 := bT2.cell 3 rfl
    have kT4 := bT2.cell 4 rfl
    have kT5 := bT2.cell 5 rfl
    have kT6 := bT2.cell 6 rfl
    have kT7 := bT2.cell 7 rfl
    have kT8 := bT2.cell 8 rfl
    have kT9 := bT2.cell 9 rfl
    have lT := bT2.lt
    have kC0 := bC2.cell 0 rfl
    have kC1 := bC2.cell 1 rfl
    have lC := bC2.lt
    go_wp2_with fail
    clear kT0 kT1 kT2 kT3 kT4 kT5 kT6 kT7 kT8 kT9 lT kC0 kC1 lC
    refine (HIC.out _).mono ?_
    rintro e w3 ⟨rfl, hb3⟩
    have bT3 := bT2.below hb3
    have bC3 := bC2.below hb3
    have hB3 := hB2.trans (hb3.mono hB2.size)
    clear bT2 bC2 hB2
    have kT0 := bT3.cell 0 rfl
    have kT1 := bT3.cell 1 rfl
    have kT2 := bT3.cell 2 rfl
    have kT3 := bT3.cell 3 rfl
    have kT4 := bT3.cell 4 rfl
    have kT5 := bT3.cell 5 rfl
    have kT6 := bT3.cell 6 rfl
    have kT7 := bT3.cell 7 rfl
    have kT8 := bT3.cell 8 rfl
    have kT9 := bT3.cell 9 rfl
    have lT := bT3.lt
    have kC0 := bC3.cell 0 rfl
    have kC1 := bC3.cell 1 rfl
    have lC := bC3.lt
    go_wp2_with fail
    clear kT0 kT1 kT2 kT3 kT4 kT5 kT6 kT7 kT8 kT9 lT kC0 kC1 lC
    refine (HER.out _ hB3).mono ?_
    rintro e w4 ⟨rfl, hb4⟩
    have bT4 := bT3.below hb4
    have bC4 := bC3.below hb4
    have hB4 := hB3.trans (hb4.mono hB3.size)
    clear bT3 bC3 hB3
    have kT0 := bT4.cell 0 rfl
    have kT1 := bT4.cell 1 rfl
    have kT2 := bT4.cell 2 rfl
    have kT3 := bT4.cell 3 rfl
    have kT4 := bT4.cell 4 rfl
    have kT5 := bT4.cell 5 rfl
    have kT6 := bT4.cell 6 rfl
    have kT7 := bT4.cell 7 rfl
    have kT8 := bT4.cell 8 rfl
    have kT9 := bT4.cell 9 rfl
    have lT := bT4.lt
    have kC0 := bC4.cell 0 rfl
    have kC1 := bC4.cell 1 rfl
    have lC := bC4.lt
    go_wp2_with fail
    clear kT0 kT1 kT2 kT3 kT4 kT5 kT6 kT7 kT8 kT9 lT kC0 kC1 lC
    have bT5 := (bT4.alloc (.cells #[.int .i64 LO, .int .i64 HI] 23))
    have bC5 := (bC4.alloc (.cells #[.int .i64 LO, .int .i64 HI] 23))
    have bS5 := (BoxS.new w4 23 #[.int .i64 LO, .int .i64 HI])
    have hB5 : Below w.heap.size w (World.alloc w4 (.cells #[.int .i64 LO, .int .i64 HI] 23)) := (hB4.alloc hB4.size _)
    obtain ⟨BS, hBS⟩ : ∃ B, B = w4.heap.size := ⟨_, rfl⟩
    clear bT4 bC4 hB4
    generalize World.alloc w4 _ = w5 at *
    rw [← hBS]
    rw [← hBS] at bS5
    clear hBS
    refine (HCE.out _ hB5).mono ?_
    rintro e w6 ⟨rfl, hb6⟩
    have bT6 := bT5.below hb6
    have bC6 := bC5.below hb6
    have bS6 := bS5.below hb6
    have hB6 := hB5.trans (hb6.mono hB5.size)
    clear bT5 bC5 bS5 hB5
    have kT0 := bT6.cell 0 rfl
    have kT1 := bT6.cell 1 rfl
    have kT2 := bT6.cell 2 rfl
    have kT3 := bT6.cell 3 rfl
    have kT4 := bT6.cell 4 rfl
    have kT5 := bT6.cell 5 rfl
    have kT6 := bT6.cell 6 rfl
    have kT7 := bT6.cell 7 rfl
    have kT8 := bT6.cell 8 rfl
    have kT9 := bT6.cell 9 rfl
    have lT := bT6.lt
    have kC0 := bC6.cell 0 rfl
    have kC1 := bC6.cell 1 rfl
    have lC := bC6.lt
    have kS0 := bS6.cell 0 rfl
    have kS1 := bS6.cell 1 rfl
    have lS := bS6.lt
    go_wp2_with fail
    clear kT0 kT1 kT2 kT3 kT4 kT5 kT6 kT7 kT8 kT9 lT kC0 kC1 lC kS0 kS1 lS
    refine (HKN.out _).mono ?_
    rintro e wq ⟨rfl, hq⟩
    have hq := hq.symm
    subst hq
    have kT0 := bT6.cell 0 rfl
    have kT1 := bT6.cell 1 rfl
    have kT2 := bT6.cell 2 rfl
    have kT3 := bT6.cell 3 rfl
    have kT4 := bT6.cell 4 rfl
    have kT5 := bT6.cell 5 rfl
    have kT6 := bT6.cell 6 rfl
    have kT7 := bT6.cell 7 rfl
    have kT8 := bT6.cell 8 rfl
    have kT9 := bT6.cell 9 rfl
    have lT := bT6.lt
    have kC0 := bC6.cell 0 rfl
    have kC1 := bC6.cell 1 rfl
    have lC := bC6.lt
    have kS0 := bS6.cell 0 rfl
    have kS1 := bS6.cell 1 rfl
    have lS := bS6.lt
    go_wp2_with fail
    clear kT0 kT1 kT2 kT3 kT4 kT5 kT6 kT7 kT8 kT9 lT kC0 kC1 lC kS0 kS1 lS
    refine (HWK.out _).mono ?_
    rintro e w7 ⟨rfl, hb7⟩
    have bT7 := bT6.below hb7
    have bC7 := bC6.below hb7
    have bS7 := bS6.below hb7
    have hB7 := hB6.trans (hb7.mono hB6.size)
    clear bT6 bC6 bS6 hB6
    go_wp2_with fail
    go_returns
    exact ⟨rfl, hB7⟩
end Go.Proofs.Ytkmacpkjobdffaa
namespace Go.Proofs.Ytkmacpkjobdffaa
open Go.RowKit
theorem Tsts0.below {w w' : World} {A : Option Addr} {ts : List Ti.Tst} (h : Tsts0 w w.heap.size A ts) (hW : Below w.heap.size w w') : Tsts0 w' w'.heap.size A ts := fun hn => by
  obtain ⟨b, off, e, hB, hc⟩ := h hn
  refine ⟨b, off, e, by have := hW.size; omega, fun k x hk => ?_⟩
  obtain ⟨A', c', h1, h2, h3⟩ := hc k x hk
  exact ⟨A', c', (hW.cell (p := ⟨b, _, none⟩) hB).trans h1, (hW.cell (p := ⟨b, _, none⟩) hB).trans h2, (h3.keep hW).wider hW.size⟩
set_option maxRecDepth 100000 in
set_option maxHeartbeats 4000000 in
theorem lawTrialsClasses_long (t : Ti.Tri) (A : Option Addr) (c : Nat) (sz mo more : Int) (w : World) (hll : 20 < t.ts.length ∨ Ti.longTo t.ts t.ts.length = true) (hg : Tsts0 w w.heap.size A t.ts) :
    Calls Try.prog 4 #[.agg (tiV t A c), .agg #[.int .i64 sz, .int .i64 mo], .int .i64 more] w fun e w' => e = .returned (.bool true) ∧ Below w.heap.size w w' := by
  have HWK : Hid (∀ W, Calls Try.prog 10 #[] W fun e w' => e = .returned (.bool true) ∧ Below W.heap.size W w') := works9_any
  have HRD : Hid (∀ W, Below w.heap.size w W → Calls Try.prog 8 #[.agg (tiV t A c)] W fun e w' => e = .returned (.bool false) ∧ Below W.heap.size W w') := fun W hW => ready9_long t A c W hll (hg.below hW)
  clear hg hll
  obtain ⟨d, gain, ts⟩ := t
  obtain ⟨full, read, slip, skew, circ, glo, ghi, wrn, dws⟩ := d
  unfold tiV at *
  dsimp only at *
  go_enter Try.func4, Try.ntmps4
  go_wp2_with fail
  have bT1 := ((BoxS.new w 28 #[.int .i64 full, .int .i64 read, .int .i64 slip, .int .i64 skew, .int .i64 circ, .int .i64 glo, .int .i64 ghi, .int .i64 wrn, .int .i64 gain, .slice A ts.length c]).alloc (.cells #[.int .i64 sz, .int .i64 mo] 35))
  have bC1 := (BoxS.new (World.alloc w (.cells #[.int .i64 full, .int .i64 read, .int .i64 slip, .int .i64 skew, .int .i64 circ, .int .i64 glo, .int .i64 ghi, .int .i64 wrn, .int .i64 gain, .slice A ts.length c] 28)) 35 #[.int .i64 sz, .int .i64 mo])
  have hB1 : Below w.heap.size w (World.alloc (World.alloc w (.cells #[.int .i64 full, .int .i64 read, .int .i64 slip, .int .i64 skew, .int .i64 circ, .int .i64 glo, .int .i64 ghi, .int .i64 wrn, .int .i64 gain, .slice A ts.length c] 28)) (.cells #[.int .i64 sz, .int .i64 mo] 35)) := by (repeat' (first | (with_reducible exact Below.refl _ _) | (with_reducible assumption) | (with_reducible refine Below.alloc ?_ ?_ _) | (with_reducible refine Below.drew ?_) | (with_reducible refine Below.setCell ?_ ?_ _) | go_size | (exact (by simp)) | omega))
  simp only [World.size_alloc] at bC1
  generalize World.alloc (World.alloc w _) _ = w1 at *
  refine (HRD.out _ hB1).mono ?_
  rintro e w2 ⟨rfl, hb2⟩
  have bT2 := bT1.below hb2
  have bC2 := bC1.below hb2
  have hB2 := hB1.trans (hb2.mono hB1.size)
  clear bT1 bC1 hB1
  have kT0 := bT2.cell 0 rfl
  have kT1 := bT2.cell 1 rfl
  have kT2 := bT2.cell 2 rfl
  have kT3 := bT2.cell 3 rfl
  have kT4 := bT2.cell 4 rfl
  have kT5 := bT2.cell 5 rfl
  have kT6 := bT2.cell 6 rfl
  have kT7 := bT2.cell 7 rfl
  have kT8 := bT2.cell 8 rfl
  have kT9 := bT2.cell 9 rfl
  have lT := bT2.lt
  have kC0 := bC2.cell 0 rfl
  have kC1 := bC2.cell 1 rfl
  have lC := bC2.lt
  go_wp2_with fail
  clear kT0 kT1 kT2 kT3 kT4 kT5 kT6 kT7 kT8 kT9 lT kC0 kC1 lC
  refine (HWK.out _).mono ?_
  rintro e w3 ⟨rfl, hb3⟩
  have bT3 := bT2.below hb3
  have bC3 := bC2.below hb3
  have hB3 := hB2.trans (hb3.mono hB2.size)
  clear bT2 bC2 hB2
  go_wp2_with fail
  go_returns
  exact ⟨rfl, hB3⟩
theorem lawTrialsClasses_all (t : Ti.Tri) (A : Option Addr) (c : Nat) (sz mo more : Int) (w : World) (_ : t.ts.length ≤ maxLen) (hg : Tsts0 w w.heap.size A t.ts) :
    Calls Try.prog 4 #[.agg (tiV t A c), .agg #[.int .i64 sz, .int .i64 mo], .int .i64 more] w fun e w' => e = .returned (.bool true) ∧ Below w.heap.size w w' := by
  by_cases hll : 20 < t.ts.length ∨ Ti.longTo t.ts t.ts.length = true
  · exact lawTrialsClasses_long t A c sz mo more w hll hg
  · have h1 : ¬ 20 < t.ts.length := fun h => hll (.inl h)
    have h2 : Ti.longTo t.ts t.ts.length = false := by simpa using fun h => hll (.inr h)
    exact lawClasses_walk t sz mo more A c w (by omega) (hg.short h2)
open Go.ChangeShapes Go.WideShapes Go.ChangeAt Go.RowKit Go.Joins
section
variable {H : Type} {enc : TypeId × Value → H} {w : World} {base : Nat} {spare : Nat → Bool} {held : Bool} {r : Reach} {b0 : Nat} {v : Value} {d : DataW H} {p : List MemPlace}
set_option maxRecDepth 100000 in
theorem open_Class (hv : Value.okWide Try.prog w r b0 35 v) (h : DataW.Trod enc Try.prog w base spare held 35 v d p) : ∃ a b : Int, v = .agg #[.int .i64 a, .int .i64 b] := by
  obtain ⟨c0, c1, y0, y1, m, rfl, rfl, rfl, hy0, hy1⟩ := open_agg2 Try.underlying35 (by kernel_rfl) (by kernel_rfl : Try.prog.cellsOf 35 = 2) hv h
  obtain ⟨a, e0, rfl, wa⟩ := DataW.trod_int Try.underlying3 hy0
  obtain ⟨b, e1, rfl, wb⟩ := DataW.trod_int Try.underlying3 hy1
  simp at e0 e1
  subst e0 e1
  exact ⟨a, b, rfl⟩
end

open Go.ChangeShapes Go.WideShapes Go.ChangeAt Go.RowKit Go.Joins

set_option maxRecDepth 100000 in
theorem classes9_lifted (os : Os) (started : os.Started) (H : Type) (enc : TypeId × Value → H) :
    ReturnsInHanded {} Try.checked os 4 .any (Rows.trialsClassesSpec.pre6 enc Try.prog Try.f4 Rows.trialsClassesRow.domain false) (Rows.trialsClassesSpec.post enc Try.prog Try.f4 false true false false) := by
  refine returnsInHanded_of_change (C := Try.checked) own started (by kernel_rfl) Try.func4
    (ChangeSpec.witness6 (enc := enc) (C := Try.checked) false ⟨#[], #[.agg #[.int .i64 0, .int .i64 0, .int .i64 0, .int .i64 0, .int .i64 0, .int .i64 0, .int .i64 0, .int .i64 0, .int .i64 0, .slice none 0 0], .agg #[.int .i64 0, .int .i64 0], .int .i64 0], []⟩ 8 (by kernel_rfl) (by kernel_rfl) (by kernel_rfl) (by kernel_rfl)) ?_
  intro W base args ds gs before hval0 hW hcnd _
  have hval : ∀ (j : Nat) t v, Try.f4.params[j]? = some t → args[j]? = some v → Value.okWide Try.prog W .any base t v := hval0
  have hW' := hW
  obtain ⟨p, q, hA0, hV, rfl, hfz, hnd⟩ := hW
  have hA : DataW.TrodAll enc Try.prog W 0 (fun _ => true) true Try.f4.params.toList args.toList ds p := hA0
  rw [Try.params4] at hA hval
  obtain ⟨v0, v1, v2, d0, d1, d2, p0, p1, p2, rfl, rfl, rfl, h0, h1, h2⟩ := trodAll_three hA
  obtain ⟨rfl, rfl⟩ := trodVars_none hV
  obtain ⟨t, A, c, rfl, hh0_0, hh0_1⟩ := open_Trial (hval 0 28 v0 rfl rfl) h0
  obtain ⟨sz, mo, rfl⟩ := open_Class (hval 1 35 v1 rfl rfl) h1
  obtain ⟨more, rfl, rfl, rfl, wf_more⟩ := open_int Try.underlying3 (hval 2 3 v2 rfl rfl) h2
  refine (lawTrialsClasses_all t A c sz mo more W hh0_0 hh0_1).mono fun e W' ⟨he, hb⟩ => ?_
  subst he
  exact ⟨_, rfl, law_post hW' rfl rfl (by intro t ht; have : t = 28 ∨ t = 35 ∨ t = 3 := (by rw [Try.params4] at ht; simpa using ht); rcases this with rfl | rfl | rfl <;> exact ⟨by kernel_rfl, of_decide_eq_true (by kernel_rfl)⟩) rfl rfl rfl hb⟩

theorem classes9_holds : Rows.TrialsClassesSaid :=
  OpenClaim.holds_of_wide 4 Try.f4 rfl rfl rfl rfl rfl rfl rfl ⟨rfl, rfl, rfl, rfl, rfl⟩ rfl rfl rfl rfl rfl (by kernel_rfl) Try.func4 (by kernel_rfl)
    (of_decide_eq_true (by kernel_rfl)) (by unfold Func.isWrapper; rw [if_neg (of_decide_eq_false (by kernel_rfl))]; exact ⟨rfl, rfl⟩)
    (fun os started H enc _ => classes9_lifted os started H enc)
end Go.Proofs.Ytkmacpkjobdffaa
