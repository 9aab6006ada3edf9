/- The law TrialsTrue (P9.11): for every trial, truth, area and class the statement's function returns true and changes nothing. -/
import Derived.Test.YtkmacpkjobdffaaGreatRtC
import Derived.Test.YtkmacpkjobdffaaGreatTqC
import Derived.Test.YtkmacpkjobdffaaGreatTpC
namespace Go.Proofs.YtkmacpkjobdffaaGreat
open Go.RowKit
namespace Ti
theorem isT_mem {t : Tri} {x : Gk} (hck : chkV t = 0) (h : isT t x = true) : ∃ hs, (⟨x, hs⟩ : GkS) ∈ truthsL t := by
  obtain ⟨hg, hk, hn6, _⟩ := chk_ok hck
  unfold isT at h
  rw [Bool.and_eq_true, Bool.and_eq_true, inB_true, inB_true, isTo_iff] at h
  obtain ⟨⟨h1, h2⟩, h3⟩ := h
  have hs : gsm x := by unfold gsm; omega
  refine ⟨hs, (mem_truths hg hk).2 ⟨(mem_cases hg hk).2 ⟨h1, h2⟩, fun y hy => ?_⟩⟩
  obtain ⟨k, hkl, e⟩ := List.getElem_of_mem hy
  have := h3 k hkl
  have e2 : tstAt t.ts k = y := by unfold tstAt; rw [List.getElem?_eq_getElem hkl, e]; rfl
  rwa [e2] at this
theorem true_facts {t : Tri} {x : Gk} {a sz mo : Int} (hck : chkV t = 0) (h : isT t x = true) (ha : 0 ≤ a ∧ a ≤ 9000) (hc : classB sz mo = true) :
    gsm x ∧ opE t true = 0 ∧ x.1 ∈ allE (fun x => x.1) 0 t ∧ x.2 ∈ allE (fun x => x.2) 0 t ∧ (lowE (fun x => errV x a) 0 t ≤ errV x a ∧ errV x a ≤ highE (fun x => errV x a) 0 t) ∧ (lowE (fun x => seenV x.1 a) 0 t ≤ seenV x.1 a ∧ seenV x.1 a ≤ highE (fun x => seenV x.1 a) 0 t) ∧ a ∈ realE 0 t (seenV x.1 a) ∧
      ((certV t sz mo 0 = 1 ∧ decide (errV x sz ≤ mo) = true) ∨ (certV t sz mo 0 = 2 ∧ decide (errV x sz ≤ mo) = false) ∨ certV t sz mo 0 = 3) ∧ (allE (fun x => x.1) 0 t).length ≤ 200 ∧ (allE (fun x => x.2) 0 t).length ≤ 200 ∧ (realE 0 t (seenV x.1 a)).length ≤ 10000 := by
  obtain ⟨hs, hm⟩ := isT_mem hck h
  have hz : 0 ≤ sz ∧ sz ≤ 9000 := by unfold classB at hc; rw [Bool.and_eq_true, inB_true] at hc; exact hc.1
  have hne : truthsL t ≠ [] := fun e => by rw [e] at hm; cases hm
  have low : ∀ (f : Gk → Int), (∀ y : GkS, 0 ≤ f y.1 ∧ f y.1 ≤ 100000) → lowL f (truthsL t) ≤ f x ∧ f x ≤ highL f (truthsL t) := fun f hf => by
    have h1 := (lowL_spec f (truthsL t) (fun y _ => by have := hf y; omega) hne).2 _ hm
    have h2 := (highL_spec f (truthsL t) (fun y _ => by have := hf y; omega) hne).2 _ hm
    exact ⟨h1, h2⟩
  have e1 : x.1 ∈ allT (fun x => x.1) (truthsL t) := by rw [gains_eq]; exact gain_mem.2 ⟨_, hm, rfl⟩
  have e2 : x.2 ∈ allT (fun x => x.2) (truthsL t) := by rw [tskews_eq]; exact mem_skewF.2 ⟨_, hm, rfl⟩
  have g1 : (allT (fun x => x.1) (truthsL t)).length ≤ 200 := Nat.le_trans (gains_len _) (by decide)
  have g2 : (allT (fun x => x.2) (truthsL t)).length ≤ 200 := by
    rw [tskews_eq]
    unfold skewF
    exact Nat.le_trans (List.length_filter_le _ _) (by simp)
  refine ⟨hs, by rw [op_of hck, if_neg hne], ?_, ?_, ?_, ?_, ?_, ?_, ?_, ?_, Nat.le_trans (realTo_len _ _ _) (by decide)⟩
  · unfold allE; rw [if_pos rfl]; exact e1
  · unfold allE; rw [if_pos rfl]; exact e2
  · unfold lowE highE; rw [if_pos rfl, if_pos rfl]; exact low (fun x => errV x a) (fun y => err_bd ha y)
  · unfold lowE highE; rw [if_pos rfl, if_pos rfl]
    exact low (fun x => seenV x.1 a) (fun y => by have h3 := y.2; unfold gsm at h3; have := seen_bd h3.1 ha; omega)
  · unfold realE realTo allE
    rw [if_pos rfl]
    refine List.mem_map.2 ⟨a.toNat, List.mem_filter.2 ⟨List.mem_range.2 (by omega), ?_⟩, by omega⟩
    unfold seesB
    rw [List.any_eq_true]
    exact ⟨x.1, e1, by rw [show ((a.toNat : Nat) : Int) = a by omega]; simp⟩
  · obtain ⟨q1, q2⟩ := low (fun x => errV x sz) (fun y => err_bd hz y)
    unfold certV
    rw [if_pos rfl]
    unfold cerV
    split
    · exact .inl ⟨rfl, decide_eq_true (by omega)⟩
    · split
      · exact .inr (.inl ⟨rfl, decide_eq_false (by omega)⟩)
      · exact .inr (.inr rfl)
  · unfold allE; rw [if_pos rfl]; exact g1
  · unfold allE; rw [if_pos rfl]; exact g2
end Ti
set_option maxHeartbeats 1000000 in
theorem holds9_yes (lo hi n : Int) (h1 : lo ≤ n) (h2 : n ≤ hi) (w : World) : Calls Tryz.prog 41 #[.agg #[.int .i64 lo, .int .i64 hi], .int .i64 n] w fun e w' => e = .returned (.bool true) ∧ Below w.heap.size w w' := by
  have d1 : decide (lo ≤ n) = true := decide_eq_true h1
  have d2 : decide (n ≤ hi) = true := decide_eq_true h2
  clear h1 h2
  go_enter Tryz.func41, Tryz.ntmps41
  go_wp2_with fail
  go_returns
  exact ⟨rfl, by (repeat' (first | (with_reducible exact Below.refl _ _) | (with_reducible assumption) | (with_reducible refine Below.alloc ?_ ?_ _) | (with_reducible refine Below.drew ?_) | (with_reducible refine Below.setCell ?_ ?_ _) | go_size | (exact (by simp)) | omega))⟩
set_option maxRecDepth 100000 in
set_option maxHeartbeats 16000000 in
theorem lawTrue9_walk (t : Ti.Tri) (A : Option Addr) (c : Nat) (g s a sz mo : Int) (w : World) (hl : t.ts.length ≤ 1000000000) (hg : Tsts w w.heap.size A t.ts) :
    Calls Tryz.prog 6 #[.agg (tiV t A c), .agg #[.int .i64 g, .int .i64 s, .int .i64 a], .agg #[.int .i64 sz, .int .i64 mo]] w fun e w' => e = .returned (.bool true) ∧ Below w.heap.size w w' := by
  have HWK : Hid (∀ W, Calls Tryz.prog 9 #[] W fun e w' => e = .returned (.bool true) ∧ Below W.heap.size W w') := works9_any
  have HRD : Hid (∀ W, Below w.heap.size w W → Calls Tryz.prog 36 #[.agg (tiV t A c)] W fun e w' => e = .returned (.bool (Ti.readyB t)) ∧ Below W.heap.size W w') := fun W hW => ready9_any t A c W hl ((hg.keep hW).wider hW.size)
  have HIC : Hid (∀ W, Calls Tryz.prog 37 #[.agg #[.int .i64 sz, .int .i64 mo]] W fun e w' => e = .returned (.bool (Ti.classB sz mo)) ∧ Below W.heap.size W w') := fun W => IsClass9_any sz mo W
  cases hr : Ti.readyB t
  · rw [hr] at HRD
    clear hg hr HIC
    obtain ⟨d, gain, ts⟩ := t
    obtain ⟨full, read, slip, skew, circ, glo, ghi, wrn, dws⟩ := d
    unfold tiV at *
    dsimp only at *
    go_enter Tryz.func6, Tryz.ntmps6
    go_wp2_with fail
    have bT1 := (((BoxS.new w 28 #[.int .i64 full, .int .i64 read, .int .i64 slip, .int .i64 skew, .int .i64 circ, .int .i64 glo, .int .i64 ghi, .int .i64 wrn, .int .i64 gain, .slice A ts.length c]).alloc (.cells #[.int .i64 g, .int .i64 s, .int .i64 a] 58)).alloc (.cells #[.int .i64 sz, .int .i64 mo] 45))
    have bY1 := ((BoxS.new (World.alloc w (.cells #[.int .i64 full, .int .i64 read, .int .i64 slip, .int .i64 skew, .int .i64 circ, .int .i64 glo, .int .i64 ghi, .int .i64 wrn, .int .i64 gain, .slice A ts.length c] 28)) 58 #[.int .i64 g, .int .i64 s, .int .i64 a]).alloc (.cells #[.int .i64 sz, .int .i64 mo] 45))
    have bC1 := (BoxS.new (World.alloc (World.alloc w (.cells #[.int .i64 full, .int .i64 read, .int .i64 slip, .int .i64 skew, .int .i64 circ, .int .i64 glo, .int .i64 ghi, .int .i64 wrn, .int .i64 gain, .slice A ts.length c] 28)) (.cells #[.int .i64 g, .int .i64 s, .int .i64 a] 58)) 45 #[.int .i64 sz, .int .i64 mo])
    have hB1 : Below w.heap.size w (World.alloc (World.alloc (World.alloc w (.cells #[.int .i64 full, .int .i64 read, .int .i64 slip, .int .i64 skew, .int .i64 circ, .int .i64 glo, .int .i64 ghi, .int .i64 wrn, .int .i64 gain, .slice A ts.length c] 28)) (.cells #[.int .i64 g, .int .i64 s, .int .i64 a] 58)) (.cells #[.int .i64 sz, .int .i64 mo] 45)) := by (repeat' (first | (with_reducible exact Below.refl _ _) | (with_reducible assumption) | (with_reducible refine Below.alloc ?_ ?_ _) | (with_reducible refine Below.drew ?_) | (with_reducible refine Below.setCell ?_ ?_ _) | go_size | (exact (by simp)) | omega))
    simp only [World.size_alloc] at bY1 bC1
    generalize World.alloc (World.alloc (World.alloc w _) _) _ = w1 at *
    refine (HRD.out _ hB1).mono ?_
    rintro e w2 ⟨rfl, hb2⟩
    have bT2 := bT1.below hb2
    have bY2 := bY1.below hb2
    have bC2 := bC1.below hb2
    have hB2 := hB1.trans (hb2.mono hB1.size)
    clear bT1 bY1 bC1 hB1
    have kT0 := bT2.cell 0 rfl
    have kT1 := bT2.cell 1 rfl
    have kT2 := bT2.cell 2 rfl
    have kT3 := bT2.cell 3 rfl
    have kT4 := bT2.cell 4 rfl
    have kT5 := bT2.cell 5 rfl
    have kT6 := bT2.cell 6 rfl
    have kT7 := bT2.cell 7 rfl
    have kT8 := bT2.cell 8 rfl
    have kT9 := bT2.cell 9 rfl
    have lT := bT2.lt
    have kY0 := bY2.cell 0 rfl
    have kY1 := bY2.cell 1 rfl
    have kY2 := bY2.cell 2 rfl
    have lY := bY2.lt
    have kC0 := bC2.cell 0 rfl
    have kC1 := bC2.cell 1 rfl
    have lC := bC2.lt
    go_wp2_with fail
    clear kT0 kT1 kT2 kT3 kT4 kT5 kT6 kT7 kT8 kT9 lT kY0 kY1 kY2 lY kC0 kC1 lC
    refine (HWK.out _).mono ?_
    rintro e w3 ⟨rfl, hb3⟩
    have bT3 := bT2.below hb3
    have bY3 := bY2.below hb3
    have bC3 := bC2.below hb3
    have hB3 := hB2.trans (hb3.mono hB2.size)
    clear bT2 bY2 bC2 hB2
    go_wp2_with fail
    go_returns
    exact ⟨rfl, hB3⟩
  rw [hr] at HRD
  have hck : Ti.chkV t = 0 := by unfold Ti.readyB at hr; rw [Bool.and_eq_true, decide_eq_true_eq] at hr; exact hr.2
  by_cases ha0 : a < 0
  · have ha0b : decide (a < 0) = true := decide_eq_true ha0
    clear hg hr HIC hck
    obtain ⟨d, gain, ts⟩ := t
    obtain ⟨full, read, slip, skew, circ, glo, ghi, wrn, dws⟩ := d
    unfold tiV at *
    dsimp only at *
    go_enter Tryz.func6, Tryz.ntmps6
    go_wp2_with fail
    have bT1 := (((BoxS.new w 28 #[.int .i64 full, .int .i64 read, .int .i64 slip, .int .i64 skew, .int .i64 circ, .int .i64 glo, .int .i64 ghi, .int .i64 wrn, .int .i64 gain, .slice A ts.length c]).alloc (.cells #[.int .i64 g, .int .i64 s, .int .i64 a] 58)).alloc (.cells #[.int .i64 sz, .int .i64 mo] 45))
    have bY1 := ((BoxS.new (World.alloc w (.cells #[.int .i64 full, .int .i64 read, .int .i64 slip, .int .i64 skew, .int .i64 circ, .int .i64 glo, .int .i64 ghi, .int .i64 wrn, .int .i64 gain, .slice A ts.length c] 28)) 58 #[.int .i64 g, .int .i64 s, .int .i64 a]).alloc (.cells #[.int .i64 sz, .int .i64 mo] 45))
    have bC1 := (BoxS.new (World.alloc (World.alloc w (.cells #[.int .i64 full, .int .i64 read, .int .i64 slip, .int .i64 skew, .int .i64 circ, .int .i64 glo, .int .i64 ghi, .int .i64 wrn, .int .i64 gain, .slice A ts.length c] 28)) (.cells #[.int .i64 g, .int .i64 s, .int .i64 a] 58)) 45 #[.int .i64 sz, .int .i64 mo])
    have hB1 : Below w.heap.size w (World.alloc (World.alloc (World.alloc w (.cells #[.int .i64 full, .int .i64 read, .int .i64 slip, .int .i64 skew, .int .i64 circ, .int .i64 glo, .int .i64 ghi, .int .i64 wrn, .int .i64 gain, .slice A ts.length c] 28)) (.cells #[.int .i64 g, .int .i64 s, .int .i64 a] 58)) (.cells #[.int .i64 sz, .int .i64 mo] 45)) := by (repeat' (first | (with_reducible exact Below.refl _ _) | (with_reducible assumption) | (with_reducible refine Below.alloc ?_ ?_ _) | (with_reducible refine Below.drew ?_) | (with_reducible refine Below.setCell ?_ ?_ _) | go_size | (exact (by simp)) | omega))
    simp only [World.size_alloc] at bY1 bC1
    generalize World.alloc (World.alloc (World.alloc w _) _) _ = w1 at *
    refine (HRD.out _ hB1).mono ?_
    rintro e w2 ⟨rfl, hb2⟩
    have bT2 := bT1.below hb2
    have bY2 := bY1.below hb2
    have bC2 := bC1.below hb2
    have hB2 := hB1.trans (hb2.mono hB1.size)
    clear bT1 bY1 bC1 hB1
    have kT0 := bT2.cell 0 rfl
    have kT1 := bT2.cell 1 rfl
    have kT2 := bT2.cell 2 rfl
    have kT3 := bT2.cell 3 rfl
    have kT4 := bT2.cell 4 rfl
    have kT5 := bT2.cell 5 rfl
    have kT6 := bT2.cell 6 rfl
    have kT7 := bT2.cell 7 rfl
    have kT8 := bT2.cell 8 rfl
    have kT9 := bT2.cell 9 rfl
    have lT := bT2.lt
    have kY0 := bY2.cell 0 rfl
    have kY1 := bY2.cell 1 rfl
    have kY2 := bY2.cell 2 rfl
    have lY := bY2.lt
    have kC0 := bC2.cell 0 rfl
    have kC1 := bC2.cell 1 rfl
    have lC := bC2.lt
    go_wp2_with fail
    clear kT0 kT1 kT2 kT3 kT4 kT5 kT6 kT7 kT8 kT9 lT kY0 kY1 kY2 lY kC0 kC1 lC
    refine (HWK.out _).mono ?_
    rintro e w3 ⟨rfl, hb3⟩
    have bT3 := bT2.below hb3
    have bY3 := bY2.below hb3
    have bC3 := bC2.below hb3
    have hB3 := hB2.trans (hb3.mono hB2.size)
    clear bT2 bY2 bC2 hB2
    go_wp2_with fail
    go_returns
    exact ⟨rfl, hB3⟩
  have ha0b : decide (a < 0) = false := decide_eq_false ha0
  by_cases ha9 : 9000 < a
  · have ha9b : decide (9000 < a) = true := decide_eq_true ha9
    clear hg hr HIC hck
    obtain ⟨d, gain, ts⟩ := t
    obtain ⟨full, read, slip, skew, circ, glo, ghi, wrn, dws⟩ := d
    unfold tiV at *
    dsimp only at *
    go_enter Tryz.func6, Tryz.ntmps6
    go_wp2_with fail
    have bT1 := (((BoxS.new w 28 #[.int .i64 full, .int .i64 read, .int .i64 slip, .int .i64 skew, .int .i64 circ, .int .i64 glo, .int .i64 ghi, .int .i64 wrn, .int .i64 gain, .slice A ts.length c]).alloc (.cells #[.int .i64 g, .int .i64 s, .int .i64 a] 58)).alloc (.cells #[.int .i64 sz, .int .i64 mo] 45))
    have bY1 := ((BoxS.new (World.alloc w (.cells #[.int .i64 full, .int .i64 read, .int .i64 slip, .int .i64 skew, .int .i64 circ, .int .i64 glo, .int .i64 ghi, .int .i64 wrn, .int .i64 gain, .slice A ts.length c] 28)) 58 #[.int .i64 g, .int .i64 s, .int .i64 a]).alloc (.cells #[.int .i64 sz, .int .i64 mo] 45))
    have bC1 := (BoxS.new (World.alloc (World.alloc w (.cells #[.int .i64 full, .int .i64 read, .int .i64 slip, .int .i64 skew, .int .i64 circ, .int .i64 glo, .int .i64 ghi, .int .i64 wrn, .int .i64 gain, .slice A ts.length c] 28)) (.cells #[.int .i64 g, .int .i64 s, .int .i64 a] 58)) 45 #[.int .i64 sz, .int .i64 mo])
    have hB1 : Below w.heap.size w (World.alloc (World.alloc (World.alloc w (.cells #[.int .i64 full, .int .i64 read, .int .i64 slip, .int .i64 skew, .int .i64 circ, .int .i64 glo, .int .i64 ghi, .int .i64 wrn, .int .i64 gain, .slice A ts.length c] 28)) (.cells #[.int .i64 g, .int .i64 s, .int .i64 a] 58)) (.cells #[.int .i64 sz, .int .i64 mo] 45)) := by (repeat' (first | (with_reducible exact Below.refl _ _) | (with_reducible assumption) | (with_reducible refine Below.alloc ?_ ?_ _) | (with_reducible refine Below.drew ?_) | (with_reducible refine Below.setCell ?_ ?_ _) | go_size | (exact (by simp)) | omega))
    simp only [World.size_alloc] at bY1 bC1
    generalize World.alloc (World.alloc (World.alloc w _) _) _ = w1 at *
    refine (HRD.out _ hB1).mono ?_
    rintro e w2 ⟨rfl, hb2⟩
    have bT2 := bT1.below hb2
    have bY2 := bY1.below hb2
    have bC2 := bC1.below hb2
    have hB2 := hB1.trans (hb2.mono hB1.size)
    clear bT1 bY1 bC1 hB1
    have kT0 := bT2.cell 0 rfl
    have kT1 := bT2.cell 1 rfl
    have kT2 := bT2.cell 2 rfl
    have kT3 := bT2.cell 3 rfl
    have kT4 := bT2.cell 4 rfl
    have kT5 := bT2.cell 5 rfl
    have kT6 := bT2.cell 6 rfl
    have kT7 := bT2.cell 7 rfl
    have kT8 := bT2.cell 8 rfl
    have kT9 := bT2.cell 9 rfl
    have lT := bT2.lt
    have kY0 := bY2.cell 0 rfl
    have kY1 := bY2.cell 1 rfl
    have kY2 := bY2.cell 2 rfl
    have lY := bY2.lt
    have kC0 := bC2.cell 0 rfl
    have kC1 := bC2.cell 1 rfl
    have lC := bC2.lt
    go_wp2_with fail
    clear kT0 kT1 kT2 kT3 kT4 kT5 kT6 kT7 kT8 kT9 lT kY0 kY1 kY2 lY kC0 kC1 lC
    refine (HWK.out _).mono ?_
    rintro e w3 ⟨rfl, hb3⟩
    have bT3 := bT2.below hb3
    have bY3 := bY2.below hb3
    have bC3 := bC2.below hb3
    have hB3 := hB2.trans (hb3.mono hB2.size)
    clear bT2 bY2 bC2 hB2
    go_wp2_with fail
    go_returns
    exact ⟨rfl, hB3⟩
  have ha9b : decide (9000 < a) = false := decide_eq_false ha9
  cases hcb : Ti.classB sz mo
  · rw [hcb] at HIC
    clear hg hr hck hcb
    obtain ⟨d, gain, ts⟩ := t
    obtain ⟨full, read, slip, skew, circ, glo, ghi, wrn, dws⟩ := d
    unfold tiV at *
    dsimp only at *
    go_enter Tryz.func6, Tryz.ntmps6
    go_wp2_with fail
    have bT1 := (((BoxS.new w 28 #[.int .i64 full, .int .i64 read, .int .i64 slip, .int .i64 skew, .int .i64 circ, .int .i64 glo, .int .i64 ghi, .int .i64 wrn, .int .i64 gain, .slice A ts.length c]).alloc (.cells #[.int .i64 g, .int .i64 s, .int .i64 a] 58)).alloc (.cells #[.int .i64 sz, .int .i64 mo] 45))
    have bY1 := ((BoxS.new (World.alloc w (.cells #[.int .i64 full, .int .i64 read, .int .i64 slip, .int .i64 skew, .int .i64 circ, .int .i64 glo, .int .i64 ghi, .int .i64 wrn, .int .i64 gain, .slice A ts.length c] 28)) 58 #[.int .i64 g, .int .i64 s, .int .i64 a]).alloc (.cells #[.int .i64 sz, .int .i64 mo] 45))
    have bC1 := (BoxS.new (World.alloc (World.alloc w (.cells #[.int .i64 full, .int .i64 read, .int .i64 slip, .int .i64 skew, .int .i64 circ, .int .i64 glo, .int .i64 ghi, .int .i64 wrn, .int .i64 gain, .slice A ts.length c] 28)) (.cells #[.int .i64 g, .int .i64 s, .int .i64 a] 58)) 45 #[.int .i64 sz, .int .i64 mo])
    have hB1 : Below w.heap.size w (World.alloc (World.alloc (World.alloc w (.cells #[.int .i64 full, .int .i64 read, .int .i64 slip, .int .i64 skew, .int .i64 circ, .int .i64 glo, .int .i64 ghi, .int .i64 wrn, .int .i64 gain, .slice A ts.length c] 28)) (.cells #[.int .i64 g, .int .i64 s, .int .i64 a] 58)) (.cells #[.int .i64 sz, .int .i64 mo] 45)) := by (repeat' (first | (with_reducible exact Below.refl _ _) | (with_reducible assumption) | (with_reducible refine Below.alloc ?_ ?_ _) | (with_reducible refine Below.drew ?_) | (with_reducible refine Below.setCell ?_ ?_ _) | go_size | (exact (by simp)) | omega))
    simp only [World.size_alloc] at bY1 bC1
    generalize World.alloc (World.alloc (World.alloc w _) _) _ = w1 at *
    refine (HRD.out _ hB1).mono ?_
    rintro e w2 ⟨rfl, hb2⟩
    have bT2 := bT1.below hb2
    have bY2 := bY1.below hb2
    have bC2 := bC1.below hb2
    have hB2 := hB1.trans (hb2.mono hB1.size)
    clear bT1 bY1 bC1 hB1
    have kT0 := bT2.cell 0 rfl
    have kT1 := bT2.cell 1 rfl
    have kT2 := bT2.cell 2 rfl
    have kT3 := bT2.cell 3 rfl
    have kT4 := bT2.cell 4 rfl
    have kT5 := bT2.cell 5 rfl
    have kT6 := bT2.cell 6 rfl
    have kT7 := bT2.cell 7 rfl
    have kT8 := bT2.cell 8 rfl
    have kT9 := bT2.cell 9 rfl
    have lT := bT2.lt
    have kY0 := bY2.cell 0 rfl
    have kY1 := bY2.cell 1 rfl
    have kY2 := bY2.cell 2 rfl
    have lY := bY2.lt
    have kC0 := bC2.cell 0 rfl
    have kC1 := bC2.cell 1 rfl
    have lC := bC2.lt
    go_wp2_with fail
    clear kT0 kT1 kT2 kT3 kT4 kT5 kT6 kT7 kT8 kT9 lT kY0 kY1 kY2 lY kC0 kC1 lC
    refine (HIC.out _).mono ?_
    rintro e w3 ⟨rfl, hb3⟩
    have bT3 := bT2.below hb3
    have bY3 := bY2.below hb3
    have bC3 := bC2.below hb3
    have hB3 := hB2.trans (hb3.mono hB2.size)
    clear bT2 bY2 bC2 hB2
    have kT0 := bT3.cell 0 rfl
    have kT1 := bT3.cell 1 rfl
    have kT2 := bT3.cell 2 rfl
    have kT3 := bT3.cell 3 rfl
    have kT4 := bT3.cell 4 rfl
    have kT5 := bT3.cell 5 rfl
    have kT6 := bT3.cell 6 rfl
    have kT7 := bT3.cell 7 rfl
    have kT8 := bT3.cell 8 rfl
    have kT9 := bT3.cell 9 rfl
    have lT := bT3.lt
    have kY0 := bY3.cell 0 rfl
    have kY1 := bY3.cell 1 rfl
    have kY2 := bY3.cell 2 rfl
    have lY := bY3.lt
    have kC0 := bC3.cell 0 rfl
    have kC1 := bC3.cell 1 rfl
    have lC := bC3.lt
    go_wp2_with fail
    clear kT0 kT1 kT2 kT3 kT4 kT5 kT6 kT7 kT8 kT9 lT kY0 kY1 kY2 lY kC0 kC1 lC
    refine (HWK.out _).mono ?_
    rintro e w4 ⟨rfl, hb4⟩
    have bT4 := bT3.below hb4
    have bY4 := bY3.below hb4
    have bC4 := bC3.below hb4
    have hB4 := hB3.trans (hb4.mono hB3.size)
    clear bT3 bY3 bC3 hB3
    go_wp2_with fail
    go_returns
    exact ⟨rfl, hB4⟩
  rw [hcb] at HIC
  have HIT : Hid (∀ W, Below w.heap.size w W → Calls Tryz.prog 38 #[.agg (tiV t A c), .agg #[.int .i64 g, .int .i64 s]] W fun e w' => e = .returned (.bool (Ti.isT t (g, s))) ∧ Below W.heap.size W w') := fun W hW => IsTruth9_any t (g, s) A c W hck hl ((hg.keep hW).wider hW.size)
  cases hit : Ti.isT t (g, s)
  · rw [hit] at HIT
    clear hg hr hck hcb hit
    obtain ⟨d, gain, ts⟩ := t
    obtain ⟨full, read, slip, skew, circ, glo, ghi, wrn, dws⟩ := d
    unfold tiV at *
    dsimp only at *
    go_enter Tryz.func6, Tryz.ntmps6
    go_wp2_with fail
    have bT1 := (((BoxS.new w 28 #[.int .i64 full, .int .i64 read, .int .i64 slip, .int .i64 skew, .int .i64 circ, .int .i64 glo, .int .i64 ghi, .int .i64 wrn, .int .i64 gain, .slice A ts.length c]).alloc (.cells #[.int .i64 g, .int .i64 s, .int .i64 a] 58)).alloc (.cells #[.int .i64 sz, .int .i64 mo] 45))
    have bY1 := ((BoxS.new (World.alloc w (.cells #[.int .i64 full, .int .i64 read, .int .i64 slip, .int .i64 skew, .int .i64 circ, .int .i64 glo, .int .i64 ghi, .int .i64 wrn, .int .i64 gain, .slice A ts.length c] 28)) 58 #[.int .i64 g, .int .i64 s, .int .i64 a]).alloc (.cells #[.int .i64 sz, .int .i64 mo] 45))
    have bC1 := (BoxS.new (World.alloc (World.alloc w (.cells #[.int .i64 full, .int .i64 read, .int .i64 slip, .int .i64 skew, .int .i64 circ, .int .i64 glo, .int .i64 ghi, .int .i64 wrn, .int .i64 gain, .slice A ts.length c] 28)) (.cells #[.int .i64 g, .int .i64 s, .int .i64 a] 58)) 45 #[.int .i64 sz, .int .i64 mo])
    have hB1 : Below w.heap.size w (World.alloc (World.alloc (World.alloc w (.cells #[.int .i64 full, .int .i64 read, .int .i64 slip, .int .i64 skew, .int .i64 circ, .int .i64 glo, .int .i64 ghi, .int .i64 wrn, .int .i64 gain, .slice A ts.length c] 28)) (.cells #[.int .i64 g, .int .i64 s, .int .i64 a] 58)) (.cells #[.int .i64 sz, .int .i64 mo] 45)) := by (repeat' (first | (with_reducible exact Below.refl _ _) | (with_reducible assumption) | (with_reducible refine Below.alloc ?_ ?_ _) | (with_reducible refine Below.drew ?_) | (with_reducible refine Below.setCell ?_ ?_ _) | go_size | (exact (by simp)) | omega))
    simp only [World.size_alloc] at bY1 bC1
    generalize World.alloc (World.alloc (World.alloc w _) _) _ = w1 at *
    refine (HRD.out _ hB1).mono ?_
    rintro e w2 ⟨rfl, hb2⟩
    have bT2 := bT1.below hb2
    have bY2 := bY1.below hb2
    have bC2 := bC1.below hb2
    have hB2 := hB1.trans (hb2.mono hB1.size)
    clear bT1 bY1 bC1 hB1
    have kT0 := bT2.cell 0 rfl
    have kT1 := bT2.cell 1 rfl
    have kT2 := bT2.cell 2 rfl
    have kT3 := bT2.cell 3 rfl
    have kT4 := bT2.cell 4 rfl
    have kT5 := bT2.cell 5 rfl
    have kT6 := bT2.cell 6 rfl
    have kT7 := bT2.cell 7 rfl
    have kT8 := bT2.cell 8 rfl
    have kT9 := bT2.cell 9 rfl
    have lT := bT2.lt
    have kY0 := bY2.cell 0 rfl
    have kY1 := bY2.cell 1 rfl
    have kY2 := bY2.cell 2 rfl
    have lY := bY2.lt
    have kC0 := bC2.cell 0 rfl
    have kC1 := bC2.cell 1 rfl
    have lC := bC2.lt
    go_wp2_with fail
    clear kT0 kT1 kT2 kT3 kT4 kT5 kT6 kT7 kT8 kT9 lT kY0 kY1 kY2 lY kC0 kC1 lC
    refine (HIC.out _).mono ?_
    rintro e w3 ⟨rfl, hb3⟩
    have bT3 := bT2.below hb3
    have bY3 := bY2.below hb3
    have bC3 := bC2.below hb3
    have hB3 := hB2.trans (hb3.mono hB2.size)
    clear bT2 bY2 bC2 hB2
    have kT0 := bT3.cell 0 rfl
    have kT1 := bT3.cell 1 rfl
    have kT2 := bT3.cell 2 rfl
    have kT3 := bT3.cell 3 rfl
    have kT4 := bT3.cell 4 rfl
    have kT5 := bT3.cell 5 rfl
    have kT6 := bT3.cell 6 rfl
    have kT7 := bT3.cell 7 rfl
    have kT8 := bT3.cell 8 rfl
    have kT9 := bT3.cell 9 rfl
    have lT := bT3.lt
    have kY0 := bY3.cell 0 rfl
    have kY1 := bY3.cell 1 rfl
    have kY2 := bY3.cell 2 rfl
    have lY := bY3.lt
    have kC0 := bC3.cell 0 rfl
    have kC1 := bC3.cell 1 rfl
    have lC := bC3.lt
    go_wp2_with fail
    clear kT0 kT1 kT2 kT3 kT4 kT5 kT6 kT7 kT8 kT9 lT kY0 kY1 kY2 lY kC0 kC1 lC
    refine (HIT.out _ hB3).mono ?_
    rintro e w4 ⟨rfl, hb4⟩
    have bT4 := bT3.below hb4
    have bY4 := bY3.below hb4
    have bC4 := bC3.below hb4
    have hB4 := hB3.trans (hb4.mono hB3.size)
    clear bT3 bY3 bC3 hB3
    have kT0 := bT4.cell 0 rfl
    have kT1 := bT4.cell 1 rfl
    have kT2 := bT4.cell 2 rfl
    have kT3 := bT4.cell 3 rfl
    have kT4 := bT4.cell 4 rfl
    have kT5 := bT4.cell 5 rfl
    have kT6 := bT4.cell 6 rfl
    have kT7 := bT4.cell 7 rfl
    have kT8 := bT4.cell 8 rfl
    have kT9 := bT4.cell 9 rfl
    have lT := bT4.lt
    have kY0 := bY4.cell 0 rfl
    have kY1 := bY4.cell 1 rfl
    have kY2 := bY4.cell 2 rfl
    have lY := bY4.lt
    have kC0 := bC4.cell 0 rfl
    have kC1 := bC4.cell 1 rfl
    have lC := bC4.lt
    go_wp2_with fail
    clear kT0 kT1 kT2 kT3 kT4 kT5 kT6 kT7 kT8 kT9 lT kY0 kY1 kY2 lY kC0 kC1 lC
    refine (HWK.out _).mono ?_
    rintro e w5 ⟨rfl, hb5⟩
    have bT5 := bT4.below hb5
    have bY5 := bY4.below hb5
    have bC5 := bC4.below hb5
    have hB5 := hB4.trans (hb5.mono hB4.size)
    clear bT4 bY4 bC4 hB4
    go_wp2_with fail
    go_returns
    exact ⟨rfl, hB5⟩
  rw [hit] at HIT
  have haa : 0 ≤ a ∧ a ≤ 9000 := by omega
  have hz : 0 ≤ sz ∧ sz ≤ 9000 := by unfold Ti.classB at hcb; rw [Bool.and_eq_true, inB_true] at hcb; exact hcb.1
  obtain ⟨hsm, hop, m1, m2, ⟨m3, m4⟩, ⟨m5, m6⟩, m7, m8, l1, l2, l3⟩ := Ti.true_facts hck hit haa hcb
  have l3 : (Ti.realE 0 t (Ti.seenV g a)).length ≤ 10000 := l3
  have hsm' : (-50 ≤ g ∧ g ≤ 50) ∧ (-20 ≤ s ∧ s ≤ 20) := hsm
  have hsv := Ti.seen_bd hsm'.1 haa
  have hinA : inB a 0 9000 = true := inB_true.2 haa
  have hinS : inB (Ti.seenV g a) 0 9999 = true := inB_true.2 (by omega)
  have HGN : Hid (∀ W, Below w.heap.size w W → Calls Tryz.prog 15 #[.agg (tiV t A c)] W (IntsEPost (Ti.allE (fun x => x.1) 0 t) 0 W)) := fun W hW => by
    have := GainsT_any t A c W hl ((hg.keep hW).wider hW.size)
    rwa [hop] at this
  have HSK : Hid (∀ W, Below w.heap.size w W → Calls Tryz.prog 17 #[.agg (tiV t A c)] W (IntsEPost (Ti.allE (fun x => x.2) 0 t) 0 W)) := fun W hW => by
    have := SkewsT_any t A c W hl ((hg.keep hW).wider hW.size)
    rwa [hop] at this
  have HER : Hid (∀ W, Below w.heap.size w W → Calls Tryz.prog 19 #[.agg (tiV t A c), .int .i64 a] W (SpanPost (Ti.lowE (fun x => Ti.errV x a) 0 t) (Ti.highE (fun x => Ti.errV x a) 0 t) 0 W)) := fun W hW => by
    have := Errs_any t a A c W hl ((hg.keep hW).wider hW.size)
    rwa [hinA, hop] at this
  have HSN : Hid (∀ W, Below w.heap.size w W → Calls Tryz.prog 25 #[.agg (tiV t A c), .int .i64 a] W (SpanPost (Ti.lowE (fun x => Ti.seenV x.1 a) 0 t) (Ti.highE (fun x => Ti.seenV x.1 a) 0 t) 0 W)) := fun W hW => by
    have := Seen_any t a A c W hl ((hg.keep hW).wider hW.size)
    rwa [hinA, hop] at this
  have HRL : Hid (∀ W, Below w.heap.size w W → Calls Tryz.prog 27 #[.agg (tiV t A c), .int .i64 (Ti.seenV g a)] W (IntsEPost (Ti.realE 0 t (Ti.seenV g a)) 0 W)) := fun W hW => by
    have := RealT_any t (Ti.seenV g a) A c W hl ((hg.keep hW).wider hW.size)
    rwa [hinS, hop] at this
  have HCE : Hid (∀ W, Below w.heap.size w W → Calls Tryz.prog 23 #[.agg (tiV t A c), .agg #[.int .i64 sz, .int .i64 mo]] W (TwoPost (Ti.certV t sz mo 0) 0 W)) := fun W hW => by
    have := Certify_any t sz mo A c W hl ((hg.keep hW).wider hW.size)
    rwa [hcb, hop] at this
  have HSA : Hid (∀ W, Calls Tryz.prog 39 #[.int .i64 a, .int .i64 g] W fun e w' => e = .returned (.int .i64 (Ti.seenV g a)) ∧ w' = W) := fun W => SeenArea9_any g a hsm'.1 haa W
  have HEA : Hid (∀ W, Calls Tryz.prog 42 #[.agg #[.int .i64 g, .int .i64 s], .int .i64 a] W fun e w' => e = .returned (.int .i64 (Ti.errV (g, s) a)) ∧ Below W.heap.size W w') := fun W => Error9_any (g, s) a hsm'.1 hsm'.2 haa W
  have HES : Hid (∀ W, Calls Tryz.prog 42 #[.agg #[.int .i64 g, .int .i64 s], .int .i64 sz] W fun e w' => e = .returned (.int .i64 (Ti.errV (g, s) sz)) ∧ Below W.heap.size W w') := fun W => Error9_any (g, s) sz hsm'.1 hsm'.2 hz W
  have HHS : Hid (∀ W, Calls Tryz.prog 41 #[.agg #[.int .i64 (Ti.lowE (fun x => Ti.errV x a) 0 t), .int .i64 (Ti.highE (fun x => Ti.errV x a) 0 t)], .int .i64 (Ti.errV (g, s) a)] W fun e w' => e = .returned (.bool true) ∧ Below W.heap.size W w') := fun W => holds9_yes _ _ _ m3 m4 W
  have HHU : Hid (∀ W, Calls Tryz.prog 41 #[.agg #[.int .i64 (Ti.lowE (fun x => Ti.seenV x.1 a) 0 t), .int .i64 (Ti.highE (fun x => Ti.seenV x.1 a) 0 t)], .int .i64 (Ti.seenV g a)] W fun e w' => e = .returned (.bool true) ∧ Below W.heap.size W w') := fun W => holds9_yes _ _ _ m5 m6 W
  have HIA : Hid (∀ v W, Ints W W.heap.size v (Ti.allE (fun x => x.1) 0 t) → Calls Tryz.prog 40 #[v, .int .i64 g] W fun e w' => e = .returned (.bool true) ∧ w' = W) := fun v W h => by
    have := In_any v _ g W h (by omega)
    rwa [decide_eq_true m1] at this
  have HIB : Hid (∀ v W, Ints W W.heap.size v (Ti.allE (fun x => x.2) 0 t) → Calls Tryz.prog 40 #[v, .int .i64 s] W fun e w' => e = .returned (.bool true) ∧ w' = W) := fun v W h => by
    have := In_any v _ s W h (by omega)
    rwa [decide_eq_true m2] at this
  have HIR : Hid (∀ v W, Ints W W.heap.size v (Ti.realE 0 t (Ti.seenV g a)) → Calls Tryz.prog 40 #[v, .int .i64 a] W fun e w' => e = .returned (.bool true) ∧ w' = W) := fun v W h => by
    have := In_any v _ a W h (by omega)
    rwa [decide_eq_true m7] at this
  have HN := Lib.hid m8
  unfold SpanPost at HER HSN
  unfold TwoPost at HCE
  unfold IntsEPost at HGN HSK HRL
  have hmo : Tryz.prog.follows .mixedOrders = true := by kernel_rfl
  clear m1 m2 m3 m4 m5 m6 m7 m8 hg hr hck hcb hit hinA hinS hop hsm hsm' hsv haa hz
  generalize Ti.realE 0 t (Ti.seenV g a) = RL at *
  generalize Ti.lowE (fun x => Ti.errV x a) 0 t = LO at *
  generalize Ti.highE (fun x => Ti.errV x a) 0 t = HI at *
  generalize Ti.lowE (fun x => Ti.seenV x.1 a) 0 t = SLO at *
  generalize Ti.highE (fun x => Ti.seenV x.1 a) 0 t = SHI at *
  generalize Ti.seenV g a = SV at *
  generalize Ti.errV (g, s) a = EA at *
  generalize Ti.errV (g, s) sz = ES at *
  generalize Ti.certV t sz mo 0 = N at *
  generalize Ti.allE (fun x => x.1) 0 t = GL at *
  generalize Ti.allE (fun x => x.2) 0 t = SL at *
  have d1 : decide ((200 : Int) < (GL.length : Int)) = false := decide_eq_false (by omega)
  have d2 : decide ((200 : Int) < (SL.length : Int)) = false := decide_eq_false (by omega)
  have d3 : decide ((10000 : Int) < (RL.length : Int)) = false := decide_eq_false (by omega)
  obtain ⟨d, gain, ts⟩ := t
  obtain ⟨full, read, slip, skew, circ, glo, ghi, wrn, dws⟩ := d
  unfold tiV at *
  dsimp only at *
  go_enter Tryz.func6, Tryz.ntmps6
  go_wp2_with fail
  have bT1 := (((BoxS.new w 28 #[.int .i64 full, .int .i64 read, .int .i64 slip, .int .i64 skew, .int .i64 circ, .int .i64 glo, .int .i64 ghi, .int .i64 wrn, .int .i64 gain, .slice A ts.length c]).alloc (.cells #[.int .i64 g, .int .i64 s, .int .i64 a] 58)).alloc (.cells #[.int .i64 sz, .int .i64 mo] 45))
  have bY1 := ((BoxS.new (World.alloc w (.cells #[.int .i64 full, .int .i64 read, .int .i64 slip, .int .i64 skew, .int .i64 circ, .int .i64 glo, .int .i64 ghi, .int .i64 wrn, .int .i64 gain, .slice A ts.length c] 28)) 58 #[.int .i64 g, .int .i64 s, .int .i64 a]).alloc (.cells #[.int .i64 sz, .int .i64 mo] 45))
  have bC1 := (BoxS.new (World.alloc (World.alloc w (.cells #[.int .i64 full, .int .i64 read, .int .i64 slip, .int .i64 skew, .int .i64 circ, .int .i64 glo, .int .i64 ghi, .int .i64 wrn, .int .i64 gain, .slice A ts.length c] 28)) (.cells #[.int .i64 g, .int .i64 s, .int .i64 a] 58)) 45 #[.int .i64 sz, .int .i64 mo])
  have hB1 : Below w.heap.size w (World.alloc (World.alloc (World.alloc w (.cells #[.int .i64 full, .int .i64 read, .int .i64 slip, .int .i64 skew, .int .i64 circ, .int .i64 glo, .int .i64 ghi, .int .i64 wrn, .int .i64 gain, .slice A ts.length c] 28)) (.cells #[.int .i64 g, .int .i64 s, .int .i64 a] 58)) (.cells #[.int .i64 sz, .int .i64 mo] 45)) := by (repeat' (first | (with_reducible exact Below.refl _ _) | (with_reducible assumption) | (with_reducible refine Below.alloc ?_ ?_ _) | (with_reducible refine Below.drew ?_) | (with_reducible refine Below.setCell ?_ ?_ _) | go_size | (exact (by simp)) | omega))
  simp only [World.size_alloc] at bY1 bC1
  generalize World.alloc (World.alloc (World.alloc w _) _) _ = w1 at *
  refine (HRD.out _ hB1).mono ?_
  rintro e w2 ⟨rfl, hb2⟩
  have bT2 := bT1.below hb2
  have bY2 := bY1.below hb2
  have bC2 := bC1.below hb2
  have hB2 := hB1.trans (hb2.mono hB1.size)
  clear bT1 bY1 bC1 hB1
  have kT0 := bT2.cell 0 rfl
  have kT1 := bT2.cell 1 rfl
  have kT2 := bT2.cell 2 rfl
  have kT3 := bT2.cell 3 rfl
  have kT4 := bT2.cell 4 rfl
  have kT5 := bT2.cell 5 rfl
  have kT6 := bT2.cell 6 rfl
  have kT7 := bT2.cell 7 rfl
  have kT8 := bT2.cell 8 rfl
  have kT9 := bT2.cell 9 rfl
  have lT := bT2.lt
  have kY0 := bY2.cell 0 rfl
  have kY1 := bY2.cell 1 rfl
  have kY2 := bY2.cell 2 rfl
  have lY := bY2.lt
  have kC0 := bC2.cell 0 rfl
  have kC1 := bC2.cell 1 rfl
  have lC := bC2.lt
  go_wp2_with fail
  clear kT0 kT1 kT2 kT3 kT4 kT5 kT6 kT7 kT8 kT9 lT kY0 kY1 kY2 lY kC0 kC1 lC
  refine (HIC.out _).mono ?_
  rintro e w3 ⟨rfl, hb3⟩
  have bT3 := bT2.below hb3
  have bY3 := bY2.below hb3
  have bC3 := bC2.below hb3
  have hB3 := hB2.trans (hb3.mono hB2.size)
  clear bT2 bY2 bC2 hB2
  have kT0 := bT3.cell 0 rfl
  have kT1 := bT3.cell 1 rfl
  have kT2 := bT3.cell 2 rfl
  have kT3 := bT3.cell 3 rfl
  have kT4 := bT3.cell 4 rfl
  have kT5 := bT3.cell 5 rfl
  have kT6 := bT3.cell 6 rfl
  have kT7 := bT3.cell 7 rfl
  have kT8 := bT3.cell 8 rfl
  have kT9 := bT3.cell 9 rfl
  have lT := bT3.lt
  have kY0 := bY3.cell 0 rfl
  have kY1 := bY3.cell 1 rfl
  have kY2 := bY3.cell 2 rfl
  have lY := bY3.lt
  have kC0 := bC3.cell 0 rfl
  have kC1 := bC3.cell 1 rfl
  have lC := bC3.lt
  go_wp2_with fail
  clear kT0 kT1 kT2 kT3 kT4 kT5 kT6 kT7 kT8 kT9 lT kY0 kY1 kY2 lY kC0 kC1 lC
  refine (HIT.out _ hB3).mono ?_
  rintro e w4 ⟨rfl, hb4⟩
  have bT4 := bT3.below hb4
  have bY4 := bY3.below hb4
  have bC4 := bC3.below hb4
  have hB4 := hB3.trans (hb4.mono hB3.size)
  clear bT3 bY3 bC3 hB3
  have kT0 := bT4.cell 0 rfl
  have kT1 := bT4.cell 1 rfl
  have kT2 := bT4.cell 2 rfl
  have kT3 := bT4.cell 3 rfl
  have kT4 := bT4.cell 4 rfl
  have kT5 := bT4.cell 5 rfl
  have kT6 := bT4.cell 6 rfl
  have kT7 := bT4.cell 7 rfl
  have kT8 := bT4.cell 8 rfl
  have kT9 := bT4.cell 9 rfl
  have lT := bT4.lt
  have kY0 := bY4.cell 0 rfl
  have kY1 := bY4.cell 1 rfl
  have kY2 := bY4.cell 2 rfl
  have lY := bY4.lt
  have kC0 := bC4.cell 0 rfl
  have kC1 := bC4.cell 1 rfl
  have lC := bC4.lt
  go_wp2_with fail
  clear kT0 kT1 kT2 kT3 kT4 kT5 kT6 kT7 kT8 kT9 lT kY0 kY1 kY2 lY kC0 kC1 lC
  refine (HGN.out _ hB4).mono ?_
  rintro e w5 ⟨vA, rfl, hvA, hb5⟩
  have bT5 := bT4.below hb5
  have bY5 := bY4.below hb5
  have bC5 := bC4.below hb5
  have hB5 := hB4.trans (hb5.mono hB4.size)
  clear bT4 bY4 bC4 hB4
  have HVA5 := Lib.hid hvA.out
  clear hvA
  obtain ⟨AA, cA, rfl⟩ := ints_form HVA5.out
  have kT0 := bT5.cell 0 rfl
  have kT1 := bT5.cell 1 rfl
  have kT2 := bT5.cell 2 rfl
  have kT3 := bT5.cell 3 rfl
  have kT4 := bT5.cell 4 rfl
  have kT5 := bT5.cell 5 rfl
  have kT6 := bT5.cell 6 rfl
  have kT7 := bT5.cell 7 rfl
  have kT8 := bT5.cell 8 rfl
  have kT9 := bT5.cell 9 rfl
  have lT := bT5.lt
  have kY0 := bY5.cell 0 rfl
  have kY1 := bY5.cell 1 rfl
  have kY2 := bY5.cell 2 rfl
  have lY := bY5.lt
  have kC0 := bC5.cell 0 rfl
  have kC1 := bC5.cell 1 rfl
  have lC := bC5.lt
  go_wp2_with fail
  clear kT0 kT1 kT2 kT3 kT4 kT5 kT6 kT7 kT8 kT9 lT kY0 kY1 kY2 lY kC0 kC1 lC
  refine (HSK.out _ hB5).mono ?_
  rintro e w6 ⟨vB, rfl, hvB, hb6⟩
  have bT6 := bT5.below hb6
  have bY6 := bY5.below hb6
  have bC6 := bC5.below hb6
  have hB6 := hB5.trans (hb6.mono hB5.size)
  clear bT5 bY5 bC5 hB5
  have HVB6 := Lib.hid hvB.out
  clear hvB
  obtain ⟨AB, cB, rfl⟩ := ints_form HVB6.out
  have HVA6 := Lib.hid ((HVA5.out.keep hb6).more hb6.size)
  clear HVA5
  have kT0 := bT6.cell 0 rfl
  have kT1 := bT6.cell 1 rfl
  have kT2 := bT6.cell 2 rfl
  have kT3 := bT6.cell 3 rfl
  have kT4 := bT6.cell 4 rfl
  have kT5 := bT6.cell 5 rfl
  have kT6 := bT6.cell 6 rfl
  have kT7 := bT6.cell 7 rfl
  have kT8 := bT6.cell 8 rfl
  have kT9 := bT6.cell 9 rfl
  have lT := bT6.lt
  have kY0 := bY6.cell 0 rfl
  have kY1 := bY6.cell 1 rfl
  have kY2 := bY6.cell 2 rfl
  have lY := bY6.lt
  have kC0 := bC6.cell 0 rfl
  have kC1 := bC6.cell 1 rfl
  have lC := bC6.lt
  go_wp2_with fail
  clear kT0 kT1 kT2 kT3 kT4 kT5 kT6 kT7 kT8 kT9 lT kY0 kY1 kY2 lY kC0 kC1 lC
  refine (HER.out _ hB6).mono ?_
  rintro e w7 ⟨rfl, hb7⟩
  have bT7 := bT6.below hb7
  have bY7 := bY6.below hb7
  have bC7 := bC6.below hb7
  have hB7 := hB6.trans (hb7.mono hB6.size)
  clear bT6 bY6 bC6 hB6
  have HVA7 := Lib.hid ((HVA6.out.keep hb7).more hb7.size)
  have HVB7 := Lib.hid ((HVB6.out.keep hb7).more hb7.size)
  clear HVA6 HVB6
  have kT0 := bT7.cell 0 rfl
  have kT1 := bT7.cell 1 rfl
  have kT2 := bT7.cell 2 rfl
  have kT3 := bT7.cell 3 rfl
  have kT4 := bT7.cell 4 rfl
  have kT5 := bT7.cell 5 rfl
  have kT6 := bT7.cell 6 rfl
  have kT7 := bT7.cell 7 rfl
  have kT8 := bT7.cell 8 rfl
  have kT9 := bT7.cell 9 rfl
  have lT := bT7.lt
  have kY0 := bY7.cell 0 rfl
  have kY1 := bY7.cell 1 rfl
  have kY2 := bY7.cell 2 rfl
  have lY := bY7.lt
  have kC0 := bC7.cell 0 rfl
  have kC1 := bC7.cell 1 rfl
  have lC := bC7.lt
  go_wp2_with fail
  clear kT0 kT1 kT2 kT3 kT4 kT5 kT6 kT7 kT8 kT9 lT kY0 kY1 kY2 lY kC0 kC1 lC
  have HVA8 := Lib.hid ((HVA7.out.keep (show Below w7.heap.size w7 (World.alloc w7 (.cells #[.int .i64 LO, .int .i64 HI] 23)) from ((Below.refl w7.heap.size w7).alloc (Nat.le_refl _) _))).more (show Below w7.heap.size w7 (World.alloc w7 (.cells #[.int .i64 LO, .int .i64 HI] 23)) from ((Below.refl w7.heap.size w7).alloc (Nat.le_refl _) _)).size)
  have HVB8 := Lib.hid ((HVB7.out.keep (show Below w7.heap.size w7 (World.alloc w7 (.cells #[.int .i64 LO, .int .i64 HI] 23)) from ((Below.refl w7.heap.size w7).alloc (Nat.le_refl _) _))).more (show Below w7.heap.size w7 (World.alloc w7 (.cells #[.int .i64 LO, .int .i64 HI] 23)) from ((Below.refl w7.heap.size w7).alloc (Nat.le_refl _) _)).size)
  clear HVA7 HVB7
  have bT8 := (bT7.alloc (.cells #[.int .i64 LO, .int .i64 HI] 23))
  have bY8 := (bY7.alloc (.cells #[.int .i64 LO, .int .i64 HI] 23))
  have bC8 := (bC7.alloc (.cells #[.int .i64 LO, .int .i64 HI] 23))
  have bS8 := (BoxS.new w7 23 #[.int .i64 LO, .int .i64 HI])
  have hB8 : Below w.heap.size w (World.alloc w7 (.cells #[.int .i64 LO, .int .i64 HI] 23)) := (hB7.alloc hB7.size _)
  obtain ⟨BS, hBS⟩ : ∃ B, B = w7.heap.size := ⟨_, rfl⟩
  clear bT7 bY7 bC7 hB7
  generalize World.alloc w7 _ = w8 at *
  rw [← hBS]
  rw [← hBS] at bS8
  clear hBS
  refine (HSN.out _ hB8).mono ?_
  rintro e w9 ⟨rfl, hb9⟩
  have bT9 := bT8.below hb9
  have bY9 := bY8.below hb9
  have bC9 := bC8.below hb9
  have bS9 := bS8.below hb9
  have hB9 := hB8.trans (hb9.mono hB8.size)
  clear bT8 bY8 bC8 bS8 hB8
  have HVA9 := Lib.hid ((HVA8.out.keep hb9).more hb9.size)
  have HVB9 := Lib.hid ((HVB8.out.keep hb9).more hb9.size)
  clear HVA8 HVB8
  have kT0 := bT9.cell 0 rfl
  have kT1 := bT9.cell 1 rfl
  have kT2 := bT9.cell 2 rfl
  have kT3 := bT9.cell 3 rfl
  have kT4 := bT9.cell 4 rfl
  have kT5 := bT9.cell 5 rfl
  have kT6 := bT9.cell 6 rfl
  have kT7 := bT9.cell 7 rfl
  have kT8 := bT9.cell 8 rfl
  have kT9 := bT9.cell 9 rfl
  have lT := bT9.lt
  have kY0 := bY9.cell 0 rfl
  have kY1 := bY9.cell 1 rfl
  have kY2 := bY9.cell 2 rfl
  have lY := bY9.lt
  have kC0 := bC9.cell 0 rfl
  have kC1 := bC9.cell 1 rfl
  have lC := bC9.lt
  have kS0 := bS9.cell 0 rfl
  have kS1 := bS9.cell 1 rfl
  have lS := bS9.lt
  go_wp2_with fail
  clear kT0 kT1 kT2 kT3 kT4 kT5 kT6 kT7 kT8 kT9 lT kY0 kY1 kY2 lY kC0 kC1 lC kS0 kS1 lS
  have HVA10 := Lib.hid ((HVA9.out.keep (show Below w9.heap.size w9 (World.alloc w9 (.cells #[.int .i64 SLO, .int .i64 SHI] 23)) from ((Below.refl w9.heap.size w9).alloc (Nat.le_refl _) _))).more (show Below w9.heap.size w9 (World.alloc w9 (.cells #[.int .i64 SLO, .int .i64 SHI] 23)) from ((Below.refl w9.heap.size w9).alloc (Nat.le_refl _) _)).size)
  have HVB10 := Lib.hid ((HVB9.out.keep (show Below w9.heap.size w9 (World.alloc w9 (.cells #[.int .i64 SLO, .int .i64 SHI] 23)) from ((Below.refl w9.heap.size w9).alloc (Nat.le_refl _) _))).more (show Below w9.heap.size w9 (World.alloc w9 (.cells #[.int .i64 SLO, .int .i64 SHI] 23)) from ((Below.refl w9.heap.size w9).alloc (Nat.le_refl _) _)).size)
  clear HVA9 HVB9
  have bT10 := (bT9.alloc (.cells #[.int .i64 SLO, .int .i64 SHI] 23))
  have bY10 := (bY9.alloc (.cells #[.int .i64 SLO, .int .i64 SHI] 23))
  have bC10 := (bC9.alloc (.cells #[.int .i64 SLO, .int .i64 SHI] 23))
  have bS10 := (bS9.alloc (.cells #[.int .i64 SLO, .int .i64 SHI] 23))
  have bU10 := (BoxS.new w9 23 #[.int .i64 SLO, .int .i64 SHI])
  have hB10 : Below w.heap.size w (World.alloc w9 (.cells #[.int .i64 SLO, .int .i64 SHI] 23)) := (hB9.alloc hB9.size _)
  obtain ⟨BU, hBU⟩ : ∃ B, B = w9.heap.size := ⟨_, rfl⟩
  clear bT9 bY9 bC9 bS9 hB9
  generalize World.alloc w9 _ = w10 at *
  rw [← hBU]
  rw [← hBU] at bU10
  clear hBU
  refine (HSA.out _).mono ?_
  rintro e wq ⟨rfl, hq⟩
  have hq := hq.symm
  subst hq
  have kT0 := bT10.cell 0 rfl
  have kT1 := bT10.cell 1 rfl
  have kT2 := bT10.cell 2 rfl
  have kT3 := bT10.cell 3 rfl
  have kT4 := bT10.cell 4 rfl
  have kT5 := bT10.cell 5 rfl
  have kT6 := bT10.cell 6 rfl
  have kT7 := bT10.cell 7 rfl
  have kT8 := bT10.cell 8 rfl
  have kT9 := bT10.cell 9 rfl
  have lT := bT10.lt
  have kY0 := bY10.cell 0 rfl
  have kY1 := bY10.cell 1 rfl
  have kY2 := bY10.cell 2 rfl
  have lY := bY10.lt
  have kC0 := bC10.cell 0 rfl
  have kC1 := bC10.cell 1 rfl
  have lC := bC10.lt
  have kS0 := bS10.cell 0 rfl
  have kS1 := bS10.cell 1 rfl
  have lS := bS10.lt
  have kU0 := bU10.cell 0 rfl
  have kU1 := bU10.cell 1 rfl
  have lU := bU10.lt
  go_wp2_with fail
  clear kT0 kT1 kT2 kT3 kT4 kT5 kT6 kT7 kT8 kT9 lT kY0 kY1 kY2 lY kC0 kC1 lC kS0 kS1 lS kU0 kU1 lU
  refine (HRL.out _ hB10).mono ?_
  rintro e w11 ⟨vR, rfl, hvR, hb11⟩
  have bT11 := bT10.below hb11
  have bY11 := bY10.below hb11
  have bC11 := bC10.below hb11
  have bS11 := bS10.below hb11
  have bU11 := bU10.below hb11
  have hB11 := hB10.trans (hb11.mono hB10.size)
  clear bT10 bY10 bC10 bS10 bU10 hB10
  have HVR11 := Lib.hid hvR.out
  clear hvR
  obtain ⟨AR, cR, rfl⟩ := ints_form HVR11.out
  have HVA11 := Lib.hid ((HVA10.out.keep hb11).more hb11.size)
  have HVB11 := Lib.hid ((HVB10.out.keep hb11).more hb11.size)
  clear HVA10 HVB10
  have kT0 := bT11.cell 0 rfl
  have kT1 := bT11.cell 1 rfl
  have kT2 := bT11.cell 2 rfl
  have kT3 := bT11.cell 3 rfl
  have kT4 := bT11.cell 4 rfl
  have kT5 := bT11.cell 5 rfl
  have kT6 := bT11.cell 6 rfl
  have kT7 := bT11.cell 7 rfl
  have kT8 := bT11.cell 8 rfl
  have kT9 := bT11.cell 9 rfl
  have lT := bT11.lt
  have kY0 := bY11.cell 0 rfl
  have kY1 := bY11.cell 1 rfl
  have kY2 := bY11.cell 2 rfl
  have lY := bY11.lt
  have kC0 := bC11.cell 0 rfl
  have kC1 := bC11.cell 1 rfl
  have lC := bC11.lt
  have kS0 := bS11.cell 0 rfl
  have kS1 := bS11.cell 1 rfl
  have lS := bS11.lt
  have kU0 := bU11.cell 0 rfl
  have kU1 := bU11.cell 1 rfl
  have lU := bU11.lt
  go_wp2_with fail
  clear kT0 kT1 kT2 kT3 kT4 kT5 kT6 kT7 kT8 kT9 lT kY0 kY1 kY2 lY kC0 kC1 lC kS0 kS1 lS kU0 kU1 lU
  refine (HCE.out _ hB11).mono ?_
  rintro e w12 ⟨rfl, hb12⟩
  have bT12 := bT11.below hb12
  have bY12 := bY11.below hb12
  have bC12 := bC11.below hb12
  have bS12 := bS11.below hb12
  have bU12 := bU11.below hb12
  have hB12 := hB11.trans (hb12.mono hB11.size)
  clear bT11 bY11 bC11 bS11 bU11 hB11
  have HVA12 := Lib.hid ((HVA11.out.keep hb12).more hb12.size)
  have HVB12 := Lib.hid ((HVB11.out.keep hb12).more hb12.size)
  have HVR12 := Lib.hid ((HVR11.out.keep hb12).more hb12.size)
  clear HVA11 HVB11 HVR11
  have kT0 := bT12.cell 0 rfl
  have kT1 := bT12.cell 1 rfl
  have kT2 := bT12.cell 2 rfl
  have kT3 := bT12.cell 3 rfl
  have kT4 := bT12.cell 4 rfl
  have kT5 := bT12.cell 5 rfl
  have kT6 := bT12.cell 6 rfl
  have kT7 := bT12.cell 7 rfl
  have kT8 := bT12.cell 8 rfl
  have kT9 := bT12.cell 9 rfl
  have lT := bT12.lt
  have kY0 := bY12.cell 0 rfl
  have kY1 := bY12.cell 1 rfl
  have kY2 := bY12.cell 2 rfl
  have lY := bY12.lt
  have kC0 := bC12.cell 0 rfl
  have kC1 := bC12.cell 1 rfl
  have lC := bC12.lt
  have kS0 := bS12.cell 0 rfl
  have kS1 := bS12.cell 1 rfl
  have lS := bS12.lt
  have kU0 := bU12.cell 0 rfl
  have kU1 := bU12.cell 1 rfl
  have lU := bU12.lt
  go_wp2_with fail
  clear kT0 kT1 kT2 kT3 kT4 kT5 kT6 kT7 kT8 kT9 lT kY0 kY1 kY2 lY kC0 kC1 lC kS0 kS1 lS kU0 kU1 lU
  have q0 : Below w12.heap.size w12.drew w12.drew := Below.refl _ _
  have KC : Hid (∀ V', Below w12.heap.size w12.drew V' → (V'.cell? ⟨w.heap.size, 0, none⟩ = some (.int .i64 full) ∧ V'.cell? ⟨w.heap.size, 1, none⟩ = some (.int .i64 read) ∧ V'.cell? ⟨w.heap.size, 2, none⟩ = some (.int .i64 slip) ∧ V'.cell? ⟨w.heap.size, 3, none⟩ = some (.int .i64 skew) ∧ V'.cell? ⟨w.heap.size, 4, none⟩ = some (.int .i64 circ) ∧ V'.cell? ⟨w.heap.size, 5, none⟩ = some (.int .i64 glo) ∧ V'.cell? ⟨w.heap.size, 6, none⟩ = some (.int .i64 ghi) ∧ V'.cell? ⟨w.heap.size, 7, none⟩ = some (.int .i64 wrn) ∧ V'.cell? ⟨w.heap.size, 8, none⟩ = some (.int .i64 gain) ∧ V'.cell? ⟨w.heap.size, 9, none⟩ = some (.slice A ts.length c) ∧ V'.cell? ⟨w.heap.size + 1, 0, none⟩ = some (.int .i64 g) ∧ V'.cell? ⟨w.heap.size + 1, 1, none⟩ = some (.int .i64 s) ∧ V'.cell? ⟨w.heap.size + 1, 2, none⟩ = some (.int .i64 a) ∧ V'.cell? ⟨w.heap.size + 1 + 1, 0, none⟩ = some (.int .i64 sz) ∧ V'.cell? ⟨w.heap.size + 1 + 1, 1, none⟩ = some (.int .i64 mo) ∧ V'.cell? ⟨BS, 0, none⟩ = some (.int .i64 LO) ∧ V'.cell? ⟨BS, 1, none⟩ = some (.int .i64 HI) ∧ V'.cell? ⟨BU, 0, none⟩ = some (.int .i64 SLO) ∧ V'.cell? ⟨BU, 1, none⟩ = some (.int .i64 SHI))) := fun V' h =>
    have hk : ∀ (bb o : Nat) (u : Value), bb < w12.heap.size → w12.cell? ⟨bb, o, none⟩ = some u → V'.cell? ⟨bb, o, none⟩ = some u := fun bb o u h1 h2 => (h.cell (p := ⟨bb, o, none⟩) h1).trans h2
    ⟨hk _ _ _ bT12.lt (bT12.cell 0 rfl), hk _ _ _ bT12.lt (bT12.cell 1 rfl), hk _ _ _ bT12.lt (bT12.cell 2 rfl), hk _ _ _ bT12.lt (bT12.cell 3 rfl), hk _ _ _ bT12.lt (bT12.cell 4 rfl), hk _ _ _ bT12.lt (bT12.cell 5 rfl), hk _ _ _ bT12.lt (bT12.cell 6 rfl), hk _ _ _ bT12.lt (bT12.cell 7 rfl), hk _ _ _ bT12.lt (bT12.cell 8 rfl), hk _ _ _ bT12.lt (bT12.cell 9 rfl), hk _ _ _ bY12.lt (bY12.cell 0 rfl), hk _ _ _ bY12.lt (bY12.cell 1 rfl), hk _ _ _ bY12.lt (bY12.cell 2 rfl), hk _ _ _ bC12.lt (bC12.cell 0 rfl), hk _ _ _ bC12.lt (bC12.cell 1 rfl), hk _ _ _ bS12.lt (bS12.cell 0 rfl), hk _ _ _ bS12.lt (bS12.cell 1 rfl), hk _ _ _ bU12.lt (bU12.cell 0 rfl), hk _ _ _ bU12.lt (bU12.cell 1 rfl)⟩
  refine (wpIn_wide (n := 4)).1 ?_
  refine wpIn_mono (Q := noPanic _) ?_ noPanic_le
  refine wpIn_region_held (fun V' => Below w12.heap.size w12.drew V') 40 hmo ?_
  refine wpHeldIn_take (i := 0) (v := ?_) (plain_of (by kernel_rfl)) rfl (by kernel_rfl) (fun _ _ _ h => h) (yieldsSoIn_of (by kernel_rfl) ?_ (fun _ => rfl)) q0 ?_; rotate_left; focus (intro wq hw; clear hw; go_simp; try (with_reducible rfl))
  refine wpHeldIn_take (i := 1) (v := ?_) (plain_of (by kernel_rfl)) rfl (by kernel_rfl) (fun _ _ _ h => h) (yieldsSoIn_of (by kernel_rfl) ?_ (fun _ => rfl)) q0 ?_; rotate_left; focus (intro wq hw; clear hw; go_simp; try (with_reducible rfl))
  refine wpHeldIn_take (i := 2) (v := ?_) (plain_of (by kernel_rfl)) rfl (by kernel_rfl) (fun _ _ _ h => h) (yieldsSoIn_of (by kernel_rfl) ?_ (fun _ => rfl)) q0 ?_; rotate_left; focus (intro wq hw; clear hw; go_simp; try (with_reducible rfl))
  refine wpHeldIn_take (i := 3) (v := ?_) (plain_of (by kernel_rfl)) rfl (by kernel_rfl) (fun _ _ _ h => h) (yieldsSoIn_of (by kernel_rfl) ?_ (fun _ => rfl)) q0 ?_; rotate_left; focus (intro wq hw; have kq := KC.out wq hw; clear hw; go_simp; try (with_reducible rfl))
  refine wpHeldIn_take (i := 4) (v := .bool true) (plain_of (by kernel_rfl)) rfl (by kernel_rfl) (fun _ _ _ h => h) (yieldsSoIn_call (by kernel_rfl) ?_ rfl (fun _ => trivial) (fun m wq hw => callsIn_wide.2 ((HIA.out _ wq ((HVA12.out.keep ((Below.refl w12.heap.size w12).drew.trans hw)).more ((Below.refl w12.heap.size w12).drew.trans hw).size)).mono (fun e w' h => ⟨h.1, h.2⟩)))) q0 ?_; focus (intro wq hw; clear hw; go_simp; try (with_reducible rfl))
  refine wpHeldIn_take (i := 5) (v := ?_) (plain_of (by kernel_rfl)) rfl (by kernel_rfl) (fun _ _ _ h => h) (yieldsSoIn_of (by kernel_rfl) ?_ (fun _ => rfl)) q0 ?_; rotate_left; focus (intro wq hw; clear hw; go_simp; try (with_reducible rfl))
  refine wpHeldIn_take (i := 6) (v := ?_) (plain_of (by kernel_rfl)) rfl (by kernel_rfl) (fun _ _ _ h => h) (yieldsSoIn_of (by kernel_rfl) ?_ (fun _ => rfl)) q0 ?_; rotate_left; focus (intro wq hw; clear hw; go_simp; try (with_reducible rfl))
  refine wpHeldIn_take (i := 7) (v := ?_) (plain_of (by kernel_rfl)) rfl (by kernel_rfl) (fun _ _ _ h => h) (yieldsSoIn_of (by kernel_rfl) ?_ (fun _ => rfl)) q0 ?_; rotate_left; focus (intro wq hw; clear hw; go_simp; try (with_reducible rfl))
  refine wpHeldIn_take (i := 8) (v := ?_) (plain_of (by kernel_rfl)) rfl (by kernel_rfl) (fun _ _ _ h => h) (yieldsSoIn_of (by kernel_rfl) ?_ (fun _ => rfl)) q0 ?_; rotate_left; focus (intro wq hw; clear hw; go_simp; try (with_reducible rfl))
  refine wpHeldIn_take (i := 9) (v := ?_) (plain_of (by kernel_rfl)) rfl (by kernel_rfl) (fun _ _ _ h => h) (yieldsSoIn_of (by kernel_rfl) ?_ (fun _ => rfl)) q0 ?_; rotate_left; focus (intro wq hw; clear hw; go_simp; try (with_reducible rfl))
  refine wpHeldIn_take (i := 10) (v := ?_) (plain_of (by kernel_rfl)) rfl (by kernel_rfl) (fun _ _ _ h => h) (yieldsSoIn_of (by kernel_rfl) ?_ (fun _ => rfl)) q0 ?_; rotate_left; focus (intro wq hw; have kq := KC.out wq hw; clear hw; go_simp; try (with_reducible rfl))
  refine wpHeldIn_take (i := 11) (v := .bool true) (plain_of (by kernel_rfl)) rfl (by kernel_rfl) (fun _ _ _ h => h) (yieldsSoIn_call (by kernel_rfl) ?_ rfl (fun _ => trivial) (fun m wq hw => callsIn_wide.2 ((HIB.out _ wq ((HVB12.out.keep ((Below.refl w12.heap.size w12).drew.trans hw)).more ((Below.refl w12.heap.size w12).drew.trans hw).size)).mono (fun e w' h => ⟨h.1, h.2⟩)))) q0 ?_; focus (intro wq hw; clear hw; go_simp; try (with_reducible rfl))
  refine wpHeldIn_take (i := 12) (v := ?_) (plain_of (by kernel_rfl)) rfl (by kernel_rfl) (fun _ _ _ h => h) (yieldsSoIn_of (by kernel_rfl) ?_ (fun _ => rfl)) q0 ?_; rotate_left; focus (intro wq hw; clear hw; go_simp; try (with_reducible rfl))
  refine wpHeldIn_take (i := 13) (v := ?_) (plain_of (by kernel_rfl)) rfl (by kernel_rfl) (fun _ _ _ h => h) (yieldsSoIn_of (by kernel_rfl) ?_ (fun _ => rfl)) q0 ?_; rotate_left; focus (intro wq hw; clear hw; go_simp; try (with_reducible rfl))
  refine wpHeldIn_take (i := 14) (v := ?_) (plain_of (by kernel_rfl)) rfl (by kernel_rfl) (fun _ _ _ h => h) (yieldsSoIn_of (by kernel_rfl) ?_ (fun _ => rfl)) q0 ?_; rotate_left; focus (intro wq hw; clear hw; go_simp; try (with_reducible rfl))
  refine wpHeldIn_take (i := 15) (v := ?_) (plain_of (by kernel_rfl)) rfl (by kernel_rfl) (fun _ _ _ h => h) (yieldsSoIn_of (by kernel_rfl) ?_ (fun _ => rfl)) q0 ?_; rotate_left; focus (intro wq hw; have kq := KC.out wq hw; clear hw; go_simp; try (with_reducible rfl))
  refine wpHeldIn_take (i := 16) (v := ?_) (plain_of (by kernel_rfl)) rfl (by kernel_rfl) (fun _ _ _ h => h) (yieldsSoIn_of (by kernel_rfl) ?_ (fun _ => rfl)) q0 ?_; rotate_left; focus (intro wq hw; clear hw; go_simp; try (with_reducible rfl))
  refine wpHeldIn_take (i := 17) (v := ?_) (plain_of (by kernel_rfl)) rfl (by kernel_rfl) (fun _ _ _ h => h) (yieldsSoIn_of (by kernel_rfl) ?_ (fun _ => rfl)) q0 ?_; rotate_left; focus (intro wq hw; have kq := KC.out wq hw; clear hw; go_simp; try (with_reducible rfl))
  refine wpHeldIn_take (i := 18) (v := ?_) (plain_of (by kernel_rfl)) rfl (by kernel_rfl) (fun _ _ _ h => h) (yieldsSoIn_of (by kernel_rfl) ?_ (fun _ => rfl)) q0 ?_; rotate_left; focus (intro wq hw; clear hw; go_simp; try (with_reducible rfl))
  refine wpHeldIn_take (i := 19) (v := ?_) (plain_of (by kernel_rfl)) rfl (by kernel_rfl) (fun _ _ _ h => h) (yieldsSoIn_of (by kernel_rfl) ?_ (fun _ => rfl)) q0 ?_; rotate_left; focus (intro wq hw; have kq := KC.out wq hw; clear hw; go_simp; try (with_reducible rfl))
  refine wpHeldIn_one (i := 20) (by kernel_rfl) (by kernel_rfl) rfl (by kernel_rfl) (fun K1 hK1 => ?_)
  go_simp
  refine ⟨trivial, (callsIn_wide.2 (HEA.out _)).mono ?_⟩
  rintro e wa ⟨rfl, hh1⟩
  have q1 : Below w12.heap.size w12.drew wa := q0.trans (hh1.mono q0.size)
  refine hK1 _ _ q1 ?_
  refine wpHeldIn_one (i := 21) (by kernel_rfl) (by kernel_rfl) rfl (by kernel_rfl) (fun K2 hK2 => ?_)
  go_simp
  refine ⟨trivial, (callsIn_wide.2 (HHS.out _)).mono ?_⟩
  rintro e wb ⟨rfl, hh2⟩
  have q2 : Below w12.heap.size w12.drew wb := q1.trans (hh2.mono q1.size)
  refine hK2 _ _ q2 ?_
  refine wpHeldIn_take (i := 22) (v := ?_) (plain_of (by kernel_rfl)) rfl (by kernel_rfl) (fun _ _ _ h => h) (yieldsSoIn_of (by kernel_rfl) ?_ (fun _ => rfl)) q2 ?_; rotate_left; focus (intro wq hw; clear hw; go_simp; try (with_reducible rfl))
  refine wpHeldIn_take (i := 23) (v := ?_) (plain_of (by kernel_rfl)) rfl (by kernel_rfl) (fun _ _ _ h => h) (yieldsSoIn_of (by kernel_rfl) ?_ (fun _ => rfl)) q2 ?_; rotate_left; focus (intro wq hw; clear hw; go_simp; try (with_reducible rfl))
  refine wpHeldIn_take (i := 24) (v := ?_) (plain_of (by kernel_rfl)) rfl (by kernel_rfl) (fun _ _ _ h => h) (yieldsSoIn_of (by kernel_rfl) ?_ (fun _ => rfl)) q2 ?_; rotate_left; focus (intro wq hw; clear hw; go_simp; try (with_reducible rfl))
  refine wpHeldIn_take (i := 25) (v := ?_) (plain_of (by kernel_rfl)) rfl (by kernel_rfl) (fun _ _ _ h => h) (yieldsSoIn_of (by kernel_rfl) ?_ (fun _ => rfl)) q2 ?_; rotate_left; focus (intro wq hw; have kq := KC.out wq hw; clear hw; go_simp; try (with_reducible rfl))
  refine wpHeldIn_take (i := 26) (v := ?_) (plain_of (by kernel_rfl)) rfl (by kernel_rfl) (fun _ _ _ h => h) (yieldsSoIn_of (by kernel_rfl) ?_ (fun _ => rfl)) q2 ?_; rotate_left; focus (intro wq hw; clear hw; go_simp; try (with_reducible rfl))
  refine wpHeldIn_one (i := 27) (by kernel_rfl) (by kernel_rfl) rfl (by kernel_rfl) (fun K3 hK3 => ?_)
  go_simp
  refine ⟨trivial, (callsIn_wide.2 (HHU.out _)).mono ?_⟩
  rintro e w13 ⟨rfl, hh3⟩
  have q3 : Below w12.heap.size w12.drew w13 := q2.trans (hh3.mono q2.size)
  refine hK3 _ _ q3 ?_
  refine wpHeldIn_take (i := 28) (v := ?_) (plain_of (by kernel_rfl)) rfl (by kernel_rfl) (fun _ _ _ h => h) (yieldsSoIn_of (by kernel_rfl) ?_ (fun _ => rfl)) q3 ?_; rotate_left; focus (intro wq hw; clear hw; go_simp; try (with_reducible rfl))
  refine wpHeldIn_take (i := 29) (v := ?_) (plain_of (by kernel_rfl)) rfl (by kernel_rfl) (fun _ _ _ h => h) (yieldsSoIn_of (by kernel_rfl) ?_ (fun _ => rfl)) q3 ?_; rotate_left; focus (intro wq hw; clear hw; go_simp; try (with_reducible rfl))
  refine wpHeldIn_take (i := 30) (v := ?_) (plain_of (by kernel_rfl)) rfl (by kernel_rfl) (fun _ _ _ h => h) (yieldsSoIn_of (by kernel_rfl) ?_ (fun _ => rfl)) q3 ?_; rotate_left; focus (intro wq hw; clear hw; go_simp; try (with_reducible rfl))
  refine wpHeldIn_take (i := 31) (v := ?_) (plain_of (by kernel_rfl)) rfl (by kernel_rfl) (fun _ _ _ h => h) (yieldsSoIn_of (by kernel_rfl) ?_ (fun _ => rfl)) q3 ?_; rotate_left; focus (intro wq hw; clear hw; go_simp; try (with_reducible rfl))
  refine wpHeldIn_take (i := 32) (v := ?_) (plain_of (by kernel_rfl)) rfl (by kernel_rfl) (fun _ _ _ h => h) (yieldsSoIn_of (by kernel_rfl) ?_ (fun _ => rfl)) q3 ?_; rotate_left; focus (intro wq hw; clear hw; go_simp; try (with_reducible rfl))
  refine wpHeldIn_take (i := 33) (v := ?_) (plain_of (by kernel_rfl)) rfl (by kernel_rfl) (fun _ _ _ h => h) (yieldsSoIn_of (by kernel_rfl) ?_ (fun _ => rfl)) q3 ?_; rotate_left; focus (intro wq hw; have kq := KC.out wq hw; clear hw; go_simp; try (with_reducible rfl))
  refine wpHeldIn_take (i := 34) (v := .bool true) (plain_of (by kernel_rfl)) rfl (by kernel_rfl) (fun _ _ _ h => h) (yieldsSoIn_call (by kernel_rfl) ?_ rfl (fun _ => trivial) (fun m wq hw => callsIn_wide.2 ((HIR.out _ wq ((HVR12.out.keep ((Below.refl w12.heap.size w12).drew.trans hw)).more ((Below.refl w12.heap.size w12).drew.trans hw).size)).mono (fun e w' h => ⟨h.1, h.2⟩)))) q3 ?_; focus (intro wq hw; clear hw; go_simp; try (with_reducible rfl))
  refine wpHeldIn_take (i := 35) (v := ?_) (plain_of (by kernel_rfl)) rfl (by kernel_rfl) (fun _ _ _ h => h) (yieldsSoIn_of (by kernel_rfl) ?_ (fun _ => rfl)) q3 ?_; rotate_left; focus (intro wq hw; clear hw; go_simp; try (with_reducible rfl))
  refine wpHeldIn_take (i := 36) (v := ?_) (plain_of (by kernel_rfl)) rfl (by kernel_rfl) (fun _ _ _ h => h) (yieldsSoIn_of (by kernel_rfl) ?_ (fun _ => rfl)) q3 ?_; rotate_left; focus (intro wq hw; clear hw; go_simp; try (with_reducible rfl))
  refine wpHeldIn_done (by kernel_rfl) ?_ _
  go_simp
  refine noPanic_of ?_
  have hb13 : Below w12.heap.size w12 w13 := (Below.refl _ _).drew.trans q3
  have bT13 := bT12.below hb13
  have bY13 := bY12.below hb13
  have bC13 := bC12.below hb13
  have bS13 := bS12.below hb13
  have bU13 := bU12.below hb13
  have hB13 := hB12.trans (hb13.mono hB12.size)
  clear bT12 bY12 bC12 bS12 bU12 hB12
  clear KC q0 q1 q2 q3 hh1 hh2 hh3
  clear HVA12 HVB12 HVR12
  have kT0 := bT13.cell 0 rfl
  have kT1 := bT13.cell 1 rfl
  have kT2 := bT13.cell 2 rfl
  have kT3 := bT13.cell 3 rfl
  have kT4 := bT13.cell 4 rfl
  have kT5 := bT13.cell 5 rfl
  have kT6 := bT13.cell 6 rfl
  have kT7 := bT13.cell 7 rfl
  have kT8 := bT13.cell 8 rfl
  have kT9 := bT13.cell 9 rfl
  have lT := bT13.lt
  have kY0 := bY13.cell 0 rfl
  have kY1 := bY13.cell 1 rfl
  have kY2 := bY13.cell 2 rfl
  have lY := bY13.lt
  have kC0 := bC13.cell 0 rfl
  have kC1 := bC13.cell 1 rfl
  have lC := bC13.lt
  have kS0 := bS13.cell 0 rfl
  have kS1 := bS13.cell 1 rfl
  have lS := bS13.lt
  have kU0 := bU13.cell 0 rfl
  have kU1 := bU13.cell 1 rfl
  have lU := bU13.lt
  go_wp2_with fail
  clear kT0 kT1 kT2 kT3 kT4 kT5 kT6 kT7 kT8 kT9 lT kY0 kY1 kY2 lY kC0 kC1 lC kS0 kS1 lS kU0 kU1 lU
  have q0 : Below w13.heap.size w13.drew w13.drew := Below.refl _ _
  have KC : Hid (∀ V', Below w13.heap.size w13.drew V' → (V'.cell? ⟨w.heap.size, 0, none⟩ = some (.int .i64 full) ∧ V'.cell? ⟨w.heap.size, 1, none⟩ = some (.int .i64 read) ∧ V'.cell? ⟨w.heap.size, 2, none⟩ = some (.int .i64 slip) ∧ V'.cell? ⟨w.heap.size, 3, none⟩ = some (.int .i64 skew) ∧ V'.cell? ⟨w.heap.size, 4, none⟩ = some (.int .i64 circ) ∧ V'.cell? ⟨w.heap.size, 5, none⟩ = some (.int .i64 glo) ∧ V'.cell? ⟨w.heap.size, 6, none⟩ = some (.int .i64 ghi) ∧ V'.cell? ⟨w.heap.size, 7, none⟩ = some (.int .i64 wrn) ∧ V'.cell? ⟨w.heap.size, 8, none⟩ = some (.int .i64 gain) ∧ V'.cell? ⟨w.heap.size, 9, none⟩ = some (.slice A ts.length c) ∧ V'.cell? ⟨w.heap.size + 1, 0, none⟩ = some (.int .i64 g) ∧ V'.cell? ⟨w.heap.size + 1, 1, none⟩ = some (.int .i64 s) ∧ V'.cell? ⟨w.heap.size + 1, 2, none⟩ = some (.int .i64 a) ∧ V'.cell? ⟨w.heap.size + 1 + 1, 0, none⟩ = some (.int .i64 sz) ∧ V'.cell? ⟨w.heap.size + 1 + 1, 1, none⟩ = some (.int .i64 mo) ∧ V'.cell? ⟨BS, 0, none⟩ = some (.int .i64 LO) ∧ V'.cell? ⟨BS, 1, none⟩ = some (.int .i64 HI) ∧ V'.cell? ⟨BU, 0, none⟩ = some (.int .i64 SLO) ∧ V'.cell? ⟨BU, 1, none⟩ = some (.int .i64 SHI))) := fun V' h =>
    have hk : ∀ (bb o : Nat) (u : Value), bb < w13.heap.size → w13.cell? ⟨bb, o, none⟩ = some u → V'.cell? ⟨bb, o, none⟩ = some u := fun bb o u h1 h2 => (h.cell (p := ⟨bb, o, none⟩) h1).trans h2
    ⟨hk _ _ _ bT13.lt (bT13.cell 0 rfl), hk _ _ _ bT13.lt (bT13.cell 1 rfl), hk _ _ _ bT13.lt (bT13.cell 2 rfl), hk _ _ _ bT13.lt (bT13.cell 3 rfl), hk _ _ _ bT13.lt (bT13.cell 4 rfl), hk _ _ _ bT13.lt (bT13.cell 5 rfl), hk _ _ _ bT13.lt (bT13.cell 6 rfl), hk _ _ _ bT13.lt (bT13.cell 7 rfl), hk _ _ _ bT13.lt (bT13.cell 8 rfl), hk _ _ _ bT13.lt (bT13.cell 9 rfl), hk _ _ _ bY13.lt (bY13.cell 0 rfl), hk _ _ _ bY13.lt (bY13.cell 1 rfl), hk _ _ _ bY13.lt (bY13.cell 2 rfl), hk _ _ _ bC13.lt (bC13.cell 0 rfl), hk _ _ _ bC13.lt (bC13.cell 1 rfl), hk _ _ _ bS13.lt (bS13.cell 0 rfl), hk _ _ _ bS13.lt (bS13.cell 1 rfl), hk _ _ _ bU13.lt (bU13.cell 0 rfl), hk _ _ _ bU13.lt (bU13.cell 1 rfl)⟩
  refine (wpIn_wide (n := 4)).1 ?_
  refine wpIn_mono (Q := noPanic _) ?_ noPanic_le
  refine wpIn_region_held (fun V' => Below w13.heap.size w13.drew V') 40 hmo ?_
  refine wpHeldIn_take (i := 0) (v := ?_) (plain_of (by kernel_rfl)) rfl (by kernel_rfl) (fun _ _ _ h => h) (yieldsSoIn_of (by kernel_rfl) ?_ (fun _ => rfl)) q0 ?_; rotate_left; focus (intro wq hw; clear hw; go_simp; try (with_reducible rfl))
  refine wpHeldIn_take (i := 1) (v := ?_) (plain_of (by kernel_rfl)) rfl (by kernel_rfl) (fun _ _ _ h => h) (yieldsSoIn_of (by kernel_rfl) ?_ (fun _ => rfl)) q0 ?_; rotate_left; focus (intro wq hw; have kq := KC.out wq hw; clear hw; go_simp; try (with_reducible rfl))
  refine wpHeldIn_take (i := 2) (v := ?_) (plain_of (by kernel_rfl)) rfl (by kernel_rfl) (fun _ _ _ h => h) (yieldsSoIn_of (by kernel_rfl) ?_ (fun _ => rfl)) q0 ?_; rotate_left; focus (intro wq hw; clear hw; go_simp; try (with_reducible rfl))
  refine wpHeldIn_take (i := 3) (v := ?_) (plain_of (by kernel_rfl)) rfl (by kernel_rfl) (fun _ _ _ h => h) (yieldsSoIn_of (by kernel_rfl) ?_ (fun _ => rfl)) q0 ?_; rotate_left; focus (intro wq hw; have kq := KC.out wq hw; clear hw; go_simp; try (with_reducible rfl))
  refine wpHeldIn_take (i := 5) (v := ?_) (plain_of (by kernel_rfl)) rfl (by kernel_rfl) (fun _ _ _ h => h) (yieldsSoIn_of (by kernel_rfl) ?_ (fun _ => rfl)) q0 ?_; rotate_left; focus (intro wq hw; clear hw; go_simp; try (with_reducible rfl))
  refine wpHeldIn_take (i := 6) (v := ?_) (plain_of (by kernel_rfl)) rfl (by kernel_rfl) (fun _ _ _ h => h) (yieldsSoIn_of (by kernel_rfl) ?_ (fun _ => rfl)) q0 ?_; rotate_left; focus (intro wq hw; have kq := KC.out wq hw; clear hw; go_simp; try (with_reducible rfl))
  refine wpHeldIn_one (i := 4) (by kernel_rfl) (by kernel_rfl) rfl (by kernel_rfl) (fun K1 hK1 => ?_)
  go_simp
  refine ⟨trivial, (callsIn_wide.2 (HES.out _)).mono ?_⟩
  rintro e w14 ⟨rfl, hh1⟩
  have q1 : Below w13.heap.size w13.drew w14 := q0.trans (hh1.mono q0.size)
  refine hK1 _ _ q1 ?_
  refine wpHeldIn_take (i := 7) (v := ?_) (plain_of (by kernel_rfl)) rfl (by kernel_rfl) (fun _ _ _ h => h) (yieldsSoIn_of (by kernel_rfl) ?_ (fun _ => rfl)) q1 ?_; rotate_left; focus (intro wq hw; clear hw; go_simp; try (with_reducible rfl))
  refine wpHeldIn_take (i := 8) (v := ?_) (plain_of (by kernel_rfl)) rfl (by kernel_rfl) (fun _ _ _ h => h) (yieldsSoIn_of (by kernel_rfl) ?_ (fun _ => rfl)) q1 ?_; rotate_left; focus (intro wq hw; clear hw; go_simp; try (with_reducible rfl))
  refine wpHeldIn_done (by kernel_rfl) ?_ _
  go_simp
  refine noPanic_of ?_
  have hb14 : Below w13.heap.size w13 w14 := (Below.refl _ _).drew.trans q1
  have bT14 := bT13.below hb14
  have bY14 := bY13.below hb14
  have bC14 := bC13.below hb14
  have bS14 := bS13.below hb14
  have bU14 := bU13.below hb14
  have hB14 := hB13.trans (hb14.mono hB13.size)
  clear bT13 bY13 bC13 bS13 bU13 hB13
  clear KC q0 q1 hh1
  rcases HN.out with ⟨hN, hd⟩ | ⟨hN, hd⟩ | hN
  ·
    subst hN
    have kT0 := bT14.cell 0 rfl
    have kT1 := bT14.cell 1 rfl
    have kT2 := bT14.cell 2 rfl
    have kT3 := bT14.cell 3 rfl
    have kT4 := bT14.cell 4 rfl
    have kT5 := bT14.cell 5 rfl
    have kT6 := bT14.cell 6 rfl
    have kT7 := bT14.cell 7 rfl
    have kT8 := bT14.cell 8 rfl
    have kT9 := bT14.cell 9 rfl
    have lT := bT14.lt
    have kY0 := bY14.cell 0 rfl
    have kY1 := bY14.cell 1 rfl
    have kY2 := bY14.cell 2 rfl
    have lY := bY14.lt
    have kC0 := bC14.cell 0 rfl
    have kC1 := bC14.cell 1 rfl
    have lC := bC14.lt
    have kS0 := bS14.cell 0 rfl
    have kS1 := bS14.cell 1 rfl
    have lS := bS14.lt
    have kU0 := bU14.cell 0 rfl
    have kU1 := bU14.cell 1 rfl
    have lU := bU14.lt
    go_wp2_with fail
    clear kT0 kT1 kT2 kT3 kT4 kT5 kT6 kT7 kT8 kT9 lT kY0 kY1 kY2 lY kC0 kC1 lC kS0 kS1 lS kU0 kU1 lU
    refine (HWK.out _).mono ?_
    rintro e w15 ⟨rfl, hb15⟩
    have bT15 := bT14.below hb15
    have bY15 := bY14.below hb15
    have bC15 := bC14.below hb15
    have bS15 := bS14.below hb15
    have bU15 := bU14.below hb15
    have hB15 := hB14.trans (hb15.mono hB14.size)
    clear bT14 bY14 bC14 bS14 bU14 hB14
    go_wp2_with fail
    go_returns
    exact ⟨rfl, hB15⟩
  ·
    subst hN
    have kT0 := bT14.cell 0 rfl
    have kT1 := bT14.cell 1 rfl
    have kT2 := bT14.cell 2 rfl
    have kT3 := bT14.cell 3 rfl
    have kT4 := bT14.cell 4 rfl
    have kT5 := bT14.cell 5 rfl
    have kT6 := bT14.cell 6 rfl
    have kT7 := bT14.cell 7 rfl
    have kT8 := bT14.cell 8 rfl
    have kT9 := bT14.cell 9 rfl
    have lT := bT14.lt
    have kY0 := bY14.cell 0 rfl
    have kY1 := bY14.cell 1 rfl
    have kY2 := bY14.cell 2 rfl
    have lY := bY14.lt
    have kC0 := bC14.cell 0 rfl
    have kC1 := bC14.cell 1 rfl
    have lC := bC14.lt
    have kS0 := bS14.cell 0 rfl
    have kS1 := bS14.cell 1 rfl
    have lS := bS14.lt
    have kU0 := bU14.cell 0 rfl
    have kU1 := bU14.cell 1 rfl
    have lU := bU14.lt
    go_wp2_with fail
    clear kT0 kT1 kT2 kT3 kT4 kT5 kT6 kT7 kT8 kT9 lT kY0 kY1 kY2 lY kC0 kC1 lC kS0 kS1 lS kU0 kU1 lU
    refine (HWK.out _).mono ?_
    rintro e w15 ⟨rfl, hb15⟩
    have bT15 := bT14.below hb15
    have bY15 := bY14.below hb15
    have bC15 := bC14.below hb15
    have bS15 := bS14.below hb15
    have bU15 := bU14.below hb15
    have hB15 := hB14.trans (hb15.mono hB14.size)
    clear bT14 bY14 bC14 bS14 bU14 hB14
    go_wp2_with fail
    go_returns
    exact ⟨rfl, hB15⟩
  ·
    subst hN
    have kT0 := bT14.cell 0 rfl
    have kT1 := bT14.cell 1 rfl
    have kT2 := bT14.cell 2 rfl
    have kT3 := bT14.cell 3 rfl
    have kT4 := bT14.cell 4 rfl
    have kT5 := bT14.cell 5 rfl
    have kT6 := bT14.cell 6 rfl
    have kT7 := bT14.cell 7 rfl
    have kT8 := bT14.cell 8 rfl
    have kT9 := bT14.cell 9 rfl
    have lT := bT14.lt
    have kY0 := bY14.cell 0 rfl
    have kY1 := bY14.cell 1 rfl
    have kY2 := bY14.cell 2 rfl
    have lY := bY14.lt
    have kC0 := bC14.cell 0 rfl
    have kC1 := bC14.cell 1 rfl
    have lC := bC14.lt
    have kS0 := bS14.cell 0 rfl
    have kS1 := bS14.cell 1 rfl
    have lS := bS14.lt
    have kU0 := bU14.cell 0 rfl
    have kU1 := bU14.cell 1 rfl
    have lU := bU14.lt
    go_wp2_with fail
    clear kT0 kT1 kT2 kT3 kT4 kT5 kT6 kT7 kT8 kT9 lT kY0 kY1 kY2 lY kC0 kC1 lC kS0 kS1 lS kU0 kU1 lU
    refine (HWK.out _).mono ?_
    rintro e w15 ⟨rfl, hb15⟩
    have bT15 := bT14.below hb15
    have bY15 := bY14.below hb15
    have bC15 := bC14.below hb15
    have bS15 := bS14.below hb15
    have bU15 := bU14.below hb15
    have hB15 := hB14.trans (hb15.mono hB14.size)
    clear bT14 bY14 bC14 bS14 bU14 hB14
    go_wp2_with fail
    go_returns
    exact ⟨rfl, hB15⟩
end Go.Proofs.YtkmacpkjobdffaaGreat
namespace Go.Proofs.YtkmacpkjobdffaaGreat
open Go.RowKit
set_option maxRecDepth 100000 in
set_option maxHeartbeats 4000000 in
theorem lawTrialsTrue_long (t : Ti.Tri) (A : Option Addr) (c : Nat) (g s a sz mo : Int) (w : World) (hll : 20 < t.ts.length ∨ Ti.longTo t.ts t.ts.length = true) (hg : Tsts0 w w.heap.size A t.ts) :
    Calls Tryz.prog 6 #[.agg (tiV t A c), .agg #[.int .i64 g, .int .i64 s, .int .i64 a], .agg #[.int .i64 sz, .int .i64 mo]] w fun e w' => e = .returned (.bool true) ∧ Below w.heap.size w w' := by
  have HWK : Hid (∀ W, Calls Tryz.prog 9 #[] W fun e w' => e = .returned (.bool true) ∧ Below W.heap.size W w') := works9_any
  have HRD : Hid (∀ W, Below w.heap.size w W → Calls Tryz.prog 36 #[.agg (tiV t A c)] W fun e w' => e = .returned (.bool false) ∧ Below W.heap.size W w') := fun W hW => ready9_long t A c W hll (hg.below hW)
  clear hg hll
  obtain ⟨d, gain, ts⟩ := t
  obtain ⟨full, read, slip, skew, circ, glo, ghi, wrn, dws⟩ := d
  unfold tiV at *
  dsimp only at *
  go_enter Tryz.func6, Tryz.ntmps6
  go_wp2_with fail
  have bT1 := (((BoxS.new w 28 #[.int .i64 full, .int .i64 read, .int .i64 slip, .int .i64 skew, .int .i64 circ, .int .i64 glo, .int .i64 ghi, .int .i64 wrn, .int .i64 gain, .slice A ts.length c]).alloc (.cells #[.int .i64 g, .int .i64 s, .int .i64 a] 58)).alloc (.cells #[.int .i64 sz, .int .i64 mo] 45))
  have bY1 := ((BoxS.new (World.alloc w (.cells #[.int .i64 full, .int .i64 read, .int .i64 slip, .int .i64 skew, .int .i64 circ, .int .i64 glo, .int .i64 ghi, .int .i64 wrn, .int .i64 gain, .slice A ts.length c] 28)) 58 #[.int .i64 g, .int .i64 s, .int .i64 a]).alloc (.cells #[.int .i64 sz, .int .i64 mo] 45))
  have bC1 := (BoxS.new (World.alloc (World.alloc w (.cells #[.int .i64 full, .int .i64 read, .int .i64 slip, .int .i64 skew, .int .i64 circ, .int .i64 glo, .int .i64 ghi, .int .i64 wrn, .int .i64 gain, .slice A ts.length c] 28)) (.cells #[.int .i64 g, .int .i64 s, .int .i64 a] 58)) 45 #[.int .i64 sz, .int .i64 mo])
  have hB1 : Below w.heap.size w (World.alloc (World.alloc (World.alloc w (.cells #[.int .i64 full, .int .i64 read, .int .i64 slip, .int .i64 skew, .int .i64 circ, .int .i64 glo, .int .i64 ghi, .int .i64 wrn, .int .i64 gain, .slice A ts.length c] 28)) (.cells #[.int .i64 g, .int .i64 s, .int .i64 a] 58)) (.cells #[.int .i64 sz, .int .i64 mo] 45)) := by (repeat' (first | (with_reducible exact Below.refl _ _) | (with_reducible assumption) | (with_reducible refine Below.alloc ?_ ?_ _) | (with_reducible refine Below.drew ?_) | (with_reducible refine Below.setCell ?_ ?_ _) | go_size | (exact (by simp)) | omega))
  simp only [World.size_alloc] at bY1 bC1
  generalize World.alloc (World.alloc (World.alloc w _) _) _ = w1 at *
  refine (HRD.out _ hB1).mono ?_
  rintro e w2 ⟨rfl, hb2⟩
  have bT2 := bT1.below hb2
  have bY2 := bY1.below hb2
  have bC2 := bC1.below hb2
  have hB2 := hB1.trans (hb2.mono hB1.size)
  clear bT1 bY1 bC1 hB1
  have kT0 := bT2.cell 0 rfl
  have kT1 := bT2.cell 1 rfl
  have kT2 := bT2.cell 2 rfl
  have kT3 := bT2.cell 3 rfl
  have kT4 := bT2.cell 4 rfl
  have kT5 := bT2.cell 5 rfl
  have kT6 := bT2.cell 6 rfl
  have kT7 := bT2.cell 7 rfl
  have kT8 := bT2.cell 8 rfl
  have kT9 := bT2.cell 9 rfl
  have lT := bT2.lt
  have kY0 := bY2.cell 0 rfl
  have kY1 := bY2.cell 1 rfl
  have kY2 := bY2.cell 2 rfl
  have lY := bY2.lt
  have kC0 := bC2.cell 0 rfl
  have kC1 := bC2.cell 1 rfl
  have lC := bC2.lt
  go_wp2_with fail
  clear kT0 kT1 kT2 kT3 kT4 kT5 kT6 kT7 kT8 kT9 lT kY0 kY1 kY2 lY kC0 kC1 lC
  refine (HWK.out _).mono ?_
  rintro e w3 ⟨rfl, hb3⟩
  have bT3 := bT2.below hb3
  have bY3 := bY2.below hb3
  have bC3 := bC2.below hb3
  have hB3 := hB2.trans (hb3.mono hB2.size)
  clear bT2 bY2 bC2 hB2
  go_wp2_with fail
  go_returns
  exact ⟨rfl, hB3⟩
theorem lawTrialsTrue_all (t : Ti.Tri) (A : Option Addr) (c : Nat) (g s a sz mo : Int) (w : World) (_ : t.ts.length ≤ maxLen) (hg : Tsts0 w w.heap.size A t.ts) :
    Calls Tryz.prog 6 #[.agg (tiV t A c), .agg #[.int .i64 g, .int .i64 s, .int .i64 a], .agg #[.int .i64 sz, .int .i64 mo]] w fun e w' => e = .returned (.bool true) ∧ Below w.heap.size w w' := by
  by_cases hll : 20 < t.ts.length ∨ Ti.longTo t.ts t.ts.length = true
  · exact lawTrialsTrue_long t A c g s a sz mo w hll hg
  · have h1 : ¬ 20 < t.ts.length := fun h => hll (.inl h)
    have h2 : Ti.longTo t.ts t.ts.length = false := by simpa using fun h => hll (.inr h)
    exact lawTrue9_walk t A c g s a sz mo w (by omega) (hg.short h2)
open Go.ChangeShapes Go.WideShapes Go.ChangeAt Go.RowKit Go.Joins Go.Deep
section
variable {H : Type} {enc : TypeId × Value → H} {w : World} {base : Nat} {spare : Nat → Bool} {held : Bool} {r : Reach} {b0 : Nat} {v : Value} {d : DataW H} {p : List MemPlace}
theorem cells_truth9 : Tryz.prog.cellsOf 56 = 2 := by kernel_rfl
set_option maxRecDepth 100000 in
theorem open_Told9 (hv : Value.okWide Tryz.prog w r b0 58 v) (h : DataW.Trod enc Tryz.prog w base spare held 58 v d p) :
    ∃ g s a : Int, v = .agg #[.int .i64 g, .int .i64 s, .int .i64 a] := by
  obtain ⟨cs, rfl, hsz⟩ := okWide_struct Tryz.underlying58 hv
  obtain ⟨l⟩ := cs
  match l, hsz.trans (by kernel_rfl : Tryz.prog.cellsOf 58 = 3) with
  | [c0, c1, c2], _ =>
    obtain ⟨fuel, hf⟩ := h
    obtain ⟨y0, y1, m, hx, _, h0, h1⟩ := trod_struct2 Tryz.underlying58 hf
    simp [Value.cells, cells_int4, cells_truth9] at h0 h1
    obtain ⟨z0, z1, m', hx', _, p0, p1⟩ := trod_struct2 Tryz.underlying56 h0
    obtain ⟨f2, e2, _, _⟩ := DataW.trod_int Tryz.underlying3 (by simpa using p0)
    obtain ⟨f3, e3, _, _⟩ := DataW.trod_int Tryz.underlying3 (by simpa using p1)
    obtain ⟨f4, e4, _, _⟩ := DataW.trod_int Tryz.underlying3 h1
    rw [cells_int4] at e2 e3
    simp at e2 e3 e4
    subst e2 e3 e4
    exact ⟨f2, f3, f4, rfl⟩
end

open Go.ChangeShapes Go.WideShapes Go.ChangeAt Go.RowKit Go.Joins

set_option maxRecDepth 100000 in
theorem true9_lifted (os : Os) (started : os.Started) (H : Type) (enc : TypeId × Value → H) :
    ReturnsInHanded {} Tryz.checked os 6 .any (Rows.trialsTrueSpec.pre6 enc Tryz.prog Tryz.f6 Rows.trialsTrueRow.domain false) (Rows.trialsTrueSpec.post enc Tryz.prog Tryz.f6 false true false false) := by
  refine returnsInHanded_of_change (C := Tryz.checked) own started (by kernel_rfl) Tryz.func6
    (ChangeSpec.witness6 (enc := enc) (C := Tryz.checked) false ⟨#[], #[.agg #[.int .i64 0, .int .i64 0, .int .i64 0, .int .i64 0, .int .i64 0, .int .i64 0, .int .i64 0, .int .i64 0, .int .i64 0, .slice none 0 0], .agg #[.int .i64 0, .int .i64 0, .int .i64 0], .agg #[.int .i64 0, .int .i64 0]], []⟩ 8 (by kernel_rfl) (by kernel_rfl) (by kernel_rfl) (by kernel_rfl)) ?_
  intro W base args ds gs before hval0 hW hcnd _
  have hval : ∀ (j : Nat) t v, Tryz.f6.params[j]? = some t → args[j]? = some v → Value.okWide Tryz.prog W .any base t v := hval0
  have hW' := hW
  obtain ⟨p, q, hA0, hV, rfl, hfz, hnd⟩ := hW
  have hA : DataW.TrodAll enc Tryz.prog W 0 (fun _ => true) true Tryz.f6.params.toList args.toList ds p := hA0
  rw [Tryz.params6] at hA hval
  obtain ⟨v0, v1, v2, d0, d1, d2, p0, p1, p2, rfl, rfl, rfl, h0, h1, h2⟩ := trodAll_three hA
  obtain ⟨rfl, rfl⟩ := trodVars_none hV
  obtain ⟨t, A, c, rfl, hh0_0, hh0_1⟩ := open_Trial (hval 0 28 v0 rfl rfl) h0
  obtain ⟨g, s, a, rfl⟩ := open_Told9 (hval 1 58 v1 rfl rfl) h1
  obtain ⟨sz, mo, rfl⟩ := open_Class (hval 2 45 v2 rfl rfl) h2
  refine (lawTrialsTrue_all t A c g s a sz mo W hh0_0 hh0_1).mono fun e W' ⟨he, hb⟩ => ?_
  subst he
  exact ⟨_, rfl, law_post hW' rfl rfl (by intro t ht; have : t = 28 ∨ t = 58 ∨ t = 45 := (by rw [Tryz.params6] at ht; simpa using ht); rcases this with rfl | rfl | rfl <;> exact ⟨by kernel_rfl, of_decide_eq_true (by kernel_rfl)⟩) rfl rfl rfl hb⟩

theorem true9_holds : Rows.TrialsTrueSaid :=
  OpenClaim.holds_of_wide 6 Tryz.f6 rfl rfl rfl rfl rfl rfl rfl ⟨rfl, rfl, rfl, rfl, rfl⟩ rfl rfl rfl rfl rfl (by kernel_rfl) Tryz.func6 (by kernel_rfl)
    (of_decide_eq_true (by kernel_rfl)) (by unfold Func.isWrapper; rw [if_neg (of_decide_eq_false (by kernel_rfl))]; exact ⟨rfl, rfl⟩)
    (fun os started H enc _ => true9_lifted os started H enc)
end Go.Proofs.YtkmacpkjobdffaaGreat
