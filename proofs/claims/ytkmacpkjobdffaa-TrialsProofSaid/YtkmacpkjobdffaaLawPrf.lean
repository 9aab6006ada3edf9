/- The law TrialsProof (P9.14): for every trial, list of tests and class the statement's function returns true and changes nothing. -/
import Derived.Test.YtkmacpkjobdffaaTpE
import Derived.Test.YtkmacpkjobdffaaLawCls
namespace Go.Proofs.Ytkmacpkjobdffaa
open Go.RowKit
namespace Ti
theorem ls_set {n : Nat} {l : List Int} (hn : n ≤ 6) (h : lsTo n l l.length = true) : ∃ s, s < 2 ^ n ∧ listTo s 6 = l := list_set hn (ls_good h).2 (ls_good h).1
/-- A list of tests: either it leaves the class open, or it decides as all tests do, and is no shorter than Fewest tells. -/
theorem proof_list {t : Tri} {sz mo : Int} (hc : classB sz mo = true) (h0 : opE t true = 0) {l : List Int} (hl : lsTo t.ts.length l l.length = true) :
    opE (lisT t l) true = 0 ∧ (certV (lisT t l) sz mo 0 = 3 ∨ (certV (lisT t l) sz mo 0 = certV t sz mo 0 ∧ certV t sz mo 0 ≠ 3 ∧ smE t sz mo 0 = 0 ∧ fewR (smL t sz mo) ≤ (l.length : Int))) := by
  obtain ⟨h1, _, h2⟩ := op_ok h0
  obtain ⟨hg, hk, hn6, _⟩ := chk_ok h1
  have hz : 0 ≤ sz ∧ sz ≤ 9000 := by unfold classB at hc; rw [Bool.and_eq_true, inB_true] at hc; exact hc.1
  obtain ⟨s, hs, rfl⟩ := ls_set hn6 hl
  have e : lisT t (listTo s 6) = justT t s := rfl
  rw [e]
  obtain ⟨g1, g2⟩ := just_cert (sz := sz) (mo := mo) h0 hs
  refine ⟨g1, ?_⟩
  rw [g2]
  by_cases h3 : certJ t sz mo s = 3
  · exact .inl h3
  · right
    have ha := cert_all hg hk h2 hz hs h3
    have hN : certV t sz mo 0 = cerV (lowL (fun x => errV x sz) (truthsL t)) (highL (fun x => errV x sz) (truthsL t)) mo := by unfold certV; rw [if_pos rfl]
    have hne : smL t sz mo ≠ [] := (sm_iff hg hk hn6 h2 hz).2 (by rw [← ha]; exact h3)
    refine ⟨by rw [hN]; exact ha, by rw [hN, ← ha]; exact h3, by unfold smE; rw [if_pos rfl, if_neg hne], ?_⟩
    cases hL : smL t sz mo with
    | nil => exact absurd hL hne
    | cons s0 rest =>
      have := few_least hL hs h3
      show ((listTo s0 6).length : Int) ≤ _
      omega
/-- What Decide tells. -/
theorem proof_dec {t : Tri} {sz mo : Int} (hc : classB sz mo = true) (h0 : opE t true = 0) (hN : certV t sz mo 0 ≠ 3) :
    smE t sz mo 0 = 0 ∧ ∃ s0 rest, smL t sz mo = s0 :: rest ∧ s0 < 2 ^ t.ts.length ∧ opE (lisT t (listTo s0 6)) true = 0 ∧ certV (lisT t (listTo s0 6)) sz mo 0 = certV t sz mo 0 := by
  obtain ⟨h1, _, h2⟩ := op_ok h0
  obtain ⟨hg, hk, hn6, _⟩ := chk_ok h1
  have hz : 0 ≤ sz ∧ sz ≤ 9000 := by unfold classB at hc; rw [Bool.and_eq_true, inB_true] at hc; exact hc.1
  have hN' : certV t sz mo 0 = cerV (lowL (fun x => errV x sz) (truthsL t)) (highL (fun x => errV x sz) (truthsL t)) mo := by unfold certV; rw [if_pos rfl]
  have hne : smL t sz mo ≠ [] := (sm_iff hg hk hn6 h2 hz).2 (by rw [← hN']; exact hN)
  refine ⟨by unfold smE; rw [if_pos rfl, if_neg hne], ?_⟩
  cases hL : smL t sz mo with
  | nil => exact absurd hL hne
  | cons s0 rest =>
    obtain ⟨j, hj⟩ := smTo_mem (t := t) (sz := sz) (mo := mo) (k := t.ts.length + 1) (s := s0) (by show s0 ∈ smL t sz mo; rw [hL]; exact List.mem_cons_self ..)
    obtain ⟨g1, _, g3⟩ := mem_dec.1 hj
    obtain ⟨e1, e2⟩ := just_cert (sz := sz) (mo := mo) h0 g1
    exact ⟨s0, rest, rfl, g1, e1, by rw [show lisT t (listTo s0 6) = justT t s0 from rfl, e2, hN']; exact cert_all hg hk h2 hz g1 g3⟩
theorem proof_none {t : Tri} {sz mo : Int} (hc : classB sz mo = true) (h0 : opE t true = 0) (hN : certV t sz mo 0 = 3) : smE t sz mo 0 = 3 := by
  obtain ⟨h1, _, h2⟩ := op_ok h0
  obtain ⟨hg, hk, hn6, _⟩ := chk_ok h1
  have hz : 0 ≤ sz ∧ sz ≤ 9000 := by unfold classB at hc; rw [Bool.and_eq_true, inB_true] at hc; exact hc.1
  have hN' : certV t sz mo 0 = cerV (lowL (fun x => errV x sz) (truthsL t)) (highL (fun x => errV x sz) (truthsL t)) mo := by unfold certV; rw [if_pos rfl]
  have hni : smL t sz mo = [] := by
    cases hL : smL t sz mo with
    | nil => rfl
    | cons a b => exact absurd (hN'.symm.trans hN) ((sm_iff hg hk hn6 h2 hz).1 (by rw [hL]; simp))
  unfold smE
  rw [if_pos rfl, if_pos hni]
end Ti
end Go.Proofs.Ytkmacpkjobdffaa
namespace Go.Proofs.Ytkmacpkjobdffaa
open Go.RowKit
set_option maxRecDepth 100000 in
set_option maxHeartbeats 16000000 in
theorem lawProof_walk (t : Ti.Tri) (A : Option Addr) (c : Nat) (AL : Option Addr) (cl : Nat) (l : List Int) (sz mo : Int) (w : World) (hl : t.ts.length ≤ 1000000000) (hx : l ≠ [] → Ints w w.heap.size (.slice AL l.length cl) l) (hg : Tsts w w.heap.size A t.ts) :
    Calls Try.prog 5 #[.agg (tiV t A c), .slice AL l.length cl, .agg #[.int .i64 sz, .int .i64 mo]] w fun e w' => e = .returned (.bool true) ∧ Below w.heap.size w w' := by
  have HWK : Hid (∀ W, Calls Try.prog 10 #[] W fun e w' => e = .returned (.bool true) ∧ Below W.heap.size W w') := works9_any
  have HRD : Hid (∀ W, Below w.heap.size w W → Calls Try.prog 8 #[.agg (tiV t A c)] W fun e w' => e = .returned (.bool (Ti.readyB t)) ∧ Below W.heap.size W w') := fun W hW => ready9_any t A c W hl ((hg.keep hW).wider hW.size)
  have HIC : Hid (∀ W, Calls Try.prog 9 #[.agg #[.int .i64 sz, .int .i64 mo]] W fun e w' => e = .returned (.bool (Ti.classB sz mo)) ∧ Below W.heap.size W w') := fun W => IsClass9_any sz mo W
  cases hr : Ti.readyB t
  · rw [hr] at HRD
    clear hg hr HIC hx
    obtain ⟨d, gain, ts⟩ := t
    obtain ⟨full, read, slip, skew, circ, glo, ghi, wrn, dws⟩ := d
    unfold tiV at *
    dsimp only at *
    go_enter Try.func5, Try.ntmps5
    go_wp2_with fail
    have bT1 := ((BoxS.new w 28 #[.int .i64 full, .int .i64 read, .int .i64 slip, .int .i64 skew, .int .i64 circ, .int .i64 glo, .int .i64 ghi, .int .i64 wrn, .int .i64 gain, .slice A ts.length c]).alloc (.cells #[.int .i64 sz, .int .i64 mo] 35))
    have bC1 := (BoxS.new (World.alloc w (.cells #[.int .i64 full, .int .i64 read, .int .i64 slip, .int .i64 skew, .int .i64 circ, .int .i64 glo, .int .i64 ghi, .int .i64 wrn, .int .i64 gain, .slice A ts.length c] 28)) 35 #[.int .i64 sz, .int .i64 mo])
    have hB1 : Below w.heap.size w (World.alloc (World.alloc w (.cells #[.int .i64 full, .int .i64 read, .int .i64 slip, .int .i64 skew, .int .i64 circ, .int .i64 glo, .int .i64 ghi, .int .i64 wrn, .int .i64 gain, .slice A ts.length c] 28)) (.cells #[.int .i64 sz, .int .i64 mo] 35)) := by (repeat' (first | (with_reducible exact Below.refl _ _) | (with_reducible assumption) | (with_reducible refine Below.alloc ?_ ?_ _) | (with_reducible refine Below.drew ?_) | (with_reducible refine Below.setCell ?_ ?_ _) | go_size | (exact (by simp)) | omega))
    simp only [World.size_alloc] at bC1
    generalize World.alloc (World.alloc w _) _ = w1 at *
    refine (HRD.out _ hB1).mono ?_
    rintro e w2 ⟨rfl, hb2⟩
    have bT2 := bT1.below hb2
    have bC2 := bC1.below hb2
    have hB2 := hB1.trans (hb2.mono hB1.size)
    clear bT1 bC1 hB1
    have kT0 := bT2.cell 0 rfl
    have kT1 := bT2.cell 1 rfl
    have kT2 := bT2.cell 2 rfl
    have kT3 := bT2.cell 3 rfl
    have kT4 := bT2.cell 4 rfl
    have kT5 := bT2.cell 5 rfl
    have kT6 := bT2.cell 6 rfl
    have kT7 := bT2.cell 7 rfl
    have kT8 := bT2.cell 8 rfl
    have kT9 := bT2.cell 9 rfl
    have lT := bT2.lt
    have kC0 := bC2.cell 0 rfl
    have kC1 := bC2.cell 1 rfl
    have lC := bC2.lt
    go_wp2_with fail
    clear kT0 kT1 kT2 kT3 kT4 kT5 kT6 kT7 kT8 kT9 lT kC0 kC1 lC
    refine (HWK.out _).mono ?_
    rintro e w3 ⟨rfl, hb3⟩
    have bT3 := bT2.below hb3
    have bC3 := bC2.below hb3
    have hB3 := hB2.trans (hb3.mono hB2.size)
    clear bT2 bC2 hB2
    go_wp2_with fail
    go_returns
    exact ⟨rfl, hB3⟩
  rw [hr] at HRD
  have hck : Ti.chkV t = 0 := by unfold Ti.readyB at hr; rw [Bool.and_eq_true, decide_eq_true_eq] at hr; exact hr.2
  by_cases h20 : 20 < l.length
  · have h20b : decide ((20 : Int) < (l.length : Int)) = true := decide_eq_true (by omega)
    clear hg hr HIC hx hck
    obtain ⟨d, gain, ts⟩ := t
    obtain ⟨full, read, slip, skew, circ, glo, ghi, wrn, dws⟩ := d
    unfold tiV at *
    dsimp only at *
    go_enter Try.func5, Try.ntmps5
    go_wp2_with fail
    have bT1 := ((BoxS.new w 28 #[.int .i64 full, .int .i64 read, .int .i64 slip, .int .i64 skew, .int .i64 circ, .int .i64 glo, .int .i64 ghi, .int .i64 wrn, .int .i64 gain, .slice A ts.length c]).alloc (.cells #[.int .i64 sz, .int .i64 mo] 35))
    have bC1 := (BoxS.new (World.alloc w (.cells #[.int .i64 full, .int .i64 read, .int .i64 slip, .int .i64 skew, .int .i64 circ, .int .i64 glo, .int .i64 ghi, .int .i64 wrn, .int .i64 gain, .slice A ts.length c] 28)) 35 #[.int .i64 sz, .int .i64 mo])
    have hB1 : Below w.heap.size w (World.alloc (World.alloc w (.cells #[.int .i64 full, .int .i64 read, .int .i64 slip, .int .i64 skew, .int .i64 circ, .int .i64 glo, .int .i64 ghi, .int .i64 wrn, .int .i64 gain, .slice A ts.length c] 28)) (.cells #[.int .i64 sz, .int .i64 mo] 35)) := by (repeat' (first | (with_reducible exact Below.refl _ _) | (with_reducible assumption) | (with_reducible refine Below.alloc ?_ ?_ _) | (with_reducible refine Below.drew ?_) | (with_reducible refine Below.setCell ?_ ?_ _) | go_size | (exact (by simp)) | omega))
    simp only [World.size_alloc] at bC1
    generalize World.alloc (World.alloc w _) _ = w1 at *
    refine (HRD.out _ hB1).mono ?_
    rintro e w2 ⟨rfl, hb2⟩
    have bT2 := bT1.below hb2
    have bC2 := bC1.below hb2
    have hB2 := hB1.trans (hb2.mono hB1.size)
    clear bT1 bC1 hB1
    have kT0 := bT2.cell 0 rfl
    have kT1 := bT2.cell 1 rfl
    have kT2 := bT2.cell 2 rfl
    have kT3 := bT2.cell 3 rfl
    have kT4 := bT2.cell 4 rfl
    have kT5 := bT2.cell 5 rfl
    have kT6 := bT2.cell 6 rfl
    have kT7 := bT2.cell 7 rfl
    have kT8 := bT2.cell 8 rfl
    have kT9 := bT2.cell 9 rfl
    have lT := bT2.lt
    have kC0 := bC2.cell 0 rfl
    have kC1 := bC2.cell 1 rfl
    have lC := bC2.lt
    go_wp2_with fail
    clear kT0 kT1 kT2 kT3 kT4 kT5 kT6 kT7 kT8 kT9 lT kC0 kC1 lC
    refine (HWK.out _).mono ?_
    rintro e w3 ⟨rfl, hb3⟩
    have bT3 := bT2.below hb3
    have bC3 := bC2.below hb3
    have hB3 := hB2.trans (hb3.mono hB2.size)
    clear bT2 bC2 hB2
    go_wp2_with fail
    go_returns
    exact ⟨rfl, hB3⟩
  have h20b : decide ((20 : Int) < (l.length : Int)) = false := decide_eq_false (by omega)
  have HIS : Hid (∀ W, Below w.heap.size w W → Calls Try.prog 19 #[.agg (tiV t A c), .slice AL l.length cl] W fun e w' => e = .returned (.bool (Ti.lsTo t.ts.length l l.length)) ∧ Below W.heap.size W w') := fun W hW => IsList9_any t A c AL cl l W hl (by omega) (fun h => ((hx h).keep hW).more hW.size)
  cases hil : Ti.lsTo t.ts.length l l.length
  · rw [hil] at HIS
    clear hg hr HIC hx hck hil
    obtain ⟨d, gain, ts⟩ := t
    obtain ⟨full, read, slip, skew, circ, glo, ghi, wrn, dws⟩ := d
    unfold tiV at *
    dsimp only at *
    go_enter Try.func5, Try.ntmps5
    go_wp2_with fail
    have bT1 := ((BoxS.new w 28 #[.int .i64 full, .int .i64 read, .int .i64 slip, .int .i64 skew, .int .i64 circ, .int .i64 glo, .int .i64 ghi, .int .i64 wrn, .int .i64 gain, .slice A ts.length c]).alloc (.cells #[.int .i64 sz, .int .i64 mo] 35))
    have bC1 := (BoxS.new (World.alloc w (.cells #[.int .i64 full, .int .i64 read, .int .i64 slip, .int .i64 skew, .int .i64 circ, .int .i64 glo, .int .i64 ghi, .int .i64 wrn, .int .i64 gain, .slice A ts.length c] 28)) 35 #[.int .i64 sz, .int .i64 mo])
    have hB1 : Below w.heap.size w (World.alloc (World.alloc w (.cells #[.int .i64 full, .int .i64 read, .int .i64 slip, .int .i64 skew, .int .i64 circ, .int .i64 glo, .int .i64 ghi, .int .i64 wrn, .int .i64 gain, .slice A ts.length c] 28)) (.cells #[.int .i64 sz, .int .i64 mo] 35)) := by (repeat' (first | (with_reducible exact Below.refl _ _) | (with_reducible assumption) | (with_reducible refine Below.alloc ?_ ?_ _) | (with_reducible refine Below.drew ?_) | (with_reducible refine Below.setCell ?_ ?_ _) | go_size | (exact (by simp)) | omega))
    simp only [World.size_alloc] at bC1
    generalize World.alloc (World.alloc w _) _ = w1 at *
    refine (HRD.out _ hB1).mono ?_
    rintro e w2 ⟨rfl, hb2⟩
    have bT2 := bT1.below hb2
    have bC2 := bC1.below hb2
    have hB2 := hB1.trans (hb2.mono hB1.size)
    clear bT1 bC1 hB1
    have kT0 := bT2.cell 0 rfl
    have kT1 := bT2.cell 1 rfl
    have kT2 := bT2.cell 2 rfl
    have kT3 := bT2.cell 3 rfl
    have kT4 := bT2.cell 4 rfl
    have kT5 := bT2.cell 5 rfl
    have kT6 := bT2.cell 6 rfl
    have kT7 := bT2.cell 7 rfl
    have kT8 := bT2.cell 8 rfl
    have kT9 := bT2.cell 9 rfl
    have lT := bT2.lt
    have kC0 := bC2.cell 0 rfl
    have kC1 := bC2.cell 1 rfl
    have lC := bC2.lt
    go_wp2_with fail
    clear kT0 kT1 kT2 kT3 kT4 kT5 kT6 kT7 kT8 kT9 lT kC0 kC1 lC
    refine (HIS.out _ hB2).mono ?_
    rintro e w3 ⟨rfl, hb3⟩
    have bT3 := bT2.below hb3
    have bC3 := bC2.below hb3
    have hB3 := hB2.trans (hb3.mono hB2.size)
    clear bT2 bC2 hB2
    have kT0 := bT3.cell 0 rfl
    have kT1 := bT3.cell 1 rfl
    have kT2 := bT3.cell 2 rfl
    have kT3 := bT3.cell 3 rfl
    have kT4 := bT3.cell 4 rfl
    have kT5 := bT3.cell 5 rfl
    have kT6 := bT3.cell 6 rfl
    have kT7 := bT3.cell 7 rfl
    have kT8 := bT3.cell 8 rfl
    have kT9 := bT3.cell 9 rfl
    have lT := bT3.lt
    have kC0 := bC3.cell 0 rfl
    have kC1 := bC3.cell 1 rfl
    have lC := bC3.lt
    go_wp2_with fail
    clear kT0 kT1 kT2 kT3 kT4 kT5 kT6 kT7 kT8 kT9 lT kC0 kC1 lC
    refine (HWK.out _).mono ?_
    rintro e w4 ⟨rfl, hb4⟩
    have bT4 := bT3.below hb4
    have bC4 := bC3.below hb4
    have hB4 := hB3.trans (hb4.mono hB3.size)
    clear bT3 bC3 hB3
    go_wp2_with fail
    go_returns
    exact ⟨rfl, hB4⟩
  rw [hil] at HIS
  cases hcb : Ti.classB sz mo
  · rw [hcb] at HIC
    clear hg hr hx hck hil hcb
    obtain ⟨d, gain, ts⟩ := t
    obtain ⟨full, read, slip, skew, circ, glo, ghi, wrn, dws⟩ := d
    unfold tiV at *
    dsimp only at *
    go_enter Try.func5, Try.ntmps5
    go_wp2_with fail
    have bT1 := ((BoxS.new w 28 #[.int .i64 full, .int .i64 read, .int .i64 slip, .int .i64 skew, .int .i64 circ, .int .i64 glo, .int .i64 ghi, .int .i64 wrn, .int .i64 gain, .slice A ts.length c]).alloc (.cells #[.int .i64 sz, .int .i64 mo] 35))
    have bC1 := (BoxS.new (World.alloc w (.cells #[.int .i64 full, .int .i64 read, .int .i64 slip, .int .i64 skew, .int .i64 circ, .int .i64 glo, .int .i64 ghi, .int .i64 wrn, .int .i64 gain, .slice A ts.length c] 28)) 35 #[.int .i64 sz, .int .i64 mo])
    have hB1 : Below w.heap.size w (World.alloc (World.alloc w (.cells #[.int .i64 full, .int .i64 read, .int .i64 slip, .int .i64 skew, .int .i64 circ, .int .i64 glo, .int .i64 ghi, .int .i64 wrn, .int .i64 gain, .slice A ts.length c] 28)) (.cells #[.int .i64 sz, .int .i64 mo] 35)) := by (repeat' (first | (with_reducible exact Below.refl _ _) | (with_reducible assumption) | (with_reducible refine Below.alloc ?_ ?_ _) | (with_reducible refine Below.drew ?_) | (with_reducible refine Below.setCell ?_ ?_ _) | go_size | (exact (by simp)) | omega))
    simp only [World.size_alloc] at bC1
    generalize World.alloc (World.alloc w _) _ = w1 at *
    refine (HRD.out _ hB1).mono ?_
    rintro e w2 ⟨rfl, hb2⟩
    have bT2 := bT1.below hb2
    have bC2 := bC1.below hb2
    have hB2 := hB1.trans (hb2.mono hB1.size)
    clear bT1 bC1 hB1
    have kT0 := bT2.cell 0 rfl
    have kT1 := bT2.cell 1 rfl
    have kT2 := bT2.cell 2 rfl
    have kT3 := bT2.cell 3 rfl
    have kT4 := bT2.cell 4 rfl
    have kT5 := bT2.cell 5 rfl
    have kT6 := bT2.cell 6 rfl
    have kT7 := bT2.cell 7 rfl
    have kT8 := bT2.cell 8 rfl
    have kT9 := bT2.cell 9 rfl
    have lT := bT2.lt
    have kC0 := bC2.cell 0 rfl
    have kC1 := bC2.cell 1 rfl
    have lC := bC2.lt
    go_wp2_with fail
    clear kT0 kT1 kT2 kT3 kT4 kT5 kT6 kT7 kT8 kT9 lT kC0 kC1 lC
    refine (HIS.out _ hB2).mono ?_
    rintro e w3 ⟨rfl, hb3⟩
    have bT3 := bT2.below hb3
    have bC3 := bC2.below hb3
    have hB3 := hB2.trans (hb3.mono hB2.size)
    clear bT2 bC2 hB2
    have kT0 := bT3.cell 0 rfl
    have kT1 := bT3.cell 1 rfl
    have kT2 := bT3.cell 2 rfl
    have kT3 := bT3.cell 3 rfl
    have kT4 := bT3.cell 4 rfl
    have kT5 := bT3.cell 5 rfl
    have kT6 := bT3.cell 6 rfl
    have kT7 := bT3.cell 7 rfl
    have kT8 := bT3.cell 8 rfl
    have kT9 := bT3.cell 9 rfl
    have lT := bT3.lt
    have kC0 := bC3.cell 0 rfl
    have kC1 := bC3.cell 1 rfl
    have lC := bC3.lt
    go_wp2_with fail
    clear kT0 kT1 kT2 kT3 kT4 kT5 kT6 kT7 kT8 kT9 lT kC0 kC1 lC
    refine (HIC.out _).mono ?_
    rintro e w4 ⟨rfl, hb4⟩
    have bT4 := bT3.below hb4
    have bC4 := bC3.below hb4
    have hB4 := hB3.trans (hb4.mono hB3.size)
    clear bT3 bC3 hB3
    have kT0 := bT4.cell 0 rfl
    have kT1 := bT4.cell 1 rfl
    have kT2 := bT4.cell 2 rfl
    have kT3 := bT4.cell 3 rfl
    have kT4 := bT4.cell 4 rfl
    have kT5 := bT4.cell 5 rfl
    have kT6 := bT4.cell 6 rfl
    have kT7 := bT4.cell 7 rfl
    have kT8 := bT4.cell 8 rfl
    have kT9 := bT4.cell 9 rfl
    have lT := bT4.lt
    have kC0 := bC4.cell 0 rfl
    have kC1 := bC4.cell 1 rfl
    have lC := bC4.lt
    go_wp2_with fail
    clear kT0 kT1 kT2 kT3 kT4 kT5 kT6 kT7 kT8 kT9 lT kC0 kC1 lC
    refine (HWK.out _).mono ?_
    rintro e w5 ⟨rfl, hb5⟩
    have bT5 := bT4.below hb5
    have bC5 := bC4.below hb5
    have hB5 := hB4.trans (hb5.mono hB4.size)
    clear bT4 bC4 hB4
    go_wp2_with fail
    go_returns
    exact ⟨rfl, hB5⟩
  rw [hcb] at HIC
  have HFW : Hid (∀ W, Below w.heap.size w W → Calls Try.prog 20 #[.agg (tiV t A c), .agg #[.int .i64 sz, .int .i64 mo]] W (TwoPost (Ti.fewV t sz mo) (Ti.smE t sz mo (Ti.opE t true)) W)) := fun W hW => by
    have := Fewest_any t sz mo A c W hl ((hg.keep hW).wider hW.size)
    rwa [hcb] at this
  have HDC : Hid (∀ W, Below w.heap.size w W → Calls Try.prog 21 #[.agg (tiV t A c), .agg #[.int .i64 sz, .int .i64 mo]] W (IntsEPost (Ti.decV t sz mo) (Ti.smE t sz mo (Ti.opE t true)) W)) := fun W hW => by
    have := Decide_any t sz mo A c W hl ((hg.keep hW).wider hW.size)
    rwa [hcb] at this
  have HND : Hid (∀ W, Below w.heap.size w W → Calls Try.prog 22 #[.agg (tiV t A c), .agg #[.int .i64 sz, .int .i64 mo]] W (IntsEPost (Ti.ndV t sz mo) (Ti.smE t sz mo (Ti.opE t true)) W)) := fun W hW => by
    have := Needed_any t sz mo A c W hl ((hg.keep hW).wider hW.size)
    rwa [hcb] at this
  have HCE : Hid (∀ W, Below w.heap.size w W → Calls Try.prog 13 #[.agg (tiV t A c), .agg #[.int .i64 sz, .int .i64 mo]] W (TwoPost (Ti.certV t sz mo (Ti.opE t true)) (Ti.opE t true) W)) := fun W hW => by
    have := Certify_any t sz mo A c W hl ((hg.keep hW).wider hW.size)
    rwa [hcb] at this
  have hDL : (Ti.decV t sz mo).length ≤ 6 := by
    unfold Ti.decV Ti.decR
    split
    · split
      · simp
      · exact Ti.listTo_len _ _
    · simp
  have hNL : (Ti.ndV t sz mo).length ≤ 6 := by
    unfold Ti.ndV
    split
    · exact Ti.listTo_len _ _
    · simp
  have HKN : Hid (∀ n W, Calls Try.prog 14 #[.int .i64 n] W fun e w' => e = .returned (.bool (decide (n = 0 ∨ n = 3))) ∧ w' = W) := fun n W => isKnown9_any n W
  unfold TwoPost at HFW HCE
  unfold IntsEPost at HDC HND
  have hd20 : decide ((20 : Int) < ((Ti.decV t sz mo).length : Int)) = false := decide_eq_false (by omega)
  have hn20 : decide ((20 : Int) < ((Ti.ndV t sz mo).length : Int)) = false := decide_eq_false (by omega)
  rcases Ti.op_cases hck true rfl with hE | hE
  · rw [hE] at HCE
    obtain ⟨hM0, hM⟩ := Ti.proof_list (sz := sz) (mo := mo) hcb hE hil
    have hlen : (Ti.lisT t l).ts.length = l.length := List.length_map _
    have HSO : Hid (∀ W, Below w.heap.size w W → Calls Try.prog 23 #[.agg (tiV t A c), .slice AL l.length cl] W fun e w' => ∃ A' c', e = .returned (.agg #[.int .i64 t.d.full, .int .i64 t.d.read, .int .i64 t.d.slip, .int .i64 t.d.skew, .int .i64 t.d.circ, .int .i64 t.d.glo, .int .i64 t.d.ghi, .int .i64 t.d.wr, .int .i64 t.gain, .slice A' l.length c']) ∧ Hid (Tsts w' w'.heap.size A' (Ti.lisT t l).ts) ∧ Below W.heap.size W w') := fun W hW => by
      have := some9_any t A c AL cl l W hl (by omega) (fun h => ((hx h).keep hW).more hW.size) ((hg.keep hW).wider hW.size) (Ti.ls_good hil).1
      unfold SomePost tiV at this
      rw [hlen] at this
      exact this
    have HCL : Hid (∀ A' c' W, Tsts W W.heap.size A' (Ti.lisT t l).ts → Calls Try.prog 13 #[.agg #[.int .i64 t.d.full, .int .i64 t.d.read, .int .i64 t.d.slip, .int .i64 t.d.skew, .int .i64 t.d.circ, .int .i64 t.d.glo, .int .i64 t.d.ghi, .int .i64 t.d.wr, .int .i64 t.gain, .slice A' l.length c'], .agg #[.int .i64 sz, .int .i64 mo]] W fun e w' => e = .returned (.tuple #[.int .i64 (Ti.certV (Ti.lisT t l) sz mo 0), .int .i64 0]) ∧ Below W.heap.size W w') := fun A' c' W h => by
      have := Certify_any (Ti.lisT t l) sz mo A' c' W (by rw [hlen]; omega) h
      unfold TwoPost tiV at this
      rw [hcb, hM0, hlen] at this
      exact this
    have hmo : Try.prog.follows .mixedOrders = true := by kernel_rfl
    have HKE := Lib.hid (HKN.out 0)
    rw [decide_eq_true (show (0 : Int) = 0 ∨ (0 : Int) = 3 from .inl rfl)] at HKE
    by_cases hN3 : Ti.certV t sz mo 0 = 3
    · have hSE := Ti.proof_none hcb hE hN3
      rw [hE, hSE] at HFW HDC HND
      rw [hN3] at HCE
      have hMM : Ti.certV (Ti.lisT t l) sz mo 0 = 3 := hM.elim id fun h => absurd hN3 h.2.1
      rw [hMM] at HCL
      have HKS := Lib.hid (HKN.out 3)
      rw [decide_eq_true (show (3 : Int) = 0 ∨ (3 : Int) = 3 from .inr rfl)] at HKS
      generalize Ti.decV t sz mo = DV at *
      generalize Ti.ndV t sz mo = NV at *
      generalize Ti.fewV t sz mo = FW at *
      generalize (Ti.lisT t l).ts = LT at *
      clear hg hr hx hck hil hcb hE hSE HKN hM hM0 hMM hlen hN3
      obtain ⟨d, gain, ts⟩ := t
      obtain ⟨full, read, slip, skew, circ, glo, ghi, wrn, dws⟩ := d
      unfold tiV at *
      dsimp only at *
      go_enter Try.func5, Try.ntmps5
      go_wp2_with fail
      have bT1 := ((BoxS.new w 28 #[.int .i64 full, .int .i64 read, .int .i64 slip, .int .i64 skew, .int .i64 circ, .int .i64 glo, .int .i64 ghi, .int .i64 wrn, .int .i64 gain, .slice A ts.length c]).alloc (.cells #[.int .i64 sz, .int .i64 mo] 35))
      have bC1 := (BoxS.new (World.alloc w (.cells #[.int .i64 full, .int .i64 read, .int .i64 slip, .int .i64 skew, .int .i64 circ, .int .i64 glo, .int .i64 ghi, .int .i64 wrn, .int .i64 gain, .slice A ts.length c] 28)) 35 #[.int .i64 sz, .int .i64 mo])
      have hB1 : Below w.heap.size w (World.alloc (World.alloc w (.cells #[.int .i64 full, .int .i64 read, .int .i64 slip, .int .i64 skew, .int .i64 circ, .int .i64 glo, .int .i64 ghi, .int .i64 wrn, .int .i64 gain, .slice A ts.length c] 28)) (.cells #[.int .i64 sz, .int .i64 mo] 35)) := by (repeat' (first | (with_reducible exact Below.refl _ _) | (with_reducible assumption) | (with_reducible refine Below.alloc ?_ ?_ _) | (with_reducible refine Below.drew ?_) | (with_reducible refine Below.setCell ?_ ?_ _) | go_size | (exact (by simp)) | omega))
      simp only [World.size_alloc] at bC1
      generalize World.alloc (World.alloc w _) _ = w1 at *
      refine (HRD.out _ hB1).mono ?_
      rintro e w2 ⟨rfl, hb2⟩
      have bT2 := bT1.below hb2
      have bC2 := bC1.below hb2
      have hB2 := hB1.trans (hb2.mono hB1.size)
      clear bT1 bC1 hB1
      have kT0 := bT2.cell 0 rfl
      have kT1 := bT2.cell 1 rfl
      have kT2 := bT2.cell 2 rfl
      have kT3 := bT2.cell 3 rfl
      have kT4 := bT2.cell 4 rfl
      have kT5 := bT2.cell 5 rfl
      have kT6 := bT2.cell 6 rfl
      have kT7 := bT2.cell 7 rfl
      have kT8 := bT2.cell 8 rfl
      have kT9 := bT2.cell 9 rfl
      have lT := bT2.lt
      have kC0 := bC2.cell 0 rfl
      have kC1 := bC2.cell 1 rfl
      have lC := bC2.lt
      go_wp2_with fail
      clear kT0 kT1 kT2 kT3 kT4 kT5 kT6 kT7 kT8 kT9 lT kC0 kC1 lC
      refine (HIS.out _ hB2).mono ?_
      rintro e w3 ⟨rfl, hb3⟩
      have bT3 := bT2.below hb3
      have bC3 := bC2.below hb3
      have hB3 := hB2.trans (hb3.mono hB2.size)
      clear bT2 bC2 hB2
      have kT0 := bT3.cell 0 rfl
      have kT1 := bT3.cell 1 rfl
      have kT2 := bT3.cell 2 rfl
      have kT3 := bT3.cell 3 rfl
      have kT4 := bT3.cell 4 rfl
      have kT5 := bT3.cell 5 rfl
      have kT6 := bT3.cell 6 rfl
      have kT7 := bT3.cell 7 rfl
      have kT8 := bT3.cell 8 rfl
      have kT9 := bT3.cell 9 rfl
      have lT := bT3.lt
      have kC0 := bC3.cell 0 rfl
      have kC1 := bC3.cell 1 rfl
      have lC := bC3.lt
      go_wp2_with fail
      clear kT0 kT1 kT2 kT3 kT4 kT5 kT6 kT7 kT8 kT9 lT kC0 kC1 lC
      refine (HIC.out _).mono ?_
      rintro e w4 ⟨rfl, hb4⟩
      have bT4 := bT3.below hb4
      have bC4 := bC3.below hb4
      have hB4 := hB3.trans (hb4.mono hB3.size)
      clear bT3 bC3 hB3
      have kT0 := bT4.cell 0 rfl
      have kT1 := bT4.cell 1 rfl
      have kT2 := bT4.cell 2 rfl
      have kT3 := bT4.cell 3 rfl
      have kT4 := bT4.cell 4 rfl
      have kT5 := bT4.cell 5 rfl
      have kT6 := bT4.cell 6 rfl
      have kT7 := bT4.cell 7 rfl
      have kT8 := bT4.cell 8 rfl
      have kT9 := bT4.cell 9 rfl
      have lT := bT4.lt
      have kC0 := bC4.cell 0 rfl
      have kC1 := bC4.cell 1 rfl
      have lC := bC4.lt
      go_wp2_with fail
      clear kT0 kT1 kT2 kT3 kT4 kT5 kT6 kT7 kT8 kT9 lT kC0 kC1 lC
      refine (HFW.out _ hB4).mono ?_
      rintro e w5 ⟨rfl, hb5⟩
      have bT5 := bT4.below hb5
      have bC5 := bC4.below hb5
      have hB5 := hB4.trans (hb5.mono hB4.size)
      clear bT4 bC4 hB4
      have kT0 := bT5.cell 0 rfl
      have kT1 := bT5.cell 1 rfl
      have kT2 := bT5.cell 2 rfl
      have kT3 := bT5.cell 3 rfl
      have kT4 := bT5.cell 4 rfl
      have kT5 := bT5.cell 5 rfl
      have kT6 := bT5.cell 6 rfl
      have kT7 := bT5.cell 7 rfl
      have kT8 := bT5.cell 8 rfl
      have kT9 := bT5.cell 9 rfl
      have lT := bT5.lt
      have kC0 := bC5.cell 0 rfl
      have kC1 := bC5.cell 1 rfl
      have lC := bC5.lt
      go_wp2_with fail
      clear kT0 kT1 kT2 kT3 kT4 kT5 kT6 kT7 kT8 kT9 lT kC0 kC1 lC
      refine (HDC.out _ hB5).mono ?_
      rintro e w6 ⟨vd, rfl, hvd, hb6⟩
      have bT6 := bT5.below hb6
      have bC6 := bC5.below hb6
      have hB6 := hB5.trans (hb6.mono hB5.size)
      clear bT5 bC5 hB5
      have HVD6 := Lib.hid hvd.out
      clear hvd
      obtain ⟨AD, cD, rfl⟩ := ints_form HVD6.out
      have kT0 := bT6.cell 0 rfl
      have kT1 := bT6.cell 1 rfl
      have kT2 := bT6.cell 2 rfl
      have kT3 := bT6.cell 3 rfl
      have kT4 := bT6.cell 4 rfl
      have kT5 := bT6.cell 5 rfl
      have kT6 := bT6.cell 6 rfl
      have kT7 := bT6.cell 7 rfl
      have kT8 := bT6.cell 8 rfl
      have kT9 := bT6.cell 9 rfl
      have lT := bT6.lt
      have kC0 := bC6.cell 0 rfl
      have kC1 := bC6.cell 1 rfl
      have lC := bC6.lt
      go_wp2_with fail
      clear kT0 kT1 kT2 kT3 kT4 kT5 kT6 kT7 kT8 kT9 lT kC0 kC1 lC
      refine (HND.out _ hB6).mono ?_
      rintro e w7 ⟨vn, rfl, hvn, hb7⟩
      have bT7 := bT6.below hb7
      have bC7 := bC6.below hb7
      have hB7 := hB6.trans (hb7.mono hB6.size)
      clear bT6 bC6 hB6
      have HVD7 := Lib.hid ((HVD6.out.keep hb7).more hb7.size)
      have HVN7 := Lib.hid hvn.out
      clear hvn HVD6
      obtain ⟨AN, cN, rfl⟩ := ints_form HVN7.out
      have kT0 := bT7.cell 0 rfl
      have kT1 := bT7.cell 1 rfl
      have kT2 := bT7.cell 2 rfl
      have kT3 := bT7.cell 3 rfl
      have kT4 := bT7.cell 4 rfl
      have kT5 := bT7.cell 5 rfl
      have kT6 := bT7.cell 6 rfl
      have kT7 := bT7.cell 7 rfl
      have kT8 := bT7.cell 8 rfl
      have kT9 := bT7.cell 9 rfl
      have lT := bT7.lt
      have kC0 := bC7.cell 0 rfl
      have kC1 := bC7.cell 1 rfl
      have lC := bC7.lt
      go_wp2_with fail
      clear kT0 kT1 kT2 kT3 kT4 kT5 kT6 kT7 kT8 kT9 lT kC0 kC1 lC
      refine (HCE.out _ hB7).mono ?_
      rintro e w8 ⟨rfl, hb8⟩
      have bT8 := bT7.below hb8
      have bC8 := bC7.below hb8
      have hB8 := hB7.trans (hb8.mono hB7.size)
      clear bT7 bC7 hB7
      have HVD8 := Lib.hid ((HVD7.out.keep hb8).more hb8.size)
      have HVN8 := Lib.hid ((HVN7.out.keep hb8).more hb8.size)
      clear HVD7 HVN7
      have kT0 := bT8.cell 0 rfl
      have kT1 := bT8.cell 1 rfl
      have kT2 := bT8.cell 2 rfl
      have kT3 := bT8.cell 3 rfl
      have kT4 := bT8.cell 4 rfl
      have kT5 := bT8.cell 5 rfl
      have kT6 := bT8.cell 6 rfl
      have kT7 := bT8.cell 7 rfl
      have kT8 := bT8.cell 8 rfl
      have kT9 := bT8.cell 9 rfl
      have lT := bT8.lt
      have kC0 := bC8.cell 0 rfl
      have kC1 := bC8.cell 1 rfl
      have lC := bC8.lt
      go_wp2_with fail
      clear kT0 kT1 kT2 kT3 kT4 kT5 kT6 kT7 kT8 kT9 lT kC0 kC1 lC
      refine (HKS.out _).mono ?_
      rintro e wq ⟨rfl, hq⟩
      have hq := hq.symm
      subst hq
      have kT0 := bT8.cell 0 rfl
      have kT1 := bT8.cell 1 rfl
      have kT2 := bT8.cell 2 rfl
      have kT3 := bT8.cell 3 rfl
      have kT4 := bT8.cell 4 rfl
      have kT5 := bT8.cell 5 rfl
      have kT6 := bT8.cell 6 rfl
      have kT7 := bT8.cell 7 rfl
      have kT8 := bT8.cell 8 rfl
      have kT9 := bT8.cell 9 rfl
      have lT := bT8.lt
      have kC0 := bC8.cell 0 rfl
      have kC1 := bC8.cell 1 rfl
      have lC := bC8.lt
      go_wp2_with fail
      clear kT0 kT1 kT2 kT3 kT4 kT5 kT6 kT7 kT8 kT9 lT kC0 kC1 lC
      refine (HKE.out _).mono ?_
      rintro e wq ⟨rfl, hq⟩
      have hq := hq.symm
      subst hq
      have kT0 := bT8.cell 0 rfl
      have kT1 := bT8.cell 1 rfl
      have kT2 := bT8.cell 2 rfl
      have kT3 := bT8.cell 3 rfl
      have kT4 := bT8.cell 4 rfl
      have kT5 := bT8.cell 5 rfl
      have kT6 := bT8.cell 6 rfl
      have kT7 := bT8.cell 7 rfl
      have kT8 := bT8.cell 8 rfl
      have kT9 := bT8.cell 9 rfl
      have lT := bT8.lt
      have kC0 := bC8.cell 0 rfl
      have kC1 := bC8.cell 1 rfl
      have lC := bC8.lt
      go_wp2_with fail
      clear kT0 kT1 kT2 kT3 kT4 kT5 kT6 kT7 kT8 kT9 lT kC0 kC1 lC
      clear HVD8 HVN8
      have q0 : Below w8.heap.size w8.drew w8.drew := Below.refl _ _
      have KC : Hid (∀ V', Below w8.heap.size w8.drew V' → (V'.cell? ⟨w.heap.size, 0, none⟩ = some (.int .i64 full) ∧ V'.cell? ⟨w.heap.size, 1, none⟩ = some (.int .i64 read) ∧ V'.cell? ⟨w.heap.size, 2, none⟩ = some (.int .i64 slip) ∧ V'.cell? ⟨w.heap.size, 3, none⟩ = some (.int .i64 skew) ∧ V'.cell? ⟨w.heap.size, 4, none⟩ = some (.int .i64 circ) ∧ V'.cell? ⟨w.heap.size, 5, none⟩ = some (.int .i64 glo) ∧ V'.cell? ⟨w.heap.size, 6, none⟩ = some (.int .i64 ghi) ∧ V'.cell? ⟨w.heap.size, 7, none⟩ = some (.int .i64 wrn) ∧ V'.cell? ⟨w.heap.size, 8, none⟩ = some (.int .i64 gain) ∧ V'.cell? ⟨w.heap.size, 9, none⟩ = some (.slice A ts.length c) ∧ V'.cell? ⟨w.heap.size + 1, 0, none⟩ = some (.int .i64 sz) ∧ V'.cell? ⟨w.heap.size + 1, 1, none⟩ = some (.int .i64 mo))) := fun V' h =>
        have hk : ∀ (bb o : Nat) (u : Value), bb < w8.heap.size → w8.cell? ⟨bb, o, none⟩ = some u → V'.cell? ⟨bb, o, none⟩ = some u := fun bb o u h1 h2 => (h.cell (p := ⟨bb, o, none⟩) h1).trans h2
        ⟨hk _ _ _ bT8.lt (bT8.cell 0 rfl), hk _ _ _ bT8.lt (bT8.cell 1 rfl), hk _ _ _ bT8.lt (bT8.cell 2 rfl), hk _ _ _ bT8.lt (bT8.cell 3 rfl), hk _ _ _ bT8.lt (bT8.cell 4 rfl), hk _ _ _ bT8.lt (bT8.cell 5 rfl), hk _ _ _ bT8.lt (bT8.cell 6 rfl), hk _ _ _ bT8.lt (bT8.cell 7 rfl), hk _ _ _ bT8.lt (bT8.cell 8 rfl), hk _ _ _ bT8.lt (bT8.cell 9 rfl), hk _ _ _ bC8.lt (bC8.cell 0 rfl), hk _ _ _ bC8.lt (bC8.cell 1 rfl)⟩
      refine (wpIn_wide (n := 4)).1 ?_
      refine wpIn_mono (Q := noPanic _) ?_ noPanic_le
      refine wpIn_region_held (fun V' => Below w8.heap.size w8.drew V') 40 hmo ?_
      refine wpHeldIn_take (i := 0) (v := ?_) (plain_of (by kernel_rfl)) rfl (by kernel_rfl) (fun _ _ _ h => h) (yieldsSoIn_of (by kernel_rfl) ?_ (fun _ => rfl)) q0 ?_; rotate_left; focus (intro wq hw; have kq := KC.out wq hw; clear hw; go_simp; try (with_reducible rfl))
      refine wpHeldIn_take (i := 1) (v := ?_) (plain_of (by kernel_rfl)) rfl (by kernel_rfl) (fun _ _ _ h => h) (yieldsSoIn_of (by kernel_rfl) ?_ (fun _ => rfl)) q0 ?_; rotate_left; focus (intro wq hw; clear hw; go_simp; try (with_reducible rfl))
      refine wpHeldIn_take (i := 3) (v := ?_) (plain_of (by kernel_rfl)) rfl (by kernel_rfl) (fun _ _ _ h => h) (yieldsSoIn_of (by kernel_rfl) ?_ (fun _ => rfl)) q0 ?_; rotate_left; focus (intro wq hw; have kq := KC.out wq hw; clear hw; go_simp; try (with_reducible rfl))
      refine wpHeldIn_one (i := 2) (by kernel_rfl) (by kernel_rfl) rfl (by kernel_rfl) (fun K1 hK1 => ?_)
      go_simp
      refine ⟨trivial, (callsIn_wide.2 (HSO.out _ hB8.drew)).mono ?_⟩
      rintro e wa ⟨A1, c1, rfl, hg1, ha⟩
      have q1 : Below w8.heap.size w8.drew wa := ha
      refine hK1 _ _ q1 ?_
      refine wpHeldIn_one (i := 4) (by kernel_rfl) (by kernel_rfl) rfl (by kernel_rfl) (fun K2 hK2 => ?_)
      go_simp
      refine ⟨trivial, (callsIn_wide.2 (HCL.out A1 c1 wa hg1.out)).mono ?_⟩
      rintro e w9 ⟨rfl, hb2⟩
      have q2 : Below w8.heap.size w8.drew w9 := q1.trans (hb2.mono q1.size)
      refine hK2 _ _ q2 ?_
      refine wpHeldIn_take (i := 5) (v := ?_) (plain_of (by kernel_rfl)) rfl (by kernel_rfl) (fun _ _ _ h => h) (yieldsSoIn_of (by kernel_rfl) ?_ (fun _ => rfl)) q2 ?_; rotate_left; focus (intro wq hw; clear hw; go_simp; try (with_reducible rfl))
      refine wpHeldIn_take (i := 6) (v := ?_) (plain_of (by kernel_rfl)) rfl (by kernel_rfl) (fun _ _ _ h => h) (yieldsSoIn_of (by kernel_rfl) ?_ (fun _ => rfl)) q2 ?_; rotate_left; focus (intro wq hw; clear hw; go_simp; try (with_reducible rfl))
      refine wpHeldIn_take (i := 7) (v := ?_) (plain_of (by kernel_rfl)) rfl (by kernel_rfl) (fun _ _ _ h => h) (yieldsSoIn_of (by kernel_rfl) ?_ (fun _ => rfl)) q2 ?_; rotate_left; focus (intro wq hw; clear hw; go_simp; try (with_reducible rfl))
      refine wpHeldIn_take (i := 8) (v := ?_) (plain_of (by kernel_rfl)) rfl (by kernel_rfl) (fun _ _ _ h => h) (yieldsSoIn_of (by kernel_rfl) ?_ (fun _ => rfl)) q2 ?_; rotate_left; focus (intro wq hw; clear hw; go_simp; try (with_reducible rfl))
      refine wpHeldIn_take (i := 9) (v := ?_) (plain_of (by kernel_rfl)) rfl (by kernel_rfl) (fun _ _ _ h => h) (yieldsSoIn_of (by kernel_rfl) ?_ (fun _ => rfl)) q2 ?_; rotate_left; focus (intro wq hw; clear hw; go_simp; try (with_reducible rfl))
      refine wpHeldIn_done (by kernel_rfl) ?_ _
      go_simp
      refine noPanic_of ?_
      have hb9 : Below w8.heap.size w8 w9 := (Below.refl _ _).drew.trans q2
      have bT9 := bT8.below hb9
      have bC9 := bC8.below hb9
      have hB9 := hB8.trans (hb9.mono hB8.size)
      clear bT8 bC8 hB8
      clear q0 KC q1 q2 ha hb2 hg1
      have kT0 := bT9.cell 0 rfl
      have kT1 := bT9.cell 1 rfl
      have kT2 := bT9.cell 2 rfl
      have kT3 := bT9.cell 3 rfl
      have kT4 := bT9.cell 4 rfl
      have kT5 := bT9.cell 5 rfl
      have kT6 := bT9.cell 6 rfl
      have kT7 := bT9.cell 7 rfl
      have kT8 := bT9.cell 8 rfl
      have kT9 := bT9.cell 9 rfl
      have lT := bT9.lt
      have kC0 := bC9.cell 0 rfl
      have kC1 := bC9.cell 1 rfl
      have lC := bC9.lt
      go_wp2_with fail
      clear kT0 kT1 kT2 kT3 kT4 kT5 kT6 kT7 kT8 kT9 lT kC0 kC1 lC
      refine (HWK.out _).mono ?_
      rintro e w10 ⟨rfl, hb10⟩
      have bT10 := bT9.below hb10
      have bC10 := bC9.below hb10
      have hB10 := hB9.trans (hb10.mono hB9.size)
      clear bT9 bC9 hB9
      go_wp2_with fail
      go_returns
      exact ⟨rfl, hB10⟩
    · obtain ⟨hSE, s0, rest, hsm, hs0, hop, hcer⟩ := Ti.proof_dec hcb hE hN3
      rw [hE, hSE] at HFW HDC HND
      have hDV : Ti.decV t sz mo = Ti.listTo s0 6 := by
        unfold Ti.decV
        rw [hcb, hE, hSE, if_pos rfl]
        unfold Ti.smR
        rw [if_pos rfl, hsm]
        rfl
      have hFW : Ti.fewV t sz mo = ((Ti.listTo s0 6).length : Int) := by
        unfold Ti.fewV
        rw [hcb, hE, hSE, if_pos rfl]
        unfold Ti.smR
        rw [if_pos rfl, hsm]
        rfl
      have hsmN : Ti.smL t sz mo ≠ [] := by rw [hsm]; simp
      have hND : Ti.ndV t sz mo = Ti.listTo (Ti.ndTo (Ti.smL t sz mo) (Ti.smL t sz mo).length) 6 := by
        unfold Ti.ndV
        rw [hcb, hE, hSE, if_pos rfl]
        unfold Ti.smR
        rw [if_pos rfl]
      have h64 : ∀ s ∈ Ti.smL t sz mo, s < 64 := fun s hs => Ti.sm_lt (t := t) (sz := sz) (mo := mo) s (by
        unfold Ti.smR
        rw [hcb, hE, if_pos rfl]
        exact hs)
      obtain ⟨hle, hsu⟩ := Ti.nd_sub h64 hsmN (Ti.smL t sz mo).length (Nat.le_refl _)
      rw [← hND] at hle hsu
      have hhd : (Ti.smL t sz mo).headD 0 = s0 := by rw [hsm]; rfl
      rw [hhd] at hle hsu
      have hil2 := Ti.ls_list hs0
      have hlen2 : (Ti.lisT t (Ti.listTo s0 6)).ts.length = (Ti.listTo s0 6).length := List.length_map _
      have hD6 : (Ti.listTo s0 6).length ≤ 6 := by rw [← hDV]; exact hDL
      rw [hDV] at HDC
      rw [hFW] at HFW
      have HSD : Hid (∀ AD cD W, Below w.heap.size w W → Ints W W.heap.size (.slice AD (Ti.listTo s0 6).length cD) (Ti.listTo s0 6) → Calls Try.prog 23 #[.agg (tiV t A c), .slice AD (Ti.listTo s0 6).length cD] W fun e w' => ∃ A' c', e = .returned (.agg #[.int .i64 t.d.full, .int .i64 t.d.read, .int .i64 t.d.slip, .int .i64 t.d.skew, .int .i64 t.d.circ, .int .i64 t.d.glo, .int .i64 t.d.ghi, .int .i64 t.d.wr, .int .i64 t.gain, .slice A' (Ti.listTo s0 6).length c']) ∧ Hid (Tsts w' w'.heap.size A' (Ti.lisT t (Ti.listTo s0 6)).ts) ∧ Below W.heap.size W w') := fun AD cD W hW hi => by
        have := some9_any t A c AD cD (Ti.listTo s0 6) W hl (by omega) (fun _ => hi) ((hg.keep hW).wider hW.size) (Ti.ls_good hil2).1
        unfold SomePost tiV at this
        rw [hlen2] at this
        exact this
      have HCD : Hid (∀ A' c' W, Tsts W W.heap.size A' (Ti.lisT t (Ti.listTo s0 6)).ts → Calls Try.prog 13 #[.agg #[.int .i64 t.d.full, .int .i64 t.d.read, .int .i64 t.d.slip, .int .i64 t.d.skew, .int .i64 t.d.circ, .int .i64 t.d.glo, .int .i64 t.d.ghi, .int .i64 t.d.wr, .int .i64 t.gain, .slice A' (Ti.listTo s0 6).length c'], .agg #[.int .i64 sz, .int .i64 mo]] W fun e w' => e = .returned (.tuple #[.int .i64 (Ti.certV t sz mo 0), .int .i64 0]) ∧ Below W.heap.size W w') := fun A' c' W h => by
        have := Certify_any (Ti.lisT t (Ti.listTo s0 6)) sz mo A' c' W (by rw [hlen2]; omega) h
        unfold TwoPost tiV at this
        rw [hcb, hop, hlen2, hcer] at this
        exact this
      have HID : Hid (∀ AD cD W, Below w.heap.size w W → Ints W W.heap.size (.slice AD (Ti.listTo s0 6).length cD) (Ti.listTo s0 6) → Calls Try.prog 19 #[.agg (tiV t A c), .slice AD (Ti.listTo s0 6).length cD] W fun e w' => e = .returned (.bool true) ∧ Below W.heap.size W w') := fun AD cD W hW hi => by
        have := IsList9_any t A c AD cD (Ti.listTo s0 6) W hl (by omega) (fun _ => hi)
        rwa [hil2] at this
      have HSU : Hid (∀ v v' W, Ints W W.heap.size v (Ti.ndV t sz mo) → Ints W W.heap.size v' (Ti.listTo s0 6) → Calls Try.prog 18 #[v, v'] W fun e w' => e = .returned (.bool true) ∧ w' = W) := fun v v' W h1 h2 => subset_yes v v' _ _ W h1 h2 (by omega) (by omega) hsu hle
      have HKS := Lib.hid (HKN.out 0)
      rw [decide_eq_true (show (0 : Int) = 0 ∨ (0 : Int) = 3 from .inl rfl)] at HKS
      rw [hDV] at hd20 hDL
      have HMM : Hid (Ti.certV (Ti.lisT t l) sz mo 0 = 3 ∨ (Ti.certV (Ti.lisT t l) sz mo 0 = Ti.certV t sz mo 0 ∧ ((Ti.listTo s0 6).length : Int) ≤ (l.length : Int))) := hM.imp id fun h => ⟨h.1, by have := h.2.2.2; rw [hsm] at this; exact this⟩
      generalize Ti.listTo s0 6 = DV at *
      generalize Ti.ndV t sz mo = NV at *
      generalize Ti.certV t sz mo 0 = N at *
      generalize Ti.certV (Ti.lisT t l) sz mo 0 = M at *
      generalize (Ti.lisT t l).ts = LT at *
      generalize (Ti.lisT t DV).ts = LD at *
      have hNb : (N != 3) = true := by simpa using hN3
      clear hN3
      clear hg hr hx hck hil hcb hE hSE HKN hM hM0 hlen hsm hs0 hop hcer hDV hFW hsmN hND h64 hle hsu hhd hil2 hlen2 rest s0
      obtain ⟨d, gain, ts⟩ := t
      obtain ⟨full, read, slip, skew, circ, glo, ghi, wrn, dws⟩ := d
      unfold tiV at *
      dsimp only at *
      go_enter Try.func5, Try.ntmps5
      go_wp2_with fail
      have bT1 := ((BoxS.new w 28 #[.int .i64 full, .int .i64 read, .int .i64 slip, .int .i64 skew, .int .i64 circ, .int .i64 glo, .int .i64 ghi, .int .i64 wrn, .int .i64 gain, .slice A ts.length c]).alloc (.cells #[.int .i64 sz, .int .i64 mo] 35))
      have bC1 := (BoxS.new (World.alloc w (.cells #[.int .i64 full, .int .i64 read, .int .i64 slip, .int .i64 skew, .int .i64 circ, .int .i64 glo, .int .i64 ghi, .int .i64 wrn, .int .i64 gain, .slice A ts.length c] 28)) 35 #[.int .i64 sz, .int .i64 mo])
      have hB1 : Below w.heap.size w (World.alloc (World.alloc w (.cells #[.int .i64 full, .int .i64 read, .int .i64 slip, .int .i64 skew, .int .i64 circ, .int .i64 glo, .int .i64 ghi, .int .i64 wrn, .int .i64 gain, .slice A ts.length c] 28)) (.cells #[.int .i64 sz, .int .i64 mo] 35)) := by (repeat' (first | (with_reducible exact Below.refl _ _) | (with_reducible assumption) | (with_reducible refine Below.alloc ?_ ?_ _) | (with_reducible refine Below.drew ?_) | (with_reducible refine Below.setCell ?_ ?_ _) | go_size | (exact (by simp)) | omega))
      simp only [World.size_alloc] at bC1
      generalize World.alloc (World.alloc w _) _ = w1 at *
      refine (HRD.out _ hB1).mono ?_
      rintro e w2 ⟨rfl, hb2⟩
      have bT2 := bT1.below hb2
      have bC2 := bC1.below hb2
      have hB2 := hB1.trans (hb2.mono hB1.size)
      clear bT1 bC1 hB1
      have kT0 := bT2.cell 0 rfl
      have kT1 := bT2.cell 1 rfl
      have kT2 := bT2.cell 2 rfl
      have kT3 := bT2.cell 3 rfl
      have kT4 := bT2.cell 4 rfl
      have kT5 := bT2.cell 5 rfl
      have kT6 := bT2.cell 6 rfl
      have kT7 := bT2.cell 7 rfl
      have kT8 := bT2.cell 8 rfl
      have kT9 := bT2.cell 9 rfl
      have lT := bT2.lt
      have kC0 := bC2.cell 0 rfl
      have kC1 := bC2.cell 1 rfl
      have lC := bC2.lt
      go_wp2_with fail
      clear kT0 kT1 kT2 kT3 kT4 kT5 kT6 kT7 kT8 kT9 lT kC0 kC1 lC
      refine (HIS.out _ hB2).mono ?_
      rintro e w3 ⟨rfl, hb3⟩
      have bT3 := bT2.below hb3
      have bC3 := bC2.below hb3
      have hB3 := hB2.trans (hb3.mono hB2.size)
      clear bT2 bC2 hB2
      have kT0 := bT3.cell 0 rfl
      have kT1 := bT3.cell 1 rfl
      have kT2 := bT3.cell 2 rfl
      have kT3 := bT3.cell 3 rfl
      have kT4 := bT3.cell 4 rfl
      have kT5 := bT3.cell 5 rfl
      have kT6 := bT3.cell 6 rfl
      have kT7 := bT3.cell 7 rfl
      have kT8 := bT3.cell 8 rfl
      have kT9 := bT3.cell 9 rfl
      have lT := bT3.lt
      have kC0 := bC3.cell 0 rfl
      have kC1 := bC3.cell 1 rfl
      have lC := bC3.lt
      go_wp2_with fail
      clear kT0 kT1 kT2 kT3 kT4 kT5 kT6 kT7 kT8 kT9 lT kC0 kC1 lC
      refine (HIC.out _).mono ?_
      rintro e w4 ⟨rfl, hb4⟩
      have bT4 := bT3.below hb4
      have bC4 := bC3.below hb4
      have hB4 := hB3.trans (hb4.mono hB3.size)
      clear bT3 bC3 hB3
      have kT0 := bT4.cell 0 rfl
      have kT1 := bT4.cell 1 rfl
      have kT2 := bT4.cell 2 rfl
      have kT3 := bT4.cell 3 rfl
      have kT4 := bT4.cell 4 rfl
      have kT5 := bT4.cell 5 rfl
      have kT6 := bT4.cell 6 rfl
      have kT7 := bT4.cell 7 rfl
      have kT8 := bT4.cell 8 rfl
      have kT9 := bT4.cell 9 rfl
      have lT := bT4.lt
      have kC0 := bC4.cell 0 rfl
      have kC1 := bC4.cell 1 rfl
      have lC := bC4.lt
      go_wp2_with fail
      clear kT0 kT1 kT2 kT3 kT4 kT5 kT6 kT7 kT8 kT9 lT kC0 kC1 lC
      refine (HFW.out _ hB4).mono ?_
      rintro e w5 ⟨rfl, hb5⟩
      have bT5 := bT4.below hb5
      have bC5 := bC4.below hb5
      have hB5 := hB4.trans (hb5.mono hB4.size)
      clear bT4 bC4 hB4
      have kT0 := bT5.cell 0 rfl
      have kT1 := bT5.cell 1 rfl
      have kT2 := bT5.cell 2 rfl
      have kT3 := bT5.cell 3 rfl
      have kT4 := bT5.cell 4 rfl
      have kT5 := bT5.cell 5 rfl
      have kT6 := bT5.cell 6 rfl
      have kT7 := bT5.cell 7 rfl
      have kT8 := bT5.cell 8 rfl
      have kT9 := bT5.cell 9 rfl
      have lT := bT5.lt
      have kC0 := bC5.cell 0 rfl
      have kC1 := bC5.cell 1 rfl
      have lC := bC5.lt
      go_wp2_with fail
      clear kT0 kT1 kT2 kT3 kT4 kT5 kT6 kT7 kT8 kT9 lT kC0 kC1 lC
      refine (HDC.out _ hB5).mono ?_
      rintro e w6 ⟨vd, rfl, hvd, hb6⟩
      have bT6 := bT5.below hb6
      have bC6 := bC5.below hb6
      have hB6 := hB5.trans (hb6.mono hB5.size)
      clear bT5 bC5 hB5
      have HVD6 := Lib.hid hvd.out
      clear hvd
      obtain ⟨AD, cD, rfl⟩ := ints_form HVD6.out
      have kT0 := bT6.cell 0 rfl
      have kT1 := bT6.cell 1 rfl
      have kT2 := bT6.cell 2 rfl
      have kT3 := bT6.cell 3 rfl
      have kT4 := bT6.cell 4 rfl
      have kT5 := bT6.cell 5 rfl
      have kT6 := bT6.cell 6 rfl
      have kT7 := bT6.cell 7 rfl
      have kT8 := bT6.cell 8 rfl
      have kT9 := bT6.cell 9 rfl
      have lT := bT6.lt
      have kC0 := bC6.cell 0 rfl
      have kC1 := bC6.cell 1 rfl
      have lC := bC6.lt
      go_wp2_with fail
      clear kT0 kT1 kT2 kT3 kT4 kT5 kT6 kT7 kT8 kT9 lT kC0 kC1 lC
      refine (HND.out _ hB6).mono ?_
      rintro e w7 ⟨vn, rfl, hvn, hb7⟩
      have bT7 := bT6.below hb7
      have bC7 := bC6.below hb7
      have hB7 := hB6.trans (hb7.mono hB6.size)
      clear bT6 bC6 hB6
      have HVD7 := Lib.hid ((HVD6.out.keep hb7).more hb7.size)
      have HVN7 := Lib.hid hvn.out
      clear hvn HVD6
      obtain ⟨AN, cN, rfl⟩ := ints_form HVN7.out
      have kT0 := bT7.cell 0 rfl
      have kT1 := bT7.cell 1 rfl
      have kT2 := bT7.cell 2 rfl
      have kT3 := bT7.cell 3 rfl
      have kT4 := bT7.cell 4 rfl
      have kT5 := bT7.cell 5 rfl
      have kT6 := bT7.cell 6 rfl
      have kT7 := bT7.cell 7 rfl
      have kT8 := bT7.cell 8 rfl
      have kT9 := bT7.cell 9 rfl
      have lT := bT7.lt
      have kC0 := bC7.cell 0 rfl
      have kC1 := bC7.cell 1 rfl
      have lC := bC7.lt
      go_wp2_with fail
      clear kT0 kT1 kT2 kT3 kT4 kT5 kT6 kT7 kT8 kT9 lT kC0 kC1 lC
      refine (HCE.out _ hB7).mono ?_
      rintro e w8 ⟨rfl, hb8⟩
      have bT8 := bT7.below hb8
      have bC8 := bC7.below hb8
      have hB8 := hB7.trans (hb8.mono hB7.size)
      clear bT7 bC7 hB7
      have HVD8 := Lib.hid ((HVD7.out.keep hb8).more hb8.size)
      have HVN8 := Lib.hid ((HVN7.out.keep hb8).more hb8.size)
      clear HVD7 HVN7
      have kT0 := bT8.cell 0 rfl
      have kT1 := bT8.cell 1 rfl
      have kT2 := bT8.cell 2 rfl
      have kT3 := bT8.cell 3 rfl
      have kT4 := bT8.cell 4 rfl
      have kT5 := bT8.cell 5 rfl
      have kT6 := bT8.cell 6 rfl
      have kT7 := bT8.cell 7 rfl
      have kT8 := bT8.cell 8 rfl
      have kT9 := bT8.cell 9 rfl
      have lT := bT8.lt
      have kC0 := bC8.cell 0 rfl
      have kC1 := bC8.cell 1 rfl
      have lC := bC8.lt
      go_wp2_with fail
      clear kT0 kT1 kT2 kT3 kT4 kT5 kT6 kT7 kT8 kT9 lT kC0 kC1 lC
      refine (HKS.out _).mono ?_
      rintro e wq ⟨rfl, hq⟩
      have hq := hq.symm
      subst hq
      have kT0 := bT8.cell 0 rfl
      have kT1 := bT8.cell 1 rfl
      have kT2 := bT8.cell 2 rfl
      have kT3 := bT8.cell 3 rfl
      have kT4 := bT8.cell 4 rfl
      have kT5 := bT8.cell 5 rfl
      have kT6 := bT8.cell 6 rfl
      have kT7 := bT8.cell 7 rfl
      have kT8 := bT8.cell 8 rfl
      have kT9 := bT8.cell 9 rfl
      have lT := bT8.lt
      have kC0 := bC8.cell 0 rfl
      have kC1 := bC8.cell 1 rfl
      have lC := bC8.lt
      go_wp2_with fail
      clear kT0 kT1 kT2 kT3 kT4 kT5 kT6 kT7 kT8 kT9 lT kC0 kC1 lC
      refine (HKE.out _).mono ?_
      rintro e wq ⟨rfl, hq⟩
      have hq := hq.symm
      subst hq
      have kT0 := bT8.cell 0 rfl
      have kT1 := bT8.cell 1 rfl
      have kT2 := bT8.cell 2 rfl
      have kT3 := bT8.cell 3 rfl
      have kT4 := bT8.cell 4 rfl
      have kT5 := bT8.cell 5 rfl
      have kT6 := bT8.cell 6 rfl
      have kT7 := bT8.cell 7 rfl
      have kT8 := bT8.cell 8 rfl
      have kT9 := bT8.cell 9 rfl
      have lT := bT8.lt
      have kC0 := bC8.cell 0 rfl
      have kC1 := bC8.cell 1 rfl
      have lC := bC8.lt
      go_wp2_with fail
      clear kT0 kT1 kT2 kT3 kT4 kT5 kT6 kT7 kT8 kT9 lT kC0 kC1 lC
      have q0 : Below w8.heap.size w8.drew w8.drew := Below.refl _ _
      have KC : Hid (∀ V', Below w8.heap.size w8.drew V' → (V'.cell? ⟨w.heap.size, 0, none⟩ = some (.int .i64 full) ∧ V'.cell? ⟨w.heap.size, 1, none⟩ = some (.int .i64 read) ∧ V'.cell? ⟨w.heap.size, 2, none⟩ = some (.int .i64 slip) ∧ V'.cell? ⟨w.heap.size, 3, none⟩ = some (.int .i64 skew) ∧ V'.cell? ⟨w.heap.size, 4, none⟩ = some (.int .i64 circ) ∧ V'.cell? ⟨w.heap.size, 5, none⟩ = some (.int .i64 glo) ∧ V'.cell? ⟨w.heap.size, 6, none⟩ = some (.int .i64 ghi) ∧ V'.cell? ⟨w.heap.size, 7, none⟩ = some (.int .i64 wrn) ∧ V'.cell? ⟨w.heap.size, 8, none⟩ = some (.int .i64 gain) ∧ V'.cell? ⟨w.heap.size, 9, none⟩ = some (.slice A ts.length c) ∧ V'.cell? ⟨w.heap.size + 1, 0, none⟩ = some (.int .i64 sz) ∧ V'.cell? ⟨w.heap.size + 1, 1, none⟩ = some (.int .i64 mo))) := fun V' h =>
        have hk : ∀ (bb o : Nat) (u : Value), bb < w8.heap.size → w8.cell? ⟨bb, o, none⟩ = some u → V'.cell? ⟨bb, o, none⟩ = some u := fun bb o u h1 h2 => (h.cell (p := ⟨bb, o, none⟩) h1).trans h2
        ⟨hk _ _ _ bT8.lt (bT8.cell 0 rfl), hk _ _ _ bT8.lt (bT8.cell 1 rfl), hk _ _ _ bT8.lt (bT8.cell 2 rfl), hk _ _ _ bT8.lt (bT8.cell 3 rfl), hk _ _ _ bT8.lt (bT8.cell 4 rfl), hk _ _ _ bT8.lt (bT8.cell 5 rfl), hk _ _ _ bT8.lt (bT8.cell 6 rfl), hk _ _ _ bT8.lt (bT8.cell 7 rfl), hk _ _ _ bT8.lt (bT8.cell 8 rfl), hk _ _ _ bT8.lt (bT8.cell 9 rfl), hk _ _ _ bC8.lt (bC8.cell 0 rfl), hk _ _ _ bC8.lt (bC8.cell 1 rfl)⟩
      refine (wpIn_wide (n := 4)).1 ?_
      refine wpIn_mono (Q := noPanic _) ?_ noPanic_le
      refine wpIn_region_held (fun V' => Below w8.heap.size w8.drew V') 40 hmo ?_
      refine wpHeldIn_take (i := 0) (v := ?_) (plain_of (by kernel_rfl)) rfl (by kernel_rfl) (fun _ _ _ h => h) (yieldsSoIn_of (by kernel_rfl) ?_ (fun _ => rfl)) q0 ?_; rotate_left; focus (intro wq hw; have kq := KC.out wq hw; clear hw; go_simp; try (with_reducible rfl))
      refine wpHeldIn_take (i := 1) (v := ?_) (plain_of (by kernel_rfl)) rfl (by kernel_rfl) (fun _ _ _ h => h) (yieldsSoIn_of (by kernel_rfl) ?_ (fun _ => rfl)) q0 ?_; rotate_left; focus (intro wq hw; clear hw; go_simp; try (with_reducible rfl))
      refine wpHeldIn_take (i := 3) (v := ?_) (plain_of (by kernel_rfl)) rfl (by kernel_rfl) (fun _ _ _ h => h) (yieldsSoIn_of (by kernel_rfl) ?_ (fun _ => rfl)) q0 ?_; rotate_left; focus (intro wq hw; have kq := KC.out wq hw; clear hw; go_simp; try (with_reducible rfl))
      refine wpHeldIn_one (i := 2) (by kernel_rfl) (by kernel_rfl) rfl (by kernel_rfl) (fun K1 hK1 => ?_)
      go_simp
      refine ⟨trivial, (callsIn_wide.2 (HSD.out AD cD _ hB8.drew ((HVD8.out.keep (Below.refl _ _).drew)))).mono ?_⟩
      rintro e wa ⟨A1, c1, rfl, hg1, ha⟩
      have q1 : Below w8.heap.size w8.drew wa := ha
      refine hK1 _ _ q1 ?_
      refine wpHeldIn_one (i := 4) (by kernel_rfl) (by kernel_rfl) rfl (by kernel_rfl) (fun K2 hK2 => ?_)
      go_simp
      refine ⟨trivial, (callsIn_wide.2 (HCD.out A1 c1 wa hg1.out)).mono ?_⟩
      rintro e w9 ⟨rfl, hb2⟩
      have q2 : Below w8.heap.size w8.drew w9 := q1.trans (hb2.mono q1.size)
      refine hK2 _ _ q2 ?_
      refine wpHeldIn_take (i := 5) (v := ?_) (plain_of (by kernel_rfl)) rfl (by kernel_rfl) (fun _ _ _ h => h) (yieldsSoIn_of (by kernel_rfl) ?_ (fun _ => rfl)) q2 ?_; rotate_left; focus (intro wq hw; clear hw; go_simp; try (with_reducible rfl))
      refine wpHeldIn_take (i := 6) (v := ?_) (plain_of (by kernel_rfl)) rfl (by kernel_rfl) (fun _ _ _ h => h) (yieldsSoIn_of (by kernel_rfl) ?_ (fun _ => rfl)) q2 ?_; rotate_left; focus (intro wq hw; clear hw; go_simp; try (with_reducible rfl))
      refine wpHeldIn_take (i := 7) (v := ?_) (plain_of (by kernel_rfl)) rfl (by kernel_rfl) (fun _ _ _ h => h) (yieldsSoIn_of (by kernel_rfl) ?_ (fun _ => rfl)) q2 ?_; rotate_left; focus (intro wq hw; clear hw; go_simp; try (with_reducible rfl))
      refine wpHeldIn_take (i := 8) (v := ?_) (plain_of (by kernel_rfl)) rfl (by kernel_rfl) (fun _ _ _ h => h) (yieldsSoIn_of (by kernel_rfl) ?_ (fun _ => rfl)) q2 ?_; rotate_left; focus (intro wq hw; clear hw; go_simp; try (with_reducible rfl))
      refine wpHeldIn_take (i := 9) (v := ?_) (plain_of (by kernel_rfl)) rfl (by kernel_rfl) (fun _ _ _ h => h) (yieldsSoIn_of (by kernel_rfl) ?_ (fun _ => rfl)) q2 ?_; rotate_left; focus (intro wq hw; clear hw; go_simp; try (with_reducible rfl))
      refine wpHeldIn_done (by kernel_rfl) ?_ _
      go_simp
      refine noPanic_of ?_
      have hb9 : Below w8.heap.size w8 w9 := (Below.refl _ _).drew.trans q2
      have bT9 := bT8.below hb9
      have bC9 := bC8.below hb9
      have hB9 := hB8.trans (hb9.mono hB8.size)
      have HVD9 := Lib.hid ((HVD8.out.keep hb9).more hb9.size)
      have HVN9 := Lib.hid ((HVN8.out.keep hb9).more hb9.size)
      clear bT8 bC8 hB8
      clear q0 KC q1 q2 ha hb2 hg1
      clear HVD8 HVN8
      have kT0 := bT9.cell 0 rfl
      have kT1 := bT9.cell 1 rfl
      have kT2 := bT9.cell 2 rfl
      have kT3 := bT9.cell 3 rfl
      have kT4 := bT9.cell 4 rfl
      have kT5 := bT9.cell 5 rfl
      have kT6 := bT9.cell 6 rfl
      have kT7 := bT9.cell 7 rfl
      have kT8 := bT9.cell 8 rfl
      have kT9 := bT9.cell 9 rfl
      have lT := bT9.lt
      have kC0 := bC9.cell 0 rfl
      have kC1 := bC9.cell 1 rfl
      have lC := bC9.lt
      go_wp2_with fail
      clear kT0 kT1 kT2 kT3 kT4 kT5 kT6 kT7 kT8 kT9 lT kC0 kC1 lC
      refine (HID.out AD cD _ hB9 HVD9.out).mono ?_
      rintro e w10 ⟨rfl, hb10⟩
      have bT10 := bT9.below hb10
      have bC10 := bC9.below hb10
      have hB10 := hB9.trans (hb10.mono hB9.size)
      clear bT9 bC9 hB9
      have HVD10 := Lib.hid ((HVD9.out.keep hb10).more hb10.size)
      have HVN10 := Lib.hid ((HVN9.out.keep hb10).more hb10.size)
      clear HVD9 HVN9
      have kT0 := bT10.cell 0 rfl
      have kT1 := bT10.cell 1 rfl
      have kT2 := bT10.cell 2 rfl
      have kT3 := bT10.cell 3 rfl
      have kT4 := bT10.cell 4 rfl
      have kT5 := bT10.cell 5 rfl
      have kT6 := bT10.cell 6 rfl
      have kT7 := bT10.cell 7 rfl
      have kT8 := bT10.cell 8 rfl
      have kT9 := bT10.cell 9 rfl
      have lT := bT10.lt
      have kC0 := bC10.cell 0 rfl
      have kC1 := bC10.cell 1 rfl
      have lC := bC10.lt
      go_wp2_with fail
      clear kT0 kT1 kT2 kT3 kT4 kT5 kT6 kT7 kT8 kT9 lT kC0 kC1 lC
      refine (HSU.out _ _ _ HVN10.out HVD10.out).mono ?_
      rintro e wq ⟨rfl, hq⟩
      have hq := hq.symm
      subst hq
      have kT0 := bT10.cell 0 rfl
      have kT1 := bT10.cell 1 rfl
      have kT2 := bT10.cell 2 rfl
      have kT3 := bT10.cell 3 rfl
      have kT4 := bT10.cell 4 rfl
      have kT5 := bT10.cell 5 rfl
      have kT6 := bT10.cell 6 rfl
      have kT7 := bT10.cell 7 rfl
      have kT8 := bT10.cell 8 rfl
      have kT9 := bT10.cell 9 rfl
      have lT := bT10.lt
      have kC0 := bC10.cell 0 rfl
      have kC1 := bC10.cell 1 rfl
      have lC := bC10.lt
      go_wp2_with fail
      clear kT0 kT1 kT2 kT3 kT4 kT5 kT6 kT7 kT8 kT9 lT kC0 kC1 lC
      clear HVD10 HVN10
      have q0 : Below w10.heap.size w10.drew w10.drew := Below.refl _ _
      have KC : Hid (∀ V', Below w10.heap.size w10.drew V' → (V'.cell? ⟨w.heap.size, 0, none⟩ = some (.int .i64 full) ∧ V'.cell? ⟨w.heap.size, 1, none⟩ = some (.int .i64 read) ∧ V'.cell? ⟨w.heap.size, 2, none⟩ = some (.int .i64 slip) ∧ V'.cell? ⟨w.heap.size, 3, none⟩ = some (.int .i64 skew) ∧ V'.cell? ⟨w.heap.size, 4, none⟩ = some (.int .i64 circ) ∧ V'.cell? ⟨w.heap.size, 5, none⟩ = some (.int .i64 glo) ∧ V'.cell? ⟨w.heap.size, 6, none⟩ = some (.int .i64 ghi) ∧ V'.cell? ⟨w.heap.size, 7, none⟩ = some (.int .i64 wrn) ∧ V'.cell? ⟨w.heap.size, 8, none⟩ = some (.int .i64 gain) ∧ V'.cell? ⟨w.heap.size, 9, none⟩ = some (.slice A ts.length c) ∧ V'.cell? ⟨w.heap.size + 1, 0, none⟩ = some (.int .i64 sz) ∧ V'.cell? ⟨w.heap.size + 1, 1, none⟩ = some (.int .i64 mo))) := fun V' h =>
        have hk : ∀ (bb o : Nat) (u : Value), bb < w10.heap.size → w10.cell? ⟨bb, o, none⟩ = some u → V'.cell? ⟨bb, o, none⟩ = some u := fun bb o u h1 h2 => (h.cell (p := ⟨bb, o, none⟩) h1).trans h2
        ⟨hk _ _ _ bT10.lt (bT10.cell 0 rfl), hk _ _ _ bT10.lt (bT10.cell 1 rfl), hk _ _ _ bT10.lt (bT10.cell 2 rfl), hk _ _ _ bT10.lt (bT10.cell 3 rfl), hk _ _ _ bT10.lt (bT10.cell 4 rfl), hk _ _ _ bT10.lt (bT10.cell 5 rfl), hk _ _ _ bT10.lt (bT10.cell 6 rfl), hk _ _ _ bT10.lt (bT10.cell 7 rfl), hk _ _ _ bT10.lt (bT10.cell 8 rfl), hk _ _ _ bT10.lt (bT10.cell 9 rfl), hk _ _ _ bC10.lt (bC10.cell 0 rfl), hk _ _ _ bC10.lt (bC10.cell 1 rfl)⟩
      refine (wpIn_wide (n := 4)).1 ?_
      refine wpIn_mono (Q := noPanic _) ?_ noPanic_le
      refine wpIn_region_held (fun V' => Below w10.heap.size w10.drew V') 40 hmo ?_
      refine wpHeldIn_take (i := 0) (v := ?_) (plain_of (by kernel_rfl)) rfl (by kernel_rfl) (fun _ _ _ h => h) (yieldsSoIn_of (by kernel_rfl) ?_ (fun _ => rfl)) q0 ?_; rotate_left; focus (intro wq hw; have kq := KC.out wq hw; clear hw; go_simp; try (with_reducible rfl))
      refine wpHeldIn_take (i := 1) (v := ?_) (plain_of (by kernel_rfl)) rfl (by kernel_rfl) (fun _ _ _ h => h) (yieldsSoIn_of (by kernel_rfl) ?_ (fun _ => rfl)) q0 ?_; rotate_left; focus (intro wq hw; clear hw; go_simp; try (with_reducible rfl))
      refine wpHeldIn_take (i := 3) (v := ?_) (plain_of (by kernel_rfl)) rfl (by kernel_rfl) (fun _ _ _ h => h) (yieldsSoIn_of (by kernel_rfl) ?_ (fun _ => rfl)) q0 ?_; rotate_left; focus (intro wq hw; have kq := KC.out wq hw; clear hw; go_simp; try (with_reducible rfl))
      refine wpHeldIn_one (i := 2) (by kernel_rfl) (by kernel_rfl) rfl (by kernel_rfl) (fun K1 hK1 => ?_)
      go_simp
      refine ⟨trivial, (callsIn_wide.2 (HSO.out _ hB10.drew)).mono ?_⟩
      rintro e wa ⟨A1, c1, rfl, hg1, ha⟩
      have q1 : Below w10.heap.size w10.drew wa := ha
      refine hK1 _ _ q1 ?_
      refine wpHeldIn_one (i := 4) (by kernel_rfl) (by kernel_rfl) rfl (by kernel_rfl) (fun K2 hK2 => ?_)
      go_simp
      refine ⟨trivial, (callsIn_wide.2 (HCL.out A1 c1 wa hg1.out)).mono ?_⟩
      rintro e w11 ⟨rfl, hb2⟩
      have q2 : Below w10.heap.size w10.drew w11 := q1.trans (hb2.mono q1.size)
      refine hK2 _ _ q2 ?_
      refine wpHeldIn_take (i := 5) (v := ?_) (plain_of (by kernel_rfl)) rfl (by kernel_rfl) (fun _ _ _ h => h) (yieldsSoIn_of (by kernel_rfl) ?_ (fun _ => rfl)) q2 ?_; rotate_left; focus (intro wq hw; clear hw; go_simp; try (with_reducible rfl))
      refine wpHeldIn_take (i := 6) (v := ?_) (plain_of (by kernel_rfl)) rfl (by kernel_rfl) (fun _ _ _ h => h) (yieldsSoIn_of (by kernel_rfl) ?_ (fun _ => rfl)) q2 ?_; rotate_left; focus (intro wq hw; clear hw; go_simp; try (with_reducible rfl))
      refine wpHeldIn_take (i := 7) (v := ?_) (plain_of (by kernel_rfl)) rfl (by kernel_rfl) (fun _ _ _ h => h) (yieldsSoIn_of (by kernel_rfl) ?_ (fun _ => rfl)) q2 ?_; rotate_left; focus (intro wq hw; clear hw; go_simp; try (with_reducible rfl))
      refine wpHeldIn_take (i := 8) (v := ?_) (plain_of (by kernel_rfl)) rfl (by kernel_rfl) (fun _ _ _ h => h) (yieldsSoIn_of (by kernel_rfl) ?_ (fun _ => rfl)) q2 ?_; rotate_left; focus (intro wq hw; clear hw; go_simp; try (with_reducible rfl))
      refine wpHeldIn_take (i := 9) (v := ?_) (plain_of (by kernel_rfl)) rfl (by kernel_rfl) (fun _ _ _ h => h) (yieldsSoIn_of (by kernel_rfl) ?_ (fun _ => rfl)) q2 ?_; rotate_left; focus (intro wq hw; clear hw; go_simp; try (with_reducible rfl))
      refine wpHeldIn_done (by kernel_rfl) ?_ _
      go_simp
      refine noPanic_of ?_
      have hb11 : Below w10.heap.size w10 w11 := (Below.refl _ _).drew.trans q2
      have bT11 := bT10.below hb11
      have bC11 := bC10.below hb11
      have hB11 := hB10.trans (hb11.mono hB10.size)
      clear bT10 bC10 hB10
      clear q0 KC q1 q2 ha hb2 hg1
      rcases HMM.out with hM | ⟨hM, hge⟩
      · subst hM
        have kT0 := bT11.cell 0 rfl
        have kT1 := bT11.cell 1 rfl
        have kT2 := bT11.cell 2 rfl
        have kT3 := bT11.cell 3 rfl
        have kT4 := bT11.cell 4 rfl
        have kT5 := bT11.cell 5 rfl
        have kT6 := bT11.cell 6 rfl
        have kT7 := bT11.cell 7 rfl
        have kT8 := bT11.cell 8 rfl
        have kT9 := bT11.cell 9 rfl
        have lT := bT11.lt
        have kC0 := bC11.cell 0 rfl
        have kC1 := bC11.cell 1 rfl
        have lC := bC11.lt
        go_wp2_with fail
        clear kT0 kT1 kT2 kT3 kT4 kT5 kT6 kT7 kT8 kT9 lT kC0 kC1 lC
        refine (HWK.out _).mono ?_
        rintro e w12 ⟨rfl, hb12⟩
        have bT12 := bT11.below hb12
        have bC12 := bC11.below hb12
        have hB12 := hB11.trans (hb12.mono hB11.size)
        clear bT11 bC11 hB11
        go_wp2_with fail
        go_returns
        exact ⟨rfl, hB12⟩
      · subst hM
        have hNe : (M == 3) = false := by simpa using hNb
        have hge1 : DV.length ≤ l.length := by omega
        clear hge
        have kT0 := bT11.cell 0 rfl
        have kT1 := bT11.cell 1 rfl
        have kT2 := bT11.cell 2 rfl
        have kT3 := bT11.cell 3 rfl
        have kT4 := bT11.cell 4 rfl
        have kT5 := bT11.cell 5 rfl
        have kT6 := bT11.cell 6 rfl
        have kT7 := bT11.cell 7 rfl
        have kT8 := bT11.cell 8 rfl
        have kT9 := bT11.cell 9 rfl
        have lT := bT11.lt
        have kC0 := bC11.cell 0 rfl
        have kC1 := bC11.cell 1 rfl
        have lC := bC11.lt
        go_wp2_with fail
        clear kT0 kT1 kT2 kT3 kT4 kT5 kT6 kT7 kT8 kT9 lT kC0 kC1 lC
        refine (HWK.out _).mono ?_
        rintro e w12 ⟨rfl, hb12⟩
        have bT12 := bT11.below hb12
        have bC12 := bC11.below hb12
        have hB12 := hB11.trans (hb12.mono hB11.size)
        clear bT11 bC11 hB11
        go_wp2_with fail
        go_returns
        exact ⟨rfl, hB12⟩
  · have hSE : Ti.smE t sz mo 3 = 3 := by unfold Ti.smE; rw [if_neg (by decide)]
    rw [hE, hSE] at HFW HDC HND
    rw [hE] at HCE
    have HKS := Lib.hid (HKN.out 3)
    rw [decide_eq_true (show (3 : Int) = 0 ∨ (3 : Int) = 3 from .inr rfl)] at HKS
    have HKE := HKS
    generalize Ti.decV t sz mo = DV at *
    generalize Ti.ndV t sz mo = NV at *
    generalize Ti.fewV t sz mo = FW at *
    generalize Ti.certV t sz mo 3 = N at *
    clear hg hr hx hck hil hcb hE hSE HKN
    obtain ⟨d, gain, ts⟩ := t
    obtain ⟨full, read, slip, skew, circ, glo, ghi, wrn, dws⟩ := d
    unfold tiV at *
    dsimp only at *
    go_enter Try.func5, Try.ntmps5
    go_wp2_with fail
    have bT1 := ((BoxS.new w 28 #[.int .i64 full, .int .i64 read, .int .i64 slip, .int .i64 skew, .int .i64 circ, .int .i64 glo, .int .i64 ghi, .int .i64 wrn, .int .i64 gain, .slice A ts.length c]).alloc (.cells #[.int .i64 sz, .int .i64 mo] 35))
    have bC1 := (BoxS.new (World.alloc w (.cells #[.int .i64 full, .int .i64 read, .int .i64 slip, .int .i64 skew, .int .i64 circ, .int .i64 glo, .int .i64 ghi, .int .i64 wrn, .int .i64 gain, .slice A ts.length c] 28)) 35 #[.int .i64 sz, .int .i64 mo])
    have hB1 : Below w.heap.size w (World.alloc (World.alloc w (.cells #[.int .i64 full, .int .i64 read, .int .i64 slip, .int .i64 skew, .int .i64 circ, .int .i64 glo, .int .i64 ghi, .int .i64 wrn, .int .i64 gain, .slice A ts.length c] 28)) (.cells #[.int .i64 sz, .int .i64 mo] 35)) := by (repeat' (first | (with_reducible exact Below.refl _ _) | (with_reducible assumption) | (with_reducible refine Below.alloc ?_ ?_ _) | (with_reducible refine Below.drew ?_) | (with_reducible refine Below.setCell ?_ ?_ _) | go_size | (exact (by simp)) | omega))
    simp only [World.size_alloc] at bC1
    generalize World.alloc (World.alloc w _) _ = w1 at *
    refine (HRD.out _ hB1).mono ?_
    rintro e w2 ⟨rfl, hb2⟩
    have bT2 := bT1.below hb2
    have bC2 := bC1.below hb2
    have hB2 := hB1.trans (hb2.mono hB1.size)
    clear bT1 bC1 hB1
    have kT0 := bT2.cell 0 rfl
    have kT1 := bT2.cell 1 rfl
    have kT2 := bT2.cell 2 rfl
    have kT3 := bT2.cell 3 rfl
    have kT4 := bT2.cell 4 rfl
    have kT5 := bT2.cell 5 rfl
    have kT6 := bT2.cell 6 rfl
    have kT7 := bT2.cell 7 rfl
    have kT8 := bT2.cell 8 rfl
    have kT9 := bT2.cell 9 rfl
    have lT := bT2.lt
    have kC0 := bC2.cell 0 rfl
    have kC1 := bC2.cell 1 rfl
    have lC := bC2.lt
    go_wp2_with fail
    clear kT0 kT1 kT2 kT3 kT4 kT5 kT6 kT7 kT8 kT9 lT kC0 kC1 lC
    refine (HIS.out _ hB2).mono ?_
    rintro e w3 ⟨rfl, hb3⟩
    have bT3 := bT2.below hb3
    have bC3 := bC2.below hb3
    have hB3 := hB2.trans (hb3.mono hB2.size)
    clear bT2 bC2 hB2
    have kT0 := bT3.cell 0 rfl
    have kT1 := bT3.cell 1 rfl
    have kT2 := bT3.cell 2 rfl
    have kT3 := bT3.cell 3 rfl
    have kT4 := bT3.cell 4 rfl
    have kT5 := bT3.cell 5 rfl
    have kT6 := bT3.cell 6 rfl
    have kT7 := bT3.cell 7 rfl
    have kT8 := bT3.cell 8 rfl
    have kT9 := bT3.cell 9 rfl
    have lT := bT3.lt
    have kC0 := bC3.cell 0 rfl
    have kC1 := bC3.cell 1 rfl
    have lC := bC3.lt
    go_wp2_with fail
    clear kT0 kT1 kT2 kT3 kT4 kT5 kT6 kT7 kT8 kT9 lT kC0 kC1 lC
    refine (HIC.out _).mono ?_
    rintro e w4 ⟨rfl, hb4⟩
    have bT4 := bT3.below hb4
    have bC4 := bC3.below hb4
    have hB4 := hB3.trans (hb4.mono hB3.size)
    clear bT3 bC3 hB3
    have kT0 := bT4.cell 0 rfl
    have kT1 := bT4.cell 1 rfl
    have kT2 := bT4.cell 2 rfl
    have kT3 := bT4.cell 3 rfl
    have kT4 := bT4.cell 4 rfl
    have kT5 := bT4.cell 5 rfl
    have kT6 := bT4.cell 6 rfl
    have kT7 := bT4.cell 7 rfl
    have kT8 := bT4.cell 8 rfl
    have kT9 := bT4.cell 9 rfl
    have lT := bT4.lt
    have kC0 := bC4.cell 0 rfl
    have kC1 := bC4.cell 1 rfl
    have lC := bC4.lt
    go_wp2_with fail
    clear kT0 kT1 kT2 kT3 kT4 kT5 kT6 kT7 kT8 kT9 lT kC0 kC1 lC
    refine (HFW.out _ hB4).mono ?_
    rintro e w5 ⟨rfl, hb5⟩
    have bT5 := bT4.below hb5
    have bC5 := bC4.below hb5
    have hB5 := hB4.trans (hb5.mono hB4.size)
    clear bT4 bC4 hB4
    have kT0 := bT5.cell 0 rfl
    have kT1 := bT5.cell 1 rfl
    have kT2 := bT5.cell 2 rfl
    have kT3 := bT5.cell 3 rfl
    have kT4 := bT5.cell 4 rfl
    have kT5 := bT5.cell 5 rfl
    have kT6 := bT5.cell 6 rfl
    have kT7 := bT5.cell 7 rfl
    have kT8 := bT5.cell 8 rfl
    have kT9 := bT5.cell 9 rfl
    have lT := bT5.lt
    have kC0 := bC5.cell 0 rfl
    have kC1 := bC5.cell 1 rfl
    have lC := bC5.lt
    go_wp2_with fail
    clear kT0 kT1 kT2 kT3 kT4 kT5 kT6 kT7 kT8 kT9 lT kC0 kC1 lC
    refine (HDC.out _ hB5).mono ?_
    rintro e w6 ⟨vd, rfl, hvd, hb6⟩
    have bT6 := bT5.below hb6
    have bC6 := bC5.below hb6
    have hB6 := hB5.trans (hb6.mono hB5.size)
    clear bT5 bC5 hB5
    have HVD6 := Lib.hid hvd.out
    clear hvd
    obtain ⟨AD, cD, rfl⟩ := ints_form HVD6.out
    have kT0 := bT6.cell 0 rfl
    have kT1 := bT6.cell 1 rfl
    have kT2 := bT6.cell 2 rfl
    have kT3 := bT6.cell 3 rfl
    have kT4 := bT6.cell 4 rfl
    have kT5 := bT6.cell 5 rfl
    have kT6 := bT6.cell 6 rfl
    have kT7 := bT6.cell 7 rfl
    have kT8 := bT6.cell 8 rfl
    have kT9 := bT6.cell 9 rfl
    have lT := bT6.lt
    have kC0 := bC6.cell 0 rfl
    have kC1 := bC6.cell 1 rfl
    have lC := bC6.lt
    go_wp2_with fail
    clear kT0 kT1 kT2 kT3 kT4 kT5 kT6 kT7 kT8 kT9 lT kC0 kC1 lC
    refine (HND.out _ hB6).mono ?_
    rintro e w7 ⟨vn, rfl, hvn, hb7⟩
    have bT7 := bT6.below hb7
    have bC7 := bC6.below hb7
    have hB7 := hB6.trans (hb7.mono hB6.size)
    clear bT6 bC6 hB6
    have HVD7 := Lib.hid ((HVD6.out.keep hb7).more hb7.size)
    have HVN7 := Lib.hid hvn.out
    clear hvn HVD6
    obtain ⟨AN, cN, rfl⟩ := ints_form HVN7.out
    have kT0 := bT7.cell 0 rfl
    have kT1 := bT7.cell 1 rfl
    have kT2 := bT7.cell 2 rfl
    have kT3 := bT7.cell 3 rfl
    have kT4 := bT7.cell 4 rfl
    have kT5 := bT7.cell 5 rfl
    have kT6 := bT7.cell 6 rfl
    have kT7 := bT7.cell 7 rfl
    have kT8 := bT7.cell 8 rfl
    have kT9 := bT7.cell 9 rfl
    have lT := bT7.lt
    have kC0 := bC7.cell 0 rfl
    have kC1 := bC7.cell 1 rfl
    have lC := bC7.lt
    go_wp2_with fail
    clear kT0 kT1 kT2 kT3 kT4 kT5 kT6 kT7 kT8 kT9 lT kC0 kC1 lC
    refine (HCE.out _ hB7).mono ?_
    rintro e w8 ⟨rfl, hb8⟩
    have bT8 := bT7.below hb8
    have bC8 := bC7.below hb8
    have hB8 := hB7.trans (hb8.mono hB7.size)
    clear bT7 bC7 hB7
    have HVD8 := Lib.hid ((HVD7.out.keep hb8).more hb8.size)
    have HVN8 := Lib.hid ((HVN7.out.keep hb8).more hb8.size)
    clear HVD7 HVN7
    have kT0 := bT8.cell 0 rfl
    have kT1 := bT8.cell 1 rfl
    have kT2 := bT8.cell 2 rfl
    have kT3 := bT8.cell 3 rfl
    have kT4 := bT8.cell 4 rfl
    have kT5 := bT8.cell 5 rfl
    have kT6 := bT8.cell 6 rfl
    have kT7 := bT8.cell 7 rfl
    have kT8 := bT8.cell 8 rfl
    have kT9 := bT8.cell 9 rfl
    have lT := bT8.lt
    have kC0 := bC8.cell 0 rfl
    have kC1 := bC8.cell 1 rfl
    have lC := bC8.lt
    go_wp2_with fail
    clear kT0 kT1 kT2 kT3 kT4 kT5 kT6 kT7 kT8 kT9 lT kC0 kC1 lC
    refine (HKS.out _).mono ?_
    rintro e wq ⟨rfl, hq⟩
    have hq := hq.symm
    subst hq
    have kT0 := bT8.cell 0 rfl
    have kT1 := bT8.cell 1 rfl
    have kT2 := bT8.cell 2 rfl
    have kT3 := bT8.cell 3 rfl
    have kT4 := bT8.cell 4 rfl
    have kT5 := bT8.cell 5 rfl
    have kT6 := bT8.cell 6 rfl
    have kT7 := bT8.cell 7 rfl
    have kT8 := bT8.cell 8 rfl
    have kT9 := bT8.cell 9 rfl
    have lT := bT8.lt
    have kC0 := bC8.cell 0 rfl
    have kC1 := bC8.cell 1 rfl
    have lC := bC8.lt
    go_wp2_with fail
    clear kT0 kT1 kT2 kT3 kT4 kT5 kT6 kT7 kT8 kT9 lT kC0 kC1 lC
    refine (HKE.out _).mono ?_
    rintro e wq ⟨rfl, hq⟩
    have hq := hq.symm
    subst hq
    have kT0 := bT8.cell 0 rfl
    have kT1 := bT8.cell 1 rfl
    have kT2 := bT8.cell 2 rfl
    have kT3 := bT8.cell 3 rfl
    have kT4 := bT8.cell 4 rfl
    have kT5 := bT8.cell 5 rfl
    have kT6 := bT8.cell 6 rfl
    have kT7 := bT8.cell 7 rfl
    have kT8 := bT8.cell 8 rfl
    have kT9 := bT8.cell 9 rfl
    have lT := bT8.lt
    have kC0 := bC8.cell 0 rfl
    have kC1 := bC8.cell 1 rfl
    have lC := bC8.lt
    go_wp2_with fail
    clear kT0 kT1 kT2 kT3 kT4 kT5 kT6 kT7 kT8 kT9 lT kC0 kC1 lC
    refine (HWK.out _).mono ?_
    rintro e w9 ⟨rfl, hb9⟩
    have bT9 := bT8.below hb9
    have bC9 := bC8.below hb9
    have hB9 := hB8.trans (hb9.mono hB8.size)
    clear bT8 bC8 hB8
    go_wp2_with fail
    go_returns
    exact ⟨rfl, hB9⟩
end Go.Proofs.Ytkmacpkjobdffaa
namespace Go.Proofs.Ytkmacpkjobdffaa
open Go.RowKit
set_option maxRecDepth 100000 in
set_option maxHeartbeats 4000000 in
theorem lawTrialsProof_long (t : Ti.Tri) (A : Option Addr) (c : Nat) (AL : Option Addr) (cl : Nat) (l : List Int) (sz mo : Int) (w : World) (hll : 20 < t.ts.length ∨ Ti.longTo t.ts t.ts.length = true) (hg : Tsts0 w w.heap.size A t.ts) :
    Calls Try.prog 5 #[.agg (tiV t A c), .slice AL l.length cl, .agg #[.int .i64 sz, .int .i64 mo]] w fun e w' => e = .returned (.bool true) ∧ Below w.heap.size w w' := by
  have HWK : Hid (∀ W, Calls Try.prog 10 #[] W fun e w' => e = .returned (.bool true) ∧ Below W.heap.size W w') := works9_any
  have HRD : Hid (∀ W, Below w.heap.size w W → Calls Try.prog 8 #[.agg (tiV t A c)] W fun e w' => e = .returned (.bool false) ∧ Below W.heap.size W w') := fun W hW => ready9_long t A c W hll (hg.below hW)
  clear hg hll
  obtain ⟨d, gain, ts⟩ := t
  obtain ⟨full, read, slip, skew, circ, glo, ghi, wrn, dws⟩ := d
  unfold tiV at *
  dsimp only at *
  go_enter Try.func5, Try.ntmps5
  go_wp2_with fail
  have bT1 := ((BoxS.new w 28 #[.int .i64 full, .int .i64 read, .int .i64 slip, .int .i64 skew, .int .i64 circ, .int .i64 glo, .int .i64 ghi, .int .i64 wrn, .int .i64 gain, .slice A ts.length c]).alloc (.cells #[.int .i64 sz, .int .i64 mo] 35))
  have bC1 := (BoxS.new (World.alloc w (.cells #[.int .i64 full, .int .i64 read, .int .i64 slip, .int .i64 skew, .int .i64 circ, .int .i64 glo, .int .i64 ghi, .int .i64 wrn, .int .i64 gain, .slice A ts.length c] 28)) 35 #[.int .i64 sz, .int .i64 mo])
  have hB1 : Below w.heap.size w (World.alloc (World.alloc w (.cells #[.int .i64 full, .int .i64 read, .int .i64 slip, .int .i64 skew, .int .i64 circ, .int .i64 glo, .int .i64 ghi, .int .i64 wrn, .int .i64 gain, .slice A ts.length c] 28)) (.cells #[.int .i64 sz, .int .i64 mo] 35)) := by (repeat' (first | (with_reducible exact Below.refl _ _) | (with_reducible assumption) | (with_reducible refine Below.alloc ?_ ?_ _) | (with_reducible refine Below.drew ?_) | (with_reducible refine Below.setCell ?_ ?_ _) | go_size | (exact (by simp)) | omega))
  simp only [World.size_alloc] at bC1
  generalize World.alloc (World.alloc w _) _ = w1 at *
  refine (HRD.out _ hB1).mono ?_
  rintro e w2 ⟨rfl, hb2⟩
  have bT2 := bT1.below hb2
  have bC2 := bC1.below hb2
  have hB2 := hB1.trans (hb2.mono hB1.size)
  clear bT1 bC1 hB1
  have kT0 := bT2.cell 0 rfl
  have kT1 := bT2.cell 1 rfl
  have kT2 := bT2.cell 2 rfl
  have kT3 := bT2.cell 3 rfl
  have kT4 := bT2.cell 4 rfl
  have kT5 := bT2.cell 5 rfl
  have kT6 := bT2.cell 6 rfl
  have kT7 := bT2.cell 7 rfl
  have kT8 := bT2.cell 8 rfl
  have kT9 := bT2.cell 9 rfl
  have lT := bT2.lt
  have kC0 := bC2.cell 0 rfl
  have kC1 := bC2.cell 1 rfl
  have lC := bC2.lt
  go_wp2_with fail
  clear kT0 kT1 kT2 kT3 kT4 kT5 kT6 kT7 kT8 kT9 lT kC0 kC1 lC
  refine (HWK.out _).mono ?_
  rintro e w3 ⟨rfl, hb3⟩
  have bT3 := bT2.below hb3
  have bC3 := bC2.below hb3
  have hB3 := hB2.trans (hb3.mono hB2.size)
  clear bT2 bC2 hB2
  go_wp2_with fail
  go_returns
  exact ⟨rfl, hB3⟩
theorem lawTrialsProof_all (t : Ti.Tri) (A : Option Addr) (c : Nat) (AL : Option Addr) (cl : Nat) (l : List Int) (sz mo : Int) (w : World) (_ : t.ts.length ≤ maxLen) (hg : Tsts0 w w.heap.size A t.ts) (hl1 : l.length ≤ maxLen) (hx : 0 < l.length → Ints w w.heap.size (.slice AL l.length cl) l) :
    Calls Try.prog 5 #[.agg (tiV t A c), .slice AL l.length cl, .agg #[.int .i64 sz, .int .i64 mo]] w fun e w' => e = .returned (.bool true) ∧ Below w.heap.size w w' := by
  by_cases hll : 20 < t.ts.length ∨ Ti.longTo t.ts t.ts.length = true
  · exact lawTrialsProof_long t A c AL cl l sz mo w hll hg
  · have h1 : ¬ 20 < t.ts.length := fun h => hll (.inl h)
    have h2 : Ti.longTo t.ts t.ts.length = false := by simpa using fun h => hll (.inr h)
    exact lawProof_walk t A c AL cl l sz mo w (by omega) (fun h => hx (by cases l with | nil => exact absurd rfl h | cons a b => simp)) (hg.short h2)
open Go.ChangeShapes Go.WideShapes Go.ChangeAt Go.RowKit Go.Joins Go.Deep
section
variable {H : Type} {enc : TypeId × Value → H} {w : World} {base : Nat} {spare : Nat → Bool} {held : Bool} {r : Reach} {b0 : Nat} {v : Value} {d : DataW H} {p : List MemPlace}
set_option maxRecDepth 100000 in
theorem trod_ints5 {n : Nat} {c0 : Value} {x : DataW H × List MemPlace} (h : DataW.trod enc Try.prog w base spare held n 47 [c0] = some x) :
    ∃ (A : Option Addr) (c : Nat) (cs : List Int), c0 = .slice A cs.length c ∧ (0 < cs.length → Ints w w.heap.size (.slice A cs.length c) cs) ∧ cs.length ≤ maxLen := by
  rcases open_slice Try.underlying47 h with ⟨e, _⟩ | ⟨a, len, cap, m, n, D, Pl, e, hb, hl, hm, hmm, _, hx⟩
  · obtain rfl : c0 = .slice none 0 0 := by simpa using e
    exact ⟨none, 0, [], rfl, fun _ => .inl ⟨rfl, rfl⟩, by simp⟩
  · obtain rfl : c0 = .slice (some a) len cap := by simpa using e
    have hlm : len ≤ m := by rw [hmm]; split <;> omega
    have each : ∀ i, i < m → ∃ q : Int, w.cell? (a.add i) = some (.int .i64 q) := by
      intro i hi
      obtain ⟨cs', h1, h2⟩ := hx i hi
      rw [cells_int4] at h1
      obtain ⟨_, hlen, hcell⟩ := World.cells?_some h1
      match cs', hlen with
      | [v0], _ =>
        obtain ⟨a0, e0', _, _⟩ := DataW.trod_int Try.underlying3 h2
        obtain rfl : v0 = .int .i64 a0 := by simpa using e0'
        have e0 := hcell 0 (by omega)
        rw [Go.Deep.add_add] at e0
        exact ⟨a0, by simpa using e0⟩
    obtain ⟨q, hq⟩ := choose_lt each
    refine ⟨some a, cap, (List.range len).map q, by simp, fun hn => ?_, by simp; omega⟩
    have hn' : 0 < len := by simpa using hn
    have hc0 := hq 0 (by omega)
    have hs := World.cell?_spot hc0
    have hlt := cell_lt hc0
    obtain ⟨b, off, spot⟩ := a
    have hs' : spot = none := by simpa [Addr.add] using hs
    subst hs'
    refine .inr ⟨b, off, cap, by simp, by simpa [addr_add] using hlt, fun k g hk => ?_⟩
    have hkl : k < len := by have := (List.getElem?_eq_some_iff.1 hk).1; simpa using this
    rw [List.getElem?_map, List.getElem?_range hkl] at hk
    obtain rfl : q k = g := by simpa using hk
    have x0 := hq k (by omega)
    rw [addr_add] at x0
    exact x0
set_option maxRecDepth 100000 in
theorem open_Ints5 (hv : Value.okWide Try.prog w r b0 47 v) (h : DataW.Trod enc Try.prog w base spare held 47 v d p) :
    ∃ (A : Option Addr) (c : Nat) (cs : List Int), v = .slice A cs.length c ∧ (0 < cs.length → Ints w w.heap.size (.slice A cs.length c) cs) ∧ cs.length ≤ maxLen := by
  obtain ⟨A, len, cap, rfl⟩ := okWide_slice Try.underlying47 hv
  obtain ⟨fuel, hf⟩ := h
  exact trod_ints5 hf
end

open Go.ChangeShapes Go.WideShapes Go.ChangeAt Go.RowKit Go.Joins

set_option maxRecDepth 100000 in
theorem proof9_lifted (os : Os) (started : os.Started) (H : Type) (enc : TypeId × Value → H) :
    ReturnsInHanded {} Try.checked os 5 .any (Rows.trialsProofSpec.pre6 enc Try.prog Try.f5 Rows.trialsProofRow.domain false) (Rows.trialsProofSpec.post enc Try.prog Try.f5 false true false false) := by
  refine returnsInHanded_of_change (C := Try.checked) own started (by kernel_rfl) Try.func5
    (ChangeSpec.witness6 (enc := enc) (C := Try.checked) false ⟨#[], #[.agg #[.int .i64 0, .int .i64 0, .int .i64 0, .int .i64 0, .int .i64 0, .int .i64 0, .int .i64 0, .int .i64 0, .int .i64 0, .slice none 0 0], .slice none 0 0, .agg #[.int .i64 0, .int .i64 0]], []⟩ 8 (by kernel_rfl) (by kernel_rfl) (by kernel_rfl) (by kernel_rfl)) ?_
  intro W base args ds gs before hval0 hW hcnd _
  have hval : ∀ (j : Nat) t v, Try.f5.params[j]? = some t → args[j]? = some v → Value.okWide Try.prog W .any base t v := hval0
  have hW' := hW
  obtain ⟨p, q, hA0, hV, rfl, hfz, hnd⟩ := hW
  have hA : DataW.TrodAll enc Try.prog W 0 (fun _ => true) true Try.f5.params.toList args.toList ds p := hA0
  rw [Try.params5] at hA hval
  obtain ⟨v0, v1, v2, d0, d1, d2, p0, p1, p2, rfl, rfl, rfl, h0, h1, h2⟩ := trodAll_three hA
  obtain ⟨rfl, rfl⟩ := trodVars_none hV
  obtain ⟨t, A, c, rfl, hh0_0, hh0_1⟩ := open_Trial (hval 0 28 v0 rfl rfl) h0
  obtain ⟨AL, cl, l, rfl, hg_AL, hl_AL⟩ := open_Ints5 (hval 1 47 v1 rfl rfl) h1
  obtain ⟨sz, mo, rfl⟩ := open_Class (hval 2 35 v2 rfl rfl) h2
  refine (lawTrialsProof_all t A c AL cl l sz mo W hh0_0 hh0_1 hl_AL hg_AL).mono fun e W' ⟨he, hb⟩ => ?_
  subst he
  exact ⟨_, rfl, law_post hW' rfl rfl (by intro t ht; have : t = 28 ∨ t = 47 ∨ t = 35 := (by rw [Try.params5] at ht; simpa using ht); rcases this with rfl | rfl | rfl <;> exact ⟨by kernel_rfl, of_decide_eq_true (by kernel_rfl)⟩) rfl rfl rfl hb⟩

theorem proof9_holds : Rows.TrialsProofSaid :=
  OpenClaim.holds_of_wide 5 Try.f5 rfl rfl rfl rfl rfl rfl rfl ⟨rfl, rfl, rfl, rfl, rfl⟩ rfl rfl rfl rfl rfl (by kernel_rfl) Try.func5 (by kernel_rfl)
    (of_decide_eq_true (by kernel_rfl)) (by unfold Func.isWrapper; rw [if_neg (of_decide_eq_false (by kernel_rfl))]; exact ⟨rfl, rfl⟩)
    (fun os started H enc _ => proof9_lifted os started H enc)
end Go.Proofs.Ytkmacpkjobdffaa
