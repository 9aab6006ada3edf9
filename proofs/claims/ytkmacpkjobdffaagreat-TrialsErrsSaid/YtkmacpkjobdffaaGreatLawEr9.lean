/- The law TrialsErrs (P9.1 to P9.4): for every trial and area the statement's function returns true and changes nothing. -/
import Derived.Test.YtkmacpkjobdffaaGreatRtI
import Derived.Test.YtkmacpkjobdffaaGreatTqC
import Derived.Test.YtkmacpkjobdffaaGreatTpC
namespace Go.Proofs.YtkmacpkjobdffaaGreat
open Go.RowKit
set_option maxRecDepth 100000 in
set_option maxHeartbeats 16000000 in
theorem lawErrs9_walk (t : Ti.Tri) (A : Option Addr) (c : Nat) (a : Int) (w : World) (hl : t.ts.length ≤ 1000000000) (hg : Tsts w w.heap.size A t.ts) :
    Calls Tryz.prog 3 #[.agg (tiV t A c), .int .i64 a] w fun e w' => e = .returned (.bool true) ∧ Below w.heap.size w w' := by
  have HWK : Hid (∀ W, Calls Tryz.prog 9 #[] W fun e w' => e = .returned (.bool true) ∧ Below W.heap.size W w') := works9_any
  have HFA : Hid (∀ W, Below w.heap.size w W → Calls Tryz.prog 8 #[.agg (tiV t A c)] W fun e w' => e = .returned (.bool (Ti.farB t)) ∧ Below W.heap.size W w') := fun W hW => Far9_any t A c W hl ((hg.keep hW).wider hW.size)
  cases hf : Ti.farB t
  · rw [hf] at HFA
    have h20 : t.ts.length ≤ 20 := by
      unfold Ti.farB at hf
      rw [Bool.or_eq_false_iff, Bool.or_eq_false_iff, decide_eq_false_iff_not] at hf
      omega
    have HCP : Hid (∀ W, Below w.heap.size w W → Calls Tryz.prog 10 #[.agg (tiV t A c)] W fun e w' => ∃ (AT : Option Addr) (cT : Nat) (xs : List Value), e = .returned (.agg (tiV t AT cT)) ∧ Hid (w'.ownsRow W.heap.size 78 2 (.slice AT t.ts.length cT) t.ts.length xs) ∧ Hid (CpRow W.heap.size w' t.ts t.ts.length xs) ∧ Below W.heap.size W w') := fun W hW => Copy9_any t A c W (by omega) ((hg.keep hW).wider hW.size)
    have HK1 : Hid (∀ A' c' W, Tsts W W.heap.size A' t.ts → Calls Tryz.prog 11 #[.agg (tiV t A' c')] W (ErrPost (Ti.chkV t) W)) := fun A' c' W h => CheckT_any t A' c' hl W h
    have HK2 : Hid (∀ W, Below w.heap.size w W → Calls Tryz.prog 12 #[.agg (tiV t A c)] W (ErrPost (Ti.chkV t) W)) := fun W hW => Check9_any t A c hl W ((hg.keep hW).wider hW.size)
    have HM1 : Hid (∀ A' c' W, Tsts W W.heap.size A' t.ts → Calls Tryz.prog 13 #[.agg (tiV t A' c')] W (TwoPost (Ti.manyE (Ti.opE t true) t) (Ti.opE t true) W)) := fun A' c' W h => ManyT_any t A' c' W hl h
    have HM2 : Hid (∀ W, Below w.heap.size w W → Calls Tryz.prog 14 #[.agg (tiV t A c)] W (TwoPost (Ti.manyE (Ti.opE t true) t) (Ti.opE t true) W)) := fun W hW => Many9_any t A c W hl ((hg.keep hW).wider hW.size)
    have HG1 : Hid (∀ A' c' W, Tsts W W.heap.size A' t.ts → Calls Tryz.prog 15 #[.agg (tiV t A' c')] W (IntsEPost (Ti.allE (fun x => x.1) (Ti.opE t true) t) (Ti.opE t true) W)) := fun A' c' W h => GainsT_any t A' c' W hl h
    have HG2 : Hid (∀ W, Below w.heap.size w W → Calls Tryz.prog 16 #[.agg (tiV t A c)] W (IntsEPost (Ti.allE (fun x => x.1) (Ti.opE t true) t) (Ti.opE t true) W)) := fun W hW => Gains9_any t A c W hl ((hg.keep hW).wider hW.size)
    have HS1 : Hid (∀ A' c' W, Tsts W W.heap.size A' t.ts → Calls Tryz.prog 17 #[.agg (tiV t A' c')] W (IntsEPost (Ti.allE (fun x => x.2) (Ti.opE t true) t) (Ti.opE t true) W)) := fun A' c' W h => SkewsT_any t A' c' W hl h
    have HS2 : Hid (∀ W, Below w.heap.size w W → Calls Tryz.prog 18 #[.agg (tiV t A c)] W (IntsEPost (Ti.allE (fun x => x.2) (Ti.opE t true) t) (Ti.opE t true) W)) := fun W hW => Skews9_any t A c W hl ((hg.keep hW).wider hW.size)
    have HE1 : Hid (∀ A' c' W, Tsts W W.heap.size A' t.ts → Calls Tryz.prog 19 #[.agg (tiV t A' c'), .int .i64 a] W (SpanPost (Ti.lowE (fun x => Ti.errV x a) (Ti.opE t (inB a 0 9000)) t) (Ti.highE (fun x => Ti.errV x a) (Ti.opE t (inB a 0 9000)) t) (Ti.opE t (inB a 0 9000)) W)) := fun A' c' W h => Errs_any t a A' c' W hl h
    have HE2 : Hid (∀ W, Below w.heap.size w W → Calls Tryz.prog 20 #[.agg (tiV t A c), .int .i64 a] W (SpanPost (Ti.lowE (fun x => Ti.errV x a) (Ti.opE t (inB a 0 9000)) t) (Ti.highE (fun x => Ti.errV x a) (Ti.opE t (inB a 0 9000)) t) (Ti.opE t (inB a 0 9000)) W)) := fun W hW => Errs9_any t a A c W hl ((hg.keep hW).wider hW.size)
    have HSM : Hid (∀ A' c' W, Below w.heap.size w W → Tsts W W.heap.size A' t.ts → Calls Tryz.prog 22 #[.agg (tiV t A' c'), .agg (tiV t A c)] W fun e w' => e = .returned (.bool true) ∧ Below W.heap.size W w') := fun A' c' W hW h => same9_yes t A' A c' c W (by omega) h ((hg.keep hW).wider hW.size)
    have hGL : (Ti.allE (fun x => x.1) (Ti.opE t true) t).length ≤ 200 := by
      unfold Ti.allE
      split
      · exact Nat.le_trans (Ti.gains_len _) (by decide)
      · simp
    have hSL : (Ti.allE (fun x => x.2) (Ti.opE t true) t).length ≤ 200 := by
      unfold Ti.allE
      split
      · rw [Ti.tskews_eq]
        unfold Ti.skewF
        exact Nat.le_trans (List.length_filter_le _ _) (by simp)
      · simp
    have HSI : Hid (∀ xs : List Int, ∀ v v' W, Ints W W.heap.size v xs → Ints W W.heap.size v' xs → xs.length ≤ 200 → Calls Tryz.prog 21 #[v, v'] W fun e w' => e = .returned (.bool true) ∧ Below W.heap.size W w') := fun xs v v' W h1 h2 h3 => by
      have := SameInts_any v v' _ _ W h1 h2 (by omega) (by omega)
      rwa [decide_eq_true rfl] at this
    have hmo : Tryz.prog.follows .mixedOrders = true := by kernel_rfl
    unfold ErrPost at HK1 HK2
    unfold TwoPost at HM1 HM2
    unfold IntsEPost at HG1 HG2 HS1 HS2
    unfold SpanPost at HE1 HE2
    clear hf hg
    generalize Ti.chkV t = CK at *
    generalize Ti.manyE (Ti.opE t true) t = M at *
    generalize Ti.allE (fun x => x.1) (Ti.opE t true) t = GL at *
    generalize Ti.allE (fun x => x.2) (Ti.opE t true) t = SL at *
    generalize (Ti.lowE (fun x => Ti.errV x a) (Ti.opE t (inB a 0 9000)) t) = LO at *
    generalize (Ti.highE (fun x => Ti.errV x a) (Ti.opE t (inB a 0 9000)) t) = HI at *
    generalize (Ti.opE t (inB a 0 9000)) = EA at *
    generalize (Ti.opE t true) = E at *
    obtain ⟨d, gain, ts⟩ := t
    obtain ⟨full, read, slip, skew, circ, glo, ghi, wrn, dws⟩ := d
    unfold tiV at *
    dsimp only at *
    go_enter Tryz.func3, Tryz.ntmps3
    go_wp2_with fail
    have bT1 := (BoxS.new w 28 #[.int .i64 full, .int .i64 read, .int .i64 slip, .int .i64 skew, .int .i64 circ, .int .i64 glo, .int .i64 ghi, .int .i64 wrn, .int .i64 gain, .slice A ts.length c])
    have hB1 : Below w.heap.size w (World.alloc w (.cells #[.int .i64 full, .int .i64 read, .int .i64 slip, .int .i64 skew, .int .i64 circ, .int .i64 glo, .int .i64 ghi, .int .i64 wrn, .int .i64 gain, .slice A ts.length c] 28)) := by (repeat' (first | (with_reducible exact Below.refl _ _) | (with_reducible assumption) | (with_reducible refine Below.alloc ?_ ?_ _) | (with_reducible refine Below.drew ?_) | (with_reducible refine Below.setCell ?_ ?_ _) | go_size | (exact (by simp)) | omega))
    generalize World.alloc w _ = w1 at *
    refine (HFA.out _ hB1).mono ?_
    rintro e w2 ⟨rfl, hb2⟩
    have bT2 := bT1.below hb2
    have hB2 := hB1.trans (hb2.mono hB1.size)
    clear bT1 hB1
    have kT0 := bT2.cell 0 rfl
    have kT1 := bT2.cell 1 rfl
    have kT2 := bT2.cell 2 rfl
    have kT3 := bT2.cell 3 rfl
    have kT4 := bT2.cell 4 rfl
    have kT5 := bT2.cell 5 rfl
    have kT6 := bT2.cell 6 rfl
    have kT7 := bT2.cell 7 rfl
    have kT8 := bT2.cell 8 rfl
    have kT9 := bT2.cell 9 rfl
    have lT := bT2.lt
    go_wp2_with fail
    clear kT0 kT1 kT2 kT3 kT4 kT5 kT6 kT7 kT8 kT9 lT
    refine (HCP.out _ hB2).mono ?_
    rintro e w3 ⟨AW, cW, ys, rfl, hOW, hCW, hb3⟩
    have bT3 := bT2.below hb3
    have hB3 := hB2.trans (hb3.mono hB2.size)
    clear bT2 hB2
    have HTW3 : Hid (Tsts w3 w3.heap.size AW ts) := Lib.hid (hCW.out.tsts hOW.out)
    clear hOW hCW ys
    have kT0 := bT3.cell 0 rfl
    have kT1 := bT3.cell 1 rfl
    have kT2 := bT3.cell 2 rfl
    have kT3 := bT3.cell 3 rfl
    have kT4 := bT3.cell 4 rfl
    have kT5 := bT3.cell 5 rfl
    have kT6 := bT3.cell 6 rfl
    have kT7 := bT3.cell 7 rfl
    have kT8 := bT3.cell 8 rfl
    have kT9 := bT3.cell 9 rfl
    have lT := bT3.lt
    go_wp2_with fail
    clear kT0 kT1 kT2 kT3 kT4 kT5 kT6 kT7 kT8 kT9 lT
    have HTW4 : Hid (Tsts (World.alloc w3 (.cells #[.int .i64 full, .int .i64 read, .int .i64 slip, .int .i64 skew, .int .i64 circ, .int .i64 glo, .int .i64 ghi, .int .i64 wrn, .int .i64 gain, .slice AW ts.length cW] 28)) (World.alloc w3 (.cells #[.int .i64 full, .int .i64 read, .int .i64 slip, .int .i64 skew, .int .i64 circ, .int .i64 glo, .int .i64 ghi, .int .i64 wrn, .int .i64 gain, .slice AW ts.length cW] 28)).heap.size AW ts) := Lib.hid ((HTW3.out.keep ((Below.refl w3.heap.size w3).alloc (Below.refl w3.heap.size w3).size _)).wider ((Below.refl w3.heap.size w3).alloc (Below.refl w3.heap.size w3).size _).size)
    clear HTW3
    have bT4 := (bT3.alloc (.cells #[.int .i64 full, .int .i64 read, .int .i64 slip, .int .i64 skew, .int .i64 circ, .int .i64 glo, .int .i64 ghi, .int .i64 wrn, .int .i64 gain, .slice AW ts.length cW] 28))
    have bO4 := (BoxS.new w3 28 #[.int .i64 full, .int .i64 read, .int .i64 slip, .int .i64 skew, .int .i64 circ, .int .i64 glo, .int .i64 ghi, .int .i64 wrn, .int .i64 gain, .slice AW ts.length cW])
    have hB4 : Below w.heap.size w (World.alloc w3 (.cells #[.int .i64 full, .int .i64 read, .int .i64 slip, .int .i64 skew, .int .i64 circ, .int .i64 glo, .int .i64 ghi, .int .i64 wrn, .int .i64 gain, .slice AW ts.length cW] 28)) := (hB3.alloc hB3.size _)
    obtain ⟨BO, hBO⟩ : ∃ B, B = w3.heap.size := ⟨_, rfl⟩
    clear bT3 hB3
    generalize World.alloc w3 _ = w4 at *
    rw [← hBO]
    rw [← hBO] at bO4
    clear hBO
    have q0 : Below w4.heap.size w4.drew w4.drew := Below.refl _ _
    have KC : Hid (∀ V', Below w4.heap.size w4.drew V' → (V'.cell? ⟨w.heap.size, 0, none⟩ = some (.int .i64 full) ∧ V'.cell? ⟨w.heap.size, 1, none⟩ = some (.int .i64 read) ∧ V'.cell? ⟨w.heap.size, 2, none⟩ = some (.int .i64 slip) ∧ V'.cell? ⟨w.heap.size, 3, none⟩ = some (.int .i64 skew) ∧ V'.cell? ⟨w.heap.size, 4, none⟩ = some (.int .i64 circ) ∧ V'.cell? ⟨w.heap.size, 5, none⟩ = some (.int .i64 glo) ∧ V'.cell? ⟨w.heap.size, 6, none⟩ = some (.int .i64 ghi) ∧ V'.cell? ⟨w.heap.size, 7, none⟩ = some (.int .i64 wrn) ∧ V'.cell? ⟨w.heap.size, 8, none⟩ = some (.int .i64 gain) ∧ V'.cell? ⟨w.heap.size, 9, none⟩ = some (.slice A ts.length c) ∧ V'.cell? ⟨BO, 0, none⟩ = some (.int .i64 full) ∧ V'.cell? ⟨BO, 1, none⟩ = some (.int .i64 read) ∧ V'.cell? ⟨BO, 2, none⟩ = some (.int .i64 slip) ∧ V'.cell? ⟨BO, 3, none⟩ = some (.int .i64 skew) ∧ V'.cell? ⟨BO, 4, none⟩ = some (.int .i64 circ) ∧ V'.cell? ⟨BO, 5, none⟩ = some (.int .i64 glo) ∧ V'.cell? ⟨BO, 6, none⟩ = some (.int .i64 ghi) ∧ V'.cell? ⟨BO, 7, none⟩ = some (.int .i64 wrn) ∧ V'.cell? ⟨BO, 8, none⟩ = some (.int .i64 gain) ∧ V'.cell? ⟨BO, 9, none⟩ = some (.slice AW ts.length cW))) := fun V' h =>
      have hk : ∀ (bb o : Nat) (u : Value), bb < w4.heap.size → w4.cell? ⟨bb, o, none⟩ = some u → V'.cell? ⟨bb, o, none⟩ = some u := fun bb o u h1 h2 => (h.cell (p := ⟨bb, o, none⟩) h1).trans h2
      ⟨hk _ _ _ bT4.lt (bT4.cell 0 rfl), hk _ _ _ bT4.lt (bT4.cell 1 rfl), hk _ _ _ bT4.lt (bT4.cell 2 rfl), hk _ _ _ bT4.lt (bT4.cell 3 rfl), hk _ _ _ bT4.lt (bT4.cell 4 rfl), hk _ _ _ bT4.lt (bT4.cell 5 rfl), hk _ _ _ bT4.lt (bT4.cell 6 rfl), hk _ _ _ bT4.lt (bT4.cell 7 rfl), hk _ _ _ bT4.lt (bT4.cell 8 rfl), hk _ _ _ bT4.lt (bT4.cell 9 rfl), hk _ _ _ bO4.lt (bO4.cell 0 rfl), hk _ _ _ bO4.lt (bO4.cell 1 rfl), hk _ _ _ bO4.lt (bO4.cell 2 rfl), hk _ _ _ bO4.lt (bO4.cell 3 rfl), hk _ _ _ bO4.lt (bO4.cell 4 rfl), hk _ _ _ bO4.lt (bO4.cell 5 rfl), hk _ _ _ bO4.lt (bO4.cell 6 rfl), hk _ _ _ bO4.lt (bO4.cell 7 rfl), hk _ _ _ bO4.lt (bO4.cell 8 rfl), hk _ _ _ bO4.lt (bO4.cell 9 rfl)⟩
    refine (wpIn_wide (n := 4)).1 ?_
    refine wpIn_mono (Q := noPanic _) ?_ noPanic_le
    refine wpIn_region_held (fun V' => Below w4.heap.size w4.drew V') 40 hmo ?_
    refine wpHeldIn_take (i := 0) (v := ?_) (plain_of (by kernel_rfl)) rfl (by kernel_rfl) (fun _ _ _ h => h) (yieldsSoIn_of (by kernel_rfl) ?_ (fun _ => rfl)) q0 ?_; rotate_left; focus (intro wq hw; have kq := KC.out wq hw; clear hw; go_simp; try (with_reducible rfl))
    refine wpHeldIn_take (i := 2) (v := ?_) (plain_of (by kernel_rfl)) rfl (by kernel_rfl) (fun _ _ _ h => h) (yieldsSoIn_of (by kernel_rfl) ?_ (fun _ => rfl)) q0 ?_; rotate_left; focus (intro wq hw; have kq := KC.out wq hw; clear hw; go_simp; try (with_reducible rfl))
    refine wpHeldIn_one (i := 1) (by kernel_rfl) (by kernel_rfl) rfl (by kernel_rfl) (fun K1 hK1 => ?_)
    go_simp
    refine ⟨trivial, (callsIn_wide.2 (HK1.out AW cW _ ((HTW4.out.keep ((Below.refl _ _).drew)).wider (Nat.le_refl _)))).mono ?_⟩
    rintro e wa ⟨rfl, ha⟩
    have q1 : Below w4.heap.size w4.drew wa := ha
    refine hK1 _ _ q1 ?_
    refine wpHeldIn_one (i := 3) (by kernel_rfl) (by kernel_rfl) rfl (by kernel_rfl) (fun K2 hK2 => ?_)
    go_simp
    refine ⟨trivial, (callsIn_wide.2 (HK2.out _ (hB4.drew.trans (q1.mono hB4.size)))).mono ?_⟩
    rintro e w5 ⟨rfl, hb⟩
    have q2 : Below w4.heap.size w4.drew w5 := q1.trans (hb.mono q1.size)
    refine hK2 _ _ q2 ?_
    refine wpHeldIn_take (i := 4) (v := ?_) (plain_of (by kernel_rfl)) rfl (by kernel_rfl) (fun _ _ _ h => h) (yieldsSoIn_of (by kernel_rfl) ?_ (fun _ => rfl)) q2 ?_; rotate_left; focus (intro wq hw; clear hw; go_simp; try (with_reducible rfl))
    refine wpHeldIn_done (by kernel_rfl) ?_ _
    go_simp
    refine noPanic_of ?_
    have hb5 : Below w4.heap.size w4 w5 := (Below.refl _ _).drew.trans q2
    have bT5 := bT4.below hb5
    have bO5 := bO4.below hb5
    have hB5 := hB4.trans (hb5.mono hB4.size)
    have HTW5 := Lib.hid ((HTW4.out.keep hb5).wider hb5.size)
    clear HTW4
    clear bT4 bO4 hB4
    clear q0 KC q1 q2 ha hb
    have kT0 := bT5.cell 0 rfl
    have kT1 := bT5.cell 1 rfl
    have kT2 := bT5.cell 2 rfl
    have kT3 := bT5.cell 3 rfl
    have kT4 := bT5.cell 4 rfl
    have kT5 := bT5.cell 5 rfl
    have kT6 := bT5.cell 6 rfl
    have kT7 := bT5.cell 7 rfl
    have kT8 := bT5.cell 8 rfl
    have kT9 := bT5.cell 9 rfl
    have lT := bT5.lt
    have kO0 := bO5.cell 0 rfl
    have kO1 := bO5.cell 1 rfl
    have kO2 := bO5.cell 2 rfl
    have kO3 := bO5.cell 3 rfl
    have kO4 := bO5.cell 4 rfl
    have kO5 := bO5.cell 5 rfl
    have kO6 := bO5.cell 6 rfl
    have kO7 := bO5.cell 7 rfl
    have kO8 := bO5.cell 8 rfl
    have kO9 := bO5.cell 9 rfl
    have lO := bO5.lt
    go_wp2_with fail
    clear kT0 kT1 kT2 kT3 kT4 kT5 kT6 kT7 kT8 kT9 lT kO0 kO1 kO2 kO3 kO4 kO5 kO6 kO7 kO8 kO9 lO
    refine (HM1.out AW cW _ HTW5.out).mono ?_
    rintro e w6 ⟨rfl, hb6⟩
    have bT6 := bT5.below hb6
    have bO6 := bO5.below hb6
    have hB6 := hB5.trans (hb6.mono hB5.size)
    clear bT5 bO5 hB5
    have HTW6 := Lib.hid ((HTW5.out.keep hb6).wider hb6.size)
    clear HTW5
    have kT0 := bT6.cell 0 rfl
    have kT1 := bT6.cell 1 rfl
    have kT2 := bT6.cell 2 rfl
    have kT3 := bT6.cell 3 rfl
    have kT4 := bT6.cell 4 rfl
    have kT5 := bT6.cell 5 rfl
    have kT6 := bT6.cell 6 rfl
    have kT7 := bT6.cell 7 rfl
    have kT8 := bT6.cell 8 rfl
    have kT9 := bT6.cell 9 rfl
    have lT := bT6.lt
    have kO0 := bO6.cell 0 rfl
    have kO1 := bO6.cell 1 rfl
    have kO2 := bO6.cell 2 rfl
    have kO3 := bO6.cell 3 rfl
    have kO4 := bO6.cell 4 rfl
    have kO5 := bO6.cell 5 rfl
    have kO6 := bO6.cell 6 rfl
    have kO7 := bO6.cell 7 rfl
    have kO8 := bO6.cell 8 rfl
    have kO9 := bO6.cell 9 rfl
    have lO := bO6.lt
    go_wp2_with fail
    clear kT0 kT1 kT2 kT3 kT4 kT5 kT6 kT7 kT8 kT9 lT kO0 kO1 kO2 kO3 kO4 kO5 kO6 kO7 kO8 kO9 lO
    refine (HM2.out _ hB6).mono ?_
    rintro e w7 ⟨rfl, hb7⟩
    have bT7 := bT6.below hb7
    have bO7 := bO6.below hb7
    have hB7 := hB6.trans (hb7.mono hB6.size)
    clear bT6 bO6 hB6
    have HTW7 := Lib.hid ((HTW6.out.keep hb7).wider hb7.size)
    clear HTW6
    have kT0 := bT7.cell 0 rfl
    have kT1 := bT7.cell 1 rfl
    have kT2 := bT7.cell 2 rfl
    have kT3 := bT7.cell 3 rfl
    have kT4 := bT7.cell 4 rfl
    have kT5 := bT7.cell 5 rfl
    have kT6 := bT7.cell 6 rfl
    have kT7 := bT7.cell 7 rfl
    have kT8 := bT7.cell 8 rfl
    have kT9 := bT7.cell 9 rfl
    have lT := bT7.lt
    have kO0 := bO7.cell 0 rfl
    have kO1 := bO7.cell 1 rfl
    have kO2 := bO7.cell 2 rfl
    have kO3 := bO7.cell 3 rfl
    have kO4 := bO7.cell 4 rfl
    have kO5 := bO7.cell 5 rfl
    have kO6 := bO7.cell 6 rfl
    have kO7 := bO7.cell 7 rfl
    have kO8 := bO7.cell 8 rfl
    have kO9 := bO7.cell 9 rfl
    have lO := bO7.lt
    go_wp2_with fail
    clear kT0 kT1 kT2 kT3 kT4 kT5 kT6 kT7 kT8 kT9 lT kO0 kO1 kO2 kO3 kO4 kO5 kO6 kO7 kO8 kO9 lO
    refine (HG1.out AW cW _ HTW7.out).mono ?_
    rintro e w8 ⟨vA, rfl, hvA, hb8⟩
    have bT8 := bT7.below hb8
    have bO8 := bO7.below hb8
    have hB8 := hB7.trans (hb8.mono hB7.size)
    clear bT7 bO7 hB7
    have HVA8 := Lib.hid hvA.out
    clear hvA
    obtain ⟨AA, cA, rfl⟩ := ints_form HVA8.out
    have HTW8 := Lib.hid ((HTW7.out.keep hb8).wider hb8.size)
    clear HTW7
    have kT0 := bT8.cell 0 rfl
    have kT1 := bT8.cell 1 rfl
    have kT2 := bT8.cell 2 rfl
    have kT3 := bT8.cell 3 rfl
    have kT4 := bT8.cell 4 rfl
    have kT5 := bT8.cell 5 rfl
    have kT6 := bT8.cell 6 rfl
    have kT7 := bT8.cell 7 rfl
    have kT8 := bT8.cell 8 rfl
    have kT9 := bT8.cell 9 rfl
    have lT := bT8.lt
    have kO0 := bO8.cell 0 rfl
    have kO1 := bO8.cell 1 rfl
    have kO2 := bO8.cell 2 rfl
    have kO3 := bO8.cell 3 rfl
    have kO4 := bO8.cell 4 rfl
    have kO5 := bO8.cell 5 rfl
    have kO6 := bO8.cell 6 rfl
    have kO7 := bO8.cell 7 rfl
    have kO8 := bO8.cell 8 rfl
    have kO9 := bO8.cell 9 rfl
    have lO := bO8.lt
    go_wp2_with fail
    clear kT0 kT1 kT2 kT3 kT4 kT5 kT6 kT7 kT8 kT9 lT kO0 kO1 kO2 kO3 kO4 kO5 kO6 kO7 kO8 kO9 lO
    refine (HG2.out _ hB8).mono ?_
    rintro e w9 ⟨vB, rfl, hvB, hb9⟩
    have bT9 := bT8.below hb9
    have bO9 := bO8.below hb9
    have hB9 := hB8.trans (hb9.mono hB8.size)
    clear bT8 bO8 hB8
    have HVB9 := Lib.hid hvB.out
    clear hvB
    obtain ⟨AB, cB, rfl⟩ := ints_form HVB9.out
    have HTW9 := Lib.hid ((HTW8.out.keep hb9).wider hb9.size)
    clear HTW8
    have HVA9 := Lib.hid ((HVA8.out.keep hb9).more hb9.size)
    clear HVA8
    have kT0 := bT9.cell 0 rfl
    have kT1 := bT9.cell 1 rfl
    have kT2 := bT9.cell 2 rfl
    have kT3 := bT9.cell 3 rfl
    have kT4 := bT9.cell 4 rfl
    have kT5 := bT9.cell 5 rfl
    have kT6 := bT9.cell 6 rfl
    have kT7 := bT9.cell 7 rfl
    have kT8 := bT9.cell 8 rfl
    have kT9 := bT9.cell 9 rfl
    have lT := bT9.lt
    have kO0 := bO9.cell 0 rfl
    have kO1 := bO9.cell 1 rfl
    have kO2 := bO9.cell 2 rfl
    have kO3 := bO9.cell 3 rfl
    have kO4 := bO9.cell 4 rfl
    have kO5 := bO9.cell 5 rfl
    have kO6 := bO9.cell 6 rfl
    have kO7 := bO9.cell 7 rfl
    have kO8 := bO9.cell 8 rfl
    have kO9 := bO9.cell 9 rfl
    have lO := bO9.lt
    go_wp2_with fail
    clear kT0 kT1 kT2 kT3 kT4 kT5 kT6 kT7 kT8 kT9 lT kO0 kO1 kO2 kO3 kO4 kO5 kO6 kO7 kO8 kO9 lO
    refine (HS1.out AW cW _ HTW9.out).mono ?_
    rintro e w10 ⟨vC, rfl, hvC, hb10⟩
    have bT10 := bT9.below hb10
    have bO10 := bO9.below hb10
    have hB10 := hB9.trans (hb10.mono hB9.size)
    clear bT9 bO9 hB9
    have HVC10 := Lib.hid hvC.out
    clear hvC
    obtain ⟨AC, cC, rfl⟩ := ints_form HVC10.out
    have HTW10 := Lib.hid ((HTW9.out.keep hb10).wider hb10.size)
    clear HTW9
    have HVA10 := Lib.hid ((HVA9.out.keep hb10).more hb10.size)
    have HVB10 := Lib.hid ((HVB9.out.keep hb10).more hb10.size)
    clear HVA9 HVB9
    have kT0 := bT10.cell 0 rfl
    have kT1 := bT10.cell 1 rfl
    have kT2 := bT10.cell 2 rfl
    have kT3 := bT10.cell 3 rfl
    have kT4 := bT10.cell 4 rfl
    have kT5 := bT10.cell 5 rfl
    have kT6 := bT10.cell 6 rfl
    have kT7 := bT10.cell 7 rfl
    have kT8 := bT10.cell 8 rfl
    have kT9 := bT10.cell 9 rfl
    have lT := bT10.lt
    have kO0 := bO10.cell 0 rfl
    have kO1 := bO10.cell 1 rfl
    have kO2 := bO10.cell 2 rfl
    have kO3 := bO10.cell 3 rfl
    have kO4 := bO10.cell 4 rfl
    have kO5 := bO10.cell 5 rfl
    have kO6 := bO10.cell 6 rfl
    have kO7 := bO10.cell 7 rfl
    have kO8 := bO10.cell 8 rfl
    have kO9 := bO10.cell 9 rfl
    have lO := bO10.lt
    go_wp2_with fail
    clear kT0 kT1 kT2 kT3 kT4 kT5 kT6 kT7 kT8 kT9 lT kO0 kO1 kO2 kO3 kO4 kO5 kO6 kO7 kO8 kO9 lO
    refine (HS2.out _ hB10).mono ?_
    rintro e w11 ⟨vD, rfl, hvD, hb11⟩
    have bT11 := bT10.below hb11
    have bO11 := bO10.below hb11
    have hB11 := hB10.trans (hb11.mono hB10.size)
    clear bT10 bO10 hB10
    have HVD11 := Lib.hid hvD.out
    clear hvD
    obtain ⟨AD, cD, rfl⟩ := ints_form HVD11.out
    have HTW11 := Lib.hid ((HTW10.out.keep hb11).wider hb11.size)
    clear HTW10
    have HVA11 := Lib.hid ((HVA10.out.keep hb11).more hb11.size)
    have HVB11 := Lib.hid ((HVB10.out.keep hb11).more hb11.size)
    have HVC11 := Lib.hid ((HVC10.out.keep hb11).more hb11.size)
    clear HVA10 HVB10 HVC10
    have kT0 := bT11.cell 0 rfl
    have kT1 := bT11.cell 1 rfl
    have kT2 := bT11.cell 2 rfl
    have kT3 := bT11.cell 3 rfl
    have kT4 := bT11.cell 4 rfl
    have kT5 := bT11.cell 5 rfl
    have kT6 := bT11.cell 6 rfl
    have kT7 := bT11.cell 7 rfl
    have kT8 := bT11.cell 8 rfl
    have kT9 := bT11.cell 9 rfl
    have lT := bT11.lt
    have kO0 := bO11.cell 0 rfl
    have kO1 := bO11.cell 1 rfl
    have kO2 := bO11.cell 2 rfl
    have kO3 := bO11.cell 3 rfl
    have kO4 := bO11.cell 4 rfl
    have kO5 := bO11.cell 5 rfl
    have kO6 := bO11.cell 6 rfl
    have kO7 := bO11.cell 7 rfl
    have kO8 := bO11.cell 8 rfl
    have kO9 := bO11.cell 9 rfl
    have lO := bO11.lt
    go_wp2_with fail
    clear kT0 kT1 kT2 kT3 kT4 kT5 kT6 kT7 kT8 kT9 lT kO0 kO1 kO2 kO3 kO4 kO5 kO6 kO7 kO8 kO9 lO
    refine (HE1.out AW cW _ HTW11.out).mono ?_
    rintro e w12 ⟨rfl, hb12⟩
    have bT12 := bT11.below hb12
    have bO12 := bO11.below hb12
    have hB12 := hB11.trans (hb12.mono hB11.size)
    clear bT11 bO11 hB11
    have HTW12 := Lib.hid ((HTW11.out.keep hb12).wider hb12.size)
    clear HTW11
    have HVA12 := Lib.hid ((HVA11.out.keep hb12).more hb12.size)
    have HVB12 := Lib.hid ((HVB11.out.keep hb12).more hb12.size)
    have HVC12 := Lib.hid ((HVC11.out.keep hb12).more hb12.size)
    have HVD12 := Lib.hid ((HVD11.out.keep hb12).more hb12.size)
    clear HVA11 HVB11 HVC11 HVD11
    have kT0 := bT12.cell 0 rfl
    have kT1 := bT12.cell 1 rfl
    have kT2 := bT12.cell 2 rfl
    have kT3 := bT12.cell 3 rfl
    have kT4 := bT12.cell 4 rfl
    have kT5 := bT12.cell 5 rfl
    have kT6 := bT12.cell 6 rfl
    have kT7 := bT12.cell 7 rfl
    have kT8 := bT12.cell 8 rfl
    have kT9 := bT12.cell 9 rfl
    have lT := bT12.lt
    have kO0 := bO12.cell 0 rfl
    have kO1 := bO12.cell 1 rfl
    have kO2 := bO12.cell 2 rfl
    have kO3 := bO12.cell 3 rfl
    have kO4 := bO12.cell 4 rfl
    have kO5 := bO12.cell 5 rfl
    have kO6 := bO12.cell 6 rfl
    have kO7 := bO12.cell 7 rfl
    have kO8 := bO12.cell 8 rfl
    have kO9 := bO12.cell 9 rfl
    have lO := bO12.lt
    go_wp2_with fail
    clear kT0 kT1 kT2 kT3 kT4 kT5 kT6 kT7 kT8 kT9 lT kO0 kO1 kO2 kO3 kO4 kO5 kO6 kO7 kO8 kO9 lO
    have HTW13 : Hid (Tsts (World.alloc w12 (.cells #[.int .i64 LO, .int .i64 HI] 23)) (World.alloc w12 (.cells #[.int .i64 LO, .int .i64 HI] 23)).heap.size AW ts) := Lib.hid ((HTW12.out.keep ((Below.refl w12.heap.size w12).alloc (Below.refl w12.heap.size w12).size _)).wider ((Below.refl w12.heap.size w12).alloc (Below.refl w12.heap.size w12).size _).size)
    have HVA13 := Lib.hid ((HVA12.out.keep (show Below w12.heap.size w12 (World.alloc w12 (.cells #[.int .i64 LO, .int .i64 HI] 23)) from ((Below.refl w12.heap.size w12).alloc (Below.refl w12.heap.size w12).size _))).more (show Below w12.heap.size w12 (World.alloc w12 (.cells #[.int .i64 LO, .int .i64 HI] 23)) from ((Below.refl w12.heap.size w12).alloc (Below.refl w12.heap.size w12).size _)).size)
    have HVB13 := Lib.hid ((HVB12.out.keep (show Below w12.heap.size w12 (World.alloc w12 (.cells #[.int .i64 LO, .int .i64 HI] 23)) from ((Below.refl w12.heap.size w12).alloc (Below.refl w12.heap.size w12).size _))).more (show Below w12.heap.size w12 (World.alloc w12 (.cells #[.int .i64 LO, .int .i64 HI] 23)) from ((Below.refl w12.heap.size w12).alloc (Below.refl w12.heap.size w12).size _)).size)
    have HVC13 := Lib.hid ((HVC12.out.keep (show Below w12.heap.size w12 (World.alloc w12 (.cells #[.int .i64 LO, .int .i64 HI] 23)) from ((Below.refl w12.heap.size w12).alloc (Below.refl w12.heap.size w12).size _))).more (show Below w12.heap.size w12 (World.alloc w12 (.cells #[.int .i64 LO, .int .i64 HI] 23)) from ((Below.refl w12.heap.size w12).alloc (Below.refl w12.heap.size w12).size _)).size)
    have HVD13 := Lib.hid ((HVD12.out.keep (show Below w12.heap.size w12 (World.alloc w12 (.cells #[.int .i64 LO, .int .i64 HI] 23)) from ((Below.refl w12.heap.size w12).alloc (Below.refl w12.heap.size w12).size _))).more (show Below w12.heap.size w12 (World.alloc w12 (.cells #[.int .i64 LO, .int .i64 HI] 23)) from ((Below.refl w12.heap.size w12).alloc (Below.refl w12.heap.size w12).size _)).size)
    clear HTW12
    clear HVA12 HVB12 HVC12 HVD12
    have bT13 := (bT12.alloc (.cells #[.int .i64 LO, .int .i64 HI] 23))
    have bO13 := (bO12.alloc (.cells #[.int .i64 LO, .int .i64 HI] 23))
    have bS13 := (BoxS.new w12 23 #[.int .i64 LO, .int .i64 HI])
    have hB13 : Below w.heap.size w (World.alloc w12 (.cells #[.int .i64 LO, .int .i64 HI] 23)) := (hB12.alloc hB12.size _)
    obtain ⟨BS, hBS⟩ : ∃ B, B = w12.heap.size := ⟨_, rfl⟩
    clear bT12 bO12 hB12
    generalize World.alloc w12 _ = w13 at *
    rw [← hBS]
    rw [← hBS] at bS13
    clear hBS
    refine (HE2.out _ hB13).mono ?_
    rintro e w14 ⟨rfl, hb14⟩
    have bT14 := bT13.below hb14
    have bO14 := bO13.below hb14
    have bS14 := bS13.below hb14
    have hB14 := hB13.trans (hb14.mono hB13.size)
    clear bT13 bO13 bS13 hB13
    have HTW14 := Lib.hid ((HTW13.out.keep hb14).wider hb14.size)
    clear HTW13
    have HVA14 := Lib.hid ((HVA13.out.keep hb14).more hb14.size)
    have HVB14 := Lib.hid ((HVB13.out.keep hb14).more hb14.size)
    have HVC14 := Lib.hid ((HVC13.out.keep hb14).more hb14.size)
    have HVD14 := Lib.hid ((HVD13.out.keep hb14).more hb14.size)
    clear HVA13 HVB13 HVC13 HVD13
    have kT0 := bT14.cell 0 rfl
    have kT1 := bT14.cell 1 rfl
    have kT2 := bT14.cell 2 rfl
    have kT3 := bT14.cell 3 rfl
    have kT4 := bT14.cell 4 rfl
    have kT5 := bT14.cell 5 rfl
    have kT6 := bT14.cell 6 rfl
    have kT7 := bT14.cell 7 rfl
    have kT8 := bT14.cell 8 rfl
    have kT9 := bT14.cell 9 rfl
    have lT := bT14.lt
    have kO0 := bO14.cell 0 rfl
    have kO1 := bO14.cell 1 rfl
    have kO2 := bO14.cell 2 rfl
    have kO3 := bO14.cell 3 rfl
    have kO4 := bO14.cell 4 rfl
    have kO5 := bO14.cell 5 rfl
    have kO6 := bO14.cell 6 rfl
    have kO7 := bO14.cell 7 rfl
    have kO8 := bO14.cell 8 rfl
    have kO9 := bO14.cell 9 rfl
    have lO := bO14.lt
    have kS0 := bS14.cell 0 rfl
    have kS1 := bS14.cell 1 rfl
    have lS := bS14.lt
    go_wp2_with fail
    clear kT0 kT1 kT2 kT3 kT4 kT5 kT6 kT7 kT8 kT9 lT kO0 kO1 kO2 kO3 kO4 kO5 kO6 kO7 kO8 kO9 lO kS0 kS1 lS
    have HTW15 : Hid (Tsts (World.alloc w14 (.cells #[.int .i64 LO, .int .i64 HI] 23)) (World.alloc w14 (.cells #[.int .i64 LO, .int .i64 HI] 23)).heap.size AW ts) := Lib.hid ((HTW14.out.keep ((Below.refl w14.heap.size w14).alloc (Below.refl w14.heap.size w14).size _)).wider ((Below.refl w14.heap.size w14).alloc (Below.refl w14.heap.size w14).size _).size)
    have HVA15 := Lib.hid ((HVA14.out.keep (show Below w14.heap.size w14 (World.alloc w14 (.cells #[.int .i64 LO, .int .i64 HI] 23)) from ((Below.refl w14.heap.size w14).alloc (Below.refl w14.heap.size w14).size _))).more (show Below w14.heap.size w14 (World.alloc w14 (.cells #[.int .i64 LO, .int .i64 HI] 23)) from ((Below.refl w14.heap.size w14).alloc (Below.refl w14.heap.size w14).size _)).size)
    have HVB15 := Lib.hid ((HVB14.out.keep (show Below w14.heap.size w14 (World.alloc w14 (.cells #[.int .i64 LO, .int .i64 HI] 23)) from ((Below.refl w14.heap.size w14).alloc (Below.refl w14.heap.size w14).size _))).more (show Below w14.heap.size w14 (World.alloc w14 (.cells #[.int .i64 LO, .int .i64 HI] 23)) from ((Below.refl w14.heap.size w14).alloc (Below.refl w14.heap.size w14).size _)).size)
    have HVC15 := Lib.hid ((HVC14.out.keep (show Below w14.heap.size w14 (World.alloc w14 (.cells #[.int .i64 LO, .int .i64 HI] 23)) from ((Below.refl w14.heap.size w14).alloc (Below.refl w14.heap.size w14).size _))).more (show Below w14.heap.size w14 (World.alloc w14 (.cells #[.int .i64 LO, .int .i64 HI] 23)) from ((Below.refl w14.heap.size w14).alloc (Below.refl w14.heap.size w14).size _)).size)
    have HVD15 := Lib.hid ((HVD14.out.keep (show Below w14.heap.size w14 (World.alloc w14 (.cells #[.int .i64 LO, .int .i64 HI] 23)) from ((Below.refl w14.heap.size w14).alloc (Below.refl w14.heap.size w14).size _))).more (show Below w14.heap.size w14 (World.alloc w14 (.cells #[.int .i64 LO, .int .i64 HI] 23)) from ((Below.refl w14.heap.size w14).alloc (Below.refl w14.heap.size w14).size _)).size)
    clear HTW14
    clear HVA14 HVB14 HVC14 HVD14
    have bT15 := (bT14.alloc (.cells #[.int .i64 LO, .int .i64 HI] 23))
    have bO15 := (bO14.alloc (.cells #[.int .i64 LO, .int .i64 HI] 23))
    have bS15 := (bS14.alloc (.cells #[.int .i64 LO, .int .i64 HI] 23))
    have bU15 := (BoxS.new w14 23 #[.int .i64 LO, .int .i64 HI])
    have hB15 : Below w.heap.size w (World.alloc w14 (.cells #[.int .i64 LO, .int .i64 HI] 23)) := (hB14.alloc hB14.size _)
    obtain ⟨BU, hBU⟩ : ∃ B, B = w14.heap.size := ⟨_, rfl⟩
    clear bT14 bO14 bS14 hB14
    generalize World.alloc w14 _ = w15 at *
    rw [← hBU]
    rw [← hBU] at bU15
    clear hBU
    refine (HSI.out GL _ _ _ HVA15.out HVB15.out hGL).mono ?_
    rintro e w16 ⟨rfl, hb16⟩
    have bT16 := bT15.below hb16
    have bO16 := bO15.below hb16
    have bS16 := bS15.below hb16
    have bU16 := bU15.below hb16
    have hB16 := hB15.trans (hb16.mono hB15.size)
    clear bT15 bO15 bS15 bU15 hB15
    have HTW16 := Lib.hid ((HTW15.out.keep hb16).wider hb16.size)
    clear HTW15
    have HVC16 := Lib.hid ((HVC15.out.keep hb16).more hb16.size)
    have HVD16 := Lib.hid ((HVD15.out.keep hb16).more hb16.size)
    clear HVC15 HVD15
    have kT0 := bT16.cell 0 rfl
    have kT1 := bT16.cell 1 rfl
    have kT2 := bT16.cell 2 rfl
    have kT3 := bT16.cell 3 rfl
    have kT4 := bT16.cell 4 rfl
    have kT5 := bT16.cell 5 rfl
    have kT6 := bT16.cell 6 rfl
    have kT7 := bT16.cell 7 rfl
    have kT8 := bT16.cell 8 rfl
    have kT9 := bT16.cell 9 rfl
    have lT := bT16.lt
    have kO0 := bO16.cell 0 rfl
    have kO1 := bO16.cell 1 rfl
    have kO2 := bO16.cell 2 rfl
    have kO3 := bO16.cell 3 rfl
    have kO4 := bO16.cell 4 rfl
    have kO5 := bO16.cell 5 rfl
    have kO6 := bO16.cell 6 rfl
    have kO7 := bO16.cell 7 rfl
    have kO8 := bO16.cell 8 rfl
    have kO9 := bO16.cell 9 rfl
    have lO := bO16.lt
    have kS0 := bS16.cell 0 rfl
    have kS1 := bS16.cell 1 rfl
    have lS := bS16.lt
    have kU0 := bU16.cell 0 rfl
    have kU1 := bU16.cell 1 rfl
    have lU := bU16.lt
    go_wp2_with fail
    clear kT0 kT1 kT2 kT3 kT4 kT5 kT6 kT7 kT8 kT9 lT kO0 kO1 kO2 kO3 kO4 kO5 kO6 kO7 kO8 kO9 lO kS0 kS1 lS kU0 kU1 lU
    clear HVA15 HVB15
    refine (HSI.out SL _ _ _ HVC16.out HVD16.out hSL).mono ?_
    rintro e w17 ⟨rfl, hb17⟩
    have bT17 := bT16.below hb17
    have bO17 := bO16.below hb17
    have bS17 := bS16.below hb17
    have bU17 := bU16.below hb17
    have hB17 := hB16.trans (hb17.mono hB16.size)
    clear bT16 bO16 bS16 bU16 hB16
    have HTW17 := Lib.hid ((HTW16.out.keep hb17).wider hb17.size)
    clear HTW16
    have kT0 := bT17.cell 0 rfl
    have kT1 := bT17.cell 1 rfl
    have kT2 := bT17.cell 2 rfl
    have kT3 := bT17.cell 3 rfl
    have kT4 := bT17.cell 4 rfl
    have kT5 := bT17.cell 5 rfl
    have kT6 := bT17.cell 6 rfl
    have kT7 := bT17.cell 7 rfl
    have kT8 := bT17.cell 8 rfl
    have kT9 := bT17.cell 9 rfl
    have lT := bT17.lt
    have kO0 := bO17.cell 0 rfl
    have kO1 := bO17.cell 1 rfl
    have kO2 := bO17.cell 2 rfl
    have kO3 := bO17.cell 3 rfl
    have kO4 := bO17.cell 4 rfl
    have kO5 := bO17.cell 5 rfl
    have kO6 := bO17.cell 6 rfl
    have kO7 := bO17.cell 7 rfl
    have kO8 := bO17.cell 8 rfl
    have kO9 := bO17.cell 9 rfl
    have lO := bO17.lt
    have kS0 := bS17.cell 0 rfl
    have kS1 := bS17.cell 1 rfl
    have lS := bS17.lt
    have kU0 := bU17.cell 0 rfl
    have kU1 := bU17.cell 1 rfl
    have lU := bU17.lt
    go_wp2_with fail
    clear kT0 kT1 kT2 kT3 kT4 kT5 kT6 kT7 kT8 kT9 lT kO0 kO1 kO2 kO3 kO4 kO5 kO6 kO7 kO8 kO9 lO kS0 kS1 lS kU0 kU1 lU
    clear HVC16 HVD16
    refine (HSM.out AW cW _ hB17 HTW17.out).mono ?_
    rintro e w18 ⟨rfl, hb18⟩
    have bT18 := bT17.below hb18
    have bO18 := bO17.below hb18
    have bS18 := bS17.below hb18
    have bU18 := bU17.below hb18
    have hB18 := hB17.trans (hb18.mono hB17.size)
    clear bT17 bO17 bS17 bU17 hB17
    clear HTW17
    have kT0 := bT18.cell 0 rfl
    have kT1 := bT18.cell 1 rfl
    have kT2 := bT18.cell 2 rfl
    have kT3 := bT18.cell 3 rfl
    have kT4 := bT18.cell 4 rfl
    have kT5 := bT18.cell 5 rfl
    have kT6 := bT18.cell 6 rfl
    have kT7 := bT18.cell 7 rfl
    have kT8 := bT18.cell 8 rfl
    have kT9 := bT18.cell 9 rfl
    have lT := bT18.lt
    have kO0 := bO18.cell 0 rfl
    have kO1 := bO18.cell 1 rfl
    have kO2 := bO18.cell 2 rfl
    have kO3 := bO18.cell 3 rfl
    have kO4 := bO18.cell 4 rfl
    have kO5 := bO18.cell 5 rfl
    have kO6 := bO18.cell 6 rfl
    have kO7 := bO18.cell 7 rfl
    have kO8 := bO18.cell 8 rfl
    have kO9 := bO18.cell 9 rfl
    have lO := bO18.lt
    have kS0 := bS18.cell 0 rfl
    have kS1 := bS18.cell 1 rfl
    have lS := bS18.lt
    have kU0 := bU18.cell 0 rfl
    have kU1 := bU18.cell 1 rfl
    have lU := bU18.lt
    go_wp2_with fail
    clear kT0 kT1 kT2 kT3 kT4 kT5 kT6 kT7 kT8 kT9 lT kO0 kO1 kO2 kO3 kO4 kO5 kO6 kO7 kO8 kO9 lO kS0 kS1 lS kU0 kU1 lU
    refine (HWK.out _).mono ?_
    rintro e w19 ⟨rfl, hb19⟩
    have bT19 := bT18.below hb19
    have bO19 := bO18.below hb19
    have bS19 := bS18.below hb19
    have bU19 := bU18.below hb19
    have hB19 := hB18.trans (hb19.mono hB18.size)
    clear bT18 bO18 bS18 bU18 hB18
    go_wp2_with fail
    go_returns
    exact ⟨rfl, hB19⟩
  · rw [hf] at HFA
    clear hf hg
    obtain ⟨d, gain, ts⟩ := t
    obtain ⟨full, read, slip, skew, circ, glo, ghi, wrn, dws⟩ := d
    unfold tiV at *
    dsimp only at *
    go_enter Tryz.func3, Tryz.ntmps3
    go_wp2_with fail
    have bT1 := (BoxS.new w 28 #[.int .i64 full, .int .i64 read, .int .i64 slip, .int .i64 skew, .int .i64 circ, .int .i64 glo, .int .i64 ghi, .int .i64 wrn, .int .i64 gain, .slice A ts.length c])
    have hB1 : Below w.heap.size w (World.alloc w (.cells #[.int .i64 full, .int .i64 read, .int .i64 slip, .int .i64 skew, .int .i64 circ, .int .i64 glo, .int .i64 ghi, .int .i64 wrn, .int .i64 gain, .slice A ts.length c] 28)) := by (repeat' (first | (with_reducible exact Below.refl _ _) | (with_reducible assumption) | (with_reducible refine Below.alloc ?_ ?_ _) | (with_reducible refine Below.drew ?_) | (with_reducible refine Below.setCell ?_ ?_ _) | go_size | (exact (by simp)) | omega))
    generalize World.alloc w _ = w1 at *
    refine (HFA.out _ hB1).mono ?_
    rintro e w2 ⟨rfl, hb2⟩
    have bT2 := bT1.below hb2
    have hB2 := hB1.trans (hb2.mono hB1.size)
    clear bT1 hB1
    have kT0 := bT2.cell 0 rfl
    have kT1 := bT2.cell 1 rfl
    have kT2 := bT2.cell 2 rfl
    have kT3 := bT2.cell 3 rfl
    have kT4 := bT2.cell 4 rfl
    have kT5 := bT2.cell 5 rfl
    have kT6 := bT2.cell 6 rfl
    have kT7 := bT2.cell 7 rfl
    have kT8 := bT2.cell 8 rfl
    have kT9 := bT2.cell 9 rfl
    have lT := bT2.lt
    go_wp2_with fail
    clear kT0 kT1 kT2 kT3 kT4 kT5 kT6 kT7 kT8 kT9 lT
    refine (HWK.out _).mono ?_
    rintro e w3 ⟨rfl, hb3⟩
    have bT3 := bT2.below hb3
    have hB3 := hB2.trans (hb3.mono hB2.size)
    clear bT2 hB2
    go_wp2_with fail
    go_returns
    exact ⟨rfl, hB3⟩
end Go.Proofs.YtkmacpkjobdffaaGreat
namespace Go.Proofs.YtkmacpkjobdffaaGreat
open Go.RowKit
set_option maxRecDepth 100000 in
set_option maxHeartbeats 4000000 in
theorem lawTrialsErrs_long (t : Ti.Tri) (A : Option Addr) (c : Nat) (a : Int) (w : World) (hll : 20 < t.ts.length ∨ Ti.longTo t.ts t.ts.length = true) (hg : Tsts0 w w.heap.size A t.ts) :
    Calls Tryz.prog 3 #[.agg (tiV t A c), .int .i64 a] w fun e w' => e = .returned (.bool true) ∧ Below w.heap.size w w' := by
  have HWK : Hid (∀ W, Calls Tryz.prog 9 #[] W fun e w' => e = .returned (.bool true) ∧ Below W.heap.size W w') := works9_any
  have HFA : Hid (∀ W, Below w.heap.size w W → Calls Tryz.prog 8 #[.agg (tiV t A c)] W fun e w' => e = .returned (.bool true) ∧ Below W.heap.size W w') := fun W hW => Far9_long t A c W hll (hg.below hW)
  clear hg hll
  obtain ⟨d, gain, ts⟩ := t
  obtain ⟨full, read, slip, skew, circ, glo, ghi, wrn, dws⟩ := d
  unfold tiV at *
  dsimp only at *
  go_enter Tryz.func3, Tryz.ntmps3
  go_wp2_with fail
  have bT1 := (BoxS.new w 28 #[.int .i64 full, .int .i64 read, .int .i64 slip, .int .i64 skew, .int .i64 circ, .int .i64 glo, .int .i64 ghi, .int .i64 wrn, .int .i64 gain, .slice A ts.length c])
  have hB1 : Below w.heap.size w (World.alloc w (.cells #[.int .i64 full, .int .i64 read, .int .i64 slip, .int .i64 skew, .int .i64 circ, .int .i64 glo, .int .i64 ghi, .int .i64 wrn, .int .i64 gain, .slice A ts.length c] 28)) := by (repeat' (first | (with_reducible exact Below.refl _ _) | (with_reducible assumption) | (with_reducible refine Below.alloc ?_ ?_ _) | (with_reducible refine Below.drew ?_) | (with_reducible refine Below.setCell ?_ ?_ _) | go_size | (exact (by simp)) | omega))
  generalize World.alloc w _ = w1 at *
  refine (HFA.out _ hB1).mono ?_
  rintro e w2 ⟨rfl, hb2⟩
  have bT2 := bT1.below hb2
  have hB2 := hB1.trans (hb2.mono hB1.size)
  clear bT1 hB1
  have kT0 := bT2.cell 0 rfl
  have kT1 := bT2.cell 1 rfl
  have kT2 := bT2.cell 2 rfl
  have kT3 := bT2.cell 3 rfl
  have kT4 := bT2.cell 4 rfl
  have kT5 := bT2.cell 5 rfl
  have kT6 := bT2.cell 6 rfl
  have kT7 := bT2.cell 7 rfl
  have kT8 := bT2.cell 8 rfl
  have kT9 := bT2.cell 9 rfl
  have lT := bT2.lt
  go_wp2_with fail
  clear kT0 kT1 kT2 kT3 kT4 kT5 kT6 kT7 kT8 kT9 lT
  refine (HWK.out _).mono ?_
  rintro e w3 ⟨rfl, hb3⟩
  have bT3 := bT2.below hb3
  have hB3 := hB2.trans (hb3.mono hB2.size)
  clear bT2 hB2
  go_wp2_with fail
  go_returns
  exact ⟨rfl, hB3⟩
theorem lawTrialsErrs_all (t : Ti.Tri) (A : Option Addr) (c : Nat) (a : Int) (w : World) (_ : t.ts.length ≤ maxLen) (hg : Tsts0 w w.heap.size A t.ts) :
    Calls Tryz.prog 3 #[.agg (tiV t A c), .int .i64 a] w fun e w' => e = .returned (.bool true) ∧ Below w.heap.size w w' := by
  by_cases hll : 20 < t.ts.length ∨ Ti.longTo t.ts t.ts.length = true
  · exact lawTrialsErrs_long t A c a w hll hg
  · have h1 : ¬ 20 < t.ts.length := fun h => hll (.inl h)
    have h2 : Ti.longTo t.ts t.ts.length = false := by simpa using fun h => hll (.inr h)
    exact lawErrs9_walk t A c a w (by omega) (hg.short h2)
open Go.ChangeShapes Go.WideShapes Go.ChangeAt Go.RowKit Go.Joins Go.Deep

open Go.ChangeShapes Go.WideShapes Go.ChangeAt Go.RowKit Go.Joins

set_option maxRecDepth 100000 in
theorem errs9_lifted (os : Os) (started : os.Started) (H : Type) (enc : TypeId × Value → H) :
    ReturnsInHanded {} Tryz.checked os 3 .any (Rows.trialsErrsSpec.pre6 enc Tryz.prog Tryz.f3 Rows.trialsErrsRow.domain false) (Rows.trialsErrsSpec.post enc Tryz.prog Tryz.f3 false true false false) := by
  refine returnsInHanded_of_change (C := Tryz.checked) own started (by kernel_rfl) Tryz.func3
    (ChangeSpec.witness6 (enc := enc) (C := Tryz.checked) false ⟨#[], #[.agg #[.int .i64 0, .int .i64 0, .int .i64 0, .int .i64 0, .int .i64 0, .int .i64 0, .int .i64 0, .int .i64 0, .int .i64 0, .slice none 0 0], .int .i64 0], []⟩ 8 (by kernel_rfl) (by kernel_rfl) (by kernel_rfl) (by kernel_rfl)) ?_
  intro W base args ds gs before hval0 hW hcnd _
  have hval : ∀ (j : Nat) t v, Tryz.f3.params[j]? = some t → args[j]? = some v → Value.okWide Tryz.prog W .any base t v := hval0
  have hW' := hW
  obtain ⟨p, q, hA0, hV, rfl, hfz, hnd⟩ := hW
  have hA : DataW.TrodAll enc Tryz.prog W 0 (fun _ => true) true Tryz.f3.params.toList args.toList ds p := hA0
  rw [Tryz.params3] at hA hval
  obtain ⟨v0, v1, d0, d1, p0, p1, rfl, rfl, rfl, h0, h1⟩ := trodAll_two hA
  obtain ⟨rfl, rfl⟩ := trodVars_none hV
  obtain ⟨t, A, c, rfl, hh0_0, hh0_1⟩ := open_Trial (hval 0 28 v0 rfl rfl) h0
  obtain ⟨a, rfl, rfl, rfl, wf_a⟩ := open_int Tryz.underlying3 (hval 1 3 v1 rfl rfl) h1
  refine (lawTrialsErrs_all t A c a W hh0_0 hh0_1).mono fun e W' ⟨he, hb⟩ => ?_
  subst he
  exact ⟨_, rfl, law_post hW' rfl rfl (by intro t ht; have : t = 28 ∨ t = 3 := (by rw [Tryz.params3] at ht; simpa using ht); rcases this with rfl | rfl <;> exact ⟨by kernel_rfl, of_decide_eq_true (by kernel_rfl)⟩) rfl rfl rfl hb⟩

theorem errs9_holds : Rows.TrialsErrsSaid :=
  OpenClaim.holds_of_wide 3 Tryz.f3 rfl rfl rfl rfl rfl rfl rfl ⟨rfl, rfl, rfl, rfl, rfl⟩ rfl rfl rfl rfl rfl (by kernel_rfl) Tryz.func3 (by kernel_rfl)
    (of_decide_eq_true (by kernel_rfl)) (by unfold Func.isWrapper; rw [if_neg (of_decide_eq_false (by kernel_rfl))]; exact ⟨rfl, rfl⟩)
    (fun os started H enc _ => errs9_lifted os started H enc)
end Go.Proofs.YtkmacpkjobdffaaGreat
