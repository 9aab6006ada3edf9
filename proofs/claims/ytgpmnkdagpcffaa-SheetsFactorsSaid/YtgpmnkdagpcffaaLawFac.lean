/- Sheets: the law SheetsFactors: Check, Fewest, Many and Factors answer as the document says, for any sheet and direction. -/
import Derived.Test.YtgpmnkdagpcffaaFac
namespace Go.Proofs.Ytgpmnkdagpcffaa
open Go.RowKit
set_option maxRecDepth 100000 in
set_option maxHeartbeats 8000000 in
theorem SheetsFactors_walk (s : Sheet) (A : Option Addr) (c : Nat) (way : Int) (w : World) (_hl : s.cs.length ≤ maxLen) (hg : Cts w w.heap.size A s.cs) :
    Calls Try.prog 8 #[.agg (shV s A c), .int .i64 way] w (TruePost w) := by
  have HWK : Hid (∀ W, Calls Try.prog 15 #[] W fun e w' => e = .returned (.bool true) ∧ Below W.heap.size W w') := works_any
  have HF1 : Hid (∀ W, Below w.heap.size w W → Calls Try.prog 40 #[.agg (shV s A c)] W fun e w' => e = .returned (.bool (Sh.farB s)) ∧ Below W.heap.size W w') := fun W hW => Far4_any s A c W ((hg.keep hW).wider hW.size)
  have HCO : Hid (Sh.farB s = false → ∀ W, Below w.heap.size w W → Calls Try.prog 19 #[.agg (shV s A c)] W (Copy4Post s W)) := fun h W hW => Copy4_any s A c (by have := Sh.far_len h; omega) W ((hg.keep hW).wider hW.size)
  have HC1 : Hid (Sh.farB s = false → ∀ A c W, Cts W W.heap.size A s.cs → Calls Try.prog 41 #[.agg (shV s A c)] W (ErrPost (Sh.chkE s) W)) := fun h A c W hC => shCheck_any s A c W (by have := Sh.far_len h; omega) hC
  have HC2 : Hid (Sh.farB s = false → ∀ W, Below w.heap.size w W → Calls Try.prog 27 #[.agg (shV s A c)] W (ErrPost (Sh.chkE s) W)) := fun h W hW => refCheck4_any s A c W (by have := Sh.far_len h; omega) ((hg.keep hW).wider hW.size)
  have HN1 : Hid (Sh.farB s = false → ∀ A c W, Cts W W.heap.size A s.cs → Calls Try.prog 16 #[.agg (shV s A c)] W (TwoPost (Sh.fewV s) (Sh.chkE s) W)) := fun h A c W hC => Fewest_any s A c W (by have := Sh.far_len h; omega) hC
  have HN2 : Hid (Sh.farB s = false → ∀ W, Below w.heap.size w W → Calls Try.prog 42 #[.agg (shV s A c)] W (TwoPost (Sh.fewV s) (Sh.chkE s) W)) := fun h W hW => Fewest4_any s A c W (by have := Sh.far_len h; omega) ((hg.keep hW).wider hW.size)
  have HM1 : Hid (Sh.farB s = false → ∀ A c W, Cts W W.heap.size A s.cs → Calls Try.prog 17 #[.agg (shV s A c)] W (TwoPost (Sh.manyV s) (Sh.spE s) W)) := fun h A c W hC => Many_any s A c W (by have := Sh.far_len h; omega) hC
  have HM2 : Hid (Sh.farB s = false → ∀ W, Below w.heap.size w W → Calls Try.prog 43 #[.agg (shV s A c)] W (TwoPost (Sh.manyV s) (Sh.spE s) W)) := fun h W hW => Many4_any s A c W (by have := Sh.far_len h; omega) ((hg.keep hW).wider hW.size)
  have HS1 : Hid (Sh.farB s = false → ∀ A c W, Cts W W.heap.size A s.cs → Calls Try.prog 22 #[.agg (shV s A c), .int .i64 way] W (IntsEPost (Sh.facR s way) (Sh.facE s way) W)) := fun h A c W hC => Factors_any s way A c W (by have := Sh.far_len h; omega) hC
  have HS2 : Hid (Sh.farB s = false → ∀ W, Below w.heap.size w W → Calls Try.prog 44 #[.agg (shV s A c), .int .i64 way] W (IntsEPost (Sh.facR s way) (Sh.facE s way) W)) := fun h W hW => Factors4_any s way A c W (by have := Sh.far_len h; omega) ((hg.keep hW).wider hW.size)
  have HSA : Hid (Sh.farB s = false → ∀ A' c' W, Below w.heap.size w W → Cts W W.heap.size A' s.cs → Calls Try.prog 45 #[.agg (shV s A' c'), .agg (shV s A c)] W (TruePost W)) := fun h A' c' W hW hC => same4_yes s A A' c c' (by have := Sh.far_len h; omega) W ((hg.keep hW).wider hW.size) hC
  have HSI : Hid (∀ v v' W, Ints W W.heap.size v (Sh.facR s way) → Ints W W.heap.size v' (Sh.facR s way) → Calls Try.prog 26 #[v, v'] W (TruePost W)) := fun v v' W h1 h2 => by
    have hlen := Sh.facR_len s way
    have := sameInts_any v v' _ _ W h1 h2 (by omega) (by omega)
    rw [decide_eq_true rfl] at this
    exact this
  unfold Copy4Post at HCO
  unfold IntsEPost at HS1 HS2
  generalize Sh.chkE s = CE at *
  generalize Sh.fewV s = FV at *
  generalize Sh.manyV s = MV at *
  generalize Sh.facR s way = FL at *
  generalize Sh.facE s way = FE at *
  generalize Sh.spE s = SE at *
  generalize Sh.farB s = FB at *
  clear hg
  obtain ⟨al, ah, bl, bh, cs, wrn⟩ := s
  unfold shV at *
  dsimp only at *
  cases FB with
  | true =>
    go_enter Try.func8, Try.ntmps8
    go_wp2_with fail
    have bS1 := BoxS.new w 26 #[.int .i64 al, .int .i64 ah, .int .i64 bl, .int .i64 bh, .slice A cs.length c, .int .i64 wrn]
    have hB1 : Below w.heap.size w (w.alloc (.cells #[.int .i64 al, .int .i64 ah, .int .i64 bl, .int .i64 bh, .slice A cs.length c, .int .i64 wrn] 26)) := by (repeat' (first | (with_reducible exact Below.refl _ _) | (with_reducible assumption) | (with_reducible refine Below.alloc ?_ ?_ _) | (with_reducible refine Below.drew ?_) | (with_reducible refine Below.setCell ?_ ?_ _) | go_size | (exact (by simp)) | omega))
    generalize World.alloc w _ = w1 at *
    refine (HF1.out _ hB1).mono ?_
    rintro e w2 ⟨rfl, hb2⟩
    have bS2 := bS1.below hb2
    have hB2 := hB1.trans (hb2.mono hB1.size)
    clear bS1 hB1 hb2
    obtain ⟨⟨s0, s1, s2⟩, s3, s4, s5⟩ := boxS6 bS2
    have lS2 := bS2.lt
    go_wp2_with fail
    refine (HWK.out _).mono ?_
    rintro e wz ⟨rfl, hbz⟩
    have hBz := hB2.trans (hbz.mono hB2.size)
    go_wp2_with fail
    go_returns
    exact ⟨rfl, hBz⟩
  | false =>
    have HCO2 := Lib.hid (HCO.out rfl)
    have HC12 := Lib.hid (HC1.out rfl)
    have HC22 := Lib.hid (HC2.out rfl)
    have HN12 := Lib.hid (HN1.out rfl)
    have HN22 := Lib.hid (HN2.out rfl)
    have HM12 := Lib.hid (HM1.out rfl)
    have HM22 := Lib.hid (HM2.out rfl)
    have HS12 := Lib.hid (HS1.out rfl)
    have HS22 := Lib.hid (HS2.out rfl)
    have HSA2 := Lib.hid (HSA.out rfl)
    clear HCO HC1 HC2 HN1 HN2 HM1 HM2 HS1 HS2 HSA
    go_enter Try.func8, Try.ntmps8
    go_wp2_with fail
    have bS1 := BoxS.new w 26 #[.int .i64 al, .int .i64 ah, .int .i64 bl, .int .i64 bh, .slice A cs.length c, .int .i64 wrn]
    have hB1 : Below w.heap.size w (w.alloc (.cells #[.int .i64 al, .int .i64 ah, .int .i64 bl, .int .i64 bh, .slice A cs.length c, .int .i64 wrn] 26)) := by (repeat' (first | (with_reducible exact Below.refl _ _) | (with_reducible assumption) | (with_reducible refine Below.alloc ?_ ?_ _) | (with_reducible refine Below.drew ?_) | (with_reducible refine Below.setCell ?_ ?_ _) | go_size | (exact (by simp)) | omega))
    generalize World.alloc w _ = w1 at *
    refine (HF1.out _ hB1).mono ?_
    rintro e w2 ⟨rfl, hb2⟩
    have bS2 := bS1.below hb2
    have hB2 := hB1.trans (hb2.mono hB1.size)
    clear bS1 hB1 hb2
    obtain ⟨⟨s0, s1, s2⟩, s3, s4, s5⟩ := boxS6 bS2
    have lS2 := bS2.lt
    go_wp2_with fail
    refine (HCO2.out _ hB2).mono ?_
    rintro e w3 ⟨A', c', rfl, hC, hb3⟩
    have bS3 := bS2.below hb3
    have hB3 := hB2.trans (hb3.mono hB2.size)
    clear s0 s1 s2 s3 s4 s5 lS2 bS2 hB2 hb3 HCO2
    have HC3 := Lib.hid hC
    clear hC
    obtain ⟨⟨s0, s1, s2⟩, s3, s4, s5⟩ := boxS6 bS3
    have lS3 := bS3.lt
    go_wp2_with fail
    have bO4n := BoxS.new w3 26 #[.int .i64 al, .int .i64 ah, .int .i64 bl, .int .i64 bh, .slice A' cs.length c', .int .i64 wrn]
    have hbx : Below w3.heap.size w3 (w3.alloc (.cells #[.int .i64 al, .int .i64 ah, .int .i64 bl, .int .i64 bh, .slice A' cs.length c', .int .i64 wrn] 26)) := (Below.refl _ _).alloc (Nat.le_refl _) _
    have bS4 := bS3.below hbx
    have hB4 := hB3.trans (hbx.mono hB3.size)
    have HC4 : Hid (Cts (w3.alloc (.cells #[.int .i64 al, .int .i64 ah, .int .i64 bl, .int .i64 bh, .slice A' cs.length c', .int .i64 wrn] 26)) (w3.alloc (.cells #[.int .i64 al, .int .i64 ah, .int .i64 bl, .int .i64 bh, .slice A' cs.length c', .int .i64 wrn] 26)).heap.size A' cs) := (HC3.out.keep hbx).wider hbx.size
    obtain ⟨BO, hBe⟩ : ∃ B, B = w3.heap.size := ⟨_, rfl⟩
    have kO : w.heap.size < BO := by have := bS3.lt; omega
    rw [← hBe] at bO4n ⊢
    have bO4 := bO4n
    clear s0 s1 s2 s3 s4 s5 lS3 bS3 HC3 hB3 hbx hBe bO4n
    generalize World.alloc w3 _ = w4 at *
    refine (wpIn_wide (n := 4)).1 ?_
    have hmo : Try.prog.follows .mixedOrders = true := by kernel_rfl
    have q0 : Below w4.heap.size w4 w4.drew := (Below.refl _ _).drew
    have KC : Hid (∀ W', Below w4.heap.size w4 W' → ((W'.cell? ⟨BO, 0, none⟩ = some (.int .i64 al) ∧ W'.cell? ⟨BO, 1, none⟩ = some (.int .i64 ah) ∧ W'.cell? ⟨BO, 2, none⟩ = some (.int .i64 bl)) ∧ W'.cell? ⟨BO, 3, none⟩ = some (.int .i64 bh) ∧ W'.cell? ⟨BO, 4, none⟩ = some (.slice A' cs.length c') ∧ W'.cell? ⟨BO, 5, none⟩ = some (.int .i64 wrn)) ∧ ((W'.cell? ⟨w.heap.size, 0, none⟩ = some (.int .i64 al) ∧ W'.cell? ⟨w.heap.size, 1, none⟩ = some (.int .i64 ah) ∧ W'.cell? ⟨w.heap.size, 2, none⟩ = some (.int .i64 bl)) ∧ W'.cell? ⟨w.heap.size, 3, none⟩ = some (.int .i64 bh) ∧ W'.cell? ⟨w.heap.size, 4, none⟩ = some (.slice A cs.length c) ∧ W'.cell? ⟨w.heap.size, 5, none⟩ = some (.int .i64 wrn))) := fun W' h => ⟨boxS6 (bO4.below h), boxS6 (bS4.below h)⟩
    have HC13 : Hid (∀ W, Below w4.heap.size w4 W → Calls Try.prog 41 #[.agg #[.int .i64 al, .int .i64 ah, .int .i64 bl, .int .i64 bh, .slice A' cs.length c', .int .i64 wrn]] W (ErrPost CE W)) := fun W hW => HC12.out A' c' W ((HC4.out.keep hW).wider hW.size)
    have HC23 : Hid (∀ W, Below w4.heap.size w4 W → Calls Try.prog 27 #[.agg #[.int .i64 al, .int .i64 ah, .int .i64 bl, .int .i64 bh, .slice A cs.length c, .int .i64 wrn]] W (ErrPost CE W)) := fun W hW => HC22.out W (hB4.trans (hW.mono hB4.size))
    refine wpIn_region_held (fun W' => Below w4.heap.size w4 W') 30 hmo ?_
    refine wpHeldIn_take (i := 0) (v := ?_) (plain_of (by kernel_rfl)) rfl (by kernel_rfl) (fun _ _ _ h => h) (yieldsSoIn_of (by kernel_rfl) ?_ (fun _ => rfl)) q0 ?_; rotate_left; focus (intro wq hw; have kq := KC.out wq hw; clear hw; go_simp; try (with_reducible rfl))
    refine wpHeldIn_take (i := 2) (v := ?_) (plain_of (by kernel_rfl)) rfl (by kernel_rfl) (fun _ _ _ h => h) (yieldsSoIn_of (by kernel_rfl) ?_ (fun _ => rfl)) q0 ?_; rotate_left; focus (intro wq hw; have kq := KC.out wq hw; clear hw; go_simp; try (with_reducible rfl))
    refine wpHeldIn_one (i := 1) (by kernel_rfl) (by kernel_rfl) rfl (by kernel_rfl) (fun K1 hK1 => ?_)
    go_simp
    refine ⟨trivial, (callsIn_wide.2 (HC13.out _ q0)).mono ?_⟩
    rintro ea wa ⟨rfl, hba⟩
    have q1 := q0.trans (hba.mono q0.size)
    refine hK1 _ _ q1 ?_
    refine wpHeldIn_one (i := 3) (by kernel_rfl) (by kernel_rfl) rfl (by kernel_rfl) (fun K2 hK2 => ?_)
    go_simp
    refine ⟨trivial, (callsIn_wide.2 (HC23.out _ q1)).mono ?_⟩
    rintro eb w5 ⟨rfl, hbb⟩
    have q2 := q1.trans (hbb.mono q1.size)
    refine hK2 _ _ q2 ?_
    refine wpHeldIn_take (i := 4) (v := ?_) (plain_of (by kernel_rfl)) rfl (by kernel_rfl) (fun _ _ _ h => h) (yieldsSoIn_of (by kernel_rfl) ?_ (fun _ => rfl)) q2 ?_; rotate_left; focus (intro wq hw; clear hw; go_simp; try (with_reducible rfl))
    refine wpHeldIn_done (by kernel_rfl) ?_ _
    go_simp
    have bS5 := bS4.below q2
    have bO5 := bO4.below q2
    have hB5 := hB4.trans (q2.mono hB4.size)
    have HC5 : Hid (Cts w5 w5.heap.size A' cs) := (HC4.out.keep q2).wider q2.size
    clear KC q0 q1 q2 hba hbb HC13 HC23 HC12 HC22 bS4 bO4 HC4 hB4
    obtain ⟨⟨o0, o1, o2⟩, o3, o4, o5⟩ := boxS6 bO5
    have lO5 := bO5.lt
    obtain ⟨⟨s0, s1, s2⟩, s3, s4, s5⟩ := boxS6 bS5
    have lS5 := bS5.lt
    go_wp2_with fail
    refine (HN12.out A' c' _ HC5.out).mono ?_
    rintro e w6 ⟨rfl, hb6⟩
    have bS6 := bS5.below hb6
    have bO6 := bO5.below hb6
    have hB6 := hB5.trans (hb6.mono hB5.size)
    have HC6 : Hid (Cts w6 w6.heap.size A' cs) := (HC5.out.keep hb6).wider hb6.size
    clear o0 o1 o2 o3 o4 o5 lO5 s0 s1 s2 s3 s4 s5 lS5 bS5 bO5 HC5 hB5 hb6 HN12
    obtain ⟨⟨o0, o1, o2⟩, o3, o4, o5⟩ := boxS6 bO6
    have lO6 := bO6.lt
    obtain ⟨⟨s0, s1, s2⟩, s3, s4, s5⟩ := boxS6 bS6
    have lS6 := bS6.lt
    go_wp2_with fail
    refine (HN22.out _ hB6).mono ?_
    rintro e w7 ⟨rfl, hb7⟩
    have bS7 := bS6.below hb7
    have bO7 := bO6.below hb7
    have hB7 := hB6.trans (hb7.mono hB6.size)
    have HC7 : Hid (Cts w7 w7.heap.size A' cs) := (HC6.out.keep hb7).wider hb7.size
    clear o0 o1 o2 o3 o4 o5 lO6 s0 s1 s2 s3 s4 s5 lS6 bS6 bO6 HC6 hB6 hb7 HN22
    obtain ⟨⟨o0, o1, o2⟩, o3, o4, o5⟩ := boxS6 bO7
    have lO7 := bO7.lt
    obtain ⟨⟨s0, s1, s2⟩, s3, s4, s5⟩ := boxS6 bS7
    have lS7 := bS7.lt
    go_wp2_with fail
    refine (HM12.out A' c' _ HC7.out).mono ?_
    rintro e w8 ⟨rfl, hb8⟩
    have bS8 := bS7.below hb8
    have bO8 := bO7.below hb8
    have hB8 := hB7.trans (hb8.mono hB7.size)
    have HC8 : Hid (Cts w8 w8.heap.size A' cs) := (HC7.out.keep hb8).wider hb8.size
    clear o0 o1 o2 o3 o4 o5 lO7 s0 s1 s2 s3 s4 s5 lS7 bS7 bO7 HC7 hB7 hb8 HM12
    obtain ⟨⟨o0, o1, o2⟩, o3, o4, o5⟩ := boxS6 bO8
    have lO8 := bO8.lt
    obtain ⟨⟨s0, s1, s2⟩, s3, s4, s5⟩ := boxS6 bS8
    have lS8 := bS8.lt
    go_wp2_with fail
    refine (HM22.out _ hB8).mono ?_
    rintro e w9 ⟨rfl, hb9⟩
    have bS9 := bS8.below hb9
    have bO9 := bO8.below hb9
    have hB9 := hB8.trans (hb9.mono hB8.size)
    have HC9 : Hid (Cts w9 w9.heap.size A' cs) := (HC8.out.keep hb9).wider hb9.size
    clear o0 o1 o2 o3 o4 o5 lO8 s0 s1 s2 s3 s4 s5 lS8 bS8 bO8 HC8 hB8 hb9 HM22
    obtain ⟨⟨o0, o1, o2⟩, o3, o4, o5⟩ := boxS6 bO9
    have lO9 := bO9.lt
    obtain ⟨⟨s0, s1, s2⟩, s3, s4, s5⟩ := boxS6 bS9
    have lS9 := bS9.lt
    go_wp2_with fail
    refine (HS12.out A' c' _ HC9.out).mono ?_
    rintro e w10 ⟨v7, rfl, hI7, hb10⟩
    have bS10 := bS9.below hb10
    have bO10 := bO9.below hb10
    have hB10 := hB9.trans (hb10.mono hB9.size)
    have HC10 : Hid (Cts w10 w10.heap.size A' cs) := (HC9.out.keep hb10).wider hb10.size
    clear o0 o1 o2 o3 o4 o5 lO9 s0 s1 s2 s3 s4 s5 lS9 bS9 bO9 HC9 hB9 hb10 HS12
    obtain ⟨⟨o0, o1, o2⟩, o3, o4, o5⟩ := boxS6 bO10
    have lO10 := bO10.lt
    obtain ⟨⟨s0, s1, s2⟩, s3, s4, s5⟩ := boxS6 bS10
    have lS10 := bS10.lt
    go_wp2_with fail
    refine (HS22.out _ hB10).mono ?_
    rintro e w11 ⟨v8, rfl, hI8, hb11⟩
    have bS11 := bS10.below hb11
    have bO11 := bO10.below hb11
    have hB11 := hB10.trans (hb11.mono hB10.size)
    have HC11 : Hid (Cts w11 w11.heap.size A' cs) := (HC10.out.keep hb11).wider hb11.size
    have hI78 : Hid (Ints w11 w11.heap.size v7 FL) := (hI7.out.keep hb11).more hb11.size
    clear o0 o1 o2 o3 o4 o5 lO10 s0 s1 s2 s3 s4 s5 lS10 bS10 bO10 HC10 hB10 hb11 hI7 HS22
    go_wp2_with fail
    refine (HSI.out v7 v8 _ hI78.out hI8.out).mono ?_
    rintro e w12 ⟨rfl, hb12⟩
    have bS12 := bS11.below hb12
    have bO12 := bO11.below hb12
    have hB12 := hB11.trans (hb12.mono hB11.size)
    have HC12 : Hid (Cts w12 w12.heap.size A' cs) := (HC11.out.keep hb12).wider hb12.size
    clear bS11 bO11 HC11 hB11 hb12 hI78 hI8 HSI
    obtain ⟨⟨o0, o1, o2⟩, o3, o4, o5⟩ := boxS6 bO12
    have lO12 := bO12.lt
    obtain ⟨⟨s0, s1, s2⟩, s3, s4, s5⟩ := boxS6 bS12
    have lS12 := bS12.lt
    go_wp2_with fail
    refine (HSA2.out A' c' _ hB12 HC12.out).mono ?_
    rintro e w13 ⟨rfl, hb13⟩
    have bS13 := bS12.below hb13
    have bO13 := bO12.below hb13
    have hB13 := hB12.trans (hb13.mono hB12.size)
    have HC13 : Hid (Cts w13 w13.heap.size A' cs) := (HC12.out.keep hb13).wider hb13.size
    clear o0 o1 o2 o3 o4 o5 lO12 s0 s1 s2 s3 s4 s5 lS12 bS12 bO12 HC12 hB12 hb13 HSA2
    go_wp2_with fail
    refine (HWK.out _).mono ?_
    rintro e wz ⟨rfl, hbz⟩
    have hBz := hB13.trans (hbz.mono hB13.size)
    go_wp2_with fail
    go_returns
    exact ⟨rfl, hBz⟩

open Go.ChangeShapes Go.WideShapes Go.ChangeAt Go.RowKit Go.Joins

set_option maxRecDepth 100000 in
theorem factors_lifted (os : Os) (started : os.Started) (H : Type) (enc : TypeId × Value → H) :
    ReturnsInHanded {} Try.checked os 8 .any (Rows.sheetsFactorsSpec.pre6 enc Try.prog Try.f8 Rows.sheetsFactorsRow.domain false) (Rows.sheetsFactorsSpec.post enc Try.prog Try.f8 false true false false) := by
  refine returnsInHanded_of_change (C := Try.checked) own started (by kernel_rfl) Try.func8
    (ChangeSpec.witness6 (enc := enc) (C := Try.checked) false ⟨#[], #[.agg #[.int .i64 0, .int .i64 0, .int .i64 0, .int .i64 0, .slice none 0 0, .int .i64 0], .int .i64 0], []⟩ 8 (by kernel_rfl) (by kernel_rfl) (by kernel_rfl) (by kernel_rfl)) ?_
  intro W base args ds gs before hval0 hW hcnd _
  have hval : ∀ (j : Nat) t v, Try.f8.params[j]? = some t → args[j]? = some v → Value.okWide Try.prog W .any base t v := hval0
  have hW' := hW
  obtain ⟨p, q, hA0, hV, rfl, hfz, hnd⟩ := hW
  have hA : DataW.TrodAll enc Try.prog W 0 (fun _ => true) true Try.f8.params.toList args.toList ds p := hA0
  rw [Try.params8] at hA hval
  obtain ⟨v0, v1, d0, d1, p0, p1, rfl, rfl, rfl, h0, h1⟩ := trodAll_two hA
  obtain ⟨rfl, rfl⟩ := trodVars_none hV
  obtain ⟨s, A, c, rfl, hg_s, hl_s⟩ := open_Sheet (hval 0 26 v0 rfl rfl) h0
  obtain ⟨way, rfl, rfl, rfl, wf_way⟩ := open_int Try.underlying3 (hval 1 3 v1 rfl rfl) h1
  refine (SheetsFactors_walk s A c way W hl_s hg_s).mono fun e W' ⟨he, hb⟩ => ?_
  subst he
  exact ⟨_, rfl, law_post hW' rfl rfl (by intro t ht; have : t = 26 ∨ t = 3 := (by rw [Try.params8] at ht; simpa using ht); rcases this with rfl | rfl <;> exact ⟨by kernel_rfl, of_decide_eq_true (by kernel_rfl)⟩) rfl rfl rfl hb⟩

theorem factors_holds : Rows.SheetsFactorsSaid :=
  OpenClaim.holds_of_wide 8 Try.f8 rfl rfl rfl rfl rfl rfl rfl ⟨rfl, rfl, rfl, rfl, rfl⟩ rfl rfl rfl rfl rfl (by kernel_rfl) Try.func8 (by kernel_rfl)
    (of_decide_eq_true (by kernel_rfl)) (by unfold Func.isWrapper; rw [if_neg (of_decide_eq_false (by kernel_rfl))]; exact ⟨rfl, rfl⟩)
    (fun os started H enc _ => factors_lifted os started H enc)
end Go.Proofs.Ytgpmnkdagpcffaa
