/- Trials: two trials that are answered alike. -/
import Derived.Test.YtkmacpkjobdffaaTqB
import Derived.Test.YtkmacpkjobdffaaSameI
namespace Go.Proofs.Ytkmacpkjobdffaa
open Go.RowKit
set_option maxRecDepth 100000 in
set_option maxHeartbeats 16000000 in
theorem Alike9_any (t : Ti.Tri) (us : List Ti.Tst) (A A' : Option Addr) (c c' : Nat) (sz mo : Int) (w : World) (hl : t.ts.length ≤ 1000000000) (hl' : us.length ≤ 1000000000) (hg : Tsts w w.heap.size A t.ts) (hg' : Tsts w w.heap.size A' us) (hcb : Ti.classB sz mo = true)
    (hT : Ti.truthsL { t with ts := us } = Ti.truthsL t) (hO : Ti.opE { t with ts := us } true = Ti.opE t true) (hS : Ti.smE { t with ts := us } sz mo (Ti.opE { t with ts := us } true) = Ti.smE t sz mo (Ti.opE t true)) (hF : Ti.fewV { t with ts := us } sz mo = Ti.fewV t sz mo) :
    Calls Try.prog 24 #[.agg (tiV t A c), .agg (tiV { t with ts := us } A' c'), .agg #[.int .i64 sz, .int .i64 mo]] w fun e w' => e = .returned (.bool true) ∧ Below w.heap.size w w' := by
  have hszB : inB sz 0 9000 = true := by unfold Ti.classB at hcb; rw [Bool.and_eq_true] at hcb; exact hcb.1
  have eM : ∀ E, Ti.manyE E { t with ts := us } = Ti.manyE E t := fun E => by unfold Ti.manyE; rw [hT]
  have eA : ∀ f E, Ti.allE f E { t with ts := us } = Ti.allE f E t := fun f E => by unfold Ti.allE; rw [hT]
  have eL : ∀ f E, Ti.lowE f E { t with ts := us } = Ti.lowE f E t := fun f E => by unfold Ti.lowE; rw [hT]
  have eH : ∀ f E, Ti.highE f E { t with ts := us } = Ti.highE f E t := fun f E => by unfold Ti.highE; rw [hT]
  have HM1 : Hid (∀ W, Below w.heap.size w W → Calls Try.prog 11 #[.agg (tiV t A c)] W (TwoPost (Ti.manyE (Ti.opE t true) t) (Ti.opE t true) W)) := fun W hW => by
    have := ManyT_any t A c W hl ((hg.keep hW).wider hW.size)
    exact this
  have HM2 : Hid (∀ W, Below w.heap.size w W → Calls Try.prog 11 #[.agg (tiV { t with ts := us } A' c')] W (TwoPost (Ti.manyE (Ti.opE t true) t) (Ti.opE t true) W)) := fun W hW => by
    have := ManyT_any { t with ts := us } A' c' W hl' ((hg'.keep hW).wider hW.size)
    rwa [hO, eM] at this
  have HG1 : Hid (∀ W, Below w.heap.size w W → Calls Try.prog 16 #[.agg (tiV t A c)] W (IntsEPost (Ti.allE (fun x => x.1) (Ti.opE t true) t) (Ti.opE t true) W)) := fun W hW => by
    have := GainsT_any t A c W hl ((hg.keep hW).wider hW.size)
    exact this
  have HG2 : Hid (∀ W, Below w.heap.size w W → Calls Try.prog 16 #[.agg (tiV { t with ts := us } A' c')] W (IntsEPost (Ti.allE (fun x => x.1) (Ti.opE t true) t) (Ti.opE t true) W)) := fun W hW => by
    have := GainsT_any { t with ts := us } A' c' W hl' ((hg'.keep hW).wider hW.size)
    rwa [hO, eA] at this
  have HS1 : Hid (∀ W, Below w.heap.size w W → Calls Try.prog 17 #[.agg (tiV t A c)] W (IntsEPost (Ti.allE (fun x => x.2) (Ti.opE t true) t) (Ti.opE t true) W)) := fun W hW => by
    have := SkewsT_any t A c W hl ((hg.keep hW).wider hW.size)
    exact this
  have HS2 : Hid (∀ W, Below w.heap.size w W → Calls Try.prog 17 #[.agg (tiV { t with ts := us } A' c')] W (IntsEPost (Ti.allE (fun x => x.2) (Ti.opE t true) t) (Ti.opE t true) W)) := fun W hW => by
    have := SkewsT_any { t with ts := us } A' c' W hl' ((hg'.keep hW).wider hW.size)
    rwa [hO, eA] at this
  have HE1 : Hid (∀ W, Below w.heap.size w W → Calls Try.prog 12 #[.agg (tiV t A c), .int .i64 sz] W (SpanPost (Ti.lowE (fun x => Ti.errV x sz) (Ti.opE t true) t) (Ti.highE (fun x => Ti.errV x sz) (Ti.opE t true) t) (Ti.opE t true) W)) := fun W hW => by
    have := Errs_any t sz A c W hl ((hg.keep hW).wider hW.size)
    rwa [hszB] at this
  have HE2 : Hid (∀ W, Below w.heap.size w W → Calls Try.prog 12 #[.agg (tiV { t with ts := us } A' c'), .int .i64 sz] W (SpanPost (Ti.lowE (fun x => Ti.errV x sz) (Ti.opE t true) t) (Ti.highE (fun x => Ti.errV x sz) (Ti.opE t true) t) (Ti.opE t true) W)) := fun W hW => by
    have := Errs_any { t with ts := us } sz A' c' W hl' ((hg'.keep hW).wider hW.size)
    rwa [hszB, hO, eL, eH] at this
  have HF1 : Hid (∀ W, Below w.heap.size w W → Calls Try.prog 20 #[.agg (tiV t A c), .agg #[.int .i64 sz, .int .i64 mo]] W (TwoPost (Ti.fewV t sz mo) (Ti.smE t sz mo (Ti.opE t true)) W)) := fun W hW => by
    have := Fewest_any t sz mo A c W hl ((hg.keep hW).wider hW.size)
    rwa [hcb] at this
  have HF2 : Hid (∀ W, Below w.heap.size w W → Calls Try.prog 20 #[.agg (tiV { t with ts := us } A' c'), .agg #[.int .i64 sz, .int .i64 mo]] W (TwoPost (Ti.fewV t sz mo) (Ti.smE t sz mo (Ti.opE t true)) W)) := fun W hW => by
    have := Fewest_any { t with ts := us } sz mo A' c' W hl' ((hg'.keep hW).wider hW.size)
    rwa [hcb, hS, hF] at this
  have hGL : (Ti.allE (fun x => x.1) (Ti.opE t true) t).length ≤ 200 := by
    unfold Ti.allE
    split
    · exact Nat.le_trans (Ti.gains_len _) (by decide)
    · simp
  have hSL : (Ti.allE (fun x => x.2) (Ti.opE t true) t).length ≤ 200 := by
    unfold Ti.allE
    split
    · rw [Ti.tskews_eq]
      unfold Ti.skewF
      exact Nat.le_trans (List.length_filter_le _ _) (by simp)
    · simp
  have HSI : Hid (∀ xs : List Int, ∀ v v' W, Ints W W.heap.size v xs → Ints W W.heap.size v' xs → xs.length ≤ 200 → Calls Try.prog 28 #[v, v'] W fun e w' => e = .returned (.bool true) ∧ Below W.heap.size W w') := fun xs v v' W h1 h2 h3 => by
    have := SameInts_any v v' _ _ W h1 h2 (by omega) (by omega)
    rwa [decide_eq_true rfl] at this
  unfold SpanPost at HE1 HE2
  unfold IntsEPost at HG1 HG2 HS1 HS2
  unfold TwoPost at HM1 HM2 HF1 HF2
  clear eM eA eL eH hT hO hS hF hszB hcb hg hg'
  generalize Ti.manyE (Ti.opE t true) t = M at *
  generalize Ti.allE (fun x => x.1) (Ti.opE t true) t = GL at *
  generalize Ti.allE (fun x => x.2) (Ti.opE t true) t = SL at *
  generalize (Ti.lowE (fun x => Ti.errV x sz) (Ti.opE t true) t) = LO at *
  generalize (Ti.highE (fun x => Ti.errV x sz) (Ti.opE t true) t) = HI at *
  generalize Ti.smE t sz mo (Ti.opE t true) = SE at *
  generalize Ti.opE t true = E at *
  generalize Ti.fewV t sz mo = FW at *
  obtain ⟨d, gain, ts⟩ := t
  obtain ⟨full, read, slip, skew, circ, glo, ghi, wrn, dws⟩ := d
  unfold tiV at *
  dsimp only at *
  go_enter Try.func24, Try.ntmps24
  go_wp2_with fail
  have bT1 := (((BoxS.new w 28 #[.int .i64 full, .int .i64 read, .int .i64 slip, .int .i64 skew, .int .i64 circ, .int .i64 glo, .int .i64 ghi, .int .i64 wrn, .int .i64 gain, .slice A ts.length c]).alloc (.cells #[.int .i64 full, .int .i64 read, .int .i64 slip, .int .i64 skew, .int .i64 circ, .int .i64 glo, .int .i64 ghi, .int .i64 wrn, .int .i64 gain, .slice A' us.length c'] 28)).alloc (.cells #[.int .i64 sz, .int .i64 mo] 35))
  have bO1 := ((BoxS.new (World.alloc w (.cells #[.int .i64 full, .int .i64 read, .int .i64 slip, .int .i64 skew, .int .i64 circ, .int .i64 glo, .int .i64 ghi, .int .i64 wrn, .int .i64 gain, .slice A ts.length c] 28)) 28 #[.int .i64 full, .int .i64 read, .int .i64 slip, .int .i64 skew, .int .i64 circ, .int .i64 glo, .int .i64 ghi, .int .i64 wrn, .int .i64 gain, .slice A' us.length c']).alloc (.cells #[.int .i64 sz, .int .i64 mo] 35))
  have bC1 := (BoxS.new (World.alloc (World.alloc w (.cells #[.int .i64 full, .int .i64 read, .int .i64 slip, .int .i64 skew, .int .i64 circ, .int .i64 glo, .int .i64 ghi, .int .i64 wrn, .int .i64 gain, .slice A ts.length c] 28)) (.cells #[.int .i64 full, .int .i64 read, .int .i64 slip, .int .i64 skew, .int .i64 circ, .int .i64 glo, .int .i64 ghi, .int .i64 wrn, .int .i64 gain, .slice A' us.length c'] 28)) 35 #[.int .i64 sz, .int .i64 mo])
  have hB1 : Below w.heap.size w (World.alloc (World.alloc (World.alloc w (.cells #[.int .i64 full, .int .i64 read, .int .i64 slip, .int .i64 skew, .int .i64 circ, .int .i64 glo, .int .i64 ghi, .int .i64 wrn, .int .i64 gain, .slice A ts.length c] 28)) (.cells #[.int .i64 full, .int .i64 read, .int .i64 slip, .int .i64 skew, .int .i64 circ, .int .i64 glo, .int .i64 ghi, .int .i64 wrn, .int .i64 gain, .slice A' us.length c'] 28)) (.cells #[.int .i64 sz, .int .i64 mo] 35)) := by (repeat' (first | (with_reducible exact Below.refl _ _) | (with_reducible assumption) | (with_reducible refine Below.alloc ?_ ?_ _) | (with_reducible refine Below.drew ?_) | (with_reducible refine Below.setCell ?_ ?_ _) | go_size | (exact (by simp)) | omega))
  simp only [World.size_alloc] at bO1 bC1
  generalize World.alloc (World.alloc (World.alloc w _) _) _ = w1 at *
  refine (HM1.out _ hB1).mono ?_
  rintro e w2 ⟨rfl, hb2⟩
  have bT2 := bT1.below hb2
  have bO2 := bO1.below hb2
  have bC2 := bC1.below hb2
  have hB2 := hB1.trans (hb2.mono hB1.size)
  clear bT1 bO1 bC1 hB1
  have kT0 := bT2.cell 0 rfl
  have kT1 := bT2.cell 1 rfl
  have kT2 := bT2.cell 2 rfl
  have kT3 := bT2.cell 3 rfl
  have kT4 := bT2.cell 4 rfl
  have kT5 := bT2.cell 5 rfl
  have kT6 := bT2.cell 6 rfl
  have kT7 := bT2.cell 7 rfl
  have kT8 := bT2.cell 8 rfl
  have kT9 := bT2.cell 9 rfl
  have lT := bT2.lt
  have kO0 := bO2.cell 0 rfl
  have kO1 := bO2.cell 1 rfl
  have kO2 := bO2.cell 2 rfl
  have kO3 := bO2.cell 3 rfl
  have kO4 := bO2.cell 4 rfl
  have kO5 := bO2.cell 5 rfl
  have kO6 := bO2.cell 6 rfl
  have kO7 := bO2.cell 7 rfl
  have kO8 := bO2.cell 8 rfl
  have kO9 := bO2.cell 9 rfl
  have lO := bO2.lt
  have kC0 := bC2.cell 0 rfl
  have kC1 := bC2.cell 1 rfl
  have lC := bC2.lt
  go_wp2_with fail
  clear kT0 kT1 kT2 kT3 kT4 kT5 kT6 kT7 kT8 kT9 lT kO0 kO1 kO2 kO3 kO4 kO5 kO6 kO7 kO8 kO9 lO kC0 kC1 lC
  refine (HM2.out _ hB2).mono ?_
  rintro e w3 ⟨rfl, hb3⟩
  have bT3 := bT2.below hb3
  have bO3 := bO2.below hb3
  have bC3 := bC2.below hb3
  have hB3 := hB2.trans (hb3.mono hB2.size)
  clear bT2 bO2 bC2 hB2
  have kT0 := bT3.cell 0 rfl
  have kT1 := bT3.cell 1 rfl
  have kT2 := bT3.cell 2 rfl
  have kT3 := bT3.cell 3 rfl
  have kT4 := bT3.cell 4 rfl
  have kT5 := bT3.cell 5 rfl
  have kT6 := bT3.cell 6 rfl
  have kT7 := bT3.cell 7 rfl
  have kT8 := bT3.cell 8 rfl
  have kT9 := bT3.cell 9 rfl
  have lT := bT3.lt
  have kO0 := bO3.cell 0 rfl
  have kO1 := bO3.cell 1 rfl
  have kO2 := bO3.cell 2 rfl
  have kO3 := bO3.cell 3 rfl
  have kO4 := bO3.cell 4 rfl
  have kO5 := bO3.cell 5 rfl
  have kO6 := bO3.cell 6 rfl
  have kO7 := bO3.cell 7 rfl
  have kO8 := bO3.cell 8 rfl
  have kO9 := bO3.cell 9 rfl
  have lO := bO3.lt
  have kC0 := bC3.cell 0 rfl
  have kC1 := bC3.cell 1 rfl
  have lC := bC3.lt
  go_wp2_with fail
  clear kT0 kT1 kT2 kT3 kT4 kT5 kT6 kT7 kT8 kT9 lT kO0 kO1 kO2 kO3 kO4 kO5 kO6 kO7 kO8 kO9 lO kC0 kC1 lC
  refine (HG1.out _ hB3).mono ?_
  rintro e w4 ⟨vK, rfl, hvK, hb4⟩
  have bT4 := bT3.below hb4
  have bO4 := bO3.below hb4
  have bC4 := bC3.below hb4
  have hB4 := hB3.trans (hb4.mono hB3.size)
  clear bT3 bO3 bC3 hB3
  have HVK4 := Lib.hid hvK.out
  clear hvK
  obtain ⟨AK, cK, rfl⟩ := ints_form HVK4.out
  have kT0 := bT4.cell 0 rfl
  have kT1 := bT4.cell 1 rfl
  have kT2 := bT4.cell 2 rfl
  have kT3 := bT4.cell 3 rfl
  have kT4 := bT4.cell 4 rfl
  have kT5 := bT4.cell 5 rfl
  have kT6 := bT4.cell 6 rfl
  have kT7 := bT4.cell 7 rfl
  have kT8 := bT4.cell 8 rfl
  have kT9 := bT4.cell 9 rfl
  have lT := bT4.lt
  have kO0 := bO4.cell 0 rfl
  have kO1 := bO4.cell 1 rfl
  have kO2 := bO4.cell 2 rfl
  have kO3 := bO4.cell 3 rfl
  have kO4 := bO4.cell 4 rfl
  have kO5 := bO4.cell 5 rfl
  have kO6 := bO4.cell 6 rfl
  have kO7 := bO4.cell 7 rfl
  have kO8 := bO4.cell 8 rfl
  have kO9 := bO4.cell 9 rfl
  have lO := bO4.lt
  have kC0 := bC4.cell 0 rfl
  have kC1 := bC4.cell 1 rfl
  have lC := bC4.lt
  go_wp2_with fail
  clear kT0 kT1 kT2 kT3 kT4 kT5 kT6 kT7 kT8 kT9 lT kO0 kO1 kO2 kO3 kO4 kO5 kO6 kO7 kO8 kO9 lO kC0 kC1 lC
  refine (HG2.out _ hB4).mono ?_
  rintro e w5 ⟨vL, rfl, hvL, hb5⟩
  have bT5 := bT4.below hb5
  have bO5 := bO4.below hb5
  have bC5 := bC4.below hb5
  have hB5 := hB4.trans (hb5.mono hB4.size)
  clear bT4 bO4 bC4 hB4
  have HVL5 := Lib.hid hvL.out
  clear hvL
  obtain ⟨AL, cL, rfl⟩ := ints_form HVL5.out
  have HVK5 := Lib.hid ((HVK4.out.keep hb5).more hb5.size)
  clear HVK4
  have kT0 := bT5.cell 0 rfl
  have kT1 := bT5.cell 1 rfl
  have kT2 := bT5.cell 2 rfl
  have kT3 := bT5.cell 3 rfl
  have kT4 := bT5.cell 4 rfl
  have kT5 := bT5.cell 5 rfl
  have kT6 := bT5.cell 6 rfl
  have kT7 := bT5.cell 7 rfl
  have kT8 := bT5.cell 8 rfl
  have kT9 := bT5.cell 9 rfl
  have lT := bT5.lt
  have kO0 := bO5.cell 0 rfl
  have kO1 := bO5.cell 1 rfl
  have kO2 := bO5.cell 2 rfl
  have kO3 := bO5.cell 3 rfl
  have kO4 := bO5.cell 4 rfl
  have kO5 := bO5.cell 5 rfl
  have kO6 := bO5.cell 6 rfl
  have kO7 := bO5.cell 7 rfl
  have kO8 := bO5.cell 8 rfl
  have kO9 := bO5.cell 9 rfl
  have lO := bO5.lt
  have kC0 := bC5.cell 0 rfl
  have kC1 := bC5.cell 1 rfl
  have lC := bC5.lt
  go_wp2_with fail
  clear kT0 kT1 kT2 kT3 kT4 kT5 kT6 kT7 kT8 kT9 lT kO0 kO1 kO2 kO3 kO4 kO5 kO6 kO7 kO8 kO9 lO kC0 kC1 lC
  refine (HS1.out _ hB5).mono ?_
  rintro e w6 ⟨vP, rfl, hvP, hb6⟩
  have bT6 := bT5.below hb6
  have bO6 := bO5.below hb6
  have bC6 := bC5.below hb6
  have hB6 := hB5.trans (hb6.mono hB5.size)
  clear bT5 bO5 bC5 hB5
  have HVP6 := Lib.hid hvP.out
  clear hvP
  obtain ⟨AP, cP, rfl⟩ := ints_form HVP6.out
  have HVK6 := Lib.hid ((HVK5.out.keep hb6).more hb6.size)
  have HVL6 := Lib.hid ((HVL5.out.keep hb6).more hb6.size)
  clear HVK5 HVL5
  have kT0 := bT6.cell 0 rfl
  have kT1 := bT6.cell 1 rfl
  have kT2 := bT6.cell 2 rfl
  have kT3 := bT6.cell 3 rfl
  have kT4 := bT6.cell 4 rfl
  have kT5 := bT6.cell 5 rfl
  have kT6 := bT6.cell 6 rfl
  have kT7 := bT6.cell 7 rfl
  have kT8 := bT6.cell 8 rfl
  have kT9 := bT6.cell 9 rfl
  have lT := bT6.lt
  have kO0 := bO6.cell 0 rfl
  have kO1 := bO6.cell 1 rfl
  have kO2 := bO6.cell 2 rfl
  have kO3 := bO6.cell 3 rfl
  have kO4 := bO6.cell 4 rfl
  have kO5 := bO6.cell 5 rfl
  have kO6 := bO6.cell 6 rfl
  have kO7 := bO6.cell 7 rfl
  have kO8 := bO6.cell 8 rfl
  have kO9 := bO6.cell 9 rfl
  have lO := bO6.lt
  have kC0 := bC6.cell 0 rfl
  have kC1 := bC6.cell 1 rfl
  have lC := bC6.lt
  go_wp2_with fail
  clear kT0 kT1 kT2 kT3 kT4 kT5 kT6 kT7 kT8 kT9 lT kO0 kO1 kO2 kO3 kO4 kO5 kO6 kO7 kO8 kO9 lO kC0 kC1 lC
  refine (HS2.out _ hB6).mono ?_
  rintro e w7 ⟨vQ, rfl, hvQ, hb7⟩
  have bT7 := bT6.below hb7
  have bO7 := bO6.below hb7
  have bC7 := bC6.below hb7
  have hB7 := hB6.trans (hb7.mono hB6.size)
  clear bT6 bO6 bC6 hB6
  have HVQ7 := Lib.hid hvQ.out
  clear hvQ
  obtain ⟨AQ, cQ, rfl⟩ := ints_form HVQ7.out
  have HVK7 := Lib.hid ((HVK6.out.keep hb7).more hb7.size)
  have HVL7 := Lib.hid ((HVL6.out.keep hb7).more hb7.size)
  have HVP7 := Lib.hid ((HVP6.out.keep hb7).more hb7.size)
  clear HVK6 HVL6 HVP6
  have kT0 := bT7.cell 0 rfl
  have kT1 := bT7.cell 1 rfl
  have kT2 := bT7.cell 2 rfl
  have kT3 := bT7.cell 3 rfl
  have kT4 := bT7.cell 4 rfl
  have kT5 := bT7.cell 5 rfl
  have kT6 := bT7.cell 6 rfl
  have kT7 := bT7.cell 7 rfl
  have kT8 := bT7.cell 8 rfl
  have kT9 := bT7.cell 9 rfl
  have lT := bT7.lt
  have kO0 := bO7.cell 0 rfl
  have kO1 := bO7.cell 1 rfl
  have kO2 := bO7.cell 2 rfl
  have kO3 := bO7.cell 3 rfl
  have kO4 := bO7.cell 4 rfl
  have kO5 := bO7.cell 5 rfl
  have kO6 := bO7.cell 6 rfl
  have kO7 := bO7.cell 7 rfl
  have kO8 := bO7.cell 8 rfl
  have kO9 := bO7.cell 9 rfl
  have lO := bO7.lt
  have kC0 := bC7.cell 0 rfl
  have kC1 := bC7.cell 1 rfl
  have lC := bC7.lt
  go_wp2_with fail
  clear kT0 kT1 kT2 kT3 kT4 kT5 kT6 kT7 kT8 kT9 lT kO0 kO1 kO2 kO3 kO4 kO5 kO6 kO7 kO8 kO9 lO kC0 kC1 lC
  refine (HE1.out _ hB7).mono ?_
  rintro e w8 ⟨rfl, hb8⟩
  have bT8 := bT7.below hb8
  have bO8 := bO7.below hb8
  have bC8 := bC7.below hb8
  have hB8 := hB7.trans (hb8.mono hB7.size)
  clear bT7 bO7 bC7 hB7
  have HVK8 := Lib.hid ((HVK7.out.keep hb8).more hb8.size)
  have HVL8 := Lib.hid ((HVL7.out.keep hb8).more hb8.size)
  have HVP8 := Lib.hid ((HVP7.out.keep hb8).more hb8.size)
  have HVQ8 := Lib.hid ((HVQ7.out.keep hb8).more hb8.size)
  clear HVK7 HVL7 HVP7 HVQ7
  have kT0 := bT8.cell 0 rfl
  have kT1 := bT8.cell 1 rfl
  have kT2 := bT8.cell 2 rfl
  have kT3 := bT8.cell 3 rfl
  have kT4 := bT8.cell 4 rfl
  have kT5 := bT8.cell 5 rfl
  have kT6 := bT8.cell 6 rfl
  have kT7 := bT8.cell 7 rfl
  have kT8 := bT8.cell 8 rfl
  have kT9 := bT8.cell 9 rfl
  have lT := bT8.lt
  have kO0 := bO8.cell 0 rfl
  have kO1 := bO8.cell 1 rfl
  have kO2 := bO8.cell 2 rfl
  have kO3 := bO8.cell 3 rfl
  have kO4 := bO8.cell 4 rfl
  have kO5 := bO8.cell 5 rfl
  have kO6 := bO8.cell 6 rfl
  have kO7 := bO8.cell 7 rfl
  have kO8 := bO8.cell 8 rfl
  have kO9 := bO8.cell 9 rfl
  have lO := bO8.lt
  have kC0 := bC8.cell 0 rfl
  have kC1 := bC8.cell 1 rfl
  have lC := bC8.lt
  go_wp2_with fail
  clear kT0 kT1 kT2 kT3 kT4 kT5 kT6 kT7 kT8 kT9 lT kO0 kO1 kO2 kO3 kO4 kO5 kO6 kO7 kO8 kO9 lO kC0 kC1 lC
  have HVK9 := Lib.hid ((HVK8.out.keep (show Below w8.heap.size w8 (World.alloc w8 (.cells #[.int .i64 LO, .int .i64 HI] 23)) from ((Below.refl w8.heap.size w8).alloc (Nat.le_refl _) _))).more (show Below w8.heap.size w8 (World.alloc w8 (.cells #[.int .i64 LO, .int .i64 HI] 23)) from ((Below.refl w8.heap.size w8).alloc (Nat.le_refl _) _)).size)
  have HVL9 := Lib.hid ((HVL8.out.keep (show Below w8.heap.size w8 (World.alloc w8 (.cells #[.int .i64 LO, .int .i64 HI] 23)) from ((Below.refl w8.heap.size w8).alloc (Nat.le_refl _) _))).more (show Below w8.heap.size w8 (World.alloc w8 (.cells #[.int .i64 LO, .int .i64 HI] 23)) from ((Below.refl w8.heap.size w8).alloc (Nat.le_refl _) _)).size)
  have HVP9 := Lib.hid ((HVP8.out.keep (show Below w8.heap.size w8 (World.alloc w8 (.cells #[.int .i64 LO, .int .i64 HI] 23)) from ((Below.refl w8.heap.size w8).alloc (Nat.le_refl _) _))).more (show Below w8.heap.size w8 (World.alloc w8 (.cells #[.int .i64 LO, .int .i64 HI] 23)) from ((Below.refl w8.heap.size w8).alloc (Nat.le_refl _) _)).size)
  have HVQ9 := Lib.hid ((HVQ8.out.keep (show Below w8.heap.size w8 (World.alloc w8 (.cells #[.int .i64 LO, .int .i64 HI] 23)) from ((Below.refl w8.heap.size w8).alloc (Nat.le_refl _) _))).more (show Below w8.heap.size w8 (World.alloc w8 (.cells #[.int .i64 LO, .int .i64 HI] 23)) from ((Below.refl w8.heap.size w8).alloc (Nat.le_refl _) _)).size)
  clear HVK8 HVL8 HVP8 HVQ8
  have bT9 := (bT8.alloc (.cells #[.int .i64 LO, .int .i64 HI] 23))
  have bO9 := (bO8.alloc (.cells #[.int .i64 LO, .int .i64 HI] 23))
  have bC9 := (bC8.alloc (.cells #[.int .i64 LO, .int .i64 HI] 23))
  have bS9 := (BoxS.new w8 23 #[.int .i64 LO, .int .i64 HI])
  have hB9 : Below w.heap.size w (World.alloc w8 (.cells #[.int .i64 LO, .int .i64 HI] 23)) := (hB8.alloc hB8.size _)
  obtain ⟨BS, hBS⟩ : ∃ B, B = w8.heap.size := ⟨_, rfl⟩
  clear bT8 bO8 bC8 hB8
  generalize World.alloc w8 _ = w9 at *
  rw [← hBS]
  rw [← hBS] at bS9
  clear hBS
  refine (HE2.out _ hB9).mono ?_
  rintro e w10 ⟨rfl, hb10⟩
  have bT10 := bT9.below hb10
  have bO10 := bO9.below hb10
  have bC10 := bC9.below hb10
  have bS10 := bS9.below hb10
  have hB10 := hB9.trans (hb10.mono hB9.size)
  clear bT9 bO9 bC9 bS9 hB9
  have HVK10 := Lib.hid ((HVK9.out.keep hb10).more hb10.size)
  have HVL10 := Lib.hid ((HVL9.out.keep hb10).more hb10.size)
  have HVP10 := Lib.hid ((HVP9.out.keep hb10).more hb10.size)
  have HVQ10 := Lib.hid ((HVQ9.out.keep hb10).more hb10.size)
  clear HVK9 HVL9 HVP9 HVQ9
  have kT0 := bT10.cell 0 rfl
  have kT1 := bT10.cell 1 rfl
  have kT2 := bT10.cell 2 rfl
  have kT3 := bT10.cell 3 rfl
  have kT4 := bT10.cell 4 rfl
  have kT5 := bT10.cell 5 rfl
  have kT6 := bT10.cell 6 rfl
  have kT7 := bT10.cell 7 rfl
  have kT8 := bT10.cell 8 rfl
  have kT9 := bT10.cell 9 rfl
  have lT := bT10.lt
  have kO0 := bO10.cell 0 rfl
  have kO1 := bO10.cell 1 rfl
  have kO2 := bO10.cell 2 rfl
  have kO3 := bO10.cell 3 rfl
  have kO4 := bO10.cell 4 rfl
  have kO5 := bO10.cell 5 rfl
  have kO6 := bO10.cell 6 rfl
  have kO7 := bO10.cell 7 rfl
  have kO8 := bO10.cell 8 rfl
  have kO9 := bO10.cell 9 rfl
  have lO := bO10.lt
  have kC0 := bC10.cell 0 rfl
  have kC1 := bC10.cell 1 rfl
  have lC := bC10.lt
  have kS0 := bS10.cell 0 rfl
  have kS1 := bS10.cell 1 rfl
  have lS := bS10.lt
  go_wp2_with fail
  clear kT0 kT1 kT2 kT3 kT4 kT5 kT6 kT7 kT8 kT9 lT kO0 kO1 kO2 kO3 kO4 kO5 kO6 kO7 kO8 kO9 lO kC0 kC1 lC kS0 kS1 lS
  have HVK11 := Lib.hid ((HVK10.out.keep (show Below w10.heap.size w10 (World.alloc w10 (.cells #[.int .i64 LO, .int .i64 HI] 23)) from ((Below.refl w10.heap.size w10).alloc (Nat.le_refl _) _))).more (show Below w10.heap.size w10 (World.alloc w10 (.cells #[.int .i64 LO, .int .i64 HI] 23)) from ((Below.refl w10.heap.size w10).alloc (Nat.le_refl _) _)).size)
  have HVL11 := Lib.hid ((HVL10.out.keep (show Below w10.heap.size w10 (World.alloc w10 (.cells #[.int .i64 LO, .int .i64 HI] 23)) from ((Below.refl w10.heap.size w10).alloc (Nat.le_refl _) _))).more (show Below w10.heap.size w10 (World.alloc w10 (.cells #[.int .i64 LO, .int .i64 HI] 23)) from ((Below.refl w10.heap.size w10).alloc (Nat.le_refl _) _)).size)
  have HVP11 := Lib.hid ((HVP10.out.keep (show Below w10.heap.size w10 (World.alloc w10 (.cells #[.int .i64 LO, .int .i64 HI] 23)) from ((Below.refl w10.heap.size w10).alloc (Nat.le_refl _) _))).more (show Below w10.heap.size w10 (World.alloc w10 (.cells #[.int .i64 LO, .int .i64 HI] 23)) from ((Below.refl w10.heap.size w10).alloc (Nat.le_refl _) _)).size)
  have HVQ11 := Lib.hid ((HVQ10.out.keep (show Below w10.heap.size w10 (World.alloc w10 (.cells #[.int .i64 LO, .int .i64 HI] 23)) from ((Below.refl w10.heap.size w10).alloc (Nat.le_refl _) _))).more (show Below w10.heap.size w10 (World.alloc w10 (.cells #[.int .i64 LO, .int .i64 HI] 23)) from ((Below.refl w10.heap.size w10).alloc (Nat.le_refl _) _)).size)
  clear HVK10 HVL10 HVP10 HVQ10
  have bT11 := (bT10.alloc (.cells #[.int .i64 LO, .int .i64 HI] 23))
  have bO11 := (bO10.alloc (.cells #[.int .i64 LO, .int .i64 HI] 23))
  have bC11 := (bC10.alloc (.cells #[.int .i64 LO, .int .i64 HI] 23))
  have bS11 := (bS10.alloc (.cells #[.int .i64 LO, .int .i64 HI] 23))
  have bU11 := (BoxS.new w10 23 #[.int .i64 LO, .int .i64 HI])
  have hB11 : Below w.heap.size w (World.alloc w10 (.cells #[.int .i64 LO, .int .i64 HI] 23)) := (hB10.alloc hB10.size _)
  obtain ⟨BU, hBU⟩ : ∃ B, B = w10.heap.size := ⟨_, rfl⟩
  clear bT10 bO10 bC10 bS10 hB10
  generalize World.alloc w10 _ = w11 at *
  rw [← hBU]
  rw [← hBU] at bU11
  clear hBU
  refine (HF1.out _ hB11).mono ?_
  rintro e w12 ⟨rfl, hb12⟩
  have bT12 := bT11.below hb12
  have bO12 := bO11.below hb12
  have bC12 := bC11.below hb12
  have bS12 := bS11.below hb12
  have bU12 := bU11.below hb12
  have hB12 := hB11.trans (hb12.mono hB11.size)
  clear bT11 bO11 bC11 bS11 bU11 hB11
  have HVK12 := Lib.hid ((HVK11.out.keep hb12).more hb12.size)
  have HVL12 := Lib.hid ((HVL11.out.keep hb12).more hb12.size)
  have HVP12 := Lib.hid ((HVP11.out.keep hb12).more hb12.size)
  have HVQ12 := Lib.hid ((HVQ11.out.keep hb12).more hb12.size)
  clear HVK11 HVL11 HVP11 HVQ11
  have kT0 := bT12.cell 0 rfl
  have kT1 := bT12.cell 1 rfl
  have kT2 := bT12.cell 2 rfl
  have kT3 := bT12.cell 3 rfl
  have kT4 := bT12.cell 4 rfl
  have kT5 := bT12.cell 5 rfl
  have kT6 := bT12.cell 6 rfl
  have kT7 := bT12.cell 7 rfl
  have kT8 := bT12.cell 8 rfl
  have kT9 := bT12.cell 9 rfl
  have lT := bT12.lt
  have kO0 := bO12.cell 0 rfl
  have kO1 := bO12.cell 1 rfl
  have kO2 := bO12.cell 2 rfl
  have kO3 := bO12.cell 3 rfl
  have kO4 := bO12.cell 4 rfl
  have kO5 := bO12.cell 5 rfl
  have kO6 := bO12.cell 6 rfl
  have kO7 := bO12.cell 7 rfl
  have kO8 := bO12.cell 8 rfl
  have kO9 := bO12.cell 9 rfl
  have lO := bO12.lt
  have kC0 := bC12.cell 0 rfl
  have kC1 := bC12.cell 1 rfl
  have lC := bC12.lt
  have kS0 := bS12.cell 0 rfl
  have kS1 := bS12.cell 1 rfl
  have lS := bS12.lt
  have kU0 := bU12.cell 0 rfl
  have kU1 := bU12.cell 1 rfl
  have lU := bU12.lt
  go_wp2_with fail
  clear kT0 kT1 kT2 kT3 kT4 kT5 kT6 kT7 kT8 kT9 lT kO0 kO1 kO2 kO3 kO4 kO5 kO6 kO7 kO8 kO9 lO kC0 kC1 lC kS0 kS1 lS kU0 kU1 lU
  refine (HF2.out _ hB12).mono ?_
  rintro e w13 ⟨rfl, hb13⟩
  have bT13 := bT12.below hb13
  have bO13 := bO12.below hb13
  have bC13 := bC12.below hb13
  have bS13 := bS12.below hb13
  have bU13 := bU12.below hb13
  have hB13 := hB12.trans (hb13.mono hB12.size)
  clear bT12 bO12 bC12 bS12 bU12 hB12
  have HVK13 := Lib.hid ((HVK12.out.keep hb13).more hb13.size)
  have HVL13 := Lib.hid ((HVL12.out.keep hb13).more hb13.size)
  have HVP13 := Lib.hid ((HVP12.out.keep hb13).more hb13.size)
  have HVQ13 := Lib.hid ((HVQ12.out.keep hb13).more hb13.size)
  clear HVK12 HVL12 HVP12 HVQ12
  have kT0 := bT13.cell 0 rfl
  have kT1 := bT13.cell 1 rfl
  have kT2 := bT13.cell 2 rfl
  have kT3 := bT13.cell 3 rfl
  have kT4 := bT13.cell 4 rfl
  have kT5 := bT13.cell 5 rfl
  have kT6 := bT13.cell 6 rfl
  have kT7 := bT13.cell 7 rfl
  have kT8 := bT13.cell 8 rfl
  have kT9 := bT13.cell 9 rfl
  have lT := bT13.lt
  have kO0 := bO13.cell 0 rfl
  have kO1 := bO13.cell 1 rfl
  have kO2 := bO13.cell 2 rfl
  have kO3 := bO13.cell 3 rfl
  have kO4 := bO13.cell 4 rfl
  have kO5 := bO13.cell 5 rfl
  have kO6 := bO13.cell 6 rfl
  have kO7 := bO13.cell 7 rfl
  have kO8 := bO13.cell 8 rfl
  have kO9 := bO13.cell 9 rfl
  have lO := bO13.lt
  have kC0 := bC13.cell 0 rfl
  have kC1 := bC13.cell 1 rfl
  have lC := bC13.lt
  have kS0 := bS13.cell 0 rfl
  have kS1 := bS13.cell 1 rfl
  have lS := bS13.lt
  have kU0 := bU13.cell 0 rfl
  have kU1 := bU13.cell 1 rfl
  have lU := bU13.lt
  go_wp2_with fail
  clear kT0 kT1 kT2 kT3 kT4 kT5 kT6 kT7 kT8 kT9 lT kO0 kO1 kO2 kO3 kO4 kO5 kO6 kO7 kO8 kO9 lO kC0 kC1 lC kS0 kS1 lS kU0 kU1 lU
  refine (HSI.out GL _ _ _ HVK13.out HVL13.out hGL).mono ?_
  rintro e w14 ⟨rfl, hb14⟩
  have bT14 := bT13.below hb14
  have bO14 := bO13.below hb14
  have bC14 := bC13.below hb14
  have bS14 := bS13.below hb14
  have bU14 := bU13.below hb14
  have hB14 := hB13.trans (hb14.mono hB13.size)
  clear bT13 bO13 bC13 bS13 bU13 hB13
  have HVP14 := Lib.hid ((HVP13.out.keep hb14).more hb14.size)
  have HVQ14 := Lib.hid ((HVQ13.out.keep hb14).more hb14.size)
  clear HVP13 HVQ13
  have kT0 := bT14.cell 0 rfl
  have kT1 := bT14.cell 1 rfl
  have kT2 := bT14.cell 2 rfl
  have kT3 := bT14.cell 3 rfl
  have kT4 := bT14.cell 4 rfl
  have kT5 := bT14.cell 5 rfl
  have kT6 := bT14.cell 6 rfl
  have kT7 := bT14.cell 7 rfl
  have kT8 := bT14.cell 8 rfl
  have kT9 := bT14.cell 9 rfl
  have lT := bT14.lt
  have kO0 := bO14.cell 0 rfl
  have kO1 := bO14.cell 1 rfl
  have kO2 := bO14.cell 2 rfl
  have kO3 := bO14.cell 3 rfl
  have kO4 := bO14.cell 4 rfl
  have kO5 := bO14.cell 5 rfl
  have kO6 := bO14.cell 6 rfl
  have kO7 := bO14.cell 7 rfl
  have kO8 := bO14.cell 8 rfl
  have kO9 := bO14.cell 9 rfl
  have lO := bO14.lt
  have kC0 := bC14.cell 0 rfl
  have kC1 := bC14.cell 1 rfl
  have lC := bC14.lt
  have kS0 := bS14.cell 0 rfl
  have kS1 := bS14.cell 1 rfl
  have lS := bS14.lt
  have kU0 := bU14.cell 0 rfl
  have kU1 := bU14.cell 1 rfl
  have lU := bU14.lt
  go_wp2_with fail
  clear kT0 kT1 kT2 kT3 kT4 kT5 kT6 kT7 kT8 kT9 lT kO0 kO1 kO2 kO3 kO4 kO5 kO6 kO7 kO8 kO9 lO kC0 kC1 lC kS0 kS1 lS kU0 kU1 lU
  refine (HSI.out SL _ _ _ HVP14.out HVQ14.out hSL).mono ?_
  rintro e w15 ⟨rfl, hb15⟩
  have bT15 := bT14.below hb15
  have bO15 := bO14.below hb15
  have bC15 := bC14.below hb15
  have bS15 := bS14.below hb15
  have bU15 := bU14.below hb15
  have hB15 := hB14.trans (hb15.mono hB14.size)
  clear bT14 bO14 bC14 bS14 bU14 hB14
  have kT0 := bT15.cell 0 rfl
  have kT1 := bT15.cell 1 rfl
  have kT2 := bT15.cell 2 rfl
  have kT3 := bT15.cell 3 rfl
  have kT4 := bT15.cell 4 rfl
  have kT5 := bT15.cell 5 rfl
  have kT6 := bT15.cell 6 rfl
  have kT7 := bT15.cell 7 rfl
  have kT8 := bT15.cell 8 rfl
  have kT9 := bT15.cell 9 rfl
  have lT := bT15.lt
  have kO0 := bO15.cell 0 rfl
  have kO1 := bO15.cell 1 rfl
  have kO2 := bO15.cell 2 rfl
  have kO3 := bO15.cell 3 rfl
  have kO4 := bO15.cell 4 rfl
  have kO5 := bO15.cell 5 rfl
  have kO6 := bO15.cell 6 rfl
  have kO7 := bO15.cell 7 rfl
  have kO8 := bO15.cell 8 rfl
  have kO9 := bO15.cell 9 rfl
  have lO := bO15.lt
  have kC0 := bC15.cell 0 rfl
  have kC1 := bC15.cell 1 rfl
  have lC := bC15.lt
  have kS0 := bS15.cell 0 rfl
  have kS1 := bS15.cell 1 rfl
  have lS := bS15.lt
  have kU0 := bU15.cell 0 rfl
  have kU1 := bU15.cell 1 rfl
  have lU := bU15.lt
  go_wp2_with fail
  clear kT0 kT1 kT2 kT3 kT4 kT5 kT6 kT7 kT8 kT9 lT kO0 kO1 kO2 kO3 kO4 kO5 kO6 kO7 kO8 kO9 lO kC0 kC1 lC kS0 kS1 lS kU0 kU1 lU
  go_returns
  exact ⟨rfl, hB15⟩
end Go.Proofs.Ytkmacpkjobdffaa
