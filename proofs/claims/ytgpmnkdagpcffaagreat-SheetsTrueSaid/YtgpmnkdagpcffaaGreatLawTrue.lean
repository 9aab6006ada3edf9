/- Sheets: the law SheetsTrue: in each truth the factors, the area, the length and what is told lie where the answers say. -/
import Derived.Test.YtgpmnkdagpcffaaGreatTruP
namespace Go.Proofs.YtgpmnkdagpcffaaGreat
open Go.RowKit
theorem boxS8a {W : World} {B : Nat} {t : TypeId} {a b c d e f g h : Value} (H : BoxS W B t #[a, b, c, d, e, f, g, h]) : ((W.cell? ⟨B, 0, none⟩ = some a ∧ W.cell? ⟨B, 1, none⟩ = some b) ∧ W.cell? ⟨B, 2, none⟩ = some c ∧ W.cell? ⟨B, 3, none⟩ = some d) ∧ (W.cell? ⟨B, 4, none⟩ = some e ∧ W.cell? ⟨B, 5, none⟩ = some f) ∧ W.cell? ⟨B, 6, none⟩ = some g ∧ W.cell? ⟨B, 7, none⟩ = some h := ⟨⟨⟨H.cell 0 rfl, H.cell 1 rfl⟩, H.cell 2 rfl, H.cell 3 rfl⟩, ⟨H.cell 4 rfl, H.cell 5 rfl⟩, H.cell 6 rfl, H.cell 7 rfl⟩
theorem agrees_any (k : Int) (b : Bool) (w : World) : Calls Tryz.prog 22 #[.int .i64 k, .bool b] w fun e w' => e = .returned (.bool (Sh.agreesV k b)) ∧ w' = w := by
  unfold Sh.agreesV
  by_cases h1 : k = 1
  · have e1 : (k == 1) = true := by simpa using h1
    rw [if_pos h1]
    clear h1
    go_enter Tryz.func22, Tryz.ntmps22
    go_wp2_with fail
    go_returns
    exact ⟨rfl, rfl⟩
  · have e1 : (k == 1) = false := by simpa using h1
    rw [if_neg h1]
    by_cases h2 : k = 2
    · have e2 : (k == 2) = true := by simpa using h2
      rw [if_pos h2]
      clear h1 h2
      go_enter Tryz.func22, Tryz.ntmps22
      go_wp2_with fail
      go_returns
      exact ⟨rfl, rfl⟩
    · have e2 : (k == 2) = false := by simpa using h2
      have e3 : (k == 3) = decide (k = 3) := by by_cases h : k = 3 <;> simp [h]
      rw [if_neg h2]
      clear h1 h2
      go_enter Tryz.func22, Tryz.ntmps22
      go_wp2_with fail
      go_returns
      exact ⟨by first | rfl | (rw [← e3]; rfl), rfl⟩

/-- What the full walk needs: the answers, and what they say of the truth. -/
def TrueFacts (s : Sheet) (A : Option Addr) (c : Nat) (ps : List Geo.Pt) (A2 : Option Addr) (c2 : Nat) (f1 f2 tw off ax ay bx by1 : Int) (w : World) : Prop :=
  ∃ (FL1 FL2 : List Int) (lo hi cl ch m n : Int) (QL : List Int) (T N D X Y NN DD : Int),
    Hid (∀ W, Below w.heap.size w W → Calls Tryz.prog 10 #[.agg (shV s A c), .int .i64 1] W (IntsEPost FL1 0 W)) ∧
    Hid (∀ W, Below w.heap.size w W → Calls Tryz.prog 10 #[.agg (shV s A c), .int .i64 2] W (IntsEPost FL2 0 W)) ∧
    Hid (∀ W, Below w.heap.size w W → Calls Tryz.prog 11 #[.agg (shV s A c), .slice A2 ps.length c2] W (SpanEPost lo hi 0 W)) ∧
    Hid (∀ W, Below w.heap.size w W → Calls Tryz.prog 12 #[.agg (shV s A c), .agg #[.int .i64 ax, .int .i64 ay], .agg #[.int .i64 bx, .int .i64 by1]] W (SpanEPost cl ch 0 W)) ∧
    Hid (∀ W, Below w.heap.size w W → Calls Tryz.prog 13 #[.agg (shV s A c)] W (TwoPost m 0 W)) ∧
    Hid (∀ W, Below w.heap.size w W → Calls Tryz.prog 14 #[.agg (shV s A c), .slice A2 ps.length c2, .int .i64 tw, .int .i64 off] W (TwoPost n 0 W)) ∧
    Hid (∀ W, Below w.heap.size w W → Calls Tryz.prog 15 #[.agg (shV s A c)] W (IntsEPost QL 0 W)) ∧
    Hid (∀ v W, Ints W W.heap.size v FL1 → Calls Tryz.prog 16 #[v, .int .i64 f1] W (TruePost W)) ∧
    Hid (∀ v W, Ints W W.heap.size v FL2 → Calls Tryz.prog 16 #[v, .int .i64 f2] W (TruePost W)) ∧
    Hid (∀ W, Calls Tryz.prog 17 #[.agg #[.int .i64 lo, .int .i64 hi]] W (TruePost W)) ∧
    Hid (∀ W, Calls Tryz.prog 17 #[.agg #[.int .i64 cl, .int .i64 ch]] W (TruePost W)) ∧
    Hid (∀ W, Below w.heap.size w W → Calls Tryz.prog 18 #[.slice A2 ps.length c2] W fun e w' => e = .returned (.int .i64 T) ∧ Below W.heap.size W w') ∧
    Hid (∀ W, Calls Tryz.prog 19 #[.agg #[.int .i64 ax, .int .i64 ay], .agg #[.int .i64 bx, .int .i64 by1], .agg #[.int .i64 f1, .int .i64 f2]] W fun e w' => e = .returned (.tuple #[.int .i64 NN, .int .i64 DD]) ∧ Below W.heap.size W w') ∧
    Hid (∀ W, Calls Tryz.prog 20 #[.int .i64 T] W fun e w' => e = .returned (.int .i64 (Sh.absV T)) ∧ W = w') ∧
    Hid (∀ q ∈ QL, ∃ j : Nat, q = j ∧ j < s.cs.length ∧ ∀ W, Calls Tryz.prog 21 #[.agg #[.int .i64 (Sh.ctAt s.cs j).1, .int .i64 (Sh.ctAt s.cs j).2.1, .int .i64 (Sh.ctAt s.cs j).2.2.1, .int .i64 (Sh.ctAt s.cs j).2.2.2], .agg #[.int .i64 f1, .int .i64 f2]] W fun e w' => e = .returned (.bool false) ∧ Below W.heap.size W w') ∧
    Hid (Cts w w.heap.size A s.cs) ∧
    IntKind.i64.wrap (f1 * f2) = D ∧ IntKind.i64.wrap (Sh.absV T * 1000000) = N ∧ IntKind.i64.wrap (lo * D) = X ∧ IntKind.i64.wrap (hi * D) = Y ∧
    decide (N < X) = false ∧ decide (Y < N) = false ∧ ¬ DD = 0 ∧
    IntKind.i64.wrap (NN.tdiv DD) = NN.tdiv DD ∧ decide (NN.tdiv DD < cl) = false ∧ IntKind.i64.wrap (NN - 1) = NN - 1 ∧ IntKind.i64.wrap ((NN - 1).tdiv DD) = (NN - 1).tdiv DD ∧ (0 < NN → decide (ch ≤ (NN - 1).tdiv DD) = false) ∧ 0 ≤ NN ∧
    QL.length ≤ 40 ∧
    Sh.agreesV m (f1 == f2) = true ∧ Sh.agreesV m (decide (f1 = f2)) = true ∧
    (∃ ab : Bool, Hid (∀ W, Calls Tryz.prog 23 #[.int .i64 T, .int .i64 tw, .int .i64 off, .agg #[.int .i64 f1, .int .i64 f2]] W fun e w' => e = .returned (.bool ab) ∧ Below W.heap.size W w') ∧ Sh.agreesV n ab = true)
set_option maxHeartbeats 2000000 in
theorem true_facts (s : Sheet) (A : Option Addr) (c : Nat) (ps : List Geo.Pt) (A2 : Option Addr) (c2 : Nat) (f1 f2 tw off ax ay bx by1 : Int) (w : World) (hg : Cts w w.heap.size A s.cs) (hP : Prs w w.heap.size A2 ps)
    (hok : Sh.okB s = true) (hpo : Sh.polyB ps = true) (htr : Sh.truthB s (f1, f2) = true) (hde : Sh.deedB tw off = true) (h1 : Geo.ptB (ax, ay) = true) (h2 : Geo.ptB (bx, by1) = true) : TrueFacts s A c ps A2 c2 f1 f2 tw off ax ay bx by1 w := by
  have hs := Sh.ok_of hok
  have hl : s.cs.length ≤ 1000000000 := by have := hs.n; omega
  have h0 := Sh.truth_sp hok htr
  obtain ⟨hfs, hx⟩ := Sh.truth_ok hs htr
  have hv := (Bool.and_eq_true_iff.1 hpo).2
  have hxv : (Sh.faOf (f1, f2)).1 = (f1, f2) := Sh.faOf_val hfs
  have hdd := Bool.and_eq_true_iff.1 hde
  have hd1 := inB_true.1 hdd.1
  have hd2 := inB_true.1 hdd.2
  have hsq := Sh.pt_sq h1 h2
  have hlen := Geo.valid_len hv
  have hT : -80000000 ≤ Geo.tot Geo.fanV ps ∧ Geo.tot Geo.fanV ps ≤ 80000000 := by
    have := tot_bd (f := Geo.fanV) (M := 8000000) (Geo.valid_sm hv) (fun s h1 h2 => by have := Geo.fan_bd h1 h2; omega)
    omega
  have cA := fun W (hW : Below w.heap.size w W) => (hg.keep hW).wider hW.size
  obtain ⟨e1, in1⟩ := Sh.fac_has hs (way := 1) rfl h0 hx
  obtain ⟨e2, in2⟩ := Sh.fac_has hs (way := 2) rfl h0 hx
  rw [hxv] at in1 in2
  have r1 := Sh.facR_len s 1
  have r2 := Sh.facR_len s 2
  have hNb : ∀ x : Sh.FaS, 0 ≤ (fun _ => Sh.areaN (Geo.tot Geo.fanV ps)) x ∧ (fun _ => Sh.areaN (Geo.tot Geo.fanV ps)) x ≤ 1280000000000000000 := fun x => by have := Sh.areaN_bd hT; (try dsimp only); omega
  obtain ⟨a1, a2, a3, -, -, a6, a7⟩ := Sh.bounds_true (fun _ => Sh.areaN (Geo.tot Geo.fanV ps)) Sh.areaD (Sh.truthsL s) hNb (fun x hx => Sh.areaD_ge hs hx) (Int.le_refl _) (fun x => by have := Sh.areaN_bd hT; (try dsimp only); omega) hx
  obtain ⟨b1, -, -, b4, b5, b6, b7⟩ := Sh.bounds_true (Sh.sqN (bx - ax) (by1 - ay)) Sh.sqD (Sh.truthsL s) (Sh.sqN_bd hsq) (fun x hx => Sh.sqD_ge hs hx) (by omega) (fun x => by have := Sh.sqN_bd hsq x; (try dsimp only at this); omega) hx
  have hD : Sh.areaD (Sh.faOf (f1, f2)) = f1 * f2 := by unfold Sh.areaD; rw [hxv]
  rw [hD] at a2 a3
  try dsimp only at a2 a3
  have hDb := Sh.areaD_bd (Sh.faOf (f1, f2))
  rw [hD] at hDb
  have hnn := Sh.areaN_bd hT
  have hlo0 : 0 ≤ Sh.areaLo s (Geo.tot Geo.fanV ps) := by unfold Sh.saneB at a1; simp only [Bool.and_eq_true, decide_eq_true_eq] at a1; exact a1.1.1
  have hhi0 : Sh.areaLo s (Geo.tot Geo.fanV ps) ≤ Sh.areaHi s (Geo.tot Geo.fanV ps) := by unfold Sh.saneB at a1; simp only [Bool.and_eq_true, decide_eq_true_eq] at a1; exact a1.1.2
  have m1 := mul_bd (a := Sh.areaLo s (Geo.tot Geo.fanV ps)) (b := f1 * f2) (x := 1000000001) (y := 4000000) (by omega) a6 (by omega) (by omega)
  have m2 := mul_bd (a := Sh.areaHi s (Geo.tot Geo.fanV ps)) (b := f1 * f2) (x := 1000000001) (y := 4000000) (by omega) a7 (by omega) (by omega)
  have hsn := Sh.sqN_bd hsq (Sh.faOf (f1, f2))
  have hsd := Sh.sqD_bd (Sh.faOf (f1, f2))
  have hAN : Sh.areaN (Geo.tot Geo.fanV ps) = Sh.absV (Geo.tot Geo.fanV ps) * 1000000 := Sh.area_abs _
  have t1 := Sh.tdiv_bd (a := Sh.sqN (bx - ax) (by1 - ay) (Sh.faOf (f1, f2))) (b := Sh.sqD (Sh.faOf (f1, f2))) hsn
  have t2 : -1280000000000000000 ≤ (Sh.sqN (bx - ax) (by1 - ay) (Sh.faOf (f1, f2)) - 1).tdiv (Sh.sqD (Sh.faOf (f1, f2))) ∧ (Sh.sqN (bx - ax) (by1 - ay) (Sh.faOf (f1, f2)) - 1).tdiv (Sh.sqD (Sh.faOf (f1, f2))) ≤ 1280000000000000000 := by
    have g1 : ((Sh.sqN (bx - ax) (by1 - ay) (Sh.faOf (f1, f2)) - 1).tdiv (Sh.sqD (Sh.faOf (f1, f2)))).natAbs = (Sh.sqN (bx - ax) (by1 - ay) (Sh.faOf (f1, f2)) - 1).natAbs / (Sh.sqD (Sh.faOf (f1, f2))).natAbs := Int.natAbs_tdiv _ _
    have g2 := Nat.div_le_self (Sh.sqN (bx - ax) (by1 - ay) (Sh.faOf (f1, f2)) - 1).natAbs (Sh.sqD (Sh.faOf (f1, f2))).natAbs
    try dsimp only at hsn
    omega
  have hal := Sh.agrees_true Sh.alikeB (Sh.truthsL s) hx
  have hab : Sh.alikeB (Sh.faOf (f1, f2)) = decide (f1 = f2) := by unfold Sh.alikeB; rw [hxv]
  rw [hab] at hal
  have hag := Sh.agrees_true (Sh.agreeB (Geo.tot Geo.fanV ps) tw off) (Sh.truthsL s) hx
  have hagq : Sh.agreeB (Geo.tot Geo.fanV ps) tw off (Sh.faOf (f1, f2)) = Sh.agQ (Geo.tot Geo.fanV ps) tw off (f1, f2) := by unfold Sh.agreeB Sh.agQ Sh.areaD; rw [hxv]
  rw [hagq] at hag
  refine ⟨Sh.facR s 1, Sh.facR s 2, Sh.areaLo s (Geo.tot Geo.fanV ps), Sh.areaHi s (Geo.tot Geo.fanV ps), Sh.lenLo s (bx - ax) (by1 - ay), Sh.lenHi s (bx - ax) (by1 - ay), Sh.knownV Sh.alikeB (Sh.truthsL s), Sh.knownV (Sh.agreeB (Geo.tot Geo.fanV ps) tw off) (Sh.truthsL s), Sh.strTo (Sh.rightK s) s.cs.length, Geo.tot Geo.fanV ps, Sh.areaN (Geo.tot Geo.fanV ps), f1 * f2, Sh.areaLo s (Geo.tot Geo.fanV ps) * (f1 * f2), Sh.areaHi s (Geo.tot Geo.fanV ps) * (f1 * f2), Sh.sqN (bx - ax) (by1 - ay) (Sh.faOf (f1, f2)), Sh.sqD (Sh.faOf (f1, f2)), ?_⟩
  refine ⟨fun W hW => ?_, fun W hW => ?_, fun W hW => Area_yes s h0 A c A2 c2 ps hv W (cA W hW) (prs_keep hP hW), fun W hW => Length_yes s (ax, ay) (bx, by1) A c W hl (cA W hW) h0 h1 h2, fun W hW => Alike_yes s h0 A c W (cA W hW), fun W hW => Agrees_yes s h0 A c A2 c2 ps hv tw off hd1 hd2 W (cA W hW) (prs_keep hP hW), fun W hW => Strange_yes s h0 A c W (cA W hW), fun v W hI => ?_, fun v W hI => ?_, fun W => ?_, fun W => ?_, fun W hW => ?_, fun W => ?_, fun W => (absL_any _ W (by omega)).mono (fun e w' h => ⟨h.1, h.2.symm⟩), fun q hq => ?_, hg, IntWalk.i64_in _ (by omega), ?_, IntWalk.i64_in _ (by omega), IntWalk.i64_in _ (by omega), decide_eq_false (by unfold Sh.areaLo; omega), decide_eq_false (by unfold Sh.areaHi; omega), by omega, IntWalk.i64_in _ (by omega), decide_eq_false (by unfold Sh.lenLo; omega), IntWalk.i64_in _ (by (try dsimp only at hsn); omega), IntWalk.i64_in _ (by omega), fun h => decide_eq_false (by have := b5 h; unfold Sh.lenHi; omega), hsn.1, ?_, ?_, hal, Sh.agQ (Geo.tot Geo.fanV ps) tw off (f1, f2), fun W => ?_, hag⟩
  · have := Factors_any s 1 A c W hl (cA W hW)
    rw [e1] at this
    exact this
  · have := Factors_any s 2 A c W hl (cA W hW)
    rw [e2] at this
    exact this
  · have := in4_any v _ f1 W hI (by omega)
    rw [decide_eq_true (by exact in1)] at this
    exact this
  · have := in4_any v _ f2 W hI (by omega)
    rw [decide_eq_true (by exact in2)] at this
    exact this
  · have := sane4_any (Sh.areaLo s (Geo.tot Geo.fanV ps)) (Sh.areaHi s (Geo.tot Geo.fanV ps)) W
    rw [show Sh.saneB (Sh.areaLo s (Geo.tot Geo.fanV ps)) (Sh.areaHi s (Geo.tot Geo.fanV ps)) = true from a1] at this
    exact this
  · have := sane4_any (Sh.lenLo s (bx - ax) (by1 - ay)) (Sh.lenHi s (bx - ax) (by1 - ay)) W
    rw [show Sh.saneB (Sh.lenLo s (bx - ax) (by1 - ay)) (Sh.lenHi s (bx - ax) (by1 - ay)) = true from b1] at this
    exact this
  · have := TwiceOf_any A2 c2 ps (Geo.valid_sm hv) (by omega) (by omega) W (prs_keep hP hW)
    rw [← Geo.twice_eq ps (by omega)] at this
    exact this
  · have := Square4_any (Sh.faOf (f1, f2)) (ax, ay) (bx, by1) W hsq
    rw [hxv] at this
    exact this
  · obtain ⟨j, g1, g2, g3⟩ := Sh.str_not hx hq
    rw [hxv] at g3
    refine ⟨j, g1, g2, fun W => ?_⟩
    have := IsRight4_any (f1, f2) (Sh.ctAt s.cs j) W hfs (Sh.ctB_sm (hs.c j g2))
    rw [g3] at this
    exact this
  · rw [hAN]
    exact IntWalk.i64_in _ (by omega)
  · have := Sh.strTo_len (Sh.rightK s) s.cs.length
    have := hs.n
    omega
  · rw [show (f1 == f2) = decide (f1 = f2) from by by_cases h : f1 = f2 <;> simp [h]]
    exact hal
  · have := Agree4_any (Geo.tot Geo.fanV ps) tw off (Sh.faOf (f1, f2)) W hT hd1 hd2
    rw [hxv] at this
    exact this

set_option maxRecDepth 100000 in
set_option maxHeartbeats 16000000 in
theorem SheetsTrue_walk (s : Sheet) (A : Option Addr) (c : Nat) (ps : List Geo.Pt) (A2 : Option Addr) (c2 : Nat) (f1 f2 tw off ax ay bx by1 : Int) (w : World) (hg : Cts w w.heap.size A s.cs) (hP : Prs w w.heap.size A2 ps) :
    Calls Tryz.prog 3 #[.agg (shV s A c), .slice A2 ps.length c2, .agg #[.int .i64 f1, .int .i64 f2, .int .i64 tw, .int .i64 off, .int .i64 ax, .int .i64 ay, .int .i64 bx, .int .i64 by1]] w (TruePost w) := by
  have HRD : Hid (∀ W, Below w.heap.size w W → Calls Tryz.prog 4 #[.agg (shV s A c)] W fun e w' => e = .returned (.bool (Sh.readyB s)) ∧ Below W.heap.size W w') := fun W hW => ready4_any s A c W ((hg.keep hW).wider hW.size)
  have HPO : Hid (∀ W, Below w.heap.size w W → Calls Tryz.prog 5 #[.slice A2 ps.length c2] W fun e w' => e = .returned (.bool (Sh.polyB ps)) ∧ Below W.heap.size W w') := fun W hW => isPoly_any A2 c2 ps W (prs_keep hP hW)
  have HRO : Hid (Sh.readyB s = true → Sh.okB s = true) := fun h => by unfold Sh.readyB at h; exact (Bool.and_eq_true_iff.1 h).2
  have HTR : Hid (Sh.readyB s = true → ∀ W, Below w.heap.size w W → Calls Tryz.prog 6 #[.agg (shV s A c), .agg #[.int .i64 f1, .int .i64 f2]] W fun e w' => e = .returned (.bool (Sh.truthB s (f1, f2))) ∧ Below W.heap.size W w') := fun h W hW => IsTruth4_any s (Sh.ok_of (HRO.out h)) A c (f1, f2) W ((hg.keep hW).wider hW.size)
  have HDE : Hid (∀ W, Calls Tryz.prog 7 #[.int .i64 tw, .int .i64 off] W fun e w' => e = .returned (.bool (Sh.deedB tw off)) ∧ w' = W) := fun W => IsDeed_any tw off W
  have HX1 : Hid (∀ W, Calls Tryz.prog 8 #[.agg #[.int .i64 ax, .int .i64 ay]] W fun e w' => e = .returned (.bool (Geo.ptB (ax, ay))) ∧ Below W.heap.size W w') := fun W => IsPoint_any ax ay W
  have HX2 : Hid (∀ W, Calls Tryz.prog 8 #[.agg #[.int .i64 bx, .int .i64 by1]] W fun e w' => e = .returned (.bool (Geo.ptB (bx, by1))) ∧ Below W.heap.size W w') := fun W => IsPoint_any bx by1 W
  have HWK : Hid (∀ W, Calls Tryz.prog 9 #[] W fun e w' => e = .returned (.bool true) ∧ Below W.heap.size W w') := works_any
  have HGR : Hid (∀ k b W, Calls Tryz.prog 22 #[.int .i64 k, .bool b] W fun e w' => e = .returned (.bool (Sh.agreesV k b)) ∧ w' = W) := agrees_any
  have HALL : Hid (Sh.readyB s = true → Sh.polyB ps = true → Sh.truthB s (f1, f2) = true → Sh.deedB tw off = true → Geo.ptB (ax, ay) = true → Geo.ptB (bx, by1) = true → TrueFacts s A c ps A2 c2 f1 f2 tw off ax ay bx by1 w) := fun r p t d x1 x2 => true_facts s A c ps A2 c2 f1 f2 tw off ax ay bx by1 w hg hP (HRO.out r) p t d x1 x2
  clear hg hP HRO
  generalize Sh.readyB s = RB at *
  generalize Sh.truthB s (f1, f2) = TB at *
  generalize Sh.polyB ps = PB at *
  generalize Sh.deedB tw off = DB at *
  generalize Geo.ptB (ax, ay) = B1 at *
  generalize Geo.ptB (bx, by1) = B2 at *
  cases RB with
  | false =>
    clear HALL
    obtain ⟨al, ah, bl, bh, cs, wrn⟩ := s
    unfold shV at *
    dsimp only at *
    generalize ps.length = np at *
    go_enter Tryz.func3, Tryz.ntmps3
    go_wp2_with fail
    have bS1 := (BoxS.new w 26 #[.int .i64 al, .int .i64 ah, .int .i64 bl, .int .i64 bh, .slice A cs.length c, .int .i64 wrn]).alloc (.cells #[.int .i64 f1, .int .i64 f2, .int .i64 tw, .int .i64 off, .int .i64 ax, .int .i64 ay, .int .i64 bx, .int .i64 by1] 35)
    have bT1 := BoxS.new (w.alloc (.cells #[.int .i64 al, .int .i64 ah, .int .i64 bl, .int .i64 bh, .slice A cs.length c, .int .i64 wrn] 26)) 35 #[.int .i64 f1, .int .i64 f2, .int .i64 tw, .int .i64 off, .int .i64 ax, .int .i64 ay, .int .i64 bx, .int .i64 by1]
    rw [World.size_alloc] at bT1
    have hB1 : Below w.heap.size w ((w.alloc (.cells #[.int .i64 al, .int .i64 ah, .int .i64 bl, .int .i64 bh, .slice A cs.length c, .int .i64 wrn] 26)).alloc (.cells #[.int .i64 f1, .int .i64 f2, .int .i64 tw, .int .i64 off, .int .i64 ax, .int .i64 ay, .int .i64 bx, .int .i64 by1] 35)) := by (repeat' (first | (with_reducible exact Below.refl _ _) | (with_reducible assumption) | (with_reducible refine Below.alloc ?_ ?_ _) | (with_reducible refine Below.drew ?_) | (with_reducible refine Below.setCell ?_ ?_ _) | go_size | (exact (by simp)) | omega))
    generalize World.alloc (World.alloc w _) _ = w1 at *
    refine (HRD.out _ hB1).mono ?_
    rintro e w2 ⟨rfl, hb2⟩
    have bS2 := bS1.below hb2
    have bT2 := bT1.below hb2
    have hB2 := hB1.trans (hb2.mono hB1.size)
    clear bS1 bT1 hB1 hb2
    obtain ⟨⟨s0, s1, s2⟩, s3, s4, s5⟩ := boxS6 bS2
    have lS2 := bS2.lt
    obtain ⟨⟨⟨t0, t1⟩, t2, t3⟩, ⟨t4, t5⟩, t6, t7⟩ := boxS8a bT2
    have lT2 := bT2.lt
    go_wp2_with fail
    refine (HWK.out _).mono ?_
    rintro e wz ⟨rfl, hbz⟩
    have hBz := hB2.trans (hbz.mono hB2.size)
    go_wp2_with fail
    go_returns
    exact ⟨rfl, hBz⟩
  | true =>
    have HTR2 := Lib.hid (HTR.out rfl)
    clear HTR
    cases PB with
    | false =>
      clear HALL
      obtain ⟨al, ah, bl, bh, cs, wrn⟩ := s
      unfold shV at *
      dsimp only at *
      generalize ps.length = np at *
      go_enter Tryz.func3, Tryz.ntmps3
      go_wp2_with fail
      have bS1 := (BoxS.new w 26 #[.int .i64 al, .int .i64 ah, .int .i64 bl, .int .i64 bh, .slice A cs.length c, .int .i64 wrn]).alloc (.cells #[.int .i64 f1, .int .i64 f2, .int .i64 tw, .int .i64 off, .int .i64 ax, .int .i64 ay, .int .i64 bx, .int .i64 by1] 35)
      have bT1 := BoxS.new (w.alloc (.cells #[.int .i64 al, .int .i64 ah, .int .i64 bl, .int .i64 bh, .slice A cs.length c, .int .i64 wrn] 26)) 35 #[.int .i64 f1, .int .i64 f2, .int .i64 tw, .int .i64 off, .int .i64 ax, .int .i64 ay, .int .i64 bx, .int .i64 by1]
      rw [World.size_alloc] at bT1
      have hB1 : Below w.heap.size w ((w.alloc (.cells #[.int .i64 al, .int .i64 ah, .int .i64 bl, .int .i64 bh, .slice A cs.length c, .int .i64 wrn] 26)).alloc (.cells #[.int .i64 f1, .int .i64 f2, .int .i64 tw, .int .i64 off, .int .i64 ax, .int .i64 ay, .int .i64 bx, .int .i64 by1] 35)) := by (repeat' (first | (with_reducible exact Below.refl _ _) | (with_reducible assumption) | (with_reducible refine Below.alloc ?_ ?_ _) | (with_reducible refine Below.drew ?_) | (with_reducible refine Below.setCell ?_ ?_ _) | go_size | (exact (by simp)) | omega))
      generalize World.alloc (World.alloc w _) _ = w1 at *
      refine (HRD.out _ hB1).mono ?_
      rintro e w2 ⟨rfl, hb2⟩
      have bS2 := bS1.below hb2
      have bT2 := bT1.below hb2
      have hB2 := hB1.trans (hb2.mono hB1.size)
      clear bS1 bT1 hB1 hb2
      obtain ⟨⟨s0, s1, s2⟩, s3, s4, s5⟩ := boxS6 bS2
      have lS2 := bS2.lt
      obtain ⟨⟨⟨t0, t1⟩, t2, t3⟩, ⟨t4, t5⟩, t6, t7⟩ := boxS8a bT2
      have lT2 := bT2.lt
      go_wp2_with fail
      refine (HPO.out _ hB2).mono ?_
      rintro e w3 ⟨rfl, hb3⟩
      have bS3 := bS2.below hb3
      have bT3 := bT2.below hb3
      have hB3 := hB2.trans (hb3.mono hB2.size)
      clear s0 s1 s2 s3 s4 s5 lS2 t0 t1 t2 t3 t4 t5 t6 t7 lT2 bS2 bT2 hB2 hb3
      obtain ⟨⟨s0, s1, s2⟩, s3, s4, s5⟩ := boxS6 bS3
      have lS3 := bS3.lt
      obtain ⟨⟨⟨t0, t1⟩, t2, t3⟩, ⟨t4, t5⟩, t6, t7⟩ := boxS8a bT3
      have lT3 := bT3.lt
      go_wp2_with fail
      refine (HWK.out _).mono ?_
      rintro e wz ⟨rfl, hbz⟩
      have hBz := hB3.trans (hbz.mono hB3.size)
      go_wp2_with fail
      go_returns
      exact ⟨rfl, hBz⟩
    | true =>
      cases TB with
      | false =>
        clear HALL
        obtain ⟨al, ah, bl, bh, cs, wrn⟩ := s
        unfold shV at *
        dsimp only at *
        generalize ps.length = np at *
        go_enter Tryz.func3, Tryz.ntmps3
        go_wp2_with fail
        have bS1 := (BoxS.new w 26 #[.int .i64 al, .int .i64 ah, .int .i64 bl, .int .i64 bh, .slice A cs.length c, .int .i64 wrn]).alloc (.cells #[.int .i64 f1, .int .i64 f2, .int .i64 tw, .int .i64 off, .int .i64 ax, .int .i64 ay, .int .i64 bx, .int .i64 by1] 35)
        have bT1 := BoxS.new (w.alloc (.cells #[.int .i64 al, .int .i64 ah, .int .i64 bl, .int .i64 bh, .slice A cs.length c, .int .i64 wrn] 26)) 35 #[.int .i64 f1, .int .i64 f2, .int .i64 tw, .int .i64 off, .int .i64 ax, .int .i64 ay, .int .i64 bx, .int .i64 by1]
        rw [World.size_alloc] at bT1
        have hB1 : Below w.heap.size w ((w.alloc (.cells #[.int .i64 al, .int .i64 ah, .int .i64 bl, .int .i64 bh, .slice A cs.length c, .int .i64 wrn] 26)).alloc (.cells #[.int .i64 f1, .int .i64 f2, .int .i64 tw, .int .i64 off, .int .i64 ax, .int .i64 ay, .int .i64 bx, .int .i64 by1] 35)) := by (repeat' (first | (with_reducible exact Below.refl _ _) | (with_reducible assumption) | (with_reducible refine Below.alloc ?_ ?_ _) | (with_reducible refine Below.drew ?_) | (with_reducible refine Below.setCell ?_ ?_ _) | go_size | (exact (by simp)) | omega))
        generalize World.alloc (World.alloc w _) _ = w1 at *
        refine (HRD.out _ hB1).mono ?_
        rintro e w2 ⟨rfl, hb2⟩
        have bS2 := bS1.below hb2
        have bT2 := bT1.below hb2
        have hB2 := hB1.trans (hb2.mono hB1.size)
        clear bS1 bT1 hB1 hb2
        obtain ⟨⟨s0, s1, s2⟩, s3, s4, s5⟩ := boxS6 bS2
        have lS2 := bS2.lt
        obtain ⟨⟨⟨t0, t1⟩, t2, t3⟩, ⟨t4, t5⟩, t6, t7⟩ := boxS8a bT2
        have lT2 := bT2.lt
        go_wp2_with fail
        refine (HPO.out _ hB2).mono ?_
        rintro e w3 ⟨rfl, hb3⟩
        have bS3 := bS2.below hb3
        have bT3 := bT2.below hb3
        have hB3 := hB2.trans (hb3.mono hB2.size)
        clear s0 s1 s2 s3 s4 s5 lS2 t0 t1 t2 t3 t4 t5 t6 t7 lT2 bS2 bT2 hB2 hb3
        obtain ⟨⟨s0, s1, s2⟩, s3, s4, s5⟩ := boxS6 bS3
        have lS3 := bS3.lt
        obtain ⟨⟨⟨t0, t1⟩, t2, t3⟩, ⟨t4, t5⟩, t6, t7⟩ := boxS8a bT3
        have lT3 := bT3.lt
        go_wp2_with fail
        refine (HTR2.out _ hB3).mono ?_
        rintro e w4 ⟨rfl, hb4⟩
        have bS4 := bS3.below hb4
        have bT4 := bT3.below hb4
        have hB4 := hB3.trans (hb4.mono hB3.size)
        clear s0 s1 s2 s3 s4 s5 lS3 t0 t1 t2 t3 t4 t5 t6 t7 lT3 bS3 bT3 hB3 hb4
        obtain ⟨⟨s0, s1, s2⟩, s3, s4, s5⟩ := boxS6 bS4
        have lS4 := bS4.lt
        obtain ⟨⟨⟨t0, t1⟩, t2, t3⟩, ⟨t4, t5⟩, t6, t7⟩ := boxS8a bT4
        have lT4 := bT4.lt
        go_wp2_with fail
        refine (HWK.out _).mono ?_
        rintro e wz ⟨rfl, hbz⟩
        have hBz := hB4.trans (hbz.mono hB4.size)
        go_wp2_with fail
        go_returns
        exact ⟨rfl, hBz⟩
      | true =>
        cases DB with
        | false =>
          clear HALL
          obtain ⟨al, ah, bl, bh, cs, wrn⟩ := s
          unfold shV at *
          dsimp only at *
          generalize ps.length = np at *
          go_enter Tryz.func3, Tryz.ntmps3
          go_wp2_with fail
          have bS1 := (BoxS.new w 26 #[.int .i64 al, .int .i64 ah, .int .i64 bl, .int .i64 bh, .slice A cs.length c, .int .i64 wrn]).alloc (.cells #[.int .i64 f1, .int .i64 f2, .int .i64 tw, .int .i64 off, .int .i64 ax, .int .i64 ay, .int .i64 bx, .int .i64 by1] 35)
          have bT1 := BoxS.new (w.alloc (.cells #[.int .i64 al, .int .i64 ah, .int .i64 bl, .int .i64 bh, .slice A cs.length c, .int .i64 wrn] 26)) 35 #[.int .i64 f1, .int .i64 f2, .int .i64 tw, .int .i64 off, .int .i64 ax, .int .i64 ay, .int .i64 bx, .int .i64 by1]
          rw [World.size_alloc] at bT1
          have hB1 : Below w.heap.size w ((w.alloc (.cells #[.int .i64 al, .int .i64 ah, .int .i64 bl, .int .i64 bh, .slice A cs.length c, .int .i64 wrn] 26)).alloc (.cells #[.int .i64 f1, .int .i64 f2, .int .i64 tw, .int .i64 off, .int .i64 ax, .int .i64 ay, .int .i64 bx, .int .i64 by1] 35)) := by (repeat' (first | (with_reducible exact Below.refl _ _) | (with_reducible assumption) | (with_reducible refine Below.alloc ?_ ?_ _) | (with_reducible refine Below.drew ?_) | (with_reducible refine Below.setCell ?_ ?_ _) | go_size | (exact (by simp)) | omega))
          generalize World.alloc (World.alloc w _) _ = w1 at *
          refine (HRD.out _ hB1).mono ?_
          rintro e w2 ⟨rfl, hb2⟩
          have bS2 := bS1.below hb2
          have bT2 := bT1.below hb2
          have hB2 := hB1.trans (hb2.mono hB1.size)
          clear bS1 bT1 hB1 hb2
          obtain ⟨⟨s0, s1, s2⟩, s3, s4, s5⟩ := boxS6 bS2
          have lS2 := bS2.lt
          obtain ⟨⟨⟨t0, t1⟩, t2, t3⟩, ⟨t4, t5⟩, t6, t7⟩ := boxS8a bT2
          have lT2 := bT2.lt
          go_wp2_with fail
          refine (HPO.out _ hB2).mono ?_
          rintro e w3 ⟨rfl, hb3⟩
          have bS3 := bS2.below hb3
          have bT3 := bT2.below hb3
          have hB3 := hB2.trans (hb3.mono hB2.size)
          clear s0 s1 s2 s3 s4 s5 lS2 t0 t1 t2 t3 t4 t5 t6 t7 lT2 bS2 bT2 hB2 hb3
          obtain ⟨⟨s0, s1, s2⟩, s3, s4, s5⟩ := boxS6 bS3
          have lS3 := bS3.lt
          obtain ⟨⟨⟨t0, t1⟩, t2, t3⟩, ⟨t4, t5⟩, t6, t7⟩ := boxS8a bT3
          have lT3 := bT3.lt
          go_wp2_with fail
          refine (HTR2.out _ hB3).mono ?_
          rintro e w4 ⟨rfl, hb4⟩
          have bS4 := bS3.below hb4
          have bT4 := bT3.below hb4
          have hB4 := hB3.trans (hb4.mono hB3.size)
          clear s0 s1 s2 s3 s4 s5 lS3 t0 t1 t2 t3 t4 t5 t6 t7 lT3 bS3 bT3 hB3 hb4
          obtain ⟨⟨s0, s1, s2⟩, s3, s4, s5⟩ := boxS6 bS4
          have lS4 := bS4.lt
          obtain ⟨⟨⟨t0, t1⟩, t2, t3⟩, ⟨t4, t5⟩, t6, t7⟩ := boxS8a bT4
          have lT4 := bT4.lt
          go_wp2_with fail
          refine (HDE.out _).mono ?_
          rintro e wq ⟨rfl, rfl⟩
          go_wp2_with fail
          refine (HWK.out _).mono ?_
          rintro e wz ⟨rfl, hbz⟩
          have hBz := hB4.trans (hbz.mono hB4.size)
          go_wp2_with fail
          go_returns
          exact ⟨rfl, hBz⟩
        | true =>
          cases B1 with
          | false =>
            clear HALL
            obtain ⟨al, ah, bl, bh, cs, wrn⟩ := s
            unfold shV at *
            dsimp only at *
            generalize ps.length = np at *
            go_enter Tryz.func3, Tryz.ntmps3
            go_wp2_with fail
            have bS1 := (BoxS.new w 26 #[.int .i64 al, .int .i64 ah, .int .i64 bl, .int .i64 bh, .slice A cs.length c, .int .i64 wrn]).alloc (.cells #[.int .i64 f1, .int .i64 f2, .int .i64 tw, .int .i64 off, .int .i64 ax, .int .i64 ay, .int .i64 bx, .int .i64 by1] 35)
            have bT1 := BoxS.new (w.alloc (.cells #[.int .i64 al, .int .i64 ah, .int .i64 bl, .int .i64 bh, .slice A cs.length c, .int .i64 wrn] 26)) 35 #[.int .i64 f1, .int .i64 f2, .int .i64 tw, .int .i64 off, .int .i64 ax, .int .i64 ay, .int .i64 bx, .int .i64 by1]
            rw [World.size_alloc] at bT1
            have hB1 : Below w.heap.size w ((w.alloc (.cells #[.int .i64 al, .int .i64 ah, .int .i64 bl, .int .i64 bh, .slice A cs.length c, .int .i64 wrn] 26)).alloc (.cells #[.int .i64 f1, .int .i64 f2, .int .i64 tw, .int .i64 off, .int .i64 ax, .int .i64 ay, .int .i64 bx, .int .i64 by1] 35)) := by (repeat' (first | (with_reducible exact Below.refl _ _) | (with_reducible assumption) | (with_reducible refine Below.alloc ?_ ?_ _) | (with_reducible refine Below.drew ?_) | (with_reducible refine Below.setCell ?_ ?_ _) | go_size | (exact (by simp)) | omega))
            generalize World.alloc (World.alloc w _) _ = w1 at *
            refine (HRD.out _ hB1).mono ?_
            rintro e w2 ⟨rfl, hb2⟩
            have bS2 := bS1.below hb2
            have bT2 := bT1.below hb2
            have hB2 := hB1.trans (hb2.mono hB1.size)
            clear bS1 bT1 hB1 hb2
            obtain ⟨⟨s0, s1, s2⟩, s3, s4, s5⟩ := boxS6 bS2
            have lS2 := bS2.lt
            obtain ⟨⟨⟨t0, t1⟩, t2, t3⟩, ⟨t4, t5⟩, t6, t7⟩ := boxS8a bT2
            have lT2 := bT2.lt
            go_wp2_with fail
            refine (HPO.out _ hB2).mono ?_
            rintro e w3 ⟨rfl, hb3⟩
            have bS3 := bS2.below hb3
            have bT3 := bT2.below hb3
            have hB3 := hB2.trans (hb3.mono hB2.size)
            clear s0 s1 s2 s3 s4 s5 lS2 t0 t1 t2 t3 t4 t5 t6 t7 lT2 bS2 bT2 hB2 hb3
            obtain ⟨⟨s0, s1, s2⟩, s3, s4, s5⟩ := boxS6 bS3
            have lS3 := bS3.lt
            obtain ⟨⟨⟨t0, t1⟩, t2, t3⟩, ⟨t4, t5⟩, t6, t7⟩ := boxS8a bT3
            have lT3 := bT3.lt
            go_wp2_with fail
            refine (HTR2.out _ hB3).mono ?_
            rintro e w4 ⟨rfl, hb4⟩
            have bS4 := bS3.below hb4
            have bT4 := bT3.below hb4
            have hB4 := hB3.trans (hb4.mono hB3.size)
            clear s0 s1 s2 s3 s4 s5 lS3 t0 t1 t2 t3 t4 t5 t6 t7 lT3 bS3 bT3 hB3 hb4
            obtain ⟨⟨s0, s1, s2⟩, s3, s4, s5⟩ := boxS6 bS4
            have lS4 := bS4.lt
            obtain ⟨⟨⟨t0, t1⟩, t2, t3⟩, ⟨t4, t5⟩, t6, t7⟩ := boxS8a bT4
            have lT4 := bT4.lt
            go_wp2_with fail
            refine (HDE.out _).mono ?_
            rintro e wq ⟨rfl, rfl⟩
            go_wp2_with fail
            refine (HX1.out _).mono ?_
            rintro e w5 ⟨rfl, hb5⟩
            have bS5 := bS4.below hb5
            have bT5 := bT4.below hb5
            have hB5 := hB4.trans (hb5.mono hB4.size)
            clear s0 s1 s2 s3 s4 s5 lS4 t0 t1 t2 t3 t4 t5 t6 t7 lT4 bS4 bT4 hB4 hb5
            obtain ⟨⟨s0, s1, s2⟩, s3, s4, s5⟩ := boxS6 bS5
            have lS5 := bS5.lt
            obtain ⟨⟨⟨t0, t1⟩, t2, t3⟩, ⟨t4, t5⟩, t6, t7⟩ := boxS8a bT5
            have lT5 := bT5.lt
            go_wp2_with fail
            refine (HWK.out _).mono ?_
            rintro e wz ⟨rfl, hbz⟩
            have hBz := hB5.trans (hbz.mono hB5.size)
            go_wp2_with fail
            go_returns
            exact ⟨rfl, hBz⟩
          | true =>
            cases B2 with
            | false =>
              clear HALL
              obtain ⟨al, ah, bl, bh, cs, wrn⟩ := s
              unfold shV at *
              dsimp only at *
              generalize ps.length = np at *
              go_enter Tryz.func3, Tryz.ntmps3
              go_wp2_with fail
              have bS1 := (BoxS.new w 26 #[.int .i64 al, .int .i64 ah, .int .i64 bl, .int .i64 bh, .slice A cs.length c, .int .i64 wrn]).alloc (.cells #[.int .i64 f1, .int .i64 f2, .int .i64 tw, .int .i64 off, .int .i64 ax, .int .i64 ay, .int .i64 bx, .int .i64 by1] 35)
              have bT1 := BoxS.new (w.alloc (.cells #[.int .i64 al, .int .i64 ah, .int .i64 bl, .int .i64 bh, .slice A cs.length c, .int .i64 wrn] 26)) 35 #[.int .i64 f1, .int .i64 f2, .int .i64 tw, .int .i64 off, .int .i64 ax, .int .i64 ay, .int .i64 bx, .int .i64 by1]
              rw [World.size_alloc] at bT1
              have hB1 : Below w.heap.size w ((w.alloc (.cells #[.int .i64 al, .int .i64 ah, .int .i64 bl, .int .i64 bh, .slice A cs.length c, .int .i64 wrn] 26)).alloc (.cells #[.int .i64 f1, .int .i64 f2, .int .i64 tw, .int .i64 off, .int .i64 ax, .int .i64 ay, .int .i64 bx, .int .i64 by1] 35)) := by (repeat' (first | (with_reducible exact Below.refl _ _) | (with_reducible assumption) | (with_reducible refine Below.alloc ?_ ?_ _) | (with_reducible refine Below.drew ?_) | (with_reducible refine Below.setCell ?_ ?_ _) | go_size | (exact (by simp)) | omega))
              generalize World.alloc (World.alloc w _) _ = w1 at *
              refine (HRD.out _ hB1).mono ?_
              rintro e w2 ⟨rfl, hb2⟩
              have bS2 := bS1.below hb2
              have bT2 := bT1.below hb2
              have hB2 := hB1.trans (hb2.mono hB1.size)
              clear bS1 bT1 hB1 hb2
              obtain ⟨⟨s0, s1, s2⟩, s3, s4, s5⟩ := boxS6 bS2
              have lS2 := bS2.lt
              obtain ⟨⟨⟨t0, t1⟩, t2, t3⟩, ⟨t4, t5⟩, t6, t7⟩ := boxS8a bT2
              have lT2 := bT2.lt
              go_wp2_with fail
              refine (HPO.out _ hB2).mono ?_
              rintro e w3 ⟨rfl, hb3⟩
              have bS3 := bS2.below hb3
              have bT3 := bT2.below hb3
              have hB3 := hB2.trans (hb3.mono hB2.size)
              clear s0 s1 s2 s3 s4 s5 lS2 t0 t1 t2 t3 t4 t5 t6 t7 lT2 bS2 bT2 hB2 hb3
              obtain ⟨⟨s0, s1, s2⟩, s3, s4, s5⟩ := boxS6 bS3
              have lS3 := bS3.lt
              obtain ⟨⟨⟨t0, t1⟩, t2, t3⟩, ⟨t4, t5⟩, t6, t7⟩ := boxS8a bT3
              have lT3 := bT3.lt
              go_wp2_with fail
              refine (HTR2.out _ hB3).mono ?_
              rintro e w4 ⟨rfl, hb4⟩
              have bS4 := bS3.below hb4
              have bT4 := bT3.below hb4
              have hB4 := hB3.trans (hb4.mono hB3.size)
              clear s0 s1 s2 s3 s4 s5 lS3 t0 t1 t2 t3 t4 t5 t6 t7 lT3 bS3 bT3 hB3 hb4
              obtain ⟨⟨s0, s1, s2⟩, s3, s4, s5⟩ := boxS6 bS4
              have lS4 := bS4.lt
              obtain ⟨⟨⟨t0, t1⟩, t2, t3⟩, ⟨t4, t5⟩, t6, t7⟩ := boxS8a bT4
              have lT4 := bT4.lt
              go_wp2_with fail
              refine (HDE.out _).mono ?_
              rintro e wq ⟨rfl, rfl⟩
              go_wp2_with fail
              refine (HX1.out _).mono ?_
              rintro e w5 ⟨rfl, hb5⟩
              have bS5 := bS4.below hb5
              have bT5 := bT4.below hb5
              have hB5 := hB4.trans (hb5.mono hB4.size)
              clear s0 s1 s2 s3 s4 s5 lS4 t0 t1 t2 t3 t4 t5 t6 t7 lT4 bS4 bT4 hB4 hb5
              obtain ⟨⟨s0, s1, s2⟩, s3, s4, s5⟩ := boxS6 bS5
              have lS5 := bS5.lt
              obtain ⟨⟨⟨t0, t1⟩, t2, t3⟩, ⟨t4, t5⟩, t6, t7⟩ := boxS8a bT5
              have lT5 := bT5.lt
              go_wp2_with fail
              refine (HX2.out _).mono ?_
              rintro e w6 ⟨rfl, hb6⟩
              have bS6 := bS5.below hb6
              have bT6 := bT5.below hb6
              have hB6 := hB5.trans (hb6.mono hB5.size)
              clear s0 s1 s2 s3 s4 s5 lS5 t0 t1 t2 t3 t4 t5 t6 t7 lT5 bS5 bT5 hB5 hb6
              obtain ⟨⟨s0, s1, s2⟩, s3, s4, s5⟩ := boxS6 bS6
              have lS6 := bS6.lt
              obtain ⟨⟨⟨t0, t1⟩, t2, t3⟩, ⟨t4, t5⟩, t6, t7⟩ := boxS8a bT6
              have lT6 := bT6.lt
              go_wp2_with fail
              refine (HWK.out _).mono ?_
              rintro e wz ⟨rfl, hbz⟩
              have hBz := hB6.trans (hbz.mono hB6.size)
              go_wp2_with fail
              go_returns
              exact ⟨rfl, hBz⟩
            | true =>
              obtain ⟨FL1, FL2, lo, hi, cl, ch, m, n, QL, T, N, D, X, Y, NN, DD, H1, H2, H3, H4, H5, H6, H7, H8, H9, H10, H11, H12, H13, H14, H15, H16, hw1, hw2, hw3, hw4, xN, nY, hdd, hq1, hq2, hq3, hq4, hq5, hq6, hql, hag1, hag2, hag3⟩ := HALL.out rfl rfl rfl rfl rfl rfl
              clear HALL
              obtain ⟨al, ah, bl, bh, cs, wrn⟩ := s
              unfold shV at *
              dsimp only at *
              generalize ps.length = np at *
              go_enter Tryz.func3, Tryz.ntmps3
              go_wp2_with fail
              have bS1 := (BoxS.new w 26 #[.int .i64 al, .int .i64 ah, .int .i64 bl, .int .i64 bh, .slice A cs.length c, .int .i64 wrn]).alloc (.cells #[.int .i64 f1, .int .i64 f2, .int .i64 tw, .int .i64 off, .int .i64 ax, .int .i64 ay, .int .i64 bx, .int .i64 by1] 35)
              have bT1 := BoxS.new (w.alloc (.cells #[.int .i64 al, .int .i64 ah, .int .i64 bl, .int .i64 bh, .slice A cs.length c, .int .i64 wrn] 26)) 35 #[.int .i64 f1, .int .i64 f2, .int .i64 tw, .int .i64 off, .int .i64 ax, .int .i64 ay, .int .i64 bx, .int .i64 by1]
              rw [World.size_alloc] at bT1
              have hB1 : Below w.heap.size w ((w.alloc (.cells #[.int .i64 al, .int .i64 ah, .int .i64 bl, .int .i64 bh, .slice A cs.length c, .int .i64 wrn] 26)).alloc (.cells #[.int .i64 f1, .int .i64 f2, .int .i64 tw, .int .i64 off, .int .i64 ax, .int .i64 ay, .int .i64 bx, .int .i64 by1] 35)) := by (repeat' (first | (with_reducible exact Below.refl _ _) | (with_reducible assumption) | (with_reducible refine Below.alloc ?_ ?_ _) | (with_reducible refine Below.drew ?_) | (with_reducible refine Below.setCell ?_ ?_ _) | go_size | (exact (by simp)) | omega))
              generalize World.alloc (World.alloc w _) _ = w1 at *
              refine (HRD.out _ hB1).mono ?_
              rintro e w2 ⟨rfl, hb2⟩
              have bS2 := bS1.below hb2
              have bT2 := bT1.below hb2
              have hB2 := hB1.trans (hb2.mono hB1.size)
              clear bS1 bT1 hB1 hb2
              obtain ⟨⟨s0, s1, s2⟩, s3, s4, s5⟩ := boxS6 bS2
              have lS2 := bS2.lt
              obtain ⟨⟨⟨t0, t1⟩, t2, t3⟩, ⟨t4, t5⟩, t6, t7⟩ := boxS8a bT2
              have lT2 := bT2.lt
              go_wp2_with fail
              refine (HPO.out _ hB2).mono ?_
              rintro e w3 ⟨rfl, hb3⟩
              have bS3 := bS2.below hb3
              have bT3 := bT2.below hb3
              have hB3 := hB2.trans (hb3.mono hB2.size)
              clear s0 s1 s2 s3 s4 s5 lS2 t0 t1 t2 t3 t4 t5 t6 t7 lT2 bS2 bT2 hB2 hb3
              obtain ⟨⟨s0, s1, s2⟩, s3, s4, s5⟩ := boxS6 bS3
              have lS3 := bS3.lt
              obtain ⟨⟨⟨t0, t1⟩, t2, t3⟩, ⟨t4, t5⟩, t6, t7⟩ := boxS8a bT3
              have lT3 := bT3.lt
              go_wp2_with fail
              refine (HTR2.out _ hB3).mono ?_
              rintro e w4 ⟨rfl, hb4⟩
              have bS4 := bS3.below hb4
              have bT4 := bT3.below hb4
              have hB4 := hB3.trans (hb4.mono hB3.size)
              clear s0 s1 s2 s3 s4 s5 lS3 t0 t1 t2 t3 t4 t5 t6 t7 lT3 bS3 bT3 hB3 hb4
              obtain ⟨⟨s0, s1, s2⟩, s3, s4, s5⟩ := boxS6 bS4
              have lS4 := bS4.lt
              obtain ⟨⟨⟨t0, t1⟩, t2, t3⟩, ⟨t4, t5⟩, t6, t7⟩ := boxS8a bT4
              have lT4 := bT4.lt
              go_wp2_with fail
              refine (HDE.out _).mono ?_
              rintro e wq ⟨rfl, rfl⟩
              go_wp2_with fail
              refine (HX1.out _).mono ?_
              rintro e w5 ⟨rfl, hb5⟩
              have bS5 := bS4.below hb5
              have bT5 := bT4.below hb5
              have hB5 := hB4.trans (hb5.mono hB4.size)
              clear s0 s1 s2 s3 s4 s5 lS4 t0 t1 t2 t3 t4 t5 t6 t7 lT4 bS4 bT4 hB4 hb5
              obtain ⟨⟨s0, s1, s2⟩, s3, s4, s5⟩ := boxS6 bS5
              have lS5 := bS5.lt
              obtain ⟨⟨⟨t0, t1⟩, t2, t3⟩, ⟨t4, t5⟩, t6, t7⟩ := boxS8a bT5
              have lT5 := bT5.lt
              go_wp2_with fail
              refine (HX2.out _).mono ?_
              rintro e w6 ⟨rfl, hb6⟩
              have bS6 := bS5.below hb6
              have bT6 := bT5.below hb6
              have hB6 := hB5.trans (hb6.mono hB5.size)
              clear s0 s1 s2 s3 s4 s5 lS5 t0 t1 t2 t3 t4 t5 t6 t7 lT5 bS5 bT5 hB5 hb6
              obtain ⟨⟨s0, s1, s2⟩, s3, s4, s5⟩ := boxS6 bS6
              have lS6 := bS6.lt
              obtain ⟨⟨⟨t0, t1⟩, t2, t3⟩, ⟨t4, t5⟩, t6, t7⟩ := boxS8a bT6
              have lT6 := bT6.lt
              go_wp2_with fail
              clear HRD HPO HTR2 HDE HX1 HX2
              refine (H1.out _ hB6).mono ?_
              rintro e w7 ⟨v1, rfl, hi1, hb7⟩
              have bS7 := bS6.below hb7
              have bT7 := bT6.below hb7
              have hB7 := hB6.trans (hb7.mono hB6.size)
              clear s0 s1 s2 s3 s4 s5 lS6 t0 t1 t2 t3 t4 t5 t6 t7 lT6 bS6 bT6 hB6 hb7 H1
              have HV1_7 := hi1
              clear hi1
              obtain ⟨⟨s0, s1, s2⟩, s3, s4, s5⟩ := boxS6 bS7
              have lS7 := bS7.lt
              obtain ⟨⟨⟨t0, t1⟩, t2, t3⟩, ⟨t4, t5⟩, t6, t7⟩ := boxS8a bT7
              have lT7 := bT7.lt
              go_wp2_with fail
              refine (H2.out _ hB7).mono ?_
              rintro e w8 ⟨v2, rfl, hi2, hb8⟩
              have bS8 := bS7.below hb8
              have bT8 := bT7.below hb8
              have hB8 := hB7.trans (hb8.mono hB7.size)
              have HV1_8 : Hid (Ints w8 w8.heap.size v1 FL1) := (HV1_7.out.keep hb8).more hb8.size
              clear HV1_7
              clear s0 s1 s2 s3 s4 s5 lS7 t0 t1 t2 t3 t4 t5 t6 t7 lT7 bS7 bT7 hB7 hb8 H2
              have HV2_8 := hi2
              clear hi2
              obtain ⟨⟨s0, s1, s2⟩, s3, s4, s5⟩ := boxS6 bS8
              have lS8 := bS8.lt
              obtain ⟨⟨⟨t0, t1⟩, t2, t3⟩, ⟨t4, t5⟩, t6, t7⟩ := boxS8a bT8
              have lT8 := bT8.lt
              go_wp2_with fail
              refine (H3.out _ hB8).mono ?_
              rintro e w9 ⟨rfl, hb9⟩
              have bS9 := bS8.below hb9
              have bT9 := bT8.below hb9
              have hB9 := hB8.trans (hb9.mono hB8.size)
              have HV1_9 : Hid (Ints w9 w9.heap.size v1 FL1) := (HV1_8.out.keep hb9).more hb9.size
              clear HV1_8
              have HV2_9 : Hid (Ints w9 w9.heap.size v2 FL2) := (HV2_8.out.keep hb9).more hb9.size
              clear HV2_8
              clear s0 s1 s2 s3 s4 s5 lS8 t0 t1 t2 t3 t4 t5 t6 t7 lT8 bS8 bT8 hB8 hb9 H3
              obtain ⟨⟨s0, s1, s2⟩, s3, s4, s5⟩ := boxS6 bS9
              have lS9 := bS9.lt
              obtain ⟨⟨⟨t0, t1⟩, t2, t3⟩, ⟨t4, t5⟩, t6, t7⟩ := boxS8a bT9
              have lT9 := bT9.lt
              go_wp2_with fail
              have bP10n := BoxS.new w9 23 #[.int .i64 lo, .int .i64 hi]
              have hbx : Below w9.heap.size w9 (w9.alloc (.cells #[.int .i64 lo, .int .i64 hi] 23)) := (Below.refl _ _).alloc (Nat.le_refl _) _
              have bS10 := bS9.below hbx
              have bT10 := bT9.below hbx
              have hB10 := hB9.trans (hbx.mono hB9.size)
              obtain ⟨BP, hBe⟩ : ∃ B, B = w9.heap.size := ⟨_, rfl⟩
              have kP : w.heap.size + 1 < BP := by have := bT9.lt; omega
              rw [← hBe] at bP10n ⊢
              have bP10 := bP10n
              have HV1_10 : Hid (Ints (w9.alloc (.cells #[.int .i64 lo, .int .i64 hi] 23)) (w9.alloc (.cells #[.int .i64 lo, .int .i64 hi] 23)).heap.size v1 FL1) := (HV1_9.out.keep hbx).more hbx.size
              clear HV1_9
              have HV2_10 : Hid (Ints (w9.alloc (.cells #[.int .i64 lo, .int .i64 hi] 23)) (w9.alloc (.cells #[.int .i64 lo, .int .i64 hi] 23)).heap.size v2 FL2) := (HV2_9.out.keep hbx).more hbx.size
              clear HV2_9
              clear s0 s1 s2 s3 s4 s5 lS9 t0 t1 t2 t3 t4 t5 t6 t7 lT9 bS9 bT9 hB9 hbx hBe bP10n
              generalize World.alloc w9 _ = w10 at *
              obtain ⟨⟨s0, s1, s2⟩, s3, s4, s5⟩ := boxS6 bS10
              have lS10 := bS10.lt
              obtain ⟨⟨⟨t0, t1⟩, t2, t3⟩, ⟨t4, t5⟩, t6, t7⟩ := boxS8a bT10
              have lT10 := bT10.lt
              refine (H4.out _ hB10).mono ?_
              rintro e w11 ⟨rfl, hb11⟩
              have bS11 := bS10.below hb11
              have bT11 := bT10.below hb11
              have bP11 := bP10.below hb11
              have hB11 := hB10.trans (hb11.mono hB10.size)
              have HV1_11 : Hid (Ints w11 w11.heap.size v1 FL1) := (HV1_10.out.keep hb11).more hb11.size
              clear HV1_10
              have HV2_11 : Hid (Ints w11 w11.heap.size v2 FL2) := (HV2_10.out.keep hb11).more hb11.size
              clear HV2_10
              clear s0 s1 s2 s3 s4 s5 lS10 t0 t1 t2 t3 t4 t5 t6 t7 lT10 bS10 bT10 bP10 hB10 hb11 H4
              obtain ⟨⟨s0, s1, s2⟩, s3, s4, s5⟩ := boxS6 bS11
              have lS11 := bS11.lt
              obtain ⟨⟨⟨t0, t1⟩, t2, t3⟩, ⟨t4, t5⟩, t6, t7⟩ := boxS8a bT11
              have lT11 := bT11.lt
              obtain ⟨p0, p1⟩ := boxS2 bP11
              have lP11 := bP11.lt
              go_wp2_with fail
              have bQ12n := BoxS.new w11 23 #[.int .i64 cl, .int .i64 ch]
              have hbx : Below w11.heap.size w11 (w11.alloc (.cells #[.int .i64 cl, .int .i64 ch] 23)) := (Below.refl _ _).alloc (Nat.le_refl _) _
              have bS12 := bS11.below hbx
              have bT12 := bT11.below hbx
              have bP12 := bP11.below hbx
              have hB12 := hB11.trans (hbx.mono hB11.size)
              obtain ⟨BQ, hBe⟩ : ∃ B, B = w11.heap.size := ⟨_, rfl⟩
              have kQ : BP < BQ := by have := bP11.lt; omega
              rw [← hBe] at bQ12n ⊢
              have bQ12 := bQ12n
              have HV1_12 : Hid (Ints (w11.alloc (.cells #[.int .i64 cl, .int .i64 ch] 23)) (w11.alloc (.cells #[.int .i64 cl, .int .i64 ch] 23)).heap.size v1 FL1) := (HV1_11.out.keep hbx).more hbx.size
              clear HV1_11
              have HV2_12 : Hid (Ints (w11.alloc (.cells #[.int .i64 cl, .int .i64 ch] 23)) (w11.alloc (.cells #[.int .i64 cl, .int .i64 ch] 23)).heap.size v2 FL2) := (HV2_11.out.keep hbx).more hbx.size
              clear HV2_11
              clear s0 s1 s2 s3 s4 s5 lS11 t0 t1 t2 t3 t4 t5 t6 t7 lT11 p0 p1 lP11 bS11 bT11 bP11 hB11 hbx hBe bQ12n
              generalize World.alloc w11 _ = w12 at *
              obtain ⟨⟨s0, s1, s2⟩, s3, s4, s5⟩ := boxS6 bS12
              have lS12 := bS12.lt
              obtain ⟨⟨⟨t0, t1⟩, t2, t3⟩, ⟨t4, t5⟩, t6, t7⟩ := boxS8a bT12
              have lT12 := bT12.lt
              refine (H5.out _ hB12).mono ?_
              rintro e w13 ⟨rfl, hb13⟩
              have bS13 := bS12.below hb13
              have bT13 := bT12.below hb13
              have bP13 := bP12.below hb13
              have bQ13 := bQ12.below hb13
              have hB13 := hB12.trans (hb13.mono hB12.size)
              have HV1_13 : Hid (Ints w13 w13.heap.size v1 FL1) := (HV1_12.out.keep hb13).more hb13.size
              clear HV1_12
              have HV2_13 : Hid (Ints w13 w13.heap.size v2 FL2) := (HV2_12.out.keep hb13).more hb13.size
              clear HV2_12
              clear s0 s1 s2 s3 s4 s5 lS12 t0 t1 t2 t3 t4 t5 t6 t7 lT12 bS12 bT12 bP12 bQ12 hB12 hb13 H5
              obtain ⟨⟨s0, s1, s2⟩, s3, s4, s5⟩ := boxS6 bS13
              have lS13 := bS13.lt
              obtain ⟨⟨⟨t0, t1⟩, t2, t3⟩, ⟨t4, t5⟩, t6, t7⟩ := boxS8a bT13
              have lT13 := bT13.lt
              go_wp2_with fail
              refine (H6.out _ hB13).mono ?_
              rintro e w14 ⟨rfl, hb14⟩
              have bS14 := bS13.below hb14
              have bT14 := bT13.below hb14
              have bP14 := bP13.below hb14
              have bQ14 := bQ13.below hb14
              have hB14 := hB13.trans (hb14.mono hB13.size)
              have HV1_14 : Hid (Ints w14 w14.heap.size v1 FL1) := (HV1_13.out.keep hb14).more hb14.size
              clear HV1_13
              have HV2_14 : Hid (Ints w14 w14.heap.size v2 FL2) := (HV2_13.out.keep hb14).more hb14.size
              clear HV2_13
              clear s0 s1 s2 s3 s4 s5 lS13 t0 t1 t2 t3 t4 t5 t6 t7 lT13 bS13 bT13 bP13 bQ13 hB13 hb14 H6
              obtain ⟨⟨s0, s1, s2⟩, s3, s4, s5⟩ := boxS6 bS14
              have lS14 := bS14.lt
              obtain ⟨⟨⟨t0, t1⟩, t2, t3⟩, ⟨t4, t5⟩, t6, t7⟩ := boxS8a bT14
              have lT14 := bT14.lt
              go_wp2_with fail
              refine (H7.out _ hB14).mono ?_
              rintro e w15 ⟨v3, rfl, hi3, hb15⟩
              have bS15 := bS14.below hb15
              have bT15 := bT14.below hb15
              have bP15 := bP14.below hb15
              have bQ15 := bQ14.below hb15
              have hB15 := hB14.trans (hb15.mono hB14.size)
              have HV1_15 : Hid (Ints w15 w15.heap.size v1 FL1) := (HV1_14.out.keep hb15).more hb15.size
              clear HV1_14
              have HV2_15 : Hid (Ints w15 w15.heap.size v2 FL2) := (HV2_14.out.keep hb15).more hb15.size
              clear HV2_14
              clear s0 s1 s2 s3 s4 s5 lS14 t0 t1 t2 t3 t4 t5 t6 t7 lT14 bS14 bT14 bP14 bQ14 hB14 hb15 H7
              have HV3_15 := hi3
              clear hi3
              have hform : ∃ A9 c9, v3 = .slice A9 QL.length c9 := by
                rcases HV3_15.out with ⟨rfl, rfl⟩ | ⟨b, off, cap, rfl, _⟩
                · exact ⟨none, 0, rfl⟩
                · exact ⟨_, _, rfl⟩
              obtain ⟨A9, c9, rfl⟩ := hform
              have hql2 : ¬ (40 : Int) < QL.length := by omega
              obtain ⟨⟨s0, s1, s2⟩, s3, s4, s5⟩ := boxS6 bS15
              have lS15 := bS15.lt
              obtain ⟨⟨⟨t0, t1⟩, t2, t3⟩, ⟨t4, t5⟩, t6, t7⟩ := boxS8a bT15
              have lT15 := bT15.lt
              obtain ⟨p0, p1⟩ := boxS2 bP15
              have lP15 := bP15.lt
              obtain ⟨q0, q1⟩ := boxS2 bQ15
              have lQ15 := bQ15.lt
              go_wp2_with fail
              refine (H8.out v1 _ HV1_15.out).mono ?_
              rintro e w16 ⟨rfl, hb16⟩
              have bS16 := bS15.below hb16
              have bT16 := bT15.below hb16
              have bP16 := bP15.below hb16
              have bQ16 := bQ15.below hb16
              have hB16 := hB15.trans (hb16.mono hB15.size)
              have HV1_16 : Hid (Ints w16 w16.heap.size v1 FL1) := (HV1_15.out.keep hb16).more hb16.size
              clear HV1_15
              have HV2_16 : Hid (Ints w16 w16.heap.size v2 FL2) := (HV2_15.out.keep hb16).more hb16.size
              clear HV2_15
              have HV3_16 : Hid (Ints w16 w16.heap.size (.slice A9 QL.length c9) QL) := (HV3_15.out.keep hb16).more hb16.size
              clear HV3_15
              clear s0 s1 s2 s3 s4 s5 lS15 t0 t1 t2 t3 t4 t5 t6 t7 lT15 p0 p1 lP15 q0 q1 lQ15 bS15 bT15 bP15 bQ15 hB15 hb16 H8
              obtain ⟨⟨s0, s1, s2⟩, s3, s4, s5⟩ := boxS6 bS16
              have lS16 := bS16.lt
              obtain ⟨⟨⟨t0, t1⟩, t2, t3⟩, ⟨t4, t5⟩, t6, t7⟩ := boxS8a bT16
              have lT16 := bT16.lt
              obtain ⟨p0, p1⟩ := boxS2 bP16
              have lP16 := bP16.lt
              obtain ⟨q0, q1⟩ := boxS2 bQ16
              have lQ16 := bQ16.lt
              go_wp2_with fail
              clear HV1_16
              refine (H9.out v2 _ HV2_16.out).mono ?_
              rintro e w17 ⟨rfl, hb17⟩
              have bS17 := bS16.below hb17
              have bT17 := bT16.below hb17
              have bP17 := bP16.below hb17
              have bQ17 := bQ16.below hb17
              have hB17 := hB16.trans (hb17.mono hB16.size)
              have HV2_17 : Hid (Ints w17 w17.heap.size v2 FL2) := (HV2_16.out.keep hb17).more hb17.size
              clear HV2_16
              have HV3_17 : Hid (Ints w17 w17.heap.size (.slice A9 QL.length c9) QL) := (HV3_16.out.keep hb17).more hb17.size
              clear HV3_16
              clear s0 s1 s2 s3 s4 s5 lS16 t0 t1 t2 t3 t4 t5 t6 t7 lT16 p0 p1 lP16 q0 q1 lQ16 bS16 bT16 bP16 bQ16 hB16 hb17 H9
              obtain ⟨⟨s0, s1, s2⟩, s3, s4, s5⟩ := boxS6 bS17
              have lS17 := bS17.lt
              obtain ⟨⟨⟨t0, t1⟩, t2, t3⟩, ⟨t4, t5⟩, t6, t7⟩ := boxS8a bT17
              have lT17 := bT17.lt
              obtain ⟨p0, p1⟩ := boxS2 bP17
              have lP17 := bP17.lt
              obtain ⟨q0, q1⟩ := boxS2 bQ17
              have lQ17 := bQ17.lt
              go_wp2_with fail
              clear HV2_17
              refine (H10.out _).mono ?_
              rintro e w18 ⟨rfl, hb18⟩
              have bS18 := bS17.below hb18
              have bT18 := bT17.below hb18
              have bP18 := bP17.below hb18
              have bQ18 := bQ17.below hb18
              have hB18 := hB17.trans (hb18.mono hB17.size)
              have HV3_18 : Hid (Ints w18 w18.heap.size (.slice A9 QL.length c9) QL) := (HV3_17.out.keep hb18).more hb18.size
              clear HV3_17
              clear s0 s1 s2 s3 s4 s5 lS17 t0 t1 t2 t3 t4 t5 t6 t7 lT17 p0 p1 lP17 q0 q1 lQ17 bS17 bT17 bP17 bQ17 hB17 hb18 H10
              obtain ⟨⟨s0, s1, s2⟩, s3, s4, s5⟩ := boxS6 bS18
              have lS18 := bS18.lt
              obtain ⟨⟨⟨t0, t1⟩, t2, t3⟩, ⟨t4, t5⟩, t6, t7⟩ := boxS8a bT18
              have lT18 := bT18.lt
              obtain ⟨p0, p1⟩ := boxS2 bP18
              have lP18 := bP18.lt
              obtain ⟨q0, q1⟩ := boxS2 bQ18
              have lQ18 := bQ18.lt
              go_wp2_with fail
              refine (H11.out _).mono ?_
              rintro e w19 ⟨rfl, hb19⟩
              have bS19 := bS18.below hb19
              have bT19 := bT18.below hb19
              have bP19 := bP18.below hb19
              have bQ19 := bQ18.below hb19
              have hB19 := hB18.trans (hb19.mono hB18.size)
              have HV3_19 : Hid (Ints w19 w19.heap.size (.slice A9 QL.length c9) QL) := (HV3_18.out.keep hb19).more hb19.size
              clear HV3_18
              clear s0 s1 s2 s3 s4 s5 lS18 t0 t1 t2 t3 t4 t5 t6 t7 lT18 p0 p1 lP18 q0 q1 lQ18 bS18 bT18 bP18 bQ18 hB18 hb19 H11
              obtain ⟨⟨s0, s1, s2⟩, s3, s4, s5⟩ := boxS6 bS19
              have lS19 := bS19.lt
              obtain ⟨⟨⟨t0, t1⟩, t2, t3⟩, ⟨t4, t5⟩, t6, t7⟩ := boxS8a bT19
              have lT19 := bT19.lt
              obtain ⟨p0, p1⟩ := boxS2 bP19
              have lP19 := bP19.lt
              obtain ⟨q0, q1⟩ := boxS2 bQ19
              have lQ19 := bQ19.lt
              go_wp2_with fail
              refine (H12.out _ hB19).mono ?_
              rintro e w20 ⟨rfl, hb20⟩
              have bS20 := bS19.below hb20
              have bT20 := bT19.below hb20
              have bP20 := bP19.below hb20
              have bQ20 := bQ19.below hb20
              have hB20 := hB19.trans (hb20.mono hB19.size)
              have HV3_20 : Hid (Ints w20 w20.heap.size (.slice A9 QL.length c9) QL) := (HV3_19.out.keep hb20).more hb20.size
              clear HV3_19
              clear s0 s1 s2 s3 s4 s5 lS19 t0 t1 t2 t3 t4 t5 t6 t7 lT19 p0 p1 lP19 q0 q1 lQ19 bS19 bT19 bP19 bQ19 hB19 hb20 H12
              obtain ⟨⟨s0, s1, s2⟩, s3, s4, s5⟩ := boxS6 bS20
              have lS20 := bS20.lt
              obtain ⟨⟨⟨t0, t1⟩, t2, t3⟩, ⟨t4, t5⟩, t6, t7⟩ := boxS8a bT20
              have lT20 := bT20.lt
              obtain ⟨p0, p1⟩ := boxS2 bP20
              have lP20 := bP20.lt
              obtain ⟨q0, q1⟩ := boxS2 bQ20
              have lQ20 := bQ20.lt
              go_wp2_with fail
              refine (H13.out _).mono ?_
              rintro e w21 ⟨rfl, hb21⟩
              have bS21 := bS20.below hb21
              have bT21 := bT20.below hb21
              have bP21 := bP20.below hb21
              have bQ21 := bQ20.below hb21
              have hB21 := hB20.trans (hb21.mono hB20.size)
              have HV3_21 : Hid (Ints w21 w21.heap.size (.slice A9 QL.length c9) QL) := (HV3_20.out.keep hb21).more hb21.size
              clear HV3_20
              clear s0 s1 s2 s3 s4 s5 lS20 t0 t1 t2 t3 t4 t5 t6 t7 lT20 p0 p1 lP20 q0 q1 lQ20 bS20 bT20 bP20 bQ20 hB20 hb21 H13
              go_wp2_with fail
              refine (wpIn_wide (n := 4)).1 ?_
              have hmo : Tryz.prog.follows .mixedOrders = true := by kernel_rfl
              have q0 : Below w21.heap.size w21 w21.drew := (Below.refl _ _).drew
              have KC : Hid (∀ W', Below w21.heap.size w21 W' → (W'.cell? ⟨BP, 0, none⟩ = some (.int .i64 lo) ∧ W'.cell? ⟨BP, 1, none⟩ = some (.int .i64 hi)) ∧ (W'.cell? ⟨BQ, 0, none⟩ = some (.int .i64 cl) ∧ W'.cell? ⟨BQ, 1, none⟩ = some (.int .i64 ch))) := fun W' h => ⟨boxS2 (bP21.below h), boxS2 (bQ21.below h)⟩
              refine wpIn_region_held (fun W' => Below w21.heap.size w21 W') 60 hmo ?_
              refine wpHeldIn_take (i := 0) (v := ?_) (plain_of (by kernel_rfl)) rfl (by kernel_rfl) (fun _ _ _ h => h) (yieldsSoIn_of (by kernel_rfl) ?_ (fun _ => rfl)) q0 ?_; rotate_left; focus (intro wq hw; clear hw; go_simp; try (with_reducible rfl))
              refine wpHeldIn_take (i := 1) (v := ?_) (plain_of (by kernel_rfl)) rfl (by kernel_rfl) (fun _ _ _ h => h) (yieldsSoIn_of (by kernel_rfl) ?_ (fun _ => rfl)) q0 ?_; rotate_left; focus (intro wq hw; have kq := KC.out wq hw; clear hw; go_simp; try (with_reducible rfl))
              refine wpHeldIn_take (i := 2) (v := ?_) (plain_of (by kernel_rfl)) rfl (by kernel_rfl) (fun _ _ _ h => h) (yieldsSoIn_of (by kernel_rfl) ?_ (fun _ => rfl)) q0 ?_; rotate_left; focus (intro wq hw; clear hw; go_simp; try (with_reducible rfl))
              refine wpHeldIn_take (i := 3) (v := ?_) (plain_of (by kernel_rfl)) rfl (by kernel_rfl) (fun _ _ _ h => h) (yieldsSoIn_of (by kernel_rfl) ?_ (fun _ => rfl)) q0 ?_; rotate_left; focus (intro wq hw; clear hw; go_simp; try (with_reducible rfl))
              refine wpHeldIn_take (i := 4) (v := ?_) (plain_of (by kernel_rfl)) rfl (by kernel_rfl) (fun _ _ _ h => h) (yieldsSoIn_of (by kernel_rfl) ?_ (fun _ => rfl)) q0 ?_; rotate_left; focus (intro wq hw; clear hw; go_simp; try (with_reducible rfl))
              refine wpHeldIn_take (i := 5) (v := .int .i64 (Sh.absV T)) (plain_of (by kernel_rfl)) rfl (by kernel_rfl) (fun _ _ _ h => h) (yieldsSoIn_call (by kernel_rfl) ?_ rfl (fun _ => trivial) (fun m wq hw => callsIn_wide.2 ((H14.out wq).mono (fun e w' h => ⟨h.1, h.2.symm⟩)))) q0 ?_; focus (intro wq hw; clear hw; go_simp; try (with_reducible rfl))
              refine wpHeldIn_take (i := 6) (v := ?_) (plain_of (by kernel_rfl)) rfl (by kernel_rfl) (fun _ _ _ h => h) (yieldsSoIn_of (by kernel_rfl) ?_ (fun _ => rfl)) q0 ?_; rotate_left; focus (intro wq hw; clear hw; go_simp; try (with_reducible rfl))
              refine wpHeldIn_take (i := 7) (v := ?_) (plain_of (by kernel_rfl)) rfl (by kernel_rfl) (fun _ _ _ h => h) (yieldsSoIn_of (by kernel_rfl) ?_ (fun _ => rfl)) q0 ?_; rotate_left; focus (intro wq hw; clear hw; go_simp; try (with_reducible rfl))
              refine wpHeldIn_take (i := 8) (v := ?_) (plain_of (by kernel_rfl)) rfl (by kernel_rfl) (fun _ _ _ h => h) (yieldsSoIn_of (by kernel_rfl) ?_ (fun _ => rfl)) q0 ?_; rotate_left; focus (intro wq hw; clear hw; go_simp; try (with_reducible rfl))
              refine wpHeldIn_take (i := 9) (v := ?_) (plain_of (by kernel_rfl)) rfl (by kernel_rfl) (fun _ _ _ h => h) (yieldsSoIn_of (by kernel_rfl) ?_ (fun _ => rfl)) q0 ?_; rotate_left; focus (intro wq hw; clear hw; go_simp; try (with_reducible rfl))
              refine wpHeldIn_take (i := 10) (v := ?_) (plain_of (by kernel_rfl)) rfl (by kernel_rfl) (fun _ _ _ h => h) (yieldsSoIn_of (by kernel_rfl) ?_ (fun _ => rfl)) q0 ?_; rotate_left; focus (intro wq hw; have kq := KC.out wq hw; clear hw; go_simp; try (with_reducible rfl))
              refine wpHeldIn_take (i := 11) (v := ?_) (plain_of (by kernel_rfl)) rfl (by kernel_rfl) (fun _ _ _ h => h) (yieldsSoIn_of (by kernel_rfl) ?_ (fun _ => rfl)) q0 ?_; rotate_left; focus (intro wq hw; clear hw; go_simp; try (with_reducible rfl))
              refine wpHeldIn_take (i := 12) (v := ?_) (plain_of (by kernel_rfl)) rfl (by kernel_rfl) (fun _ _ _ h => h) (yieldsSoIn_of (by kernel_rfl) ?_ (fun _ => rfl)) q0 ?_; rotate_left; focus (intro wq hw; clear hw; go_simp; try (with_reducible rfl))
              refine wpHeldIn_take (i := 13) (v := ?_) (plain_of (by kernel_rfl)) rfl (by kernel_rfl) (fun _ _ _ h => h) (yieldsSoIn_of (by kernel_rfl) ?_ (fun _ => rfl)) q0 ?_; rotate_left; focus (intro wq hw; clear hw; go_simp; try (with_reducible rfl))
              refine wpHeldIn_take (i := 14) (v := .int .i64 (Sh.absV T)) (plain_of (by kernel_rfl)) rfl (by kernel_rfl) (fun _ _ _ h => h) (yieldsSoIn_call (by kernel_rfl) ?_ rfl (fun _ => trivial) (fun m wq hw => callsIn_wide.2 ((H14.out wq).mono (fun e w' h => ⟨h.1, h.2.symm⟩)))) q0 ?_; focus (intro wq hw; clear hw; go_simp; try (with_reducible rfl))
              refine wpHeldIn_take (i := 15) (v := ?_) (plain_of (by kernel_rfl)) rfl (by kernel_rfl) (fun _ _ _ h => h) (yieldsSoIn_of (by kernel_rfl) ?_ (fun _ => rfl)) q0 ?_; rotate_left; focus (intro wq hw; clear hw; go_simp; try (with_reducible rfl))
              refine wpHeldIn_take (i := 16) (v := ?_) (plain_of (by kernel_rfl)) rfl (by kernel_rfl) (fun _ _ _ h => h) (yieldsSoIn_of (by kernel_rfl) ?_ (fun _ => rfl)) q0 ?_; rotate_left; focus (intro wq hw; clear hw; go_simp; try (with_reducible rfl))
              refine wpHeldIn_take (i := 17) (v := ?_) (plain_of (by kernel_rfl)) rfl (by kernel_rfl) (fun _ _ _ h => h) (yieldsSoIn_of (by kernel_rfl) ?_ (fun _ => rfl)) q0 ?_; rotate_left; focus (intro wq hw; clear hw; go_simp; try (with_reducible rfl))
              refine wpHeldIn_take (i := 18) (v := ?_) (plain_of (by kernel_rfl)) rfl (by kernel_rfl) (fun _ _ _ h => h) (yieldsSoIn_of (by kernel_rfl) ?_ (fun _ => rfl)) q0 ?_; rotate_left; focus (intro wq hw; clear hw; go_simp; try (with_reducible rfl))
              refine wpHeldIn_take (i := 19) (v := ?_) (plain_of (by kernel_rfl)) rfl (by kernel_rfl) (fun _ _ _ h => h) (yieldsSoIn_of (by kernel_rfl) ?_ (fun _ => rfl)) q0 ?_; rotate_left; focus (intro wq hw; clear hw; go_simp; try (with_reducible rfl))
              refine wpHeldIn_take (i := 20) (v := ?_) (plain_of (by kernel_rfl)) rfl (by kernel_rfl) (fun _ _ _ h => h) (yieldsSoIn_of (by kernel_rfl) ?_ (fun _ => rfl)) q0 ?_; rotate_left; focus (intro wq hw; have kq := KC.out wq hw; clear hw; go_simp; try (with_reducible rfl))
              refine wpHeldIn_take (i := 21) (v := ?_) (plain_of (by kernel_rfl)) rfl (by kernel_rfl) (fun _ _ _ h => h) (yieldsSoIn_of (by kernel_rfl) ?_ (fun _ => rfl)) q0 ?_; rotate_left; focus (intro wq hw; clear hw; go_simp; try (with_reducible rfl))
              refine wpHeldIn_take (i := 22) (v := ?_) (plain_of (by kernel_rfl)) rfl (by kernel_rfl) (fun _ _ _ h => h) (yieldsSoIn_of (by kernel_rfl) ?_ (fun _ => rfl)) q0 ?_; rotate_left; focus (intro wq hw; clear hw; go_simp; try (with_reducible rfl))
              refine wpHeldIn_take (i := 23) (v := ?_) (plain_of (by kernel_rfl)) rfl (by kernel_rfl) (fun _ _ _ h => h) (yieldsSoIn_of (by kernel_rfl) ?_ (fun _ => rfl)) q0 ?_; rotate_left; focus (intro wq hw; clear hw; go_simp; try (with_reducible rfl))
              refine wpHeldIn_take (i := 24) (v := ?_) (plain_of (by kernel_rfl)) rfl (by kernel_rfl) (fun _ _ _ h => h) (yieldsSoIn_of (by kernel_rfl) ?_ (fun _ => rfl)) q0 ?_; rotate_left; focus (intro wq hw; clear hw; go_simp; try (with_reducible rfl))
              refine wpHeldIn_take (i := 25) (v := ?_) (plain_of (by kernel_rfl)) rfl (by kernel_rfl) (fun _ _ _ h => h) (yieldsSoIn_of (by kernel_rfl) ?_ (fun _ => rfl)) q0 ?_; rotate_left; focus (intro wq hw; clear hw; go_simp; try (with_reducible rfl))
              refine wpHeldIn_take (i := 26) (v := ?_) (plain_of (by kernel_rfl)) rfl (by kernel_rfl) (fun _ _ _ h => h) (yieldsSoIn_of (by kernel_rfl) ?_ (fun _ => rfl)) q0 ?_; rotate_left; focus (intro wq hw; clear hw; go_simp; try (with_reducible rfl))
              refine wpHeldIn_take (i := 27) (v := ?_) (plain_of (by kernel_rfl)) rfl (by kernel_rfl) (fun _ _ _ h => h) (yieldsSoIn_of (by kernel_rfl) ?_ (fun _ => rfl)) q0 ?_; rotate_left; focus (intro wq hw; clear hw; go_simp; try (with_reducible rfl))
              refine wpHeldIn_take (i := 28) (v := ?_) (plain_of (by kernel_rfl)) rfl (by kernel_rfl) (fun _ _ _ h => h) (yieldsSoIn_of (by kernel_rfl) ?_ (fun _ => rfl)) q0 ?_; rotate_left; focus (intro wq hw; clear hw; go_simp; try (with_reducible rfl))
              by_cases hpos : 0 < NN
              · have d3 : decide (0 < NN) = true := decide_eq_true hpos
                have d4 := hq5 hpos
                clear hpos hq5
                refine wpHeldIn_take (i := 29) (v := ?_) (plain_of (by kernel_rfl)) rfl (by kernel_rfl) (fun _ _ _ h => h) (yieldsSoIn_of (by kernel_rfl) ?_ (fun _ => rfl)) q0 ?_; rotate_left; focus (intro wq hw; clear hw; go_simp; try (with_reducible rfl))
                refine wpHeldIn_take (i := 30) (v := ?_) (plain_of (by kernel_rfl)) rfl (by kernel_rfl) (fun _ _ _ h => h) (yieldsSoIn_of (by kernel_rfl) ?_ (fun _ => rfl)) q0 ?_; rotate_left; focus (intro wq hw; clear hw; go_simp; try (with_reducible rfl))
                refine wpHeldIn_take (i := 31) (v := ?_) (plain_of (by kernel_rfl)) rfl (by kernel_rfl) (fun _ _ _ h => h) (yieldsSoIn_of (by kernel_rfl) ?_ (fun _ => rfl)) q0 ?_; rotate_left; focus (intro wq hw; have kq := KC.out wq hw; clear hw; go_simp; try (with_reducible rfl))
                refine wpHeldIn_take (i := 32) (v := ?_) (plain_of (by kernel_rfl)) rfl (by kernel_rfl) (fun _ _ _ h => h) (yieldsSoIn_of (by kernel_rfl) ?_ (fun _ => rfl)) q0 ?_; rotate_left; focus (intro wq hw; clear hw; go_simp; try (with_reducible rfl))
                refine wpHeldIn_take (i := 33) (v := ?_) (plain_of (by kernel_rfl)) rfl (by kernel_rfl) (fun _ _ _ h => h) (yieldsSoIn_of (by kernel_rfl) ?_ (fun _ => rfl)) q0 ?_; rotate_left; focus (intro wq hw; clear hw; go_simp; try (with_reducible rfl))
                refine wpHeldIn_take (i := 34) (v := ?_) (plain_of (by kernel_rfl)) rfl (by kernel_rfl) (fun _ _ _ h => h) (yieldsSoIn_of (by kernel_rfl) ?_ (fun _ => rfl)) q0 ?_; rotate_left; focus (intro wq hw; clear hw; go_simp; try (with_reducible rfl))
                refine wpHeldIn_take (i := 35) (v := ?_) (plain_of (by kernel_rfl)) rfl (by kernel_rfl) (fun _ _ _ h => h) (yieldsSoIn_of (by kernel_rfl) ?_ (fun _ => rfl)) q0 ?_; rotate_left; focus (intro wq hw; clear hw; go_simp; try (with_reducible rfl))
                refine wpHeldIn_take (i := 36) (v := ?_) (plain_of (by kernel_rfl)) rfl (by kernel_rfl) (fun _ _ _ h => h) (yieldsSoIn_of (by kernel_rfl) ?_ (fun _ => rfl)) q0 ?_; rotate_left; focus (intro wq hw; clear hw; go_simp; try (with_reducible rfl))
                refine wpHeldIn_take (i := 37) (v := ?_) (plain_of (by kernel_rfl)) rfl (by kernel_rfl) (fun _ _ _ h => h) (yieldsSoIn_of (by kernel_rfl) ?_ (fun _ => rfl)) q0 ?_; rotate_left; focus (intro wq hw; clear hw; go_simp; try (with_reducible rfl))
                refine wpHeldIn_take (i := 38) (v := ?_) (plain_of (by kernel_rfl)) rfl (by kernel_rfl) (fun _ _ _ h => h) (yieldsSoIn_of (by kernel_rfl) ?_ (fun _ => rfl)) q0 ?_; rotate_left; focus (intro wq hw; clear hw; go_simp; try (with_reducible rfl))
                refine wpHeldIn_done (by kernel_rfl) ?_ _
                go_simp
                have bS22 : BoxS w21.drew w.heap.size 26 #[.int .i64 al, .int .i64 ah, .int .i64 bl, .int .i64 bh, .slice A cs.length c, .int .i64 wrn] := bS21
                have bT22 : BoxS w21.drew (w.heap.size + 1) 35 #[.int .i64 f1, .int .i64 f2, .int .i64 tw, .int .i64 off, .int .i64 ax, .int .i64 ay, .int .i64 bx, .int .i64 by1] := bT21
                have hB22 := hB21.drew
                have HV3_22 : Hid (Ints w21.drew w21.drew.heap.size (.slice A9 QL.length c9) QL) := HV3_21
                clear KC q0 bS21 bT21 bP21 bQ21 hB21 HV3_21
                generalize World.drew w21 = w22 at *
                go_wp2_with fail
                go_loopw [25] (fun x wr => ∃ k : Nat, (k : Int) ≤ QL.length ∧ x = .int .i64 k ∧ Below w.heap.size w wr ∧ Below w22.heap.size w22 wr) (fun x _ => QL.length - (intOf x).toNat)
                case atStart => exact ⟨0, by omega, rfl, hB22, Below.refl _ _⟩
                case round =>
                  obtain ⟨k, hk, rfl, hB, hbb⟩ := hrel
                  have hkn := Int.natCast_nonneg k
                  have bSr := bS22.below hbb
                  have bTr := bT22.below hbb
                  by_cases hlt : (k : Int) < QL.length
                  · have hkx : k < QL.length := by omega
                    rcases HV3_22.out with ⟨_, e⟩ | ⟨b, of9, cap, e, hb, hc⟩
                    · rw [e] at hkx; cases hkx
                    · have hxk : QL[k]? = some QL[k] := List.getElem?_eq_getElem hkx
                      obtain ⟨jj, hj1, hj2, hIR⟩ := H15.out _ (List.getElem_mem hkx)
                      have cq := hc k _ hxk
                      rw [hj1] at cq
                      injection e with eA _ ec
                      subst eA ec
                      obtain ⟨bc, oc, rfl, hbc, hcc⟩ := H16.out (by omega)
                      obtain ⟨g0, g1, g2, g3⟩ := hcc jj hj2
                      have HIR := Lib.hid hIR
                      have hjn := Int.natCast_nonneg jj
                      have hji : (jj : Int) < cs.length := by omega
                      have d1 : decide ((jj : Int) < 0) = false := decide_eq_false (by omega)
                      have d2 : decide ((cs.length : Int) ≤ jj) = false := decide_eq_false (by omega)
                      have d2b : decide (cs.length ≤ jj) = false := decide_eq_false (by omega)
                      have d2c : ¬ cs.length ≤ jj := by omega
                      have d2d : decide (jj < cs.length) = true := decide_eq_true hj2
                      have d2e : decide ((jj : Int) < cs.length) = true := decide_eq_true hji
                      have d2f : ¬ (jj : Int) < 0 := by omega
                      have hw9 : IntKind.i64.wrap ((k : Int) + 1) = (k : Int) + 1 := IntWalk.i64_in _ (by omega)
                      have HCC : Hid (∀ W', Below wr.heap.size wr W' → W'.cell? ⟨b, of9 + k, none⟩ = some (.int .i64 jj) ∧ W'.cell? ⟨w.heap.size, 4, none⟩ = some (.slice (some ⟨bc, oc, none⟩) cs.length c) ∧ (W'.cell? ⟨w.heap.size + 1, 0, none⟩ = some (.int .i64 f1) ∧ W'.cell? ⟨w.heap.size + 1, 1, none⟩ = some (.int .i64 f2)) ∧ (W'.cell? ⟨bc, oc + jj * 4, none⟩ = some (.int .i64 (Sh.ctAt cs jj).1) ∧ W'.cell? ⟨bc, oc + jj * 4 + 1, none⟩ = some (.int .i64 (Sh.ctAt cs jj).2.1) ∧ W'.cell? ⟨bc, oc + jj * 4 + 2, none⟩ = some (.int .i64 (Sh.ctAt cs jj).2.2.1) ∧ W'.cell? ⟨bc, oc + jj * 4 + 3, none⟩ = some (.int .i64 (Sh.ctAt cs jj).2.2.2))) := fun W' hW => by
                        have hBW := hbb.trans (hW.mono hbb.size)
                        have hBV := hB.trans (hW.mono hB.size)
                        exact ⟨(hBW.cell (p := ⟨b, _, none⟩) hb).trans cq, (bSr.below hW).cell 4 rfl, ⟨(bTr.below hW).cell 0 rfl, (bTr.below hW).cell 1 rfl⟩, (hBV.cell (p := ⟨bc, _, none⟩) hbc).trans g0, (hBV.cell (p := ⟨bc, _, none⟩) hbc).trans g1, (hBV.cell (p := ⟨bc, _, none⟩) hbc).trans g2, (hBV.cell (p := ⟨bc, _, none⟩) hbc).trans g3⟩
                      clear hxk cq hc hcc g0 g1 g2 g3 hIR hj1
                      generalize Sh.ctAt cs jj = ct at *
                      obtain ⟨x0, x1, x2, x3⟩ := ct
                      try dsimp only at HCC HIR
                      go_wp2_with fail
                      refine (wpIn_wide (n := 4)).1 ?_
                      have q0 : Below wr.heap.size wr wr.drew := (Below.refl _ _).drew
                      refine wpIn_region_held (fun W' => Below wr.heap.size wr W') 40 hmo ?_
                      refine wpHeldIn_take (i := 0) (v := ?_) (plain_of (by kernel_rfl)) rfl (by kernel_rfl) (fun _ _ _ h => h) (yieldsSoIn_of (by kernel_rfl) ?_ (fun _ => rfl)) q0 ?_; rotate_left; focus (intro wq hw; clear hw; go_simp; try (with_reducible rfl))
                      refine wpHeldIn_take (i := 1) (v := ?_) (plain_of (by kernel_rfl)) rfl (by kernel_rfl) (fun _ _ _ h => h) (yieldsSoIn_of (by kernel_rfl) ?_ (fun _ => rfl)) q0 ?_; rotate_left; focus (intro wq hw; clear hw; go_simp; try (with_reducible rfl))
                      refine wpHeldIn_take (i := 2) (v := ?_) (plain_of (by kernel_rfl)) rfl (by kernel_rfl) (fun _ _ _ h => h) (yieldsSoIn_of (by kernel_rfl) ?_ (fun _ => rfl)) q0 ?_; rotate_left; focus (intro wq hw; clear hw; go_simp; try (with_reducible rfl))
                      refine wpHeldIn_take (i := 3) (v := ?_) (plain_of (by kernel_rfl)) rfl (by kernel_rfl) (fun _ _ _ h => h) (yieldsSoIn_of (by kernel_rfl) ?_ (fun _ => rfl)) q0 ?_; rotate_left; focus (intro wq hw; have kq := HCC.out wq hw; clear hw; go_simp; try (with_reducible rfl))
                      refine wpHeldIn_take (i := 4) (v := ?_) (plain_of (by kernel_rfl)) rfl (by kernel_rfl) (fun _ _ _ h => h) (yieldsSoIn_of (by kernel_rfl) ?_ (fun _ => rfl)) q0 ?_; rotate_left; focus (intro wq hw; clear hw; go_simp; try (with_reducible rfl))
                      refine wpHeldIn_take (i := 5) (v := ?_) (plain_of (by kernel_rfl)) rfl (by kernel_rfl) (fun _ _ _ h => h) (yieldsSoIn_of (by kernel_rfl) ?_ (fun _ => rfl)) q0 ?_; rotate_left; focus (intro wq hw; clear hw; go_simp; try (with_reducible rfl))
                      refine wpHeldIn_take (i := 6) (v := ?_) (plain_of (by kernel_rfl)) rfl (by kernel_rfl) (fun _ _ _ h => h) (yieldsSoIn_of (by kernel_rfl) ?_ (fun _ => rfl)) q0 ?_; rotate_left; focus (intro wq hw; clear hw; go_simp; try (with_reducible rfl))
                      refine wpHeldIn_take (i := 7) (v := ?_) (plain_of (by kernel_rfl)) rfl (by kernel_rfl) (fun _ _ _ h => h) (yieldsSoIn_of (by kernel_rfl) ?_ (fun _ => rfl)) q0 ?_; rotate_left; focus (intro wq hw; clear hw; go_simp; try (with_reducible rfl))
                      refine wpHeldIn_take (i := 8) (v := ?_) (plain_of (by kernel_rfl)) rfl (by kernel_rfl) (fun _ _ _ h => h) (yieldsSoIn_of (by kernel_rfl) ?_ (fun _ => rfl)) q0 ?_; rotate_left; focus (intro wq hw; clear hw; go_simp; try (with_reducible rfl))
                      refine wpHeldIn_take (i := 9) (v := ?_) (plain_of (by kernel_rfl)) rfl (by kernel_rfl) (fun _ _ _ h => h) (yieldsSoIn_of (by kernel_rfl) ?_ (fun _ => rfl)) q0 ?_; rotate_left; focus (intro wq hw; have kq := HCC.out wq hw; clear hw; go_simp; try (with_reducible rfl))
                      refine wpHeldIn_take (i := 10) (v := ?_) (plain_of (by kernel_rfl)) rfl (by kernel_rfl) (fun _ _ _ h => h) (yieldsSoIn_of (by kernel_rfl) ?_ (fun _ => rfl)) q0 ?_; rotate_left; focus (intro wq hw; clear hw; go_simp; try (with_reducible rfl))
                      refine wpHeldIn_take (i := 11) (v := ?_) (plain_of (by kernel_rfl)) rfl (by kernel_rfl) (fun _ _ _ h => h) (yieldsSoIn_of (by kernel_rfl) ?_ (fun _ => rfl)) q0 ?_; rotate_left; focus (intro wq hw; have kq := HCC.out wq hw; clear hw; go_simp; try (with_reducible rfl))
                      refine wpHeldIn_take (i := 12) (v := ?_) (plain_of (by kernel_rfl)) rfl (by kernel_rfl) (fun _ _ _ h => h) (yieldsSoIn_of (by kernel_rfl) ?_ (fun _ => rfl)) q0 ?_; rotate_left; focus (intro wq hw; clear hw; go_simp; try (with_reducible rfl))
                      refine wpHeldIn_take (i := 13) (v := ?_) (plain_of (by kernel_rfl)) rfl (by kernel_rfl) (fun _ _ _ h => h) (yieldsSoIn_of (by kernel_rfl) ?_ (fun _ => rfl)) q0 ?_; rotate_left; focus (intro wq hw; clear hw; go_simp; try (with_reducible rfl))
                      refine wpHeldIn_take (i := 14) (v := ?_) (plain_of (by kernel_rfl)) rfl (by kernel_rfl) (fun _ _ _ h => h) (yieldsSoIn_of (by kernel_rfl) ?_ (fun _ => rfl)) q0 ?_; rotate_left; focus (intro wq hw; clear hw; go_simp; try (with_reducible rfl))
                      refine wpHeldIn_take (i := 15) (v := ?_) (plain_of (by kernel_rfl)) rfl (by kernel_rfl) (fun _ _ _ h => h) (yieldsSoIn_of (by kernel_rfl) ?_ (fun _ => rfl)) q0 ?_; rotate_left; focus (intro wq hw; clear hw; go_simp; try (with_reducible rfl))
                      refine wpHeldIn_take (i := 16) (v := ?_) (plain_of (by kernel_rfl)) rfl (by kernel_rfl) (fun _ _ _ h => h) (yieldsSoIn_of (by kernel_rfl) ?_ (fun _ => rfl)) q0 ?_; rotate_left; focus (intro wq hw; clear hw; go_simp; try (with_reducible rfl))
                      refine wpHeldIn_take (i := 17) (v := ?_) (plain_of (by kernel_rfl)) rfl (by kernel_rfl) (fun _ _ _ h => h) (yieldsSoIn_of (by kernel_rfl) ?_ (fun _ => rfl)) q0 ?_; rotate_left; focus (intro wq hw; have kq := HCC.out wq hw; clear hw; go_simp; try (with_reducible rfl))
                      refine wpHeldIn_take (i := 18) (v := ?_) (plain_of (by kernel_rfl)) rfl (by kernel_rfl) (fun _ _ _ h => h) (yieldsSoIn_of (by kernel_rfl) ?_ (fun _ => rfl)) q0 ?_; rotate_left; focus (intro wq hw; clear hw; go_simp; try (with_reducible rfl))
                      refine wpHeldIn_take (i := 19) (v := ?_) (plain_of (by kernel_rfl)) rfl (by kernel_rfl) (fun _ _ _ h => h) (yieldsSoIn_of (by kernel_rfl) ?_ (fun _ => rfl)) q0 ?_; rotate_left; focus (intro wq hw; clear hw; go_simp; try (with_reducible rfl))
                      refine wpHeldIn_take (i := 20) (v := ?_) (plain_of (by kernel_rfl)) rfl (by kernel_rfl) (fun _ _ _ h => h) (yieldsSoIn_of (by kernel_rfl) ?_ (fun _ => rfl)) q0 ?_; rotate_left; focus (intro wq hw; clear hw; go_simp; try (with_reducible rfl))
                      refine wpHeldIn_take (i := 21) (v := ?_) (plain_of (by kernel_rfl)) rfl (by kernel_rfl) (fun _ _ _ h => h) (yieldsSoIn_of (by kernel_rfl) ?_ (fun _ => rfl)) q0 ?_; rotate_left; focus (intro wq hw; have kq := HCC.out wq hw; clear hw; go_simp; try (with_reducible rfl))
                      refine wpHeldIn_take (i := 22) (v := ?_) (plain_of (by kernel_rfl)) rfl (by kernel_rfl) (fun _ _ _ h => h) (yieldsSoIn_of (by kernel_rfl) ?_ (fun _ => rfl)) q0 ?_; rotate_left; focus (intro wq hw; clear hw; go_simp; try (with_reducible rfl))
                      refine wpHeldIn_take (i := 23) (v := ?_) (plain_of (by kernel_rfl)) rfl (by kernel_rfl) (fun _ _ _ h => h) (yieldsSoIn_of (by kernel_rfl) ?_ (fun _ => rfl)) q0 ?_; rotate_left; focus (intro wq hw; have kq := HCC.out wq hw; clear hw; go_simp; try (with_reducible rfl))
                      refine wpHeldIn_take (i := 24) (v := ?_) (plain_of (by kernel_rfl)) rfl (by kernel_rfl) (fun _ _ _ h => h) (yieldsSoIn_of (by kernel_rfl) ?_ (fun _ => rfl)) q0 ?_; rotate_left; focus (intro wq hw; clear hw; go_simp; try (with_reducible rfl))
                      refine wpHeldIn_take (i := 25) (v := ?_) (plain_of (by kernel_rfl)) rfl (by kernel_rfl) (fun _ _ _ h => h) (yieldsSoIn_of (by kernel_rfl) ?_ (fun _ => rfl)) q0 ?_; rotate_left; focus (intro wq hw; have kq := HCC.out wq hw; clear hw; go_simp; try (with_reducible rfl))
                      refine wpHeldIn_one (i := 26) (by kernel_rfl) (by kernel_rfl) rfl (by kernel_rfl) (fun K1 hK1 => ?_)
                      go_simp
                      refine ⟨trivial, (callsIn_wide.2 (HIR.out _)).mono ?_⟩
                      rintro e7 w77 ⟨rfl, hb7⟩
                      have q1 := q0.trans (hb7.mono q0.size)
                      refine hK1 _ _ q1 ?_
                      refine wpHeldIn_take (i := 27) (v := ?_) (plain_of (by kernel_rfl)) rfl (by kernel_rfl) (fun _ _ _ h => h) (yieldsSoIn_of (by kernel_rfl) ?_ (fun _ => rfl)) q1 ?_; rotate_left; focus (intro wq hw; clear hw; go_simp; try (with_reducible rfl))
                      refine wpHeldIn_done (by kernel_rfl) ?_ _
                      go_simp
                      have hB7 := hB.trans (q1.mono hB.size)
                      have hbb7 := hbb.trans (q1.mono hbb.size)
                      clear HCC HIR q0 q1 hb7
                      go_wp2_with fail
                      go_roundw
                      case rel => exact ⟨k + 1, by omega, by go_num, hB7, hbb7⟩
                      case measure => simp [intOf]; omega
                  · obtain rfl : k = QL.length := by omega
                    obtain ⟨⟨⟨t0, t1⟩, t2, t3⟩, ⟨t4, t5⟩, t6, t7⟩ := boxS8a bTr
                    clear hlt
                    go_wp2_with fail
                    refine (HGR.out _ _ _).mono ?_
                    rintro e7 w77 ⟨rfl, rfl⟩
                    simp only [hag1]
                    go_wp2_with fail
                    obtain ⟨ab, HA5, hag4⟩ := hag3
                    refine (HA5.out _).mono ?_
                    rintro e8 w88 ⟨rfl, hb8⟩
                    have hB8 := hB.trans (hb8.mono hB.size)
                    go_wp2_with fail
                    refine (HGR.out _ _ _).mono ?_
                    rintro e9 w99 ⟨rfl, rfl⟩
                    simp only [hag4]
                    go_wp2_with fail
                    refine (HWK.out _).mono ?_
                    rintro e wz ⟨rfl, hbz⟩
                    have hBz := hB8.trans (hbz.mono hB8.size)
                    go_wp2_with fail
                    go_returns
                    exact ⟨rfl, hBz⟩
              · have d3 : decide (0 < NN) = false := decide_eq_false hpos
                clear hpos hq5
                refine wpHeldIn_take (i := 29) (v := ?_) (plain_of (by kernel_rfl)) rfl (by kernel_rfl) (fun _ _ _ h => h) (yieldsSoIn_of (by kernel_rfl) ?_ (fun _ => rfl)) q0 ?_; rotate_left; focus (intro wq hw; clear hw; go_simp; try (with_reducible rfl))
                refine wpHeldIn_skip (i := 30) (plain_of (by kernel_rfl)) rfl (by kernel_rfl) (by kernel_rfl) (fun _ => trivial) (by kernel_rfl) (fun _ _ _ h => h) q0 ?_
                refine wpHeldIn_skip (i := 31) (plain_of (by kernel_rfl)) rfl (by kernel_rfl) (by kernel_rfl) (fun _ => trivial) (by kernel_rfl) (fun _ _ _ h => h) q0 ?_
                refine wpHeldIn_skip (i := 32) (plain_of (by kernel_rfl)) rfl (by kernel_rfl) (by kernel_rfl) (fun _ => trivial) (by kernel_rfl) (fun _ _ _ h => h) q0 ?_
                refine wpHeldIn_skip (i := 33) (plain_of (by kernel_rfl)) rfl (by kernel_rfl) (by kernel_rfl) (fun _ => trivial) (by kernel_rfl) (fun _ _ _ h => h) q0 ?_
                refine wpHeldIn_skip (i := 34) (plain_of (by kernel_rfl)) rfl (by kernel_rfl) (by kernel_rfl) (fun _ => trivial) (by kernel_rfl) (fun _ _ _ h => h) q0 ?_
                refine wpHeldIn_skip (i := 35) (plain_of (by kernel_rfl)) rfl (by kernel_rfl) (by kernel_rfl) (fun _ => trivial) (by kernel_rfl) (fun _ _ _ h => h) q0 ?_
                refine wpHeldIn_skip (i := 36) (plain_of (by kernel_rfl)) rfl (by kernel_rfl) (by kernel_rfl) (fun _ => trivial) (by kernel_rfl) (fun _ _ _ h => h) q0 ?_
                refine wpHeldIn_take (i := 37) (v := ?_) (plain_of (by kernel_rfl)) rfl (by kernel_rfl) (fun _ _ _ h => h) (yieldsSoIn_of (by kernel_rfl) ?_ (fun _ => rfl)) q0 ?_; rotate_left; focus (intro wq hw; clear hw; go_simp; try (with_reducible rfl))
                refine wpHeldIn_take (i := 38) (v := ?_) (plain_of (by kernel_rfl)) rfl (by kernel_rfl) (fun _ _ _ h => h) (yieldsSoIn_of (by kernel_rfl) ?_ (fun _ => rfl)) q0 ?_; rotate_left; focus (intro wq hw; clear hw; go_simp; try (with_reducible rfl))
                refine wpHeldIn_done (by kernel_rfl) ?_ _
                go_simp
                have bS22 : BoxS w21.drew w.heap.size 26 #[.int .i64 al, .int .i64 ah, .int .i64 bl, .int .i64 bh, .slice A cs.length c, .int .i64 wrn] := bS21
                have bT22 : BoxS w21.drew (w.heap.size + 1) 35 #[.int .i64 f1, .int .i64 f2, .int .i64 tw, .int .i64 off, .int .i64 ax, .int .i64 ay, .int .i64 bx, .int .i64 by1] := bT21
                have hB22 := hB21.drew
                have HV3_22 : Hid (Ints w21.drew w21.drew.heap.size (.slice A9 QL.length c9) QL) := HV3_21
                clear KC q0 bS21 bT21 bP21 bQ21 hB21 HV3_21
                generalize World.drew w21 = w22 at *
                go_wp2_with fail
                go_loopw [25] (fun x wr => ∃ k : Nat, (k : Int) ≤ QL.length ∧ x = .int .i64 k ∧ Below w.heap.size w wr ∧ Below w22.heap.size w22 wr) (fun x _ => QL.length - (intOf x).toNat)
                case atStart => exact ⟨0, by omega, rfl, hB22, Below.refl _ _⟩
                case round =>
                  obtain ⟨k, hk, rfl, hB, hbb⟩ := hrel
                  have hkn := Int.natCast_nonneg k
                  have bSr := bS22.below hbb
                  have bTr := bT22.below hbb
                  by_cases hlt : (k : Int) < QL.length
                  · have hkx : k < QL.length := by omega
                    rcases HV3_22.out with ⟨_, e⟩ | ⟨b, of9, cap, e, hb, hc⟩
                    · rw [e] at hkx; cases hkx
                    · have hxk : QL[k]? = some QL[k] := List.getElem?_eq_getElem hkx
                      obtain ⟨jj, hj1, hj2, hIR⟩ := H15.out _ (List.getElem_mem hkx)
                      have cq := hc k _ hxk
                      rw [hj1] at cq
                      injection e with eA _ ec
                      subst eA ec
                      obtain ⟨bc, oc, rfl, hbc, hcc⟩ := H16.out (by omega)
                      obtain ⟨g0, g1, g2, g3⟩ := hcc jj hj2
                      have HIR := Lib.hid hIR
                      have hjn := Int.natCast_nonneg jj
                      have hji : (jj : Int) < cs.length := by omega
                      have d1 : decide ((jj : Int) < 0) = false := decide_eq_false (by omega)
                      have d2 : decide ((cs.length : Int) ≤ jj) = false := decide_eq_false (by omega)
                      have d2b : decide (cs.length ≤ jj) = false := decide_eq_false (by omega)
                      have d2c : ¬ cs.length ≤ jj := by omega
                      have d2d : decide (jj < cs.length) = true := decide_eq_true hj2
                      have d2e : decide ((jj : Int) < cs.length) = true := decide_eq_true hji
                      have d2f : ¬ (jj : Int) < 0 := by omega
                      have hw9 : IntKind.i64.wrap ((k : Int) + 1) = (k : Int) + 1 := IntWalk.i64_in _ (by omega)
                      have HCC : Hid (∀ W', Below wr.heap.size wr W' → W'.cell? ⟨b, of9 + k, none⟩ = some (.int .i64 jj) ∧ W'.cell? ⟨w.heap.size, 4, none⟩ = some (.slice (some ⟨bc, oc, none⟩) cs.length c) ∧ (W'.cell? ⟨w.heap.size + 1, 0, none⟩ = some (.int .i64 f1) ∧ W'.cell? ⟨w.heap.size + 1, 1, none⟩ = some (.int .i64 f2)) ∧ (W'.cell? ⟨bc, oc + jj * 4, none⟩ = some (.int .i64 (Sh.ctAt cs jj).1) ∧ W'.cell? ⟨bc, oc + jj * 4 + 1, none⟩ = some (.int .i64 (Sh.ctAt cs jj).2.1) ∧ W'.cell? ⟨bc, oc + jj * 4 + 2, none⟩ = some (.int .i64 (Sh.ctAt cs jj).2.2.1) ∧ W'.cell? ⟨bc, oc + jj * 4 + 3, none⟩ = some (.int .i64 (Sh.ctAt cs jj).2.2.2))) := fun W' hW => by
                        have hBW := hbb.trans (hW.mono hbb.size)
                        have hBV := hB.trans (hW.mono hB.size)
                        exact ⟨(hBW.cell (p := ⟨b, _, none⟩) hb).trans cq, (bSr.below hW).cell 4 rfl, ⟨(bTr.below hW).cell 0 rfl, (bTr.below hW).cell 1 rfl⟩, (hBV.cell (p := ⟨bc, _, none⟩) hbc).trans g0, (hBV.cell (p := ⟨bc, _, none⟩) hbc).trans g1, (hBV.cell (p := ⟨bc, _, none⟩) hbc).trans g2, (hBV.cell (p := ⟨bc, _, none⟩) hbc).trans g3⟩
                      clear hxk cq hc hcc g0 g1 g2 g3 hIR hj1
                      generalize Sh.ctAt cs jj = ct at *
                      obtain ⟨x0, x1, x2, x3⟩ := ct
                      try dsimp only at HCC HIR
                      go_wp2_with fail
                      refine (wpIn_wide (n := 4)).1 ?_
                      have q0 : Below wr.heap.size wr wr.drew := (Below.refl _ _).drew
                      refine wpIn_region_held (fun W' => Below wr.heap.size wr W') 40 hmo ?_
                      refine wpHeldIn_take (i := 0) (v := ?_) (plain_of (by kernel_rfl)) rfl (by kernel_rfl) (fun _ _ _ h => h) (yieldsSoIn_of (by kernel_rfl) ?_ (fun _ => rfl)) q0 ?_; rotate_left; focus (intro wq hw; clear hw; go_simp; try (with_reducible rfl))
                      refine wpHeldIn_take (i := 1) (v := ?_) (plain_of (by kernel_rfl)) rfl (by kernel_rfl) (fun _ _ _ h => h) (yieldsSoIn_of (by kernel_rfl) ?_ (fun _ => rfl)) q0 ?_; rotate_left; focus (intro wq hw; clear hw; go_simp; try (with_reducible rfl))
                      refine wpHeldIn_take (i := 2) (v := ?_) (plain_of (by kernel_rfl)) rfl (by kernel_rfl) (fun _ _ _ h => h) (yieldsSoIn_of (by kernel_rfl) ?_ (fun _ => rfl)) q0 ?_; rotate_left; focus (intro wq hw; clear hw; go_simp; try (with_reducible rfl))
                      refine wpHeldIn_take (i := 3) (v := ?_) (plain_of (by kernel_rfl)) rfl (by kernel_rfl) (fun _ _ _ h => h) (yieldsSoIn_of (by kernel_rfl) ?_ (fun _ => rfl)) q0 ?_; rotate_left; focus (intro wq hw; have kq := HCC.out wq hw; clear hw; go_simp; try (with_reducible rfl))
                      refine wpHeldIn_take (i := 4) (v := ?_) (plain_of (by kernel_rfl)) rfl (by kernel_rfl) (fun _ _ _ h => h) (yieldsSoIn_of (by kernel_rfl) ?_ (fun _ => rfl)) q0 ?_; rotate_left; focus (intro wq hw; clear hw; go_simp; try (with_reducible rfl))
                      refine wpHeldIn_take (i := 5) (v := ?_) (plain_of (by kernel_rfl)) rfl (by kernel_rfl) (fun _ _ _ h => h) (yieldsSoIn_of (by kernel_rfl) ?_ (fun _ => rfl)) q0 ?_; rotate_left; focus (intro wq hw; clear hw; go_simp; try (with_reducible rfl))
                      refine wpHeldIn_take (i := 6) (v := ?_) (plain_of (by kernel_rfl)) rfl (by kernel_rfl) (fun _ _ _ h => h) (yieldsSoIn_of (by kernel_rfl) ?_ (fun _ => rfl)) q0 ?_; rotate_left; focus (intro wq hw; clear hw; go_simp; try (with_reducible rfl))
                      refine wpHeldIn_take (i := 7) (v := ?_) (plain_of (by kernel_rfl)) rfl (by kernel_rfl) (fun _ _ _ h => h) (yieldsSoIn_of (by kernel_rfl) ?_ (fun _ => rfl)) q0 ?_; rotate_left; focus (intro wq hw; clear hw; go_simp; try (with_reducible rfl))
                      refine wpHeldIn_take (i := 8) (v := ?_) (plain_of (by kernel_rfl)) rfl (by kernel_rfl) (fun _ _ _ h => h) (yieldsSoIn_of (by kernel_rfl) ?_ (fun _ => rfl)) q0 ?_; rotate_left; focus (intro wq hw; clear hw; go_simp; try (with_reducible rfl))
                      refine wpHeldIn_take (i := 9) (v := ?_) (plain_of (by kernel_rfl)) rfl (by kernel_rfl) (fun _ _ _ h => h) (yieldsSoIn_of (by kernel_rfl) ?_ (fun _ => rfl)) q0 ?_; rotate_left; focus (intro wq hw; have kq := HCC.out wq hw; clear hw; go_simp; try (with_reducible rfl))
                      refine wpHeldIn_take (i := 10) (v := ?_) (plain_of (by kernel_rfl)) rfl (by kernel_rfl) (fun _ _ _ h => h) (yieldsSoIn_of (by kernel_rfl) ?_ (fun _ => rfl)) q0 ?_; rotate_left; focus (intro wq hw; clear hw; go_simp; try (with_reducible rfl))
                      refine wpHeldIn_take (i := 11) (v := ?_) (plain_of (by kernel_rfl)) rfl (by kernel_rfl) (fun _ _ _ h => h) (yieldsSoIn_of (by kernel_rfl) ?_ (fun _ => rfl)) q0 ?_; rotate_left; focus (intro wq hw; have kq := HCC.out wq hw; clear hw; go_simp; try (with_reducible rfl))
                      refine wpHeldIn_take (i := 12) (v := ?_) (plain_of (by kernel_rfl)) rfl (by kernel_rfl) (fun _ _ _ h => h) (yieldsSoIn_of (by kernel_rfl) ?_ (fun _ => rfl)) q0 ?_; rotate_left; focus (intro wq hw; clear hw; go_simp; try (with_reducible rfl))
                      refine wpHeldIn_take (i := 13) (v := ?_) (plain_of (by kernel_rfl)) rfl (by kernel_rfl) (fun _ _ _ h => h) (yieldsSoIn_of (by kernel_rfl) ?_ (fun _ => rfl)) q0 ?_; rotate_left; focus (intro wq hw; clear hw; go_simp; try (with_reducible rfl))
                      refine wpHeldIn_take (i := 14) (v := ?_) (plain_of (by kernel_rfl)) rfl (by kernel_rfl) (fun _ _ _ h => h) (yieldsSoIn_of (by kernel_rfl) ?_ (fun _ => rfl)) q0 ?_; rotate_left; focus (intro wq hw; clear hw; go_simp; try (with_reducible rfl))
                      refine wpHeldIn_take (i := 15) (v := ?_) (plain_of (by kernel_rfl)) rfl (by kernel_rfl) (fun _ _ _ h => h) (yieldsSoIn_of (by kernel_rfl) ?_ (fun _ => rfl)) q0 ?_; rotate_left; focus (intro wq hw; clear hw; go_simp; try (with_reducible rfl))
                      refine wpHeldIn_take (i := 16) (v := ?_) (plain_of (by kernel_rfl)) rfl (by kernel_rfl) (fun _ _ _ h => h) (yieldsSoIn_of (by kernel_rfl) ?_ (fun _ => rfl)) q0 ?_; rotate_left; focus (intro wq hw; clear hw; go_simp; try (with_reducible rfl))
                      refine wpHeldIn_take (i := 17) (v := ?_) (plain_of (by kernel_rfl)) rfl (by kernel_rfl) (fun _ _ _ h => h) (yieldsSoIn_of (by kernel_rfl) ?_ (fun _ => rfl)) q0 ?_; rotate_left; focus (intro wq hw; have kq := HCC.out wq hw; clear hw; go_simp; try (with_reducible rfl))
                      refine wpHeldIn_take (i := 18) (v := ?_) (plain_of (by kernel_rfl)) rfl (by kernel_rfl) (fun _ _ _ h => h) (yieldsSoIn_of (by kernel_rfl) ?_ (fun _ => rfl)) q0 ?_; rotate_left; focus (intro wq hw; clear hw; go_simp; try (with_reducible rfl))
                      refine wpHeldIn_take (i := 19) (v := ?_) (plain_of (by kernel_rfl)) rfl (by kernel_rfl) (fun _ _ _ h => h) (yieldsSoIn_of (by kernel_rfl) ?_ (fun _ => rfl)) q0 ?_; rotate_left; focus (intro wq hw; clear hw; go_simp; try (with_reducible rfl))
                      refine wpHeldIn_take (i := 20) (v := ?_) (plain_of (by kernel_rfl)) rfl (by kernel_rfl) (fun _ _ _ h => h) (yieldsSoIn_of (by kernel_rfl) ?_ (fun _ => rfl)) q0 ?_; rotate_left; focus (intro wq hw; clear hw; go_simp; try (with_reducible rfl))
                      refine wpHeldIn_take (i := 21) (v := ?_) (plain_of (by kernel_rfl)) rfl (by kernel_rfl) (fun _ _ _ h => h) (yieldsSoIn_of (by kernel_rfl) ?_ (fun _ => rfl)) q0 ?_; rotate_left; focus (intro wq hw; have kq := HCC.out wq hw; clear hw; go_simp; try (with_reducible rfl))
                      refine wpHeldIn_take (i := 22) (v := ?_) (plain_of (by kernel_rfl)) rfl (by kernel_rfl) (fun _ _ _ h => h) (yieldsSoIn_of (by kernel_rfl) ?_ (fun _ => rfl)) q0 ?_; rotate_left; focus (intro wq hw; clear hw; go_simp; try (with_reducible rfl))
                      refine wpHeldIn_take (i := 23) (v := ?_) (plain_of (by kernel_rfl)) rfl (by kernel_rfl) (fun _ _ _ h => h) (yieldsSoIn_of (by kernel_rfl) ?_ (fun _ => rfl)) q0 ?_; rotate_left; focus (intro wq hw; have kq := HCC.out wq hw; clear hw; go_simp; try (with_reducible rfl))
                      refine wpHeldIn_take (i := 24) (v := ?_) (plain_of (by kernel_rfl)) rfl (by kernel_rfl) (fun _ _ _ h => h) (yieldsSoIn_of (by kernel_rfl) ?_ (fun _ => rfl)) q0 ?_; rotate_left; focus (intro wq hw; clear hw; go_simp; try (with_reducible rfl))
                      refine wpHeldIn_take (i := 25) (v := ?_) (plain_of (by kernel_rfl)) rfl (by kernel_rfl) (fun _ _ _ h => h) (yieldsSoIn_of (by kernel_rfl) ?_ (fun _ => rfl)) q0 ?_; rotate_left; focus (intro wq hw; have kq := HCC.out wq hw; clear hw; go_simp; try (with_reducible rfl))
                      refine wpHeldIn_one (i := 26) (by kernel_rfl) (by kernel_rfl) rfl (by kernel_rfl) (fun K1 hK1 => ?_)
                      go_simp
                      refine ⟨trivial, (callsIn_wide.2 (HIR.out _)).mono ?_⟩
                      rintro e7 w77 ⟨rfl, hb7⟩
                      have q1 := q0.trans (hb7.mono q0.size)
                      refine hK1 _ _ q1 ?_
                      refine wpHeldIn_take (i := 27) (v := ?_) (plain_of (by kernel_rfl)) rfl (by kernel_rfl) (fun _ _ _ h => h) (yieldsSoIn_of (by kernel_rfl) ?_ (fun _ => rfl)) q1 ?_; rotate_left; focus (intro wq hw; clear hw; go_simp; try (with_reducible rfl))
                      refine wpHeldIn_done (by kernel_rfl) ?_ _
                      go_simp
                      have hB7 := hB.trans (q1.mono hB.size)
                      have hbb7 := hbb.trans (q1.mono hbb.size)
                      clear HCC HIR q0 q1 hb7
                      go_wp2_with fail
                      go_roundw
                      case rel => exact ⟨k + 1, by omega, by go_num, hB7, hbb7⟩
                      case measure => simp [intOf]; omega
                  · obtain rfl : k = QL.length := by omega
                    obtain ⟨⟨⟨t0, t1⟩, t2, t3⟩, ⟨t4, t5⟩, t6, t7⟩ := boxS8a bTr
                    clear hlt
                    go_wp2_with fail
                    refine (HGR.out _ _ _).mono ?_
                    rintro e7 w77 ⟨rfl, rfl⟩
                    simp only [hag1]
                    go_wp2_with fail
                    obtain ⟨ab, HA5, hag4⟩ := hag3
                    refine (HA5.out _).mono ?_
                    rintro e8 w88 ⟨rfl, hb8⟩
                    have hB8 := hB.trans (hb8.mono hB.size)
                    go_wp2_with fail
                    refine (HGR.out _ _ _).mono ?_
                    rintro e9 w99 ⟨rfl, rfl⟩
                    simp only [hag4]
                    go_wp2_with fail
                    refine (HWK.out _).mono ?_
                    rintro e wz ⟨rfl, hbz⟩
                    have hBz := hB8.trans (hbz.mono hB8.size)
                    go_wp2_with fail
                    go_returns
                    exact ⟨rfl, hBz⟩

open Go.ChangeShapes Go.WideShapes Go.ChangeAt Go.RowKit Go.Joins Go.Deep
theorem cells_pair4 : Tryz.prog.cellsOf 29 = 2 := by kernel_rfl
theorem cells_deed4 : Tryz.prog.cellsOf 31 = 2 := by kernel_rfl
theorem cells_point4 : Tryz.prog.cellsOf 33 = 2 := by kernel_rfl
section
variable {H : Type} {enc : TypeId × Value → H} {w : World} {base : Nat} {spare : Nat → Bool} {held : Bool} {r : Reach} {b0 : Nat} {v : Value} {d : DataW H} {p : List MemPlace}
set_option maxRecDepth 100000 in
theorem trod_pair_cells {n : Nat} {c0 c1 : Value} {x : DataW H × List MemPlace} (h : DataW.trod enc Tryz.prog w base spare held n 29 [c0, c1] = some x) : ∃ a b : Int, c0 = .int .i64 a ∧ c1 = .int .i64 b := by
  obtain ⟨y0, y1, m, hx, _, h0, h1⟩ := trod_struct2 Tryz.underlying29 h
  obtain ⟨a, e0, rfl, wa⟩ := DataW.trod_int Tryz.underlying3 (by simpa using h0)
  obtain ⟨b, e1, rfl, wb⟩ := DataW.trod_int Tryz.underlying3 (by simpa using h1)
  rw [cells_int4] at e0 e1
  exact ⟨a, b, by simpa using e0, by simpa using e1⟩
set_option maxRecDepth 100000 in
theorem trod_deed_cells {n : Nat} {c0 c1 : Value} {x : DataW H × List MemPlace} (h : DataW.trod enc Tryz.prog w base spare held n 31 [c0, c1] = some x) : ∃ a b : Int, c0 = .int .i64 a ∧ c1 = .int .i64 b := by
  obtain ⟨y0, y1, m, hx, _, h0, h1⟩ := trod_struct2 Tryz.underlying31 h
  obtain ⟨a, e0, rfl, wa⟩ := DataW.trod_int Tryz.underlying3 (by simpa using h0)
  obtain ⟨b, e1, rfl, wb⟩ := DataW.trod_int Tryz.underlying3 (by simpa using h1)
  rw [cells_int4] at e0 e1
  exact ⟨a, b, by simpa using e0, by simpa using e1⟩
set_option maxRecDepth 100000 in
theorem trod_point_cells {n : Nat} {c0 c1 : Value} {x : DataW H × List MemPlace} (h : DataW.trod enc Tryz.prog w base spare held n 33 [c0, c1] = some x) : ∃ a b : Int, c0 = .int .i64 a ∧ c1 = .int .i64 b := by
  obtain ⟨y0, y1, m, hx, _, h0, h1⟩ := trod_struct2 Tryz.underlying33 h
  obtain ⟨a, e0, rfl, wa⟩ := DataW.trod_int Tryz.underlying3 (by simpa using h0)
  obtain ⟨b, e1, rfl, wb⟩ := DataW.trod_int Tryz.underlying3 (by simpa using h1)
  rw [cells_int4] at e0 e1
  exact ⟨a, b, by simpa using e0, by simpa using e1⟩
set_option maxRecDepth 100000 in
theorem open_Told (hv : Value.okWide Tryz.prog w r b0 35 v) (h : DataW.Trod enc Tryz.prog w base spare held 35 v d p) :
    ∃ f1 f2 tw off ax ay bx by1 : Int, v = .agg #[.int .i64 f1, .int .i64 f2, .int .i64 tw, .int .i64 off, .int .i64 ax, .int .i64 ay, .int .i64 bx, .int .i64 by1] := by
  obtain ⟨cs, rfl, hsz⟩ := okWide_struct Tryz.underlying35 hv
  obtain ⟨l⟩ := cs
  match l, hsz.trans (by kernel_rfl : Tryz.prog.cellsOf 35 = 8) with
  | [c0, c1, c2, c3, c4, c5, c6, c7], _ =>
    obtain ⟨fuel, hf⟩ := h
    obtain ⟨xs, n, _, hx, _, hlen, hg⟩ := DataW.trod_struct Tryz.underlying35 hf
    match xs, hlen with
    | [y0, y1, y2, y3], _ =>
      have g0 := hg 0 _ rfl
      have g1 := hg 1 _ rfl
      have g2 := hg 2 _ rfl
      have g3 := hg 3 _ rfl
      simp [Value.cells, cells_pair4, cells_deed4, cells_point4] at g0 g1 g2 g3
      obtain ⟨f1, f2, rfl, rfl⟩ := trod_pair_cells g0
      obtain ⟨tw, off, rfl, rfl⟩ := trod_deed_cells g1
      obtain ⟨ax, ay, rfl, rfl⟩ := trod_point_cells g2
      obtain ⟨bx, by1, rfl, rfl⟩ := trod_point_cells g3
      exact ⟨f1, f2, tw, off, ax, ay, bx, by1, rfl⟩
end
theorem lawTrue_walk (s : Sheet) (A : Option Addr) (c : Nat) (A2 : Option Addr) (c2 : Nat) (ps : List (Int × Int)) (f1 f2 tw off ax ay bx by1 : Int) (w : World) (_hl : ps.length ≤ maxLen) (hP : Prs w w.heap.size A2 ps) (hg : Cts w w.heap.size A s.cs) :
    Calls Tryz.prog 3 #[.agg (shV s A c), .slice A2 ps.length c2, .agg #[.int .i64 f1, .int .i64 f2, .int .i64 tw, .int .i64 off, .int .i64 ax, .int .i64 ay, .int .i64 bx, .int .i64 by1]] w (TruePost w) :=
  SheetsTrue_walk s A c ps A2 c2 f1 f2 tw off ax ay bx by1 w hg hP

open Go.ChangeShapes Go.WideShapes Go.ChangeAt Go.RowKit Go.Joins

set_option maxRecDepth 100000 in
theorem true4_lifted (os : Os) (started : os.Started) (H : Type) (enc : TypeId × Value → H) :
    ReturnsInHanded {} Tryz.checked os 3 .any (Rows.sheetsTrueSpec.pre6 enc Tryz.prog Tryz.f3 Rows.sheetsTrueRow.domain false) (Rows.sheetsTrueSpec.post enc Tryz.prog Tryz.f3 false true false false) := by
  refine returnsInHanded_of_change (C := Tryz.checked) own started (by kernel_rfl) Tryz.func3
    (ChangeSpec.witness6 (enc := enc) (C := Tryz.checked) false ⟨#[], #[.agg #[.int .i64 0, .int .i64 0, .int .i64 0, .int .i64 0, .slice none 0 0, .int .i64 0], .slice none 0 0, .agg #[.int .i64 0, .int .i64 0, .int .i64 0, .int .i64 0, .int .i64 0, .int .i64 0, .int .i64 0, .int .i64 0]], []⟩ 8 (by kernel_rfl) (by kernel_rfl) (by kernel_rfl) (by kernel_rfl)) ?_
  intro W base args ds gs before hval0 hW hcnd _
  have hval : ∀ (j : Nat) t v, Tryz.f3.params[j]? = some t → args[j]? = some v → Value.okWide Tryz.prog W .any base t v := hval0
  have hW' := hW
  obtain ⟨p, q, hA0, hV, rfl, hfz, hnd⟩ := hW
  have hA : DataW.TrodAll enc Tryz.prog W 0 (fun _ => true) true Tryz.f3.params.toList args.toList ds p := hA0
  rw [Tryz.params3] at hA hval
  obtain ⟨v0, v1, v2, d0, d1, d2, p0, p1, p2, rfl, rfl, rfl, h0, h1, h2⟩ := trodAll_three hA
  obtain ⟨rfl, rfl⟩ := trodVars_none hV
  obtain ⟨s, A, c, rfl, hg_s, hl_s⟩ := open_Sheet (hval 0 26 v0 rfl rfl) h0
  obtain ⟨A2, c2, ps, rfl, hg_ps, hl_ps⟩ := open_prs Tryz.underlying27 Tryz.underlying33 (by kernel_rfl) (by kernel_rfl) (by kernel_rfl) (by kernel_rfl) (by kernel_rfl) Tryz.underlying3 Tryz.underlying3 (hval 1 27 v1 rfl rfl) h1
  obtain ⟨f1, f2, tw, off, ax, ay, bx, by1, rfl⟩ := open_Told (hval 2 35 v2 rfl rfl) h2
  refine (lawTrue_walk s A c A2 c2 ps f1 f2 tw off ax ay bx by1 W hl_ps hg_ps hg_s).mono fun e W' ⟨he, hb⟩ => ?_
  subst he
  exact ⟨_, rfl, law_post hW' rfl rfl (by intro t ht; have : t = 26 ∨ t = 27 ∨ t = 35 := (by rw [Tryz.params3] at ht; simpa using ht); rcases this with rfl | rfl | rfl <;> exact ⟨by kernel_rfl, of_decide_eq_true (by kernel_rfl)⟩) rfl rfl rfl hb⟩

theorem true4_holds : Rows.SheetsTrueSaid :=
  OpenClaim.holds_of_wide 3 Tryz.f3 rfl rfl rfl rfl rfl rfl rfl ⟨rfl, rfl, rfl, rfl, rfl⟩ rfl rfl rfl rfl rfl (by kernel_rfl) Tryz.func3 (by kernel_rfl)
    (of_decide_eq_true (by kernel_rfl)) (by unfold Func.isWrapper; rw [if_neg (of_decide_eq_false (by kernel_rfl))]; exact ⟨rfl, rfl⟩)
    (fun os started H enc _ => true4_lifted os started H enc)
end Go.Proofs.YtgpmnkdagpcffaaGreat
