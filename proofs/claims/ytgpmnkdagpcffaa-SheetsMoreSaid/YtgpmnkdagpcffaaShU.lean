/- Sheets: Far, ready, isPolygon, IsDeed of the statements and of the reference. -/
import Derived.Test.YtgpmnkdagpcffaaShT
import Derived.Test.YtgpmnkdagpcffaaRefChk
import Derived.Test.YtgpmnkdagpcffaaValid
namespace Go.Proofs.Ytgpmnkdagpcffaa
open Go.RowKit
namespace Sh
def wideB (s : Sheet) : Bool := decide (25 ≤ max (s.ah - s.al) (s.bh - s.bl))
def farB (s : Sheet) : Bool := decide (40 < s.cs.length) || (okB s && wideB s)
def readyB (s : Sheet) : Bool := !farB s && okB s
theorem chk_or (s : Sheet) : (okB s = true ∧ chkE s = 0) ∨ (okB s = false ∧ chkE s = 40) := by
  cases h : okB s with
  | true => exact .inl ⟨rfl, chkE_yes h⟩
  | false => exact .inr ⟨rfl, chkE_no h⟩
end Sh
set_option maxRecDepth 100000 in
set_option maxHeartbeats 4000000 in
theorem Far4_any (s : Sheet) (A : Option Addr) (c : Nat) (w : World) (hg : Cts w w.heap.size A s.cs) :
    Calls Try.prog 40 #[.agg (shV s A c)] w fun e w' => e = .returned (.bool (Sh.farB s)) ∧ Below w.heap.size w w' := by
  by_cases h40 : s.cs.length ≤ 40
  · have HC : Hid (∀ W, Below w.heap.size w W → Calls Try.prog 27 #[.agg (shV s A c)] W (ErrPost (Sh.chkE s) W)) := fun W hW => refCheck4_any s A c W (by omega) ((hg.keep hW).wider hW.size)
    have HF : Hid (Sh.farB s = (Sh.okB s && Sh.wideB s)) := by unfold Hid Sh.farB; rw [decide_eq_false (by omega)]; rfl
    have HWD : Hid (Sh.wideB s = decide (25 ≤ max (s.ah - s.al) (s.bh - s.bl))) := rfl
    have h40i : ¬ (40 : Int) < s.cs.length := by omega
    have HOK : Hid (Sh.okB s = true → Sh.Ok s) := fun h => Sh.ok_of h
    rcases Sh.chk_or s with ⟨ho, hE⟩ | ⟨ho, hE⟩
    · have hs := HOK.out ho
      have b1 := hs.a1
      have b2 := hs.a2
      have b3 := hs.a3
      have b4 := hs.b1
      have b5 := hs.b2
      have b6 := hs.b3
      rw [hE] at HC
      rw [ho] at HF
      clear hs HOK hE ho hg h40
      obtain ⟨al, ah, bl, bh, cs, wrn⟩ := s
      unfold shV at HC ⊢
      dsimp only at *
      generalize Sh.farB ⟨al, ah, bl, bh, cs, wrn⟩ = FB at *
      generalize Sh.wideB ⟨al, ah, bl, bh, cs, wrn⟩ = WB at *
      have hw1 : IntKind.i64.wrap (ah - al) = ah - al := IntWalk.i64_in _ (by omega)
      have hw2 : IntKind.i64.wrap (bh - bl) = bh - bl := IntWalk.i64_in _ (by omega)
      go_enter Try.func40, Try.ntmps40
      go_wp2_with fail
      have bS1 := BoxS.new w 26 #[.int .i64 al, .int .i64 ah, .int .i64 bl, .int .i64 bh, .slice A cs.length c, .int .i64 wrn]
      have hB1 : Below w.heap.size w (w.alloc (.cells #[.int .i64 al, .int .i64 ah, .int .i64 bl, .int .i64 bh, .slice A cs.length c, .int .i64 wrn] 26)) := by (repeat' (first | (with_reducible exact Below.refl _ _) | (with_reducible assumption) | (with_reducible refine Below.alloc ?_ ?_ _) | (with_reducible refine Below.drew ?_) | (with_reducible refine Below.setCell ?_ ?_ _) | go_size | (exact (by simp)) | omega))
      generalize World.alloc w _ = w1 at *
      refine (HC.out _ hB1).mono ?_
      rintro e w2 ⟨rfl, hb2⟩
      have bS2 := bS1.below hb2
      have hB2 := hB1.trans (hb2.mono hB1.size)
      clear bS1 hB1 hb2 HC
      obtain ⟨⟨s0, s1, s2⟩, s3, s4, s5⟩ := boxS6 bS2
      by_cases hm : ah - al < bh - bl
      · go_wp2_with fail
        all_goals (go_returns; exact ⟨ret_b (by rw [HF.out, HWD.out]; first | (simp; done) | (simp; omega)), hB2⟩)
      · go_wp2_with fail
        all_goals (go_returns; exact ⟨ret_b (by rw [HF.out, HWD.out]; first | (simp; done) | (simp; omega)), hB2⟩)
    · rw [hE] at HC
      rw [ho] at HF
      clear HOK hE ho hg h40 HWD
      obtain ⟨al, ah, bl, bh, cs, wrn⟩ := s
      unfold shV at HC ⊢
      dsimp only at *
      generalize Sh.farB ⟨al, ah, bl, bh, cs, wrn⟩ = FB at *
      generalize Sh.wideB ⟨al, ah, bl, bh, cs, wrn⟩ = WB at *
      go_enter Try.func40, Try.ntmps40
      go_wp2_with fail
      have bS1 := BoxS.new w 26 #[.int .i64 al, .int .i64 ah, .int .i64 bl, .int .i64 bh, .slice A cs.length c, .int .i64 wrn]
      have hB1 : Below w.heap.size w (w.alloc (.cells #[.int .i64 al, .int .i64 ah, .int .i64 bl, .int .i64 bh, .slice A cs.length c, .int .i64 wrn] 26)) := by (repeat' (first | (with_reducible exact Below.refl _ _) | (with_reducible assumption) | (with_reducible refine Below.alloc ?_ ?_ _) | (with_reducible refine Below.drew ?_) | (with_reducible refine Below.setCell ?_ ?_ _) | go_size | (exact (by simp)) | omega))
      generalize World.alloc w _ = w1 at *
      refine (HC.out _ hB1).mono ?_
      rintro e w2 ⟨rfl, hb2⟩
      have hB2 := hB1.trans (hb2.mono hB1.size)
      clear hB1 hb2 HC
      go_wp2_with fail
      go_returns
      exact ⟨by rw [HF.out]; rfl, hB2⟩
  · have h40i : (40 : Int) < s.cs.length := by omega
    have HF : Hid (Sh.farB s = true) := by unfold Hid Sh.farB; rw [decide_eq_true (by omega)]; rfl
    clear hg
    obtain ⟨al, ah, bl, bh, cs, wrn⟩ := s
    unfold shV
    dsimp only at *
    generalize Sh.farB ⟨al, ah, bl, bh, cs, wrn⟩ = FB at *
    go_enter Try.func40, Try.ntmps40
    go_wp2_with fail
    go_returns
    exact ⟨ret_b (by rw [HF.out]), (Below.refl _ _).alloc (Nat.le_refl _) _⟩

set_option maxRecDepth 100000 in
set_option maxHeartbeats 4000000 in
theorem ready4_any (s : Sheet) (A : Option Addr) (c : Nat) (w : World) (hg : Cts w w.heap.size A s.cs) :
    Calls Try.prog 13 #[.agg (shV s A c)] w fun e w' => e = .returned (.bool (Sh.readyB s)) ∧ Below w.heap.size w w' := by
  have HFar : Hid (∀ W, Below w.heap.size w W → Calls Try.prog 40 #[.agg (shV s A c)] W fun e w' => e = .returned (.bool (Sh.farB s)) ∧ Below W.heap.size W w') := fun W hW => Far4_any s A c W ((hg.keep hW).wider hW.size)
  have HC : Hid (Sh.farB s = false → ∀ W, Below w.heap.size w W → Calls Try.prog 27 #[.agg (shV s A c)] W (ErrPost (Sh.chkE s) W)) := fun hf W hW => refCheck4_any s A c W (by
    unfold Sh.farB at hf
    have := Bool.or_eq_false_iff.1 hf
    have := of_decide_eq_false this.1
    omega) ((hg.keep hW).wider hW.size)
  have HR : Hid (Sh.readyB s = (!Sh.farB s && Sh.okB s)) := rfl
  rcases Sh.chk_or s with ⟨ho, hE⟩ | ⟨ho, hE⟩
  all_goals
    rw [hE] at HC
    rw [ho] at HR
    clear ho hE hg
    obtain ⟨al, ah, bl, bh, cs, wrn⟩ := s
    unfold shV at HC HFar ⊢
    dsimp only at *
    generalize Sh.readyB ⟨al, ah, bl, bh, cs, wrn⟩ = RB at *
    generalize Sh.farB ⟨al, ah, bl, bh, cs, wrn⟩ = FB at *
    cases FB with
    | true =>
      go_enter Try.func13, Try.ntmps13
      go_wp2_with fail
      have hB1 : Below w.heap.size w (w.alloc (.cells #[.int .i64 al, .int .i64 ah, .int .i64 bl, .int .i64 bh, .slice A cs.length c, .int .i64 wrn] 26)) := by (repeat' (first | (with_reducible exact Below.refl _ _) | (with_reducible assumption) | (with_reducible refine Below.alloc ?_ ?_ _) | (with_reducible refine Below.drew ?_) | (with_reducible refine Below.setCell ?_ ?_ _) | go_size | (exact (by simp)) | omega))
      generalize World.alloc w _ = w1 at *
      refine (HFar.out _ hB1).mono ?_
      rintro e w2 ⟨rfl, hb2⟩
      have hB2 := hB1.trans (hb2.mono hB1.size)
      go_wp2_with fail
      go_returns
      exact ⟨by rw [HR.out]; rfl, hB2⟩
    | false =>
      have HC2 := Lib.hid (HC.out rfl)
      clear HC
      go_enter Try.func13, Try.ntmps13
      go_wp2_with fail
      have bS1 := BoxS.new w 26 #[.int .i64 al, .int .i64 ah, .int .i64 bl, .int .i64 bh, .slice A cs.length c, .int .i64 wrn]
      have hB1 : Below w.heap.size w (w.alloc (.cells #[.int .i64 al, .int .i64 ah, .int .i64 bl, .int .i64 bh, .slice A cs.length c, .int .i64 wrn] 26)) := by (repeat' (first | (with_reducible exact Below.refl _ _) | (with_reducible assumption) | (with_reducible refine Below.alloc ?_ ?_ _) | (with_reducible refine Below.drew ?_) | (with_reducible refine Below.setCell ?_ ?_ _) | go_size | (exact (by simp)) | omega))
      generalize World.alloc w _ = w1 at *
      refine (HFar.out _ hB1).mono ?_
      rintro e w2 ⟨rfl, hb2⟩
      have bS2 := bS1.below hb2
      have hB2 := hB1.trans (hb2.mono hB1.size)
      clear bS1 hB1 hb2 HFar
      obtain ⟨⟨s0, s1, s2⟩, s3, s4, s5⟩ := boxS6 bS2
      go_wp2_with fail
      refine (HC2.out _ hB2).mono ?_
      rintro e w3 ⟨rfl, hb3⟩
      have hB3 := hB2.trans (hb3.mono hB2.size)
      go_wp2_with fail
      go_returns
      exact ⟨by rw [HR.out]; rfl, hB3⟩
end Go.Proofs.Ytgpmnkdagpcffaa

namespace Go.Proofs.Ytgpmnkdagpcffaa
open Go.RowKit
namespace Sh
def polyB (ps : List Geo.Pt) : Bool := decide (ps.length ≤ 40) && Geo.validB ps
def deedB (d o : Int) : Bool := inB d 0 999999 && inB o 0 999999
def absV (n : Int) : Int := max n (-n)
def saneB (l h : Int) : Bool := (decide (0 ≤ l) && decide (l ≤ h)) && decide (h < 1073741824)
end Sh
set_option maxHeartbeats 400000 in
theorem Far2_any (A : Option Addr) (c : Nat) (ps : List Geo.Pt) (w : World) :
    Calls Try.prog 48 #[.slice A ps.length c] w fun e w' => e = .returned (.bool (decide (40 < ps.length))) ∧ w' = w := by
  go_enter Try.func48, Try.ntmps48
  go_wp2
  all_goals
    go_ret
    refine ⟨ret_b ?_, rfl⟩
    first | (simp; done) | (simp; omega)
set_option maxHeartbeats 1000000 in
theorem isPoly_any (A : Option Addr) (c : Nat) (ps : List Geo.Pt) (w : World) (hP : Prs w w.heap.size A ps) :
    Calls Try.prog 14 #[.slice A ps.length c] w fun e w' => e = .returned (.bool (Sh.polyB ps)) ∧ Below w.heap.size w w' := by
  have H1 : Hid (∀ W, Calls Try.prog 48 #[.slice A ps.length c] W fun e w' => e = .returned (.bool (decide (40 < ps.length))) ∧ w' = W) := fun W => Far2_any A c ps W
  have HR : Hid (Sh.polyB ps = (decide (ps.length ≤ 40) && Geo.validB ps)) := rfl
  by_cases h40 : ps.length ≤ 40
  · have H2 := Lib.hid (refchk_any A c ps (by omega) w hP)
    rw [decide_eq_false (by omega)] at H1
    rw [decide_eq_true h40] at HR
    generalize ps.length = n at *
    cases hv : Geo.validB ps with
    | true =>
      rw [Geo.refV_yes ((Geo.refP_iff ps).2 hv)] at H2
      rw [hv] at HR
      clear hv hP
      go_enter Try.func14, Try.ntmps14
      go_wp2_with fail
      refine (H1.out _).mono ?_
      rintro e w1 ⟨rfl, rfl⟩
      go_wp2_with fail
      refine H2.out.mono ?_
      rintro e w2 ⟨rfl, hb2⟩
      go_wp2_with fail
      go_returns
      exact ⟨by rw [HR.out]; rfl, hb2⟩
    | false =>
      rw [Geo.refV_no (fun h => by rw [(Geo.refP_iff ps).1 h] at hv; cases hv)] at H2
      rw [hv] at HR
      clear hv hP
      go_enter Try.func14, Try.ntmps14
      go_wp2_with fail
      refine (H1.out _).mono ?_
      rintro e w1 ⟨rfl, rfl⟩
      go_wp2_with fail
      refine H2.out.mono ?_
      rintro e w2 ⟨rfl, hb2⟩
      go_wp2_with fail
      go_returns
      exact ⟨by rw [HR.out]; rfl, hb2⟩
  · rw [decide_eq_true (by omega)] at H1
    rw [decide_eq_false h40] at HR
    clear hP
    generalize ps.length = n at *
    go_enter Try.func14, Try.ntmps14
    go_wp2_with fail
    refine (H1.out _).mono ?_
    rintro e w1 ⟨rfl, rfl⟩
    go_wp2_with fail
    go_returns
    exact ⟨by rw [HR.out]; rfl, Below.refl _ _⟩
set_option maxHeartbeats 1000000 in
theorem IsDeed_any (d o : Int) (w : World) : Calls Try.prog 38 #[.int .i64 d, .int .i64 o] w fun e w' => e = .returned (.bool (Sh.deedB d o)) ∧ w' = w := by
  have H1 : Hid (∀ W, Calls Try.prog 77 #[.int .i64 d, .int .i64 0, .int .i64 999999] W fun e w' => e = .returned (.bool (inB d 0 999999)) ∧ w' = W) := fun W => within4_any d 0 999999 W
  have H2 : Hid (∀ W, Calls Try.prog 77 #[.int .i64 o, .int .i64 0, .int .i64 999999] W fun e w' => e = .returned (.bool (inB o 0 999999)) ∧ w' = W) := fun W => within4_any o 0 999999 W
  have HR : Hid (Sh.deedB d o = (inB d 0 999999 && inB o 0 999999)) := rfl
  generalize inB d 0 999999 = b1 at *
  generalize inB o 0 999999 = b2 at *
  generalize Sh.deedB d o = R at *
  cases b1 with
  | false =>
    go_enter Try.func38, Try.ntmps38
    go_wp2_with fail
    refine (H1.out _).mono ?_
    rintro e w1 ⟨rfl, rfl⟩
    go_wp2_with fail
    go_returns
    exact ⟨by rw [HR.out]; rfl, rfl⟩
  | true =>
    go_enter Try.func38, Try.ntmps38
    go_wp2_with fail
    refine (H1.out _).mono ?_
    rintro e w1 ⟨rfl, rfl⟩
    go_wp2_with fail
    refine (H2.out _).mono ?_
    rintro e w2 ⟨rfl, rfl⟩
    go_wp2_with fail
    go_returns
    exact ⟨by rw [HR.out]; rfl, rfl⟩
set_option maxHeartbeats 1000000 in
theorem sane4_any (l h : Int) (w : World) : Calls Try.prog 35 #[.agg #[.int .i64 l, .int .i64 h]] w fun e w' => e = .returned (.bool (Sh.saneB l h)) ∧ Below w.heap.size w w' := by
  go_enter Try.func35, Try.ntmps35
  go_wp2
  all_goals
    go_ret
    refine ⟨ret_b ?_, (Below.refl _ _).alloc (Nat.le_refl _) _⟩
    rw [Bool.eq_iff_iff]
    simp [Sh.saneB]
    try omega
set_option maxHeartbeats 1000000 in
theorem absL_any (n : Int) (w : World) (hn : -1000000000000000000 ≤ n ∧ n ≤ 1000000000000000000) : Calls Try.prog 31 #[.int .i64 n] w fun e w' => e = .returned (.int .i64 (Sh.absV n)) ∧ w' = w := by
  have h1 : IntKind.i64.wrap (-n) = -n := IntWalk.i64_in _ (by omega)
  have hd : Hid (Sh.absV n = if -n > n then -n else n) := by unfold Hid Sh.absV; split <;> omega
  go_enter Try.func31, Try.ntmps31
  go_wp2
  all_goals
    go_ret
    refine ⟨ret_i ?_, rfl⟩
    rw [hd.out]
    split <;> omega
set_option maxHeartbeats 1000000 in
theorem absR_any (n : Int) (w : World) (hn : -1000000000000000000 ≤ n ∧ n ≤ 1000000000000000000) : Calls Try.prog 103 #[.int .i64 n] w fun e w' => e = .returned (.int .i64 (Sh.absV n)) ∧ w' = w := by
  have h1 : IntKind.i64.wrap (-n) = -n := IntWalk.i64_in _ (by omega)
  have hd : Hid (Sh.absV n = if -n > n then -n else n) := by unfold Hid Sh.absV; split <;> omega
  go_enter Try.func103, Try.ntmps103
  go_wp2
  all_goals
    go_ret
    refine ⟨ret_i ?_, rfl⟩
    rw [hd.out]
    split <;> omega
set_option maxHeartbeats 1000000 in
theorem Of4_any (a b n : Int) (w : World) : Calls Try.prog 99 #[.agg #[.int .i64 a, .int .i64 b], .int .i64 n] w fun e w' => e = .returned (.int .i64 (Sh.ofV (a, b) n)) ∧ Below w.heap.size w w' := by
  by_cases hn : n = 1
  · have hd : Sh.ofV (a, b) n = a := by unfold Sh.ofV; rw [if_pos hn]
    rw [hd]
    clear hd
    go_enter Try.func99, Try.ntmps99
    go_wp2_with fail
    go_returns
    exact ⟨rfl, (Below.refl _ _).alloc (Nat.le_refl _) _⟩
  · have hd : Sh.ofV (a, b) n = b := by unfold Sh.ofV; rw [if_neg hn]
    rw [hd]
    clear hd
    go_enter Try.func99, Try.ntmps99
    go_wp2_with fail
    go_returns
    exact ⟨rfl, (Below.refl _ _).alloc (Nat.le_refl _) _⟩
end Go.Proofs.Ytgpmnkdagpcffaa
