/- Sheets: what Check answers. -/
import Derived.Test.YtgpmnkdagpcffaaShE
namespace Go.Proofs.Ytgpmnkdagpcffaa
open Go.RowKit
set_option maxRecDepth 100000 in
set_option maxHeartbeats 2000000 in
theorem validControl_any (c : Sh.Ct) (w : World) :
    Calls Try.prog 97 #[.agg #[.int .i64 c.1, .int .i64 c.2.1, .int .i64 c.2.2.1, .int .i64 c.2.2.2]] w fun e w' => e = .returned (.bool (Sh.ctB c)) ∧ Below w.heap.size w w' := by
  obtain ⟨c0, c1, c2, c3⟩ := c
  dsimp only
  have H1 : Hid (∀ W, Calls Try.prog 63 #[.int .i64 c0] W fun e w' => e = .returned (.bool (Sh.wayB c0)) ∧ w' = W) := fun W => isWay_any c0 W
  have H2 : Hid (∀ W, Calls Try.prog 82 #[.int .i64 c1, .int .i64 1, .int .i64 9999] W fun e w' => e = .returned (.bool (inB c1 1 9999)) ∧ w' = W) := fun W => within_any c1 1 9999 W
  have H3 : Hid (∀ W, Calls Try.prog 82 #[.int .i64 c2, .int .i64 0, .int .i64 9999] W fun e w' => e = .returned (.bool (inB c2 0 9999)) ∧ w' = W) := fun W => within_any c2 0 9999 W
  have H4 : Hid (∀ W, Calls Try.prog 82 #[.int .i64 c3, .int .i64 0, .int .i64 9999] W fun e w' => e = .returned (.bool (inB c3 0 9999)) ∧ w' = W) := fun W => within_any c3 0 9999 W
  have HR : Hid (Sh.ctB (c0, c1, c2, c3) = (((Sh.wayB c0 && inB c1 1 9999) && inB c2 0 9999) && inB c3 0 9999)) := rfl
  generalize Sh.ctB (c0, c1, c2, c3) = R at *
  generalize Sh.wayB c0 = b1 at *
  generalize inB c1 1 9999 = b2 at *
  generalize inB c2 0 9999 = b3 at *
  generalize inB c3 0 9999 = b4 at *
  cases b1 with
  | false =>
    go_enter Try.func97, Try.ntmps97
    go_wp2_with fail
    refine (H1.out _).mono ?_
    rintro e w1 ⟨rfl, rfl⟩
    go_wp2_with fail
    go_returns
    exact ⟨by rw [HR.out]; rfl, (Below.refl _ _).alloc (Nat.le_refl _) _⟩
  | true =>
    cases b2 with
    | false =>
      go_enter Try.func97, Try.ntmps97
      go_wp2_with fail
      refine (H1.out _).mono ?_
      rintro e w1 ⟨rfl, rfl⟩
      go_wp2_with fail
      refine (H2.out _).mono ?_
      rintro e w2 ⟨rfl, rfl⟩
      go_wp2_with fail
      go_returns
      exact ⟨by rw [HR.out]; rfl, (Below.refl _ _).alloc (Nat.le_refl _) _⟩
    | true =>
      cases b3 with
      | false =>
        go_enter Try.func97, Try.ntmps97
        go_wp2_with fail
        refine (H1.out _).mono ?_
        rintro e w1 ⟨rfl, rfl⟩
        go_wp2_with fail
        refine (H2.out _).mono ?_
        rintro e w2 ⟨rfl, rfl⟩
        go_wp2_with fail
        refine (H3.out _).mono ?_
        rintro e w3 ⟨rfl, rfl⟩
        go_wp2_with fail
        go_returns
        exact ⟨by rw [HR.out]; rfl, (Below.refl _ _).alloc (Nat.le_refl _) _⟩
      | true =>
        cases b4 with
        | false =>
          go_enter Try.func97, Try.ntmps97
          go_wp2_with fail
          refine (H1.out _).mono ?_
          rintro e w1 ⟨rfl, rfl⟩
          go_wp2_with fail
          refine (H2.out _).mono ?_
          rintro e w2 ⟨rfl, rfl⟩
          go_wp2_with fail
          refine (H3.out _).mono ?_
          rintro e w3 ⟨rfl, rfl⟩
          go_wp2_with fail
          refine (H4.out _).mono ?_
          rintro e w4 ⟨rfl, rfl⟩
          go_wp2_with fail
          go_returns
          exact ⟨by rw [HR.out]; rfl, (Below.refl _ _).alloc (Nat.le_refl _) _⟩
        | true =>
          go_enter Try.func97, Try.ntmps97
          go_wp2_with fail
          refine (H1.out _).mono ?_
          rintro e w1 ⟨rfl, rfl⟩
          go_wp2_with fail
          refine (H2.out _).mono ?_
          rintro e w2 ⟨rfl, rfl⟩
          go_wp2_with fail
          refine (H3.out _).mono ?_
          rintro e w3 ⟨rfl, rfl⟩
          go_wp2_with fail
          refine (H4.out _).mono ?_
          rintro e w4 ⟨rfl, rfl⟩
          go_wp2_with fail
          go_returns
          exact ⟨by rw [HR.out]; rfl, (Below.refl _ _).alloc (Nat.le_refl _) _⟩

namespace Sh
def allTo (cs : List Ct) : Nat → Bool
  | 0 => true
  | k + 1 => allTo cs k && ctB (ctAt cs k)
theorem allTo_iff (cs : List Ct) : ∀ k, allTo cs k = true ↔ ∀ j, j < k → ctB (ctAt cs j) = true
  | 0 => by simp [allTo]
  | k + 1 => by
    unfold allTo
    rw [Bool.and_eq_true, allTo_iff cs k]
    constructor
    · rintro ⟨h1, h2⟩ j hj
      by_cases e : j = k
      · subst e; exact h2
      · exact h1 j (by omega)
    · intro h
      exact ⟨fun j hj => h j (by omega), h k (by omega)⟩
theorem allTo_no {cs : List Ct} {j k : Nat} (hj : j < k) (h : ctB (ctAt cs j) = false) : allTo cs k = false := by
  cases e : allTo cs k with
  | false => rfl
  | true => rw [(allTo_iff cs k).1 e j hj] at h; cases h
def headB (s : Sheet) : Bool := ((spanB s.al s.ah && spanB s.bl s.bh) && decide (s.cs.length ≤ 8)) && inB s.wr 0 8
def okB (s : Sheet) : Bool := headB s && allTo s.cs s.cs.length
def chkE (s : Sheet) : Int := if okB s then 0 else 40
theorem ok_of {s : Sheet} (h : okB s = true) : Ok s := by
  unfold okB headB spanB inB at h
  simp only [Bool.and_eq_true, decide_eq_true_eq] at h
  obtain ⟨⟨⟨⟨⟨⟨h1, h2⟩, h3⟩, ⟨h4, h5⟩, h6⟩, h7⟩, h8, h9⟩, h10⟩ := h
  exact ⟨h1, h2, h3, h4, h5, h6, h7, (allTo_iff _ _).1 h10, h8, h9⟩
theorem chkE_yes {s : Sheet} (h : okB s = true) : chkE s = 0 := by unfold chkE; rw [h]; rfl
theorem chkE_no {s : Sheet} (h : okB s = false) : chkE s = 40 := by unfold chkE; rw [h]; rfl
theorem chkE_head {s : Sheet} (h : headB s = false) : chkE s = 40 := chkE_no (by unfold okB; rw [h]; rfl)
end Sh
def ErrPost (v : Int) (w : World) (e : Ending) (w' : World) : Prop := e = .returned (.int .i64 v) ∧ Below w.heap.size w w'

set_option maxRecDepth 100000 in
set_option maxHeartbeats 4000000 in
theorem shCheck_any (s : Sheet) (A : Option Addr) (c : Nat) (w : World) (hl : s.cs.length ≤ 1000000000) (hg : Cts w w.heap.size A s.cs) :
    Calls Try.prog 41 #[.agg (shV s A c)] w (ErrPost (Sh.chkE s) w) := by
  have HH : Hid (Sh.headB s = (((Sh.spanB s.al s.ah && Sh.spanB s.bl s.bh) && decide (s.cs.length ≤ 8)) && inB s.wr 0 8)) := rfl
  have HN : Hid (Sh.headB s = false → Sh.chkE s = 40) := Sh.chkE_head
  have HY : Hid (Sh.headB s = true → Sh.chkE s = if Sh.allTo s.cs s.cs.length then 0 else 40) := fun h => by unfold Sh.chkE Sh.okB; rw [h]; rfl
  obtain ⟨al, ah, bl, bh, cs, wrn⟩ := s
  dsimp only at *
  unfold shV
  dsimp only
  generalize Sh.chkE ⟨al, ah, bl, bh, cs, wrn⟩ = E at *
  generalize Sh.headB ⟨al, ah, bl, bh, cs, wrn⟩ = HB at *
  have H1 : Hid (∀ W, Calls Try.prog 96 #[.agg #[.int .i64 al, .int .i64 ah]] W fun e w' => e = .returned (.bool (Sh.spanB al ah)) ∧ Below W.heap.size W w') := fun W => validSpan_any al ah W
  have H2 : Hid (∀ W, Calls Try.prog 96 #[.agg #[.int .i64 bl, .int .i64 bh]] W fun e w' => e = .returned (.bool (Sh.spanB bl bh)) ∧ Below W.heap.size W w') := fun W => validSpan_any bl bh W
  have H4 : Hid (∀ W, Calls Try.prog 82 #[.int .i64 wrn, .int .i64 0, .int .i64 8] W fun e w' => e = .returned (.bool (inB wrn 0 8)) ∧ w' = W) := fun W => within_any wrn 0 8 W
  have HVC : Hid (∀ k W, Calls Try.prog 97 #[.agg #[.int .i64 (Sh.ctAt cs k).1, .int .i64 (Sh.ctAt cs k).2.1, .int .i64 (Sh.ctAt cs k).2.2.1, .int .i64 (Sh.ctAt cs k).2.2.2]] W fun e w' => e = .returned (.bool (Sh.ctB (Sh.ctAt cs k))) ∧ Below W.heap.size W w') := fun k W => validControl_any _ W
  have HG := Lib.hid hg
  have hll : (cs.length : Int) ≤ 1000000000 := by omega
  clear hg
  generalize Sh.spanB al ah = b1 at *
  generalize Sh.spanB bl bh = b2 at *
  generalize inB wrn 0 8 = b4 at *
  cases b1 with
  | false =>
    go_enter Try.func41, Try.ntmps41
    go_wp2_with fail
    have bS1 := BoxS.new w 26 #[.int .i64 al, .int .i64 ah, .int .i64 bl, .int .i64 bh, .slice A cs.length c, .int .i64 wrn]
    have hB1 : Below w.heap.size w (w.alloc (.cells #[.int .i64 al, .int .i64 ah, .int .i64 bl, .int .i64 bh, .slice A cs.length c, .int .i64 wrn] 26)) := by (repeat' (first | (with_reducible exact Below.refl _ _) | (with_reducible assumption) | (with_reducible refine Below.alloc ?_ ?_ _) | (with_reducible refine Below.drew ?_) | (with_reducible refine Below.setCell ?_ ?_ _) | go_size | (exact (by simp)) | omega))
    generalize World.alloc w _ = w1 at *
    refine (H1.out _).mono ?_
    rintro e w2 ⟨rfl, hb2⟩
    have bS2 := bS1.below hb2
    have hB2 := hB1.trans (hb2.mono hB1.size)
    clear bS1 hB1 hb2
    obtain ⟨⟨s0, s1, s2⟩, s3, s4, s5⟩ := boxS6 bS2
    go_wp2_with fail
    go_returns
    exact ⟨by rw [HN.out (by rw [HH.out]; simp)]; rfl, hB2⟩
  | true =>
    cases b2 with
    | false =>
      go_enter Try.func41, Try.ntmps41
      go_wp2_with fail
      have bS1 := BoxS.new w 26 #[.int .i64 al, .int .i64 ah, .int .i64 bl, .int .i64 bh, .slice A cs.length c, .int .i64 wrn]
      have hB1 : Below w.heap.size w (w.alloc (.cells #[.int .i64 al, .int .i64 ah, .int .i64 bl, .int .i64 bh, .slice A cs.length c, .int .i64 wrn] 26)) := by (repeat' (first | (with_reducible exact Below.refl _ _) | (with_reducible assumption) | (with_reducible refine Below.alloc ?_ ?_ _) | (with_reducible refine Below.drew ?_) | (with_reducible refine Below.setCell ?_ ?_ _) | go_size | (exact (by simp)) | omega))
      generalize World.alloc w _ = w1 at *
      refine (H1.out _).mono ?_
      rintro e w2 ⟨rfl, hb2⟩
      have bS2 := bS1.below hb2
      have hB2 := hB1.trans (hb2.mono hB1.size)
      clear bS1 hB1 hb2
      obtain ⟨⟨s0, s1, s2⟩, s3, s4, s5⟩ := boxS6 bS2
      go_wp2_with fail
      refine (H2.out _).mono ?_
      rintro e w3 ⟨rfl, hb3⟩
      have bS3 := bS2.below hb3
      have hB3 := hB2.trans (hb3.mono hB2.size)
      clear s0 s1 s2 s3 s4 s5 bS2 hB2 hb3
      obtain ⟨⟨s0, s1, s2⟩, s3, s4, s5⟩ := boxS6 bS3
      go_wp2_with fail
      go_returns
      exact ⟨by rw [HN.out (by rw [HH.out]; simp)]; rfl, hB3⟩
    | true =>
      by_cases h8 : cs.length ≤ 8
      · have h8i : ¬ (8 : Int) < cs.length := by omega
        cases b4 with
        | false =>
          go_enter Try.func41, Try.ntmps41
          go_wp2_with fail
          have bS1 := BoxS.new w 26 #[.int .i64 al, .int .i64 ah, .int .i64 bl, .int .i64 bh, .slice A cs.length c, .int .i64 wrn]
          have hB1 : Below w.heap.size w (w.alloc (.cells #[.int .i64 al, .int .i64 ah, .int .i64 bl, .int .i64 bh, .slice A cs.length c, .int .i64 wrn] 26)) := by (repeat' (first | (with_reducible exact Below.refl _ _) | (with_reducible assumption) | (with_reducible refine Below.alloc ?_ ?_ _) | (with_reducible refine Below.drew ?_) | (with_reducible refine Below.setCell ?_ ?_ _) | go_size | (exact (by simp)) | omega))
          generalize World.alloc w _ = w1 at *
          refine (H1.out _).mono ?_
          rintro e w2 ⟨rfl, hb2⟩
          have bS2 := bS1.below hb2
          have hB2 := hB1.trans (hb2.mono hB1.size)
          clear bS1 hB1 hb2
          obtain ⟨⟨s0, s1, s2⟩, s3, s4, s5⟩ := boxS6 bS2
          go_wp2_with fail
          refine (H2.out _).mono ?_
          rintro e w3 ⟨rfl, hb3⟩
          have bS3 := bS2.below hb3
          have hB3 := hB2.trans (hb3.mono hB2.size)
          clear s0 s1 s2 s3 s4 s5 bS2 hB2 hb3
          obtain ⟨⟨s0, s1, s2⟩, s3, s4, s5⟩ := boxS6 bS3
          go_wp2_with fail
          refine (H4.out _).mono ?_
          rintro e w4 ⟨rfl, rfl⟩
          go_wp2_with fail
          go_returns
          exact ⟨by rw [HN.out (by rw [HH.out]; simp)]; rfl, hB3⟩
        | true =>
          have HE := Lib.hid (HY.out (by rw [HH.out]; simp [h8]))
          go_enter Try.func41, Try.ntmps41
          go_wp2_with fail
          have bS1 := BoxS.new w 26 #[.int .i64 al, .int .i64 ah, .int .i64 bl, .int .i64 bh, .slice A cs.length c, .int .i64 wrn]
          have hB1 : Below w.heap.size w (w.alloc (.cells #[.int .i64 al, .int .i64 ah, .int .i64 bl, .int .i64 bh, .slice A cs.length c, .int .i64 wrn] 26)) := by (repeat' (first | (with_reducible exact Below.refl _ _) | (with_reducible assumption) | (with_reducible refine Below.alloc ?_ ?_ _) | (with_reducible refine Below.drew ?_) | (with_reducible refine Below.setCell ?_ ?_ _) | go_size | (exact (by simp)) | omega))
          generalize World.alloc w _ = w1 at *
          refine (H1.out _).mono ?_
          rintro e w2 ⟨rfl, hb2⟩
          have bS2 := bS1.below hb2
          have hB2 := hB1.trans (hb2.mono hB1.size)
          clear bS1 hB1 hb2
          obtain ⟨⟨s0, s1, s2⟩, s3, s4, s5⟩ := boxS6 bS2
          go_wp2_with fail
          refine (H2.out _).mono ?_
          rintro e w3 ⟨rfl, hb3⟩
          have bS3 := bS2.below hb3
          have hB3 := hB2.trans (hb3.mono hB2.size)
          clear s0 s1 s2 s3 s4 s5 bS2 hB2 hb3
          obtain ⟨⟨s0, s1, s2⟩, s3, s4, s5⟩ := boxS6 bS3
          go_wp2_with fail
          refine (H4.out _).mono ?_
          rintro e w4 ⟨rfl, rfl⟩
          go_wp2_with fail
          clear s0 s1 s2 s3 s4 s5
          go_loopw [30] (fun x wr => ∃ k : Nat, (k : Int) ≤ cs.length ∧ x = .int .i64 k ∧ Hid (Sh.allTo cs k = true) ∧ Below w.heap.size w wr) (fun x _ => (cs.length - intOf x).toNat)
          case atStart => exact ⟨0, by omega, rfl, rfl, hB3⟩
          case round =>
            obtain ⟨k, hk, rfl, hall, hB⟩ := hrel
            have hk0 := Int.natCast_nonneg k
            by_cases hlt : (k : Int) < cs.length
            · have hkn : k < cs.length := by omega
              obtain ⟨bb, off, rfl, hbb, hc⟩ := HG.out (by omega)
              obtain ⟨h0, h1, h2, h3⟩ := hc k hkn
              have a0 := (hB.cell (p := ⟨bb, _, none⟩) hbb).trans h0
              have a1 := (hB.cell (p := ⟨bb, _, none⟩) hbb).trans h1
              have a2 := (hB.cell (p := ⟨bb, _, none⟩) hbb).trans h2
              have a3 := (hB.cell (p := ⟨bb, _, none⟩) hbb).trans h3
              have HV1 := Lib.hid (HVC.out k)
              have HS : Hid (Sh.allTo cs (k + 1) = (Sh.allTo cs k && Sh.ctB (Sh.ctAt cs k))) := rfl
              have HNO : Hid (Sh.ctB (Sh.ctAt cs k) = false → Sh.allTo cs cs.length = false) := Sh.allTo_no hkn
              have hw1 : IntKind.i64.wrap ((k : Int) + 1) = (k : Int) + 1 := IntWalk.i64_in _ (by omega)
              clear hc h0 h1 h2 h3 HVC
              generalize Sh.ctB (Sh.ctAt cs k) = b at *
              generalize Sh.ctAt cs k = ct at *
              obtain ⟨c0, c1, c2, c3⟩ := ct
              dsimp only at a0 a1 a2 a3 HV1
              go_wp2_with fail
              have hBa : Below w.heap.size w (wr.alloc (.cells #[.int .i64 c0, .int .i64 c1, .int .i64 c2, .int .i64 c3] 29)) := hB.alloc hB.size _
              clear a0 a1 a2 a3
              generalize World.alloc wr _ = w5 at *
              refine (HV1.out _).mono ?_
              rintro e w6 ⟨rfl, hb6⟩
              have hB6 := hBa.trans (hb6.mono hBa.size)
              cases b with
              | true =>
                go_wp2_with fail
                go_roundw
                case rel => exact ⟨k + 1, by omega, by go_num, by unfold Hid; rw [HS.out, hall.out]; rfl, hB6⟩
                case measure => simp [intOf]; omega
              | false =>
                go_wp2_with fail
                go_returns
                exact ⟨by rw [HE.out, HNO.out (by first | rfl | trivial)]; rfl, hB6⟩
            · obtain rfl : k = cs.length := by omega
              go_wp2_with fail
              go_returns
              exact ⟨by rw [HE.out, hall.out]; rfl, hB⟩
      · have h8i : (8 : Int) < cs.length := by omega
        go_enter Try.func41, Try.ntmps41
        go_wp2_with fail
        have bS1 := BoxS.new w 26 #[.int .i64 al, .int .i64 ah, .int .i64 bl, .int .i64 bh, .slice A cs.length c, .int .i64 wrn]
        have hB1 : Below w.heap.size w (w.alloc (.cells #[.int .i64 al, .int .i64 ah, .int .i64 bl, .int .i64 bh, .slice A cs.length c, .int .i64 wrn] 26)) := by (repeat' (first | (with_reducible exact Below.refl _ _) | (with_reducible assumption) | (with_reducible refine Below.alloc ?_ ?_ _) | (with_reducible refine Below.drew ?_) | (with_reducible refine Below.setCell ?_ ?_ _) | go_size | (exact (by simp)) | omega))
        generalize World.alloc w _ = w1 at *
        refine (H1.out _).mono ?_
        rintro e w2 ⟨rfl, hb2⟩
        have bS2 := bS1.below hb2
        have hB2 := hB1.trans (hb2.mono hB1.size)
        clear bS1 hB1 hb2
        obtain ⟨⟨s0, s1, s2⟩, s3, s4, s5⟩ := boxS6 bS2
        go_wp2_with fail
        refine (H2.out _).mono ?_
        rintro e w3 ⟨rfl, hb3⟩
        have bS3 := bS2.below hb3
        have hB3 := hB2.trans (hb3.mono hB2.size)
        clear s0 s1 s2 s3 s4 s5 bS2 hB2 hb3
        obtain ⟨⟨s0, s1, s2⟩, s3, s4, s5⟩ := boxS6 bS3
        go_wp2_with fail
        go_returns
        exact ⟨by rw [HN.out (by rw [HH.out]; simp [h8])]; rfl, hB3⟩
end Go.Proofs.Ytgpmnkdagpcffaa
