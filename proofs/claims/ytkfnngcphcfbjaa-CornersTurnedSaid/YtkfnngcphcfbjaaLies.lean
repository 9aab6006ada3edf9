/- How a point lies to a polygon, as the program has it. -/
import Derived.Test.YtkfnngcphcfbjaaTotal
import Derived.Test.YtkfnngcphcfbjaaGeoB
namespace Go.Proofs.Ytkfnngcphcfbjaa
open Go.RowKit Go.Shelf

namespace Geo
def crossB (s : (Int × Int) × (Int × Int)) (p : Int × Int) : Bool := if p.2 < s.1.2 then decide (s.2.2 ≤ p.2) && decide (turn s.1 s.2 p < 0) else decide (p.2 < s.2.2) && decide (0 < turn s.1 s.2 p)
end Geo

set_option maxHeartbeats 1000000 in
theorem crosses_any (x1 y1 x2 y2 x y : Int) (w : World) (h1 : Geo.sm (x1, y1)) (h2 : Geo.sm (x2, y2)) (h3 : Geo.sm (x, y)) :
    Calls Try.prog 87 #[.agg #[.int .i64 x1, .int .i64 y1, .int .i64 x2, .int .i64 y2], .agg #[.int .i64 x, .int .i64 y]] w
      fun e w' => e = .returned (.bool (Geo.crossB ((x1, y1), (x2, y2)) (x, y))) ∧ Below w.heap.size w w' := by
  have x0 : Hid (∀ W, Calls Try.prog 94 #[.agg #[.int .i64 x1, .int .i64 y1, .int .i64 x2, .int .i64 y2], .agg #[.int .i64 x, .int .i64 y]] W fun e w' => e = .returned (.int .i64 (Geo.turn (x1, y1) (x2, y2) (x, y))) ∧ Below W.heap.size W w') := fun W => turn_any x1 y1 x2 y2 x y W h1 h2 h3
  have HO : Hid (Geo.crossB ((x1, y1), (x2, y2)) (x, y) = (if y < y1 then decide (y2 ≤ y) && decide (Geo.turn (x1, y1) (x2, y2) (x, y) < 0) else decide (y < y2) && decide (0 < Geo.turn (x1, y1) (x2, y2) (x, y)))) := rfl
  generalize Geo.crossB ((x1, y1), (x2, y2)) (x, y) = V at *
  generalize Geo.turn (x1, y1) (x2, y2) (x, y) = T at *
  clear h1 h2 h3
  by_cases hy : y < y1
  · rw [if_pos hy] at HO
    by_cases hz : y2 ≤ y
    · go_enter Try.func87, Try.ntmps87
      go_wp2_with fail
      refine (x0.out _).mono ?_
      rintro e w1 ⟨rfl, hb1⟩
      have hB1 : Below w.heap.size w w1 := Below.trans (by (repeat' (first | (with_reducible exact Below.refl _ _) | (with_reducible assumption) | (with_reducible refine Below.alloc ?_ ?_ _) | (with_reducible refine below_drewN ?_ _) | (with_reducible refine Below.drew ?_) | (with_reducible refine Below.setCell ?_ ?_ _) | go_size))) (hb1.mono (by first | omega | (simp; done) | (simp; omega))); have hz1 := hb1.size; try simp at hz1
      go_wp2_with fail
      go_returns
      exact ⟨ret_b (by rw [HO.out, decide_eq_true hz]; rfl), by (repeat' (first | (with_reducible exact Below.refl _ _) | (with_reducible assumption) | (with_reducible refine Below.alloc ?_ ?_ _) | (with_reducible refine below_drewN ?_ _) | (with_reducible refine Below.drew ?_) | (with_reducible refine Below.setCell ?_ ?_ _) | go_size))⟩
    · go_enter Try.func87, Try.ntmps87
      go_wp2_with fail
      go_returns
      exact ⟨ret_b (by rw [HO.out, decide_eq_false (p := y2 ≤ y) (by omega)]; rfl), by (repeat' (first | (with_reducible exact Below.refl _ _) | (with_reducible assumption) | (with_reducible refine Below.alloc ?_ ?_ _) | (with_reducible refine below_drewN ?_ _) | (with_reducible refine Below.drew ?_) | (with_reducible refine Below.setCell ?_ ?_ _) | go_size))⟩
  · rw [if_neg hy] at HO
    by_cases hz : y < y2
    · go_enter Try.func87, Try.ntmps87
      go_wp2_with fail
      refine (x0.out _).mono ?_
      rintro e w1 ⟨rfl, hb1⟩
      have hB1 : Below w.heap.size w w1 := Below.trans (by (repeat' (first | (with_reducible exact Below.refl _ _) | (with_reducible assumption) | (with_reducible refine Below.alloc ?_ ?_ _) | (with_reducible refine below_drewN ?_ _) | (with_reducible refine Below.drew ?_) | (with_reducible refine Below.setCell ?_ ?_ _) | go_size))) (hb1.mono (by first | omega | (simp; done) | (simp; omega))); have hz1 := hb1.size; try simp at hz1
      go_wp2_with fail
      go_returns
      exact ⟨ret_b (by rw [HO.out, decide_eq_true hz]; rfl), by (repeat' (first | (with_reducible exact Below.refl _ _) | (with_reducible assumption) | (with_reducible refine Below.alloc ?_ ?_ _) | (with_reducible refine below_drewN ?_ _) | (with_reducible refine Below.drew ?_) | (with_reducible refine Below.setCell ?_ ?_ _) | go_size))⟩
    · go_enter Try.func87, Try.ntmps87
      go_wp2_with fail
      go_returns
      exact ⟨ret_b (by rw [HO.out, decide_eq_false (p := y < y2) (by omega)]; rfl), by (repeat' (first | (with_reducible exact Below.refl _ _) | (with_reducible assumption) | (with_reducible refine Below.alloc ?_ ?_ _) | (with_reducible refine below_drewN ?_ _) | (with_reducible refine Below.drew ?_) | (with_reducible refine Below.setCell ?_ ?_ _) | go_size))⟩

/-- How many sides are crossed, as a parity. -/
def parB (at_ : Int × Int) (l : List Side) : Bool := l.foldl (fun b s => if Geo.crossB s.1 at_ then !b else b) false
theorem parB_snoc (p : Int × Int) (l : List Side) (x : Side) : parB p (l ++ [x]) = if Geo.crossB x.1 p then !parB p l else parB p l := by unfold parB; rw [List.foldl_append]; rfl
def hasB (p : Int × Int) (l : List Side) : Bool := l.any fun s => Geo.onB s.1.1 s.1.2 p
def liesV (p : Int × Int) (l : List Side) : Int := if hasB p l then 2 else if parB p l then 1 else 3
def LiesPost (v : Int) (w : World) (e : Ending) (w' : World) : Prop := e = .returned (.int .i64 v) ∧ Below w.heap.size w w'
theorem sidesTo_sub2 {ps : List (Int × Int)} {h : ∀ p ∈ ps, Geo.sm p} {k n : Nat} (hk : k ≤ n) {s : Side} (hs : s ∈ sidesTo ps h k) : s ∈ sidesTo ps h n := by
  unfold sidesTo at *
  rw [List.mem_map] at *
  obtain ⟨i, hi, e⟩ := hs
  rw [List.mem_range] at hi
  exact ⟨i, List.mem_range.2 (by omega), e⟩

attribute [local go_sem] Oper.semAt_some in
set_option maxRecDepth 100000 in
set_option maxHeartbeats 4000000 in
theorem lies_in (n : Nat) (hn : 6 ≤ n) (A : Option Addr) (c : Nat) (ps : List (Int × Int)) (hps : ∀ p ∈ ps, Geo.sm p) (hlen : ps.length ≤ 100) (ax ay : Int) (ha : Geo.sm (ax, ay)) (w : World) (hP : Prs w w.heap.size A ps) :
    CallsIn Fence.wide n Try.prog 47 #[.slice A ps.length c, .agg #[.int .i64 ax, .int .i64 ay]] w (LiesPost (liesV (ax, ay) (sidesTo ps hps ps.length)) w) := by
  have h1 : 1 ≤ n := by omega
  obtain ⟨ss, hss⟩ : ∃ ss, ss = sidesTo ps hps ps.length := ⟨_, rfl⟩
  rw [← hss]
  have HS := Lib.hid hss
  have HP := Lib.hid hP
  have HL := Lib.hid hlen
  have HA := Lib.hid ha
  clear hP hss hlen ha
  refine callsIn_of_wp_marks Try.func47 rfl trivial ?_ rfl
  simp only [Try.ntmps47, List.size_toArray, List.length_cons, List.length_nil, Nat.reduceAdd, Nat.reduceSub, Array.replicate_succ, Array.replicate_zero, List.push_toArray, List.append_toArray, List.nil_append, List.cons_append]
  gi_wp2_with (refine ⟨trivial, ?_⟩; gi_at_call 70; refine (sides_in Fence.wide (n - 1) trivial rfl _ _ _ _).mono ?_; rintro e w' ⟨rfl, rfl⟩)
  have bQ := (((BoxS.new w 24 #[.int .i64 ax, .int .i64 ay]).alloc (.cells #[.int .i64 0] 3)).alloc (.cells #[.bool false] 4)).alloc (.cells #[.slice A ps.length c] 22)
  have bR := ((Boxed.new (w.alloc (.cells #[.int .i64 ax, .int .i64 ay] 24)) 3 (.int .i64 0)).alloc (.cells #[.bool false] 4)).alloc (.cells #[.slice A ps.length c] 22)
  have bI := (Boxed.new ((w.alloc (.cells #[.int .i64 ax, .int .i64 ay] 24)).alloc (.cells #[.int .i64 0] 3)) 4 (.bool false)).alloc (.cells #[.slice A ps.length c] 22)
  have bA := Boxed.new (((w.alloc (.cells #[.int .i64 ax, .int .i64 ay] 24)).alloc (.cells #[.int .i64 0] 3)).alloc (.cells #[.bool false] 4)) 22 (.slice A ps.length c)
  simp only [World.size_alloc] at bR bI bA
  have hB0 : Below w.heap.size w ((((w.alloc (.cells #[.int .i64 ax, .int .i64 ay] 24)).alloc (.cells #[.int .i64 0] 3)).alloc (.cells #[.bool false] 4)).alloc (.cells #[.slice A ps.length c] 22)) := ((((Below.refl _ w).alloc (Nat.le_refl _) _).alloc (by simp) _).alloc (by simp; omega) _).alloc (by simp; omega) _
  have hsz : ((((w.alloc (.cells #[.int .i64 ax, .int .i64 ay] 24)).alloc (.cells #[.int .i64 0] 3)).alloc (.cells #[.bool false] 4)).alloc (.cells #[.slice A ps.length c] 22)).heap.size = w.heap.size + 4 := by simp
  obtain ⟨W0, hW0⟩ : ∃ W0, ((((w.alloc (.cells #[.int .i64 ax, .int .i64 ay] 24)).alloc (.cells #[.int .i64 0] 3)).alloc (.cells #[.bool false] 4)).alloc (.cells #[.slice A ps.length c] 22)) = W0 := ⟨_, rfl⟩
  rw [hW0] at bQ bR bI bA hB0 hsz ⊢
  clear hW0
  have hP1 : Prs W0 w.heap.size A ps := HP.out.keep hB0
  refine wpIn_rangeFunc_ownH rfl h1 (gf := 96) (lb := #[.pointer (some ⟨w.heap.size + 1 + 1 + 1, 0, none⟩)]) rfl trivial (enters_of Try.func96 (by kernel_rfl) rfl)
    (sides_stops Fence.wide (n - 1) trivial rfl (by omega) (w.heap.size + 1 + 1 + 1) w.heap.size A c ps hps HL.out W0 bA (by omega) hP1) KpS.trans (fun W l o o' hl _ _ _ => KpS.putObj W (by omega) (by omega) o') (Below.refl _ _) (fun _ => rfl)
    (fun pre W => (((Hid (hasB (ax, ay) pre = false) ∧ Boxed W (w.heap.size + 1) 3 (.int .i64 0)) ∧ Boxed W (w.heap.size + 1 + 1) 4 (.bool (parB (ax, ay) pre))) ∧ BoxS W w.heap.size 24 #[.int .i64 ax, .int .i64 ay]) ∧ Below w.heap.size w W)
    (fun cc pre W => ((cc = .ret ∧ Hid (hasB (ax, ay) pre = true)) ∧ Boxed W (w.heap.size + 1) 3 (.int .i64 2)) ∧ Below w.heap.size w W)
    (OwnFrom.and (OwnFrom.and (OwnFrom.and (OwnFrom.and (ownFrom_pure _ _) (Own.from (boxed_own _ _ _) _)) (Own.from (boxed_own _ _ _) _)) (Own.from (boxS_own _ _ _) _)) (ownFrom_below (Nat.le_refl _) (by omega)))
    (fun cc => OwnFrom.and (OwnFrom.and (ownFrom_pure _ _) (Own.from (boxed_own _ _ _) _)) (ownFrom_below (Nat.le_refl _) (by omega)))
    ⟨⟨⟨⟨Lib.hid rfl, bR⟩, bI⟩, bQ⟩, hB0⟩
    (fun x a' W => ∃ Bx, w.heap.size + 1 + 1 < Bx ∧ BoxS W Bx 65 #[.int .i64 x.1.1.1, .int .i64 x.1.1.2, .int .i64 x.1.2.1, .int .i64 x.1.2.2] ∧ a' = { tmps := #[.slice A ps.length c, .agg #[.int .i64 ax, .int .i64 ay], undef, .pointer (some ⟨w.heap.size, 0, none⟩), .pointer (some ⟨w.heap.size + 1, 0, none⟩), .pointer (some ⟨w.heap.size + 1 + 1, 0, none⟩), .pointer (some ⟨Bx, 0, none⟩), .slice A ps.length c, .func (.func 96) #[] #[.pointer (some ⟨w.heap.size + 1 + 1 + 1, 0, none⟩)], encSide x, undef, undef, undef, undef, undef, undef, undef, undef, undef], defers := [] })
    (fun x a' _ X Y row hs hg hr => by obtain ⟨Bx, e1, e2, e3⟩ := hs; exact ⟨Bx, e1, boxS_own Bx 65 (fun (_ : Unit) => #[.int .i64 x.1.1.1, .int .i64 x.1.1.2, .int .i64 x.1.2.1, .int .i64 x.1.2.2]) () X Y row e2 hg (fun r e => (hr r e).2), e3⟩)
    ?assign ?body ?done ?stop
  case assign =>
    rintro l pre x W K ⟨⟨⟨⟨hp, bR1⟩, bI1⟩, bQ1⟩, hB1⟩ hK
    unfold encSide
    gi_wp2
    exact hK _ _ ((KeepsOthers.alloc _ _).from _) (KpS.alloc W hB1.size _) ⟨⟨⟨⟨hp, bR1.alloc _⟩, bI1.alloc _⟩, bQ1.alloc _⟩, hB1.alloc hB1.size _⟩ ⟨W.heap.size, bI1.lt, BoxS.new W _ _, rfl⟩
  case body =>
    rintro l pre x a' W hl ⟨r, hr⟩ ⟨⟨⟨⟨hp, bR1⟩, bI1⟩, bQ1⟩, hB1⟩ ⟨Bx, hBx, bX, rfl⟩ hlt
    have P1 : Hid (∀ V, Calls Try.prog 86 #[.agg #[.int .i64 x.1.1.1, .int .i64 x.1.1.2, .int .i64 x.1.2.1, .int .i64 x.1.2.2], .agg #[.int .i64 ax, .int .i64 ay]] V fun e w' => e = .returned (.bool (Geo.onB x.1.1 x.1.2 (ax, ay))) ∧ Below V.heap.size V w') := fun V => has_any _ _ _ _ _ _ V x.2.1 x.2.2 HA.out
    have P2 : Hid (∀ V, Calls Try.prog 87 #[.agg #[.int .i64 x.1.1.1, .int .i64 x.1.1.2, .int .i64 x.1.2.1, .int .i64 x.1.2.2], .agg #[.int .i64 ax, .int .i64 ay]] V fun e w' => e = .returned (.bool (Geo.crossB x.1 (ax, ay))) ∧ Below V.heap.size V w') := fun V => crosses_any _ _ _ _ _ _ V x.2.1 x.2.2 HA.out
    have HB : Hid (hasB (ax, ay) (pre ++ [x]) = (hasB (ax, ay) pre || Geo.onB x.1.1 x.1.2 (ax, ay))) := by unfold Hid hasB; simp
    have HQ := Lib.hid (parB_snoc (ax, ay) pre x)
    generalize Geo.onB x.1.1 x.1.2 (ax, ay) = b1 at *
    generalize Geo.crossB x.1 (ax, ay) = b2 at *
    generalize parB (ax, ay) pre = q0 at *
    have hsW := hB1.size
    have hn2 : 1 ≤ n - 1 - 1 := by omega
    obtain ⟨cx0, cx1, cx2, cx3⟩ := boxS4 bX
    obtain ⟨cq0, cq1⟩ := boxS2 bQ1
    gi_wp2
    refine ⟨trivial, (CallsIn.inRound l (callsIn_wide.2 (P1.out _))).mono ?_⟩
    rintro e w2 ⟨rfl, hb2⟩
    clear cx0 cx1 cx2 cx3 cq0 cq1
    have bR2 := boxed_below bR1 hb2
    have bI2 := boxed_below bI1 hb2
    have bX2 := bX.below hb2
    have bQ2 := bQ1.below hb2
    have cR2 := bR2.cell
    have fR2 := bR2.frozen
    cases b1 with
    | true =>
      gi_wp2
      exact ⟨(keepsFrom_below _ hb2).trans ((KeepsOthers.setCell _ _ _).from _), ⟨⟨rfl, by unfold Hid; rw [HB.out]; simp⟩, bR2.set _⟩, (hB1.trans (hb2.mono hsW)).setCell (p := ⟨w.heap.size + 1, 0, none⟩) (by simp) _⟩
    | false =>
      obtain ⟨cx0, cx1, cx2, cx3⟩ := boxS4 bX2
      obtain ⟨cq0, cq1⟩ := boxS2 bQ2
      gi_wp2
      refine ⟨trivial, (CallsIn.inRound l (callsIn_wide.2 (P2.out _))).mono ?_⟩
      rintro e w3 ⟨rfl, hb3⟩
      clear cx0 cx1 cx2 cx3 cq0 cq1
      have hb23 : Below W.heap.size W w3 := hb2.trans (hb3.mono hb2.size)
      have bR3 := boxed_below bR2 hb3
      have bI3 := boxed_below bI2 hb3
      have bQ3 := bQ2.below hb3
      have cI3 := bI3.cell
      have fI3 := bI3.frozen
      have HB2 : Hid (hasB (ax, ay) (pre ++ [x]) = false) := by unfold Hid; rw [HB.out, hp.out]; rfl
      cases b2 with
      | true =>
        gi_wp2
        exact ⟨(keepsFrom_below _ hb23).trans ((KeepsOthers.setCell _ _ _).from _), (KpS.of_below hb23 hsW).trans (KpS.setCell _ (by omega) (by omega) _), ⟨⟨⟨HB2, Boxed.other bR3 (by omega) _⟩, by rw [HQ.out]; exact bI3.set _⟩, BoxS.other bQ3 (by omega) _⟩, (hB1.trans (hb23.mono hsW)).setCell (p := ⟨w.heap.size + 1 + 1, 0, none⟩) (by simp; omega) _⟩
      | false =>
        gi_wp2
        exact ⟨keepsFrom_below _ hb23, KpS.of_below hb23 hsW, ⟨⟨⟨HB2, bR3⟩, by rw [HQ.out]; exact bI3⟩, bQ3⟩, hB1.trans (hb23.mono hsW)⟩
  case done =>
    rintro D zs W hD hzs ⟨⟨⟨⟨hp, bR1⟩, bI1⟩, bQ1⟩, hB1⟩ hK
    obtain rfl : zs = ss := hzs.trans HS.out.symm
    have cR := bR1.cell
    have fR := bR1.frozen
    have cI := bI1.cell
    cases hpa : parB (ax, ay) zs with
    | true =>
      have HV : Hid (liesV (ax, ay) zs = 1) := by unfold Hid liesV; rw [hp.out, hpa]; rfl
      rw [hpa] at cI
      clear hpa
      gi_wp2
      have hK' := (KeepsOthers.setCell W ⟨w.heap.size + 1, 0, none⟩ (.int .i64 1)).same D _ hK rfl
      refine ⟨by simp, .inl ⟨_, _, rfl, run_takeDeferred hK', ?_⟩⟩
      have hc5 := cell_kept (bR1.set (.int .i64 1)).cell (grownBy_putObj' _ D (.deferred none)) (fun r e => by cases e; exact ⟨_, hK', rfl⟩)
      refine ⟨.int .i64 1, ?_, by rw [HV.out], (hB1.setCell (p := ⟨w.heap.size + 1, 0, none⟩) (by simp) _).trans (belowK_b (w := w) (Nat.le_refl _) _ D _ _ (by omega) hK' rfl rfl)⟩
      simp [results, Try.f47, go_sem, hc5]
    | false =>
      have HV : Hid (liesV (ax, ay) zs = 3) := by unfold Hid liesV; rw [hp.out, hpa]; rfl
      rw [hpa] at cI
      clear hpa
      gi_wp2
      have hK' := (KeepsOthers.setCell W ⟨w.heap.size + 1, 0, none⟩ (.int .i64 3)).same D _ hK rfl
      refine ⟨by simp, .inl ⟨_, _, rfl, run_takeDeferred hK', ?_⟩⟩
      have hc5 := cell_kept (bR1.set (.int .i64 3)).cell (grownBy_putObj' _ D (.deferred none)) (fun r e => by cases e; exact ⟨_, hK', rfl⟩)
      refine ⟨.int .i64 3, ?_, by rw [HV.out], (hB1.setCell (p := ⟨w.heap.size + 1, 0, none⟩) (by simp) _).trans (belowK_b (w := w) (Nat.le_refl _) _ D _ _ (by omega) hK' rfl rfl)⟩
      simp [results, Try.f47, go_sem, hc5]
  case stop =>
    rintro D cc pre W hD ⟨k, hk, rfl⟩ ⟨⟨⟨rfl, hb⟩, bR1⟩, hB1⟩ hK
    have HV : Hid (liesV (ax, ay) ss = 2) := by
      unfold Hid liesV
      rw [if_pos]
      have := hb.out
      unfold hasB at *
      obtain ⟨s, hs, ht⟩ := List.any_eq_true.1 this
      exact List.any_eq_true.2 ⟨s, by rw [HS.out]; exact sidesTo_sub2 hk hs, ht⟩
    gi_wp2
    refine ⟨by simp, .inl ⟨_, _, rfl, run_takeDeferred hK, ?_⟩⟩
    have hc5 := cell_kept bR1.cell (grownBy_putObj' _ D (.deferred none)) (fun r e => by cases e; exact ⟨_, hK, rfl⟩)
    refine ⟨.int .i64 2, ?_, by rw [HV.out], hB1.trans (belowK_b (w := w) (Nat.le_refl _) W D _ _ (by omega) hK rfl rfl)⟩
    simp [results, Try.f47, go_sem, hc5]
end Go.Proofs.Ytkfnngcphcfbjaa
