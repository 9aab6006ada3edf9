/- Texts of this proof, one behind the other: Check, Mom, Pts. Each says its own conditions. -/
import Derived.Test.YtmjcdggmofohcaaGreatMh01
import Derived.Test.YtmjcdggmofohcaaGreatMh03
import Derived.Test.YtmjcdggmofohcaaGreatMh04
import Derived.IntWalk
namespace Go.Proofs.YtmjcdggmofohcaaGreat
open Go.RowKit Go.Shelf
attribute [local go_sem] Oper.semAt_some

namespace Geo
/-- Two sides that have more in common than a corner, seen from the first. -/
def badB (s t : (Int × Int) × (Int × Int)) : Bool := passB s.1 s.2 t.1 || (partB s.1 s.2 t.1 t.2 && partB t.1 t.2 s.1 s.2)
end Geo

def worstB (ss : List Side) : Bool := ss.any fun s => ss.any fun t => Geo.badB s.1 t.1
def chkV (ss : List Side) : Int := if worstB ss then 20 else 0
theorem chkV_bad {ss : List Side} {s t : Side} (hs : s ∈ ss) (ht : t ∈ ss) (hb : Geo.badB s.1 t.1 = true) : chkV ss = 20 := by
  unfold chkV worstB
  rw [if_pos (List.any_eq_true.2 ⟨s, hs, List.any_eq_true.2 ⟨t, ht, hb⟩⟩)]
theorem chkV_good {ss : List Side} (h : ∀ s ∈ ss, ∀ t ∈ ss, Geo.badB s.1 t.1 = false) : chkV ss = 0 := by
  unfold chkV worstB
  rw [if_neg]
  intro hh
  obtain ⟨s, hs, h2⟩ := List.any_eq_true.1 hh
  obtain ⟨t, ht, h3⟩ := List.any_eq_true.1 h2
  rw [h s hs t ht] at h3
  cases h3
/-- What Check leaves. -/
def ChkPost (v : Int) (w : World) (e : Ending) (w' : World) : Prop := e = .returned (.int .i64 v) ∧ Below w.heap.size w w'

theorem sidesTo_sub {ps : List (Int × Int)} {h : ∀ p ∈ ps, Geo.sm p} {k n : Nat} (hk : k ≤ n) {s : Side} (hs : s ∈ sidesTo ps h k) : s ∈ sidesTo ps h n := by
  unfold sidesTo at *
  rw [List.mem_map] at *
  obtain ⟨i, hi, e⟩ := hs
  rw [List.mem_range] at hi
  exact ⟨i, List.mem_range.2 (by omega), e⟩

set_option maxRecDepth 100000 in
set_option maxHeartbeats 4000000 in
theorem check_in (n : Nat) (hn : 8 ≤ n) (A : Option Addr) (c : Nat) (ps : List (Int × Int)) (hps : ∀ p ∈ ps, Geo.sm p) (h3 : 3 ≤ ps.length) (h10 : ps.length ≤ 10) (hd : Geo.difB ps = true) (w : World) (hP : Prs w w.heap.size A ps) :
    CallsIn Fence.wide n Tryz.prog 25 #[.slice A ps.length c] w (ChkPost (chkV (sidesTo ps hps ps.length)) w) := by
  have h1 : 1 ≤ n := by omega
  obtain ⟨ss, hss⟩ : ∃ ss, ss = sidesTo ps hps ps.length := ⟨_, rfl⟩
  rw [← hss]
  have HS := Lib.hid hss
  clear hss
  have HP := Lib.hid hP
  have HD : Hid (∀ W, Below w.heap.size w W → Calls Tryz.prog 49 #[.slice A ps.length c] W fun e w' => e = .returned (.bool true) ∧ Below W.heap.size W w') := fun W hW => (differ_any A c ps W (by omega) (prs_keep hP hW)).mono (by rw [hd]; exact fun _ _ h => h)
  have hlen : ps.length ≤ 100 := by omega
  have HL := Lib.hid hlen
  clear hP hlen
  have g1 : decide ((ps.length : Int) < 3) = false := by simp; omega
  have g2 : decide (10 < (ps.length : Int)) = false := by simp; omega
  have g3 : decide (ps.length < 3) = false := by simp; omega
  have g4 : decide (10 < ps.length) = false := by simp; omega
  refine callsIn_of_wp_marks Tryz.func25 rfl trivial ?_ rfl
  simp only [Tryz.ntmps25, List.size_toArray, List.length_cons, List.length_nil, Nat.reduceAdd, Nat.reduceSub, Array.replicate_succ, Array.replicate_zero, List.push_toArray, List.append_toArray, List.nil_append, List.cons_append]
  gi_wp2
  have bP0 := (Boxed.new w 22 (.slice A ps.length c)).alloc (.cells #[.int .i64 0] 29)
  have bR0 := Boxed.new (w.alloc (.cells #[.slice A ps.length c] 22)) 29 (.int .i64 0)
  have hB0 : Below w.heap.size w ((w.alloc (.cells #[.slice A ps.length c] 22)).alloc (.cells #[.int .i64 0] 29)) := ((Below.refl _ w).alloc (Nat.le_refl _) _).alloc (by simp) _
  simp only [World.size_alloc] at bR0
  generalize hW : World.alloc _ _ = W00 at *
  have hs0 : W00.heap.size = w.heap.size + 2 := by rw [← hW]; simp
  clear hW
  refine ⟨trivial, (callsIn_wide.2 (HD.out _ hB0)).mono ?_⟩
  rintro e w1 ⟨rfl, hb1⟩
  have bP1 := boxed_below bP0 hb1
  have bR1 := boxed_below bR0 hb1
  have hB1 : Below w.heap.size w w1 := hB0.trans (hb1.mono hB0.size)
  have hs1 := hb1.size
  have cP1 := bP1.cell
  gi_wp2_with (refine ⟨trivial, ?_⟩; gi_at_call 50; refine (sides_in Fence.wide (n - 1) trivial rfl _ _ _ _).mono ?_; rintro e w' ⟨rfl, rfl⟩)
  have bP := bP1.alloc (.cells #[.slice A ps.length c] 22)
  have bR := bR1.alloc (.cells #[.slice A ps.length c] 22)
  have bA := Boxed.new w1 22 (.slice A ps.length c)
  have hBW : Below w.heap.size w (w1.alloc (.cells #[.slice A ps.length c] 22)) := hB1.alloc hB1.size _
  have hsz : (w1.alloc (.cells #[.slice A ps.length c] 22)).heap.size = w1.heap.size + 1 := by simp
  generalize hW : World.alloc _ _ = W0 at *
  clear hW bP0 bR0 bP1 bR1 cP1
  have hP1 : Prs W0 w.heap.size A ps := HP.out.keep hBW
  have h1n : 1 ≤ n - 1 - 1 := by omega
  refine wpIn_rangeFunc_ownH rfl h1 (gf := 75) (lb := #[.pointer (some ⟨w1.heap.size, 0, none⟩)]) rfl trivial (enters_of Tryz.func75 (by kernel_rfl) rfl)
    (sides_stops Fence.wide (n - 1) trivial rfl (by omega) w1.heap.size w.heap.size A c ps hps HL.out W0 bA (by omega) hP1) KpS.trans (fun W l o o' hl _ _ _ => KpS.putObj W (by omega) (by omega) o') (Below.refl _ _) (fun _ => rfl)
    (fun pre W => (((∀ s ∈ pre, ∀ t ∈ ss, Geo.badB s.1 t.1 = false) ∧ Boxed W (w.heap.size + 1) 29 (.int .i64 0)) ∧ Boxed W w.heap.size 22 (.slice A ps.length c)) ∧ Below w.heap.size w W)
    (fun cc pre W => ((cc = .ret ∧ ∃ s ∈ pre, ∃ t ∈ ss, Geo.badB s.1 t.1 = true) ∧ Boxed W (w.heap.size + 1) 29 (.int .i64 20)) ∧ Below w.heap.size w W)
    (OwnFrom.and (OwnFrom.and (OwnFrom.and (ownFrom_pure _ _) (Own.from (boxed_own _ _ _) _)) (Own.from (boxed_own _ _ _) _)) (ownFrom_below (Nat.le_refl _) (by omega)))
    (fun cc => OwnFrom.and (OwnFrom.and (ownFrom_pure _ _) (Own.from (boxed_own _ _ _) _)) (ownFrom_below (Nat.le_refl _) (by omega)))
    ⟨⟨⟨by simp, bR⟩, bP⟩, hBW⟩
    (fun x a' W => ∃ Bx, w.heap.size + 1 < Bx ∧ BoxS W Bx 105 #[.int .i64 x.1.1.1, .int .i64 x.1.1.2, .int .i64 x.1.2.1, .int .i64 x.1.2.2] ∧ a' = { tmps := #[.slice A ps.length c, .pointer (some ⟨w.heap.size, 0, none⟩), .pointer (some ⟨w.heap.size + 1, 0, none⟩), .pointer (some ⟨Bx, 0, none⟩), undef, .slice A ps.length c, .int .i64 ps.length, .bool false, .bool false, .slice A ps.length c, .int .i64 ps.length, .bool false, .bool false, .bool false, .slice A ps.length c, .bool true, .bool false, .bool false, .slice A ps.length c, .func (.func 75) #[] #[.pointer (some ⟨w1.heap.size, 0, none⟩)], encSide x, undef, undef, undef, undef, undef, undef, undef, undef, undef, undef, undef, undef, undef, undef, undef, undef, undef], defers := [] })
    (fun x a' _ X Y row hs hg hr => by obtain ⟨Bx, e1, e2, e3⟩ := hs; exact ⟨Bx, e1, boxS_own Bx 105 (fun (_ : Unit) => #[.int .i64 x.1.1.1, .int .i64 x.1.1.2, .int .i64 x.1.2.1, .int .i64 x.1.2.2]) () X Y row e2 hg (fun r e => (hr r e).2), e3⟩)
    ?assign ?body ?done ?stop
  case assign =>
    rintro l pre x W K ⟨⟨⟨hp, bR1⟩, bP1⟩, hB1⟩ hK
    have HQ := Lib.hid hp
    clear hp
    unfold encSide
    gi_wp2
    exact hK _ _ ((KeepsOthers.alloc _ _).from _) (KpS.alloc W hB1.size _) ⟨⟨⟨HQ.out, bR1.alloc _⟩, bP1.alloc _⟩, hB1.alloc hB1.size _⟩ ⟨W.heap.size, bR1.lt, BoxS.new W _ _, rfl⟩
  case body =>
    rintro l pre x a' W hl ⟨r, hr⟩ ⟨⟨⟨hp, bR1⟩, bP1⟩, hB1⟩ ⟨Bx, hBx, bX, rfl⟩ hlt
    have HQ := Lib.hid hp
    clear hp
    have cP := bP1.cell
    gi_wp2_with (refine ⟨trivial, ?_⟩; gi_at_call 50; refine (CallsIn.inRound l (sides_in Fence.wide (n - 1 - 1 - 1) trivial rfl _ _ _ _)).mono ?_; rintro e w' ⟨rfl, rfl⟩)
    have hsW := hB1.size
    have bN := Boxed.new W 22 (.slice A ps.length c)
    have hr' : (W.alloc (.cells #[.slice A ps.length c] 22)).heap[l]? = some (.loop r) := (Below.heap_alloc W _ l (Array.getElem?_eq_some_iff.1 hr).1).trans hr
    refine wpIn_rangeFunc_ownN (l₀ := l) (r₀ := r) rfl hr' h1n (gf := 75) (lb := #[.pointer (some ⟨W.heap.size, 0, none⟩)]) rfl trivial (enters_of Tryz.func75 (by kernel_rfl) rfl)
      ((sides_stops Fence.wide (n - 1 - 1 - 1) trivial rfl (by omega) W.heap.size w.heap.size A c ps hps HL.out _ bN (by simp; omega) (HP.out.keep (hB1.alloc hsW _))).inRound l) KpS.trans (fun V l o o' hl _ _ _ => KpS.putObj V (by simp at hl; omega) (by simp at hl; omega) o') (Below.refl _ _) (fun _ => rfl)
      (fun pre' W' => ((((∀ t ∈ pre', Geo.badB x.1 t.1 = false) ∧ Boxed W' (w.heap.size + 1) 29 (.int .i64 0)) ∧ BoxS W' Bx 105 #[.int .i64 x.1.1.1, .int .i64 x.1.1.2, .int .i64 x.1.2.1, .int .i64 x.1.2.2]) ∧ Boxed W' w.heap.size 22 (.slice A ps.length c)) ∧ Below W.heap.size W W')
      (fun cc pre' W' => ((cc = .ret ∧ ∃ t ∈ pre', Geo.badB x.1 t.1 = true) ∧ Boxed W' (w.heap.size + 1) 29 (.int .i64 20)) ∧ (Below w.heap.size w W' ∧ KeepsFrom W0.heap.size W W'))
      (OwnFrom.and (OwnFrom.and (OwnFrom.and (OwnFrom.and (ownFrom_pure _ _) (Own.from (boxed_own _ _ _) _)) (Own.from (boxS_own _ _ _) _)) (Own.from (boxed_own _ _ _) _)) (ownFrom_below (Nat.le_refl _) (by simp)))
      (fun cc => OwnFrom.and (OwnFrom.and (ownFrom_pure _ _) (Own.from (boxed_own _ _ _) _)) (OwnFrom.and (ownFrom_below (Nat.le_refl _) (by simp; omega)) (ownFrom_keepsFrom (by simp))))
      ⟨⟨⟨⟨by simp, bR1.alloc _⟩, bX.alloc _⟩, bP1.alloc _⟩, (Below.refl _ W).alloc (Nat.le_refl _) _⟩
      (fun y a'' W' => ∃ By, BoxS W' By 105 #[.int .i64 y.1.1.1, .int .i64 y.1.1.2, .int .i64 y.1.2.1, .int .i64 y.1.2.2] ∧ a'' = { tmps := #[.slice A ps.length c, .pointer (some ⟨w.heap.size, 0, none⟩), .pointer (some ⟨w.heap.size + 1, 0, none⟩), .pointer (some ⟨Bx, 0, none⟩), .pointer (some ⟨By, 0, none⟩), .slice A ps.length c, .int .i64 ps.length, .bool false, .bool false, .slice A ps.length c, .int .i64 ps.length, .bool false, .bool false, .bool false, .slice A ps.length c, .bool true, .bool false, .bool false, .slice A ps.length c, .func (.func 75) #[] #[.pointer (some ⟨w1.heap.size, 0, none⟩)], encSide x, .slice A ps.length c, .func (.func 75) #[] #[.pointer (some ⟨W.heap.size, 0, none⟩)], encSide y, undef, undef, undef, undef, undef, undef, undef, undef, undef, undef, undef, undef, undef, undef], defers := [] })
      (fun y a'' _ X Y row hs hg hr => by obtain ⟨By, e2, e3⟩ := hs; exact ⟨By, boxS_own By 105 (fun (_ : Unit) => #[.int .i64 y.1.1.1, .int .i64 y.1.1.2, .int .i64 y.1.2.1, .int .i64 y.1.2.2]) () X Y row e2 hg (fun r e => (hr r e).2), e3⟩)
      ?assign2 ?body2 ?done2 ?stop2
    case assign2 =>
      rintro l2 pre' y W' K ⟨⟨⟨⟨hq, bR2⟩, bX2⟩, bP2⟩, hWW⟩ hK
      have HR := Lib.hid hq
      clear hq
      unfold encSide
      gi_wp2
      exact hK _ _ ((KeepsOthers.alloc _ _).from _) (KpS.alloc W' (by have := hWW.size; omega) _) ⟨⟨⟨⟨HR.out, bR2.alloc _⟩, bX2.alloc _⟩, bP2.alloc _⟩, hWW.alloc hWW.size _⟩ ⟨W'.heap.size, BoxS.new W' _ _, rfl⟩
    case body2 =>
      rintro l2 pre' y a'' W' hl2 _ ⟨⟨⟨⟨hq, bR2⟩, bX2⟩, bP2⟩, hWW⟩ ⟨By, bY, rfl⟩ hlt2
      have HR := Lib.hid hq
      clear hq
      have P1 : Hid (∀ V, Calls Tryz.prog 51 #[.agg #[.int .i64 x.1.1.1, .int .i64 x.1.1.2, .int .i64 x.1.2.1, .int .i64 x.1.2.2], .agg #[.int .i64 y.1.1.1, .int .i64 y.1.1.2]] V fun e w' => e = .returned (.bool (Geo.passB x.1.1 x.1.2 y.1.1)) ∧ Below V.heap.size V w') := fun V => passes_any _ _ _ _ _ _ V x.2.1 x.2.2 y.2.1
      have P2 : Hid (∀ V, Calls Tryz.prog 52 #[.agg #[.int .i64 x.1.1.1, .int .i64 x.1.1.2, .int .i64 x.1.2.1, .int .i64 x.1.2.2], .agg #[.int .i64 y.1.1.1, .int .i64 y.1.1.2, .int .i64 y.1.2.1, .int .i64 y.1.2.2]] V fun e w' => e = .returned (.bool (Geo.partB x.1.1 x.1.2 y.1.1 y.1.2)) ∧ Below V.heap.size V w') := fun V => parts_any _ _ _ _ _ _ _ _ V x.2.1 x.2.2 y.2.1 y.2.2
      have P3 : Hid (∀ V, Calls Tryz.prog 52 #[.agg #[.int .i64 y.1.1.1, .int .i64 y.1.1.2, .int .i64 y.1.2.1, .int .i64 y.1.2.2], .agg #[.int .i64 x.1.1.1, .int .i64 x.1.1.2, .int .i64 x.1.2.1, .int .i64 x.1.2.2]] V fun e w' => e = .returned (.bool (Geo.partB y.1.1 y.1.2 x.1.1 x.1.2)) ∧ Below V.heap.size V w') := fun V => parts_any _ _ _ _ _ _ _ _ V y.2.1 y.2.2 x.2.1 x.2.2
      have HB : Hid (Geo.badB x.1 y.1 = (Geo.passB x.1.1 x.1.2 y.1.1 || (Geo.partB x.1.1 x.1.2 y.1.1 y.1.2 && Geo.partB y.1.1 y.1.2 x.1.1 x.1.2))) := rfl
      generalize Geo.passB x.1.1 x.1.2 y.1.1 = b1 at *
      generalize Geo.partB x.1.1 x.1.2 y.1.1 y.1.2 = b2 at *
      generalize Geo.partB y.1.1 y.1.2 x.1.1 x.1.2 = b3 at *
      have hn2 : 1 ≤ n - 1 - 1 - 1 - 1 := by omega
      have hsW' := hWW.size
      obtain ⟨cx0, cx1, cx2, cx3⟩ := boxS4 bX2
      obtain ⟨cy0, cy1, cy2, cy3⟩ := boxS4 bY
      gi_wp2
      refine ⟨trivial, (CallsIn.inRound l2 (CallsIn.inRound l (callsIn_wide.2 (P1.out _)))).mono ?_⟩
      rintro e w2 ⟨rfl, hb2⟩
      clear cx0 cx1 cx2 cx3 cy0 cy1 cy2 cy3
      have hW2 := hWW.trans (hb2.mono hsW')
      have bR3 := boxed_below bR2 hb2
      have bX3 := bX2.below hb2
      have bY3 := bY.below hb2
      have bP3 := boxed_below bP2 hb2
      have cR3 := bR3.cell
      have fR3 := bR3.frozen
      cases b1 with
      | true =>
        gi_wp2
        refine ⟨trivial, ?_⟩
        gi_wp2
        rotate_left 2
        · refine ⟨trivial, ?_⟩
          gi_wp2
          exact ⟨(keepsFrom_below _ hb2).trans ((KeepsOthers.setCell _ _ _).from _), ⟨⟨rfl, y, List.mem_append.2 (.inr (by simp)), by rw [HB.out]; rfl⟩, bR3.set _⟩, (hB1.trans (hW2.mono hsW)).setCell (p := ⟨w.heap.size + 1, 0, none⟩) (by simp) _, (keepsFrom_below _ hW2).trans ((KeepsOthers.setCell _ _ _).from _)⟩
        all_goals (rename_i hu _; cases hu)
      | false =>
        obtain ⟨cx0, cx1, cx2, cx3⟩ := boxS4 bX3
        obtain ⟨cy0, cy1, cy2, cy3⟩ := boxS4 bY3
        gi_wp2
        refine ⟨trivial, (CallsIn.inRound l2 (CallsIn.inRound l (callsIn_wide.2 (P2.out _)))).mono ?_⟩
        rintro e w3 ⟨rfl, hb3⟩
        clear cx0 cx1 cx2 cx3 cy0 cy1 cy2 cy3
        have hW3 := hW2.trans (hb3.mono hW2.size)
        have bR4 := boxed_below bR3 hb3
        have bX4 := bX3.below hb3
        have bY4 := bY3.below hb3
        have bP4 := boxed_below bP3 hb3
        have cR4 := bR4.cell
        have fR4 := bR4.frozen
        cases b2 with
        | false =>
          gi_wp2
          refine ⟨trivial, ?_⟩
          gi_wp2
          exact ⟨keepsFrom_below _ (hb2.trans (hb3.mono hb2.size)), KpS.of_below (hb2.trans (hb3.mono hb2.size)) (by omega), ⟨⟨⟨fun t ht => (List.mem_append.1 ht).elim (HR.out t) (fun e => by simp at e; subst e; rw [HB.out]; rfl), bR4⟩, bX4⟩, bP4⟩, hW3⟩
        | true =>
          obtain ⟨cx0, cx1, cx2, cx3⟩ := boxS4 bX4
          obtain ⟨cy0, cy1, cy2, cy3⟩ := boxS4 bY4
          gi_wp2
          refine ⟨trivial, (CallsIn.inRound l2 (CallsIn.inRound l (callsIn_wide.2 (P3.out _)))).mono ?_⟩
          rintro e w4 ⟨rfl, hb4⟩
          clear cx0 cx1 cx2 cx3 cy0 cy1 cy2 cy3
          have hW4 := hW3.trans (hb4.mono hW3.size)
          have bR5 := boxed_below bR4 hb4
          have bX5 := bX4.below hb4
          have bP5 := boxed_below bP4 hb4
          have cR5 := bR5.cell
          have fR5 := bR5.frozen
          cases b3 with
          | false =>
            gi_wp2
            exact ⟨keepsFrom_below _ ((hb2.trans (hb3.mono hb2.size)).trans (hb4.mono (hb2.trans (hb3.mono hb2.size)).size)), KpS.of_below ((hb2.trans (hb3.mono hb2.size)).trans (hb4.mono (hb2.trans (hb3.mono hb2.size)).size)) (by omega), ⟨⟨⟨fun t ht => (List.mem_append.1 ht).elim (HR.out t) (fun e => by simp at e; subst e; rw [HB.out]; rfl), bR5⟩, bX5⟩, bP5⟩, hW4⟩
          | true =>
            gi_wp2
            exact ⟨(keepsFrom_below _ ((hb2.trans (hb3.mono hb2.size)).trans (hb4.mono (hb2.trans (hb3.mono hb2.size)).size))).trans ((KeepsOthers.setCell _ _ _).from _), ⟨⟨rfl, y, List.mem_append.2 (.inr (by simp)), by rw [HB.out]; rfl⟩, bR5.set _⟩, (hB1.trans (hW4.mono hsW)).setCell (p := ⟨w.heap.size + 1, 0, none⟩) (by simp) _, (keepsFrom_below _ hW4).trans ((KeepsOthers.setCell _ _ _).from _)⟩
    case done2 =>
      rintro ys' W' hys ⟨⟨⟨⟨hq, bR2⟩, bX2⟩, bP2⟩, hWW⟩
      obtain rfl : ys' = ss := hys.trans HS.out.symm
      have HR := Lib.hid hq
      clear hq
      gi_wp2
      exact ⟨keepsFrom_below _ hWW, KpS.of_below hWW hsW, ⟨⟨fun z hz => (List.mem_append.1 hz).elim (HQ.out z) (fun e t ht => by simp at e; subst e; exact HR.out t ht), bR2⟩, bP2⟩, hB1.trans (hWW.mono hsW)⟩
    case stop2 =>
      rintro cc pre' W' ⟨k, hk, rfl⟩ ⟨⟨⟨rfl, t, ht, hbad⟩, bR2⟩, hBw, hKF⟩
      gi_wp2
      refine ⟨hKF, ⟨⟨rfl, x, List.mem_append.2 (.inr (by simp)), t, by rw [HS.out]; exact sidesTo_sub hk ht, hbad⟩, bR2⟩, hBw⟩
  case done =>
    rintro D zs W hD hzs ⟨⟨⟨hp, bR1⟩, bP1⟩, hB1⟩ hK
    obtain rfl : zs = ss := hzs.trans HS.out.symm
    have HQ := Lib.hid hp
    clear hp
    have cR := bR1.cell
    have fR := bR1.frozen
    gi_wp2
    have hK' := (KeepsOthers.setCell W ⟨w.heap.size + 1, 0, none⟩ (.int .i64 0)).same D _ hK rfl
    refine ⟨by simp, .inl ⟨_, _, rfl, run_takeDeferred hK', ?_⟩⟩
    have hc5 := cell_kept (bR1.set (.int .i64 0)).cell (grownBy_putObj' _ D (.deferred none)) (fun r e => by cases e; exact ⟨_, hK', rfl⟩)
    refine ⟨.int .i64 0, ?_, by rw [chkV_good HQ.out], (hB1.setCell (p := ⟨w.heap.size + 1, 0, none⟩) (by simp) _).trans (belowK_b (w := w) (Nat.le_refl _) _ D _ _ (by omega) hK' rfl rfl)⟩
    simp [results, Tryz.f25, go_sem, hc5]
  case stop =>
    rintro D cc pre W hD ⟨k, hk, rfl⟩ ⟨⟨⟨rfl, s, hs, t, ht, hb⟩, bR1⟩, hB1⟩ hK
    gi_wp2
    refine ⟨by simp, .inl ⟨_, _, rfl, run_takeDeferred hK, ?_⟩⟩
    have hc5 := cell_kept bR1.cell (grownBy_putObj' _ D (.deferred none)) (fun r e => by cases e; exact ⟨_, hK, rfl⟩)
    refine ⟨.int .i64 20, ?_, by rw [chkV_bad (by rw [HS.out]; exact sidesTo_sub hk hs) ht hb], hB1.trans (belowK_b (w := w) (Nat.le_refl _) W D _ _ (by omega) hK rfl rfl)⟩
    simp [results, Tryz.f25, go_sem, hc5]
end Go.Proofs.YtmjcdggmofohcaaGreat

namespace Go.Proofs.YtmjcdggmofohcaaGreat
open Go.RowKit Go.Shelf

namespace Geo
abbrev Pt := Int × Int
/-- The sides of a polygon. -/
def sidesL (ps : List Pt) : List (Pt × Pt) := (List.range ps.length).map fun k => (ps[k]?.getD (0, 0), ps[(k + 1) % ps.length]?.getD (0, 0))
/-- A polygon is valid, as the program has it. -/
def validB (ps : List Pt) : Bool := (decide (3 ≤ ps.length) && decide (ps.length ≤ 10)) && (difB ps && !((sidesL ps).any fun s => (sidesL ps).any fun t => badB s t))
def errV (ps : List Pt) : Int := if validB ps then 0 else 20
theorem validB_parts (ps : List Pt) : validB ps = true ↔ (3 ≤ ps.length ∧ ps.length ≤ 10) ∧ difP ps ∧ ((sidesL ps).any fun s => (sidesL ps).any fun t => badB s t) = false := by
  unfold validB
  rw [Bool.and_eq_true, Bool.and_eq_true, Bool.and_eq_true, decide_eq_true_iff, decide_eq_true_iff]
  refine and_congr Iff.rfl (and_congr (by unfold difB; simp) ?_)
  simp only [Bool.not_eq_true']
theorem difB_sm {ps : List Pt} (h : difB ps = true) : ∀ p ∈ ps, sm p := by
  unfold difB difP at h
  have := of_decide_eq_true h
  exact fun p hp => pt_sm (this.1 p hp)
end Geo

theorem sidesTo_val (ps : List (Int × Int)) (h : ∀ p ∈ ps, Geo.sm p) : (sidesTo ps h ps.length).map (fun s => s.1) = Geo.sidesL ps := by
  unfold sidesTo Geo.sidesL
  rw [List.map_map]
  rfl
theorem worstB_val (ps : List (Int × Int)) (h : ∀ p ∈ ps, Geo.sm p) : worstB (sidesTo ps h ps.length) = (Geo.sidesL ps).any fun s => (Geo.sidesL ps).any fun t => Geo.badB s t := by
  unfold worstB
  rw [← sidesTo_val ps h, List.any_map]
  congr 1
  funext s
  rw [Function.comp_apply, List.any_map]
  rfl
theorem chkV_errV {ps : List (Int × Int)} (h : ∀ p ∈ ps, Geo.sm p) (h3 : 3 ≤ ps.length) (h10 : ps.length ≤ 10) (hd : Geo.difB ps = true) : chkV (sidesTo ps h ps.length) = Geo.errV ps := by
  unfold chkV Geo.errV Geo.validB
  rw [worstB_val, hd]
  cases (Geo.sidesL ps).any fun s => (Geo.sidesL ps).any fun t => Geo.badB s t <;> simp [h3, h10]
theorem errV_short {ps : List (Int × Int)} (h : ¬ (3 ≤ ps.length ∧ ps.length ≤ 10)) : Geo.errV ps = 20 := by
  unfold Geo.errV Geo.validB
  rw [if_neg]
  simp
  omega
theorem errV_same {ps : List (Int × Int)} (h : Geo.difB ps = false) : Geo.errV ps = 20 := by
  unfold Geo.errV Geo.validB
  rw [if_neg]
  simp [h]

set_option maxRecDepth 100000 in
set_option maxHeartbeats 2000000 in
theorem check_short (A : Option Addr) (c : Nat) (ps : List (Int × Int)) (hs : ps.length < 3) (w : World) :
    Calls Tryz.prog 25 #[.slice A ps.length c] w (ChkPost 20 w) := by
  have g1 : decide ((ps.length : Int) < 3) = true := by simp; omega
  have g3 : decide (ps.length < 3) = true := by simp; omega
  go_enter Tryz.func25, Tryz.ntmps25
  go_wp2_with fail
  go_returns
  exact ⟨rfl, by (repeat' (first | (with_reducible exact Below.refl _ _) | (with_reducible assumption) | (with_reducible refine Below.alloc ?_ ?_ _) | (with_reducible refine below_drewN ?_ _) | (with_reducible refine Below.drew ?_) | (with_reducible refine Below.setCell ?_ ?_ _) | go_size))⟩

set_option maxRecDepth 100000 in
set_option maxHeartbeats 2000000 in
theorem check_long (A : Option Addr) (c : Nat) (ps : List (Int × Int)) (hs : 10 < ps.length) (hl : ps.length ≤ 100) (w : World) :
    Calls Tryz.prog 25 #[.slice A ps.length c] w (ChkPost 20 w) := by
  have g1 : decide ((ps.length : Int) < 3) = false := by simp; omega
  have g3 : decide (ps.length < 3) = false := by simp; omega
  have g2 : decide (10 < (ps.length : Int)) = true := by simp; omega
  have g4 : decide (10 < ps.length) = true := by simp; omega
  go_enter Tryz.func25, Tryz.ntmps25
  go_wp2_with fail
  go_returns
  exact ⟨rfl, by (repeat' (first | (with_reducible exact Below.refl _ _) | (with_reducible assumption) | (with_reducible refine Below.alloc ?_ ?_ _) | (with_reducible refine below_drewN ?_ _) | (with_reducible refine Below.drew ?_) | (with_reducible refine Below.setCell ?_ ?_ _) | go_size))⟩

set_option maxRecDepth 100000 in
set_option maxHeartbeats 2000000 in
theorem check_same (A : Option Addr) (c : Nat) (ps : List (Int × Int)) (h3 : 3 ≤ ps.length) (h10 : ps.length ≤ 10) (hd : Geo.difB ps = false) (w : World) (hP : Prs w w.heap.size A ps) :
    Calls Tryz.prog 25 #[.slice A ps.length c] w (ChkPost 20 w) := by
  have HD : Hid (∀ W, Below w.heap.size w W → Calls Tryz.prog 49 #[.slice A ps.length c] W fun e w' => e = .returned (.bool false) ∧ Below W.heap.size W w') := fun W hW => (differ_any A c ps W (by omega) (prs_keep hP hW)).mono (by rw [hd]; exact fun _ _ h => h)
  clear hP hd
  have g1 : decide ((ps.length : Int) < 3) = false := by simp; omega
  have g2 : decide (10 < (ps.length : Int)) = false := by simp; omega
  have g3 : decide (ps.length < 3) = false := by simp; omega
  have g4 : decide (10 < ps.length) = false := by simp; omega
  go_enter Tryz.func25, Tryz.ntmps25
  go_wp2_with fail
  refine (HD.out _ (by (repeat' (first | (with_reducible exact Below.refl _ _) | (with_reducible assumption) | (with_reducible refine Below.alloc ?_ ?_ _) | (with_reducible refine below_drewN ?_ _) | (with_reducible refine Below.drew ?_) | (with_reducible refine Below.setCell ?_ ?_ _) | go_size)))).mono ?_
  rintro e w1 ⟨rfl, hb1⟩
  have hB1 : Below w.heap.size w w1 := Below.trans (by (repeat' (first | (with_reducible exact Below.refl _ _) | (with_reducible assumption) | (with_reducible refine Below.alloc ?_ ?_ _) | (with_reducible refine below_drewN ?_ _) | (with_reducible refine Below.drew ?_) | (with_reducible refine Below.setCell ?_ ?_ _) | go_size))) (hb1.mono (by first | omega | (simp; done) | (simp; omega))); have hz1 := hb1.size; try simp at hz1
  have hx1 : w1.frozen? ⟨w.heap.size + 1, 0, none⟩ = false := by rw [(hb1.frozen (by first | omega | (simp; done) | (simp; omega)))]; simp
  have hx2 : w1.cell? ⟨w.heap.size + 1, 0, none⟩ = some (.int .i64 0) := by rw [(hb1.cell (by first | omega | (simp; done) | (simp; omega)))]; (repeat (rw [World.cell?_alloc_lt _ _ _ (by first | omega | (simp; done) | (simp; omega))])); go_cell
  go_wp2_with fail
  have hx3 : (w1.setCell ⟨w.heap.size + 1, 0, none⟩ (.int .i64 20)).cell? ⟨w.heap.size + 1, 0, none⟩ = some (.int .i64 20) := cs_same hx2
  exact bodyPost_ret (v := .int .i64 20) (by simp [results, Tryz.results25, go_sem, hx3]) rfl ⟨rfl, by (repeat' (first | (with_reducible exact Below.refl _ _) | (with_reducible assumption) | (with_reducible refine Below.alloc ?_ ?_ _) | (with_reducible refine below_drewN ?_ _) | (with_reducible refine Below.drew ?_) | (with_reducible refine Below.setCell ?_ ?_ _) | go_size))⟩

/-- Check, of any list of points that is not too long to be walked. -/
theorem Check_any (A : Option Addr) (c : Nat) (ps : List (Int × Int)) (hl : ps.length ≤ 100) (w : World) (hP : Prs w w.heap.size A ps) :
    Calls Tryz.prog 25 #[.slice A ps.length c] w (ChkPost (Geo.errV ps) w) := by
  by_cases h3 : 3 ≤ ps.length
  · by_cases h10 : ps.length ≤ 10
    · cases hd : Geo.difB ps with
      | false => rw [errV_same hd]; exact check_same A c ps h3 h10 hd w hP
      | true =>
        have hsm := Geo.difB_sm hd
        have := check_in 9 (by omega) A c ps hsm h3 h10 hd w hP
        rw [chkV_errV hsm h3 h10 hd] at this
        exact (callsIn_wide (n := 9)).1 this
    · rw [errV_short (by omega)]; exact check_long A c ps (by omega) hl w
  · rw [errV_short (by omega)]; exact check_short A c ps (by omega) w
end Go.Proofs.YtmjcdggmofohcaaGreat
namespace Go.Proofs.YtmjcdggmofohcaaGreat
open Go.RowKit

namespace Geo
def fanV (s : (Int × Int) × (Int × Int)) : Int := turn s.1 s.2 (0, 0)
def fxV (s : (Int × Int) × (Int × Int)) : Int := fanV s * (s.1.1 + s.2.1)
def fyV (s : (Int × Int) × (Int × Int)) : Int := fanV s * (s.1.2 + s.2.2)
def xxV (s : (Int × Int) × (Int × Int)) : Int := fanV s * (s.1.1 * s.1.1 + s.1.1 * s.2.1 + s.2.1 * s.2.1)
def yyV (s : (Int × Int) × (Int × Int)) : Int := fanV s * (s.1.2 * s.1.2 + s.1.2 * s.2.2 + s.2.2 * s.2.2)
def xyV (s : (Int × Int) × (Int × Int)) : Int := fanV s * (2 * s.1.1 * s.1.2 + s.1.1 * s.2.2 + s.2.1 * s.1.2 + 2 * s.2.1 * s.2.2)
theorem fan_bd {s : (Int × Int) × (Int × Int)} (h1 : sm s.1) (h2 : sm s.2) : -8000000 ≤ fanV s ∧ fanV s ≤ 8000000 := (turn_bd h1 h2 (by unfold sm; omega)).2.2
theorem sq_bd {a b : Int} (h1 : -1000 ≤ a ∧ a ≤ 1000) (h2 : -1000 ≤ b ∧ b ≤ 1000) : -1000000 ≤ a * b ∧ a * b ≤ 1000000 := mul_bd (x := 1000) (y := 1000) h1.1 h1.2 h2.1 h2.2
theorem times_bd {t m M : Int} (h1 : -8000000 ≤ t ∧ t ≤ 8000000) (h2 : -M ≤ m ∧ m ≤ M) : -(8000000 * M) ≤ t * m ∧ t * m ≤ 8000000 * M := mul_bd (x := 8000000) (y := M) h1.1 h1.2 h2.1 h2.2
end Geo

theorem mom_keep {w0 W w' : World} {g : Nat} {a b c d : Int}
    (hS : Below w0.heap.size w0 W ∧ (W.cell? ⟨g, 0, none⟩ = some (.int .i64 a) ∧ W.cell? ⟨g, 1, none⟩ = some (.int .i64 b) ∧ W.cell? ⟨g, 2, none⟩ = some (.int .i64 c) ∧ W.cell? ⟨g, 3, none⟩ = some (.int .i64 d)))
    (hg : g < w0.heap.size) (hb : Below W.heap.size W w') :
    Below w0.heap.size w0 w' ∧ (w'.cell? ⟨g, 0, none⟩ = some (.int .i64 a) ∧ w'.cell? ⟨g, 1, none⟩ = some (.int .i64 b) ∧ w'.cell? ⟨g, 2, none⟩ = some (.int .i64 c) ∧ w'.cell? ⟨g, 3, none⟩ = some (.int .i64 d)) := by
  obtain ⟨q, h0, h1, h2, h3⟩ := hS
  have hz := q.size
  have c0 : g < W.heap.size := by omega
  exact ⟨q.trans (hb.mono hz), (hb.cell c0).trans h0, (hb.cell c0).trans h1, (hb.cell c0).trans h2, (hb.cell c0).trans h3⟩
theorem mom_keep3 {w0 W w' : World} {g p r : Nat} {a b c d e f i j : Value}
    (hS : Below w0.heap.size w0 W ∧ (W.cell? ⟨g, 0, none⟩ = some a ∧ W.cell? ⟨g, 1, none⟩ = some b ∧ W.cell? ⟨g, 2, none⟩ = some c ∧ W.cell? ⟨g, 3, none⟩ = some d) ∧ (W.cell? ⟨p, 0, none⟩ = some e ∧ W.cell? ⟨p, 1, none⟩ = some f) ∧ (W.cell? ⟨r, 0, none⟩ = some i ∧ W.cell? ⟨r, 1, none⟩ = some j))
    (hg : g < w0.heap.size) (hp : p < w0.heap.size) (hr : r < w0.heap.size) (hb : Below W.heap.size W w') :
    Below w0.heap.size w0 w' ∧ (w'.cell? ⟨g, 0, none⟩ = some a ∧ w'.cell? ⟨g, 1, none⟩ = some b ∧ w'.cell? ⟨g, 2, none⟩ = some c ∧ w'.cell? ⟨g, 3, none⟩ = some d) ∧ (w'.cell? ⟨p, 0, none⟩ = some e ∧ w'.cell? ⟨p, 1, none⟩ = some f) ∧ (w'.cell? ⟨r, 0, none⟩ = some i ∧ w'.cell? ⟨r, 1, none⟩ = some j) := by
  obtain ⟨q, ⟨h0, h1, h2, h3⟩, ⟨h4, h5⟩, h6, h7⟩ := hS
  have hz := q.size
  have c0 : g < W.heap.size := by omega
  have c1 : p < W.heap.size := by omega
  have c2 : r < W.heap.size := by omega
  exact ⟨q.trans (hb.mono hz), ⟨(hb.cell c0).trans h0, (hb.cell c0).trans h1, (hb.cell c0).trans h2, (hb.cell c0).trans h3⟩, ⟨(hb.cell c1).trans h4, (hb.cell c1).trans h5⟩, (hb.cell c2).trans h6, (hb.cell c2).trans h7⟩
theorem below_keep4 {W w1 w2 : World} {B : Nat} {a b c d : Value} (h : Below W.heap.size W w1 ∧ BoxS w1 B 105 #[a, b, c, d]) (hb : Below w1.heap.size w1 w2) : Below W.heap.size W w2 ∧ BoxS w2 B 105 #[a, b, c, d] :=
  ⟨h.1.trans (hb.mono h.1.size), h.2.below hb⟩
theorem sumOf_mid {B : Int} {v : Int} (h : -B ≤ v ∧ v ≤ B) (hB : B ≤ 1000000000000000) : -1000000000000000 ≤ v ∧ v ≤ 1000000000000000 := by omega

end Go.Proofs.YtmjcdggmofohcaaGreat

namespace Go.Proofs.YtmjcdggmofohcaaGreat
open Go.RowKit Go.Shelf

namespace Geo
/-- The sum of what each side gives. -/
def tot (f : Pt × Pt → Int) (ps : List Pt) : Int := ((sidesL ps).map f).sum
end Geo
theorem sumOf_tot (f : Geo.Pt × Geo.Pt → Int) (ps : List Geo.Pt) (h : ∀ p ∈ ps, Geo.sm p) : sumOf (fun s => f s.1) (sidesTo ps h ps.length) = Geo.tot f ps := by
  unfold sumOf Geo.tot
  rw [← sidesTo_val ps h, List.map_map]
  rfl
theorem total_any (A : Option Addr) (c : Nat) (ps : List Geo.Pt) (hps : ∀ p ∈ ps, Geo.sm p) (hlen : ps.length ≤ 100) (g : Nat) (f : Geo.Pt × Geo.Pt → Int)
    (hf : ∀ s : Geo.Pt × Geo.Pt, Geo.sm s.1 → Geo.sm s.2 → -1000000000000000 ≤ f s ∧ f s ≤ 1000000000000000)
    (eg : ∀ args W, (callFunc g args).run Tryz.prog W = .ok (.enter g args) W)
    (hg : ∀ x1 y1 x2 y2 W, Geo.sm (x1, y1) → Geo.sm (x2, y2) → Calls Tryz.prog g #[.agg #[.int .i64 x1, .int .i64 y1, .int .i64 x2, .int .i64 y2]] W fun e W' => e = .returned (.int .i64 (f ((x1, y1), (x2, y2)))) ∧ Below W.heap.size W W') (w : World) (hP : Prs w w.heap.size A ps) :
    Calls Tryz.prog 53 #[.slice A ps.length c, .func (.func g) #[] #[]] w fun e w' => e = .returned (.int .i64 (Geo.tot f ps)) ∧ Below w.heap.size w w' := by
  have := total_in 9 (by omega) A c ps hps hlen g (fun s => f s.1) (fun x => hf x.1 x.2.1 x.2.2) eg (fun x m W => callsIn_wide.2 (hg _ _ _ _ W x.2.1 x.2.2)) w hP
  rw [sumOf_tot] at this
  exact (callsIn_wide (n := 9)).1 this

set_option maxHeartbeats 1000000 in
theorem doubled_any (A : Option Addr) (c : Nat) (ps : List Geo.Pt) (hps : ∀ p ∈ ps, Geo.sm p) (hlen : ps.length ≤ 100) (w : World) (hP : Prs w w.heap.size A ps) :
    Calls Tryz.prog 26 #[.slice A ps.length c] w fun e w' => e = .returned (.int .i64 (Geo.tot Geo.fanV ps)) ∧ Below w.heap.size w w' := by
  have H : Hid (Calls Tryz.prog 53 #[.slice A ps.length c, .func (.func 54) #[] #[]] w fun e w' => e = .returned (.int .i64 (Geo.tot Geo.fanV ps)) ∧ Below w.heap.size w w') :=
    total_any A c ps hps hlen 54 Geo.fanV (fun s h1 h2 => by have := Geo.fan_bd h1 h2; omega) (enters_of Tryz.func54 (by kernel_rfl) rfl) (fun x1 y1 x2 y2 W h1 h2 => fan_any x1 y1 x2 y2 W h1 h2) w hP
  clear hP hps hlen
  generalize Geo.tot Geo.fanV ps = T at *
  go_enter Tryz.func26, Tryz.ntmps26
  go_wp2_with fail
  refine H.out.mono ?_
  rintro e w1 ⟨rfl, hb1⟩
  go_wp2_with fail
  go_returns
  exact ⟨rfl, hb1⟩
-- GEN
namespace Geo
def whenV (ps : List Pt) (v : Int) : Int := if validB ps then v else 0
theorem whenV_yes {ps : List Pt} (h : validB ps = true) (v : Int) : whenV ps v = v := by unfold whenV; rw [if_pos h]
theorem whenV_no {ps : List Pt} (h : validB ps = false) (v : Int) : whenV ps v = 0 := by unfold whenV; rw [h]; rfl
theorem errV_yes {ps : List Pt} (h : validB ps = true) : errV ps = 0 := by unfold errV; rw [if_pos h]
theorem errV_no {ps : List Pt} (h : validB ps = false) : errV ps = 20 := by unfold errV; rw [h]; rfl
theorem valid_sm {ps : List Pt} (h : validB ps = true) : ∀ p ∈ ps, sm p := fun p hp => pt_sm (((validB_parts ps).1 h).2.1.1 p hp)
theorem valid_len {ps : List Pt} (h : validB ps = true) : 3 ≤ ps.length ∧ ps.length ≤ 10 := ((validB_parts ps).1 h).1
theorem fx_bd {s : Pt × Pt} (h1 : sm s.1) (h2 : sm s.2) : -1000000000000000 ≤ fxV s ∧ fxV s ≤ 1000000000000000 := by
  have ht := fan_bd h1 h2
  unfold sm at h1 h2
  have := times_bd (t := fanV s) (m := s.1.1 + s.2.1) (M := 2000) ht (by omega)
  unfold fxV
  omega
theorem fy_bd {s : Pt × Pt} (h1 : sm s.1) (h2 : sm s.2) : -1000000000000000 ≤ fyV s ∧ fyV s ≤ 1000000000000000 := by
  have ht := fan_bd h1 h2
  unfold sm at h1 h2
  have := times_bd (t := fanV s) (m := s.1.2 + s.2.2) (M := 2000) ht (by omega)
  unfold fyV
  omega
theorem xx_bd {s : Pt × Pt} (h1 : sm s.1) (h2 : sm s.2) : -1000000000000000 ≤ xxV s ∧ xxV s ≤ 1000000000000000 := by
  have ht := fan_bd h1 h2
  unfold sm at h1 h2
  have q1 := sq_bd (a := s.1.1) (b := s.1.1) (by omega) (by omega)
  have q2 := sq_bd (a := s.1.1) (b := s.2.1) (by omega) (by omega)
  have q3 := sq_bd (a := s.2.1) (b := s.2.1) (by omega) (by omega)
  have := times_bd (t := fanV s) (m := s.1.1 * s.1.1 + s.1.1 * s.2.1 + s.2.1 * s.2.1) (M := 3000000) ht (by omega)
  unfold xxV
  omega
theorem yy_bd {s : Pt × Pt} (h1 : sm s.1) (h2 : sm s.2) : -1000000000000000 ≤ yyV s ∧ yyV s ≤ 1000000000000000 := by
  have ht := fan_bd h1 h2
  unfold sm at h1 h2
  have q1 := sq_bd (a := s.1.2) (b := s.1.2) (by omega) (by omega)
  have q2 := sq_bd (a := s.1.2) (b := s.2.2) (by omega) (by omega)
  have q3 := sq_bd (a := s.2.2) (b := s.2.2) (by omega) (by omega)
  have := times_bd (t := fanV s) (m := s.1.2 * s.1.2 + s.1.2 * s.2.2 + s.2.2 * s.2.2) (M := 3000000) ht (by omega)
  unfold yyV
  omega
theorem xy_bd {s : Pt × Pt} (h1 : sm s.1) (h2 : sm s.2) : -1000000000000000 ≤ xyV s ∧ xyV s ≤ 1000000000000000 := by
  have ht := fan_bd h1 h2
  unfold sm at h1 h2
  have q1 := sq_bd (a := s.1.1) (b := s.1.2) (by omega) (by omega)
  have q2 := sq_bd (a := s.1.1) (b := s.2.2) (by omega) (by omega)
  have q3 := sq_bd (a := s.2.1) (b := s.1.2) (by omega) (by omega)
  have q4 := sq_bd (a := s.2.1) (b := s.2.2) (by omega) (by omega)
  have e1 : 2 * s.1.1 * s.1.2 = 2 * (s.1.1 * s.1.2) := Int.mul_assoc _ _ _
  have e2 : 2 * s.2.1 * s.2.2 = 2 * (s.2.1 * s.2.2) := Int.mul_assoc _ _ _
  have := times_bd (t := fanV s) (m := 2 * s.1.1 * s.1.2 + s.1.1 * s.2.2 + s.2.1 * s.1.2 + 2 * s.2.1 * s.2.2) (M := 6000000) ht (by omega)
  unfold xyV
  omega
end Geo
theorem ret_tup {a b : Array Value} (h : a = b) : Ending.returned (.tuple a) = .returned (.tuple b) := by rw [h]

end Go.Proofs.YtmjcdggmofohcaaGreat
namespace Go.Proofs.YtmjcdggmofohcaaGreat
open Go.RowKit Go.Shelf

namespace Geo
theorem gcd_step (a b : Int) : Int.gcd b (a.tmod b) = Int.gcd a b := by
  unfold Int.gcd
  rw [Int.natAbs_tmod, Nat.gcd_comm, ← Nat.gcd_rec, Nat.gcd_comm]
theorem tmod_lt {a b : Int} (hb : b ≠ 0) : (a.tmod b).natAbs < b.natAbs := by
  rw [Int.natAbs_tmod]
  exact Nat.mod_lt _ (by omega)
end Geo

namespace Geo
def dvV (s : Pt × Pt) : Int := (Int.gcd (s.2.1 - s.1.1) (s.2.2 - s.1.2) : Int)
theorem gcd_le {a b : Int} {M : Nat} (ha : a.natAbs ≤ M) (hb : b.natAbs ≤ M) : Int.gcd a b ≤ M := by
  unfold Int.gcd
  rcases Nat.eq_zero_or_pos a.natAbs with h | h
  · rw [h, Nat.gcd_zero_left]; exact hb
  · exact Nat.le_trans (Nat.gcd_le_left _ h) ha
theorem dv_bd {s : Pt × Pt} (h1 : sm s.1) (h2 : sm s.2) : 0 ≤ dvV s ∧ dvV s ≤ 2000 := by
  unfold sm at h1 h2
  have := gcd_le (a := s.2.1 - s.1.1) (b := s.2.2 - s.1.2) (M := 2000) (by omega) (by omega)
  unfold dvV
  omega
theorem dv_bd2 {s : Pt × Pt} (h1 : sm s.1) (h2 : sm s.2) : -1000000000000000 ≤ dvV s ∧ dvV s ≤ 1000000000000000 := by
  have := dv_bd h1 h2
  omega
def inV (ps : List Pt) : Int := (((tot fanV ps).natAbs : Int) - tot dvV ps + 2).tdiv 2
end Geo
theorem tot_bd {f : Geo.Pt × Geo.Pt → Int} {M : Int} {ps : List Geo.Pt} (h : ∀ p ∈ ps, Geo.sm p) (hf : ∀ s : Geo.Pt × Geo.Pt, Geo.sm s.1 → Geo.sm s.2 → -M ≤ f s ∧ f s ≤ M) : -(M * ps.length) ≤ Geo.tot f ps ∧ Geo.tot f ps ≤ M * ps.length := by
  have := sumOf_bd (val := fun s : Side => f s.1) (M := M) (fun x => hf x.1 x.2.1 x.2.2) (sidesTo ps h ps.length)
  rw [sumOf_tot, sidesTo_len] at this
  exact this

set_option maxRecDepth 100000 in
set_option maxHeartbeats 1000000 in
theorem Twice_any (A : Option Addr) (c : Nat) (ps : List Geo.Pt) (hlen : ps.length ≤ 100) (w : World) (hP : Prs w w.heap.size A ps) :
    Calls Tryz.prog 9 #[.slice A ps.length c] w fun e w' => e = .returned (.tuple #[.int .i64 (Geo.whenV ps (Geo.tot Geo.fanV ps)), .int .i64 (Geo.errV ps)]) ∧ Below w.heap.size w w' := by
  have HC : Hid (Calls Tryz.prog 25 #[.slice A ps.length c] w (ChkPost (Geo.errV ps) w)) := Check_any A c ps hlen w hP
  cases hv : Geo.validB ps with
  | false =>
    rw [Geo.errV_no hv] at HC
    have HV := Lib.hid hv
    clear hP hlen hv
    go_enter Tryz.func9, Tryz.ntmps9
    go_wp2_with fail
    refine HC.out.mono ?_
    rintro e w1 ⟨rfl, hb1⟩
    go_wp2_with fail
    go_returns
    refine ⟨ret_tup (by simp only [Geo.whenV_no HV.out, Geo.errV_no HV.out]; try rfl), hb1⟩
  | true =>
    rw [Geo.errV_yes hv] at HC
    have hsm := Geo.valid_sm hv
    have HV := Lib.hid hv
    have T0 : Hid (∀ W, Below w.heap.size w W → Calls Tryz.prog 26 #[.slice A ps.length c] W fun e w' => e = .returned (.int .i64 (Geo.tot Geo.fanV ps)) ∧ Below W.heap.size W w') := fun W hW =>
      doubled_any A c ps hsm hlen W (prs_keep hP hW)
    clear hP hlen hv hsm
    obtain ⟨v0, hv0⟩ : ∃ v0, v0 = Geo.tot Geo.fanV ps := ⟨_, rfl⟩
    rw [← hv0] at T0
    have HV0 := Lib.hid hv0
    clear hv0
    go_enter Tryz.func9, Tryz.ntmps9
    go_wp2_with fail
    refine HC.out.mono ?_
    rintro e w0 ⟨rfl, hB0⟩
    go_wp2_with fail
    refine (T0.out _ hB0).mono ?_
    rintro e w1 ⟨rfl, hb⟩
    have hB1 : Below w.heap.size w w1 := hB0.trans (hb.mono hB0.size)
    clear hb
    go_wp2_with fail
    go_returns
    refine ⟨ret_tup (by simp only [Geo.whenV_yes HV.out, Geo.errV_yes HV.out, ← HV0.out]; try rfl), hB1⟩

end Go.Proofs.YtmjcdggmofohcaaGreat
