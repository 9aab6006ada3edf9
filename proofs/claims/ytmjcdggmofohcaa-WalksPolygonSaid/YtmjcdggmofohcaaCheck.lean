/- Check of package corners, by its contract. -/
import Derived.Test.YtmjcdggmofohcaaTotal
import Derived.Test.YtmjcdggmofohcaaGeo
import Derived.Test.YtmjcdggmofohcaaDiffer
namespace Go.Proofs.Ytmjcdggmofohcaa
open Go.RowKit Go.Shelf
attribute [local go_sem] Oper.semAt_some

namespace Geo
/-- Two sides that have more in common than a corner, seen from the first. -/
def badB (s t : (Int × Int) × (Int × Int)) : Bool := passB s.1 s.2 t.1 || (partB s.1 s.2 t.1 t.2 && partB t.1 t.2 s.1 s.2)
end Geo

def worstB (ss : List Side) : Bool := ss.any fun s => ss.any fun t => Geo.badB s.1 t.1
def chkV (ss : List Side) : Int := if worstB ss then 20 else 0
theorem chkV_bad {ss : List Side} {s t : Side} (hs : s ∈ ss) (ht : t ∈ ss) (hb : Geo.badB s.1 t.1 = true) : chkV ss = 20 := by
  unfold chkV worstB
  rw [if_pos (List.any_eq_true.2 ⟨s, hs, List.any_eq_true.2 ⟨t, ht, hb⟩⟩)]
theorem chkV_good {ss : List Side} (h : ∀ s ∈ ss, ∀ t ∈ ss, Geo.badB s.1 t.1 = false) : chkV ss = 0 := by
  unfold chkV worstB
  rw [if_neg]
  intro hh
  obtain ⟨s, hs, h2⟩ := List.any_eq_true.1 hh
  obtain ⟨t, ht, h3⟩ := List.any_eq_true.1 h2
  rw [h s hs t ht] at h3
  cases h3
/-- What Check leaves. -/
def ChkPost (v : Int) (w : World) (e : Ending) (w' : World) : Prop := e = .returned (.int .i64 v) ∧ Below w.heap.size w w'

theorem sidesTo_sub {ps : List (Int × Int)} {h : ∀ p ∈ ps, Geo.sm p} {k n : Nat} (hk : k ≤ n) {s : Side} (hs : s ∈ sidesTo ps h k) : s ∈ sidesTo ps h n := by
  unfold sidesTo at *
  rw [List.mem_map] at *
  obtain ⟨i, hi, e⟩ := hs
  rw [List.mem_range] at hi
  exact ⟨i, List.mem_range.2 (by omega), e⟩

set_option maxRecDepth 100000 in
set_option maxHeartbeats 4000000 in
theorem check_in (n : Nat) (hn : 8 ≤ n) (A : Option Addr) (c : Nat) (ps : List (Int × Int)) (hps : ∀ p ∈ ps, Geo.sm p) (h3 : 3 ≤ ps.length) (h10 : ps.length ≤ 10) (hd : Geo.difB ps = true) (w : World) (hP : Prs w w.heap.size A ps) :
    CallsIn Fence.wide n Try.prog 41 #[.slice A ps.length c] w (ChkPost (chkV (sidesTo ps hps ps.length)) w) := by
  have h1 : 1 ≤ n := by omega
  obtain ⟨ss, hss⟩ : ∃ ss, ss = sidesTo ps hps ps.length := ⟨_, rfl⟩
  rw [← hss]
  have HS := Lib.hid hss
  clear hss
  have HP := Lib.hid hP
  have HD : Hid (∀ W, Below w.heap.size w W → Calls Try.prog 75 #[.slice A ps.length c] W fun e w' => e = .returned (.bool true) ∧ Below W.heap.size W w') := fun W hW => (differ_any A c ps W (by omega) (prs_keep hP hW)).mono (by rw [hd]; exact fun _ _ h => h)
  have hlen : ps.length ≤ 100 := by omega
  have HL := Lib.hid hlen
  clear hP hlen
  have g1 : decide ((ps.length : Int) < 3) = false := by simp; omega
  have g2 : decide (10 < (ps.length : Int)) = false := by simp; omega
  have g3 : decide (ps.length < 3) = false := by simp; omega
  have g4 : decide (10 < ps.length) = false := by simp; omega
  refine callsIn_of_wp_marks Try.func41 rfl trivial ?_ rfl
  simp only [Try.ntmps41, List.size_toArray, List.length_cons, List.length_nil, Nat.reduceAdd, Nat.reduceSub, Array.replicate_succ, Array.replicate_zero, List.push_toArray, List.append_toArray, List.nil_append, List.cons_append]
  gi_wp2
  have bP0 := (Boxed.new w 22 (.slice A ps.length c)).alloc (.cells #[.int .i64 0] 31)
  have bR0 := Boxed.new (w.alloc (.cells #[.slice A ps.length c] 22)) 31 (.int .i64 0)
  have hB0 : Below w.heap.size w ((w.alloc (.cells #[.slice A ps.length c] 22)).alloc (.cells #[.int .i64 0] 31)) := ((Below.refl _ w).alloc (Nat.le_refl _) _).alloc (by simp) _
  simp only [World.size_alloc] at bR0
  generalize hW : World.alloc _ _ = W00 at *
  have hs0 : W00.heap.size = w.heap.size + 2 := by rw [← hW]; simp
  clear hW
  refine ⟨trivial, (callsIn_wide.2 (HD.out _ hB0)).mono ?_⟩
  rintro e w1 ⟨rfl, hb1⟩
  have bP1 := boxed_below bP0 hb1
  have bR1 := boxed_below bR0 hb1
  have hB1 : Below w.heap.size w w1 := hB0.trans (hb1.mono hB0.size)
  have hs1 := hb1.size
  have cP1 := bP1.cell
  gi_wp2_with (refine ⟨trivial, ?_⟩; gi_at_call 76; refine (sides_in Fence.wide (n - 1) trivial rfl _ _ _ _).mono ?_; rintro e w' ⟨rfl, rfl⟩)
  have bP := bP1.alloc (.cells #[.slice A ps.length c] 22)
  have bR := bR1.alloc (.cells #[.slice A ps.length c] 22)
  have bA := Boxed.new w1 22 (.slice A ps.length c)
  have hBW : Below w.heap.size w (w1.alloc (.cells #[.slice A ps.length c] 22)) := hB1.alloc hB1.size _
  have hsz : (w1.alloc (.cells #[.slice A ps.length c] 22)).heap.size = w1.heap.size + 1 := by simp
  generalize hW : World.alloc _ _ = W0 at *
  clear hW bP0 bR0 bP1 bR1 cP1
  have hP1 : Prs W0 w.heap.size A ps := HP.out.keep hBW
  have h1n : 1 ≤ n - 1 - 1 := by omega
  refine wpIn_rangeFunc_ownH rfl h1 (gf := 96) (lb := #[.pointer (some ⟨w1.heap.size, 0, none⟩)]) rfl trivial (enters_of Try.func96 (by kernel_rfl) rfl)
    (sides_stops Fence.wide (n - 1) trivial rfl (by omega) w1.heap.size w.heap.size A c ps hps HL.out W0 bA (by omega) hP1) KpS.trans (fun W l o o' hl _ _ _ => KpS.putObj W (by omega) (by omega) o') (Below.refl _ _) (fun _ => rfl)
    (fun pre W => (((∀ s ∈ pre, ∀ t ∈ ss, Geo.badB s.1 t.1 = false) ∧ Boxed W (w.heap.size + 1) 31 (.int .i64 0)) ∧ Boxed W w.heap.size 22 (.slice A ps.length c)) ∧ Below w.heap.size w W)
    (fun cc pre W => ((cc = .ret ∧ ∃ s ∈ pre, ∃ t ∈ ss, Geo.badB s.1 t.1 = true) ∧ Boxed W (w.heap.size + 1) 31 (.int .i64 20)) ∧ Below w.heap.size w W)
    (OwnFrom.and (OwnFrom.and (OwnFrom.and (ownFrom_pure _ _) (Own.from (boxed_own _ _ _) _)) (Own.from (boxed_own _ _ _) _)) (ownFrom_below (Nat.le_refl _) (by omega)))
    (fun cc => OwnFrom.and (OwnFrom.and (ownFrom_pure _ _) (Own.from (boxed_own _ _ _) _)) (ownFrom_below (Nat.le_refl _) (by omega)))
    ⟨⟨⟨by simp, bR⟩, bP⟩, hBW⟩
    (fun x a' W => ∃ Bx, w.heap.size + 1 < Bx ∧ BoxS W Bx 98 #[.int .i64 x.1.1.1, .int .i64 x.1.1.2, .int .i64 x.1.2.1, .int .i64 x.1.2.2] ∧ a' = { tmps := #[.slice A ps.length c, .pointer (some ⟨w.heap.size, 0, none⟩), .pointer (some ⟨w.heap.size + 1, 0, none⟩), .pointer (some ⟨Bx, 0, none⟩), undef, .slice A ps.length c, .int .i64 ps.length, .bool false, .bool false, .slice A ps.length c, .int .i64 ps.length, .bool false, .bool false, .bool false, .slice A ps.length c, .bool true, .bool false, .bool false, .slice A ps.length c, .func (.func 96) #[] #[.pointer (some ⟨w1.heap.size, 0, none⟩)], encSide x, undef, undef, undef, undef, undef, undef, undef, undef, undef, undef, undef, undef, undef, undef, undef, undef, undef], defers := [] })
    (fun x a' _ X Y row hs hg hr => by obtain ⟨Bx, e1, e2, e3⟩ := hs; exact ⟨Bx, e1, boxS_own Bx 98 (fun (_ : Unit) => #[.int .i64 x.1.1.1, .int .i64 x.1.1.2, .int .i64 x.1.2.1, .int .i64 x.1.2.2]) () X Y row e2 hg (fun r e => (hr r e).2), e3⟩)
    ?assign ?body ?done ?stop
  case assign =>
    rintro l pre x W K ⟨⟨⟨hp, bR1⟩, bP1⟩, hB1⟩ hK
    have HQ := Lib.hid hp
    clear hp
    unfold encSide
    gi_wp2
    exact hK _ _ ((KeepsOthers.alloc _ _).from _) (KpS.alloc W hB1.size _) ⟨⟨⟨HQ.out, bR1.alloc _⟩, bP1.alloc _⟩, hB1.alloc hB1.size _⟩ ⟨W.heap.size, bR1.lt, BoxS.new W _ _, rfl⟩
  case body =>
    rintro l pre x a' W hl ⟨r, hr⟩ ⟨⟨⟨hp, bR1⟩, bP1⟩, hB1⟩ ⟨Bx, hBx, bX, rfl⟩ hlt
    have HQ := Lib.hid hp
    clear hp
    have cP := bP1.cell
    gi_wp2_with (refine ⟨trivial, ?_⟩; gi_at_call 76; refine (CallsIn.inRound l (sides_in Fence.wide (n - 1 - 1 - 1) trivial rfl _ _ _ _)).mono ?_; rintro e w' ⟨rfl, rfl⟩)
    have hsW := hB1.size
    have bN := Boxed.new W 22 (.slice A ps.length c)
    have hr' : (W.alloc (.cells #[.slice A ps.length c] 22)).heap[l]? = some (.loop r) := (Below.heap_alloc W _ l (Array.getElem?_eq_some_iff.1 hr).1).trans hr
    refine wpIn_rangeFunc_ownN (l₀ := l) (r₀ := r) rfl hr' h1n (gf := 96) (lb := #[.pointer (some ⟨W.heap.size, 0, none⟩)]) rfl trivial (enters_of Try.func96 (by kernel_rfl) rfl)
      ((sides_stops Fence.wide (n - 1 - 1 - 1) trivial rfl (by omega) W.heap.size w.heap.size A c ps hps HL.out _ bN (by simp; omega) (HP.out.keep (hB1.alloc hsW _))).inRound l) KpS.trans (fun V l o o' hl _ _ _ => KpS.putObj V (by simp at hl; omega) (by simp at hl; omega) o') (Below.refl _ _) (fun _ => rfl)
      (fun pre' W' => ((((∀ t ∈ pre', Geo.badB x.1 t.1 = false) ∧ Boxed W' (w.heap.size + 1) 31 (.int .i64 0)) ∧ BoxS W' Bx 98 #[.int .i64 x.1.1.1, .int .i64 x.1.1.2, .int .i64 x.1.2.1, .int .i64 x.1.2.2]) ∧ Boxed W' w.heap.size 22 (.slice A ps.length c)) ∧ Below W.heap.size W W')
      (fun cc pre' W' => ((cc = .ret ∧ ∃ t ∈ pre', Geo.badB x.1 t.1 = true) ∧ Boxed W' (w.heap.size + 1) 31 (.int .i64 20)) ∧ (Below w.heap.size w W' ∧ KeepsFrom W0.heap.size W W'))
      (OwnFrom.and (OwnFrom.and (OwnFrom.and (OwnFrom.and (ownFrom_pure _ _) (Own.from (boxed_own _ _ _) _)) (Own.from (boxS_own _ _ _) _)) (Own.from (boxed_own _ _ _) _)) (ownFrom_below (Nat.le_refl _) (by simp)))
      (fun cc => OwnFrom.and (OwnFrom.and (ownFrom_pure _ _) (Own.from (boxed_own _ _ _) _)) (OwnFrom.and (ownFrom_below (Nat.le_refl _) (by simp; omega)) (ownFrom_keepsFrom (by simp))))
      ⟨⟨⟨⟨by simp, bR1.alloc _⟩, bX.alloc _⟩, bP1.alloc _⟩, (Below.refl _ W).alloc (Nat.le_refl _) _⟩
      (fun y a'' W' => ∃ By, BoxS W' By 98 #[.int .i64 y.1.1.1, .int .i64 y.1.1.2, .int .i64 y.1.2.1, .int .i64 y.1.2.2] ∧ a'' = { tmps := #[.slice A ps.length c, .pointer (some ⟨w.heap.size, 0, none⟩), .pointer (some ⟨w.heap.size + 1, 0, none⟩), .pointer (some ⟨Bx, 0, none⟩), .pointer (some ⟨By, 0, none⟩), .slice A ps.length c, .int .i64 ps.length, .bool false, .bool false, .slice A ps.length c, .int .i64 ps.length, .bool false, .bool false, .bool false, .slice A ps.length c, .bool true, .bool false, .bool false, .slice A ps.length c, .func (.func 96) #[] #[.pointer (some ⟨w1.heap.size, 0, none⟩)], encSide x, .slice A ps.length c, .func (.func 96) #[] #[.pointer (some ⟨W.heap.size, 0, none⟩)], encSide y, undef, undef, undef, undef, undef, undef, undef, undef, undef, undef, undef, undef, undef, undef], defers := [] })
      (fun y a'' _ X Y row hs hg hr => by obtain ⟨By, e2, e3⟩ := hs; exact ⟨By, boxS_own By 98 (fun (_ : Unit) => #[.int .i64 y.1.1.1, .int .i64 y.1.1.2, .int .i64 y.1.2.1, .int .i64 y.1.2.2]) () X Y row e2 hg (fun r e => (hr r e).2), e3⟩)
      ?assign2 ?body2 ?done2 ?stop2
    case assign2 =>
      rintro l2 pre' y W' K ⟨⟨⟨⟨hq, bR2⟩, bX2⟩, bP2⟩, hWW⟩ hK
      have HR := Lib.hid hq
      clear hq
      unfold encSide
      gi_wp2
      exact hK _ _ ((KeepsOthers.alloc _ _).from _) (KpS.alloc W' (by have := hWW.size; omega) _) ⟨⟨⟨⟨HR.out, bR2.alloc _⟩, bX2.alloc _⟩, bP2.alloc _⟩, hWW.alloc hWW.size _⟩ ⟨W'.heap.size, BoxS.new W' _ _, rfl⟩
    case body2 =>
      rintro l2 pre' y a'' W' hl2 _ ⟨⟨⟨⟨hq, bR2⟩, bX2⟩, bP2⟩, hWW⟩ ⟨By, bY, rfl⟩ hlt2
      have HR := Lib.hid hq
      clear hq
      have P1 : Hid (∀ V, Calls Try.prog 77 #[.agg #[.int .i64 x.1.1.1, .int .i64 x.1.1.2, .int .i64 x.1.2.1, .int .i64 x.1.2.2], .agg #[.int .i64 y.1.1.1, .int .i64 y.1.1.2]] V fun e w' => e = .returned (.bool (Geo.passB x.1.1 x.1.2 y.1.1)) ∧ Below V.heap.size V w') := fun V => passes_any _ _ _ _ _ _ V x.2.1 x.2.2 y.2.1
      have P2 : Hid (∀ V, Calls Try.prog 78 #[.agg #[.int .i64 x.1.1.1, .int .i64 x.1.1.2, .int .i64 x.1.2.1, .int .i64 x.1.2.2], .agg #[.int .i64 y.1.1.1, .int .i64 y.1.1.2, .int .i64 y.1.2.1, .int .i64 y.1.2.2]] V fun e w' => e = .returned (.bool (Geo.partB x.1.1 x.1.2 y.1.1 y.1.2)) ∧ Below V.heap.size V w') := fun V => parts_any _ _ _ _ _ _ _ _ V x.2.1 x.2.2 y.2.1 y.2.2
      have P3 : Hid (∀ V, Calls Try.prog 78 #[.agg #[.int .i64 y.1.1.1, .int .i64 y.1.1.2, .int .i64 y.1.2.1, .int .i64 y.1.2.2], .agg #[.int .i64 x.1.1.1, .int .i64 x.1.1.2, .int .i64 x.1.2.1, .int .i64 x.1.2.2]] V fun e w' => e = .returned (.bool (Geo.partB y.1.1 y.1.2 x.1.1 x.1.2)) ∧ Below V.heap.size V w') := fun V => parts_any _ _ _ _ _ _ _ _ V y.2.1 y.2.2 x.2.1 x.2.2
      have HB : Hid (Geo.badB x.1 y.1 = (Geo.passB x.1.1 x.1.2 y.1.1 || (Geo.partB x.1.1 x.1.2 y.1.1 y.1.2 && Geo.partB y.1.1 y.1.2 x.1.1 x.1.2))) := rfl
      generalize Geo.passB x.1.1 x.1.2 y.1.1 = b1 at *
      generalize Geo.partB x.1.1 x.1.2 y.1.1 y.1.2 = b2 at *
      generalize Geo.partB y.1.1 y.1.2 x.1.1 x.1.2 = b3 at *
      have hn2 : 1 ≤ n - 1 - 1 - 1 - 1 := by omega
      have hsW' := hWW.size
      obtain ⟨cx0, cx1, cx2, cx3⟩ := boxS4 bX2
      obtain ⟨cy0, cy1, cy2, cy3⟩ := boxS4 bY
      gi_wp2
      refine ⟨trivial, (CallsIn.inRound l2 (CallsIn.inRound l (callsIn_wide.2 (P1.out _)))).mono ?_⟩
      rintro e w2 ⟨rfl, hb2⟩
      clear cx0 cx1 cx2 cx3 cy0 cy1 cy2 cy3
      have hW2 := hWW.trans (hb2.mono hsW')
      have bR3 := boxed_below bR2 hb2
      have bX3 := bX2.below hb2
      have bY3 := bY.below hb2
      have bP3 := boxed_below bP2 hb2
      have cR3 := bR3.cell
      have fR3 := bR3.frozen
      cases b1 with
      | true =>
        gi_wp2
        refine ⟨trivial, ?_⟩
        gi_wp2
        rotate_left 2
        · refine ⟨trivial, ?_⟩
          gi_wp2
          exact ⟨(keepsFrom_below _ hb2).trans ((KeepsOthers.setCell _ _ _).from _), ⟨⟨rfl, y, List.mem_append.2 (.inr (by simp)), by rw [HB.out]; rfl⟩, bR3.set _⟩, (hB1.trans (hW2.mono hsW)).setCell (p := ⟨w.heap.size + 1, 0, none⟩) (by simp) _, (keepsFrom_below _ hW2).trans ((KeepsOthers.setCell _ _ _).from _)⟩
        all_goals (rename_i hu _; cases hu)
      | false =>
        obtain ⟨cx0, cx1, cx2, cx3⟩ := boxS4 bX3
        obtain ⟨cy0, cy1, cy2, cy3⟩ := boxS4 bY3
        gi_wp2
        refine ⟨trivial, (CallsIn.inRound l2 (CallsIn.inRound l (callsIn_wide.2 (P2.out _)))).mono ?_⟩
        rintro e w3 ⟨rfl, hb3⟩
        clear cx0 cx1 cx2 cx3 cy0 cy1 cy2 cy3
        have hW3 := hW2.trans (hb3.mono hW2.size)
        have bR4 := boxed_below bR3 hb3
        have bX4 := bX3.below hb3
        have bY4 := bY3.below hb3
        have bP4 := boxed_below bP3 hb3
        have cR4 := bR4.cell
        have fR4 := bR4.frozen
        cases b2 with
        | false =>
          gi_wp2
          refine ⟨trivial, ?_⟩
          gi_wp2
          exact ⟨keepsFrom_below _ (hb2.trans (hb3.mono hb2.size)), KpS.of_below (hb2.trans (hb3.mono hb2.size)) (by omega), ⟨⟨⟨fun t ht => (List.mem_append.1 ht).elim (HR.out t) (fun e => by simp at e; subst e; rw [HB.out]; rfl), bR4⟩, bX4⟩, bP4⟩, hW3⟩
        | true =>
          obtain ⟨cx0, cx1, cx2, cx3⟩ := boxS4 bX4
          obtain ⟨cy0, cy1, cy2, cy3⟩ := boxS4 bY4
          gi_wp2
          refine ⟨trivial, (CallsIn.inRound l2 (CallsIn.inRound l (callsIn_wide.2 (P3.out _)))).mono ?_⟩
          rintro e w4 ⟨rfl, hb4⟩
          clear cx0 cx1 cx2 cx3 cy0 cy1 cy2 cy3
          have hW4 := hW3.trans (hb4.mono hW3.size)
          have bR5 := boxed_below bR4 hb4
          have bX5 := bX4.below hb4
          have bP5 := boxed_below bP4 hb4
          have cR5 := bR5.cell
          have fR5 := bR5.frozen
          cases b3 with
          | false =>
            gi_wp2
            exact ⟨keepsFrom_below _ ((hb2.trans (hb3.mono hb2.size)).trans (hb4.mono (hb2.trans (hb3.mono hb2.size)).size)), KpS.of_below ((hb2.trans (hb3.mono hb2.size)).trans (hb4.mono (hb2.trans (hb3.mono hb2.size)).size)) (by omega), ⟨⟨⟨fun t ht => (List.mem_append.1 ht).elim (HR.out t) (fun e => by simp at e; subst e; rw [HB.out]; rfl), bR5⟩, bX5⟩, bP5⟩, hW4⟩
          | true =>
            gi_wp2
            exact ⟨(keepsFrom_below _ ((hb2.trans (hb3.mono hb2.size)).trans (hb4.mono (hb2.trans (hb3.mono hb2.size)).size))).trans ((KeepsOthers.setCell _ _ _).from _), ⟨⟨rfl, y, List.mem_append.2 (.inr (by simp)), by rw [HB.out]; rfl⟩, bR5.set _⟩, (hB1.trans (hW4.mono hsW)).setCell (p := ⟨w.heap.size + 1, 0, none⟩) (by simp) _, (keepsFrom_below _ hW4).trans ((KeepsOthers.setCell _ _ _).from _)⟩
    case done2 =>
      rintro ys' W' hys ⟨⟨⟨⟨hq, bR2⟩, bX2⟩, bP2⟩, hWW⟩
      obtain rfl : ys' = ss := hys.trans HS.out.symm
      have HR := Lib.hid hq
      clear hq
      gi_wp2
      exact ⟨keepsFrom_below _ hWW, KpS.of_below hWW hsW, ⟨⟨fun z hz => (List.mem_append.1 hz).elim (HQ.out z) (fun e t ht => by simp at e; subst e; exact HR.out t ht), bR2⟩, bP2⟩, hB1.trans (hWW.mono hsW)⟩
    case stop2 =>
      rintro cc pre' W' ⟨k, hk, rfl⟩ ⟨⟨⟨rfl, t, ht, hbad⟩, bR2⟩, hBw, hKF⟩
      gi_wp2
      refine ⟨hKF, ⟨⟨rfl, x, List.mem_append.2 (.inr (by simp)), t, by rw [HS.out]; exact sidesTo_sub hk ht, hbad⟩, bR2⟩, hBw⟩
  case done =>
    rintro D zs W hD hzs ⟨⟨⟨hp, bR1⟩, bP1⟩, hB1⟩ hK
    obtain rfl : zs = ss := hzs.trans HS.out.symm
    have HQ := Lib.hid hp
    clear hp
    have cR := bR1.cell
    have fR := bR1.frozen
    gi_wp2
    have hK' := (KeepsOthers.setCell W ⟨w.heap.size + 1, 0, none⟩ (.int .i64 0)).same D _ hK rfl
    refine ⟨by simp, .inl ⟨_, _, rfl, run_takeDeferred hK', ?_⟩⟩
    have hc5 := cell_kept (bR1.set (.int .i64 0)).cell (grownBy_putObj' _ D (.deferred none)) (fun r e => by cases e; exact ⟨_, hK', rfl⟩)
    refine ⟨.int .i64 0, ?_, by rw [chkV_good HQ.out], (hB1.setCell (p := ⟨w.heap.size + 1, 0, none⟩) (by simp) _).trans (belowK_b (w := w) (Nat.le_refl _) _ D _ _ (by omega) hK' rfl rfl)⟩
    simp [results, Try.f41, go_sem, hc5]
  case stop =>
    rintro D cc pre W hD ⟨k, hk, rfl⟩ ⟨⟨⟨rfl, s, hs, t, ht, hb⟩, bR1⟩, hB1⟩ hK
    gi_wp2
    refine ⟨by simp, .inl ⟨_, _, rfl, run_takeDeferred hK, ?_⟩⟩
    have hc5 := cell_kept bR1.cell (grownBy_putObj' _ D (.deferred none)) (fun r e => by cases e; exact ⟨_, hK, rfl⟩)
    refine ⟨.int .i64 20, ?_, by rw [chkV_bad (by rw [HS.out]; exact sidesTo_sub hk hs) ht hb], hB1.trans (belowK_b (w := w) (Nat.le_refl _) W D _ _ (by omega) hK rfl rfl)⟩
    simp [results, Try.f41, go_sem, hc5]
end Go.Proofs.Ytmjcdggmofohcaa

namespace Go.Proofs.Ytmjcdggmofohcaa
open Go.RowKit Go.Shelf

namespace Geo
abbrev Pt := Int × Int
/-- The sides of a polygon. -/
def sidesL (ps : List Pt) : List (Pt × Pt) := (List.range ps.length).map fun k => (ps[k]?.getD (0, 0), ps[(k + 1) % ps.length]?.getD (0, 0))
/-- A polygon is valid, as the program has it. -/
def validB (ps : List Pt) : Bool := (decide (3 ≤ ps.length) && decide (ps.length ≤ 10)) && (difB ps && !((sidesL ps).any fun s => (sidesL ps).any fun t => badB s t))
def errV (ps : List Pt) : Int := if validB ps then 0 else 20
theorem validB_parts (ps : List Pt) : validB ps = true ↔ (3 ≤ ps.length ∧ ps.length ≤ 10) ∧ difP ps ∧ ((sidesL ps).any fun s => (sidesL ps).any fun t => badB s t) = false := by
  unfold validB
  rw [Bool.and_eq_true, Bool.and_eq_true, Bool.and_eq_true, decide_eq_true_iff, decide_eq_true_iff]
  refine and_congr Iff.rfl (and_congr (by unfold difB; simp) ?_)
  simp only [Bool.not_eq_true']
theorem difB_sm {ps : List Pt} (h : difB ps = true) : ∀ p ∈ ps, sm p := by
  unfold difB difP at h
  have := of_decide_eq_true h
  exact fun p hp => pt_sm (this.1 p hp)
end Geo

theorem sidesTo_val (ps : List (Int × Int)) (h : ∀ p ∈ ps, Geo.sm p) : (sidesTo ps h ps.length).map (fun s => s.1) = Geo.sidesL ps := by
  unfold sidesTo Geo.sidesL
  rw [List.map_map]
  rfl
theorem worstB_val (ps : List (Int × Int)) (h : ∀ p ∈ ps, Geo.sm p) : worstB (sidesTo ps h ps.length) = (Geo.sidesL ps).any fun s => (Geo.sidesL ps).any fun t => Geo.badB s t := by
  unfold worstB
  rw [← sidesTo_val ps h, List.any_map]
  congr 1
  funext s
  rw [Function.comp_apply, List.any_map]
  rfl
theorem chkV_errV {ps : List (Int × Int)} (h : ∀ p ∈ ps, Geo.sm p) (h3 : 3 ≤ ps.length) (h10 : ps.length ≤ 10) (hd : Geo.difB ps = true) : chkV (sidesTo ps h ps.length) = Geo.errV ps := by
  unfold chkV Geo.errV Geo.validB
  rw [worstB_val, hd]
  cases (Geo.sidesL ps).any fun s => (Geo.sidesL ps).any fun t => Geo.badB s t <;> simp [h3, h10]
theorem errV_short {ps : List (Int × Int)} (h : ¬ (3 ≤ ps.length ∧ ps.length ≤ 10)) : Geo.errV ps = 20 := by
  unfold Geo.errV Geo.validB
  rw [if_neg]
  simp
  omega
theorem errV_same {ps : List (Int × Int)} (h : Geo.difB ps = false) : Geo.errV ps = 20 := by
  unfold Geo.errV Geo.validB
  rw [if_neg]
  simp [h]

set_option maxRecDepth 100000 in
set_option maxHeartbeats 2000000 in
theorem check_short (A : Option Addr) (c : Nat) (ps : List (Int × Int)) (hs : ps.length < 3) (w : World) :
    Calls Try.prog 41 #[.slice A ps.length c] w (ChkPost 20 w) := by
  have g1 : decide ((ps.length : Int) < 3) = true := by simp; omega
  have g3 : decide (ps.length < 3) = true := by simp; omega
  go_enter Try.func41, Try.ntmps41
  go_wp2_with fail
  go_returns
  exact ⟨rfl, by (repeat' (first | (with_reducible exact Below.refl _ _) | (with_reducible assumption) | (with_reducible refine Below.alloc ?_ ?_ _) | (with_reducible refine below_drewN ?_ _) | (with_reducible refine Below.drew ?_) | (with_reducible refine Below.setCell ?_ ?_ _) | go_size))⟩

set_option maxRecDepth 100000 in
set_option maxHeartbeats 2000000 in
theorem check_long (A : Option Addr) (c : Nat) (ps : List (Int × Int)) (hs : 10 < ps.length) (hl : ps.length ≤ 100) (w : World) :
    Calls Try.prog 41 #[.slice A ps.length c] w (ChkPost 20 w) := by
  have g1 : decide ((ps.length : Int) < 3) = false := by simp; omega
  have g3 : decide (ps.length < 3) = false := by simp; omega
  have g2 : decide (10 < (ps.length : Int)) = true := by simp; omega
  have g4 : decide (10 < ps.length) = true := by simp; omega
  go_enter Try.func41, Try.ntmps41
  go_wp2_with fail
  go_returns
  exact ⟨rfl, by (repeat' (first | (with_reducible exact Below.refl _ _) | (with_reducible assumption) | (with_reducible refine Below.alloc ?_ ?_ _) | (with_reducible refine below_drewN ?_ _) | (with_reducible refine Below.drew ?_) | (with_reducible refine Below.setCell ?_ ?_ _) | go_size))⟩

set_option maxRecDepth 100000 in
set_option maxHeartbeats 2000000 in
theorem check_same (A : Option Addr) (c : Nat) (ps : List (Int × Int)) (h3 : 3 ≤ ps.length) (h10 : ps.length ≤ 10) (hd : Geo.difB ps = false) (w : World) (hP : Prs w w.heap.size A ps) :
    Calls Try.prog 41 #[.slice A ps.length c] w (ChkPost 20 w) := by
  have HD : Hid (∀ W, Below w.heap.size w W → Calls Try.prog 75 #[.slice A ps.length c] W fun e w' => e = .returned (.bool false) ∧ Below W.heap.size W w') := fun W hW => (differ_any A c ps W (by omega) (prs_keep hP hW)).mono (by rw [hd]; exact fun _ _ h => h)
  clear hP hd
  have g1 : decide ((ps.length : Int) < 3) = false := by simp; omega
  have g2 : decide (10 < (ps.length : Int)) = false := by simp; omega
  have g3 : decide (ps.length < 3) = false := by simp; omega
  have g4 : decide (10 < ps.length) = false := by simp; omega
  go_enter Try.func41, Try.ntmps41
  go_wp2_with fail
  refine (HD.out _ (by (repeat' (first | (with_reducible exact Below.refl _ _) | (with_reducible assumption) | (with_reducible refine Below.alloc ?_ ?_ _) | (with_reducible refine below_drewN ?_ _) | (with_reducible refine Below.drew ?_) | (with_reducible refine Below.setCell ?_ ?_ _) | go_size)))).mono ?_
  rintro e w1 ⟨rfl, hb1⟩
  have hB1 : Below w.heap.size w w1 := Below.trans (by (repeat' (first | (with_reducible exact Below.refl _ _) | (with_reducible assumption) | (with_reducible refine Below.alloc ?_ ?_ _) | (with_reducible refine below_drewN ?_ _) | (with_reducible refine Below.drew ?_) | (with_reducible refine Below.setCell ?_ ?_ _) | go_size))) (hb1.mono (by first | omega | (simp; done) | (simp; omega))); have hz1 := hb1.size; try simp at hz1
  have hx1 : w1.frozen? ⟨w.heap.size + 1, 0, none⟩ = false := by rw [(hb1.frozen (by first | omega | (simp; done) | (simp; omega)))]; simp
  have hx2 : w1.cell? ⟨w.heap.size + 1, 0, none⟩ = some (.int .i64 0) := by rw [(hb1.cell (by first | omega | (simp; done) | (simp; omega)))]; (repeat (rw [World.cell?_alloc_lt _ _ _ (by first | omega | (simp; done) | (simp; omega))])); go_cell
  go_wp2_with fail
  have hx3 : (w1.setCell ⟨w.heap.size + 1, 0, none⟩ (.int .i64 20)).cell? ⟨w.heap.size + 1, 0, none⟩ = some (.int .i64 20) := cs_same hx2
  exact bodyPost_ret (v := .int .i64 20) (by simp [results, Try.results41, go_sem, hx3]) rfl ⟨rfl, by (repeat' (first | (with_reducible exact Below.refl _ _) | (with_reducible assumption) | (with_reducible refine Below.alloc ?_ ?_ _) | (with_reducible refine below_drewN ?_ _) | (with_reducible refine Below.drew ?_) | (with_reducible refine Below.setCell ?_ ?_ _) | go_size))⟩

/-- Check, of any list of points that is not too long to be walked. -/
theorem Check_any (A : Option Addr) (c : Nat) (ps : List (Int × Int)) (hl : ps.length ≤ 100) (w : World) (hP : Prs w w.heap.size A ps) :
    Calls Try.prog 41 #[.slice A ps.length c] w (ChkPost (Geo.errV ps) w) := by
  by_cases h3 : 3 ≤ ps.length
  · by_cases h10 : ps.length ≤ 10
    · cases hd : Geo.difB ps with
      | false => rw [errV_same hd]; exact check_same A c ps h3 h10 hd w hP
      | true =>
        have hsm := Geo.difB_sm hd
        have := check_in 9 (by omega) A c ps hsm h3 h10 hd w hP
        rw [chkV_errV hsm h3 h10 hd] at this
        exact (callsIn_wide (n := 9)).1 this
    · rw [errV_short (by omega)]; exact check_long A c ps (by omega) hl w
  · rw [errV_short (by omega)]; exact check_short A c ps (by omega) w
end Go.Proofs.Ytmjcdggmofohcaa
