/- How a point lies to a polygon, as the reference has it. -/
import Derived.Test.YtkfnngcphcfbjaaMeet
import Derived.Test.YtkfnngcphcfbjaaRefA
import Derived.Test.YtkfnngcphcfbjaaLies
import Derived.Test.YtkfnngcphcfbjaaValid
import Derived.Deep.DeepCutAuto
namespace Go.Proofs.Ytkfnngcphcfbjaa
open Go.RowKit

namespace Geo
/-- A side is crossed, as the reference has it. -/
def refCross (a b p : Pt) : Bool := (decide (p.2 < a.2) != decide (p.2 < b.2)) && (decide (0 < turn a b p) == decide (a.2 < b.2))
/-- The number of crossed sides among the first k. -/
def crossN (ps : List Pt) (p : Pt) : Nat → Nat
  | 0 => 0
  | k + 1 => crossN ps p k + (if refCross (ptAt ps k) (ptAt ps ((k + 1) % ps.length)) p then 1 else 0)
theorem crossN_le (ps : List Pt) (p : Pt) (k : Nat) : crossN ps p k ≤ k := by
  induction k with
  | zero => simp [crossN]
  | succ k ih => unfold crossN; split <;> omega
def offP (ps : List Pt) (p : Pt) (m : Nat) : Prop := ∀ k, k < m → onB (ptAt ps k) (ptAt ps ((k + 1) % ps.length)) p = false
theorem offP_succ {ps : List Pt} {p : Pt} {k : Nat} (h : offP ps p k) (h1 : onB (ptAt ps k) (ptAt ps ((k + 1) % ps.length)) p = false) : offP ps p (k + 1) := by
  intro m hm
  rcases Nat.lt_succ_iff_lt_or_eq.1 hm with h2 | rfl
  · exact h m h2
  · exact h1
open Classical in
noncomputable def refLies (ps : List Pt) (p : Pt) : Int := if offP ps p ps.length then (if crossN ps p ps.length % 2 = 1 then 1 else 3) else 2
theorem refLies_on {ps : List Pt} {p : Pt} {k : Nat} (hk : k < ps.length) (h : onB (ptAt ps k) (ptAt ps ((k + 1) % ps.length)) p = true) : refLies ps p = 2 := by
  unfold refLies
  rw [if_neg (fun h2 => by rw [h2 k hk] at h; cases h)]
theorem refLies_in {ps : List Pt} {p : Pt} (h : offP ps p ps.length) (h1 : crossN ps p ps.length % 2 = 1) : refLies ps p = 1 := by unfold refLies; rw [if_pos h, if_pos h1]
theorem refLies_out {ps : List Pt} {p : Pt} (h : offP ps p ps.length) (h1 : ¬ crossN ps p ps.length % 2 = 1) : refLies ps p = 3 := by unfold refLies; rw [if_pos h, if_neg h1]
end Geo

set_option maxRecDepth 100000 in
set_option maxHeartbeats 4000000 in
theorem refwhere_any (A : Option Addr) (c : Nat) (ps : List (Int × Int)) (hsm : ∀ p ∈ ps, Geo.sm p) (hl : ps.length ≤ 100) (ax ay : Int) (ha : Geo.sm (ax, ay)) (w : World) (hP : Prs w w.heap.size A ps) :
    Calls Try.prog 74 #[.slice A ps.length c, .agg #[.int .i64 ax, .int .i64 ay]] w (LiesPost (Geo.refLies ps (ax, ay)) w) := by
  have HG := Lib.hid hP
  have HSM := Lib.hid hsm
  have HA := Lib.hid ha
  have hll : (ps.length : Int) ≤ 100 := by omega
  clear hP hsm ha
  go_enter Try.func74, Try.ntmps74
  go_wp2_with fail
  have bQ := BoxS.new w 24 #[.int .i64 ax, .int .i64 ay]
  have hBw : Below w.heap.size w (w.alloc (.cells #[.int .i64 ax, .int .i64 ay] 24)) := (Below.refl _ w).alloc (Nat.le_refl _) _
  generalize World.alloc _ _ = wo at *
  go_loopw [5, 6] (fun m x wr => ∃ k : Nat, (k : Int) ≤ ps.length ∧ x = .int .i64 k ∧ m = .int .i64 (Geo.crossN ps (ax, ay) k) ∧ Below wo.heap.size wo wr ∧ Hid (Geo.offP ps (ax, ay) k)) (fun _ x _ => (ps.length - intOf x).toNat)
  case atStart => exact ⟨0, by omega, rfl, rfl, Below.refl _ _, Lib.hid (fun i hi => by omega)⟩
  case round =>
    obtain ⟨i, hi, rfl, rfl, hBo, hF⟩ := hrel
    have hi0 := Int.natCast_nonneg i
    have bQ1 := bQ.below hBo
    have hB := hBw.trans (hBo.mono hBw.size)
    have hcle := Geo.crossN_le ps (ax, ay) i
    by_cases hlt : (i : Int) < ps.length
    · have hil : i < ps.length := by omega
      obtain ⟨b, off, rfl, hb, hc⟩ := HG.out (by omega)
      have HC : Hid (∀ W, Below w.heap.size w W → ∀ k, k < ps.length → W.cell? ⟨b, off + k * 2, none⟩ = some (.int .i64 (Geo.ptAt ps k).1) ∧ W.cell? ⟨b, off + k * 2 + 1, none⟩ = some (.int .i64 (Geo.ptAt ps k).2)) := fun W hW k hk => by
        have hg : ps[k]? = some ps[k] := List.getElem?_eq_getElem hk
        have := hc k _ hg
        rw [Geo.ptAt_eq hg]
        exact ⟨(hW.cell (p := ⟨b, off + k * 2, none⟩) hb).trans this.1, (hW.cell (p := ⟨b, off + k * 2 + 1, none⟩) hb).trans this.2⟩
      clear hc HG
      have hbw : b < wr.heap.size := by have := hB.size; omega
      have hm1 : (i + 1) % ps.length < ps.length := Nat.mod_lt _ (by omega)
      have N1 := fun W => next_any (some ⟨b, off, none⟩) c ps i W hl hil
      have HCN : Hid (Geo.crossN ps (ax, ay) (i + 1) = Geo.crossN ps (ax, ay) i + (if Geo.refCross (Geo.ptAt ps i) (Geo.ptAt ps ((i + 1) % ps.length)) (ax, ay) then 1 else 0)) := rfl
      have HON : Hid (∀ h : Geo.onB (Geo.ptAt ps i) (Geo.ptAt ps ((i + 1) % ps.length)) (ax, ay) = false, Geo.offP ps (ax, ay) (i + 1)) := fun h => Geo.offP_succ hF.out h
      have HYE : Hid (∀ h : Geo.onB (Geo.ptAt ps i) (Geo.ptAt ps ((i + 1) % ps.length)) (ax, ay) = true, Geo.refLies ps (ax, ay) = 2) := fun h => Geo.refLies_on hil h
      generalize (i + 1) % ps.length = i1 at *
      have HN1 := Lib.hid N1
      clear N1
      have hm1i : (i1 : Int) < ps.length := by omega
      obtain ⟨a0, a1⟩ := HC.out _ hB i hil
      obtain ⟨a2, a3⟩ := HC.out _ hB i1 hm1
      have s1 : Geo.sm (Geo.ptAt ps i) := by rw [Geo.ptAt_eq (List.getElem?_eq_getElem hil)]; exact HSM.out _ (List.getElem_mem hil)
      have s2 : Geo.sm (Geo.ptAt ps i1) := by rw [Geo.ptAt_eq (List.getElem?_eq_getElem hm1)]; exact HSM.out _ (List.getElem_mem hm1)
      generalize Geo.ptAt ps i = pa at *
      generalize Geo.ptAt ps i1 = pb at *
      obtain ⟨x1, y1⟩ := pa
      obtain ⟨x2, y2⟩ := pb
      dsimp only at a0 a1 a2 a3
      have HO : Hid (∀ W, Calls Try.prog 55 #[.agg #[.int .i64 x1, .int .i64 y1], .agg #[.int .i64 x2, .int .i64 y2], .agg #[.int .i64 ax, .int .i64 ay]] W fun e w' => e = .returned (.bool (Geo.onB (x1, y1) (x2, y2) (ax, ay))) ∧ Below W.heap.size W w') := fun W => On_any _ _ _ _ _ _ W s1 s2 HA.out
      have HT : Hid (∀ W, Calls Try.prog 29 #[.agg #[.int .i64 x1, .int .i64 y1], .agg #[.int .i64 x2, .int .i64 y2], .agg #[.int .i64 ax, .int .i64 ay]] W fun e w' => e = .returned (.int .i64 (Geo.turn (x1, y1) (x2, y2) (ax, ay))) ∧ Below W.heap.size W w') := fun W => Turn_any _ _ _ _ _ _ W s1 s2 HA.out
      unfold Geo.refCross at HCN
      generalize Geo.onB (x1, y1) (x2, y2) (ax, ay) = o1 at *
      generalize Geo.turn (x1, y1) (x2, y2) (ax, ay) = T at *
      dsimp only at HCN
      clear s1 s2
      go_upto_region 5 with fail
      go_cut [7, 8] from 10 to 54 (fun s6 s7 wx => ∃ g h : Nat, s6 = .pointer (some ⟨g, 0, none⟩) ∧ s7 = .pointer (some ⟨h, 0, none⟩) ∧ BoxS wx g 24 #[.int .i64 x1, .int .i64 y1] ∧ BoxS wx h 24 #[.int .i64 x2, .int .i64 y2] ∧ Below wr.heap.size wr wx)
      case first =>
        refine (wpIn_wide (n := 4)).1 ?_
        have hmo : Try.prog.follows .mixedOrders = true := by kernel_rfl
        have q0 : Below wr.heap.size wr wr.drew := (Below.refl _ _).drew
        have KC : Hid (∀ W', Below wr.heap.size wr W' → (W'.cell? ⟨b, off + i * 2, none⟩ = some (.int .i64 x1) ∧ W'.cell? ⟨b, off + i * 2 + 1, none⟩ = some (.int .i64 y1)) ∧ (W'.cell? ⟨b, off + i1 * 2, none⟩ = some (.int .i64 x2) ∧ W'.cell? ⟨b, off + i1 * 2 + 1, none⟩ = some (.int .i64 y2))) := fun W' h => ⟨⟨(h.cell (p := ⟨b, off + i * 2, none⟩) hbw).trans a0, (h.cell (p := ⟨b, off + i * 2 + 1, none⟩) hbw).trans a1⟩, (h.cell (p := ⟨b, off + i1 * 2, none⟩) hbw).trans a2, (h.cell (p := ⟨b, off + i1 * 2 + 1, none⟩) hbw).trans a3⟩
        clear a0 a1 a2 a3
        refine wpIn_region_held (fun W' => Below wr.heap.size wr W') 14 hmo ?_
        refine wpHeldIn_take (i := 0) (v := ?_) (plain_of (by kernel_rfl)) rfl (by kernel_rfl) (fun _ _ _ h => h) (yieldsSoIn_of (by kernel_rfl) ?_ (fun _ => rfl)) q0 ?_; rotate_left; focus (intro wq hw; clear hw; go_simp; try (with_reducible rfl))
        refine wpHeldIn_take (i := 1) (v := ?_) (plain_of (by kernel_rfl)) rfl (by kernel_rfl) (fun _ _ _ h => h) (yieldsSoIn_of (by kernel_rfl) ?_ (fun _ => rfl)) q0 ?_; rotate_left; focus (intro wq hw; clear hw; go_simp; try (with_reducible rfl))
        refine wpHeldIn_take (i := 2) (v := ?_) (plain_of (by kernel_rfl)) rfl (by kernel_rfl) (fun _ _ _ h => h) (yieldsSoIn_of (by kernel_rfl) ?_ (fun _ => rfl)) q0 ?_; rotate_left; focus (intro wq hw; clear hw; go_simp; try (with_reducible rfl))
        refine wpHeldIn_take (i := 3) (v := ?_) (plain_of (by kernel_rfl)) rfl (by kernel_rfl) (fun _ _ _ h => h) (yieldsSoIn_of (by kernel_rfl) ?_ (fun _ => rfl)) q0 ?_; rotate_left; focus (intro wq hw; have kq := KC.out wq hw; clear hw; go_simp; try (with_reducible rfl))
        refine wpHeldIn_take (i := 4) (v := ?_) (plain_of (by kernel_rfl)) rfl (by kernel_rfl) (fun _ _ _ h => h) (yieldsSoIn_of (by kernel_rfl) ?_ (fun _ => rfl)) q0 ?_; rotate_left; focus (intro wq hw; clear hw; go_simp; try (with_reducible rfl))
        refine wpHeldIn_take (i := 5) (v := ?_) (plain_of (by kernel_rfl)) rfl (by kernel_rfl) (fun _ _ _ h => h) (yieldsSoIn_of (by kernel_rfl) ?_ (fun _ => rfl)) q0 ?_; rotate_left; focus (intro wq hw; clear hw; go_simp; try (with_reducible rfl))
        refine wpHeldIn_take (i := 6) (v := ?_) (plain_of (by kernel_rfl)) rfl (by kernel_rfl) (fun _ _ _ h => h) (yieldsSoIn_of (by kernel_rfl) ?_ (fun _ => rfl)) q0 ?_; rotate_left; focus (intro wq hw; clear hw; go_simp; try (with_reducible rfl))
        refine wpHeldIn_take (i := 7) (v := .int .i64 i1) (plain_of (by kernel_rfl)) rfl (by kernel_rfl) (fun _ _ _ h => h) (yieldsSoIn_call (by kernel_rfl) ?_ rfl (fun _ => trivial) (fun m wq hw => callsIn_wide.2 ((HN1.out wq).mono (fun e w' h => ⟨h.1, h.2.symm⟩)))) q0 ?_; focus (intro wq hw; clear hw; go_simp; try (with_reducible rfl))
        refine wpHeldIn_take (i := 8) (v := ?_) (plain_of (by kernel_rfl)) rfl (by kernel_rfl) (fun _ _ _ h => h) (yieldsSoIn_of (by kernel_rfl) ?_ (fun _ => rfl)) q0 ?_; rotate_left; focus (intro wq hw; clear hw; go_simp; try (with_reducible rfl))
        refine wpHeldIn_take (i := 9) (v := ?_) (plain_of (by kernel_rfl)) rfl (by kernel_rfl) (fun _ _ _ h => h) (yieldsSoIn_of (by kernel_rfl) ?_ (fun _ => rfl)) q0 ?_; rotate_left; focus (intro wq hw; have kq := KC.out wq hw; clear hw; go_simp; try (with_reducible rfl))
        refine wpHeldIn_two (i := 10) (j := 11) (by kernel_rfl) (by kernel_rfl) (by kernel_rfl) rfl rfl (by kernel_rfl) (by kernel_rfl) (fun K' hK' => ?_) (fun K' hK' => ?_)
        · go_simp
          refine hK' _ _ (by (repeat' (first | (with_reducible exact Below.refl _ _) | (with_reducible assumption) | (with_reducible refine Below.alloc ?_ ?_ _) | (with_reducible refine Below.drew ?_) | (with_reducible refine Below.setCell ?_ ?_ _) | go_size | (exact (by simp)) | omega))) ?_
          refine wpHeldIn_one (i := 11) (by kernel_rfl) (by kernel_rfl) rfl (by kernel_rfl) (fun K' hK' => ?_); go_simp; refine hK' _ _ (by (repeat' (first | (with_reducible exact Below.refl _ _) | (with_reducible assumption) | (with_reducible refine Below.alloc ?_ ?_ _) | (with_reducible refine Below.drew ?_) | (with_reducible refine Below.setCell ?_ ?_ _) | go_size | (exact (by simp)) | omega))) ?_
          refine wpHeldIn_one (i := 12) (by kernel_rfl) (by kernel_rfl) rfl (by kernel_rfl) (fun K' hK' => ?_); go_simp; refine hK' _ _ (by (repeat' (first | (with_reducible exact Below.refl _ _) | (with_reducible assumption) | (with_reducible refine Below.alloc ?_ ?_ _) | (with_reducible refine Below.drew ?_) | (with_reducible refine Below.setCell ?_ ?_ _) | go_size | (exact (by simp)) | omega))) ?_
          refine wpHeldIn_one (i := 13) (by kernel_rfl) (by kernel_rfl) rfl (by kernel_rfl) (fun K' hK' => ?_); go_simp; refine hK' _ _ (by (repeat' (first | (with_reducible exact Below.refl _ _) | (with_reducible assumption) | (with_reducible refine Below.alloc ?_ ?_ _) | (with_reducible refine Below.drew ?_) | (with_reducible refine Below.setCell ?_ ?_ _) | go_size | (exact (by simp)) | omega))) ?_
          refine wpHeldIn_done (by kernel_rfl) ?_ _
          go_wp2_with fail
          go_meet
          exact ⟨_, _, rfl, rfl, BoxS.drew ((BoxS.new wr _ _).alloc _), BoxS.drew (by have := BoxS.new (wr.alloc (.cells #[.int .i64 x1, .int .i64 y1] 24)) 24 #[.int .i64 x2, .int .i64 y2]; rw [World.size_alloc] at this; exact this), by (repeat' (first | (with_reducible exact Below.refl _ _) | (with_reducible assumption) | (with_reducible refine Below.alloc ?_ ?_ _) | (with_reducible refine Below.drew ?_) | (with_reducible refine Below.setCell ?_ ?_ _) | go_size | (exact (by simp)) | omega))⟩
        · go_simp
          refine hK' _ _ (by (repeat' (first | (with_reducible exact Below.refl _ _) | (with_reducible assumption) | (with_reducible refine Below.alloc ?_ ?_ _) | (with_reducible refine Below.drew ?_) | (with_reducible refine Below.setCell ?_ ?_ _) | go_size | (exact (by simp)) | omega))) ?_
          refine wpHeldIn_one (i := 10) (by kernel_rfl) (by kernel_rfl) rfl (by kernel_rfl) (fun K' hK' => ?_); go_simp; refine hK' _ _ (by (repeat' (first | (with_reducible exact Below.refl _ _) | (with_reducible assumption) | (with_reducible refine Below.alloc ?_ ?_ _) | (with_reducible refine Below.drew ?_) | (with_reducible refine Below.setCell ?_ ?_ _) | go_size | (exact (by simp)) | omega))) ?_
          refine wpHeldIn_one (i := 12) (by kernel_rfl) (by kernel_rfl) rfl (by kernel_rfl) (fun K' hK' => ?_); go_simp; refine hK' _ _ (by (repeat' (first | (with_reducible exact Below.refl _ _) | (with_reducible assumption) | (with_reducible refine Below.alloc ?_ ?_ _) | (with_reducible refine Below.drew ?_) | (with_reducible refine Below.setCell ?_ ?_ _) | go_size | (exact (by simp)) | omega))) ?_
          refine wpHeldIn_one (i := 13) (by kernel_rfl) (by kernel_rfl) rfl (by kernel_rfl) (fun K' hK' => ?_); go_simp; refine hK' _ _ (by (repeat' (first | (with_reducible exact Below.refl _ _) | (with_reducible assumption) | (with_reducible refine Below.alloc ?_ ?_ _) | (with_reducible refine Below.drew ?_) | (with_reducible refine Below.setCell ?_ ?_ _) | go_size | (exact (by simp)) | omega))) ?_
          refine wpHeldIn_done (by kernel_rfl) ?_ _
          go_wp2_with fail
          go_meet
          exact ⟨_, _, rfl, rfl, BoxS.drew (by have := BoxS.new (wr.alloc (.cells #[.int .i64 x2, .int .i64 y2] 24)) 24 #[.int .i64 x1, .int .i64 y1]; rw [World.size_alloc] at this; exact this), BoxS.drew ((BoxS.new wr _ _).alloc _), by (repeat' (first | (with_reducible exact Below.refl _ _) | (with_reducible assumption) | (with_reducible refine Below.alloc ?_ ?_ _) | (with_reducible refine Below.drew ?_) | (with_reducible refine Below.setCell ?_ ?_ _) | go_size | (exact (by simp)) | omega))⟩
      case rest =>
        obtain ⟨g, h, rfl, rfl, bg, bh, hBc⟩ := hcut
        have bQ2 := bQ1.below hBc
        have hB1 := hBo.trans (hBc.mono hBo.size)
        have hBf := hB.trans (hBc.mono hB.size)
        clear a0 a1 a2 a3 hbw bQ bQ1 hBc hBo hB
        obtain ⟨w0, rfl⟩ : ∃ w0 : World, w0 = wc := ⟨_, rfl⟩
        obtain ⟨cg0, cg1⟩ := boxS2 bg
        obtain ⟨ch0, ch1⟩ := boxS2 bh
        obtain ⟨cq0, cq1⟩ := boxS2 bQ2
        go_wp2_with fail
        refine (HO.out _).mono ?_
        rintro e w2 ⟨rfl, hb2⟩
        clear cg0 cg1 ch0 ch1 cq0 cq1
        have bg2 := bg.below hb2
        have bh2 := bh.below hb2
        have bQ3 := bQ2.below hb2
        have hB2 := hB1.trans (hb2.mono hB1.size)
        have hBg := hBf.trans (hb2.mono hBf.size)
        clear bg bh bQ2 hb2 hB1 hBf
        cases o1 with
        | true =>
          have hv := Lib.hid (HYE.out rfl)
          go_wp2_with fail
          go_returns
          exact ⟨ret_i hv.out.symm, hBg⟩
        | false =>
          have ho2 := Lib.hid (HON.out rfl)
          obtain ⟨cg0, cg1⟩ := boxS2 bg2
          obtain ⟨ch0, ch1⟩ := boxS2 bh2
          obtain ⟨cq0, cq1⟩ := boxS2 bQ3
          have hB4 := hB2
          clear hB2
          by_cases ya : ay < y1
          · by_cases yb : ay < y2
            · have e0 : (decide (ay < y1) == decide (ay < y2)) = true := by rw [decide_eq_true ya, decide_eq_true yb]; rfl
              have hc2 := Lib.hid (show Geo.crossN ps (ax, ay) (i + 1) = Geo.crossN ps (ax, ay) i by rw [HCN.out, decide_eq_true ya, decide_eq_true yb]; rfl)
              go_wp2_with fail
              go_roundw
              case rel => exact ⟨i + 1, by omega, by go_num, by rw [hc2.out], hB4, ho2⟩
              case measure => simp [intOf]; omega
            · have e0 : (decide (ay < y1) == decide (ay < y2)) = false := by rw [decide_eq_true ya, decide_eq_false yb]; rfl
              have yab : ¬ y1 < y2 := by omega
              by_cases ht : 0 < T
              · have e1 : (decide (0 < T) == decide (y1 < y2)) = false := by rw [decide_eq_true ht, decide_eq_false yab]; rfl
                have hc2 := Lib.hid (show Geo.crossN ps (ax, ay) (i + 1) = Geo.crossN ps (ax, ay) i by rw [HCN.out, decide_eq_true ya, decide_eq_false yb, decide_eq_false yab, decide_eq_true ht]; rfl)
                go_wp2_with fail
                refine (HT.out _).mono ?_
                rintro e w5 ⟨rfl, hb5⟩
                have hB4 : Below wo.heap.size wo w5 := hB4.trans (hb5.mono hB4.size)
                clear cg0 cg1 ch0 ch1 cq0 cq1
                go_wp2_with fail
                go_roundw
                case rel => exact ⟨i + 1, by omega, by go_num, by rw [hc2.out], hB4, ho2⟩
                case measure => simp [intOf]; omega
              · have e1 : (decide (0 < T) == decide (y1 < y2)) = true := by rw [decide_eq_false ht, decide_eq_false yab]; rfl
                have hc2 := Lib.hid (show Geo.crossN ps (ax, ay) (i + 1) = Geo.crossN ps (ax, ay) i + 1 by rw [HCN.out, decide_eq_true ya, decide_eq_false yb, decide_eq_false yab, decide_eq_false ht]; rfl)
                go_wp2_with fail
                refine (HT.out _).mono ?_
                rintro e w5 ⟨rfl, hb5⟩
                have hB4 : Below wo.heap.size wo w5 := hB4.trans (hb5.mono hB4.size)
                clear cg0 cg1 ch0 ch1 cq0 cq1
                go_wp2_with fail
                go_roundw
                case rel => exact ⟨i + 1, by omega, by go_num, by rw [hc2.out]; go_num, hB4, ho2⟩
                case measure => simp [intOf]; omega
          · by_cases yb : ay < y2
            · have e0 : (decide (ay < y1) == decide (ay < y2)) = false := by rw [decide_eq_false ya, decide_eq_true yb]; rfl
              have yab : y1 < y2 := by omega
              by_cases ht : 0 < T
              · have e1 : (decide (0 < T) == decide (y1 < y2)) = true := by rw [decide_eq_true ht, decide_eq_true yab]; rfl
                have hc2 := Lib.hid (show Geo.crossN ps (ax, ay) (i + 1) = Geo.crossN ps (ax, ay) i + 1 by rw [HCN.out, decide_eq_false ya, decide_eq_true yb, decide_eq_true yab, decide_eq_true ht]; rfl)
                go_wp2_with fail
                refine (HT.out _).mono ?_
                rintro e w5 ⟨rfl, hb5⟩
                have hB4 : Below wo.heap.size wo w5 := hB4.trans (hb5.mono hB4.size)
                clear cg0 cg1 ch0 ch1 cq0 cq1
                go_wp2_with fail
                go_roundw
                case rel => exact ⟨i + 1, by omega, by go_num, by rw [hc2.out]; go_num, hB4, ho2⟩
                case measure => simp [intOf]; omega
              · have e1 : (decide (0 < T) == decide (y1 < y2)) = false := by rw [decide_eq_false ht, decide_eq_true yab]; rfl
                have hc2 := Lib.hid (show Geo.crossN ps (ax, ay) (i + 1) = Geo.crossN ps (ax, ay) i by rw [HCN.out, decide_eq_false ya, decide_eq_true yb, decide_eq_true yab, decide_eq_false ht]; rfl)
                go_wp2_with fail
                refine (HT.out _).mono ?_
                rintro e w5 ⟨rfl, hb5⟩
                have hB4 : Below wo.heap.size wo w5 := hB4.trans (hb5.mono hB4.size)
                clear cg0 cg1 ch0 ch1 cq0 cq1
                go_wp2_with fail
                go_roundw
                case rel => exact ⟨i + 1, by omega, by go_num, by rw [hc2.out], hB4, ho2⟩
                case measure => simp [intOf]; omega
            · have e0 : (decide (ay < y1) == decide (ay < y2)) = true := by rw [decide_eq_false ya, decide_eq_false yb]; rfl
              have hc2 := Lib.hid (show Geo.crossN ps (ax, ay) (i + 1) = Geo.crossN ps (ax, ay) i by rw [HCN.out, decide_eq_false ya, decide_eq_false yb]; rfl)
              go_wp2_with fail
              go_roundw
              case rel => exact ⟨i + 1, by omega, by go_num, by rw [hc2.out], hB4, ho2⟩
              case measure => simp [intOf]; omega
    · obtain rfl : i = ps.length := by omega
      have hpar : ((Geo.crossN ps (ax, ay) ps.length : Nat) : Int).tmod 2 = ((Geo.crossN ps (ax, ay) ps.length % 2 : Nat) : Int) := by rw [Int.tmod_eq_emod_of_nonneg (by omega)]; omega
      by_cases hp : Geo.crossN ps (ax, ay) ps.length % 2 = 1
      · have hv := Lib.hid (Geo.refLies_in hF.out hp)
        have hq : ((Geo.crossN ps (ax, ay) ps.length : Nat) : Int) % 2 = 1 := by omega
        clear hp
        go_wp2_with fail
        all_goals
          go_returns
          exact ⟨ret_i hv.out.symm, hB⟩
      · have hv := Lib.hid (Geo.refLies_out hF.out hp)
        have hq : ¬ ((Geo.crossN ps (ax, ay) ps.length : Nat) : Int) % 2 = 1 := by omega
        clear hp
        go_wp2_with fail
        all_goals
          go_returns
          exact ⟨ret_i hv.out.symm, hB⟩
end Go.Proofs.Ytkfnngcphcfbjaa
