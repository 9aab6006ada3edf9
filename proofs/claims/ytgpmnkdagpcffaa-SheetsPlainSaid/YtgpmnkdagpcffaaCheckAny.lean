/- Check of package corners, for any list of points. -/
import Derived.Test.YtgpmnkdagpcffaaCheck
namespace Go.Proofs.Ytgpmnkdagpcffaa
open Go.RowKit Go.Shelf

namespace Geo
abbrev Pt := Int × Int
/-- The sides of a polygon. -/
def sidesL (ps : List Pt) : List (Pt × Pt) := (List.range ps.length).map fun k => (ps[k]?.getD (0, 0), ps[(k + 1) % ps.length]?.getD (0, 0))
/-- A polygon is valid, as the program has it. -/
def validB (ps : List Pt) : Bool := (decide (3 ≤ ps.length) && decide (ps.length ≤ 10)) && (difB ps && !((sidesL ps).any fun s => (sidesL ps).any fun t => badB s t))
def errV (ps : List Pt) : Int := if validB ps then 0 else 20
theorem validB_parts (ps : List Pt) : validB ps = true ↔ (3 ≤ ps.length ∧ ps.length ≤ 10) ∧ difP ps ∧ ((sidesL ps).any fun s => (sidesL ps).any fun t => badB s t) = false := by
  unfold validB
  rw [Bool.and_eq_true, Bool.and_eq_true, Bool.and_eq_true, decide_eq_true_iff, decide_eq_true_iff]
  refine and_congr Iff.rfl (and_congr (by unfold difB; simp) ?_)
  simp only [Bool.not_eq_true']
theorem difB_sm {ps : List Pt} (h : difB ps = true) : ∀ p ∈ ps, sm p := by
  unfold difB difP at h
  have := of_decide_eq_true h
  exact fun p hp => pt_sm (this.1 p hp)
end Geo

theorem sidesTo_val (ps : List (Int × Int)) (h : ∀ p ∈ ps, Geo.sm p) : (sidesTo ps h ps.length).map (fun s => s.1) = Geo.sidesL ps := by
  unfold sidesTo Geo.sidesL
  rw [List.map_map]
  rfl
theorem worstB_val (ps : List (Int × Int)) (h : ∀ p ∈ ps, Geo.sm p) : worstB (sidesTo ps h ps.length) = (Geo.sidesL ps).any fun s => (Geo.sidesL ps).any fun t => Geo.badB s t := by
  unfold worstB
  rw [← sidesTo_val ps h, List.any_map]
  congr 1
  funext s
  rw [Function.comp_apply, List.any_map]
  rfl
theorem chkV_errV {ps : List (Int × Int)} (h : ∀ p ∈ ps, Geo.sm p) (h3 : 3 ≤ ps.length) (h10 : ps.length ≤ 10) (hd : Geo.difB ps = true) : chkV (sidesTo ps h ps.length) = Geo.errV ps := by
  unfold chkV Geo.errV Geo.validB
  rw [worstB_val, hd]
  cases (Geo.sidesL ps).any fun s => (Geo.sidesL ps).any fun t => Geo.badB s t <;> simp [h3, h10]
theorem errV_short {ps : List (Int × Int)} (h : ¬ (3 ≤ ps.length ∧ ps.length ≤ 10)) : Geo.errV ps = 20 := by
  unfold Geo.errV Geo.validB
  rw [if_neg]
  simp
  omega
theorem errV_same {ps : List (Int × Int)} (h : Geo.difB ps = false) : Geo.errV ps = 20 := by
  unfold Geo.errV Geo.validB
  rw [if_neg]
  simp [h]

set_option maxRecDepth 100000 in
set_option maxHeartbeats 2000000 in
theorem check_short (A : Option Addr) (c : Nat) (ps : List (Int × Int)) (hs : ps.length < 3) (w : World) :
    Calls Try.prog 80 #[.slice A ps.length c] w (ChkPost 20 w) := by
  have g1 : decide ((ps.length : Int) < 3) = true := by simp; omega
  have g3 : decide (ps.length < 3) = true := by simp; omega
  go_enter Try.func80, Try.ntmps80
  go_wp2_with fail
  go_returns
  exact ⟨rfl, by (repeat' (first | (with_reducible exact Below.refl _ _) | (with_reducible assumption) | (with_reducible refine Below.alloc ?_ ?_ _) | (with_reducible refine below_drewN ?_ _) | (with_reducible refine Below.drew ?_) | (with_reducible refine Below.setCell ?_ ?_ _) | go_size))⟩

set_option maxRecDepth 100000 in
set_option maxHeartbeats 2000000 in
theorem check_long (A : Option Addr) (c : Nat) (ps : List (Int × Int)) (hs : 10 < ps.length) (hl : ps.length ≤ 100) (w : World) :
    Calls Try.prog 80 #[.slice A ps.length c] w (ChkPost 20 w) := by
  have g1 : decide ((ps.length : Int) < 3) = false := by simp; omega
  have g3 : decide (ps.length < 3) = false := by simp; omega
  have g2 : decide (10 < (ps.length : Int)) = true := by simp; omega
  have g4 : decide (10 < ps.length) = true := by simp; omega
  go_enter Try.func80, Try.ntmps80
  go_wp2_with fail
  go_returns
  exact ⟨rfl, by (repeat' (first | (with_reducible exact Below.refl _ _) | (with_reducible assumption) | (with_reducible refine Below.alloc ?_ ?_ _) | (with_reducible refine below_drewN ?_ _) | (with_reducible refine Below.drew ?_) | (with_reducible refine Below.setCell ?_ ?_ _) | go_size))⟩

set_option maxRecDepth 100000 in
set_option maxHeartbeats 2000000 in
theorem check_same (A : Option Addr) (c : Nat) (ps : List (Int × Int)) (h3 : 3 ≤ ps.length) (h10 : ps.length ≤ 10) (hd : Geo.difB ps = false) (w : World) (hP : Prs w w.heap.size A ps) :
    Calls Try.prog 80 #[.slice A ps.length c] w (ChkPost 20 w) := by
  have HD : Hid (∀ W, Below w.heap.size w W → Calls Try.prog 122 #[.slice A ps.length c] W fun e w' => e = .returned (.bool false) ∧ Below W.heap.size W w') := fun W hW => (differ_any A c ps W (by omega) (prs_keep hP hW)).mono (by rw [hd]; exact fun _ _ h => h)
  clear hP hd
  have g1 : decide ((ps.length : Int) < 3) = false := by simp; omega
  have g2 : decide (10 < (ps.length : Int)) = false := by simp; omega
  have g3 : decide (ps.length < 3) = false := by simp; omega
  have g4 : decide (10 < ps.length) = false := by simp; omega
  go_enter Try.func80, Try.ntmps80
  go_wp2_with fail
  refine (HD.out _ (by (repeat' (first | (with_reducible exact Below.refl _ _) | (with_reducible assumption) | (with_reducible refine Below.alloc ?_ ?_ _) | (with_reducible refine below_drewN ?_ _) | (with_reducible refine Below.drew ?_) | (with_reducible refine Below.setCell ?_ ?_ _) | go_size)))).mono ?_
  rintro e w1 ⟨rfl, hb1⟩
  have hB1 : Below w.heap.size w w1 := Below.trans (by (repeat' (first | (with_reducible exact Below.refl _ _) | (with_reducible assumption) | (with_reducible refine Below.alloc ?_ ?_ _) | (with_reducible refine below_drewN ?_ _) | (with_reducible refine Below.drew ?_) | (with_reducible refine Below.setCell ?_ ?_ _) | go_size))) (hb1.mono (by first | omega | (simp; done) | (simp; omega))); have hz1 := hb1.size; try simp at hz1
  have hx1 : w1.frozen? ⟨w.heap.size + 1, 0, none⟩ = false := by rw [(hb1.frozen (by first | omega | (simp; done) | (simp; omega)))]; simp
  have hx2 : w1.cell? ⟨w.heap.size + 1, 0, none⟩ = some (.int .i64 0) := by rw [(hb1.cell (by first | omega | (simp; done) | (simp; omega)))]; (repeat (rw [World.cell?_alloc_lt _ _ _ (by first | omega | (simp; done) | (simp; omega))])); go_cell
  go_wp2_with fail
  have hx3 : (w1.setCell ⟨w.heap.size + 1, 0, none⟩ (.int .i64 20)).cell? ⟨w.heap.size + 1, 0, none⟩ = some (.int .i64 20) := cs_same hx2
  exact bodyPost_ret (v := .int .i64 20) (by simp [results, Try.results80, go_sem, hx3]) rfl ⟨rfl, by (repeat' (first | (with_reducible exact Below.refl _ _) | (with_reducible assumption) | (with_reducible refine Below.alloc ?_ ?_ _) | (with_reducible refine below_drewN ?_ _) | (with_reducible refine Below.drew ?_) | (with_reducible refine Below.setCell ?_ ?_ _) | go_size))⟩

/-- Check, of any list of points that is not too long to be walked. -/
theorem Check_any (A : Option Addr) (c : Nat) (ps : List (Int × Int)) (hl : ps.length ≤ 100) (w : World) (hP : Prs w w.heap.size A ps) :
    Calls Try.prog 80 #[.slice A ps.length c] w (ChkPost (Geo.errV ps) w) := by
  by_cases h3 : 3 ≤ ps.length
  · by_cases h10 : ps.length ≤ 10
    · cases hd : Geo.difB ps with
      | false => rw [errV_same hd]; exact check_same A c ps h3 h10 hd w hP
      | true =>
        have hsm := Geo.difB_sm hd
        have := check_in 9 (by omega) A c ps hsm h3 h10 hd w hP
        rw [chkV_errV hsm h3 h10 hd] at this
        exact (callsIn_wide (n := 9)).1 this
    · rw [errV_short (by omega)]; exact check_long A c ps (by omega) hl w
  · rw [errV_short (by omega)]; exact check_short A c ps (by omega) w
end Go.Proofs.Ytgpmnkdagpcffaa
