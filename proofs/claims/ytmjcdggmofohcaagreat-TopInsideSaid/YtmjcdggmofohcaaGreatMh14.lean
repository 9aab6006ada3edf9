/- Texts of this proof, one behind the other: Ex5, WhA, WhB, Far, WhD, FarP. Each says its own conditions. -/
import Derived.Test.YtmjcdggmofohcaaGreatMh01
import Derived.Test.YtmjcdggmofohcaaGreatMh04
import Derived.Test.YtmjcdggmofohcaaGreatMh13
import Derived.RangeFuncNested
import Derived.RangeFuncBound
import Derived.RangeFuncCalls
import Derived.RangeFuncLeaves
import Derived.Shelf.Abstract
import Derived.Shelf.RegionOpen
import Derived.WalkKit
import Derived.OwnWalkIn
import Derived.TacticsInMore
import Derived.LoopNIn
import Derived.LoopIn
import Derived.Stop.RegionWithIn
namespace Go.Proofs.YtmjcdggmofohcaaGreat
open Go.RowKit
def exK5 : Wl.Trk := ⟨[(0, 0), (2, 0), (4, 0)], 0, 1, 13⟩
def exC5 : Wl.Trk := ⟨[(0, 0), (2, 0), (2, 2), (0, 2)], 1, 1, 2⟩
def exA5 : List Wl.Pt := [(0, 2), (4, 2), (4, 3), (0, 3)]
def exB5 : List Wl.Pt := [(-1, -1), (3, -1), (3, 3), (-1, 3)]
def Ex5Post (w : World) (e : Ending) (w' : World) : Prop := ∃ (Ak Aa Ac Ab : Option Addr) (ck ca cc cb : Nat), e = .returned (.tuple #[.agg #[.slice Ak 3 ck, .int .i64 0, .int .i64 1, .int .i64 13], .slice Aa 4 ca, .agg #[.slice Ac 4 cc, .int .i64 1, .int .i64 1, .int .i64 2], .slice Ab 4 cb]) ∧ (Hid (Prs w' w'.heap.size Ak exK5.ps) ∧ Hid (Prs w' w'.heap.size Aa exA5)) ∧ (Hid (Prs w' w'.heap.size Ac exC5.ps) ∧ Hid (Prs w' w'.heap.size Ab exB5)) ∧ Below w.heap.size w w'
theorem prs_of_box {W : World} {B : Nat} {ty : TypeId} {ps : List (Int × Int)} (h : BoxS W B ty (flat ps).toArray) : Prs W W.heap.size (some ⟨B, 0, none⟩) ps := fun _ => ⟨B, 0, rfl, h.lt, fun k g hk => by
  obtain ⟨h1, h2⟩ := flat_get ps k
  rw [hk] at h1 h2
  rw [Nat.zero_add]
  exact ⟨h.cell (k * 2) (by rw [List.getElem?_toArray]; exact h1), h.cell (k * 2 + 1) (by rw [List.getElem?_toArray]; exact h2)⟩⟩
set_option maxRecDepth 100000 in
set_option maxHeartbeats 8000000 in
theorem Example5_any (w : World) : Calls Tryz.prog 23 #[] w (Ex5Post w) := by
  go_enter Tryz.func23, Tryz.ntmps23
  go_wp2_with fail
  have bK : BoxS ((((w.alloc (.cells #[.slice (some ⟨w.heap.size + 1 + 1, 0, none⟩) 3 3, .int .i64 0, .int .i64 1, .int .i64 13] 26)).alloc (.cells #[.slice (some ⟨w.heap.size + 1 + 1 + 1, 0, none⟩) 4 4, .int .i64 1, .int .i64 1, .int .i64 2] 26)).alloc (.cells #[.int .i64 0, .int .i64 0, .int .i64 2, .int .i64 0, .int .i64 4, .int .i64 0] 53)).alloc (.cells #[.int .i64 0, .int .i64 0, .int .i64 2, .int .i64 0, .int .i64 2, .int .i64 2, .int .i64 0, .int .i64 2] 53)) w.heap.size 26 #[.slice (some ⟨w.heap.size + 1 + 1, 0, none⟩) 3 3, .int .i64 0, .int .i64 1, .int .i64 13] := (((BoxS.new w 26 #[.slice (some ⟨w.heap.size + 1 + 1, 0, none⟩) 3 3, .int .i64 0, .int .i64 1, .int .i64 13]).alloc _).alloc _).alloc _
  have bC : BoxS ((((w.alloc (.cells #[.slice (some ⟨w.heap.size + 1 + 1, 0, none⟩) 3 3, .int .i64 0, .int .i64 1, .int .i64 13] 26)).alloc (.cells #[.slice (some ⟨w.heap.size + 1 + 1 + 1, 0, none⟩) 4 4, .int .i64 1, .int .i64 1, .int .i64 2] 26)).alloc (.cells #[.int .i64 0, .int .i64 0, .int .i64 2, .int .i64 0, .int .i64 4, .int .i64 0] 53)).alloc (.cells #[.int .i64 0, .int .i64 0, .int .i64 2, .int .i64 0, .int .i64 2, .int .i64 2, .int .i64 0, .int .i64 2] 53)) (w.heap.size + 1) 26 #[.slice (some ⟨w.heap.size + 1 + 1 + 1, 0, none⟩) 4 4, .int .i64 1, .int .i64 1, .int .i64 2] := by
    have := ((BoxS.new (w.alloc (.cells #[.slice (some ⟨w.heap.size + 1 + 1, 0, none⟩) 3 3, .int .i64 0, .int .i64 1, .int .i64 13] 26)) 26 #[.slice (some ⟨w.heap.size + 1 + 1 + 1, 0, none⟩) 4 4, .int .i64 1, .int .i64 1, .int .i64 2]).alloc (.cells #[.int .i64 0, .int .i64 0, .int .i64 2, .int .i64 0, .int .i64 4, .int .i64 0] 53)).alloc (.cells #[.int .i64 0, .int .i64 0, .int .i64 2, .int .i64 0, .int .i64 2, .int .i64 2, .int .i64 0, .int .i64 2] 53)
    simp only [World.size_alloc] at this
    exact this
  have bP : BoxS ((((w.alloc (.cells #[.slice (some ⟨w.heap.size + 1 + 1, 0, none⟩) 3 3, .int .i64 0, .int .i64 1, .int .i64 13] 26)).alloc (.cells #[.slice (some ⟨w.heap.size + 1 + 1 + 1, 0, none⟩) 4 4, .int .i64 1, .int .i64 1, .int .i64 2] 26)).alloc (.cells #[.int .i64 0, .int .i64 0, .int .i64 2, .int .i64 0, .int .i64 4, .int .i64 0] 53)).alloc (.cells #[.int .i64 0, .int .i64 0, .int .i64 2, .int .i64 0, .int .i64 2, .int .i64 2, .int .i64 0, .int .i64 2] 53)) (w.heap.size + 1 + 1) 53 #[.int .i64 0, .int .i64 0, .int .i64 2, .int .i64 0, .int .i64 4, .int .i64 0] := by
    have := (BoxS.new ((w.alloc (.cells #[.slice (some ⟨w.heap.size + 1 + 1, 0, none⟩) 3 3, .int .i64 0, .int .i64 1, .int .i64 13] 26)).alloc (.cells #[.slice (some ⟨w.heap.size + 1 + 1 + 1, 0, none⟩) 4 4, .int .i64 1, .int .i64 1, .int .i64 2] 26)) 53 #[.int .i64 0, .int .i64 0, .int .i64 2, .int .i64 0, .int .i64 4, .int .i64 0]).alloc (.cells #[.int .i64 0, .int .i64 0, .int .i64 2, .int .i64 0, .int .i64 2, .int .i64 2, .int .i64 0, .int .i64 2] 53)
    simp only [World.size_alloc] at this
    exact this
  have bQ : BoxS ((((w.alloc (.cells #[.slice (some ⟨w.heap.size + 1 + 1, 0, none⟩) 3 3, .int .i64 0, .int .i64 1, .int .i64 13] 26)).alloc (.cells #[.slice (some ⟨w.heap.size + 1 + 1 + 1, 0, none⟩) 4 4, .int .i64 1, .int .i64 1, .int .i64 2] 26)).alloc (.cells #[.int .i64 0, .int .i64 0, .int .i64 2, .int .i64 0, .int .i64 4, .int .i64 0] 53)).alloc (.cells #[.int .i64 0, .int .i64 0, .int .i64 2, .int .i64 0, .int .i64 2, .int .i64 2, .int .i64 0, .int .i64 2] 53)) (w.heap.size + 1 + 1 + 1) 53 #[.int .i64 0, .int .i64 0, .int .i64 2, .int .i64 0, .int .i64 2, .int .i64 2, .int .i64 0, .int .i64 2] := by
    have := BoxS.new (((w.alloc (.cells #[.slice (some ⟨w.heap.size + 1 + 1, 0, none⟩) 3 3, .int .i64 0, .int .i64 1, .int .i64 13] 26)).alloc (.cells #[.slice (some ⟨w.heap.size + 1 + 1 + 1, 0, none⟩) 4 4, .int .i64 1, .int .i64 1, .int .i64 2] 26)).alloc (.cells #[.int .i64 0, .int .i64 0, .int .i64 2, .int .i64 0, .int .i64 4, .int .i64 0] 53)) 53 #[.int .i64 0, .int .i64 0, .int .i64 2, .int .i64 0, .int .i64 2, .int .i64 2, .int .i64 0, .int .i64 2]
    simp only [World.size_alloc] at this
    exact this
  have hB : Below w.heap.size w ((((w.alloc (.cells #[.slice (some ⟨w.heap.size + 1 + 1, 0, none⟩) 3 3, .int .i64 0, .int .i64 1, .int .i64 13] 26)).alloc (.cells #[.slice (some ⟨w.heap.size + 1 + 1 + 1, 0, none⟩) 4 4, .int .i64 1, .int .i64 1, .int .i64 2] 26)).alloc (.cells #[.int .i64 0, .int .i64 0, .int .i64 2, .int .i64 0, .int .i64 4, .int .i64 0] 53)).alloc (.cells #[.int .i64 0, .int .i64 0, .int .i64 2, .int .i64 0, .int .i64 2, .int .i64 2, .int .i64 0, .int .i64 2] 53)) := by (repeat' (first | (with_reducible exact Below.refl _ _) | (with_reducible assumption) | (with_reducible refine Below.alloc ?_ ?_ _) | (with_reducible refine Below.drew ?_) | (with_reducible refine Below.setCell ?_ ?_ _) | go_size | (exact (by simp)) | omega))
  have hz : ((((w.alloc (.cells #[.slice (some ⟨w.heap.size + 1 + 1, 0, none⟩) 3 3, .int .i64 0, .int .i64 1, .int .i64 13] 26)).alloc (.cells #[.slice (some ⟨w.heap.size + 1 + 1 + 1, 0, none⟩) 4 4, .int .i64 1, .int .i64 1, .int .i64 2] 26)).alloc (.cells #[.int .i64 0, .int .i64 0, .int .i64 2, .int .i64 0, .int .i64 4, .int .i64 0] 53)).alloc (.cells #[.int .i64 0, .int .i64 0, .int .i64 2, .int .i64 0, .int .i64 2, .int .i64 2, .int .i64 0, .int .i64 2] 53)).heap.size = w.heap.size + 4 := by simp
  generalize ((((w.alloc (.cells #[.slice (some ⟨w.heap.size + 1 + 1, 0, none⟩) 3 3, .int .i64 0, .int .i64 1, .int .i64 13] 26)).alloc (.cells #[.slice (some ⟨w.heap.size + 1 + 1 + 1, 0, none⟩) 4 4, .int .i64 1, .int .i64 1, .int .i64 2] 26)).alloc (.cells #[.int .i64 0, .int .i64 0, .int .i64 2, .int .i64 0, .int .i64 4, .int .i64 0] 53)).alloc (.cells #[.int .i64 0, .int .i64 0, .int .i64 2, .int .i64 0, .int .i64 2, .int .i64 2, .int .i64 0, .int .i64 2] 53)) = wb at *
  have bK2 : BoxS ((((((((wb.setCell ⟨w.heap.size, 0, none⟩ (.slice (some ⟨w.heap.size + 1 + 1, 0, none⟩) 3 3)).setCell ⟨w.heap.size, 1, none⟩ (.int .i64 0)).setCell ⟨w.heap.size, 2, none⟩ (.int .i64 1)).setCell ⟨w.heap.size, 3, none⟩ (.int .i64 13)).setCell ⟨w.heap.size + 1, 0, none⟩ (.slice (some ⟨w.heap.size + 1 + 1 + 1, 0, none⟩) 4 4)).setCell ⟨w.heap.size + 1, 1, none⟩ (.int .i64 1)).setCell ⟨w.heap.size + 1, 2, none⟩ (.int .i64 1)).setCell ⟨w.heap.size + 1, 3, none⟩ (.int .i64 2)) w.heap.size 26 #[.slice (some ⟨w.heap.size + 1 + 1, 0, none⟩) 3 3, .int .i64 0, .int .i64 1, .int .i64 13] := ((((((((bK.put9 0 (.slice (some ⟨w.heap.size + 1 + 1, 0, none⟩) 3 3)).put9 1 (.int .i64 0)).put9 2 (.int .i64 1)).put9 3 (.int .i64 13)).away (by omega) _ _).away (by omega) _ _).away (by omega) _ _).away (by omega) _ _)
  have bC2 : BoxS ((((((((wb.setCell ⟨w.heap.size, 0, none⟩ (.slice (some ⟨w.heap.size + 1 + 1, 0, none⟩) 3 3)).setCell ⟨w.heap.size, 1, none⟩ (.int .i64 0)).setCell ⟨w.heap.size, 2, none⟩ (.int .i64 1)).setCell ⟨w.heap.size, 3, none⟩ (.int .i64 13)).setCell ⟨w.heap.size + 1, 0, none⟩ (.slice (some ⟨w.heap.size + 1 + 1 + 1, 0, none⟩) 4 4)).setCell ⟨w.heap.size + 1, 1, none⟩ (.int .i64 1)).setCell ⟨w.heap.size + 1, 2, none⟩ (.int .i64 1)).setCell ⟨w.heap.size + 1, 3, none⟩ (.int .i64 2)) (w.heap.size + 1) 26 #[.slice (some ⟨w.heap.size + 1 + 1 + 1, 0, none⟩) 4 4, .int .i64 1, .int .i64 1, .int .i64 2] := ((((((((bC.away (by omega) _ _).away (by omega) _ _).away (by omega) _ _).away (by omega) _ _).put9 0 (.slice (some ⟨w.heap.size + 1 + 1 + 1, 0, none⟩) 4 4)).put9 1 (.int .i64 1)).put9 2 (.int .i64 1)).put9 3 (.int .i64 2))
  have bP2 : BoxS ((((((((wb.setCell ⟨w.heap.size, 0, none⟩ (.slice (some ⟨w.heap.size + 1 + 1, 0, none⟩) 3 3)).setCell ⟨w.heap.size, 1, none⟩ (.int .i64 0)).setCell ⟨w.heap.size, 2, none⟩ (.int .i64 1)).setCell ⟨w.heap.size, 3, none⟩ (.int .i64 13)).setCell ⟨w.heap.size + 1, 0, none⟩ (.slice (some ⟨w.heap.size + 1 + 1 + 1, 0, none⟩) 4 4)).setCell ⟨w.heap.size + 1, 1, none⟩ (.int .i64 1)).setCell ⟨w.heap.size + 1, 2, none⟩ (.int .i64 1)).setCell ⟨w.heap.size + 1, 3, none⟩ (.int .i64 2)) (w.heap.size + 1 + 1) 53 #[.int .i64 0, .int .i64 0, .int .i64 2, .int .i64 0, .int .i64 4, .int .i64 0] := ((((((((bP.away (by omega) _ _).away (by omega) _ _).away (by omega) _ _).away (by omega) _ _).away (by omega) _ _).away (by omega) _ _).away (by omega) _ _).away (by omega) _ _)
  have bQ2 : BoxS ((((((((wb.setCell ⟨w.heap.size, 0, none⟩ (.slice (some ⟨w.heap.size + 1 + 1, 0, none⟩) 3 3)).setCell ⟨w.heap.size, 1, none⟩ (.int .i64 0)).setCell ⟨w.heap.size, 2, none⟩ (.int .i64 1)).setCell ⟨w.heap.size, 3, none⟩ (.int .i64 13)).setCell ⟨w.heap.size + 1, 0, none⟩ (.slice (some ⟨w.heap.size + 1 + 1 + 1, 0, none⟩) 4 4)).setCell ⟨w.heap.size + 1, 1, none⟩ (.int .i64 1)).setCell ⟨w.heap.size + 1, 2, none⟩ (.int .i64 1)).setCell ⟨w.heap.size + 1, 3, none⟩ (.int .i64 2)) (w.heap.size + 1 + 1 + 1) 53 #[.int .i64 0, .int .i64 0, .int .i64 2, .int .i64 0, .int .i64 2, .int .i64 2, .int .i64 0, .int .i64 2] := ((((((((bQ.away (by omega) _ _).away (by omega) _ _).away (by omega) _ _).away (by omega) _ _).away (by omega) _ _).away (by omega) _ _).away (by omega) _ _).away (by omega) _ _)
  have hB2 : Below w.heap.size w ((((((((wb.setCell ⟨w.heap.size, 0, none⟩ (.slice (some ⟨w.heap.size + 1 + 1, 0, none⟩) 3 3)).setCell ⟨w.heap.size, 1, none⟩ (.int .i64 0)).setCell ⟨w.heap.size, 2, none⟩ (.int .i64 1)).setCell ⟨w.heap.size, 3, none⟩ (.int .i64 13)).setCell ⟨w.heap.size + 1, 0, none⟩ (.slice (some ⟨w.heap.size + 1 + 1 + 1, 0, none⟩) 4 4)).setCell ⟨w.heap.size + 1, 1, none⟩ (.int .i64 1)).setCell ⟨w.heap.size + 1, 2, none⟩ (.int .i64 1)).setCell ⟨w.heap.size + 1, 3, none⟩ (.int .i64 2)) := by have := hB; (repeat' (first | (with_reducible exact Below.refl _ _) | (with_reducible assumption) | (with_reducible refine Below.alloc ?_ ?_ _) | (with_reducible refine Below.drew ?_) | (with_reducible refine Below.setCell ?_ ?_ _) | go_size | (exact (by simp)) | omega))
  have hzq : ((((((((wb.setCell ⟨w.heap.size, 0, none⟩ (.slice (some ⟨w.heap.size + 1 + 1, 0, none⟩) 3 3)).setCell ⟨w.heap.size, 1, none⟩ (.int .i64 0)).setCell ⟨w.heap.size, 2, none⟩ (.int .i64 1)).setCell ⟨w.heap.size, 3, none⟩ (.int .i64 13)).setCell ⟨w.heap.size + 1, 0, none⟩ (.slice (some ⟨w.heap.size + 1 + 1 + 1, 0, none⟩) 4 4)).setCell ⟨w.heap.size + 1, 1, none⟩ (.int .i64 1)).setCell ⟨w.heap.size + 1, 2, none⟩ (.int .i64 1)).setCell ⟨w.heap.size + 1, 3, none⟩ (.int .i64 2)).heap.size = w.heap.size + 4 := by simp [World.setCell, hz]
  have k0 : wb.cell? ⟨w.heap.size, 0, none⟩ = some (.slice (some ⟨w.heap.size + 1 + 1, 0, none⟩) 3 3) := bK.cell 0 rfl
  have f0 := bK.frozen 0
  have c0 : wb.cell? ⟨w.heap.size + 1, 0, none⟩ = some (.slice (some ⟨w.heap.size + 1 + 1 + 1, 0, none⟩) 4 4) := bC.cell 0 rfl
  have g0 := bC.frozen 0
  have k1 : wb.cell? ⟨w.heap.size, 1, none⟩ = some (.int .i64 0) := bK.cell 1 rfl
  have f1 := bK.frozen 1
  have c1 : wb.cell? ⟨w.heap.size + 1, 1, none⟩ = some (.int .i64 1) := bC.cell 1 rfl
  have g1 := bC.frozen 1
  have k2 : wb.cell? ⟨w.heap.size, 2, none⟩ = some (.int .i64 1) := bK.cell 2 rfl
  have f2 := bK.frozen 2
  have c2 : wb.cell? ⟨w.heap.size + 1, 2, none⟩ = some (.int .i64 1) := bC.cell 2 rfl
  have g2 := bC.frozen 2
  have k3 : wb.cell? ⟨w.heap.size, 3, none⟩ = some (.int .i64 13) := bK.cell 3 rfl
  have f3 := bK.frozen 3
  have c3 : wb.cell? ⟨w.heap.size + 1, 3, none⟩ = some (.int .i64 2) := bC.cell 3 rfl
  have g3 := bC.frozen 3
  have lK := bK.lt
  have lC := bC.lt
  have H2 := Lib.hid (And.intro (And.intro bK2 bC2) (And.intro (And.intro bP2 bQ2) (And.intro hB2 hzq)))
  clear bK bC bP bQ hB bK2 bC2 bP2 bQ2 hB2 hzq
  go_region
  · obtain ⟨⟨bK2, bC2⟩, ⟨bP2, bQ2⟩, hB2, hzq⟩ := H2.out
    clear H2 k0 k1 k2 k3 c0 c1 c2 c3 f0 f1 f2 f3 g0 g1 g2 g3 lK lC
    generalize ((((((((wb.setCell ⟨w.heap.size, 0, none⟩ (.slice (some ⟨w.heap.size + 1 + 1, 0, none⟩) 3 3)).setCell ⟨w.heap.size, 1, none⟩ (.int .i64 0)).setCell ⟨w.heap.size, 2, none⟩ (.int .i64 1)).setCell ⟨w.heap.size, 3, none⟩ (.int .i64 13)).setCell ⟨w.heap.size + 1, 0, none⟩ (.slice (some ⟨w.heap.size + 1 + 1 + 1, 0, none⟩) 4 4)).setCell ⟨w.heap.size + 1, 1, none⟩ (.int .i64 1)).setCell ⟨w.heap.size + 1, 2, none⟩ (.int .i64 1)).setCell ⟨w.heap.size + 1, 3, none⟩ (.int .i64 2)) = wq at *
    have b0 : BoxS ((wq.alloc (.cells #[.int .i64 0, .int .i64 2, .int .i64 4, .int .i64 2, .int .i64 4, .int .i64 3, .int .i64 0, .int .i64 3] 53)).alloc (.cells #[.int .i64 (-1), .int .i64 (-1), .int .i64 3, .int .i64 (-1), .int .i64 3, .int .i64 3, .int .i64 (-1), .int .i64 3] 53)).drew (w.heap.size + 4) 53 #[.int .i64 0, .int .i64 2, .int .i64 4, .int .i64 2, .int .i64 4, .int .i64 3, .int .i64 0, .int .i64 3] := by
      have := (BoxS.new wq 53 #[.int .i64 0, .int .i64 2, .int .i64 4, .int .i64 2, .int .i64 4, .int .i64 3, .int .i64 0, .int .i64 3]).alloc (.cells #[.int .i64 (-1), .int .i64 (-1), .int .i64 3, .int .i64 (-1), .int .i64 3, .int .i64 3, .int .i64 (-1), .int .i64 3] 53)
      rw [hzq] at this
      exact this
    have b1 : BoxS ((wq.alloc (.cells #[.int .i64 0, .int .i64 2, .int .i64 4, .int .i64 2, .int .i64 4, .int .i64 3, .int .i64 0, .int .i64 3] 53)).alloc (.cells #[.int .i64 (-1), .int .i64 (-1), .int .i64 3, .int .i64 (-1), .int .i64 3, .int .i64 3, .int .i64 (-1), .int .i64 3] 53)).drew (w.heap.size + 4 + 1) 53 #[.int .i64 (-1), .int .i64 (-1), .int .i64 3, .int .i64 (-1), .int .i64 3, .int .i64 3, .int .i64 (-1), .int .i64 3] := by
      have := BoxS.new (wq.alloc (.cells #[.int .i64 0, .int .i64 2, .int .i64 4, .int .i64 2, .int .i64 4, .int .i64 3, .int .i64 0, .int .i64 3] 53)) 53 #[.int .i64 (-1), .int .i64 (-1), .int .i64 3, .int .i64 (-1), .int .i64 3, .int .i64 3, .int .i64 (-1), .int .i64 3]
      rw [World.size_alloc, hzq] at this
      exact this
    have bK3 : BoxS ((wq.alloc (.cells #[.int .i64 0, .int .i64 2, .int .i64 4, .int .i64 2, .int .i64 4, .int .i64 3, .int .i64 0, .int .i64 3] 53)).alloc (.cells #[.int .i64 (-1), .int .i64 (-1), .int .i64 3, .int .i64 (-1), .int .i64 3, .int .i64 3, .int .i64 (-1), .int .i64 3] 53)).drew w.heap.size 26 #[.slice (some ⟨w.heap.size + 1 + 1, 0, none⟩) 3 3, .int .i64 0, .int .i64 1, .int .i64 13] := (bK2.alloc _).alloc _
    have bC3 : BoxS ((wq.alloc (.cells #[.int .i64 0, .int .i64 2, .int .i64 4, .int .i64 2, .int .i64 4, .int .i64 3, .int .i64 0, .int .i64 3] 53)).alloc (.cells #[.int .i64 (-1), .int .i64 (-1), .int .i64 3, .int .i64 (-1), .int .i64 3, .int .i64 3, .int .i64 (-1), .int .i64 3] 53)).drew (w.heap.size + 1) 26 #[.slice (some ⟨w.heap.size + 1 + 1 + 1, 0, none⟩) 4 4, .int .i64 1, .int .i64 1, .int .i64 2] := (bC2.alloc _).alloc _
    have bP3 : BoxS ((wq.alloc (.cells #[.int .i64 0, .int .i64 2, .int .i64 4, .int .i64 2, .int .i64 4, .int .i64 3, .int .i64 0, .int .i64 3] 53)).alloc (.cells #[.int .i64 (-1), .int .i64 (-1), .int .i64 3, .int .i64 (-1), .int .i64 3, .int .i64 3, .int .i64 (-1), .int .i64 3] 53)).drew (w.heap.size + 1 + 1) 53 #[.int .i64 0, .int .i64 0, .int .i64 2, .int .i64 0, .int .i64 4, .int .i64 0] := (bP2.alloc _).alloc _
    have bQ3 : BoxS ((wq.alloc (.cells #[.int .i64 0, .int .i64 2, .int .i64 4, .int .i64 2, .int .i64 4, .int .i64 3, .int .i64 0, .int .i64 3] 53)).alloc (.cells #[.int .i64 (-1), .int .i64 (-1), .int .i64 3, .int .i64 (-1), .int .i64 3, .int .i64 3, .int .i64 (-1), .int .i64 3] 53)).drew (w.heap.size + 1 + 1 + 1) 53 #[.int .i64 0, .int .i64 0, .int .i64 2, .int .i64 0, .int .i64 2, .int .i64 2, .int .i64 0, .int .i64 2] := (bQ2.alloc _).alloc _
    have hB3 : Below w.heap.size w ((wq.alloc (.cells #[.int .i64 0, .int .i64 2, .int .i64 4, .int .i64 2, .int .i64 4, .int .i64 3, .int .i64 0, .int .i64 3] 53)).alloc (.cells #[.int .i64 (-1), .int .i64 (-1), .int .i64 3, .int .i64 (-1), .int .i64 3, .int .i64 3, .int .i64 (-1), .int .i64 3] 53)).drew := by have := hB2; (repeat' (first | (with_reducible exact Below.refl _ _) | (with_reducible assumption) | (with_reducible refine Below.alloc ?_ ?_ _) | (with_reducible refine Below.drew ?_) | (with_reducible refine Below.setCell ?_ ?_ _) | go_size | (exact (by simp)) | omega))
    clear bK2 bC2 bP2 bQ2 hB2
    generalize World.drew _ = wz at *
    have y0 := bK3.cell 0 rfl
    have z0 := bC3.cell 0 rfl
    have y1 := bK3.cell 1 rfl
    have z1 := bC3.cell 1 rfl
    have y2 := bK3.cell 2 rfl
    have z2 := bC3.cell 2 rfl
    have y3 := bK3.cell 3 rfl
    have z3 := bC3.cell 3 rfl
    go_wp2_with fail
    refine bodyPost_ret (v := .tuple #[.agg #[.slice (some ⟨w.heap.size + 1 + 1, 0, none⟩) 3 3, .int .i64 0, .int .i64 1, .int .i64 13], .slice (some ⟨w.heap.size + 4, 0, none⟩) 4 4, .agg #[.slice (some ⟨w.heap.size + 1 + 1 + 1, 0, none⟩) 4 4, .int .i64 1, .int .i64 1, .int .i64 2], .slice (some ⟨w.heap.size + 4 + 1, 0, none⟩) 4 4]) (by simp [results, Tryz.f23, go_sem, y0, y1, y2, y3, z0, z1, z2, z3]) rfl ?_
    exact ⟨_, _, _, _, 3, 4, 4, 4, rfl, ⟨prs_of_box (ps := [(0, 0), (2, 0), (4, 0)]) bP3, prs_of_box (ps := [(0, 2), (4, 2), (4, 3), (0, 3)]) b0⟩, ⟨prs_of_box (ps := [(0, 0), (2, 0), (2, 2), (0, 2)]) bQ3, prs_of_box (ps := [(-1, -1), (3, -1), (3, 3), (-1, 3)]) b1⟩, hB3⟩
  · obtain ⟨⟨bK2, bC2⟩, ⟨bP2, bQ2⟩, hB2, hzq⟩ := H2.out
    clear H2 k0 k1 k2 k3 c0 c1 c2 c3 f0 f1 f2 f3 g0 g1 g2 g3 lK lC
    generalize ((((((((wb.setCell ⟨w.heap.size, 0, none⟩ (.slice (some ⟨w.heap.size + 1 + 1, 0, none⟩) 3 3)).setCell ⟨w.heap.size, 1, none⟩ (.int .i64 0)).setCell ⟨w.heap.size, 2, none⟩ (.int .i64 1)).setCell ⟨w.heap.size, 3, none⟩ (.int .i64 13)).setCell ⟨w.heap.size + 1, 0, none⟩ (.slice (some ⟨w.heap.size + 1 + 1 + 1, 0, none⟩) 4 4)).setCell ⟨w.heap.size + 1, 1, none⟩ (.int .i64 1)).setCell ⟨w.heap.size + 1, 2, none⟩ (.int .i64 1)).setCell ⟨w.heap.size + 1, 3, none⟩ (.int .i64 2)) = wq at *
    have b0 : BoxS ((wq.alloc (.cells #[.int .i64 (-1), .int .i64 (-1), .int .i64 3, .int .i64 (-1), .int .i64 3, .int .i64 3, .int .i64 (-1), .int .i64 3] 53)).alloc (.cells #[.int .i64 0, .int .i64 2, .int .i64 4, .int .i64 2, .int .i64 4, .int .i64 3, .int .i64 0, .int .i64 3] 53)).drew (w.heap.size + 4) 53 #[.int .i64 (-1), .int .i64 (-1), .int .i64 3, .int .i64 (-1), .int .i64 3, .int .i64 3, .int .i64 (-1), .int .i64 3] := by
      have := (BoxS.new wq 53 #[.int .i64 (-1), .int .i64 (-1), .int .i64 3, .int .i64 (-1), .int .i64 3, .int .i64 3, .int .i64 (-1), .int .i64 3]).alloc (.cells #[.int .i64 0, .int .i64 2, .int .i64 4, .int .i64 2, .int .i64 4, .int .i64 3, .int .i64 0, .int .i64 3] 53)
      rw [hzq] at this
      exact this
    have b1 : BoxS ((wq.alloc (.cells #[.int .i64 (-1), .int .i64 (-1), .int .i64 3, .int .i64 (-1), .int .i64 3, .int .i64 3, .int .i64 (-1), .int .i64 3] 53)).alloc (.cells #[.int .i64 0, .int .i64 2, .int .i64 4, .int .i64 2, .int .i64 4, .int .i64 3, .int .i64 0, .int .i64 3] 53)).drew (w.heap.size + 4 + 1) 53 #[.int .i64 0, .int .i64 2, .int .i64 4, .int .i64 2, .int .i64 4, .int .i64 3, .int .i64 0, .int .i64 3] := by
      have := BoxS.new (wq.alloc (.cells #[.int .i64 (-1), .int .i64 (-1), .int .i64 3, .int .i64 (-1), .int .i64 3, .int .i64 3, .int .i64 (-1), .int .i64 3] 53)) 53 #[.int .i64 0, .int .i64 2, .int .i64 4, .int .i64 2, .int .i64 4, .int .i64 3, .int .i64 0, .int .i64 3]
      rw [World.size_alloc, hzq] at this
      exact this
    have bK3 : BoxS ((wq.alloc (.cells #[.int .i64 (-1), .int .i64 (-1), .int .i64 3, .int .i64 (-1), .int .i64 3, .int .i64 3, .int .i64 (-1), .int .i64 3] 53)).alloc (.cells #[.int .i64 0, .int .i64 2, .int .i64 4, .int .i64 2, .int .i64 4, .int .i64 3, .int .i64 0, .int .i64 3] 53)).drew w.heap.size 26 #[.slice (some ⟨w.heap.size + 1 + 1, 0, none⟩) 3 3, .int .i64 0, .int .i64 1, .int .i64 13] := (bK2.alloc _).alloc _
    have bC3 : BoxS ((wq.alloc (.cells #[.int .i64 (-1), .int .i64 (-1), .int .i64 3, .int .i64 (-1), .int .i64 3, .int .i64 3, .int .i64 (-1), .int .i64 3] 53)).alloc (.cells #[.int .i64 0, .int .i64 2, .int .i64 4, .int .i64 2, .int .i64 4, .int .i64 3, .int .i64 0, .int .i64 3] 53)).drew (w.heap.size + 1) 26 #[.slice (some ⟨w.heap.size + 1 + 1 + 1, 0, none⟩) 4 4, .int .i64 1, .int .i64 1, .int .i64 2] := (bC2.alloc _).alloc _
    have bP3 : BoxS ((wq.alloc (.cells #[.int .i64 (-1), .int .i64 (-1), .int .i64 3, .int .i64 (-1), .int .i64 3, .int .i64 3, .int .i64 (-1), .int .i64 3] 53)).alloc (.cells #[.int .i64 0, .int .i64 2, .int .i64 4, .int .i64 2, .int .i64 4, .int .i64 3, .int .i64 0, .int .i64 3] 53)).drew (w.heap.size + 1 + 1) 53 #[.int .i64 0, .int .i64 0, .int .i64 2, .int .i64 0, .int .i64 4, .int .i64 0] := (bP2.alloc _).alloc _
    have bQ3 : BoxS ((wq.alloc (.cells #[.int .i64 (-1), .int .i64 (-1), .int .i64 3, .int .i64 (-1), .int .i64 3, .int .i64 3, .int .i64 (-1), .int .i64 3] 53)).alloc (.cells #[.int .i64 0, .int .i64 2, .int .i64 4, .int .i64 2, .int .i64 4, .int .i64 3, .int .i64 0, .int .i64 3] 53)).drew (w.heap.size + 1 + 1 + 1) 53 #[.int .i64 0, .int .i64 0, .int .i64 2, .int .i64 0, .int .i64 2, .int .i64 2, .int .i64 0, .int .i64 2] := (bQ2.alloc _).alloc _
    have hB3 : Below w.heap.size w ((wq.alloc (.cells #[.int .i64 (-1), .int .i64 (-1), .int .i64 3, .int .i64 (-1), .int .i64 3, .int .i64 3, .int .i64 (-1), .int .i64 3] 53)).alloc (.cells #[.int .i64 0, .int .i64 2, .int .i64 4, .int .i64 2, .int .i64 4, .int .i64 3, .int .i64 0, .int .i64 3] 53)).drew := by have := hB2; (repeat' (first | (with_reducible exact Below.refl _ _) | (with_reducible assumption) | (with_reducible refine Below.alloc ?_ ?_ _) | (with_reducible refine Below.drew ?_) | (with_reducible refine Below.setCell ?_ ?_ _) | go_size | (exact (by simp)) | omega))
    clear bK2 bC2 bP2 bQ2 hB2
    generalize World.drew _ = wz at *
    have y0 := bK3.cell 0 rfl
    have z0 := bC3.cell 0 rfl
    have y1 := bK3.cell 1 rfl
    have z1 := bC3.cell 1 rfl
    have y2 := bK3.cell 2 rfl
    have z2 := bC3.cell 2 rfl
    have y3 := bK3.cell 3 rfl
    have z3 := bC3.cell 3 rfl
    go_wp2_with fail
    refine bodyPost_ret (v := .tuple #[.agg #[.slice (some ⟨w.heap.size + 1 + 1, 0, none⟩) 3 3, .int .i64 0, .int .i64 1, .int .i64 13], .slice (some ⟨w.heap.size + 4 + 1, 0, none⟩) 4 4, .agg #[.slice (some ⟨w.heap.size + 1 + 1 + 1, 0, none⟩) 4 4, .int .i64 1, .int .i64 1, .int .i64 2], .slice (some ⟨w.heap.size + 4, 0, none⟩) 4 4]) (by simp [results, Tryz.f23, go_sem, y0, y1, y2, y3, z0, z1, z2, z3]) rfl ?_
    exact ⟨_, _, _, _, 3, 4, 4, 4, rfl, ⟨prs_of_box (ps := [(0, 0), (2, 0), (4, 0)]) bP3, prs_of_box (ps := [(0, 2), (4, 2), (4, 3), (0, 3)]) b1⟩, ⟨prs_of_box (ps := [(0, 0), (2, 0), (2, 2), (0, 2)]) bQ3, prs_of_box (ps := [(-1, -1), (3, -1), (3, 3), (-1, 3)]) b0⟩, hB3⟩
end Go.Proofs.YtmjcdggmofohcaaGreat
namespace Go.Proofs.YtmjcdggmofohcaaGreat
open Go.RowKit
namespace Wh
/-- A walk: its sense, its side, 1 if the pole was inside, and both readings. -/
abbrev Wk := Int × Int × Int × Int × Int
abbrev Tr := Int × Int
/-- The numbers of a wheel, and walks. -/
structure Desk where
  full : Int
  read : Int
  slip : Int
  skew : Int
  circ : Int
  glo : Int
  ghi : Int
  wr : Int
  ws : List Wk
def signB (n : Int) : Bool := decide (n = 1) || decide (n = -1)
def wkB (full : Int) (k : Wk) : Bool := (((signB k.1 && signB k.2.1) && inB k.2.2.1 0 1) && inB k.2.2.2.1 0 (full - 1)) && inB k.2.2.2.2 0 (full - 1)
def whB (d : Desk) : Bool := ((((((inB d.full 10 10000 && inB d.read 0 20) && inB d.slip 0 20) && inB d.skew 0 20) && inB d.circ 0 9999) && inB d.glo 0 d.ghi) && decide (d.ghi ≤ 9999)) && inB d.wr 0 8
def modV (a b : Int) : Int := (a.tmod b + b).tmod b
def missV (_full read circ : Int) (k : Wk) (t : Tr) : Int := k.1 * (k.1 * (t.1 - k.2.2.1 * circ) + k.2.1 * t.2 - (k.2.2.2.2 - k.2.2.2.1)) + 2 * read
def looseV (d : Desk) : Int := d.slip + 4 * d.read
def rightB (d : Desk) (k : Wk) (t : Tr) : Bool := decide (modV (missV d.full d.read d.circ k t) d.full ≤ looseV d)
/-- Numbers of a wheel that can be reckoned with. -/
structure Ok (d : Desk) : Prop where
  f1 : 10 ≤ d.full
  f2 : d.full ≤ 10000
  r1 : 0 ≤ d.read
  r2 : d.read ≤ 20
  s1 : 0 ≤ d.slip
  s2 : d.slip ≤ 20
  k1 : 0 ≤ d.skew
  k2 : d.skew ≤ 20
  c1 : 0 ≤ d.circ
  c2 : d.circ ≤ 9999
  g1 : 0 ≤ d.glo
  g2 : d.glo ≤ d.ghi
  g3 : d.ghi ≤ 9999
  w1 : 0 ≤ d.wr
  w2 : d.wr ≤ 8
def ksm (k : Wk) : Prop := (-1 ≤ k.1 ∧ k.1 ≤ 1) ∧ (-1 ≤ k.2.1 ∧ k.2.1 ≤ 1) ∧ (0 ≤ k.2.2.1 ∧ k.2.2.1 ≤ 1) ∧ (0 ≤ k.2.2.2.1 ∧ k.2.2.2.1 ≤ 10000) ∧ (0 ≤ k.2.2.2.2 ∧ k.2.2.2.2 ≤ 10000)
theorem signB_iff {n : Int} : signB n = true ↔ n = 1 ∨ n = -1 := by unfold signB; simp
theorem wkB_sm {full : Int} (hf : full ≤ 10000) {k : Wk} (h : wkB full k = true) : ksm k := by
  unfold wkB inB at h
  simp only [Bool.and_eq_true, decide_eq_true_eq, signB_iff] at h
  unfold ksm
  omega
def tsm (t : Tr) : Prop := (0 ≤ t.1 ∧ t.1 ≤ 10000) ∧ (-20 ≤ t.2 ∧ t.2 ≤ 20)
def wkAt (ws : List Wk) (k : Nat) : Wk := ws[k]?.getD (0, 0, 0, 0, 0)
theorem wkAt_eq {ws : List Wk} {k : Nat} {c : Wk} (h : ws[k]? = some c) : wkAt ws k = c := by unfold wkAt; rw [h]; rfl
def wrongTo (d : Desk) (t : Tr) : Nat → Nat
  | 0 => 0
  | k + 1 => wrongTo d t k + (if rightB d (wkAt d.ws k) t then 0 else 1)
def wrongN (d : Desk) (t : Tr) : Nat := wrongTo d t d.ws.length
theorem wrongTo_le (d : Desk) (t : Tr) : ∀ k, wrongTo d t k ≤ k
  | 0 => Nat.le_refl _
  | k + 1 => by
    have := wrongTo_le d t k
    unfold wrongTo
    split <;> omega
theorem wrongTo_succ (d : Desk) (t : Tr) (k : Nat) : wrongTo d t (k + 1) = wrongTo d t k + (if rightB d (wkAt d.ws k) t then 0 else 1) := rfl
theorem tmod_bd {a b : Int} (h : 0 < b) : -b < a.tmod b ∧ a.tmod b < b := by
  have h1 : (a.tmod b).natAbs < b.natAbs := by rw [Int.natAbs_tmod]; exact Nat.mod_lt _ (by omega)
  omega
theorem modV_eq {a b : Int} (h : 0 < b) : modV a b = a % b := by
  have h1 := tmod_bd (a := a) h
  unfold modV
  rw [Int.tmod_eq_emod_of_nonneg (by omega), Int.add_emod_right]
  have h2 := Int.tmod_add_mul_tdiv a b
  conv => rhs; rw [← h2]
  rw [Int.add_mul_emod_self_left]
end Wh
set_option maxHeartbeats 400000 in
theorem within_any (n l h : Int) (w : World) : Calls Tryz.prog 107 #[.int .i64 n, .int .i64 l, .int .i64 h] w fun e w' => e = .returned (.bool (inB n l h)) ∧ w' = w := by
  go_enter Tryz.func107, Tryz.ntmps107
  go_wp2
  all_goals
    go_ret
    refine ⟨ret_b ?_, rfl⟩
    rw [Bool.eq_iff_iff]
    simp [inB]
    try omega
set_option maxHeartbeats 400000 in
theorem isSign_any (n : Int) (w : World) : Calls Tryz.prog 108 #[.int .i64 n] w fun e w' => e = .returned (.bool (Wh.signB n)) ∧ w' = w := by
  go_enter Tryz.func108, Tryz.ntmps108
  go_wp2
  all_goals
    go_ret
    refine ⟨ret_b ?_, rfl⟩
    rw [Bool.eq_iff_iff]
    simp [Wh.signB]
    try omega
set_option maxHeartbeats 400000 in
theorem modulo_any (a b : Int) (w : World) (_ha : -1000000000000 ≤ a ∧ a ≤ 1000000000000) (hb : 1 ≤ b ∧ b ≤ 1000000) :
    Calls Tryz.prog 116 #[.int .i64 a, .int .i64 b] w fun e w' => e = .returned (.int .i64 (Wh.modV a b)) ∧ w' = w := by
  have hd : Hid (Wh.modV a b = (a.tmod b + b).tmod b) := rfl
  have h1 := Wh.tmod_bd (a := a) (b := b) (by omega)
  have h2 := Wh.tmod_bd (a := a.tmod b + b) (b := b) (by omega)
  have hw1 : IntKind.i64.wrap (a.tmod b) = a.tmod b := IntWalk.i64_in _ (by omega)
  have hw2 : IntKind.i64.wrap (a.tmod b + b) = a.tmod b + b := IntWalk.i64_in _ (by omega)
  have hw3 : IntKind.i64.wrap ((a.tmod b + b).tmod b) = (a.tmod b + b).tmod b := IntWalk.i64_in _ (by omega)
  have hb0 : ¬ b = 0 := by omega
  generalize Wh.modV a b = R at *
  clear h1 h2
  go_enter Tryz.func116, Tryz.ntmps116
  go_wp2
  go_ret
  exact ⟨ret_i hd.out.symm, rfl⟩
theorem boxS9 {W : World} {B : Nat} {t : TypeId} {a b c d e f g h i : Value} (H : BoxS W B t #[a, b, c, d, e, f, g, h, i]) : ((W.cell? ⟨B, 0, none⟩ = some a ∧ W.cell? ⟨B, 1, none⟩ = some b ∧ W.cell? ⟨B, 2, none⟩ = some c) ∧ W.cell? ⟨B, 3, none⟩ = some d ∧ W.cell? ⟨B, 4, none⟩ = some e ∧ W.cell? ⟨B, 5, none⟩ = some f) ∧ W.cell? ⟨B, 6, none⟩ = some g ∧ W.cell? ⟨B, 7, none⟩ = some h ∧ W.cell? ⟨B, 8, none⟩ = some i := ⟨⟨⟨H.cell 0 rfl, H.cell 1 rfl, H.cell 2 rfl⟩, H.cell 3 rfl, H.cell 4 rfl, H.cell 5 rfl⟩, H.cell 6 rfl, H.cell 7 rfl, H.cell 8 rfl⟩
theorem boxS5 {W : World} {B : Nat} {t : TypeId} {a b c d e : Value} (H : BoxS W B t #[a, b, c, d, e]) : (W.cell? ⟨B, 0, none⟩ = some a ∧ W.cell? ⟨B, 1, none⟩ = some b ∧ W.cell? ⟨B, 2, none⟩ = some c) ∧ W.cell? ⟨B, 3, none⟩ = some d ∧ W.cell? ⟨B, 4, none⟩ = some e := ⟨⟨H.cell 0 rfl, H.cell 1 rfl, H.cell 2 rfl⟩, H.cell 3 rfl, H.cell 4 rfl⟩
/-- A slice of walks reads as a list of them. -/
def Wks (w : World) (B : Nat) (A : Option Addr) (ws : List Wh.Wk) : Prop :=
  0 < ws.length → ∃ b off, A = some ⟨b, off, none⟩ ∧ b < B ∧ ∀ k, k < ws.length → w.cell? ⟨b, off + k * 5, none⟩ = some (.int .i64 (Wh.wkAt ws k).1) ∧ w.cell? ⟨b, off + k * 5 + 1, none⟩ = some (.int .i64 (Wh.wkAt ws k).2.1) ∧ w.cell? ⟨b, off + k * 5 + 2, none⟩ = some (.int .i64 (Wh.wkAt ws k).2.2.1) ∧ w.cell? ⟨b, off + k * 5 + 3, none⟩ = some (.int .i64 (Wh.wkAt ws k).2.2.2.1) ∧ w.cell? ⟨b, off + k * 5 + 4, none⟩ = some (.int .i64 (Wh.wkAt ws k).2.2.2.2)
theorem Wks.keep {w w' : World} {B : Nat} {A : Option Addr} {ws : List Wh.Wk} (h : Wks w B A ws) (hb : Below B w w') : Wks w' B A ws := fun hn => by
  obtain ⟨b, off, e, hB, hc⟩ := h hn
  refine ⟨b, off, e, hB, fun k hk => ?_⟩
  obtain ⟨h0, h1, h2, h3, h4⟩ := hc k hk
  exact ⟨(hb.cell (p := ⟨b, _, none⟩) hB).trans h0, (hb.cell (p := ⟨b, _, none⟩) hB).trans h1, (hb.cell (p := ⟨b, _, none⟩) hB).trans h2, (hb.cell (p := ⟨b, _, none⟩) hB).trans h3, (hb.cell (p := ⟨b, _, none⟩) hB).trans h4⟩
theorem Wks.wider {w : World} {B B' : Nat} {A : Option Addr} {ws : List Wh.Wk} (h : Wks w B A ws) (hb : B ≤ B') : Wks w B' A ws := fun hn => by
  obtain ⟨b, off, e, hB, hc⟩ := h hn
  exact ⟨b, off, e, by omega, hc⟩
abbrev whV (d : Wh.Desk) : Array Value := #[.int .i64 d.full, .int .i64 d.read, .int .i64 d.slip, .int .i64 d.skew, .int .i64 d.circ, .int .i64 d.glo, .int .i64 d.ghi, .int .i64 d.wr]
abbrev dkV (d : Wh.Desk) (A : Option Addr) (c : Nat) : Array Value := #[.int .i64 d.full, .int .i64 d.read, .int .i64 d.slip, .int .i64 d.skew, .int .i64 d.circ, .int .i64 d.glo, .int .i64 d.ghi, .int .i64 d.wr, .slice A d.ws.length c]
end Go.Proofs.YtmjcdggmofohcaaGreat
namespace Go.Proofs.YtmjcdggmofohcaaGreat
open Go.RowKit
set_option maxRecDepth 100000 in
set_option maxHeartbeats 2000000 in
theorem loose_any (d : Wh.Desk) (hd : Wh.Ok d) (A : Option Addr) (c : Nat) (w : World) :
    Calls Tryz.prog 117 #[.agg (dkV d A c)] w fun e w' => e = .returned (.int .i64 (Wh.looseV d)) ∧ Below w.heap.size w w' := by
  have h1 := hd.r1
  have h2 := hd.r2
  have h3 := hd.s1
  have h4 := hd.s2
  have hl : Hid (Wh.looseV d = d.slip + 4 * d.read) := rfl
  have hw1 : IntKind.i64.wrap (4 * d.read) = 4 * d.read := IntWalk.i64_in _ (by omega)
  have hw2 : IntKind.i64.wrap (d.slip + 4 * d.read) = d.slip + 4 * d.read := IntWalk.i64_in _ (by omega)
  generalize Wh.looseV d = L at *
  clear hd
  obtain ⟨full, read, slip, skew, circ, glo, ghi, wrn, ws⟩ := d
  dsimp only at *
  go_enter Tryz.func117, Tryz.ntmps117
  go_wp2_with fail
  go_returns
  exact ⟨by rw [hl.out]; rfl, by (repeat' (first | (with_reducible exact Below.refl _ _) | (with_reducible assumption) | (with_reducible refine Below.alloc ?_ ?_ _) | (with_reducible refine Below.drew ?_) | (with_reducible refine Below.setCell ?_ ?_ _) | go_size | (exact (by simp)) | omega))⟩

set_option maxRecDepth 100000 in
set_option maxHeartbeats 4000000 in
theorem right_any (d : Wh.Desk) (hd : Wh.Ok d) (A : Option Addr) (c : Nat) (k : Wh.Wk) (t : Wh.Tr) (w : World) (hk : Wh.ksm k) (ht : Wh.tsm t) :
    Calls Tryz.prog 109 #[.agg (dkV d A c), .agg #[.int .i64 k.1, .int .i64 k.2.1, .int .i64 k.2.2.1, .int .i64 k.2.2.2.1, .int .i64 k.2.2.2.2], .agg #[.int .i64 t.1, .int .i64 t.2]] w fun e w' => e = .returned (.bool (Wh.rightB d k t)) ∧ Below w.heap.size w w' := by
  have HL : Hid (∀ W, Calls Tryz.prog 117 #[.agg (dkV d A c)] W fun e w' => e = .returned (.int .i64 (Wh.looseV d)) ∧ Below W.heap.size W w') := fun W => loose_any d hd A c W
  have HR : Hid (Wh.rightB d k t = decide (Wh.modV (Wh.missV d.full d.read d.circ k t) d.full ≤ Wh.looseV d)) := rfl
  have hf1 := hd.f1
  have hf2 := hd.f2
  have hr1 := hd.r1
  have hr2 := hd.r2
  have hc1 := hd.c1
  have hc2 := hd.c2
  clear hd
  obtain ⟨se, si, ins, st, en⟩ := k
  obtain ⟨ar, sk⟩ := t
  obtain ⟨full, read, slip, skew, circ, glo, ghi, wrn, ws⟩ := d
  unfold Wh.ksm at hk
  unfold Wh.tsm at ht
  unfold dkV at *
  dsimp only at *
  obtain ⟨⟨a1, a2⟩, ⟨a3, a4⟩, ⟨a5, a6⟩, ⟨a7, a8⟩, a9, a10⟩ := hk
  obtain ⟨⟨b1, b2⟩, b3, b4⟩ := ht
  have m1 := mul_bd (a := ins) (b := circ) (x := 1) (y := 9999) (by omega) (by omega) (by omega) (by omega)
  have hw1 : IntKind.i64.wrap (ins * circ) = ins * circ := IntWalk.i64_in _ (by omega)
  have hw2 : IntKind.i64.wrap (ar - ins * circ) = ar - ins * circ := IntWalk.i64_in _ (by omega)
  have m2 := mul_bd (a := se) (b := ar - ins * circ) (x := 1) (y := 20000) (by omega) (by omega) (by omega) (by omega)
  have hw3 : IntKind.i64.wrap (se * (ar - ins * circ)) = se * (ar - ins * circ) := IntWalk.i64_in _ (by omega)
  have m3 := mul_bd (a := si) (b := sk) (x := 1) (y := 20) (by omega) (by omega) (by omega) (by omega)
  have hw4 : IntKind.i64.wrap (si * sk) = si * sk := IntWalk.i64_in _ (by omega)
  have hw5 : IntKind.i64.wrap (se * (ar - ins * circ) + si * sk) = se * (ar - ins * circ) + si * sk := IntWalk.i64_in _ (by omega)
  have hw6 : IntKind.i64.wrap (en - st) = en - st := IntWalk.i64_in _ (by omega)
  have hw7 : IntKind.i64.wrap (se * (ar - ins * circ) + si * sk - (en - st)) = se * (ar - ins * circ) + si * sk - (en - st) := IntWalk.i64_in _ (by omega)
  have m4 := mul_bd (a := se) (b := se * (ar - ins * circ) + si * sk - (en - st)) (x := 1) (y := 40000) (by omega) (by omega) (by omega) (by omega)
  have hw8 : IntKind.i64.wrap (se * (se * (ar - ins * circ) + si * sk - (en - st))) = se * (se * (ar - ins * circ) + si * sk - (en - st)) := IntWalk.i64_in _ (by omega)
  have hw9 : IntKind.i64.wrap (2 * read) = 2 * read := IntWalk.i64_in _ (by omega)
  have hw10 : IntKind.i64.wrap (se * (se * (ar - ins * circ) + si * sk - (en - st)) + 2 * read) = se * (se * (ar - ins * circ) + si * sk - (en - st)) + 2 * read := IntWalk.i64_in _ (by omega)
  have HM : Hid (∀ W, Calls Tryz.prog 116 #[.int .i64 (se * (se * (ar - ins * circ) + si * sk - (en - st)) + 2 * read), .int .i64 full] W fun e w' => e = .returned (.int .i64 (Wh.modV (Wh.missV full read circ (se, si, ins, st, en) (ar, sk)) full)) ∧ w' = W) := fun W => modulo_any _ _ W (by omega) (by omega)
  clear m1 m2 m3 m4 a1 a2 a3 a4 a5 a6 a7 a8 a9 a10 b1 b2 b3 b4 hf1 hf2 hr1 hr2 hc1 hc2
  generalize Wh.modV (Wh.missV full read circ (se, si, ins, st, en) (ar, sk)) full = MV at *
  generalize Wh.looseV ⟨full, read, slip, skew, circ, glo, ghi, wrn, ws⟩ = LV at *
  generalize Wh.rightB ⟨full, read, slip, skew, circ, glo, ghi, wrn, ws⟩ (se, si, ins, st, en) (ar, sk) = R at *
  go_enter Tryz.func109, Tryz.ntmps109
  go_wp2_with fail
  have hB0 : Below w.heap.size w (((w.alloc (.cells #[.int .i64 full, .int .i64 read, .int .i64 slip, .int .i64 skew, .int .i64 circ, .int .i64 glo, .int .i64 ghi, .int .i64 wrn, .slice A ws.length c] 77)).alloc (.cells #[.int .i64 se, .int .i64 si, .int .i64 ins, .int .i64 st, .int .i64 en] 45)).alloc (.cells #[.int .i64 ar, .int .i64 sk] 84)) := by (repeat' (first | (with_reducible exact Below.refl _ _) | (with_reducible assumption) | (with_reducible refine Below.alloc ?_ ?_ _) | (with_reducible refine Below.drew ?_) | (with_reducible refine Below.setCell ?_ ?_ _) | go_size | (exact (by simp)) | omega))
  have bD := ((BoxS.new w 77 #[.int .i64 full, .int .i64 read, .int .i64 slip, .int .i64 skew, .int .i64 circ, .int .i64 glo, .int .i64 ghi, .int .i64 wrn, .slice A ws.length c]).alloc (.cells #[.int .i64 se, .int .i64 si, .int .i64 ins, .int .i64 st, .int .i64 en] 45)).alloc (.cells #[.int .i64 ar, .int .i64 sk] 84)
  clear hw1 hw2 hw3 hw4 hw5 hw6 hw7 hw8 hw9 hw10
  generalize World.alloc (World.alloc (World.alloc w _) _) _ = w1 at *
  refine (wpIn_wide (n := 4)).1 ?_
  have hmo : Tryz.prog.follows .mixedOrders = true := by kernel_rfl
  have q0 : Below w1.heap.size w1 w1.drew := (Below.refl _ _).drew
  have KC : Hid (∀ W', Below w1.heap.size w1 W' → ((W'.cell? ⟨w.heap.size, 0, none⟩ = some (.int .i64 full) ∧ W'.cell? ⟨w.heap.size, 1, none⟩ = some (.int .i64 read) ∧ W'.cell? ⟨w.heap.size, 2, none⟩ = some (.int .i64 slip)) ∧ W'.cell? ⟨w.heap.size, 3, none⟩ = some (.int .i64 skew) ∧ W'.cell? ⟨w.heap.size, 4, none⟩ = some (.int .i64 circ) ∧ W'.cell? ⟨w.heap.size, 5, none⟩ = some (.int .i64 glo)) ∧ W'.cell? ⟨w.heap.size, 6, none⟩ = some (.int .i64 ghi) ∧ W'.cell? ⟨w.heap.size, 7, none⟩ = some (.int .i64 wrn) ∧ W'.cell? ⟨w.heap.size, 8, none⟩ = some (.slice A ws.length c)) := fun W' h => boxS9 (bD.below h)
  refine wpIn_region_held (fun W' => Below w1.heap.size w1 W') 30 hmo ?_
  refine wpHeldIn_take (i := 0) (v := ?_) (plain_of (by kernel_rfl)) rfl (by kernel_rfl) (fun _ _ _ h => h) (yieldsSoIn_of (by kernel_rfl) ?_ (fun _ => rfl)) q0 ?_; rotate_left; focus (intro wq hw; clear hw; go_simp; try (with_reducible rfl))
  refine wpHeldIn_take (i := 1) (v := ?_) (plain_of (by kernel_rfl)) rfl (by kernel_rfl) (fun _ _ _ h => h) (yieldsSoIn_of (by kernel_rfl) ?_ (fun _ => rfl)) q0 ?_; rotate_left; focus (intro wq hw; clear hw; go_simp; try (with_reducible rfl))
  refine wpHeldIn_take (i := 2) (v := ?_) (plain_of (by kernel_rfl)) rfl (by kernel_rfl) (fun _ _ _ h => h) (yieldsSoIn_of (by kernel_rfl) ?_ (fun _ => rfl)) q0 ?_; rotate_left; focus (intro wq hw; clear hw; go_simp; try (with_reducible rfl))
  refine wpHeldIn_take (i := 3) (v := ?_) (plain_of (by kernel_rfl)) rfl (by kernel_rfl) (fun _ _ _ h => h) (yieldsSoIn_of (by kernel_rfl) ?_ (fun _ => rfl)) q0 ?_; rotate_left; focus (intro wq hw; have kq := KC.out wq hw; clear hw; go_simp; try (with_reducible rfl))
  refine wpHeldIn_take (i := 5) (v := ?_) (plain_of (by kernel_rfl)) rfl (by kernel_rfl) (fun _ _ _ h => h) (yieldsSoIn_of (by kernel_rfl) ?_ (fun _ => rfl)) q0 ?_; rotate_left; focus (intro wq hw; have kq := KC.out wq hw; clear hw; go_simp; try (with_reducible rfl))
  refine wpHeldIn_one (i := 4) (by kernel_rfl) (by kernel_rfl) rfl (by kernel_rfl) (fun K2 hK2 => ?_)
  go_simp
  refine ⟨trivial, (callsIn_wide.2 (HM.out _)).mono ?_⟩
  rintro e w3 ⟨rfl, rfl⟩
  refine hK2 _ _ q0 ?_
  refine wpHeldIn_one (i := 6) (by kernel_rfl) (by kernel_rfl) rfl (by kernel_rfl) (fun K' hK' => ?_); go_simp; refine ⟨trivial, (callsIn_wide.2 (HL.out _)).mono ?_⟩; rintro e w2 ⟨rfl, hb2⟩
  have q1 := q0.trans (hb2.mono q0.size)
  refine hK' _ _ q1 ?_
  refine wpHeldIn_take (i := 7) (v := ?_) (plain_of (by kernel_rfl)) rfl (by kernel_rfl) (fun _ _ _ h => h) (yieldsSoIn_of (by kernel_rfl) ?_ (fun _ => rfl)) q1 ?_; rotate_left; focus (intro wq hw; clear hw; go_simp; try (with_reducible rfl))
  refine wpHeldIn_take (i := 8) (v := ?_) (plain_of (by kernel_rfl)) rfl (by kernel_rfl) (fun _ _ _ h => h) (yieldsSoIn_of (by kernel_rfl) ?_ (fun _ => rfl)) q1 ?_; rotate_left; focus (intro wq hw; clear hw; go_simp; try (with_reducible rfl))
  refine wpHeldIn_done (by kernel_rfl) ?_ _
  go_simp
  have hBB := hB0.trans (q1.mono hB0.size)
  clear KC q0 q1
  go_wp2_with fail
  go_returns
  exact ⟨by rw [HR.out]; rfl, hBB⟩

set_option maxRecDepth 100000 in
set_option maxHeartbeats 2000000 in
theorem wrong_any (d : Wh.Desk) (hd : Wh.Ok d) (A : Option Addr) (c : Nat) (t : Wh.Tr) (w : World) (hl : d.ws.length ≤ 1000) (ht : Wh.tsm t) (hc : ∀ k, k < d.ws.length → Wh.ksm (Wh.wkAt d.ws k)) (hg : Wks w w.heap.size A d.ws) :
    Calls Tryz.prog 91 #[.agg (dkV d A c), .agg #[.int .i64 t.1, .int .i64 t.2]] w fun e w' => e = .returned (.int .i64 (Wh.wrongN d t)) ∧ Below w.heap.size w w' := by
  have HF : Hid (∀ k, k < d.ws.length → ∀ W, Calls Tryz.prog 109 #[.agg (dkV d A c), .agg #[.int .i64 (Wh.wkAt d.ws k).1, .int .i64 (Wh.wkAt d.ws k).2.1, .int .i64 (Wh.wkAt d.ws k).2.2.1, .int .i64 (Wh.wkAt d.ws k).2.2.2.1, .int .i64 (Wh.wkAt d.ws k).2.2.2.2], .agg #[.int .i64 t.1, .int .i64 t.2]] W fun e w' => e = .returned (.bool (Wh.rightB d (Wh.wkAt d.ws k) t)) ∧ Below W.heap.size W w') := fun k hk W => right_any d hd A c _ t W (hc k hk) ht
  have HS0 : Hid (∀ k, Wh.wrongTo d t (k + 1) = Wh.wrongTo d t k + (if Wh.rightB d (Wh.wkAt d.ws k) t then 0 else 1)) := fun k => rfl
  have HW0 : Hid (Wh.wrongN d t = Wh.wrongTo d t d.ws.length) := rfl
  have HW1 : Hid (Wh.wrongTo d t 0 = 0) := rfl
  have HWL : Hid (∀ k, Wh.wrongTo d t k ≤ k) := Wh.wrongTo_le d t
  have HG := Lib.hid hg
  have hll : (d.ws.length : Int) ≤ 1000 := by omega
  clear hd ht hc hg hl
  generalize Wh.wrongN d t = WN at *
  generalize Wh.wrongTo d t = WT at *
  generalize Wh.rightB d = RB at *
  obtain ⟨t1, t2⟩ := t
  obtain ⟨full, read, slip, skew, circ, glo, ghi, wrn, ws⟩ := d
  unfold dkV at *
  dsimp only at *
  go_enter Tryz.func91, Tryz.ntmps91
  go_wp2_with fail
  have hB0 : Below w.heap.size w ((w.alloc (.cells #[.int .i64 full, .int .i64 read, .int .i64 slip, .int .i64 skew, .int .i64 circ, .int .i64 glo, .int .i64 ghi, .int .i64 wrn, .slice A ws.length c] 77)).alloc (.cells #[.int .i64 t1, .int .i64 t2] 84)) := by (repeat' (first | (with_reducible exact Below.refl _ _) | (with_reducible assumption) | (with_reducible refine Below.alloc ?_ ?_ _) | (with_reducible refine Below.drew ?_) | (with_reducible refine Below.setCell ?_ ?_ _) | go_size | (exact (by simp)) | omega))
  have bD0 := (BoxS.new w 77 #[.int .i64 full, .int .i64 read, .int .i64 slip, .int .i64 skew, .int .i64 circ, .int .i64 glo, .int .i64 ghi, .int .i64 wrn, .slice A ws.length c]).alloc (.cells #[.int .i64 t1, .int .i64 t2] 84)
  have bF0 := BoxS.new (w.alloc (.cells #[.int .i64 full, .int .i64 read, .int .i64 slip, .int .i64 skew, .int .i64 circ, .int .i64 glo, .int .i64 ghi, .int .i64 wrn, .slice A ws.length c] 77)) 84 #[.int .i64 t1, .int .i64 t2]
  rw [World.size_alloc] at bF0
  generalize World.alloc (World.alloc w _) _ = w1 at *
  go_loopw [5, 11] (fun m x wr => ∃ k : Nat, (k : Int) ≤ ws.length ∧ x = .int .i64 k ∧ m = .int .i64 (WT k : Nat) ∧ (BoxS wr w.heap.size 77 #[.int .i64 full, .int .i64 read, .int .i64 slip, .int .i64 skew, .int .i64 circ, .int .i64 glo, .int .i64 ghi, .int .i64 wrn, .slice A ws.length c] ∧ BoxS wr (w.heap.size + 1) 84 #[.int .i64 t1, .int .i64 t2]) ∧ Below w.heap.size w wr) (fun _ x _ => (ws.length - intOf x).toNat)
  case atStart => exact ⟨0, by omega, rfl, by rw [HW1.out]; rfl, ⟨bD0, bF0⟩, hB0⟩
  case round =>
    clear bD0 bF0 hB0
    obtain ⟨k, hk, rfl, rfl, ⟨bD, bF⟩, hB⟩ := hrel
    have hk0 := Int.natCast_nonneg k
    by_cases hlt : (k : Int) < ws.length
    · have hkn : k < ws.length := by omega
      obtain ⟨bb, off, rfl, hbb, hc⟩ := HG.out (by omega)
      obtain ⟨h0, h1, h2, h3, h4⟩ := hc k hkn
      have a0 := (hB.cell (p := ⟨bb, _, none⟩) hbb).trans h0
      have a1 := (hB.cell (p := ⟨bb, _, none⟩) hbb).trans h1
      have a2 := (hB.cell (p := ⟨bb, _, none⟩) hbb).trans h2
      have a3 := (hB.cell (p := ⟨bb, _, none⟩) hbb).trans h3
      have a4 := (hB.cell (p := ⟨bb, _, none⟩) hbb).trans h4
      have HF1 := Lib.hid (HF.out k hkn)
      have HS := Lib.hid (HS0.out k)
      have hwl := HWL.out k
      have hw1 : IntKind.i64.wrap ((k : Int) + 1) = (k : Int) + 1 := IntWalk.i64_in _ (by omega)
      have hw2 : IntKind.i64.wrap ((WT k : Int) + 1) = ((WT k : Nat) : Int) + 1 := IntWalk.i64_in _ (by omega)
      have hlw : w.heap.size + 1 < wr.heap.size := bF.lt
      have hlw0 : w.heap.size < wr.heap.size := bD.lt
      clear hc h0 h1 h2 h3 h4 HF
      generalize RB (Wh.wkAt ws k) (t1, t2) = b at *
      generalize Wh.wkAt ws k = ct at *
      generalize WT k = m at *
      obtain ⟨c0, c1, c2, c3, c4⟩ := ct
      dsimp only at a0 a1 a2 a3 a4 HF1
      obtain ⟨⟨⟨d0, d1, d2⟩, d3, d4, d5⟩, d6, d7, d8⟩ := boxS9 bD
      obtain ⟨g0, g1⟩ := boxS2 bF
      go_wp2_with fail
      have bD2 := bD.alloc (.cells #[.int .i64 c0, .int .i64 c1, .int .i64 c2, .int .i64 c3, .int .i64 c4] 45)
      have bF2 := bF.alloc (.cells #[.int .i64 c0, .int .i64 c1, .int .i64 c2, .int .i64 c3, .int .i64 c4] 45)
      have hB2 : Below w.heap.size w (wr.alloc (.cells #[.int .i64 c0, .int .i64 c1, .int .i64 c2, .int .i64 c3, .int .i64 c4] 45)) := hB.alloc hB.size _
      clear a0 a1 a2 a3 a4 g0 g1 d0 d1 d2 d3 d4 d5 d6 d7 d8
      generalize World.alloc wr _ = w2 at *
      refine (HF1.out _).mono ?_
      rintro e w3 ⟨rfl, hb3⟩
      have bD3 := bD2.below hb3
      have bF3 := bF2.below hb3
      have hB3 := hB2.trans (hb3.mono hB2.size)
      cases b with
      | true =>
        have HS2 : Hid (WT (k + 1) = m) := HS.out
        go_wp2_with fail
        go_roundw
        case rel => exact ⟨k + 1, by omega, by go_num, by rw [HS2.out], ⟨bD3, bF3⟩, hB3⟩
        case measure => simp [intOf]; omega
      | false =>
        have HS2 : Hid (((WT (k + 1) : Nat) : Int) = (m : Int) + 1) := by unfold Hid; rw [HS.out]; rfl
        go_wp2_with fail
        go_roundw
        case rel => exact ⟨k + 1, by omega, by go_num, by rw [HS2.out], ⟨bD3, bF3⟩, hB3⟩
        case measure => simp [intOf]; omega
    · obtain rfl : k = ws.length := by omega
      go_wp2_with fail
      go_returns
      exact ⟨by rw [HW0.out]; rfl, hB⟩
end Go.Proofs.YtmjcdggmofohcaaGreat
namespace Go.Proofs.YtmjcdggmofohcaaGreat
open Go.RowKit

/-- All blocks but those from b up to c lie as they lay. -/
structure Apart (b c : Nat) (W W' : World) : Prop where
  os : W'.os = W.os
  tape : W'.tape = W.tape
  output : W'.output = W.output
  size : W.heap.size ≤ W'.heap.size
  block : ∀ k, k < W.heap.size → (k < b ∨ c ≤ k) → W'.heap[k]? = W.heap[k]?
namespace Apart
theorem refl (b c : Nat) (W : World) : Apart b c W W := ⟨rfl, rfl, rfl, Nat.le_refl _, fun _ _ _ => rfl⟩
theorem trans {b c : Nat} {X Y Z : World} (h : Apart b c X Y) (k : Apart b c Y Z) : Apart b c X Z :=
  ⟨k.os.trans h.os, k.tape.trans h.tape, k.output.trans h.output, Nat.le_trans h.size k.size, fun i hi hb => (k.block i (by have := h.size; omega) hb).trans (h.block i hi hb)⟩
theorem of_below {b c : Nat} {W W' : World} (h : Below W.heap.size W W') : Apart b c W W' := ⟨h.os, h.tape, h.output, h.size, fun k hk _ => h.block k hk⟩
theorem below {b c : Nat} {W W' : World} (h : Apart b c W W') (hb : b ≤ W.heap.size) : Below b W W' := ⟨h.os, h.tape, h.output, h.size, fun k hk => h.block k (by omega) (.inl hk)⟩
theorem wider {b c b' c' : Nat} {W W' : World} (h : Apart b c W W') (hb : b' ≤ b) (hc : c ≤ c') : Apart b' c' W W' := ⟨h.os, h.tape, h.output, h.size, fun k hk hh => h.block k hk (by omega)⟩
theorem alloc {b c : Nat} (W : World) (o : Obj) : Apart b c W (W.alloc o) := ⟨rfl, rfl, rfl, by simp, fun k hk _ => Below.heap_alloc W o k hk⟩
theorem drew {b c : Nat} (W : World) : Apart b c W W.drew := ⟨rfl, rfl, rfl, Nat.le_refl _, fun _ _ _ => rfl⟩
theorem setCell {b c : Nat} (W : World) (p : Addr) (h1 : b ≤ p.block) (h2 : p.block < c) (v : Value) : Apart b c W (W.setCell p v) :=
  ⟨rfl, rfl, rfl, by simp [World.setCell], fun k _ hh => Below.heap_setCell W p v k (by omega)⟩
theorem putObj {b c l : Nat} (W : World) (h1 : b ≤ l) (h2 : l < c) (o : Obj) : Apart b c W (W.putObj l o) :=
  ⟨rfl, rfl, rfl, by simp, fun k _ hh => World.putObj_heap_other (by omega)⟩
theorem grown {b c : Nat} {W W' : World} {row : Option Nat} (hg : W.grownBy W' row) (hr : ∀ k, row = some k → b ≤ k ∧ k < c) : Apart b c W W' :=
  ⟨hg.os, hg.tape, hg.output, hg.size, fun k hk hh => hg.block k hk (fun e => by have := hr k e.symm; omega)⟩
theorem keepsFrom {b c : Nat} {W W' : World} (h : Apart b c W W') : KeepsFrom c W W' :=
  ⟨h.size, fun k _ hk ho _ => (h.block k (Array.getElem?_eq_some_iff.1 ho).1 (.inr hk)).trans ho⟩
theorem obj {b c : Nat} {W W' : World} (h : Apart b c W W') {k : Nat} {o : Obj} (ho : W.heap[k]? = some o) (hk : k < b ∨ c ≤ k) : W'.heap[k]? = some o :=
  (h.block k (Array.getElem?_eq_some_iff.1 ho).1 hk).trans ho
end Apart

theorem far_room {F : Fence} (hd : F.depth = none) (k : Nat) : F.room k := fun d h => by rw [hd] at h; cases h
theorem round_depth {F : Fence} (hd : F.depth = none) {m : Nat} (m' : Nat) {P : Program} {l : Nat} {f : FuncId} {tmps : Array Value} {assign body : Code} {w : World} {R : Ending → World → Prop}
    (h : RoundIn F m P l f tmps assign body w R) : RoundIn F m' P l f tmps assign body w R := ⟨h.1, fun c cs _ => h.2 c cs (far_room hd _)⟩

/-- What one round hands back to the iterator. -/
def farYield {α : Type} (n₀ c₀ : Nat) (J Jx : List α → World → Prop) (pre : List α) (x : α) (W : World) : Ending → World → Prop := fun e W' =>
  (e = .returned (.bool true) ∧ J (pre ++ [x]) W' ∧ Apart n₀ c₀ W W') ∨ (e = .returned (.bool false) ∧ Jx (pre ++ [x]) W' ∧ Apart n₀ c₀ W W')

/-- An iterator's contract: whatever a round turns lies from n₀ up to the heap's size where the iterator was called; the caller's invariants abide the turn of any block that is no cells and was laid since then. -/
def SeqFar {α : Type} (P : Program) (g : Nat) (pb lb : Array Value) (encs : α → Array Value) (n₀ : Nat) (S Sp : List α → Prop) (N : Nat) (w : World) : Prop :=
  ∀ (l : Nat) (J Jx : List α → World → Prop) (W : World), Below w.heap.size w W → OwnFrom W.heap.size J → OwnFrom W.heap.size Jx →
    (∀ m pre x W1, J pre W1 → pre.length < N → YieldAt Fence.wide m P l (encs x) W1 (farYield n₀ W.heap.size J Jx pre x W1)) →
    J [] W →
    Calls P g (pb ++ #[.func (.yield l) #[] #[]] ++ lb) W fun e W' => (∃ v, e = .returned v) ∧ ((∃ xs, S xs ∧ J xs W') ∨ (∃ pre, Sp pre ∧ Jx pre W'))

/-- How the body of a loop may be left. -/
def farPost {α : Type} (n₀ c₀ : Nat) (I : List α → World → Prop) (Ix : Code → List α → World → Prop) (xs : List α) (W : World) : Exit → Act → World → Prop
  | .normal, _, W' => Apart n₀ c₀ W W' ∧ I xs W'
  | .ret, _, W' => Apart n₀ c₀ W W' ∧ Ix .ret xs W'
  | .exit id, _, W' => Apart n₀ c₀ W W' ∧ Ix (.exit id) xs W'
  | .goto t, _, W' => Apart n₀ c₀ W W' ∧ Ix (.goto t) xs W'
  | .panic _, _, _ => False
  | .outgrown, _, _ => False

section
variable {P : Program} {n : Nat}
/-- The record of a loop. -/
def farRec (fn : FuncId) (tmps : Array Value) (ps : Array Tmp) (assign body : Code) (d : Nat) (st : LoopState) (pe : Option Code) : Loop :=
  { state := st, pending := pe, fn, tmps, params := ps, assign, body, defers := d }
theorem far_end {fn : FuncId} {tmps : Array Value} {ps : Array Tmp} {assign body : Code} {d l : Nat} {n₀ c₀ : Nat} {W W' : World} (jump : Option Code) (hl : W.heap[l]? = some (.loop (farRec fn tmps ps assign body d .busy none)))
    (h : Apart n₀ c₀ W W') (hc : c₀ ≤ l) :
    (Instr.endRound l jump).run P W' = .ok (.bool jump.isNone) (W'.putObj l (.loop (farRec fn tmps ps assign body d (if jump.isNone then .ready else .done) jump))) ∧ W'.heap[l]? = some (.loop (farRec fn tmps ps assign body d .busy none)) := by
  have hl' := h.obj hl (.inr hc)
  exact ⟨run_endRound (P := P) jump hl', hl'⟩

set_option maxHeartbeats 1000000 in
/-- The law of the loop. -/
theorem wpIn_far {α : Type} {g : Operand} {ps : Array Tmp} {assign body : Code} {Q : Exit → Act → World → Prop} {a : Act} {w : World}
    {gf : Nat} {pb lb : Array Value} (hg : a.eval g = .func (.func gf) pb lb) (eg : ∀ args w, (callFunc gf args).run P w = .ok (.enter gf args) w)
    {encs : α → Array Value} {n₀ : Nat} {S Sp : List α → Prop} {N : Nat} {w0 : World} (hseq : SeqFar P gf pb lb encs n₀ S Sp N w0) (hb0 : Below w0.heap.size w0 w) (hn0 : n₀ ≤ w.heap.size) (hps : ∀ x, (encs x).size = ps.size)
    (I : List α → World → Prop) (Ix : Code → List α → World → Prop) (hI : OwnFrom w.heap.size I) (hIx : ∀ c, OwnFrom w.heap.size (Ix c)) (h0 : I [] w)
    (Ax : α → Act → World → Prop) (hAx : ∀ x a', OwnFrom w.heap.size (fun (_ : Unit) W => Ax x a' W))
    (hassign : ∀ (l : Nat) (pre : List α) (x : α) (W : World) (K : Act → World → Prop), I pre W → (∀ a' W', Apart n₀ w.heap.size W W' → I pre W' → Ax x a' W' → K a' W') →
      assign.wpIn (Fence.wide.inRound l) 8 P (Exit.then K (fun _ _ _ => False)) { tmps := (ps.zip (encs x)).foldl (fun t (p, v) => t.setIfInBounds p v) a.tmps, defers := [] } W)
    (hbody : ∀ (l : Nat) (pre : List α) (x : α) (a' : Act) (W : World), I pre W → Ax x a' W → pre.length < N → body.wpIn (Fence.wide.inRound l) 8 P (farPost n₀ w.heap.size I Ix (pre ++ [x]) W) a' W)
    (hdone : ∀ (D : Nat) (xs : List α) (W : World), w.heap.size ≤ D → S xs → I xs W → W.heap[D]? = some (.deferred (some [])) → Q .normal { a with defers := { target := .collected D, args := #[] } :: a.defers } W)
    (hstop : ∀ (D : Nat) (c : Code) (pre : List α) (W : World), w.heap.size ≤ D → Sp pre → Ix c pre W → W.heap[D]? = some (.deferred (some [])) → c.wpIn Fence.wide n P Q { a with defers := { target := .collected D, args := #[] } :: a.defers } W) :
    (Code.rangeFunc g ps assign body).wpIn Fence.wide n P Q a w := by
  refine wpIn_rangeFunc fun fn hfn => ?_
  have s1 : (w.alloc (.deferred (some []))).heap.size = w.heap.size + 1 := by simp
  obtain ⟨W1, hW1⟩ : ∃ W1, W1 = (w.alloc (.deferred (some []))).alloc (.loop (farRec fn a.tmps ps assign body w.heap.size .ready none)) := ⟨_, rfl⟩
  have sW : W1.heap.size = w.heap.size + 2 := by rw [hW1]; simp
  have r1 : W1.heap[w.heap.size + 1]? = some (.loop (farRec fn a.tmps ps assign body w.heap.size .ready none)) := by
    have := World.alloc_heap_new (w.alloc (.deferred (some []))) (.loop (farRec fn a.tmps ps assign body w.heap.size .ready none))
    rw [s1] at this
    rw [hW1]; exact this
  have d1 : W1.heap[w.heap.size]? = some (.deferred (some [])) := by
    rw [hW1]; exact (Below.heap_alloc _ _ _ (by simp)).trans (World.alloc_heap_new w _)
  have i1 : I [] W1 := by rw [hW1]; exact hI.alloc _ (hI.alloc _ h0)
  have b1 : Below w0.heap.size w0 W1 := by rw [hW1]; exact (hb0.alloc hb0.size _).alloc (by have := hb0.size; simp; omega) _
  refine ⟨w.heap.size + 1, [{ target := .collected w.heap.size, args := #[] }], W1, { target := .fn (.func gf) lb, args := pb ++ #[.func (.yield (w.heap.size + 1)) #[] #[]] }, W1, gf,
    pb ++ #[.func (.yield (w.heap.size + 1)) #[] #[]] ++ lb, W1, ?enter, ?res, fun _ _ => trivial, ?inv, fun h => by simp [Fence.wide] at h, ?calls⟩
  case enter => rw [hW1]; exact run_enterLoop_outer _ _ _ _ _
  case res =>
    simp only [resolve, hg]
    simp [go_sem]
  case inv => simp [invoke, go_sem, eg]
  case calls =>
    have own : ∀ {X Y : World} {row : Option Nat} {k : Nat} {o : Obj}, X.grownBy Y row → (∀ r, row = some r → W1.heap.size ≤ r ∧ ∃ o : Obj, X.heap[r]? = some o ∧ o.isCells = false) → k < W1.heap.size → X.heap[k]? = some o → Y.heap[k]? = some o := by
      intro X Y row k o hgr hr hk ho
      refine (hgr.block k (Array.getElem?_eq_some_iff.1 ho).1 (fun e => ?_)).trans ho
      have := (hr k e.symm).1
      omega
    have low : ∀ {X : World} {row : Option Nat}, (∀ r, row = some r → W1.heap.size ≤ r ∧ ∃ o : Obj, X.heap[r]? = some o ∧ o.isCells = false) → (∀ r, row = some r → w.heap.size ≤ r ∧ ∃ o : Obj, X.heap[r]? = some o ∧ o.isCells = false) :=
      fun h r e => ⟨by have := (h r e).1; omega, (h r e).2⟩
    refine callsIn_wide.2 ((hseq (w.heap.size + 1)
      (fun pre W => I pre W ∧ W.heap[w.heap.size + 1]? = some (.loop (farRec fn a.tmps ps assign body w.heap.size .ready none)) ∧ W.heap[w.heap.size]? = some (.deferred (some [])))
      (fun pre W => ∃ c, Ix c pre W ∧ W.heap[w.heap.size + 1]? = some (.loop (farRec fn a.tmps ps assign body w.heap.size .done (some c))) ∧ W.heap[w.heap.size]? = some (.deferred (some [])))
      W1 b1 ?ownJ ?ownX ?round ⟨i1, r1, d1⟩).mono ?after)
    case ownJ => exact fun s X Y row hs hgr hr => ⟨hI s X Y row hs.1 hgr (low hr), own hgr hr (by omega) hs.2.1, own hgr hr (by omega) hs.2.2⟩
    case ownX =>
      rintro s X Y row ⟨c, hc, hl, hd⟩ hgr hr
      exact ⟨c, hIx c s X Y row hc hgr (low hr), own hgr hr (by omega) hl, own hgr hr (by omega) hd⟩
    case round =>
      rintro m pre x W ⟨hi, hl, hd⟩ hlen
      refine ⟨fn, _, assign, body, run_yield (P := P) (args := encs x) hl (hps x), round_depth rfl m (roundIn_of_wpIn (n := 8) trivial (hassign _ pre x W _ hi ?_))⟩
      intro a' Wa hka hia hax
      have hla := hka.obj hl (.inr (by omega))
      have hda := hka.obj hd (.inr (Nat.le_refl _))
      have hlt := (Array.getElem?_eq_some_iff.1 hla).1
      refine ⟨_, run_beginRound hla rfl, ?_⟩
      have hl2 : (Wa.putObj (w.heap.size + 1) (.loop (farRec fn a.tmps ps assign body w.heap.size .busy none))).heap[w.heap.size + 1]? = some (.loop (farRec fn a.tmps ps assign body w.heap.size .busy none)) := World.putObj_heap_same hlt
      have hd2 : (Wa.putObj (w.heap.size + 1) (.loop (farRec fn a.tmps ps assign body w.heap.size .busy none))).heap[w.heap.size]? = some (.deferred (some [])) := (World.putObj_heap_other (by omega)).trans hda
      have k0 : Apart n₀ W1.heap.size W (Wa.putObj (w.heap.size + 1) (.loop (farRec fn a.tmps ps assign body w.heap.size .busy none))) := (hka.wider (Nat.le_refl _) (by omega)).trans (Apart.putObj _ (by omega) (by omega) _)
      refine wpIn_mono (hbody _ pre x a' _ (hI.putObj _ hia (by omega) hla rfl) ((hAx x a').putObj (s := ()) _ hax (by omega) hla rfl) hlen) ?_
      have fin : ∀ (jump : Option Code) (W3 : World), Apart n₀ w.heap.size (Wa.putObj (w.heap.size + 1) (.loop (farRec fn a.tmps ps assign body w.heap.size .busy none))) W3 →
          (Instr.endRound (w.heap.size + 1) jump).run P W3 = .ok (.bool jump.isNone) (W3.putObj (w.heap.size + 1) (.loop (farRec fn a.tmps ps assign body w.heap.size (if jump.isNone then .ready else .done) jump))) ∧
          W3.heap[w.heap.size + 1]? = some (.loop (farRec fn a.tmps ps assign body w.heap.size .busy none)) ∧
          (W3.putObj (w.heap.size + 1) (.loop (farRec fn a.tmps ps assign body w.heap.size (if jump.isNone then .ready else .done) jump))).heap[w.heap.size + 1]? = some (.loop (farRec fn a.tmps ps assign body w.heap.size (if jump.isNone then .ready else .done) jump)) ∧
          (W3.putObj (w.heap.size + 1) (.loop (farRec fn a.tmps ps assign body w.heap.size (if jump.isNone then .ready else .done) jump))).heap[w.heap.size]? = some (.deferred (some [])) ∧
          Apart n₀ W1.heap.size W (W3.putObj (w.heap.size + 1) (.loop (farRec fn a.tmps ps assign body w.heap.size (if jump.isNone then .ready else .done) jump))) := fun jump W3 hk3 => by
        obtain ⟨e1, e2⟩ := far_end (P := P) jump hl2 hk3 (by omega)
        exact ⟨e1, e2, World.putObj_heap_same (Array.getElem?_eq_some_iff.1 e2).1, (World.putObj_heap_other (by omega)).trans (hk3.obj hd2 (.inr (Nat.le_refl _))), k0.trans ((hk3.wider (Nat.le_refl _) (by omega)).trans (Apart.putObj _ (by omega) (by omega) _))⟩
      rintro e a3 W3 hp
      cases e with
      | normal =>
        obtain ⟨hk3, hi3⟩ := hp
        obtain ⟨e1, e2, e3, e4, e5⟩ := fin none W3 hk3
        exact ⟨_, _, e1, .inl ⟨rfl, ⟨hI.putObj _ hi3 (by omega) e2 rfl, e3, e4⟩, e5⟩⟩
      | ret =>
        obtain ⟨hk3, hi3⟩ := hp
        obtain ⟨e1, e2, e3, e4, e5⟩ := fin (some .ret) W3 hk3
        exact ⟨_, _, e1, .inr ⟨rfl, ⟨.ret, (hIx _).putObj _ hi3 (by omega) e2 rfl, e3, e4⟩, e5⟩⟩
      | exit id =>
        obtain ⟨hk3, hi3⟩ := hp
        obtain ⟨e1, e2, e3, e4, e5⟩ := fin (some (.exit id)) W3 hk3
        exact ⟨_, _, e1, .inr ⟨rfl, ⟨.exit id, (hIx _).putObj _ hi3 (by omega) e2 rfl, e3, e4⟩, e5⟩⟩
      | goto t =>
        obtain ⟨hk3, hi3⟩ := hp
        obtain ⟨e1, e2, e3, e4, e5⟩ := fin (some (.goto t)) W3 hk3
        exact ⟨_, _, e1, .inr ⟨rfl, ⟨.goto t, (hIx _).putObj _ hi3 (by omega) e2 rfl, e3, e4⟩, e5⟩⟩
      | panic ch => exact hp.elim
      | outgrown => exact hp.elim
    case after =>
      rintro e W2 ⟨⟨v, rfl⟩, (⟨xs, hS, hi, hl, hd⟩ | ⟨pre, hSp, c, hi, hl, hd⟩)⟩
      · exact ⟨none, _, run_endLoop (P := P) hl (by simp [farRec]), hdone _ xs _ (Nat.le_refl _) hS (hI.putObj _ hi (by omega) hl rfl) ((World.putObj_heap_other (by omega)).trans hd)⟩
      · exact ⟨some c, _, run_endLoop (P := P) hl (by simp [farRec]), hstop _ c pre _ (Nat.le_refl _) hSp ((hIx c).putObj _ hi (by omega) hl rfl) ((World.putObj_heap_other (by omega)).trans hd)⟩
end
end Go.Proofs.YtmjcdggmofohcaaGreat
namespace Go.Proofs.YtmjcdggmofohcaaGreat
open Go.RowKit Go.Shelf
attribute [local go_sem] Oper.semAt_some
namespace Wh
instance (f : Tr) : Decidable (tsm f) := by unfold tsm; infer_instance
/-- Factors that are small enough to be reckoned with. -/
abbrev TrS := { f : Tr // tsm f }
def trOf (f : Tr) : TrS := if h : tsm f then ⟨f, h⟩ else ⟨(1, 1), by unfold tsm; omega⟩
theorem trOf_val {f : Tr} (h : tsm f) : (trOf f).1 = f := by unfold trOf; rw [dif_pos h]
def na (s : Wh.Desk) : Nat := (s.ghi - s.glo + 1).toNat
def nb (s : Wh.Desk) : Nat := (2 * s.skew + 1).toNat
def rowTo (s : Wh.Desk) (i k : Nat) : List TrS := (List.range k).map fun j : Nat => trOf (s.glo + (i : Int), -s.skew + (j : Int))
def casesTo (s : Wh.Desk) (k : Nat) : List TrS := (List.range k).flatMap fun i => rowTo s i (nb s)
def casesL (s : Wh.Desk) : List TrS := casesTo s (na s)
theorem rowTo_succ (s : Wh.Desk) (i k : Nat) : rowTo s i (k + 1) = rowTo s i k ++ [trOf (s.glo + (i : Int), -s.skew + (k : Int))] := by
  unfold rowTo
  rw [List.range_succ, List.map_append]
  rfl
theorem casesTo_succ (s : Wh.Desk) (k : Nat) : casesTo s (k + 1) = casesTo s k ++ rowTo s k (nb s) := by
  unfold casesTo
  rw [List.range_succ, List.flatMap_append]
  simp
theorem casesTo_len (s : Wh.Desk) : ∀ k, (casesTo s k).length = k * nb s
  | 0 => by simp [casesTo]
  | k + 1 => by
    rw [casesTo_succ, List.length_append, casesTo_len s k, Nat.succ_mul]
    unfold rowTo
    simp
theorem casesTo_pre (s : Wh.Desk) {i j : Nat} (h : i ≤ j) : casesTo s i <+: casesTo s j := by
  induction h with
  | refl => exact List.prefix_refl _
  | step _ ih => exact ih.trans (by rw [casesTo_succ]; exact List.prefix_append _ _)
theorem rowTo_pre (s : Wh.Desk) (r : Nat) {i j : Nat} (h : i ≤ j) : rowTo s r i <+: rowTo s r j := by
  induction h with
  | refl => exact List.prefix_refl _
  | step _ ih => exact ih.trans (by rw [rowTo_succ]; exact List.prefix_append _ _)
theorem part_pre (s : Wh.Desk) {i j : Nat} (hi : i < na s) (hj : j ≤ nb s) : casesTo s i ++ rowTo s i j <+: casesL s := by
  refine List.IsPrefix.trans ?_ (casesTo_pre s (show i + 1 ≤ na s by omega))
  rw [casesTo_succ]
  exact (List.prefix_append_right_inj _).2 (rowTo_pre s i hj)
end Wh
def encTr (x : Wh.TrS) : Array Value := #[.agg #[.int .i64 x.1.1, .int .i64 x.1.2]]
theorem encTr_of {f : Wh.Tr} (h : Wh.tsm f) : encTr (Wh.trOf f) = #[.agg #[.int .i64 f.1, .int .i64 f.2]] := by unfold encTr; rw [Wh.trOf_val h]

set_option maxRecDepth 100000 in
set_option maxHeartbeats 4000000 in
theorem cases_far (s : Wh.Desk) (hs : Wh.Ok s) (A : Option Addr) (c : Nat) (n₀ : Nat) (w : World) :
    SeqFar Tryz.prog 90 #[.agg (dkV s A c)] #[] encTr n₀ (fun ys => ys = Wh.casesL s) (fun pre => pre <+: Wh.casesL s) 500000 w := by
  intro l J Jx W hW hJ hJx hY h0
  have ha : ((Wh.na s : Nat) : Int) = s.ghi - s.glo + 1 := by unfold Wh.na; have := hs.g2; omega
  have hb : ((Wh.nb s : Nat) : Int) = 2 * s.skew + 1 := by unfold Wh.nb; have := hs.k1; omega
  obtain ⟨-, -, -, -, -, -, b1, b2, -, -, a1, a2, a3, -, -⟩ := hs
  have HP : Hid (∀ i j, i < Wh.na s → j ≤ Wh.nb s → Wh.casesTo s i ++ Wh.rowTo s i j <+: Wh.casesL s) := fun i j hi hj => Wh.part_pre s hi hj
  have HCS : Hid (∀ i, Wh.casesTo s (i + 1) = Wh.casesTo s i ++ Wh.rowTo s i (Wh.nb s)) := Wh.casesTo_succ s
  have HRS : Hid (∀ i j, Wh.rowTo s i (j + 1) = Wh.rowTo s i j ++ [Wh.trOf (s.glo + (i : Int), -s.skew + (j : Int))]) := Wh.rowTo_succ s
  have HCL : Hid (Wh.casesL s = Wh.casesTo s (Wh.na s)) := rfl
  have HLEN : Hid (∀ i j, i < Wh.na s → j < Wh.nb s → (Wh.casesTo s i ++ Wh.rowTo s i j).length < 500000) := fun i j hi hj => by
    rw [List.length_append, Wh.casesTo_len]
    have h1 : (Wh.rowTo s i j).length = j := by unfold Wh.rowTo; simp
    have h2 : i * Wh.nb s ≤ 10000 * 41 := Nat.mul_le_mul (by omega) (by omega)
    omega
  have HR0 : Hid (∀ i, Wh.rowTo s i 0 = []) := fun i => rfl
  have hJ0 := h0
  have H0 : Hid (J (Wh.casesTo s 0) W) := h0
  clear h0 hJ0
  obtain ⟨full, read, slip, skew, circ, glo, ghi, wrn, cs⟩ := s
  dsimp only at *
  generalize hcT : Wh.casesTo ⟨full, read, slip, skew, circ, glo, ghi, wrn, cs⟩ = cT at *
  generalize hrT : Wh.rowTo ⟨full, read, slip, skew, circ, glo, ghi, wrn, cs⟩ = rT at *
  generalize Wh.casesL ⟨full, read, slip, skew, circ, glo, ghi, wrn, cs⟩ = CL at *
  generalize Wh.na ⟨full, read, slip, skew, circ, glo, ghi, wrn, cs⟩ = na at *
  generalize Wh.nb ⟨full, read, slip, skew, circ, glo, ghi, wrn, cs⟩ = nb at *
  clear hcT hrT
  show Calls Tryz.prog _ #[.agg #[.int .i64 full, .int .i64 read, .int .i64 slip, .int .i64 skew, .int .i64 circ, .int .i64 glo, .int .i64 ghi, .int .i64 wrn, .slice A cs.length c], .func (.yield l) #[] #[]] W _
  refine (callsIn_wide (n := 8)).1 ?_
  refine callsIn_of_wp Tryz.func90 rfl trivial ?_ rfl
  simp only [Tryz.ntmps90, List.size_toArray, List.length_cons, List.length_nil, Nat.reduceAdd, Nat.reduceSub, Array.replicate_succ, Array.replicate_zero, List.push_toArray, List.append_toArray, List.nil_append, List.cons_append]
  gi_wp2
  have bD0 := BoxS.new W 77 #[.int .i64 full, .int .i64 read, .int .i64 slip, .int .i64 skew, .int .i64 circ, .int .i64 glo, .int .i64 ghi, .int .i64 wrn, .slice A cs.length c]
  have J0 : J (cT 0) (W.alloc (.cells #[.int .i64 full, .int .i64 read, .int .i64 slip, .int .i64 skew, .int .i64 circ, .int .i64 glo, .int .i64 ghi, .int .i64 wrn, .slice A cs.length c] 77)) := hJ.alloc _ H0.out
  have z0 : W.heap.size ≤ (W.alloc (.cells #[.int .i64 full, .int .i64 read, .int .i64 slip, .int .i64 skew, .int .i64 circ, .int .i64 glo, .int .i64 ghi, .int .i64 wrn, .slice A cs.length c] 77)).heap.size := by simp
  clear H0
  generalize World.alloc W _ = W0 at *
  gi_loopw [4] (fun x wr => ∃ i : Nat, (i : Int) ≤ na ∧ x = .int .i64 (glo + (i : Int)) ∧ Hid (J (cT i) wr) ∧ BoxS wr W.heap.size 77 #[.int .i64 full, .int .i64 read, .int .i64 slip, .int .i64 skew, .int .i64 circ, .int .i64 glo, .int .i64 ghi, .int .i64 wrn, .slice A cs.length c] ∧ W.heap.size ≤ wr.heap.size) (fun x _ => (ghi + 1 - intOf x).toNat)
  case atStart => exact ⟨0, by omega, by simp, J0, bD0, z0⟩
  case round =>
    obtain ⟨i, hi, rfl, hJi, bD, hz⟩ := hrel
    have hi0 := Int.natCast_nonneg i
    obtain ⟨⟨⟨d0, d1, d2⟩, d3, d4, d5⟩, d6, d7, d8⟩ := boxS9 bD
    have hw1 : IntKind.i64.wrap (glo + (i : Int) + 1) = glo + ((i + 1 : Nat) : Int) := by rw [IntWalk.i64_in _ (by omega)]; omega
    by_cases hlt : glo + (i : Int) ≤ ghi
    · gi_wp2
      clear d0 d1 d2 d3 d4 d5 d6 d7 d8
      gi_loopw [5] (fun x wr => ∃ j : Nat, (j : Int) ≤ nb ∧ x = .int .i64 ((-skew) + (j : Int)) ∧ Hid (J (cT i ++ rT i j) wr) ∧ BoxS wr W.heap.size 77 #[.int .i64 full, .int .i64 read, .int .i64 slip, .int .i64 skew, .int .i64 circ, .int .i64 glo, .int .i64 ghi, .int .i64 wrn, .slice A cs.length c] ∧ W.heap.size ≤ wr.heap.size) (fun x _ => (skew + 1 - intOf x).toNat)
      case atStart => exact ⟨0, by omega, by simp, by rw [HR0.out, List.append_nil]; exact hJi, bD, hz⟩
      case round =>
        obtain ⟨j, hj, rfl, hJj, bD2, hz2⟩ := hrel
        have hj0 := Int.natCast_nonneg j
        obtain ⟨⟨⟨d0, d1, d2⟩, d3, d4, d5⟩, d6, d7, d8⟩ := boxS9 bD2
        have hw2 : IntKind.i64.wrap ((-skew) + (j : Int) + 1) = (-skew) + ((j + 1 : Nat) : Int) := by rw [IntWalk.i64_in _ (by omega)]; omega
        by_cases hlt2 : (-skew) + (j : Int) ≤ skew
        · have hin : i < na := by omega
          have hjn : j < nb := by omega
          obtain ⟨fn, tmps, assign, body, hy, hR⟩ := hY 7 _ (Wh.trOf (glo + (i : Int), (-skew) + (j : Int))) _ hJj.out (HLEN.out i j hin hjn)
          rw [encTr_of (by unfold Wh.tsm; dsimp only; omega)] at hy
          have HR := Lib.hid hR
          have HX := Lib.hid (HP.out i (j + 1) hin (by omega))
          have HS := Lib.hid (HRS.out i j)
          clear hR hJj hY HP HRS HCS HLEN
          generalize Wh.trOf (glo + (i : Int), (-skew) + (j : Int)) = fa at *
          gi_wp2
          refine HR.out.mono ?_
          rintro e W3 (⟨rfl, hJ3, hk3⟩ | ⟨rfl, hJx3, hk3⟩)
          · gi_wp2
            go_roundw
            case rel => exact ⟨j + 1, by omega, by go_num, by unfold Hid; rw [HS.out, ← List.append_assoc]; exact hJ3, hk3.obj bD2 (.inr (Nat.le_refl _)), by have := hk3.size; omega⟩
            case measure => simp [intOf]; omega
          · gi_wp2
            refine bodyPost_ret (results_none rfl _ _ _) rfl ?_
            exact ⟨⟨_, rfl⟩, .inr ⟨_, by have := HX.out; rw [HS.out, ← List.append_assoc] at this; exact this, hJx3⟩⟩
        · have hjn : j = nb := by omega
          gi_wp2
          go_roundw
          case rel => exact ⟨i + 1, by omega, by go_num, by unfold Hid; rw [HCS.out, ← hjn]; exact hJj, bD2, hz2⟩
          case measure => simp [intOf]; omega
    · have hin : i = na := by omega
      gi_wp2
      go_end0
      exact ⟨⟨_, rfl⟩, .inl (by rw [HCL.out, ← hin]; exact hJi.out)⟩
end Go.Proofs.YtmjcdggmofohcaaGreat
namespace Go.Proofs.YtmjcdggmofohcaaGreat
open Go.RowKit
theorem ownFrom_at {β : Type} {B : Nat} {I : β → World → Prop} (h : OwnFrom B I) {s : β} {W W' : World} (hs : I s W) (hb : Below W.heap.size W W') : I s W' :=
  h s W W' none hs ⟨hb.os, hb.tape, hb.output, hb.size, fun k hk _ => hb.block k hk⟩ (fun r e => by cases e)
theorem ownFrom_le {β : Type} {B B' : Nat} {I : β → World → Prop} (h : OwnFrom B I) (hB : B ≤ B') : OwnFrom B' I := fun s X Y row hs hg hr => h s X Y row hs hg (fun r e => ⟨Nat.le_trans hB (hr r e).1, (hr r e).2⟩)
theorem ownFrom_map {β γ : Type} {B : Nat} {I : γ → World → Prop} (h : OwnFrom B I) (g : β → γ) : OwnFrom B (fun s W => I (g s) W) := fun s X Y row hs hg hr => h (g s) X Y row hs hg hr
theorem ownFrom_size {β : Type} (B m : Nat) : OwnFrom B (fun (_ : β) W => m ≤ W.heap.size) := fun _ _ _ _ hs hg _ => Nat.le_trans hs hg.size
theorem Apart.boxS {b c : Nat} {W W' : World} (h : Apart b c W W') {B : Nat} {t : TypeId} {vs : Array Value} (hv : BoxS W B t vs) (hB : B < b ∨ c ≤ B) : BoxS W' B t vs := h.obj hv hB
theorem Apart.boxed {b c : Nat} {W W' : World} (h : Apart b c W W') {B : Nat} {t : TypeId} {v : Value} (hv : Boxed W B t v) (hB : B < b ∨ c ≤ B) : Boxed W' B t v := h.obj hv hB
/-- An iterator's contract: whatever a round turns lies from n₀ up to the heap's size where the iterator was called; the caller's invariants abide the turn of any block that is no cells and was laid since then. -/
def SeqFarP {α : Type} (P : Program) (Pr : α → World → Prop) (g : Nat) (pb lb : Array Value) (encs : α → Array Value) (n₀ : Nat) (S Sp : List α → Prop) (N : Nat) (w : World) : Prop :=
  ∀ (l : Nat) (J Jx : List α → World → Prop) (W : World), Below w.heap.size w W → OwnFrom W.heap.size J → OwnFrom W.heap.size Jx →
    (∀ m pre x W1, J pre W1 → pre.length < N → Pr x W1 → YieldAt Fence.wide m P l (encs x) W1 (farYield n₀ W.heap.size J Jx pre x W1)) →
    J [] W →
    Calls P g (pb ++ #[.func (.yield l) #[] #[]] ++ lb) W fun e W' => (∃ v, e = .returned v) ∧ ((∃ xs, S xs ∧ J xs W') ∨ (∃ pre, Sp pre ∧ Jx pre W'))

section
variable {P : Program} {n : Nat}
set_option maxHeartbeats 1000000 in
/-- The law of the loop. -/
theorem wpIn_farP {α : Type} {g : Operand} {ps : Array Tmp} {assign body : Code} {Q : Exit → Act → World → Prop} {a : Act} {w : World}
    {gf : Nat} {pb lb : Array Value} (hg : a.eval g = .func (.func gf) pb lb) (eg : ∀ args w, (callFunc gf args).run P w = .ok (.enter gf args) w)
    {encs : α → Array Value} {n₀ : Nat} {Pr : α → World → Prop} {S Sp : List α → Prop} {N : Nat} {w0 : World} (hseq : SeqFarP P Pr gf pb lb encs n₀ S Sp N w0) (hb0 : Below w0.heap.size w0 w) (hn0 : n₀ ≤ w.heap.size) (hps : ∀ x, (encs x).size = ps.size)
    (I : List α → World → Prop) (Ix : Code → List α → World → Prop) (hI : OwnFrom w.heap.size I) (hIx : ∀ c, OwnFrom w.heap.size (Ix c)) (h0 : I [] w)
    (Ax : α → Act → World → Prop) (hAx : ∀ x a', OwnFrom w.heap.size (fun (_ : Unit) W => Ax x a' W))
    (hassign : ∀ (l : Nat) (pre : List α) (x : α) (W : World) (K : Act → World → Prop), I pre W → Pr x W → (∀ a' W', Apart n₀ w.heap.size W W' → I pre W' → Ax x a' W' → K a' W') →
      assign.wpIn (Fence.wide.inRound l) 8 P (Exit.then K (fun _ _ _ => False)) { tmps := (ps.zip (encs x)).foldl (fun t (p, v) => t.setIfInBounds p v) a.tmps, defers := [] } W)
    (hbody : ∀ (l : Nat) (pre : List α) (x : α) (a' : Act) (W : World), I pre W → Ax x a' W → pre.length < N → body.wpIn (Fence.wide.inRound l) 8 P (farPost n₀ w.heap.size I Ix (pre ++ [x]) W) a' W)
    (hdone : ∀ (D : Nat) (xs : List α) (W : World), w.heap.size ≤ D → S xs → I xs W → W.heap[D]? = some (.deferred (some [])) → Q .normal { a with defers := { target := .collected D, args := #[] } :: a.defers } W)
    (hstop : ∀ (D : Nat) (c : Code) (pre : List α) (W : World), w.heap.size ≤ D → Sp pre → Ix c pre W → W.heap[D]? = some (.deferred (some [])) → c.wpIn Fence.wide n P Q { a with defers := { target := .collected D, args := #[] } :: a.defers } W) :
    (Code.rangeFunc g ps assign body).wpIn Fence.wide n P Q a w := by
  refine wpIn_rangeFunc fun fn hfn => ?_
  have s1 : (w.alloc (.deferred (some []))).heap.size = w.heap.size + 1 := by simp
  obtain ⟨W1, hW1⟩ : ∃ W1, W1 = (w.alloc (.deferred (some []))).alloc (.loop (farRec fn a.tmps ps assign body w.heap.size .ready none)) := ⟨_, rfl⟩
  have sW : W1.heap.size = w.heap.size + 2 := by rw [hW1]; simp
  have r1 : W1.heap[w.heap.size + 1]? = some (.loop (farRec fn a.tmps ps assign body w.heap.size .ready none)) := by
    have := World.alloc_heap_new (w.alloc (.deferred (some []))) (.loop (farRec fn a.tmps ps assign body w.heap.size .ready none))
    rw [s1] at this
    rw [hW1]; exact this
  have d1 : W1.heap[w.heap.size]? = some (.deferred (some [])) := by
    rw [hW1]; exact (Below.heap_alloc _ _ _ (by simp)).trans (World.alloc_heap_new w _)
  have i1 : I [] W1 := by rw [hW1]; exact hI.alloc _ (hI.alloc _ h0)
  have b1 : Below w0.heap.size w0 W1 := by rw [hW1]; exact (hb0.alloc hb0.size _).alloc (by have := hb0.size; simp; omega) _
  refine ⟨w.heap.size + 1, [{ target := .collected w.heap.size, args := #[] }], W1, { target := .fn (.func gf) lb, args := pb ++ #[.func (.yield (w.heap.size + 1)) #[] #[]] }, W1, gf,
    pb ++ #[.func (.yield (w.heap.size + 1)) #[] #[]] ++ lb, W1, ?enter, ?res, fun _ _ => trivial, ?inv, fun h => by simp [Fence.wide] at h, ?calls⟩
  case enter => rw [hW1]; exact run_enterLoop_outer _ _ _ _ _
  case res =>
    simp only [resolve, hg]
    simp [go_sem]
  case inv => simp [invoke, go_sem, eg]
  case calls =>
    have own : ∀ {X Y : World} {row : Option Nat} {k : Nat} {o : Obj}, X.grownBy Y row → (∀ r, row = some r → W1.heap.size ≤ r ∧ ∃ o : Obj, X.heap[r]? = some o ∧ o.isCells = false) → k < W1.heap.size → X.heap[k]? = some o → Y.heap[k]? = some o := by
      intro X Y row k o hgr hr hk ho
      refine (hgr.block k (Array.getElem?_eq_some_iff.1 ho).1 (fun e => ?_)).trans ho
      have := (hr k e.symm).1
      omega
    have low : ∀ {X : World} {row : Option Nat}, (∀ r, row = some r → W1.heap.size ≤ r ∧ ∃ o : Obj, X.heap[r]? = some o ∧ o.isCells = false) → (∀ r, row = some r → w.heap.size ≤ r ∧ ∃ o : Obj, X.heap[r]? = some o ∧ o.isCells = false) :=
      fun h r e => ⟨by have := (h r e).1; omega, (h r e).2⟩
    refine callsIn_wide.2 ((hseq (w.heap.size + 1)
      (fun pre W => I pre W ∧ W.heap[w.heap.size + 1]? = some (.loop (farRec fn a.tmps ps assign body w.heap.size .ready none)) ∧ W.heap[w.heap.size]? = some (.deferred (some [])))
      (fun pre W => ∃ c, Ix c pre W ∧ W.heap[w.heap.size + 1]? = some (.loop (farRec fn a.tmps ps assign body w.heap.size .done (some c))) ∧ W.heap[w.heap.size]? = some (.deferred (some [])))
      W1 b1 ?ownJ ?ownX ?round ⟨i1, r1, d1⟩).mono ?after)
    case ownJ => exact fun s X Y row hs hgr hr => ⟨hI s X Y row hs.1 hgr (low hr), own hgr hr (by omega) hs.2.1, own hgr hr (by omega) hs.2.2⟩
    case ownX =>
      rintro s X Y row ⟨c, hc, hl, hd⟩ hgr hr
      exact ⟨c, hIx c s X Y row hc hgr (low hr), own hgr hr (by omega) hl, own hgr hr (by omega) hd⟩
    case round =>
      rintro m pre x W ⟨hi, hl, hd⟩ hlen hpr
      refine ⟨fn, _, assign, body, run_yield (P := P) (args := encs x) hl (hps x), round_depth rfl m (roundIn_of_wpIn (n := 8) trivial (hassign _ pre x W _ hi hpr ?_))⟩
      intro a' Wa hka hia hax
      have hla := hka.obj hl (.inr (by omega))
      have hda := hka.obj hd (.inr (Nat.le_refl _))
      have hlt := (Array.getElem?_eq_some_iff.1 hla).1
      refine ⟨_, run_beginRound hla rfl, ?_⟩
      have hl2 : (Wa.putObj (w.heap.size + 1) (.loop (farRec fn a.tmps ps assign body w.heap.size .busy none))).heap[w.heap.size + 1]? = some (.loop (farRec fn a.tmps ps assign body w.heap.size .busy none)) := World.putObj_heap_same hlt
      have hd2 : (Wa.putObj (w.heap.size + 1) (.loop (farRec fn a.tmps ps assign body w.heap.size .busy none))).heap[w.heap.size]? = some (.deferred (some [])) := (World.putObj_heap_other (by omega)).trans hda
      have k0 : Apart n₀ W1.heap.size W (Wa.putObj (w.heap.size + 1) (.loop (farRec fn a.tmps ps assign body w.heap.size .busy none))) := (hka.wider (Nat.le_refl _) (by omega)).trans (Apart.putObj _ (by omega) (by omega) _)
      refine wpIn_mono (hbody _ pre x a' _ (hI.putObj _ hia (by omega) hla rfl) ((hAx x a').putObj (s := ()) _ hax (by omega) hla rfl) hlen) ?_
      have fin : ∀ (jump : Option Code) (W3 : World), Apart n₀ w.heap.size (Wa.putObj (w.heap.size + 1) (.loop (farRec fn a.tmps ps assign body w.heap.size .busy none))) W3 →
          (Instr.endRound (w.heap.size + 1) jump).run P W3 = .ok (.bool jump.isNone) (W3.putObj (w.heap.size + 1) (.loop (farRec fn a.tmps ps assign body w.heap.size (if jump.isNone then .ready else .done) jump))) ∧
          W3.heap[w.heap.size + 1]? = some (.loop (farRec fn a.tmps ps assign body w.heap.size .busy none)) ∧
          (W3.putObj (w.heap.size + 1) (.loop (farRec fn a.tmps ps assign body w.heap.size (if jump.isNone then .ready else .done) jump))).heap[w.heap.size + 1]? = some (.loop (farRec fn a.tmps ps assign body w.heap.size (if jump.isNone then .ready else .done) jump)) ∧
          (W3.putObj (w.heap.size + 1) (.loop (farRec fn a.tmps ps assign body w.heap.size (if jump.isNone then .ready else .done) jump))).heap[w.heap.size]? = some (.deferred (some [])) ∧
          Apart n₀ W1.heap.size W (W3.putObj (w.heap.size + 1) (.loop (farRec fn a.tmps ps assign body w.heap.size (if jump.isNone then .ready else .done) jump))) := fun jump W3 hk3 => by
        obtain ⟨e1, e2⟩ := far_end (P := P) jump hl2 hk3 (by omega)
        exact ⟨e1, e2, World.putObj_heap_same (Array.getElem?_eq_some_iff.1 e2).1, (World.putObj_heap_other (by omega)).trans (hk3.obj hd2 (.inr (Nat.le_refl _))), k0.trans ((hk3.wider (Nat.le_refl _) (by omega)).trans (Apart.putObj _ (by omega) (by omega) _))⟩
      rintro e a3 W3 hp
      cases e with
      | normal =>
        obtain ⟨hk3, hi3⟩ := hp
        obtain ⟨e1, e2, e3, e4, e5⟩ := fin none W3 hk3
        exact ⟨_, _, e1, .inl ⟨rfl, ⟨hI.putObj _ hi3 (by omega) e2 rfl, e3, e4⟩, e5⟩⟩
      | ret =>
        obtain ⟨hk3, hi3⟩ := hp
        obtain ⟨e1, e2, e3, e4, e5⟩ := fin (some .ret) W3 hk3
        exact ⟨_, _, e1, .inr ⟨rfl, ⟨.ret, (hIx _).putObj _ hi3 (by omega) e2 rfl, e3, e4⟩, e5⟩⟩
      | exit id =>
        obtain ⟨hk3, hi3⟩ := hp
        obtain ⟨e1, e2, e3, e4, e5⟩ := fin (some (.exit id)) W3 hk3
        exact ⟨_, _, e1, .inr ⟨rfl, ⟨.exit id, (hIx _).putObj _ hi3 (by omega) e2 rfl, e3, e4⟩, e5⟩⟩
      | goto t =>
        obtain ⟨hk3, hi3⟩ := hp
        obtain ⟨e1, e2, e3, e4, e5⟩ := fin (some (.goto t)) W3 hk3
        exact ⟨_, _, e1, .inr ⟨rfl, ⟨.goto t, (hIx _).putObj _ hi3 (by omega) e2 rfl, e3, e4⟩, e5⟩⟩
      | panic ch => exact hp.elim
      | outgrown => exact hp.elim
    case after =>
      rintro e W2 ⟨⟨v, rfl⟩, (⟨xs, hS, hi, hl, hd⟩ | ⟨pre, hSp, c, hi, hl, hd⟩)⟩
      · exact ⟨none, _, run_endLoop (P := P) hl (by simp [farRec]), hdone _ xs _ (Nat.le_refl _) hS (hI.putObj _ hi (by omega) hl rfl) ((World.putObj_heap_other (by omega)).trans hd)⟩
      · exact ⟨some c, _, run_endLoop (P := P) hl (by simp [farRec]), hstop _ c pre _ (Nat.le_refl _) hSp ((hIx c).putObj _ hi (by omega) hl rfl) ((World.putObj_heap_other (by omega)).trans hd)⟩
end
end Go.Proofs.YtmjcdggmofohcaaGreat
