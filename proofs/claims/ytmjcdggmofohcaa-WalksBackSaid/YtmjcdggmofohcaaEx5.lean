/- Walks: the law's own examples. -/
import Derived.Test.YtmjcdggmofohcaaWlM
namespace Go.Proofs.Ytmjcdggmofohcaa
open Go.RowKit
def exK5 : Wl.Trk := ⟨[(0, 0), (2, 0), (4, 0)], 0, 1, 13⟩
def exC5 : Wl.Trk := ⟨[(0, 0), (2, 0), (2, 2), (0, 2)], 1, 1, 2⟩
def exA5 : List Wl.Pt := [(0, 2), (4, 2), (4, 3), (0, 3)]
def exB5 : List Wl.Pt := [(-1, -1), (3, -1), (3, 3), (-1, 3)]
def Ex5Post (w : World) (e : Ending) (w' : World) : Prop := ∃ (Ak Aa Ac Ab : Option Addr) (ck ca cc cb : Nat), e = .returned (.tuple #[.agg #[.slice Ak 3 ck, .int .i64 0, .int .i64 1, .int .i64 13], .slice Aa 4 ca, .agg #[.slice Ac 4 cc, .int .i64 1, .int .i64 1, .int .i64 2], .slice Ab 4 cb]) ∧ (Hid (Prs w' w'.heap.size Ak exK5.ps) ∧ Hid (Prs w' w'.heap.size Aa exA5)) ∧ (Hid (Prs w' w'.heap.size Ac exC5.ps) ∧ Hid (Prs w' w'.heap.size Ab exB5)) ∧ Below w.heap.size w w'
theorem prs_of_box {W : World} {B : Nat} {ty : TypeId} {ps : List (Int × Int)} (h : BoxS W B ty (flat ps).toArray) : Prs W W.heap.size (some ⟨B, 0, none⟩) ps := fun _ => ⟨B, 0, rfl, h.lt, fun k g hk => by
  obtain ⟨h1, h2⟩ := flat_get ps k
  rw [hk] at h1 h2
  rw [Nat.zero_add]
  exact ⟨h.cell (k * 2) (by rw [List.getElem?_toArray]; exact h1), h.cell (k * 2 + 1) (by rw [List.getElem?_toArray]; exact h2)⟩⟩
set_option maxRecDepth 100000 in
set_option maxHeartbeats 8000000 in
theorem Example5_any (w : World) : Calls Try.prog 48 #[] w (Ex5Post w) := by
  go_enter Try.func48, Try.ntmps48
  go_wp2_with fail
  have bK : BoxS ((((w.alloc (.cells #[.slice (some ⟨w.heap.size + 1 + 1, 0, none⟩) 3 3, .int .i64 0, .int .i64 1, .int .i64 13] 26)).alloc (.cells #[.slice (some ⟨w.heap.size + 1 + 1 + 1, 0, none⟩) 4 4, .int .i64 1, .int .i64 1, .int .i64 2] 26)).alloc (.cells #[.int .i64 0, .int .i64 0, .int .i64 2, .int .i64 0, .int .i64 4, .int .i64 0] 28)).alloc (.cells #[.int .i64 0, .int .i64 0, .int .i64 2, .int .i64 0, .int .i64 2, .int .i64 2, .int .i64 0, .int .i64 2] 28)) w.heap.size 26 #[.slice (some ⟨w.heap.size + 1 + 1, 0, none⟩) 3 3, .int .i64 0, .int .i64 1, .int .i64 13] := (((BoxS.new w 26 #[.slice (some ⟨w.heap.size + 1 + 1, 0, none⟩) 3 3, .int .i64 0, .int .i64 1, .int .i64 13]).alloc _).alloc _).alloc _
  have bC : BoxS ((((w.alloc (.cells #[.slice (some ⟨w.heap.size + 1 + 1, 0, none⟩) 3 3, .int .i64 0, .int .i64 1, .int .i64 13] 26)).alloc (.cells #[.slice (some ⟨w.heap.size + 1 + 1 + 1, 0, none⟩) 4 4, .int .i64 1, .int .i64 1, .int .i64 2] 26)).alloc (.cells #[.int .i64 0, .int .i64 0, .int .i64 2, .int .i64 0, .int .i64 4, .int .i64 0] 28)).alloc (.cells #[.int .i64 0, .int .i64 0, .int .i64 2, .int .i64 0, .int .i64 2, .int .i64 2, .int .i64 0, .int .i64 2] 28)) (w.heap.size + 1) 26 #[.slice (some ⟨w.heap.size + 1 + 1 + 1, 0, none⟩) 4 4, .int .i64 1, .int .i64 1, .int .i64 2] := by
    have := ((BoxS.new (w.alloc (.cells #[.slice (some ⟨w.heap.size + 1 + 1, 0, none⟩) 3 3, .int .i64 0, .int .i64 1, .int .i64 13] 26)) 26 #[.slice (some ⟨w.heap.size + 1 + 1 + 1, 0, none⟩) 4 4, .int .i64 1, .int .i64 1, .int .i64 2]).alloc (.cells #[.int .i64 0, .int .i64 0, .int .i64 2, .int .i64 0, .int .i64 4, .int .i64 0] 28)).alloc (.cells #[.int .i64 0, .int .i64 0, .int .i64 2, .int .i64 0, .int .i64 2, .int .i64 2, .int .i64 0, .int .i64 2] 28)
    simp only [World.size_alloc] at this
    exact this
  have bP : BoxS ((((w.alloc (.cells #[.slice (some ⟨w.heap.size + 1 + 1, 0, none⟩) 3 3, .int .i64 0, .int .i64 1, .int .i64 13] 26)).alloc (.cells #[.slice (some ⟨w.heap.size + 1 + 1 + 1, 0, none⟩) 4 4, .int .i64 1, .int .i64 1, .int .i64 2] 26)).alloc (.cells #[.int .i64 0, .int .i64 0, .int .i64 2, .int .i64 0, .int .i64 4, .int .i64 0] 28)).alloc (.cells #[.int .i64 0, .int .i64 0, .int .i64 2, .int .i64 0, .int .i64 2, .int .i64 2, .int .i64 0, .int .i64 2] 28)) (w.heap.size + 1 + 1) 28 #[.int .i64 0, .int .i64 0, .int .i64 2, .int .i64 0, .int .i64 4, .int .i64 0] := by
    have := (BoxS.new ((w.alloc (.cells #[.slice (some ⟨w.heap.size + 1 + 1, 0, none⟩) 3 3, .int .i64 0, .int .i64 1, .int .i64 13] 26)).alloc (.cells #[.slice (some ⟨w.heap.size + 1 + 1 + 1, 0, none⟩) 4 4, .int .i64 1, .int .i64 1, .int .i64 2] 26)) 28 #[.int .i64 0, .int .i64 0, .int .i64 2, .int .i64 0, .int .i64 4, .int .i64 0]).alloc (.cells #[.int .i64 0, .int .i64 0, .int .i64 2, .int .i64 0, .int .i64 2, .int .i64 2, .int .i64 0, .int .i64 2] 28)
    simp only [World.size_alloc] at this
    exact this
  have bQ : BoxS ((((w.alloc (.cells #[.slice (some ⟨w.heap.size + 1 + 1, 0, none⟩) 3 3, .int .i64 0, .int .i64 1, .int .i64 13] 26)).alloc (.cells #[.slice (some ⟨w.heap.size + 1 + 1 + 1, 0, none⟩) 4 4, .int .i64 1, .int .i64 1, .int .i64 2] 26)).alloc (.cells #[.int .i64 0, .int .i64 0, .int .i64 2, .int .i64 0, .int .i64 4, .int .i64 0] 28)).alloc (.cells #[.int .i64 0, .int .i64 0, .int .i64 2, .int .i64 0, .int .i64 2, .int .i64 2, .int .i64 0, .int .i64 2] 28)) (w.heap.size + 1 + 1 + 1) 28 #[.int .i64 0, .int .i64 0, .int .i64 2, .int .i64 0, .int .i64 2, .int .i64 2, .int .i64 0, .int .i64 2] := by
    have := BoxS.new (((w.alloc (.cells #[.slice (some ⟨w.heap.size + 1 + 1, 0, none⟩) 3 3, .int .i64 0, .int .i64 1, .int .i64 13] 26)).alloc (.cells #[.slice (some ⟨w.heap.size + 1 + 1 + 1, 0, none⟩) 4 4, .int .i64 1, .int .i64 1, .int .i64 2] 26)).alloc (.cells #[.int .i64 0, .int .i64 0, .int .i64 2, .int .i64 0, .int .i64 4, .int .i64 0] 28)) 28 #[.int .i64 0, .int .i64 0, .int .i64 2, .int .i64 0, .int .i64 2, .int .i64 2, .int .i64 0, .int .i64 2]
    simp only [World.size_alloc] at this
    exact this
  have hB : Below w.heap.size w ((((w.alloc (.cells #[.slice (some ⟨w.heap.size + 1 + 1, 0, none⟩) 3 3, .int .i64 0, .int .i64 1, .int .i64 13] 26)).alloc (.cells #[.slice (some ⟨w.heap.size + 1 + 1 + 1, 0, none⟩) 4 4, .int .i64 1, .int .i64 1, .int .i64 2] 26)).alloc (.cells #[.int .i64 0, .int .i64 0, .int .i64 2, .int .i64 0, .int .i64 4, .int .i64 0] 28)).alloc (.cells #[.int .i64 0, .int .i64 0, .int .i64 2, .int .i64 0, .int .i64 2, .int .i64 2, .int .i64 0, .int .i64 2] 28)) := by (repeat' (first | (with_reducible exact Below.refl _ _) | (with_reducible assumption) | (with_reducible refine Below.alloc ?_ ?_ _) | (with_reducible refine Below.drew ?_) | (with_reducible refine Below.setCell ?_ ?_ _) | go_size | (exact (by simp)) | omega))
  have hz : ((((w.alloc (.cells #[.slice (some ⟨w.heap.size + 1 + 1, 0, none⟩) 3 3, .int .i64 0, .int .i64 1, .int .i64 13] 26)).alloc (.cells #[.slice (some ⟨w.heap.size + 1 + 1 + 1, 0, none⟩) 4 4, .int .i64 1, .int .i64 1, .int .i64 2] 26)).alloc (.cells #[.int .i64 0, .int .i64 0, .int .i64 2, .int .i64 0, .int .i64 4, .int .i64 0] 28)).alloc (.cells #[.int .i64 0, .int .i64 0, .int .i64 2, .int .i64 0, .int .i64 2, .int .i64 2, .int .i64 0, .int .i64 2] 28)).heap.size = w.heap.size + 4 := by simp
  generalize ((((w.alloc (.cells #[.slice (some ⟨w.heap.size + 1 + 1, 0, none⟩) 3 3, .int .i64 0, .int .i64 1, .int .i64 13] 26)).alloc (.cells #[.slice (some ⟨w.heap.size + 1 + 1 + 1, 0, none⟩) 4 4, .int .i64 1, .int .i64 1, .int .i64 2] 26)).alloc (.cells #[.int .i64 0, .int .i64 0, .int .i64 2, .int .i64 0, .int .i64 4, .int .i64 0] 28)).alloc (.cells #[.int .i64 0, .int .i64 0, .int .i64 2, .int .i64 0, .int .i64 2, .int .i64 2, .int .i64 0, .int .i64 2] 28)) = wb at *
  have bK2 : BoxS ((((((((wb.setCell ⟨w.heap.size, 0, none⟩ (.slice (some ⟨w.heap.size + 1 + 1, 0, none⟩) 3 3)).setCell ⟨w.heap.size, 1, none⟩ (.int .i64 0)).setCell ⟨w.heap.size, 2, none⟩ (.int .i64 1)).setCell ⟨w.heap.size, 3, none⟩ (.int .i64 13)).setCell ⟨w.heap.size + 1, 0, none⟩ (.slice (some ⟨w.heap.size + 1 + 1 + 1, 0, none⟩) 4 4)).setCell ⟨w.heap.size + 1, 1, none⟩ (.int .i64 1)).setCell ⟨w.heap.size + 1, 2, none⟩ (.int .i64 1)).setCell ⟨w.heap.size + 1, 3, none⟩ (.int .i64 2)) w.heap.size 26 #[.slice (some ⟨w.heap.size + 1 + 1, 0, none⟩) 3 3, .int .i64 0, .int .i64 1, .int .i64 13] := ((((((((bK.put9 0 (.slice (some ⟨w.heap.size + 1 + 1, 0, none⟩) 3 3)).put9 1 (.int .i64 0)).put9 2 (.int .i64 1)).put9 3 (.int .i64 13)).away (by omega) _ _).away (by omega) _ _).away (by omega) _ _).away (by omega) _ _)
  have bC2 : BoxS ((((((((wb.setCell ⟨w.heap.size, 0, none⟩ (.slice (some ⟨w.heap.size + 1 + 1, 0, none⟩) 3 3)).setCell ⟨w.heap.size, 1, none⟩ (.int .i64 0)).setCell ⟨w.heap.size, 2, none⟩ (.int .i64 1)).setCell ⟨w.heap.size, 3, none⟩ (.int .i64 13)).setCell ⟨w.heap.size + 1, 0, none⟩ (.slice (some ⟨w.heap.size + 1 + 1 + 1, 0, none⟩) 4 4)).setCell ⟨w.heap.size + 1, 1, none⟩ (.int .i64 1)).setCell ⟨w.heap.size + 1, 2, none⟩ (.int .i64 1)).setCell ⟨w.heap.size + 1, 3, none⟩ (.int .i64 2)) (w.heap.size + 1) 26 #[.slice (some ⟨w.heap.size + 1 + 1 + 1, 0, none⟩) 4 4, .int .i64 1, .int .i64 1, .int .i64 2] := ((((((((bC.away (by omega) _ _).away (by omega) _ _).away (by omega) _ _).away (by omega) _ _).put9 0 (.slice (some ⟨w.heap.size + 1 + 1 + 1, 0, none⟩) 4 4)).put9 1 (.int .i64 1)).put9 2 (.int .i64 1)).put9 3 (.int .i64 2))
  have bP2 : BoxS ((((((((wb.setCell ⟨w.heap.size, 0, none⟩ (.slice (some ⟨w.heap.size + 1 + 1, 0, none⟩) 3 3)).setCell ⟨w.heap.size, 1, none⟩ (.int .i64 0)).setCell ⟨w.heap.size, 2, none⟩ (.int .i64 1)).setCell ⟨w.heap.size, 3, none⟩ (.int .i64 13)).setCell ⟨w.heap.size + 1, 0, none⟩ (.slice (some ⟨w.heap.size + 1 + 1 + 1, 0, none⟩) 4 4)).setCell ⟨w.heap.size + 1, 1, none⟩ (.int .i64 1)).setCell ⟨w.heap.size + 1, 2, none⟩ (.int .i64 1)).setCell ⟨w.heap.size + 1, 3, none⟩ (.int .i64 2)) (w.heap.size + 1 + 1) 28 #[.int .i64 0, .int .i64 0, .int .i64 2, .int .i64 0, .int .i64 4, .int .i64 0] := ((((((((bP.away (by omega) _ _).away (by omega) _ _).away (by omega) _ _).away (by omega) _ _).away (by omega) _ _).away (by omega) _ _).away (by omega) _ _).away (by omega) _ _)
  have bQ2 : BoxS ((((((((wb.setCell ⟨w.heap.size, 0, none⟩ (.slice (some ⟨w.heap.size + 1 + 1, 0, none⟩) 3 3)).setCell ⟨w.heap.size, 1, none⟩ (.int .i64 0)).setCell ⟨w.heap.size, 2, none⟩ (.int .i64 1)).setCell ⟨w.heap.size, 3, none⟩ (.int .i64 13)).setCell ⟨w.heap.size + 1, 0, none⟩ (.slice (some ⟨w.heap.size + 1 + 1 + 1, 0, none⟩) 4 4)).setCell ⟨w.heap.size + 1, 1, none⟩ (.int .i64 1)).setCell ⟨w.heap.size + 1, 2, none⟩ (.int .i64 1)).setCell ⟨w.heap.size + 1, 3, none⟩ (.int .i64 2)) (w.heap.size + 1 + 1 + 1) 28 #[.int .i64 0, .int .i64 0, .int .i64 2, .int .i64 0, .int .i64 2, .int .i64 2, .int .i64 0, .int .i64 2] := ((((((((bQ.away (by omega) _ _).away (by omega) _ _).away (by omega) _ _).away (by omega) _ _).away (by omega) _ _).away (by omega) _ _).away (by omega) _ _).away (by omega) _ _)
  have hB2 : Below w.heap.size w ((((((((wb.setCell ⟨w.heap.size, 0, none⟩ (.slice (some ⟨w.heap.size + 1 + 1, 0, none⟩) 3 3)).setCell ⟨w.heap.size, 1, none⟩ (.int .i64 0)).setCell ⟨w.heap.size, 2, none⟩ (.int .i64 1)).setCell ⟨w.heap.size, 3, none⟩ (.int .i64 13)).setCell ⟨w.heap.size + 1, 0, none⟩ (.slice (some ⟨w.heap.size + 1 + 1 + 1, 0, none⟩) 4 4)).setCell ⟨w.heap.size + 1, 1, none⟩ (.int .i64 1)).setCell ⟨w.heap.size + 1, 2, none⟩ (.int .i64 1)).setCell ⟨w.heap.size + 1, 3, none⟩ (.int .i64 2)) := by have := hB; (repeat' (first | (with_reducible exact Below.refl _ _) | (with_reducible assumption) | (with_reducible refine Below.alloc ?_ ?_ _) | (with_reducible refine Below.drew ?_) | (with_reducible refine Below.setCell ?_ ?_ _) | go_size | (exact (by simp)) | omega))
  have hzq : ((((((((wb.setCell ⟨w.heap.size, 0, none⟩ (.slice (some ⟨w.heap.size + 1 + 1, 0, none⟩) 3 3)).setCell ⟨w.heap.size, 1, none⟩ (.int .i64 0)).setCell ⟨w.heap.size, 2, none⟩ (.int .i64 1)).setCell ⟨w.heap.size, 3, none⟩ (.int .i64 13)).setCell ⟨w.heap.size + 1, 0, none⟩ (.slice (some ⟨w.heap.size + 1 + 1 + 1, 0, none⟩) 4 4)).setCell ⟨w.heap.size + 1, 1, none⟩ (.int .i64 1)).setCell ⟨w.heap.size + 1, 2, none⟩ (.int .i64 1)).setCell ⟨w.heap.size + 1, 3, none⟩ (.int .i64 2)).heap.size = w.heap.size + 4 := by simp [World.setCell, hz]
  have k0 : wb.cell? ⟨w.heap.size, 0, none⟩ = some (.slice (some ⟨w.heap.size + 1 + 1, 0, none⟩) 3 3) := bK.cell 0 rfl
  have f0 := bK.frozen 0
  have c0 : wb.cell? ⟨w.heap.size + 1, 0, none⟩ = some (.slice (some ⟨w.heap.size + 1 + 1 + 1, 0, none⟩) 4 4) := bC.cell 0 rfl
  have g0 := bC.frozen 0
  have k1 : wb.cell? ⟨w.heap.size, 1, none⟩ = some (.int .i64 0) := bK.cell 1 rfl
  have f1 := bK.frozen 1
  have c1 : wb.cell? ⟨w.heap.size + 1, 1, none⟩ = some (.int .i64 1) := bC.cell 1 rfl
  have g1 := bC.frozen 1
  have k2 : wb.cell? ⟨w.heap.size, 2, none⟩ = some (.int .i64 1) := bK.cell 2 rfl
  have f2 := bK.frozen 2
  have c2 : wb.cell? ⟨w.heap.size + 1, 2, none⟩ = some (.int .i64 1) := bC.cell 2 rfl
  have g2 := bC.frozen 2
  have k3 : wb.cell? ⟨w.heap.size, 3, none⟩ = some (.int .i64 13) := bK.cell 3 rfl
  have f3 := bK.frozen 3
  have c3 : wb.cell? ⟨w.heap.size + 1, 3, none⟩ = some (.int .i64 2) := bC.cell 3 rfl
  have g3 := bC.frozen 3
  have lK := bK.lt
  have lC := bC.lt
  have H2 := Lib.hid (And.intro (And.intro bK2 bC2) (And.intro (And.intro bP2 bQ2) (And.intro hB2 hzq)))
  clear bK bC bP bQ hB bK2 bC2 bP2 bQ2 hB2 hzq
  go_region
  · obtain ⟨⟨bK2, bC2⟩, ⟨bP2, bQ2⟩, hB2, hzq⟩ := H2.out
    clear H2 k0 k1 k2 k3 c0 c1 c2 c3 f0 f1 f2 f3 g0 g1 g2 g3 lK lC
    generalize ((((((((wb.setCell ⟨w.heap.size, 0, none⟩ (.slice (some ⟨w.heap.size + 1 + 1, 0, none⟩) 3 3)).setCell ⟨w.heap.size, 1, none⟩ (.int .i64 0)).setCell ⟨w.heap.size, 2, none⟩ (.int .i64 1)).setCell ⟨w.heap.size, 3, none⟩ (.int .i64 13)).setCell ⟨w.heap.size + 1, 0, none⟩ (.slice (some ⟨w.heap.size + 1 + 1 + 1, 0, none⟩) 4 4)).setCell ⟨w.heap.size + 1, 1, none⟩ (.int .i64 1)).setCell ⟨w.heap.size + 1, 2, none⟩ (.int .i64 1)).setCell ⟨w.heap.size + 1, 3, none⟩ (.int .i64 2)) = wq at *
    have b0 : BoxS ((wq.alloc (.cells #[.int .i64 0, .int .i64 2, .int .i64 4, .int .i64 2, .int .i64 4, .int .i64 3, .int .i64 0, .int .i64 3] 28)).alloc (.cells #[.int .i64 (-1), .int .i64 (-1), .int .i64 3, .int .i64 (-1), .int .i64 3, .int .i64 3, .int .i64 (-1), .int .i64 3] 28)).drew (w.heap.size + 4) 28 #[.int .i64 0, .int .i64 2, .int .i64 4, .int .i64 2, .int .i64 4, .int .i64 3, .int .i64 0, .int .i64 3] := by
      have := (BoxS.new wq 28 #[.int .i64 0, .int .i64 2, .int .i64 4, .int .i64 2, .int .i64 4, .int .i64 3, .int .i64 0, .int .i64 3]).alloc (.cells #[.int .i64 (-1), .int .i64 (-1), .int .i64 3, .int .i64 (-1), .int .i64 3, .int .i64 3, .int .i64 (-1), .int .i64 3] 28)
      rw [hzq] at this
      exact this
    have b1 : BoxS ((wq.alloc (.cells #[.int .i64 0, .int .i64 2, .int .i64 4, .int .i64 2, .int .i64 4, .int .i64 3, .int .i64 0, .int .i64 3] 28)).alloc (.cells #[.int .i64 (-1), .int .i64 (-1), .int .i64 3, .int .i64 (-1), .int .i64 3, .int .i64 3, .int .i64 (-1), .int .i64 3] 28)).drew (w.heap.size + 4 + 1) 28 #[.int .i64 (-1), .int .i64 (-1), .int .i64 3, .int .i64 (-1), .int .i64 3, .int .i64 3, .int .i64 (-1), .int .i64 3] := by
      have := BoxS.new (wq.alloc (.cells #[.int .i64 0, .int .i64 2, .int .i64 4, .int .i64 2, .int .i64 4, .int .i64 3, .int .i64 0, .int .i64 3] 28)) 28 #[.int .i64 (-1), .int .i64 (-1), .int .i64 3, .int .i64 (-1), .int .i64 3, .int .i64 3, .int .i64 (-1), .int .i64 3]
      rw [World.size_alloc, hzq] at this
      exact this
    have bK3 : BoxS ((wq.alloc (.cells #[.int .i64 0, .int .i64 2, .int .i64 4, .int .i64 2, .int .i64 4, .int .i64 3, .int .i64 0, .int .i64 3] 28)).alloc (.cells #[.int .i64 (-1), .int .i64 (-1), .int .i64 3, .int .i64 (-1), .int .i64 3, .int .i64 3, .int .i64 (-1), .int .i64 3] 28)).drew w.heap.size 26 #[.slice (some ⟨w.heap.size + 1 + 1, 0, none⟩) 3 3, .int .i64 0, .int .i64 1, .int .i64 13] := (bK2.alloc _).alloc _
    have bC3 : BoxS ((wq.alloc (.cells #[.int .i64 0, .int .i64 2, .int .i64 4, .int .i64 2, .int .i64 4, .int .i64 3, .int .i64 0, .int .i64 3] 28)).alloc (.cells #[.int .i64 (-1), .int .i64 (-1), .int .i64 3, .int .i64 (-1), .int .i64 3, .int .i64 3, .int .i64 (-1), .int .i64 3] 28)).drew (w.heap.size + 1) 26 #[.slice (some ⟨w.heap.size + 1 + 1 + 1, 0, none⟩) 4 4, .int .i64 1, .int .i64 1, .int .i64 2] := (bC2.alloc _).alloc _
    have bP3 : BoxS ((wq.alloc (.cells #[.int .i64 0, .int .i64 2, .int .i64 4, .int .i64 2, .int .i64 4, .int .i64 3, .int .i64 0, .int .i64 3] 28)).alloc (.cells #[.int .i64 (-1), .int .i64 (-1), .int .i64 3, .int .i64 (-1), .int .i64 3, .int .i64 3, .int .i64 (-1), .int .i64 3] 28)).drew (w.heap.size + 1 + 1) 28 #[.int .i64 0, .int .i64 0, .int .i64 2, .int .i64 0, .int .i64 4, .int .i64 0] := (bP2.alloc _).alloc _
    have bQ3 : BoxS ((wq.alloc (.cells #[.int .i64 0, .int .i64 2, .int .i64 4, .int .i64 2, .int .i64 4, .int .i64 3, .int .i64 0, .int .i64 3] 28)).alloc (.cells #[.int .i64 (-1), .int .i64 (-1), .int .i64 3, .int .i64 (-1), .int .i64 3, .int .i64 3, .int .i64 (-1), .int .i64 3] 28)).drew (w.heap.size + 1 + 1 + 1) 28 #[.int .i64 0, .int .i64 0, .int .i64 2, .int .i64 0, .int .i64 2, .int .i64 2, .int .i64 0, .int .i64 2] := (bQ2.alloc _).alloc _
    have hB3 : Below w.heap.size w ((wq.alloc (.cells #[.int .i64 0, .int .i64 2, .int .i64 4, .int .i64 2, .int .i64 4, .int .i64 3, .int .i64 0, .int .i64 3] 28)).alloc (.cells #[.int .i64 (-1), .int .i64 (-1), .int .i64 3, .int .i64 (-1), .int .i64 3, .int .i64 3, .int .i64 (-1), .int .i64 3] 28)).drew := by have := hB2; (repeat' (first | (with_reducible exact Below.refl _ _) | (with_reducible assumption) | (with_reducible refine Below.alloc ?_ ?_ _) | (with_reducible refine Below.drew ?_) | (with_reducible refine Below.setCell ?_ ?_ _) | go_size | (exact (by simp)) | omega))
    clear bK2 bC2 bP2 bQ2 hB2
    generalize World.drew _ = wz at *
    have y0 := bK3.cell 0 rfl
    have z0 := bC3.cell 0 rfl
    have y1 := bK3.cell 1 rfl
    have z1 := bC3.cell 1 rfl
    have y2 := bK3.cell 2 rfl
    have z2 := bC3.cell 2 rfl
    have y3 := bK3.cell 3 rfl
    have z3 := bC3.cell 3 rfl
    go_wp2_with fail
    refine bodyPost_ret (v := .tuple #[.agg #[.slice (some ⟨w.heap.size + 1 + 1, 0, none⟩) 3 3, .int .i64 0, .int .i64 1, .int .i64 13], .slice (some ⟨w.heap.size + 4, 0, none⟩) 4 4, .agg #[.slice (some ⟨w.heap.size + 1 + 1 + 1, 0, none⟩) 4 4, .int .i64 1, .int .i64 1, .int .i64 2], .slice (some ⟨w.heap.size + 4 + 1, 0, none⟩) 4 4]) (by simp [results, Try.f48, go_sem, y0, y1, y2, y3, z0, z1, z2, z3]) rfl ?_
    exact ⟨_, _, _, _, 3, 4, 4, 4, rfl, ⟨prs_of_box (ps := [(0, 0), (2, 0), (4, 0)]) bP3, prs_of_box (ps := [(0, 2), (4, 2), (4, 3), (0, 3)]) b0⟩, ⟨prs_of_box (ps := [(0, 0), (2, 0), (2, 2), (0, 2)]) bQ3, prs_of_box (ps := [(-1, -1), (3, -1), (3, 3), (-1, 3)]) b1⟩, hB3⟩
  · obtain ⟨⟨bK2, bC2⟩, ⟨bP2, bQ2⟩, hB2, hzq⟩ := H2.out
    clear H2 k0 k1 k2 k3 c0 c1 c2 c3 f0 f1 f2 f3 g0 g1 g2 g3 lK lC
    generalize ((((((((wb.setCell ⟨w.heap.size, 0, none⟩ (.slice (some ⟨w.heap.size + 1 + 1, 0, none⟩) 3 3)).setCell ⟨w.heap.size, 1, none⟩ (.int .i64 0)).setCell ⟨w.heap.size, 2, none⟩ (.int .i64 1)).setCell ⟨w.heap.size, 3, none⟩ (.int .i64 13)).setCell ⟨w.heap.size + 1, 0, none⟩ (.slice (some ⟨w.heap.size + 1 + 1 + 1, 0, none⟩) 4 4)).setCell ⟨w.heap.size + 1, 1, none⟩ (.int .i64 1)).setCell ⟨w.heap.size + 1, 2, none⟩ (.int .i64 1)).setCell ⟨w.heap.size + 1, 3, none⟩ (.int .i64 2)) = wq at *
    have b0 : BoxS ((wq.alloc (.cells #[.int .i64 (-1), .int .i64 (-1), .int .i64 3, .int .i64 (-1), .int .i64 3, .int .i64 3, .int .i64 (-1), .int .i64 3] 28)).alloc (.cells #[.int .i64 0, .int .i64 2, .int .i64 4, .int .i64 2, .int .i64 4, .int .i64 3, .int .i64 0, .int .i64 3] 28)).drew (w.heap.size + 4) 28 #[.int .i64 (-1), .int .i64 (-1), .int .i64 3, .int .i64 (-1), .int .i64 3, .int .i64 3, .int .i64 (-1), .int .i64 3] := by
      have := (BoxS.new wq 28 #[.int .i64 (-1), .int .i64 (-1), .int .i64 3, .int .i64 (-1), .int .i64 3, .int .i64 3, .int .i64 (-1), .int .i64 3]).alloc (.cells #[.int .i64 0, .int .i64 2, .int .i64 4, .int .i64 2, .int .i64 4, .int .i64 3, .int .i64 0, .int .i64 3] 28)
      rw [hzq] at this
      exact this
    have b1 : BoxS ((wq.alloc (.cells #[.int .i64 (-1), .int .i64 (-1), .int .i64 3, .int .i64 (-1), .int .i64 3, .int .i64 3, .int .i64 (-1), .int .i64 3] 28)).alloc (.cells #[.int .i64 0, .int .i64 2, .int .i64 4, .int .i64 2, .int .i64 4, .int .i64 3, .int .i64 0, .int .i64 3] 28)).drew (w.heap.size + 4 + 1) 28 #[.int .i64 0, .int .i64 2, .int .i64 4, .int .i64 2, .int .i64 4, .int .i64 3, .int .i64 0, .int .i64 3] := by
      have := BoxS.new (wq.alloc (.cells #[.int .i64 (-1), .int .i64 (-1), .int .i64 3, .int .i64 (-1), .int .i64 3, .int .i64 3, .int .i64 (-1), .int .i64 3] 28)) 28 #[.int .i64 0, .int .i64 2, .int .i64 4, .int .i64 2, .int .i64 4, .int .i64 3, .int .i64 0, .int .i64 3]
      rw [World.size_alloc, hzq] at this
      exact this
    have bK3 : BoxS ((wq.alloc (.cells #[.int .i64 (-1), .int .i64 (-1), .int .i64 3, .int .i64 (-1), .int .i64 3, .int .i64 3, .int .i64 (-1), .int .i64 3] 28)).alloc (.cells #[.int .i64 0, .int .i64 2, .int .i64 4, .int .i64 2, .int .i64 4, .int .i64 3, .int .i64 0, .int .i64 3] 28)).drew w.heap.size 26 #[.slice (some ⟨w.heap.size + 1 + 1, 0, none⟩) 3 3, .int .i64 0, .int .i64 1, .int .i64 13] := (bK2.alloc _).alloc _
    have bC3 : BoxS ((wq.alloc (.cells #[.int .i64 (-1), .int .i64 (-1), .int .i64 3, .int .i64 (-1), .int .i64 3, .int .i64 3, .int .i64 (-1), .int .i64 3] 28)).alloc (.cells #[.int .i64 0, .int .i64 2, .int .i64 4, .int .i64 2, .int .i64 4, .int .i64 3, .int .i64 0, .int .i64 3] 28)).drew (w.heap.size + 1) 26 #[.slice (some ⟨w.heap.size + 1 + 1 + 1, 0, none⟩) 4 4, .int .i64 1, .int .i64 1, .int .i64 2] := (bC2.alloc _).alloc _
    have bP3 : BoxS ((wq.alloc (.cells #[.int .i64 (-1), .int .i64 (-1), .int .i64 3, .int .i64 (-1), .int .i64 3, .int .i64 3, .int .i64 (-1), .int .i64 3] 28)).alloc (.cells #[.int .i64 0, .int .i64 2, .int .i64 4, .int .i64 2, .int .i64 4, .int .i64 3, .int .i64 0, .int .i64 3] 28)).drew (w.heap.size + 1 + 1) 28 #[.int .i64 0, .int .i64 0, .int .i64 2, .int .i64 0, .int .i64 4, .int .i64 0] := (bP2.alloc _).alloc _
    have bQ3 : BoxS ((wq.alloc (.cells #[.int .i64 (-1), .int .i64 (-1), .int .i64 3, .int .i64 (-1), .int .i64 3, .int .i64 3, .int .i64 (-1), .int .i64 3] 28)).alloc (.cells #[.int .i64 0, .int .i64 2, .int .i64 4, .int .i64 2, .int .i64 4, .int .i64 3, .int .i64 0, .int .i64 3] 28)).drew (w.heap.size + 1 + 1 + 1) 28 #[.int .i64 0, .int .i64 0, .int .i64 2, .int .i64 0, .int .i64 2, .int .i64 2, .int .i64 0, .int .i64 2] := (bQ2.alloc _).alloc _
    have hB3 : Below w.heap.size w ((wq.alloc (.cells #[.int .i64 (-1), .int .i64 (-1), .int .i64 3, .int .i64 (-1), .int .i64 3, .int .i64 3, .int .i64 (-1), .int .i64 3] 28)).alloc (.cells #[.int .i64 0, .int .i64 2, .int .i64 4, .int .i64 2, .int .i64 4, .int .i64 3, .int .i64 0, .int .i64 3] 28)).drew := by have := hB2; (repeat' (first | (with_reducible exact Below.refl _ _) | (with_reducible assumption) | (with_reducible refine Below.alloc ?_ ?_ _) | (with_reducible refine Below.drew ?_) | (with_reducible refine Below.setCell ?_ ?_ _) | go_size | (exact (by simp)) | omega))
    clear bK2 bC2 bP2 bQ2 hB2
    generalize World.drew _ = wz at *
    have y0 := bK3.cell 0 rfl
    have z0 := bC3.cell 0 rfl
    have y1 := bK3.cell 1 rfl
    have z1 := bC3.cell 1 rfl
    have y2 := bK3.cell 2 rfl
    have z2 := bC3.cell 2 rfl
    have y3 := bK3.cell 3 rfl
    have z3 := bC3.cell 3 rfl
    go_wp2_with fail
    refine bodyPost_ret (v := .tuple #[.agg #[.slice (some ⟨w.heap.size + 1 + 1, 0, none⟩) 3 3, .int .i64 0, .int .i64 1, .int .i64 13], .slice (some ⟨w.heap.size + 4 + 1, 0, none⟩) 4 4, .agg #[.slice (some ⟨w.heap.size + 1 + 1 + 1, 0, none⟩) 4 4, .int .i64 1, .int .i64 1, .int .i64 2], .slice (some ⟨w.heap.size + 4, 0, none⟩) 4 4]) (by simp [results, Try.f48, go_sem, y0, y1, y2, y3, z0, z1, z2, z3]) rfl ?_
    exact ⟨_, _, _, _, 3, 4, 4, 4, rfl, ⟨prs_of_box (ps := [(0, 0), (2, 0), (4, 0)]) bP3, prs_of_box (ps := [(0, 2), (4, 2), (4, 3), (0, 3)]) b1⟩, ⟨prs_of_box (ps := [(0, 0), (2, 0), (2, 2), (0, 2)]) bQ3, prs_of_box (ps := [(-1, -1), (3, -1), (3, 3), (-1, 3)]) b0⟩, hB3⟩
end Go.Proofs.Ytmjcdggmofohcaa
