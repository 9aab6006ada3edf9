/- Trials: works. -/
import Derived.Test.YtkmacpkjobdffaaGreatTjB
import Derived.Test.YtkmacpkjobdffaaGreatSameI
import Derived.Test.YtkmacpkjobdffaaGreatTiN
namespace Go.Proofs.YtkmacpkjobdffaaGreat
open Go.RowKit
set_option maxRecDepth 100000 in
set_option maxHeartbeats 2000000 in
theorem Example3_any (w : World) : Calls Tryz.prog 88 #[] w fun e w' => ∃ A, e = .returned (.tuple #[.agg #[.int .i64 100, .int .i64 0, .int .i64 0, .int .i64 2, .int .i64 0, .int .i64 40, .int .i64 60, .int .i64 0], .slice A 2 2]) ∧ Below w.heap.size w w' := by
  go_enter Tryz.func88, Tryz.ntmps88
  go_wp2_with fail
  refine bodyPost_ret (v := .tuple #[.agg #[.int .i64 100, .int .i64 0, .int .i64 0, .int .i64 2, .int .i64 0, .int .i64 40, .int .i64 60, .int .i64 0], .slice (some ⟨w.heap.size + 1, 0, none⟩) 2 2]) (by simp [results, Tryz.results88, go_sem]) rfl ?_
  exact ⟨some ⟨w.heap.size + 1, 0, none⟩, rfl, by (repeat' (first | (with_reducible exact Below.refl _ _) | (with_reducible assumption) | (with_reducible refine Below.alloc ?_ ?_ _) | (with_reducible refine Below.drew ?_) | (with_reducible refine Below.setCell ?_ ?_ _) | go_size | (exact (by simp)) | omega))⟩
set_option maxRecDepth 100000 in
set_option maxHeartbeats 4000000 in
theorem Example9_any (w : World) : Calls Tryz.prog 49 #[] w fun e w' => ∃ A, e = .returned (.agg #[.int .i64 100, .int .i64 0, .int .i64 0, .int .i64 2, .int .i64 0, .int .i64 40, .int .i64 60, .int .i64 0, .int .i64 20, .slice A 3 3]) ∧ Hid (Tsts w' w'.heap.size A Ti.exT.ts) ∧ Below w.heap.size w w' := by
  have HE : Hid (∀ W, Calls Tryz.prog 88 #[] W fun e w' => ∃ A, e = .returned (.tuple #[.agg #[.int .i64 100, .int .i64 0, .int .i64 0, .int .i64 2, .int .i64 0, .int .i64 40, .int .i64 60, .int .i64 0], .slice A 2 2]) ∧ Below W.heap.size W w') := Example3_any
  go_enter Tryz.func49, Tryz.ntmps49
  go_wp2_with fail
  have bR := BoxS.new w 28 #[.int .i64 0, .int .i64 0, .int .i64 0, .int .i64 0, .int .i64 0, .int .i64 0, .int .i64 0, .int .i64 0, .int .i64 0, .slice none 0 0]
  have hB1 : Below w.heap.size w (w.alloc (.cells #[.int .i64 0, .int .i64 0, .int .i64 0, .int .i64 0, .int .i64 0, .int .i64 0, .int .i64 0, .int .i64 0, .int .i64 0, .slice none 0 0] 28)) := by (repeat' (first | (with_reducible exact Below.refl _ _) | (with_reducible assumption) | (with_reducible refine Below.alloc ?_ ?_ _) | (with_reducible refine Below.drew ?_) | (with_reducible refine Below.setCell ?_ ?_ _) | go_size | (exact (by simp)) | omega))
  generalize World.alloc w _ = w1 at *
  refine (HE.out _).mono ?_
  rintro e w2 ⟨A3, rfl, hb2⟩
  have bR2 := bR.below hb2
  have hB2 := hB1.trans (hb2.mono hB1.size)
  have hz2 := bR2.lt
  clear bR hb2 hB1 HE
  have bR9 := (((((bR2.alloc (.cells #[.int .i64 100, .int .i64 0, .int .i64 0, .int .i64 2, .int .i64 0, .int .i64 40, .int .i64 60, .int .i64 0] 25)).alloc (.cells #[.int .i64 1, .int .i64 1, .int .i64 0, .int .i64 10, .int .i64 12] 67)).alloc (.cells #[.int .i64 1, .int .i64 (-1), .int .i64 0, .int .i64 0, .int .i64 4] 67)).alloc (.cells #[.int .i64 (-1), .int .i64 1, .int .i64 0, .int .i64 50, .int .i64 43] 67)).alloc (.cells #[.int .i64 1000, .slice (some ⟨w2.heap.size + 1, 0, none⟩) 1 1, .int .i64 1000, .slice (some ⟨w2.heap.size + 1 + 1, 0, none⟩) 1 1, .int .i64 2000, .slice (some ⟨w2.heap.size + 1 + 1 + 1, 0, none⟩) 1 1] 78))
  have bA := ((((BoxS.new (World.alloc w2 (.cells #[.int .i64 100, .int .i64 0, .int .i64 0, .int .i64 2, .int .i64 0, .int .i64 40, .int .i64 60, .int .i64 0] 25)) 67 #[.int .i64 1, .int .i64 1, .int .i64 0, .int .i64 10, .int .i64 12]).alloc (.cells #[.int .i64 1, .int .i64 (-1), .int .i64 0, .int .i64 0, .int .i64 4] 67)).alloc (.cells #[.int .i64 (-1), .int .i64 1, .int .i64 0, .int .i64 50, .int .i64 43] 67)).alloc (.cells #[.int .i64 1000, .slice (some ⟨w2.heap.size + 1, 0, none⟩) 1 1, .int .i64 1000, .slice (some ⟨w2.heap.size + 1 + 1, 0, none⟩) 1 1, .int .i64 2000, .slice (some ⟨w2.heap.size + 1 + 1 + 1, 0, none⟩) 1 1] 78))
  have bB := (((BoxS.new (World.alloc (World.alloc w2 (.cells #[.int .i64 100, .int .i64 0, .int .i64 0, .int .i64 2, .int .i64 0, .int .i64 40, .int .i64 60, .int .i64 0] 25)) (.cells #[.int .i64 1, .int .i64 1, .int .i64 0, .int .i64 10, .int .i64 12] 67)) 67 #[.int .i64 1, .int .i64 (-1), .int .i64 0, .int .i64 0, .int .i64 4]).alloc (.cells #[.int .i64 (-1), .int .i64 1, .int .i64 0, .int .i64 50, .int .i64 43] 67)).alloc (.cells #[.int .i64 1000, .slice (some ⟨w2.heap.size + 1, 0, none⟩) 1 1, .int .i64 1000, .slice (some ⟨w2.heap.size + 1 + 1, 0, none⟩) 1 1, .int .i64 2000, .slice (some ⟨w2.heap.size + 1 + 1 + 1, 0, none⟩) 1 1] 78))
  have bC := ((BoxS.new (World.alloc (World.alloc (World.alloc w2 (.cells #[.int .i64 100, .int .i64 0, .int .i64 0, .int .i64 2, .int .i64 0, .int .i64 40, .int .i64 60, .int .i64 0] 25)) (.cells #[.int .i64 1, .int .i64 1, .int .i64 0, .int .i64 10, .int .i64 12] 67)) (.cells #[.int .i64 1, .int .i64 (-1), .int .i64 0, .int .i64 0, .int .i64 4] 67)) 67 #[.int .i64 (-1), .int .i64 1, .int .i64 0, .int .i64 50, .int .i64 43]).alloc (.cells #[.int .i64 1000, .slice (some ⟨w2.heap.size + 1, 0, none⟩) 1 1, .int .i64 1000, .slice (some ⟨w2.heap.size + 1 + 1, 0, none⟩) 1 1, .int .i64 2000, .slice (some ⟨w2.heap.size + 1 + 1 + 1, 0, none⟩) 1 1] 78))
  have bD := (BoxS.new (World.alloc (World.alloc (World.alloc (World.alloc w2 (.cells #[.int .i64 100, .int .i64 0, .int .i64 0, .int .i64 2, .int .i64 0, .int .i64 40, .int .i64 60, .int .i64 0] 25)) (.cells #[.int .i64 1, .int .i64 1, .int .i64 0, .int .i64 10, .int .i64 12] 67)) (.cells #[.int .i64 1, .int .i64 (-1), .int .i64 0, .int .i64 0, .int .i64 4] 67)) (.cells #[.int .i64 (-1), .int .i64 1, .int .i64 0, .int .i64 50, .int .i64 43] 67)) 78 #[.int .i64 1000, .slice (some ⟨w2.heap.size + 1, 0, none⟩) 1 1, .int .i64 1000, .slice (some ⟨w2.heap.size + 1 + 1, 0, none⟩) 1 1, .int .i64 2000, .slice (some ⟨w2.heap.size + 1 + 1 + 1, 0, none⟩) 1 1])
  have hB9 : Below w.heap.size w (World.alloc (World.alloc (World.alloc (World.alloc (World.alloc w2 (.cells #[.int .i64 100, .int .i64 0, .int .i64 0, .int .i64 2, .int .i64 0, .int .i64 40, .int .i64 60, .int .i64 0] 25)) (.cells #[.int .i64 1, .int .i64 1, .int .i64 0, .int .i64 10, .int .i64 12] 67)) (.cells #[.int .i64 1, .int .i64 (-1), .int .i64 0, .int .i64 0, .int .i64 4] 67)) (.cells #[.int .i64 (-1), .int .i64 1, .int .i64 0, .int .i64 50, .int .i64 43] 67)) (.cells #[.int .i64 1000, .slice (some ⟨w2.heap.size + 1, 0, none⟩) 1 1, .int .i64 1000, .slice (some ⟨w2.heap.size + 1 + 1, 0, none⟩) 1 1, .int .i64 2000, .slice (some ⟨w2.heap.size + 1 + 1 + 1, 0, none⟩) 1 1] 78)) := by (repeat' (first | (with_reducible exact Below.refl _ _) | (with_reducible assumption) | (with_reducible refine Below.alloc ?_ ?_ _) | (with_reducible refine Below.drew ?_) | (with_reducible refine Below.setCell ?_ ?_ _) | go_size | (exact (by simp)) | omega))
  have hz9 : w2.heap.size ≤ (World.alloc (World.alloc (World.alloc (World.alloc (World.alloc w2 (.cells #[.int .i64 100, .int .i64 0, .int .i64 0, .int .i64 2, .int .i64 0, .int .i64 40, .int .i64 60, .int .i64 0] 25)) (.cells #[.int .i64 1, .int .i64 1, .int .i64 0, .int .i64 10, .int .i64 12] 67)) (.cells #[.int .i64 1, .int .i64 (-1), .int .i64 0, .int .i64 0, .int .i64 4] 67)) (.cells #[.int .i64 (-1), .int .i64 1, .int .i64 0, .int .i64 50, .int .i64 43] 67)) (.cells #[.int .i64 1000, .slice (some ⟨w2.heap.size + 1, 0, none⟩) 1 1, .int .i64 1000, .slice (some ⟨w2.heap.size + 1 + 1, 0, none⟩) 1 1, .int .i64 2000, .slice (some ⟨w2.heap.size + 1 + 1 + 1, 0, none⟩) 1 1] 78)).heap.size := by simp; omega
  simp only [World.size_alloc] at bA bB bC bD
  have z0 := bR9.cell 0 rfl
  have f0 := bR9.frozen 0
  have z1 := bR9.cell 1 rfl
  have f1 := bR9.frozen 1
  have z2 := bR9.cell 2 rfl
  have f2 := bR9.frozen 2
  have z3 := bR9.cell 3 rfl
  have f3 := bR9.frozen 3
  have z4 := bR9.cell 4 rfl
  have f4 := bR9.frozen 4
  have z5 := bR9.cell 5 rfl
  have f5 := bR9.frozen 5
  have z6 := bR9.cell 6 rfl
  have f6 := bR9.frozen 6
  have z7 := bR9.cell 7 rfl
  have f7 := bR9.frozen 7
  have z8 := bR9.cell 8 rfl
  have f8 := bR9.frozen 8
  have z9 := bR9.cell 9 rfl
  have f9 := bR9.frozen 9
  go_wp2_with fail
  clear z0 f0 z1 f1 z2 f2 z3 f3 z4 f4 z5 f5 z6 f6 z7 f7 z8 f8 z9 f9
  generalize World.alloc (World.alloc (World.alloc (World.alloc (World.alloc w2 _) _) _) _) _ = w9 at *
  have oth : ∀ {X : World} {B : Nat} {t : TypeId} {vs : Array Value}, BoxS X B t vs → B ≠ w.heap.size → ∀ (i : Nat) (v : Value), BoxS (X.setCell ⟨w.heap.size, i, none⟩ v) B t vs := fun h hne i v => (Below.heap_setCell _ _ _ _ hne).trans h
  have bA2 := (oth (oth (oth (oth (oth (oth (oth (oth (oth (oth bA (by omega) 0 (.int .i64 100)) (by omega) 1 (.int .i64 0)) (by omega) 2 (.int .i64 0)) (by omega) 3 (.int .i64 2)) (by omega) 4 (.int .i64 0)) (by omega) 5 (.int .i64 40)) (by omega) 6 (.int .i64 60)) (by omega) 7 (.int .i64 0)) (by omega) 8 (.int .i64 20)) (by omega) 9 (.slice (some ⟨w2.heap.size + 1 + 1 + 1 + 1, 0, none⟩) 3 3))
  have bB2 := (oth (oth (oth (oth (oth (oth (oth (oth (oth (oth bB (by omega) 0 (.int .i64 100)) (by omega) 1 (.int .i64 0)) (by omega) 2 (.int .i64 0)) (by omega) 3 (.int .i64 2)) (by omega) 4 (.int .i64 0)) (by omega) 5 (.int .i64 40)) (by omega) 6 (.int .i64 60)) (by omega) 7 (.int .i64 0)) (by omega) 8 (.int .i64 20)) (by omega) 9 (.slice (some ⟨w2.heap.size + 1 + 1 + 1 + 1, 0, none⟩) 3 3))
  have bC2 := (oth (oth (oth (oth (oth (oth (oth (oth (oth (oth bC (by omega) 0 (.int .i64 100)) (by omega) 1 (.int .i64 0)) (by omega) 2 (.int .i64 0)) (by omega) 3 (.int .i64 2)) (by omega) 4 (.int .i64 0)) (by omega) 5 (.int .i64 40)) (by omega) 6 (.int .i64 60)) (by omega) 7 (.int .i64 0)) (by omega) 8 (.int .i64 20)) (by omega) 9 (.slice (some ⟨w2.heap.size + 1 + 1 + 1 + 1, 0, none⟩) 3 3))
  have bD2 := (oth (oth (oth (oth (oth (oth (oth (oth (oth (oth bD (by omega) 0 (.int .i64 100)) (by omega) 1 (.int .i64 0)) (by omega) 2 (.int .i64 0)) (by omega) 3 (.int .i64 2)) (by omega) 4 (.int .i64 0)) (by omega) 5 (.int .i64 40)) (by omega) 6 (.int .i64 60)) (by omega) 7 (.int .i64 0)) (by omega) 8 (.int .i64 20)) (by omega) 9 (.slice (some ⟨w2.heap.size + 1 + 1 + 1 + 1, 0, none⟩) 3 3))
  have bR10 : BoxS (World.setCell (World.setCell (World.setCell (World.setCell (World.setCell (World.setCell (World.setCell (World.setCell (World.setCell (World.setCell w9 ⟨w.heap.size, 0, none⟩ (.int .i64 100)) ⟨w.heap.size, 1, none⟩ (.int .i64 0)) ⟨w.heap.size, 2, none⟩ (.int .i64 0)) ⟨w.heap.size, 3, none⟩ (.int .i64 2)) ⟨w.heap.size, 4, none⟩ (.int .i64 0)) ⟨w.heap.size, 5, none⟩ (.int .i64 40)) ⟨w.heap.size, 6, none⟩ (.int .i64 60)) ⟨w.heap.size, 7, none⟩ (.int .i64 0)) ⟨w.heap.size, 8, none⟩ (.int .i64 20)) ⟨w.heap.size, 9, none⟩ (.slice (some ⟨w2.heap.size + 1 + 1 + 1 + 1, 0, none⟩) 3 3)) w.heap.size 28 #[.int .i64 100, .int .i64 0, .int .i64 0, .int .i64 2, .int .i64 0, .int .i64 40, .int .i64 60, .int .i64 0, .int .i64 20, .slice (some ⟨w2.heap.size + 1 + 1 + 1 + 1, 0, none⟩) 3 3] := ((((((((((bR9.put9 0 (.int .i64 100)).put9 1 (.int .i64 0)).put9 2 (.int .i64 0)).put9 3 (.int .i64 2)).put9 4 (.int .i64 0)).put9 5 (.int .i64 40)).put9 6 (.int .i64 60)).put9 7 (.int .i64 0)).put9 8 (.int .i64 20)).put9 9 (.slice (some ⟨w2.heap.size + 1 + 1 + 1 + 1, 0, none⟩) 3 3))
  have hB10 : Below w.heap.size w (World.setCell (World.setCell (World.setCell (World.setCell (World.setCell (World.setCell (World.setCell (World.setCell (World.setCell (World.setCell w9 ⟨w.heap.size, 0, none⟩ (.int .i64 100)) ⟨w.heap.size, 1, none⟩ (.int .i64 0)) ⟨w.heap.size, 2, none⟩ (.int .i64 0)) ⟨w.heap.size, 3, none⟩ (.int .i64 2)) ⟨w.heap.size, 4, none⟩ (.int .i64 0)) ⟨w.heap.size, 5, none⟩ (.int .i64 40)) ⟨w.heap.size, 6, none⟩ (.int .i64 60)) ⟨w.heap.size, 7, none⟩ (.int .i64 0)) ⟨w.heap.size, 8, none⟩ (.int .i64 20)) ⟨w.heap.size, 9, none⟩ (.slice (some ⟨w2.heap.size + 1 + 1 + 1 + 1, 0, none⟩) 3 3)) := by
    have st : ∀ {X : World} (i : Nat) (v : Value), Below w.heap.size w X → Below w.heap.size w (X.setCell ⟨w.heap.size, i, none⟩ v) := fun i v h => h.setCell (Nat.le_refl _) v
    exact st 9 _ (st 8 _ (st 7 _ (st 6 _ (st 5 _ (st 4 _ (st 3 _ (st 2 _ (st 1 _ (st 0 _ (hB9))))))))))
  have hz10 : w9.heap.size ≤ (World.setCell (World.setCell (World.setCell (World.setCell (World.setCell (World.setCell (World.setCell (World.setCell (World.setCell (World.setCell w9 ⟨w.heap.size, 0, none⟩ (.int .i64 100)) ⟨w.heap.size, 1, none⟩ (.int .i64 0)) ⟨w.heap.size, 2, none⟩ (.int .i64 0)) ⟨w.heap.size, 3, none⟩ (.int .i64 2)) ⟨w.heap.size, 4, none⟩ (.int .i64 0)) ⟨w.heap.size, 5, none⟩ (.int .i64 40)) ⟨w.heap.size, 6, none⟩ (.int .i64 60)) ⟨w.heap.size, 7, none⟩ (.int .i64 0)) ⟨w.heap.size, 8, none⟩ (.int .i64 20)) ⟨w.heap.size, 9, none⟩ (.slice (some ⟨w2.heap.size + 1 + 1 + 1 + 1, 0, none⟩) 3 3)).heap.size := by simp [World.setCell]
  clear bA bB bC bD bR9 hB9 oth bR2
  generalize (World.setCell (World.setCell (World.setCell (World.setCell (World.setCell (World.setCell (World.setCell (World.setCell (World.setCell (World.setCell w9 ⟨w.heap.size, 0, none⟩ (.int .i64 100)) ⟨w.heap.size, 1, none⟩ (.int .i64 0)) ⟨w.heap.size, 2, none⟩ (.int .i64 0)) ⟨w.heap.size, 3, none⟩ (.int .i64 2)) ⟨w.heap.size, 4, none⟩ (.int .i64 0)) ⟨w.heap.size, 5, none⟩ (.int .i64 40)) ⟨w.heap.size, 6, none⟩ (.int .i64 60)) ⟨w.heap.size, 7, none⟩ (.int .i64 0)) ⟨w.heap.size, 8, none⟩ (.int .i64 20)) ⟨w.heap.size, 9, none⟩ (.slice (some ⟨w2.heap.size + 1 + 1 + 1 + 1, 0, none⟩) 3 3)) = w10 at *
  have z0 := bR10.cell 0 rfl
  have z1 := bR10.cell 1 rfl
  have z2 := bR10.cell 2 rfl
  have z3 := bR10.cell 3 rfl
  have z4 := bR10.cell 4 rfl
  have z5 := bR10.cell 5 rfl
  have z6 := bR10.cell 6 rfl
  have z7 := bR10.cell 7 rfl
  have z8 := bR10.cell 8 rfl
  have z9 := bR10.cell 9 rfl
  refine bodyPost_ret (v := .agg #[.int .i64 100, .int .i64 0, .int .i64 0, .int .i64 2, .int .i64 0, .int .i64 40, .int .i64 60, .int .i64 0, .int .i64 20, .slice (some ⟨w2.heap.size + 1 + 1 + 1 + 1, 0, none⟩) 3 3]) (by simp [results, Tryz.results49, go_sem, z0, z1, z2, z3, z4, z5, z6, z7, z8, z9]) rfl ?_
  refine ⟨_, rfl, fun _ => ⟨_, 0, rfl, by have := bD2.lt; omega, fun k x hk => ?_⟩, hB10⟩
  have wk : ∀ {B : Nat} {a b c d e : Int}, BoxS w10 B 67 #[.int .i64 a, .int .i64 b, .int .i64 c, .int .i64 d, .int .i64 e] → Wks w10 w10.heap.size (some ⟨B, 0, none⟩) [(a, b, c, d, e)] := fun hb _ => ⟨_, 0, rfl, hb.lt, fun j hj => by
    have : j = 0 := by simpa using hj
    subst this
    exact ⟨hb.cell 0 rfl, hb.cell 1 rfl, hb.cell 2 rfl, hb.cell 3 rfl, hb.cell 4 rfl⟩⟩
  rcases k with _ | _ | _ | k
  · obtain rfl := Option.some.inj hk
    exact ⟨_, _, bD2.cell 0 rfl, bD2.cell 1 rfl, wk bA2, by decide⟩
  · obtain rfl := Option.some.inj hk
    exact ⟨_, _, bD2.cell 2 rfl, bD2.cell 3 rfl, wk bB2, by decide⟩
  · obtain rfl := Option.some.inj hk
    exact ⟨_, _, bD2.cell 4 rfl, bD2.cell 5 rfl, wk bC2, by decide⟩
  · simp [Ti.exT] at hk
end Go.Proofs.YtkmacpkjobdffaaGreat
namespace Go.Proofs.YtkmacpkjobdffaaGreat
open Go.RowKit
theorem ints_new (w : World) (l : List Int) : Ints (w.alloc (.cells (l.map (Value.int .i64)).toArray 3)) (w.alloc (.cells (l.map (Value.int .i64)).toArray 3)).heap.size (.slice (some ⟨w.heap.size, 0, none⟩) l.length l.length) l := by
  refine .inr ⟨w.heap.size, 0, _, rfl, by simp, fun k x hx => ?_⟩
  have := (BoxS.new w 3 (l.map (Value.int .i64)).toArray).cell k (v := .int .i64 x) (by simp [hx])
  simpa using this
set_option maxRecDepth 100000 in
set_option maxHeartbeats 8000000 in
theorem works9_any (w : World) : Calls Tryz.prog 9 #[] w fun e w' => e = .returned (.bool true) ∧ Below w.heap.size w w' := by
  have HE : Hid (∀ W, Calls Tryz.prog 49 #[] W fun e w' => ∃ A, e = .returned (.agg #[.int .i64 100, .int .i64 0, .int .i64 0, .int .i64 2, .int .i64 0, .int .i64 40, .int .i64 60, .int .i64 0, .int .i64 20, .slice A 3 3]) ∧ Hid (Tsts w' w'.heap.size A Ti.exT.ts) ∧ Below W.heap.size W w') := Example9_any
  have HG : Hid (∀ A W, Tsts W W.heap.size A Ti.exT.ts → Calls Tryz.prog 15 #[.agg #[.int .i64 100, .int .i64 0, .int .i64 0, .int .i64 2, .int .i64 0, .int .i64 40, .int .i64 60, .int .i64 0, .int .i64 20, .slice A 3 3]] W fun e w' => ∃ v : Value, e = .returned (.tuple #[v, .int .i64 0]) ∧ Hid (Ints w' w'.heap.size v [3]) ∧ Below W.heap.size W w') := fun A W hW => by
    have := GainsT_any Ti.exT A 3 W (by decide) hW
    rw [Ti.ex_op _ rfl] at this
    unfold Ti.allE at this
    rw [if_pos rfl, Ti.ex_gains] at this
    exact this
  have HC : Hid (∀ A W, Tsts W W.heap.size A Ti.exT.ts → Calls Tryz.prog 23 #[.agg #[.int .i64 100, .int .i64 0, .int .i64 0, .int .i64 2, .int .i64 0, .int .i64 40, .int .i64 60, .int .i64 0, .int .i64 20, .slice A 3 3], .agg #[.int .i64 1000, .int .i64 4]] W fun e w' => e = .returned (.tuple #[.int .i64 1, .int .i64 0]) ∧ Below W.heap.size W w') := fun A W hW => by
    have := Certify_any Ti.exT 1000 4 A 3 W (by decide) hW
    rw [Ti.ex_cert, Ti.ex_op _ Ti.ex_class] at this
    exact this
  have HF : Hid (∀ A W, Tsts W W.heap.size A Ti.exT.ts → Calls Tryz.prog 29 #[.agg #[.int .i64 100, .int .i64 0, .int .i64 0, .int .i64 2, .int .i64 0, .int .i64 40, .int .i64 60, .int .i64 0, .int .i64 20, .slice A 3 3], .agg #[.int .i64 1000, .int .i64 4]] W fun e w' => e = .returned (.tuple #[.int .i64 2, .int .i64 0]) ∧ Below W.heap.size W w') := fun A W hW => by
    have := Fewest_any Ti.exT 1000 4 A 3 W (by decide) hW
    rw [Ti.ex_few, Ti.ex_smE] at this
    exact this
  have HR : Hid (∀ A W, Tsts W W.heap.size A Ti.exT.ts → Calls Tryz.prog 27 #[.agg #[.int .i64 100, .int .i64 0, .int .i64 0, .int .i64 2, .int .i64 0, .int .i64 40, .int .i64 60, .int .i64 0, .int .i64 20, .slice A 3 3], .int .i64 2006] W fun e w' => ∃ v : Value, e = .returned (.tuple #[v, .int .i64 0]) ∧ Hid (Ints w' w'.heap.size v [2000]) ∧ Below W.heap.size W w') := fun A W hW => by
    have := RealT_any Ti.exT 2006 A 3 W (by decide) hW
    rw [Ti.ex_op _ (by decide), Ti.ex_real] at this
    exact this
  have HS : Hid (∀ v v' (l : List Int) W, Ints W W.heap.size v l → Ints W W.heap.size v' l → l.length ≤ 10 → Calls Tryz.prog 21 #[v, v'] W fun e w' => e = .returned (.bool true) ∧ Below W.heap.size W w') := fun v v' l W h1 h2 hl => by
    have := SameInts_any v v' l l W h1 h2 (by omega) (by omega)
    rw [decide_eq_true rfl] at this
    exact this
  go_enter Tryz.func9, Tryz.ntmps9
  go_wp2_with fail
  refine (HE.out _).mono ?_
  rintro e w1 ⟨A, rfl, hT1, hb1⟩
  go_wp2_with fail
  have bX2 := BoxS.new w1 28 #[.int .i64 100, .int .i64 0, .int .i64 0, .int .i64 2, .int .i64 0, .int .i64 40, .int .i64 60, .int .i64 0, .int .i64 20, .slice A 3 3]
  have hB2 : Below w.heap.size w (w1.alloc (.cells #[.int .i64 100, .int .i64 0, .int .i64 0, .int .i64 2, .int .i64 0, .int .i64 40, .int .i64 60, .int .i64 0, .int .i64 20, .slice A 3 3] 28)) := hb1.alloc hb1.size _
  have hT2 : Tsts (w1.alloc (.cells #[.int .i64 100, .int .i64 0, .int .i64 0, .int .i64 2, .int .i64 0, .int .i64 40, .int .i64 60, .int .i64 0, .int .i64 20, .slice A 3 3] 28)) (w1.alloc (.cells #[.int .i64 100, .int .i64 0, .int .i64 0, .int .i64 2, .int .i64 0, .int .i64 40, .int .i64 60, .int .i64 0, .int .i64 20, .slice A 3 3] 28)).heap.size A Ti.exT.ts := (hT1.out.keep ((Below.refl _ _).alloc (Nat.le_refl _) _)).wider (by simp)
  clear hT1 hb1 HE
  generalize World.alloc w1 _ = w2 at *
  generalize w1.heap.size = BX at *
  have HT2 := Lib.hid hT2
  clear hT2
  refine (HG.out _ _ HT2.out).mono ?_
  rintro e w3 ⟨v3, rfl, hv3, hb3⟩
  have bX3 := bX2.below hb3
  have hB3 := hB2.trans (hb3.mono hB2.size)
  have HT3 := Lib.hid ((HT2.out.keep hb3).wider hb3.size)
  clear bX2 hB2 HT2 hb3 HG
  have z0 := bX3.cell 0 rfl
  have z1 := bX3.cell 1 rfl
  have z2 := bX3.cell 2 rfl
  have z3 := bX3.cell 3 rfl
  have z4 := bX3.cell 4 rfl
  have z5 := bX3.cell 5 rfl
  have z6 := bX3.cell 6 rfl
  have z7 := bX3.cell 7 rfl
  have z8 := bX3.cell 8 rfl
  have z9 := bX3.cell 9 rfl
  have lX := bX3.lt
  go_wp2_with fail
  clear z0 z1 z2 z3 z4 z5 z6 z7 z8 z9
  clear lX
  refine (HC.out _ _ HT3.out).mono ?_
  rintro e w4 ⟨rfl, hb4⟩
  have bX4 := bX3.below hb4
  have hB4 := hB3.trans (hb4.mono hB3.size)
  have HT4 := Lib.hid ((HT3.out.keep hb4).wider hb4.size)
  have HV4 := Lib.hid ((hv3.out.keep hb4).more hb4.size)
  clear bX3 hB3 HT3 hb4 HC hv3
  have z0 := bX4.cell 0 rfl
  have z1 := bX4.cell 1 rfl
  have z2 := bX4.cell 2 rfl
  have z3 := bX4.cell 3 rfl
  have z4 := bX4.cell 4 rfl
  have z5 := bX4.cell 5 rfl
  have z6 := bX4.cell 6 rfl
  have z7 := bX4.cell 7 rfl
  have z8 := bX4.cell 8 rfl
  have z9 := bX4.cell 9 rfl
  have lX := bX4.lt
  go_wp2_with fail
  clear z0 z1 z2 z3 z4 z5 z6 z7 z8 z9
  clear lX
  refine (HF.out _ _ HT4.out).mono ?_
  rintro e w5 ⟨rfl, hb5⟩
  have bX5 := bX4.below hb5
  have hB5 := hB4.trans (hb5.mono hB4.size)
  have HT5 := Lib.hid ((HT4.out.keep hb5).wider hb5.size)
  have HV5 := Lib.hid ((HV4.out.keep hb5).more hb5.size)
  clear bX4 hB4 HT4 hb5 HF HV4
  have z0 := bX5.cell 0 rfl
  have z1 := bX5.cell 1 rfl
  have z2 := bX5.cell 2 rfl
  have z3 := bX5.cell 3 rfl
  have z4 := bX5.cell 4 rfl
  have z5 := bX5.cell 5 rfl
  have z6 := bX5.cell 6 rfl
  have z7 := bX5.cell 7 rfl
  have z8 := bX5.cell 8 rfl
  have z9 := bX5.cell 9 rfl
  have lX := bX5.lt
  go_wp2_with fail
  clear z0 z1 z2 z3 z4 z5 z6 z7 z8 z9
  clear lX
  refine (HR.out _ _ HT5.out).mono ?_
  rintro e w6 ⟨v6, rfl, hv6, hb6⟩
  have hB6 := hB5.trans (hb6.mono hB5.size)
  have HV6 := Lib.hid ((HV5.out.keep hb6).more hb6.size)
  clear bX5 hB5 HT5 hb6 HR HV5
  go_wp2_with fail
  have ha7 : Below w6.heap.size w6 (w6.alloc (.cells #[.int .i64 3] 3)) := (Below.refl _ _).alloc (Nat.le_refl _) _
  have hI7 : Ints (w6.alloc (.cells #[.int .i64 3] 3)) (w6.alloc (.cells #[.int .i64 3] 3)).heap.size (.slice (some ⟨w6.heap.size, 0, none⟩) 1 1) [3] := ints_new w6 [3]
  refine (HS.out _ _ [3] _ ((HV6.out.keep ha7).more ha7.size) hI7 (by decide)).mono ?_
  rintro e w8 ⟨rfl, hb8⟩
  have q8 : Below w6.heap.size w6 w8 := ha7.trans (hb8.mono ha7.size)
  have hB8 := hB6.trans (q8.mono hB6.size)
  have HV8 := Lib.hid ((hv6.out.keep q8).more q8.size)
  clear ha7 hI7 hb8 q8 hv6 HV6 hB6
  go_wp2_with fail
  have ha9 : Below w8.heap.size w8 (w8.alloc (.cells #[.int .i64 2000] 3)) := (Below.refl _ _).alloc (Nat.le_refl _) _
  have hI9 : Ints (w8.alloc (.cells #[.int .i64 2000] 3)) (w8.alloc (.cells #[.int .i64 2000] 3)).heap.size (.slice (some ⟨w8.heap.size, 0, none⟩) 1 1) [2000] := ints_new w8 [2000]
  refine (HS.out _ _ [2000] _ ((HV8.out.keep ha9).more ha9.size) hI9 (by decide)).mono ?_
  rintro e w10 ⟨rfl, hb10⟩
  have q10 : Below w8.heap.size w8 w10 := ha9.trans (hb10.mono ha9.size)
  have hB10 := hB8.trans (q10.mono hB8.size)
  go_wp2_with fail
  go_returns
  exact ⟨rfl, hB10⟩
end Go.Proofs.YtkmacpkjobdffaaGreat
