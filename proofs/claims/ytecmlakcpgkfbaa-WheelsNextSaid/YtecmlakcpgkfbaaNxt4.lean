/- Wheels: the reference's Next. -/
import Derived.Test.YtecmlakcpgkfbaaNxt3
namespace Go.Proofs.Ytecmlakcpgkfbaa
open Go.RowKit
set_option maxRecDepth 100000 in
set_option maxHeartbeats 8000000 in
theorem Next3_core (full read slip skew circ glo ghi wrn : Int) (ws : List Wh.Wk) (A : Option Addr) (c : Nat) (w : World) (E : Int) (L : List Wh.Tr) (W1 W2 R1 R2 : Int) (HR : Hid (E = 0 → R1 = 1 ∧ R2 = if W2 < W1 then -1 else 1)) (HR0 : Hid (E ≠ 0 → R1 = 0 ∧ R2 = 0)) (hw1 : 0 ≤ W1 ∧ W1 ≤ 1000000) (hw2 : 0 ≤ W2 ∧ W2 ≤ 1000000)
    (HKN : Hid (∀ W, Below w.heap.size w W → Calls Try.prog 57 #[.agg #[.int .i64 full, .int .i64 read, .int .i64 slip, .int .i64 skew, .int .i64 circ, .int .i64 glo, .int .i64 ghi, .int .i64 wrn], .slice A ws.length c, .bool true] W (PrsEPost L E W)))
    (HWA : Hid (E = 0 → ∀ A' c' W, Prs W W.heap.size A' L → Calls Try.prog 66 #[.agg #[.int .i64 full, .int .i64 read, .int .i64 slip, .int .i64 skew, .int .i64 circ, .int .i64 glo, .int .i64 ghi, .int .i64 wrn], .slice A' L.length c', .int .i64 1, .int .i64 1] W fun e w' => e = .returned (.int .i64 W1) ∧ Below W.heap.size W w'))
    (HWB : Hid (E = 0 → ∀ A' c' W, Prs W W.heap.size A' L → Calls Try.prog 66 #[.agg #[.int .i64 full, .int .i64 read, .int .i64 slip, .int .i64 skew, .int .i64 circ, .int .i64 glo, .int .i64 ghi, .int .i64 wrn], .slice A' L.length c', .int .i64 1, .int .i64 (-1)] W fun e w' => e = .returned (.int .i64 W2) ∧ Below W.heap.size W w'))
    (HWC : Hid (E = 0 → ∀ A' c' W, Prs W W.heap.size A' L → Calls Try.prog 66 #[.agg #[.int .i64 full, .int .i64 read, .int .i64 slip, .int .i64 skew, .int .i64 circ, .int .i64 glo, .int .i64 ghi, .int .i64 wrn], .slice A' L.length c', .int .i64 (-1), .int .i64 1] W fun e w' => e = .returned (.int .i64 W2) ∧ Below W.heap.size W w'))
    (HWD : Hid (E = 0 → ∀ A' c' W, Prs W W.heap.size A' L → Calls Try.prog 66 #[.agg #[.int .i64 full, .int .i64 read, .int .i64 slip, .int .i64 skew, .int .i64 circ, .int .i64 glo, .int .i64 ghi, .int .i64 wrn], .slice A' L.length c', .int .i64 (-1), .int .i64 (-1)] W fun e w' => e = .returned (.int .i64 W1) ∧ Below W.heap.size W w')) :
    Calls Try.prog 33 #[.agg #[.int .i64 full, .int .i64 read, .int .i64 slip, .int .i64 skew, .int .i64 circ, .int .i64 glo, .int .i64 ghi, .int .i64 wrn], .slice A ws.length c] w (NextPost R1 R2 E w) := by
  unfold PrsEPost at HKN
  by_cases hE : E = 0
  · subst hE
    have HA := Lib.hid (HWA.out rfl)
    have HBB := Lib.hid (HWB.out rfl)
    have HC := Lib.hid (HWC.out rfl)
    have HD := Lib.hid (HWD.out rfl)
    clear HWA HWB HWC HWD
    obtain ⟨e1, hr2⟩ := HR.out rfl
    subst e1
    have HR2 := Lib.hid hr2
    clear HR HR0 hr2
    go_enter Try.func33, Try.ntmps33
    go_wp2_with fail
    have bS1 := BoxS.new w 25 #[.int .i64 full, .int .i64 read, .int .i64 slip, .int .i64 skew, .int .i64 circ, .int .i64 glo, .int .i64 ghi, .int .i64 wrn]
    have hB1 : Below w.heap.size w (w.alloc (.cells #[.int .i64 full, .int .i64 read, .int .i64 slip, .int .i64 skew, .int .i64 circ, .int .i64 glo, .int .i64 ghi, .int .i64 wrn] 25)) := by (repeat' (first | (with_reducible exact Below.refl _ _) | (with_reducible assumption) | (with_reducible refine Below.alloc ?_ ?_ _) | (with_reducible refine Below.drew ?_) | (with_reducible refine Below.setCell ?_ ?_ _) | go_size | (exact (by simp)) | omega))
    generalize World.alloc w _ = w1 at *
    refine (HKN.out _ hB1).mono ?_
    rintro e3 w3 ⟨A3, c3, rfl, hP3, hb3⟩
    have bS3 := bS1.below hb3
    have hB3 := hB1.trans (hb3.mono hB1.size)
    clear bS1 hB1 hb3 HKN
    obtain ⟨⟨⟨s0, s1, s2⟩, s3, s4, s5⟩, s6, s7⟩ := boxS8 bS3
    have lS := bS3.lt
    go_upto_region 6 with fail
    obtain ⟨NB, hNB⟩ : ∃ n, n = w3.heap.size := ⟨_, rfl⟩
    have hSN : w.heap.size < NB := by rw [hNB]; exact lS
    have e0 : BoxS (((((w3.alloc (.cells #[.int .i64 1, .int .i64 1] 3)).alloc (.cells #[.int .i64 1, .int .i64 (-1)] 3)).alloc (.cells #[.int .i64 (-1), .int .i64 1] 3)).alloc (.cells #[.int .i64 (-1), .int .i64 (-1)] 3)).alloc (.cells #[.slice (some ⟨NB, 0, none⟩) 2 2, .slice (some ⟨NB + 1, 0, none⟩) 2 2, .slice (some ⟨NB + 1 + 1, 0, none⟩) 2 2, .slice (some ⟨NB + 1 + 1 + 1, 0, none⟩) 2 2] 33)) (NB) 3 #[.int .i64 1, .int .i64 1] := by
      have h := (((((BoxS.new w3 3 #[.int .i64 1, .int .i64 1]).alloc (.cells #[.int .i64 1, .int .i64 (-1)] 3)).alloc (.cells #[.int .i64 (-1), .int .i64 1] 3)).alloc (.cells #[.int .i64 (-1), .int .i64 (-1)] 3)).alloc (.cells #[.slice (some ⟨NB, 0, none⟩) 2 2, .slice (some ⟨NB + 1, 0, none⟩) 2 2, .slice (some ⟨NB + 1 + 1, 0, none⟩) 2 2, .slice (some ⟨NB + 1 + 1 + 1, 0, none⟩) 2 2] 33))
      try simp only [World.size_alloc] at h
      rw [← hNB] at h
      exact h
    have e1 : BoxS (((((w3.alloc (.cells #[.int .i64 1, .int .i64 1] 3)).alloc (.cells #[.int .i64 1, .int .i64 (-1)] 3)).alloc (.cells #[.int .i64 (-1), .int .i64 1] 3)).alloc (.cells #[.int .i64 (-1), .int .i64 (-1)] 3)).alloc (.cells #[.slice (some ⟨NB, 0, none⟩) 2 2, .slice (some ⟨NB + 1, 0, none⟩) 2 2, .slice (some ⟨NB + 1 + 1, 0, none⟩) 2 2, .slice (some ⟨NB + 1 + 1 + 1, 0, none⟩) 2 2] 33)) (NB + 1) 3 #[.int .i64 1, .int .i64 (-1)] := by
      have h := ((((BoxS.new (w3.alloc (.cells #[.int .i64 1, .int .i64 1] 3)) 3 #[.int .i64 1, .int .i64 (-1)]).alloc (.cells #[.int .i64 (-1), .int .i64 1] 3)).alloc (.cells #[.int .i64 (-1), .int .i64 (-1)] 3)).alloc (.cells #[.slice (some ⟨NB, 0, none⟩) 2 2, .slice (some ⟨NB + 1, 0, none⟩) 2 2, .slice (some ⟨NB + 1 + 1, 0, none⟩) 2 2, .slice (some ⟨NB + 1 + 1 + 1, 0, none⟩) 2 2] 33))
      try simp only [World.size_alloc] at h
      rw [← hNB] at h
      exact h
    have e2 : BoxS (((((w3.alloc (.cells #[.int .i64 1, .int .i64 1] 3)).alloc (.cells #[.int .i64 1, .int .i64 (-1)] 3)).alloc (.cells #[.int .i64 (-1), .int .i64 1] 3)).alloc (.cells #[.int .i64 (-1), .int .i64 (-1)] 3)).alloc (.cells #[.slice (some ⟨NB, 0, none⟩) 2 2, .slice (some ⟨NB + 1, 0, none⟩) 2 2, .slice (some ⟨NB + 1 + 1, 0, none⟩) 2 2, .slice (some ⟨NB + 1 + 1 + 1, 0, none⟩) 2 2] 33)) (NB + 1 + 1) 3 #[.int .i64 (-1), .int .i64 1] := by
      have h := (((BoxS.new ((w3.alloc (.cells #[.int .i64 1, .int .i64 1] 3)).alloc (.cells #[.int .i64 1, .int .i64 (-1)] 3)) 3 #[.int .i64 (-1), .int .i64 1]).alloc (.cells #[.int .i64 (-1), .int .i64 (-1)] 3)).alloc (.cells #[.slice (some ⟨NB, 0, none⟩) 2 2, .slice (some ⟨NB + 1, 0, none⟩) 2 2, .slice (some ⟨NB + 1 + 1, 0, none⟩) 2 2, .slice (some ⟨NB + 1 + 1 + 1, 0, none⟩) 2 2] 33))
      try simp only [World.size_alloc] at h
      rw [← hNB] at h
      exact h
    have e3 : BoxS (((((w3.alloc (.cells #[.int .i64 1, .int .i64 1] 3)).alloc (.cells #[.int .i64 1, .int .i64 (-1)] 3)).alloc (.cells #[.int .i64 (-1), .int .i64 1] 3)).alloc (.cells #[.int .i64 (-1), .int .i64 (-1)] 3)).alloc (.cells #[.slice (some ⟨NB, 0, none⟩) 2 2, .slice (some ⟨NB + 1, 0, none⟩) 2 2, .slice (some ⟨NB + 1 + 1, 0, none⟩) 2 2, .slice (some ⟨NB + 1 + 1 + 1, 0, none⟩) 2 2] 33)) (NB + 1 + 1 + 1) 3 #[.int .i64 (-1), .int .i64 (-1)] := by
      have h := ((BoxS.new (((w3.alloc (.cells #[.int .i64 1, .int .i64 1] 3)).alloc (.cells #[.int .i64 1, .int .i64 (-1)] 3)).alloc (.cells #[.int .i64 (-1), .int .i64 1] 3)) 3 #[.int .i64 (-1), .int .i64 (-1)]).alloc (.cells #[.slice (some ⟨NB, 0, none⟩) 2 2, .slice (some ⟨NB + 1, 0, none⟩) 2 2, .slice (some ⟨NB + 1 + 1, 0, none⟩) 2 2, .slice (some ⟨NB + 1 + 1 + 1, 0, none⟩) 2 2] 33))
      try simp only [World.size_alloc] at h
      rw [← hNB] at h
      exact h
    have e4 : BoxS (((((w3.alloc (.cells #[.int .i64 1, .int .i64 1] 3)).alloc (.cells #[.int .i64 1, .int .i64 (-1)] 3)).alloc (.cells #[.int .i64 (-1), .int .i64 1] 3)).alloc (.cells #[.int .i64 (-1), .int .i64 (-1)] 3)).alloc (.cells #[.slice (some ⟨NB, 0, none⟩) 2 2, .slice (some ⟨NB + 1, 0, none⟩) 2 2, .slice (some ⟨NB + 1 + 1, 0, none⟩) 2 2, .slice (some ⟨NB + 1 + 1 + 1, 0, none⟩) 2 2] 33)) (NB + 1 + 1 + 1 + 1) 33 #[.slice (some ⟨NB, 0, none⟩) 2 2, .slice (some ⟨NB + 1, 0, none⟩) 2 2, .slice (some ⟨NB + 1 + 1, 0, none⟩) 2 2, .slice (some ⟨NB + 1 + 1 + 1, 0, none⟩) 2 2] := by
      have h := (BoxS.new ((((w3.alloc (.cells #[.int .i64 1, .int .i64 1] 3)).alloc (.cells #[.int .i64 1, .int .i64 (-1)] 3)).alloc (.cells #[.int .i64 (-1), .int .i64 1] 3)).alloc (.cells #[.int .i64 (-1), .int .i64 (-1)] 3)) 33 #[.slice (some ⟨NB, 0, none⟩) 2 2, .slice (some ⟨NB + 1, 0, none⟩) 2 2, .slice (some ⟨NB + 1 + 1, 0, none⟩) 2 2, .slice (some ⟨NB + 1 + 1 + 1, 0, none⟩) 2 2])
      try simp only [World.size_alloc] at h
      rw [← hNB] at h
      exact h
    have eS : BoxS (((((w3.alloc (.cells #[.int .i64 1, .int .i64 1] 3)).alloc (.cells #[.int .i64 1, .int .i64 (-1)] 3)).alloc (.cells #[.int .i64 (-1), .int .i64 1] 3)).alloc (.cells #[.int .i64 (-1), .int .i64 (-1)] 3)).alloc (.cells #[.slice (some ⟨NB, 0, none⟩) 2 2, .slice (some ⟨NB + 1, 0, none⟩) 2 2, .slice (some ⟨NB + 1 + 1, 0, none⟩) 2 2, .slice (some ⟨NB + 1 + 1 + 1, 0, none⟩) 2 2] 33)) w.heap.size 25 #[.int .i64 full, .int .i64 read, .int .i64 slip, .int .i64 skew, .int .i64 circ, .int .i64 glo, .int .i64 ghi, .int .i64 wrn] := (((((bS3.alloc (.cells #[.int .i64 1, .int .i64 1] 3)).alloc (.cells #[.int .i64 1, .int .i64 (-1)] 3)).alloc (.cells #[.int .i64 (-1), .int .i64 1] 3)).alloc (.cells #[.int .i64 (-1), .int .i64 (-1)] 3)).alloc (.cells #[.slice (some ⟨NB, 0, none⟩) 2 2, .slice (some ⟨NB + 1, 0, none⟩) 2 2, .slice (some ⟨NB + 1 + 1, 0, none⟩) 2 2, .slice (some ⟨NB + 1 + 1 + 1, 0, none⟩) 2 2] 33))
    have hB4 : Below w.heap.size w (((((w3.alloc (.cells #[.int .i64 1, .int .i64 1] 3)).alloc (.cells #[.int .i64 1, .int .i64 (-1)] 3)).alloc (.cells #[.int .i64 (-1), .int .i64 1] 3)).alloc (.cells #[.int .i64 (-1), .int .i64 (-1)] 3)).alloc (.cells #[.slice (some ⟨NB, 0, none⟩) 2 2, .slice (some ⟨NB + 1, 0, none⟩) 2 2, .slice (some ⟨NB + 1 + 1, 0, none⟩) 2 2, .slice (some ⟨NB + 1 + 1 + 1, 0, none⟩) 2 2] 33)) := by have := hB3; (repeat' (first | (with_reducible exact Below.refl _ _) | (with_reducible assumption) | (with_reducible refine Below.alloc ?_ ?_ _) | (with_reducible refine Below.drew ?_) | (with_reducible refine Below.setCell ?_ ?_ _) | go_size | (exact (by simp)) | omega))
    have hb34 : Below w3.heap.size w3 (((((w3.alloc (.cells #[.int .i64 1, .int .i64 1] 3)).alloc (.cells #[.int .i64 1, .int .i64 (-1)] 3)).alloc (.cells #[.int .i64 (-1), .int .i64 1] 3)).alloc (.cells #[.int .i64 (-1), .int .i64 (-1)] 3)).alloc (.cells #[.slice (some ⟨NB, 0, none⟩) 2 2, .slice (some ⟨NB + 1, 0, none⟩) 2 2, .slice (some ⟨NB + 1 + 1, 0, none⟩) 2 2, .slice (some ⟨NB + 1 + 1 + 1, 0, none⟩) 2 2] 33)) := by (repeat' (first | (with_reducible exact Below.refl _ _) | (with_reducible assumption) | (with_reducible refine Below.alloc ?_ ?_ _) | (with_reducible refine Below.drew ?_) | (with_reducible refine Below.setCell ?_ ?_ _) | go_size | (exact (by simp)) | omega))
    have hP4 : Hid (Prs (((((w3.alloc (.cells #[.int .i64 1, .int .i64 1] 3)).alloc (.cells #[.int .i64 1, .int .i64 (-1)] 3)).alloc (.cells #[.int .i64 (-1), .int .i64 1] 3)).alloc (.cells #[.int .i64 (-1), .int .i64 (-1)] 3)).alloc (.cells #[.slice (some ⟨NB, 0, none⟩) 2 2, .slice (some ⟨NB + 1, 0, none⟩) 2 2, .slice (some ⟨NB + 1 + 1, 0, none⟩) 2 2, .slice (some ⟨NB + 1 + 1 + 1, 0, none⟩) 2 2] 33)) (((((w3.alloc (.cells #[.int .i64 1, .int .i64 1] 3)).alloc (.cells #[.int .i64 1, .int .i64 (-1)] 3)).alloc (.cells #[.int .i64 (-1), .int .i64 1] 3)).alloc (.cells #[.int .i64 (-1), .int .i64 (-1)] 3)).alloc (.cells #[.slice (some ⟨NB, 0, none⟩) 2 2, .slice (some ⟨NB + 1, 0, none⟩) 2 2, .slice (some ⟨NB + 1 + 1, 0, none⟩) 2 2, .slice (some ⟨NB + 1 + 1 + 1, 0, none⟩) 2 2] 33)).heap.size A3 L) := prs_keep hP3.out hb34
    simp only [← hNB] at e0 e1 e2 e3 e4 eS hB4 hP4 ⊢
    clear hb34 hP3 s0 s1 s2 s3 s4 s5 s6 s7 lS bS3 hB3 hNB
    generalize World.alloc (World.alloc (World.alloc (World.alloc (World.alloc w3 _) _) _) _) _ = w4 at *
    have KB0 : Hid (∀ W', Below w4.heap.size w4 W' → (((W'.cell? ⟨w.heap.size, 0, none⟩ = some (.int .i64 full) ∧ W'.cell? ⟨w.heap.size, 1, none⟩ = some (.int .i64 read) ∧ W'.cell? ⟨w.heap.size, 2, none⟩ = some (.int .i64 slip)) ∧ W'.cell? ⟨w.heap.size, 3, none⟩ = some (.int .i64 skew) ∧ W'.cell? ⟨w.heap.size, 4, none⟩ = some (.int .i64 circ) ∧ W'.cell? ⟨w.heap.size, 5, none⟩ = some (.int .i64 glo)) ∧ W'.cell? ⟨w.heap.size, 6, none⟩ = some (.int .i64 ghi) ∧ W'.cell? ⟨w.heap.size, 7, none⟩ = some (.int .i64 wrn)) ∧ (W'.cell? ⟨NB + 1 + 1 + 1 + 1, 0, none⟩ = some (.slice (some ⟨NB, 0, none⟩) 2 2) ∧ W'.cell? ⟨NB + 1 + 1 + 1 + 1, 1, none⟩ = some (.slice (some ⟨NB + 1, 0, none⟩) 2 2) ∧ W'.cell? ⟨NB + 1 + 1 + 1 + 1, 2, none⟩ = some (.slice (some ⟨NB + 1 + 1, 0, none⟩) 2 2) ∧ W'.cell? ⟨NB + 1 + 1 + 1 + 1, 3, none⟩ = some (.slice (some ⟨NB + 1 + 1 + 1, 0, none⟩) 2 2)) ∧ ((W'.cell? ⟨NB, 0, none⟩ = some (.int .i64 1) ∧ W'.cell? ⟨NB, 1, none⟩ = some (.int .i64 1)) ∧ (W'.cell? ⟨NB + 1, 0, none⟩ = some (.int .i64 1) ∧ W'.cell? ⟨NB + 1, 1, none⟩ = some (.int .i64 (-1))) ∧ (W'.cell? ⟨NB + 1 + 1, 0, none⟩ = some (.int .i64 (-1)) ∧ W'.cell? ⟨NB + 1 + 1, 1, none⟩ = some (.int .i64 1)) ∧ (W'.cell? ⟨NB + 1 + 1 + 1, 0, none⟩ = some (.int .i64 (-1)) ∧ W'.cell? ⟨NB + 1 + 1 + 1, 1, none⟩ = some (.int .i64 (-1))))) := fun W' h => ⟨boxS8 (eS.below h), ⟨(e4.below h).cell 0 rfl, (e4.below h).cell 1 rfl, (e4.below h).cell 2 rfl, (e4.below h).cell 3 rfl⟩, ⟨(e0.below h).cell 0 rfl, (e0.below h).cell 1 rfl⟩, ⟨(e1.below h).cell 0 rfl, (e1.below h).cell 1 rfl⟩, ⟨(e2.below h).cell 0 rfl, (e2.below h).cell 1 rfl⟩, ⟨(e3.below h).cell 0 rfl, (e3.below h).cell 1 rfl⟩⟩
    have lw4 := e4.lt
    clear e0 e1 e2 e3 e4 eS
    obtain ⟨TB, hTB⟩ : ∃ x : Int, x = (if W2 < W1 then W2 else W1) := ⟨_, rfl⟩
    have ht1 : TB ≤ W1 ∧ TB ≤ W2 ∧ 0 ≤ TB := by rw [hTB]; split <;> omega
    have HTB := Lib.hid hTB
    clear hTB
    go_wp2_with fail
    go_loopg [4, 5, 8, 10, 11] 4 (fun g x4 x5 x8 x10 x11 wx => ∃ k : Int, Hid (k + (g : Int) = 4) ∧ (0 ≤ k ∧ k ≤ 4) ∧ x10 = .int .i64 k ∧ Below w.heap.size w wx ∧ Below w4.heap.size w4 wx ∧ Hid ((k = 0 ∧ x4 = .int .i64 0 ∧ x5 = .int .i64 0 ∧ x8 = .int .i64 (-1)) ∨ (k = 1 ∧ x4 = .int .i64 1 ∧ x5 = .int .i64 1 ∧ x8 = .int .i64 W1) ∨ (2 ≤ k ∧ x4 = .int .i64 1 ∧ x5 = .int .i64 R2 ∧ x8 = .int .i64 TB)))
    case atStart => exact ⟨0, by simp [Hid], by omega, rfl, hB4, Below.refl _ _, .inl ⟨rfl, rfl, rfl, rfl⟩⟩
    case round =>
      clear hB4
      obtain ⟨k, hk, hk1, rfl, hB, hbb, hst⟩ := hrel
      have hk4 : k = 0 ∨ k = 1 ∨ k = 2 ∨ k = 3 ∨ k = 4 := by omega
      have hP5 : Hid (∀ W', Below wr.heap.size wr W' → Prs W' W'.heap.size A3 L) := fun W' h => prs_keep hP4.out (hbb.trans (h.mono hbb.size))
      have KC : Hid (∀ W', Below wr.heap.size wr W' → (((W'.cell? ⟨w.heap.size, 0, none⟩ = some (.int .i64 full) ∧ W'.cell? ⟨w.heap.size, 1, none⟩ = some (.int .i64 read) ∧ W'.cell? ⟨w.heap.size, 2, none⟩ = some (.int .i64 slip)) ∧ W'.cell? ⟨w.heap.size, 3, none⟩ = some (.int .i64 skew) ∧ W'.cell? ⟨w.heap.size, 4, none⟩ = some (.int .i64 circ) ∧ W'.cell? ⟨w.heap.size, 5, none⟩ = some (.int .i64 glo)) ∧ W'.cell? ⟨w.heap.size, 6, none⟩ = some (.int .i64 ghi) ∧ W'.cell? ⟨w.heap.size, 7, none⟩ = some (.int .i64 wrn)) ∧ (W'.cell? ⟨NB + 1 + 1 + 1 + 1, 0, none⟩ = some (.slice (some ⟨NB, 0, none⟩) 2 2) ∧ W'.cell? ⟨NB + 1 + 1 + 1 + 1, 1, none⟩ = some (.slice (some ⟨NB + 1, 0, none⟩) 2 2) ∧ W'.cell? ⟨NB + 1 + 1 + 1 + 1, 2, none⟩ = some (.slice (some ⟨NB + 1 + 1, 0, none⟩) 2 2) ∧ W'.cell? ⟨NB + 1 + 1 + 1 + 1, 3, none⟩ = some (.slice (some ⟨NB + 1 + 1 + 1, 0, none⟩) 2 2)) ∧ ((W'.cell? ⟨NB, 0, none⟩ = some (.int .i64 1) ∧ W'.cell? ⟨NB, 1, none⟩ = some (.int .i64 1)) ∧ (W'.cell? ⟨NB + 1, 0, none⟩ = some (.int .i64 1) ∧ W'.cell? ⟨NB + 1, 1, none⟩ = some (.int .i64 (-1))) ∧ (W'.cell? ⟨NB + 1 + 1, 0, none⟩ = some (.int .i64 (-1)) ∧ W'.cell? ⟨NB + 1 + 1, 1, none⟩ = some (.int .i64 1)) ∧ (W'.cell? ⟨NB + 1 + 1 + 1, 0, none⟩ = some (.int .i64 (-1)) ∧ W'.cell? ⟨NB + 1 + 1 + 1, 1, none⟩ = some (.int .i64 (-1))))) := fun W' h => KB0.out W' (hbb.trans (h.mono hbb.size))
      have q0 : Below wr.heap.size wr wr.drew := (Below.refl _ _).drew
      have hmo : Try.prog.follows .mixedOrders = true := by kernel_rfl
      have lwr : NB + 1 + 1 + 1 + 1 < wr.heap.size := by
        have := hbb.size
        omega
      rcases hk4 with rfl | rfl | rfl | rfl | rfl

      · obtain ⟨_, rfl, rfl, rfl⟩ : (0 : Int) = 0 ∧ _ := hst.out.resolve_right (by omega)
        go_upto_region 9 with fail
        refine (wpIn_wide (n := 4)).1 ?_
        refine wpIn_region_held (fun W' => Below wr.heap.size wr W') 30 hmo ?_
        refine wpHeldIn_take (i := 0) (v := ?_) (plain_of (by kernel_rfl)) rfl (by kernel_rfl) (fun _ _ _ h => h) (yieldsSoIn_of (by kernel_rfl) ?_ (fun _ => rfl)) q0 ?_; rotate_left; focus (intro wq hw; have kq := KC.out wq hw; clear hw; go_simp; try (with_reducible rfl))
        refine wpHeldIn_take (i := 1) (v := ?_) (plain_of (by kernel_rfl)) rfl (by kernel_rfl) (fun _ _ _ h => h) (yieldsSoIn_of (by kernel_rfl) ?_ (fun _ => rfl)) q0 ?_; rotate_left; focus (intro wq hw; clear hw; go_simp; try (with_reducible rfl))
        refine wpHeldIn_take (i := 2) (v := ?_) (plain_of (by kernel_rfl)) rfl (by kernel_rfl) (fun _ _ _ h => h) (yieldsSoIn_of (by kernel_rfl) ?_ (fun _ => rfl)) q0 ?_; rotate_left; focus (intro wq hw; clear hw; go_simp; try (with_reducible rfl))
        refine wpHeldIn_take (i := 3) (v := ?_) (plain_of (by kernel_rfl)) rfl (by kernel_rfl) (fun _ _ _ h => h) (yieldsSoIn_of (by kernel_rfl) ?_ (fun _ => rfl)) q0 ?_; rotate_left; focus (intro wq hw; clear hw; go_simp; try (with_reducible rfl))
        refine wpHeldIn_take (i := 4) (v := ?_) (plain_of (by kernel_rfl)) rfl (by kernel_rfl) (fun _ _ _ h => h) (yieldsSoIn_of (by kernel_rfl) ?_ (fun _ => rfl)) q0 ?_; rotate_left; focus (intro wq hw; clear hw; go_simp; try (with_reducible rfl))
        refine wpHeldIn_take (i := 5) (v := ?_) (plain_of (by kernel_rfl)) rfl (by kernel_rfl) (fun _ _ _ h => h) (yieldsSoIn_of (by kernel_rfl) ?_ (fun _ => rfl)) q0 ?_; rotate_left; focus (intro wq hw; have kq := KC.out wq hw; clear hw; go_simp; try (with_reducible rfl))
        refine wpHeldIn_take (i := 6) (v := ?_) (plain_of (by kernel_rfl)) rfl (by kernel_rfl) (fun _ _ _ h => h) (yieldsSoIn_of (by kernel_rfl) ?_ (fun _ => rfl)) q0 ?_; rotate_left; focus (intro wq hw; clear hw; go_simp; try (with_reducible rfl))
        refine wpHeldIn_take (i := 7) (v := ?_) (plain_of (by kernel_rfl)) rfl (by kernel_rfl) (fun _ _ _ h => h) (yieldsSoIn_of (by kernel_rfl) ?_ (fun _ => rfl)) q0 ?_; rotate_left; focus (intro wq hw; have kq := KC.out wq hw; clear hw; go_simp; try (with_reducible rfl))
        refine wpHeldIn_take (i := 8) (v := ?_) (plain_of (by kernel_rfl)) rfl (by kernel_rfl) (fun _ _ _ h => h) (yieldsSoIn_of (by kernel_rfl) ?_ (fun _ => rfl)) q0 ?_; rotate_left; focus (intro wq hw; clear hw; go_simp; try (with_reducible rfl))
        refine wpHeldIn_take (i := 9) (v := ?_) (plain_of (by kernel_rfl)) rfl (by kernel_rfl) (fun _ _ _ h => h) (yieldsSoIn_of (by kernel_rfl) ?_ (fun _ => rfl)) q0 ?_; rotate_left; focus (intro wq hw; clear hw; go_simp; try (with_reducible rfl))
        refine wpHeldIn_take (i := 10) (v := ?_) (plain_of (by kernel_rfl)) rfl (by kernel_rfl) (fun _ _ _ h => h) (yieldsSoIn_of (by kernel_rfl) ?_ (fun _ => rfl)) q0 ?_; rotate_left; focus (intro wq hw; clear hw; go_simp; try (with_reducible rfl))
        refine wpHeldIn_take (i := 11) (v := ?_) (plain_of (by kernel_rfl)) rfl (by kernel_rfl) (fun _ _ _ h => h) (yieldsSoIn_of (by kernel_rfl) ?_ (fun _ => rfl)) q0 ?_; rotate_left; focus (intro wq hw; have kq := KC.out wq hw; clear hw; go_simp; try (with_reducible rfl))
        refine wpHeldIn_take (i := 12) (v := ?_) (plain_of (by kernel_rfl)) rfl (by kernel_rfl) (fun _ _ _ h => h) (yieldsSoIn_of (by kernel_rfl) ?_ (fun _ => rfl)) q0 ?_; rotate_left; focus (intro wq hw; clear hw; go_simp; try (with_reducible rfl))
        refine wpHeldIn_take (i := 13) (v := ?_) (plain_of (by kernel_rfl)) rfl (by kernel_rfl) (fun _ _ _ h => h) (yieldsSoIn_of (by kernel_rfl) ?_ (fun _ => rfl)) q0 ?_; rotate_left; focus (intro wq hw; have kq := KC.out wq hw; clear hw; go_simp; try (with_reducible rfl))
        refine wpHeldIn_one (i := 14) (by kernel_rfl) (by kernel_rfl) rfl (by kernel_rfl) (fun K1 hK1 => ?_)
        go_simp
        refine ⟨trivial, (callsIn_wide.2 (HA.out _ _ _ (hP5.out _ q0))).mono ?_⟩
        rintro e5 w5 ⟨rfl, hb5⟩
        have q1 := q0.trans (hb5.mono q0.size)
        refine hK1 _ _ q1 ?_
        refine wpHeldIn_take (i := 15) (v := ?_) (plain_of (by kernel_rfl)) rfl (by kernel_rfl) (fun _ _ _ h => h) (yieldsSoIn_of (by kernel_rfl) ?_ (fun _ => rfl)) q1 ?_; rotate_left; focus (intro wq hw; clear hw; go_simp; try (with_reducible rfl))
        refine wpHeldIn_done (by kernel_rfl) ?_ _
        go_simp
        have hB5 := hB.trans (q1.mono hB.size)
        have hbb5 := hbb.trans (q1.mono hbb.size)
        have KC5 := KB0.out _ hbb5
        have lw5 : NB + 1 + 1 + 1 + 1 < w5.heap.size := by have := hbb5.size; omega
        clear KC q0 q1 hb5 hB hbb hP5 lwr
        go_upto_region 11 with fail
        go_quiet (fail)
        go_wp2_with fail
        obtain ⟨g', hg'⟩ : ∃ g', gk = g' + 1 := ⟨gk - 1, by have := hk.out; omega⟩
        go_roundg g'
        case measure => omega
        case rel => exact ⟨1, by have := hk.out; simp only [Hid]; omega, by omega, by go_num, by (repeat' (first | (with_reducible exact Below.refl _ _) | (with_reducible assumption) | (with_reducible refine Below.alloc ?_ ?_ _) | (with_reducible refine below_drewN ?_ _) | (with_reducible refine Below.drew ?_) | (with_reducible refine Below.setCell ?_ ?_ _) | go_size)), by (repeat' (first | (with_reducible exact Below.refl _ _) | (with_reducible assumption) | (with_reducible refine Below.alloc ?_ ?_ _) | (with_reducible refine below_drewN ?_ _) | (with_reducible refine Below.drew ?_) | (with_reducible refine Below.setCell ?_ ?_ _) | go_size)), .inr (.inl ⟨rfl, rfl, rfl, rfl⟩)⟩
      · obtain ⟨_, rfl, rfl, rfl⟩ : (1 : Int) = 1 ∧ _ := (hst.out.resolve_left (by omega)).resolve_right (by omega)
        have d1 : decide (W1 < 0) = false := decide_eq_false (by omega)
        go_upto_region 9 with fail
        refine (wpIn_wide (n := 4)).1 ?_
        refine wpIn_region_held (fun W' => Below wr.heap.size wr W') 30 hmo ?_
        refine wpHeldIn_take (i := 0) (v := ?_) (plain_of (by kernel_rfl)) rfl (by kernel_rfl) (fun _ _ _ h => h) (yieldsSoIn_of (by kernel_rfl) ?_ (fun _ => rfl)) q0 ?_; rotate_left; focus (intro wq hw; have kq := KC.out wq hw; clear hw; go_simp; try (with_reducible rfl))
        refine wpHeldIn_take (i := 1) (v := ?_) (plain_of (by kernel_rfl)) rfl (by kernel_rfl) (fun _ _ _ h => h) (yieldsSoIn_of (by kernel_rfl) ?_ (fun _ => rfl)) q0 ?_; rotate_left; focus (intro wq hw; clear hw; go_simp; try (with_reducible rfl))
        refine wpHeldIn_take (i := 2) (v := ?_) (plain_of (by kernel_rfl)) rfl (by kernel_rfl) (fun _ _ _ h => h) (yieldsSoIn_of (by kernel_rfl) ?_ (fun _ => rfl)) q0 ?_; rotate_left; focus (intro wq hw; clear hw; go_simp; try (with_reducible rfl))
        refine wpHeldIn_take (i := 3) (v := ?_) (plain_of (by kernel_rfl)) rfl (by kernel_rfl) (fun _ _ _ h => h) (yieldsSoIn_of (by kernel_rfl) ?_ (fun _ => rfl)) q0 ?_; rotate_left; focus (intro wq hw; clear hw; go_simp; try (with_reducible rfl))
        refine wpHeldIn_take (i := 4) (v := ?_) (plain_of (by kernel_rfl)) rfl (by kernel_rfl) (fun _ _ _ h => h) (yieldsSoIn_of (by kernel_rfl) ?_ (fun _ => rfl)) q0 ?_; rotate_left; focus (intro wq hw; clear hw; go_simp; try (with_reducible rfl))
        refine wpHeldIn_take (i := 5) (v := ?_) (plain_of (by kernel_rfl)) rfl (by kernel_rfl) (fun _ _ _ h => h) (yieldsSoIn_of (by kernel_rfl) ?_ (fun _ => rfl)) q0 ?_; rotate_left; focus (intro wq hw; have kq := KC.out wq hw; clear hw; go_simp; try (with_reducible rfl))
        refine wpHeldIn_take (i := 6) (v := ?_) (plain_of (by kernel_rfl)) rfl (by kernel_rfl) (fun _ _ _ h => h) (yieldsSoIn_of (by kernel_rfl) ?_ (fun _ => rfl)) q0 ?_; rotate_left; focus (intro wq hw; clear hw; go_simp; try (with_reducible rfl))
        refine wpHeldIn_take (i := 7) (v := ?_) (plain_of (by kernel_rfl)) rfl (by kernel_rfl) (fun _ _ _ h => h) (yieldsSoIn_of (by kernel_rfl) ?_ (fun _ => rfl)) q0 ?_; rotate_left; focus (intro wq hw; have kq := KC.out wq hw; clear hw; go_simp; try (with_reducible rfl))
        refine wpHeldIn_take (i := 8) (v := ?_) (plain_of (by kernel_rfl)) rfl (by kernel_rfl) (fun _ _ _ h => h) (yieldsSoIn_of (by kernel_rfl) ?_ (fun _ => rfl)) q0 ?_; rotate_left; focus (intro wq hw; clear hw; go_simp; try (with_reducible rfl))
        refine wpHeldIn_take (i := 9) (v := ?_) (plain_of (by kernel_rfl)) rfl (by kernel_rfl) (fun _ _ _ h => h) (yieldsSoIn_of (by kernel_rfl) ?_ (fun _ => rfl)) q0 ?_; rotate_left; focus (intro wq hw; clear hw; go_simp; try (with_reducible rfl))
        refine wpHeldIn_take (i := 10) (v := ?_) (plain_of (by kernel_rfl)) rfl (by kernel_rfl) (fun _ _ _ h => h) (yieldsSoIn_of (by kernel_rfl) ?_ (fun _ => rfl)) q0 ?_; rotate_left; focus (intro wq hw; clear hw; go_simp; try (with_reducible rfl))
        refine wpHeldIn_take (i := 11) (v := ?_) (plain_of (by kernel_rfl)) rfl (by kernel_rfl) (fun _ _ _ h => h) (yieldsSoIn_of (by kernel_rfl) ?_ (fun _ => rfl)) q0 ?_; rotate_left; focus (intro wq hw; have kq := KC.out wq hw; clear hw; go_simp; try (with_reducible rfl))
        refine wpHeldIn_take (i := 12) (v := ?_) (plain_of (by kernel_rfl)) rfl (by kernel_rfl) (fun _ _ _ h => h) (yieldsSoIn_of (by kernel_rfl) ?_ (fun _ => rfl)) q0 ?_; rotate_left; focus (intro wq hw; clear hw; go_simp; try (with_reducible rfl))
        refine wpHeldIn_take (i := 13) (v := ?_) (plain_of (by kernel_rfl)) rfl (by kernel_rfl) (fun _ _ _ h => h) (yieldsSoIn_of (by kernel_rfl) ?_ (fun _ => rfl)) q0 ?_; rotate_left; focus (intro wq hw; have kq := KC.out wq hw; clear hw; go_simp; try (with_reducible rfl))
        refine wpHeldIn_one (i := 14) (by kernel_rfl) (by kernel_rfl) rfl (by kernel_rfl) (fun K1 hK1 => ?_)
        go_simp
        refine ⟨trivial, (callsIn_wide.2 (HBB.out _ _ _ (hP5.out _ q0))).mono ?_⟩
        rintro e5 w5 ⟨rfl, hb5⟩
        have q1 := q0.trans (hb5.mono q0.size)
        refine hK1 _ _ q1 ?_
        refine wpHeldIn_take (i := 15) (v := ?_) (plain_of (by kernel_rfl)) rfl (by kernel_rfl) (fun _ _ _ h => h) (yieldsSoIn_of (by kernel_rfl) ?_ (fun _ => rfl)) q1 ?_; rotate_left; focus (intro wq hw; clear hw; go_simp; try (with_reducible rfl))
        refine wpHeldIn_done (by kernel_rfl) ?_ _
        go_simp
        have hB5 := hB.trans (q1.mono hB.size)
        have hbb5 := hbb.trans (q1.mono hbb.size)
        have KC5 := KB0.out _ hbb5
        have lw5 : NB + 1 + 1 + 1 + 1 < w5.heap.size := by have := hbb5.size; omega
        clear KC q0 q1 hb5 hB hbb hP5 lwr
        by_cases hc : W2 < W1
        · have d2 : decide (W2 < W1) = true := decide_eq_true hc
          have z1 : Hid (TB = W2) := by unfold Hid; rw [HTB.out, if_pos hc]
          have z2 : Hid (R2 = -1) := by unfold Hid; rw [HR2.out, if_pos hc]
          clear hc
          go_upto_region 11 with fail
          go_quiet (fail)
          go_wp2_with fail
          obtain ⟨g', hg'⟩ : ∃ g', gk = g' + 1 := ⟨gk - 1, by have := hk.out; omega⟩
          go_roundg g'
          case measure => omega
          case rel => exact ⟨2, by have := hk.out; simp only [Hid]; omega, by omega, by go_num, by (repeat' (first | (with_reducible exact Below.refl _ _) | (with_reducible assumption) | (with_reducible refine Below.alloc ?_ ?_ _) | (with_reducible refine below_drewN ?_ _) | (with_reducible refine Below.drew ?_) | (with_reducible refine Below.setCell ?_ ?_ _) | go_size)), by (repeat' (first | (with_reducible exact Below.refl _ _) | (with_reducible assumption) | (with_reducible refine Below.alloc ?_ ?_ _) | (with_reducible refine below_drewN ?_ _) | (with_reducible refine Below.drew ?_) | (with_reducible refine Below.setCell ?_ ?_ _) | go_size)), .inr (.inr ⟨by omega, rfl, by rw [z2.out], by rw [z1.out]⟩)⟩
        · have d2 : decide (W2 < W1) = false := decide_eq_false hc
          have z1 : Hid (TB = W1) := by unfold Hid; rw [HTB.out, if_neg hc]
          have z2 : Hid (R2 = 1) := by unfold Hid; rw [HR2.out, if_neg hc]
          clear hc
          go_wp2_with fail
          obtain ⟨g', hg'⟩ : ∃ g', gk = g' + 1 := ⟨gk - 1, by have := hk.out; omega⟩
          go_roundg g'
          case measure => omega
          case rel => exact ⟨2, by have := hk.out; simp only [Hid]; omega, by omega, by go_num, by (repeat' (first | (with_reducible exact Below.refl _ _) | (with_reducible assumption) | (with_reducible refine Below.alloc ?_ ?_ _) | (with_reducible refine below_drewN ?_ _) | (with_reducible refine Below.drew ?_) | (with_reducible refine Below.setCell ?_ ?_ _) | go_size)), by (repeat' (first | (with_reducible exact Below.refl _ _) | (with_reducible assumption) | (with_reducible refine Below.alloc ?_ ?_ _) | (with_reducible refine below_drewN ?_ _) | (with_reducible refine Below.drew ?_) | (with_reducible refine Below.setCell ?_ ?_ _) | go_size)), .inr (.inr ⟨by omega, rfl, by rw [z2.out], by rw [z1.out]⟩)⟩
      · obtain ⟨_, rfl, rfl, rfl⟩ := (hst.out.resolve_left (by omega)).resolve_left (by omega)
        have d1 : decide (TB < 0) = false := decide_eq_false (by omega)
        have d2 : decide (W2 < TB) = false := decide_eq_false (by omega)
        go_upto_region 9 with fail
        refine (wpIn_wide (n := 4)).1 ?_
        refine wpIn_region_held (fun W' => Below wr.heap.size wr W') 30 hmo ?_
        refine wpHeldIn_take (i := 0) (v := ?_) (plain_of (by kernel_rfl)) rfl (by kernel_rfl) (fun _ _ _ h => h) (yieldsSoIn_of (by kernel_rfl) ?_ (fun _ => rfl)) q0 ?_; rotate_left; focus (intro wq hw; have kq := KC.out wq hw; clear hw; go_simp; try (with_reducible rfl))
        refine wpHeldIn_take (i := 1) (v := ?_) (plain_of (by kernel_rfl)) rfl (by kernel_rfl) (fun _ _ _ h => h) (yieldsSoIn_of (by kernel_rfl) ?_ (fun _ => rfl)) q0 ?_; rotate_left; focus (intro wq hw; clear hw; go_simp; try (with_reducible rfl))
        refine wpHeldIn_take (i := 2) (v := ?_) (plain_of (by kernel_rfl)) rfl (by kernel_rfl) (fun _ _ _ h => h) (yieldsSoIn_of (by kernel_rfl) ?_ (fun _ => rfl)) q0 ?_; rotate_left; focus (intro wq hw; clear hw; go_simp; try (with_reducible rfl))
        refine wpHeldIn_take (i := 3) (v := ?_) (plain_of (by kernel_rfl)) rfl (by kernel_rfl) (fun _ _ _ h => h) (yieldsSoIn_of (by kernel_rfl) ?_ (fun _ => rfl)) q0 ?_; rotate_left; focus (intro wq hw; clear hw; go_simp; try (with_reducible rfl))
        refine wpHeldIn_take (i := 4) (v := ?_) (plain_of (by kernel_rfl)) rfl (by kernel_rfl) (fun _ _ _ h => h) (yieldsSoIn_of (by kernel_rfl) ?_ (fun _ => rfl)) q0 ?_; rotate_left; focus (intro wq hw; clear hw; go_simp; try (with_reducible rfl))
        refine wpHeldIn_take (i := 5) (v := ?_) (plain_of (by kernel_rfl)) rfl (by kernel_rfl) (fun _ _ _ h => h) (yieldsSoIn_of (by kernel_rfl) ?_ (fun _ => rfl)) q0 ?_; rotate_left; focus (intro wq hw; have kq := KC.out wq hw; clear hw; go_simp; try (with_reducible rfl))
        refine wpHeldIn_take (i := 6) (v := ?_) (plain_of (by kernel_rfl)) rfl (by kernel_rfl) (fun _ _ _ h => h) (yieldsSoIn_of (by kernel_rfl) ?_ (fun _ => rfl)) q0 ?_; rotate_left; focus (intro wq hw; clear hw; go_simp; try (with_reducible rfl))
        refine wpHeldIn_take (i := 7) (v := ?_) (plain_of (by kernel_rfl)) rfl (by kernel_rfl) (fun _ _ _ h => h) (yieldsSoIn_of (by kernel_rfl) ?_ (fun _ => rfl)) q0 ?_; rotate_left; focus (intro wq hw; have kq := KC.out wq hw; clear hw; go_simp; try (with_reducible rfl))
        refine wpHeldIn_take (i := 8) (v := ?_) (plain_of (by kernel_rfl)) rfl (by kernel_rfl) (fun _ _ _ h => h) (yieldsSoIn_of (by kernel_rfl) ?_ (fun _ => rfl)) q0 ?_; rotate_left; focus (intro wq hw; clear hw; go_simp; try (with_reducible rfl))
        refine wpHeldIn_take (i := 9) (v := ?_) (plain_of (by kernel_rfl)) rfl (by kernel_rfl) (fun _ _ _ h => h) (yieldsSoIn_of (by kernel_rfl) ?_ (fun _ => rfl)) q0 ?_; rotate_left; focus (intro wq hw; clear hw; go_simp; try (with_reducible rfl))
        refine wpHeldIn_take (i := 10) (v := ?_) (plain_of (by kernel_rfl)) rfl (by kernel_rfl) (fun _ _ _ h => h) (yieldsSoIn_of (by kernel_rfl) ?_ (fun _ => rfl)) q0 ?_; rotate_left; focus (intro wq hw; clear hw; go_simp; try (with_reducible rfl))
        refine wpHeldIn_take (i := 11) (v := ?_) (plain_of (by kernel_rfl)) rfl (by kernel_rfl) (fun _ _ _ h => h) (yieldsSoIn_of (by kernel_rfl) ?_ (fun _ => rfl)) q0 ?_; rotate_left; focus (intro wq hw; have kq := KC.out wq hw; clear hw; go_simp; try (with_reducible rfl))
        refine wpHeldIn_take (i := 12) (v := ?_) (plain_of (by kernel_rfl)) rfl (by kernel_rfl) (fun _ _ _ h => h) (yieldsSoIn_of (by kernel_rfl) ?_ (fun _ => rfl)) q0 ?_; rotate_left; focus (intro wq hw; clear hw; go_simp; try (with_reducible rfl))
        refine wpHeldIn_take (i := 13) (v := ?_) (plain_of (by kernel_rfl)) rfl (by kernel_rfl) (fun _ _ _ h => h) (yieldsSoIn_of (by kernel_rfl) ?_ (fun _ => rfl)) q0 ?_; rotate_left; focus (intro wq hw; have kq := KC.out wq hw; clear hw; go_simp; try (with_reducible rfl))
        refine wpHeldIn_one (i := 14) (by kernel_rfl) (by kernel_rfl) rfl (by kernel_rfl) (fun K1 hK1 => ?_)
        go_simp
        refine ⟨trivial, (callsIn_wide.2 (HC.out _ _ _ (hP5.out _ q0))).mono ?_⟩
        rintro e5 w5 ⟨rfl, hb5⟩
        have q1 := q0.trans (hb5.mono q0.size)
        refine hK1 _ _ q1 ?_
        refine wpHeldIn_take (i := 15) (v := ?_) (plain_of (by kernel_rfl)) rfl (by kernel_rfl) (fun _ _ _ h => h) (yieldsSoIn_of (by kernel_rfl) ?_ (fun _ => rfl)) q1 ?_; rotate_left; focus (intro wq hw; clear hw; go_simp; try (with_reducible rfl))
        refine wpHeldIn_done (by kernel_rfl) ?_ _
        go_simp
        have hB5 := hB.trans (q1.mono hB.size)
        have hbb5 := hbb.trans (q1.mono hbb.size)
        have KC5 := KB0.out _ hbb5
        have lw5 : NB + 1 + 1 + 1 + 1 < w5.heap.size := by have := hbb5.size; omega
        clear KC q0 q1 hb5 hB hbb hP5 lwr
        go_wp2_with fail
        obtain ⟨g', hg'⟩ : ∃ g', gk = g' + 1 := ⟨gk - 1, by have := hk.out; omega⟩
        go_roundg g'
        case measure => omega
        case rel => exact ⟨3, by have := hk.out; simp only [Hid]; omega, by omega, by go_num, by (repeat' (first | (with_reducible exact Below.refl _ _) | (with_reducible assumption) | (with_reducible refine Below.alloc ?_ ?_ _) | (with_reducible refine below_drewN ?_ _) | (with_reducible refine Below.drew ?_) | (with_reducible refine Below.setCell ?_ ?_ _) | go_size)), by (repeat' (first | (with_reducible exact Below.refl _ _) | (with_reducible assumption) | (with_reducible refine Below.alloc ?_ ?_ _) | (with_reducible refine below_drewN ?_ _) | (with_reducible refine Below.drew ?_) | (with_reducible refine Below.setCell ?_ ?_ _) | go_size)), .inr (.inr ⟨by omega, rfl, rfl, rfl⟩)⟩
      · obtain ⟨_, rfl, rfl, rfl⟩ := (hst.out.resolve_left (by omega)).resolve_left (by omega)
        have d1 : decide (TB < 0) = false := decide_eq_false (by omega)
        have d2 : decide (W1 < TB) = false := decide_eq_false (by omega)
        go_upto_region 9 with fail
        refine (wpIn_wide (n := 4)).1 ?_
        refine wpIn_region_held (fun W' => Below wr.heap.size wr W') 30 hmo ?_
        refine wpHeldIn_take (i := 0) (v := ?_) (plain_of (by kernel_rfl)) rfl (by kernel_rfl) (fun _ _ _ h => h) (yieldsSoIn_of (by kernel_rfl) ?_ (fun _ => rfl)) q0 ?_; rotate_left; focus (intro wq hw; have kq := KC.out wq hw; clear hw; go_simp; try (with_reducible rfl))
        refine wpHeldIn_take (i := 1) (v := ?_) (plain_of (by kernel_rfl)) rfl (by kernel_rfl) (fun _ _ _ h => h) (yieldsSoIn_of (by kernel_rfl) ?_ (fun _ => rfl)) q0 ?_; rotate_left; focus (intro wq hw; clear hw; go_simp; try (with_reducible rfl))
        refine wpHeldIn_take (i := 2) (v := ?_) (plain_of (by kernel_rfl)) rfl (by kernel_rfl) (fun _ _ _ h => h) (yieldsSoIn_of (by kernel_rfl) ?_ (fun _ => rfl)) q0 ?_; rotate_left; focus (intro wq hw; clear hw; go_simp; try (with_reducible rfl))
        refine wpHeldIn_take (i := 3) (v := ?_) (plain_of (by kernel_rfl)) rfl (by kernel_rfl) (fun _ _ _ h => h) (yieldsSoIn_of (by kernel_rfl) ?_ (fun _ => rfl)) q0 ?_; rotate_left; focus (intro wq hw; clear hw; go_simp; try (with_reducible rfl))
        refine wpHeldIn_take (i := 4) (v := ?_) (plain_of (by kernel_rfl)) rfl (by kernel_rfl) (fun _ _ _ h => h) (yieldsSoIn_of (by kernel_rfl) ?_ (fun _ => rfl)) q0 ?_; rotate_left; focus (intro wq hw; clear hw; go_simp; try (with_reducible rfl))
        refine wpHeldIn_take (i := 5) (v := ?_) (plain_of (by kernel_rfl)) rfl (by kernel_rfl) (fun _ _ _ h => h) (yieldsSoIn_of (by kernel_rfl) ?_ (fun _ => rfl)) q0 ?_; rotate_left; focus (intro wq hw; have kq := KC.out wq hw; clear hw; go_simp; try (with_reducible rfl))
        refine wpHeldIn_take (i := 6) (v := ?_) (plain_of (by kernel_rfl)) rfl (by kernel_rfl) (fun _ _ _ h => h) (yieldsSoIn_of (by kernel_rfl) ?_ (fun _ => rfl)) q0 ?_; rotate_left; focus (intro wq hw; clear hw; go_simp; try (with_reducible rfl))
        refine wpHeldIn_take (i := 7) (v := ?_) (plain_of (by kernel_rfl)) rfl (by kernel_rfl) (fun _ _ _ h => h) (yieldsSoIn_of (by kernel_rfl) ?_ (fun _ => rfl)) q0 ?_; rotate_left; focus (intro wq hw; have kq := KC.out wq hw; clear hw; go_simp; try (with_reducible rfl))
        refine wpHeldIn_take (i := 8) (v := ?_) (plain_of (by kernel_rfl)) rfl (by kernel_rfl) (fun _ _ _ h => h) (yieldsSoIn_of (by kernel_rfl) ?_ (fun _ => rfl)) q0 ?_; rotate_left; focus (intro wq hw; clear hw; go_simp; try (with_reducible rfl))
        refine wpHeldIn_take (i := 9) (v := ?_) (plain_of (by kernel_rfl)) rfl (by kernel_rfl) (fun _ _ _ h => h) (yieldsSoIn_of (by kernel_rfl) ?_ (fun _ => rfl)) q0 ?_; rotate_left; focus (intro wq hw; clear hw; go_simp; try (with_reducible rfl))
        refine wpHeldIn_take (i := 10) (v := ?_) (plain_of (by kernel_rfl)) rfl (by kernel_rfl) (fun _ _ _ h => h) (yieldsSoIn_of (by kernel_rfl) ?_ (fun _ => rfl)) q0 ?_; rotate_left; focus (intro wq hw; clear hw; go_simp; try (with_reducible rfl))
        refine wpHeldIn_take (i := 11) (v := ?_) (plain_of (by kernel_rfl)) rfl (by kernel_rfl) (fun _ _ _ h => h) (yieldsSoIn_of (by kernel_rfl) ?_ (fun _ => rfl)) q0 ?_; rotate_left; focus (intro wq hw; have kq := KC.out wq hw; clear hw; go_simp; try (with_reducible rfl))
        refine wpHeldIn_take (i := 12) (v := ?_) (plain_of (by kernel_rfl)) rfl (by kernel_rfl) (fun _ _ _ h => h) (yieldsSoIn_of (by kernel_rfl) ?_ (fun _ => rfl)) q0 ?_; rotate_left; focus (intro wq hw; clear hw; go_simp; try (with_reducible rfl))
        refine wpHeldIn_take (i := 13) (v := ?_) (plain_of (by kernel_rfl)) rfl (by kernel_rfl) (fun _ _ _ h => h) (yieldsSoIn_of (by kernel_rfl) ?_ (fun _ => rfl)) q0 ?_; rotate_left; focus (intro wq hw; have kq := KC.out wq hw; clear hw; go_simp; try (with_reducible rfl))
        refine wpHeldIn_one (i := 14) (by kernel_rfl) (by kernel_rfl) rfl (by kernel_rfl) (fun K1 hK1 => ?_)
        go_simp
        refine ⟨trivial, (callsIn_wide.2 (HD.out _ _ _ (hP5.out _ q0))).mono ?_⟩
        rintro e5 w5 ⟨rfl, hb5⟩
        have q1 := q0.trans (hb5.mono q0.size)
        refine hK1 _ _ q1 ?_
        refine wpHeldIn_take (i := 15) (v := ?_) (plain_of (by kernel_rfl)) rfl (by kernel_rfl) (fun _ _ _ h => h) (yieldsSoIn_of (by kernel_rfl) ?_ (fun _ => rfl)) q1 ?_; rotate_left; focus (intro wq hw; clear hw; go_simp; try (with_reducible rfl))
        refine wpHeldIn_done (by kernel_rfl) ?_ _
        go_simp
        have hB5 := hB.trans (q1.mono hB.size)
        have hbb5 := hbb.trans (q1.mono hbb.size)
        have KC5 := KB0.out _ hbb5
        have lw5 : NB + 1 + 1 + 1 + 1 < w5.heap.size := by have := hbb5.size; omega
        clear KC q0 q1 hb5 hB hbb hP5 lwr
        go_wp2_with fail
        obtain ⟨g', hg'⟩ : ∃ g', gk = g' + 1 := ⟨gk - 1, by have := hk.out; omega⟩
        go_roundg g'
        case measure => omega
        case rel => exact ⟨4, by have := hk.out; simp only [Hid]; omega, by omega, by go_num, by (repeat' (first | (with_reducible exact Below.refl _ _) | (with_reducible assumption) | (with_reducible refine Below.alloc ?_ ?_ _) | (with_reducible refine below_drewN ?_ _) | (with_reducible refine Below.drew ?_) | (with_reducible refine Below.setCell ?_ ?_ _) | go_size)), by (repeat' (first | (with_reducible exact Below.refl _ _) | (with_reducible assumption) | (with_reducible refine Below.alloc ?_ ?_ _) | (with_reducible refine below_drewN ?_ _) | (with_reducible refine Below.drew ?_) | (with_reducible refine Below.setCell ?_ ?_ _) | go_size)), .inr (.inr ⟨by omega, rfl, rfl, rfl⟩)⟩
      · obtain ⟨_, rfl, rfl, rfl⟩ := (hst.out.resolve_left (by omega)).resolve_left (by omega)
        go_wp2_with fail
        go_returns
        exact ⟨rfl, hB⟩
  · have hEb : (E != 0) = true := by simpa using hE
    have HR := Lib.hid (HR0.out hE)
    obtain ⟨e1, e2⟩ := HR.out
    subst e1 e2
    clear HR HR0 HWA HWB HWC HWD hE
    go_enter Try.func33, Try.ntmps33
    go_wp2_with fail
    have hB1 : Below w.heap.size w (w.alloc (.cells #[.int .i64 full, .int .i64 read, .int .i64 slip, .int .i64 skew, .int .i64 circ, .int .i64 glo, .int .i64 ghi, .int .i64 wrn] 25)) := by (repeat' (first | (with_reducible exact Below.refl _ _) | (with_reducible assumption) | (with_reducible refine Below.alloc ?_ ?_ _) | (with_reducible refine Below.drew ?_) | (with_reducible refine Below.setCell ?_ ?_ _) | go_size | (exact (by simp)) | omega))
    generalize World.alloc w _ = w1 at *
    refine (HKN.out _ hB1).mono ?_
    rintro e3 w3 ⟨A3, c3, rfl, hP3, hb3⟩
    have hB3 := hB1.trans (hb3.mono hB1.size)
    go_wp2_with fail
    go_returns
    exact ⟨rfl, hB3⟩
end Go.Proofs.Ytecmlakcpgkfbaa
