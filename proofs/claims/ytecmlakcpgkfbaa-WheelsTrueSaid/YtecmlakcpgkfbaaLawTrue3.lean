/- Wheels: the law WheelsTrue (P3.11). -/
import Derived.Test.YtecmlakcpgkfbaaStr3
import Derived.Test.YtecmlakcpgkfbaaOneW
import Derived.Test.YtecmlakcpgkfbaaMoreW
namespace Go.Proofs.Ytecmlakcpgkfbaa
open Go.RowKit
namespace Wh
theorem few_sp {d : Desk} (hok : okB d = true) : fewV d ≤ d.wr ↔ spE d = 0 := by
  have hd := ok_of hok
  unfold fewV fewF
  rw [hok, if_pos rfl, few_le_from]
  constructor
  · intro h
    have hex : ∃ x ∈ casesL d, (wrongN d x.1 : Int) ≤ d.wr := by
      rcases h with h | h
      · have g1 := hd.g1
        have g2 := hd.g2
        have g3 := hd.g3
        have k1 := hd.k1
        have hsm : tsm (d.glo, 0) := by unfold tsm; dsimp only; omega
        refine ⟨⟨(d.glo, 0), hsm⟩, (cases_iff hd _).2 ⟨⟨Int.le_refl _, g2⟩, by dsimp only; omega, by dsimp only; omega⟩, ?_⟩
        have := wrongTo_le d (d.glo, 0) d.ws.length
        show (wrongTo d (d.glo, 0) d.ws.length : Int) ≤ d.wr
        omega
      · exact h
    obtain ⟨x, hx, hw⟩ := hex
    exact sp_mem hok ((mem_truths hd x).2 ⟨(cases_iff hd x).1 hx, hw⟩)
  · intro h
    obtain ⟨x, hx⟩ := List.exists_mem_of_ne_nil _ (sp_ok h).2
    obtain ⟨h1, h2⟩ := (mem_truths hd x).1 hx
    exact .inr ⟨x, (cases_iff hd x).2 h1, h2⟩
theorem truth_in {d : Desk} (hok : okB d = true) {t : Tr} (h : truthB d t = true) : ∃ x ∈ truthsL d, x.1 = t := by
  have hd := ok_of hok
  unfold truthB inB at h
  simp only [Bool.and_eq_true, decide_eq_true_eq] at h
  have g1 := hd.g1
  have g3 := hd.g3
  have k2 := hd.k2
  have hsm : tsm t := by unfold tsm; omega
  exact ⟨⟨t, hsm⟩, (mem_truths hd _).2 ⟨h.1, h.2⟩, rfl⟩
theorem skews_mem {d : Desk} (h : spE d = 0) (x : Int) : x ∈ skewsV d ↔ ∃ t ∈ truthsL d, t.1.2 = x := by
  unfold skewsV
  rw [if_pos h]
  exact (all_spec (fun t => t.2) _ (fun t _ => by have := t.2; unfold tsm at this; first | omega | (dsimp only; omega))).2 x
theorem skews_span {d : Desk} (hok : okB d = true) : (skewsV d).length ≤ 100 := by
  have hd := ok_of hok
  by_cases h0 : spE d = 0
  · have hn : (skewsV d).Nodup := by
      unfold skewsV
      rw [if_pos h0]
      exact (all_spec (fun t => t.2) _ (fun t _ => by have := t.2; unfold tsm at this; first | omega | (dsimp only; omega))).1.imp (fun h => by omega)
    have hsub : skewsV d ⊆ (List.range 100).map (fun n : Nat => -20 + (n : Int)) := fun x hx => by
      obtain ⟨t, ht, rfl⟩ := (skews_mem h0 x).1 hx
      have := t.2
      unfold tsm at this
      rw [List.mem_map]
      exact ⟨(t.1.2 + 20).toNat, by rw [List.mem_range]; omega, by omega⟩
    have := hn.length_le_of_subset hsub
    rwa [List.length_map, List.length_range] at this
  · unfold skewsV
    rw [if_neg h0]
    simp
theorem stTo_mem (d : Desk) (x : Int) : ∀ k, x ∈ stTo d k → ∃ j : Nat, j < k ∧ anyR d j = false ∧ x = (j : Int)
  | 0, h => by cases h
  | k + 1, h => by
    have e : stTo d (k + 1) = if anyR d k then stTo d k else stTo d k ++ [(k : Int)] := rfl
    rw [e] at h
    cases ha : anyR d k
    · rw [ha] at h
      rcases List.mem_append.1 h with h | h
      · obtain ⟨j, h1, h2⟩ := stTo_mem d x k h
        exact ⟨j, by omega, h2⟩
      · exact ⟨k, by omega, ha, by simpa using h⟩
    · rw [ha] at h
      obtain ⟨j, h1, h2⟩ := stTo_mem d x k h
      exact ⟨j, by omega, h2⟩
theorem any_no {d : Desk} {k : Nat} (h : anyR d k = false) {x : TrS} (hx : x ∈ truthsL d) : rightB d (wkAt d.ws k) x.1 = false := by
  unfold anyR at h
  rw [List.any_eq_false] at h
  exact Bool.eq_false_iff.2 (h x hx)
end Wh
set_option maxRecDepth 100000 in
set_option maxHeartbeats 16000000 in
theorem True_far (full read slip skew circ glo ghi wrn : Int) (ws : List Wh.Wk) (A : Option Addr) (c : Nat) (t1 t2 : Int) (w : World) (HWK : Hid (∀ W, Calls Try.prog 13 #[] W (BoolPost true W))) (HRD : Hid (∀ W, Below w.heap.size w W → Calls Try.prog 34 #[.agg #[.int .i64 full, .int .i64 read, .int .i64 slip, .int .i64 skew, .int .i64 circ, .int .i64 glo, .int .i64 ghi, .int .i64 wrn], .slice A ws.length c] W (BoolPost false W))) : Calls Try.prog 5 #[.agg #[.int .i64 full, .int .i64 read, .int .i64 slip, .int .i64 skew, .int .i64 circ, .int .i64 glo, .int .i64 ghi, .int .i64 wrn], .slice A ws.length c, .agg #[.int .i64 t1, .int .i64 t2]] w (BoolPost true w) := by
  go_enter Try.func5, Try.ntmps5
  go_wp2_with fail
  have bS1 := (BoxS.new w 25 #[.int .i64 full, .int .i64 read, .int .i64 slip, .int .i64 skew, .int .i64 circ, .int .i64 glo, .int .i64 ghi, .int .i64 wrn]).alloc (.cells #[.int .i64 t1, .int .i64 t2] 47)
  have bX1 := BoxS.new (w.alloc (.cells #[.int .i64 full, .int .i64 read, .int .i64 slip, .int .i64 skew, .int .i64 circ, .int .i64 glo, .int .i64 ghi, .int .i64 wrn] 25)) 47 #[.int .i64 t1, .int .i64 t2]
  rw [World.size_alloc] at bX1
  have hB1 : Below w.heap.size w ((w.alloc (.cells #[.int .i64 full, .int .i64 read, .int .i64 slip, .int .i64 skew, .int .i64 circ, .int .i64 glo, .int .i64 ghi, .int .i64 wrn] 25)).alloc (.cells #[.int .i64 t1, .int .i64 t2] 47)) := by (repeat' (first | (with_reducible exact Below.refl _ _) | (with_reducible assumption) | (with_reducible refine Below.alloc ?_ ?_ _) | (with_reducible refine Below.drew ?_) | (with_reducible refine Below.setCell ?_ ?_ _) | go_size | (exact (by simp)) | omega))
  generalize World.alloc (World.alloc w _) _ = w1 at *
  have cs0 : w1.cell? ⟨w.heap.size, 0, none⟩ = some (.int .i64 full) := bS1.cell 0 rfl
  have cs1 : w1.cell? ⟨w.heap.size, 1, none⟩ = some (.int .i64 read) := bS1.cell 1 rfl
  have cs2 : w1.cell? ⟨w.heap.size, 2, none⟩ = some (.int .i64 slip) := bS1.cell 2 rfl
  have cs3 : w1.cell? ⟨w.heap.size, 3, none⟩ = some (.int .i64 skew) := bS1.cell 3 rfl
  have cs4 : w1.cell? ⟨w.heap.size, 4, none⟩ = some (.int .i64 circ) := bS1.cell 4 rfl
  have cs5 : w1.cell? ⟨w.heap.size, 5, none⟩ = some (.int .i64 glo) := bS1.cell 5 rfl
  have cs6 : w1.cell? ⟨w.heap.size, 6, none⟩ = some (.int .i64 ghi) := bS1.cell 6 rfl
  have cs7 : w1.cell? ⟨w.heap.size, 7, none⟩ = some (.int .i64 wrn) := bS1.cell 7 rfl
  have lS1 := bS1.lt
  have cx0 : w1.cell? ⟨w.heap.size + 1, 0, none⟩ = some (.int .i64 t1) := bX1.cell 0 rfl
  have cx1 : w1.cell? ⟨w.heap.size + 1, 1, none⟩ = some (.int .i64 t2) := bX1.cell 1 rfl
  have lX1 := bX1.lt
  go_wp2_with fail
  refine (HRD.out _ hB1).mono ?_
  rintro e w2 ⟨rfl, hb2⟩
  have bS2 := bS1.below hb2
  have bX2 := bX1.below hb2
  have hB2 := hB1.trans (hb2.mono hB1.size)
  clear cs0 cs1 cs2 cs3 cs4 cs5 cs6 cs7 lS1 cx0 cx1 lX1 bS1 bX1 hB1 hb2
  have cs0 : w2.cell? ⟨w.heap.size, 0, none⟩ = some (.int .i64 full) := bS2.cell 0 rfl
  have cs1 : w2.cell? ⟨w.heap.size, 1, none⟩ = some (.int .i64 read) := bS2.cell 1 rfl
  have cs2 : w2.cell? ⟨w.heap.size, 2, none⟩ = some (.int .i64 slip) := bS2.cell 2 rfl
  have cs3 : w2.cell? ⟨w.heap.size, 3, none⟩ = some (.int .i64 skew) := bS2.cell 3 rfl
  have cs4 : w2.cell? ⟨w.heap.size, 4, none⟩ = some (.int .i64 circ) := bS2.cell 4 rfl
  have cs5 : w2.cell? ⟨w.heap.size, 5, none⟩ = some (.int .i64 glo) := bS2.cell 5 rfl
  have cs6 : w2.cell? ⟨w.heap.size, 6, none⟩ = some (.int .i64 ghi) := bS2.cell 6 rfl
  have cs7 : w2.cell? ⟨w.heap.size, 7, none⟩ = some (.int .i64 wrn) := bS2.cell 7 rfl
  have lS2 := bS2.lt
  have cx0 : w2.cell? ⟨w.heap.size + 1, 0, none⟩ = some (.int .i64 t1) := bX2.cell 0 rfl
  have cx1 : w2.cell? ⟨w.heap.size + 1, 1, none⟩ = some (.int .i64 t2) := bX2.cell 1 rfl
  have lX2 := bX2.lt
  go_wp2_with fail
  refine (HWK.out _).mono ?_
  rintro e wz ⟨rfl, hbz⟩
  have hBz := hB2.trans (hbz.mono hB2.size)
  go_wp2_with fail
  go_returns
  exact ⟨rfl, hBz⟩
set_option maxRecDepth 100000 in
set_option maxHeartbeats 16000000 in
theorem True_not0 (full read slip skew circ glo ghi wrn : Int) (ws : List Wh.Wk) (A : Option Addr) (c : Nat) (t1 t2 : Int) (w : World) (LA : List Int) (nV : Int) (HG : Hid (Wks w w.heap.size A ws)) (hl8 : ws.length ≤ 8) (n0 : decide (nV < 0) = false) (n1 : decide ((ws.length : Int) < nV) = false) (n2 : decide (nV ≤ wrn) = true) (q1 : decide ((100 : Int) < (LA.length : Int)) = false)
    (HWK : Hid (∀ W, Calls Try.prog 13 #[] W (BoolPost true W))) (HRD : Hid (∀ W, Below w.heap.size w W → Calls Try.prog 34 #[.agg #[.int .i64 full, .int .i64 read, .int .i64 slip, .int .i64 skew, .int .i64 circ, .int .i64 glo, .int .i64 ghi, .int .i64 wrn], .slice A ws.length c] W (BoolPost true W)))
    (HFW : Hid (∀ W, Below w.heap.size w W → Calls Try.prog 16 #[.agg #[.int .i64 full, .int .i64 read, .int .i64 slip, .int .i64 skew, .int .i64 circ, .int .i64 glo, .int .i64 ghi, .int .i64 wrn], .slice A ws.length c] W (TwoPost nV 0 W)))
    (HAR : Hid (∀ W, Below w.heap.size w W → Calls Try.prog 20 #[.agg #[.int .i64 full, .int .i64 read, .int .i64 slip, .int .i64 skew, .int .i64 circ, .int .i64 glo, .int .i64 ghi, .int .i64 wrn], .slice A ws.length c] W (IntsEPost LA 0 W)))
    (HKN : Hid (∀ W, Calls Try.prog 35 #[.int .i64 0] W fun e w' => e = .returned (.bool true) ∧ w' = W))
    (HIT : Hid (∀ W, Below w.heap.size w W → Calls Try.prog 36 #[.agg #[.int .i64 full, .int .i64 read, .int .i64 slip, .int .i64 skew, .int .i64 circ, .int .i64 glo, .int .i64 ghi, .int .i64 wrn], .slice A ws.length c, .agg #[.int .i64 t1, .int .i64 t2]] W (BoolPost false W))) : Calls Try.prog 5 #[.agg #[.int .i64 full, .int .i64 read, .int .i64 slip, .int .i64 skew, .int .i64 circ, .int .i64 glo, .int .i64 ghi, .int .i64 wrn], .slice A ws.length c, .agg #[.int .i64 t1, .int .i64 t2]] w (BoolPost true w) := by
  go_enter Try.func5, Try.ntmps5
  go_wp2_with fail
  have bS1 := (BoxS.new w 25 #[.int .i64 full, .int .i64 read, .int .i64 slip, .int .i64 skew, .int .i64 circ, .int .i64 glo, .int .i64 ghi, .int .i64 wrn]).alloc (.cells #[.int .i64 t1, .int .i64 t2] 47)
  have bX1 := BoxS.new (w.alloc (.cells #[.int .i64 full, .int .i64 read, .int .i64 slip, .int .i64 skew, .int .i64 circ, .int .i64 glo, .int .i64 ghi, .int .i64 wrn] 25)) 47 #[.int .i64 t1, .int .i64 t2]
  rw [World.size_alloc] at bX1
  have hB1 : Below w.heap.size w ((w.alloc (.cells #[.int .i64 full, .int .i64 read, .int .i64 slip, .int .i64 skew, .int .i64 circ, .int .i64 glo, .int .i64 ghi, .int .i64 wrn] 25)).alloc (.cells #[.int .i64 t1, .int .i64 t2] 47)) := by (repeat' (first | (with_reducible exact Below.refl _ _) | (with_reducible assumption) | (with_reducible refine Below.alloc ?_ ?_ _) | (with_reducible refine Below.drew ?_) | (with_reducible refine Below.setCell ?_ ?_ _) | go_size | (exact (by simp)) | omega))
  generalize World.alloc (World.alloc w _) _ = w1 at *
  have cs0 : w1.cell? ⟨w.heap.size, 0, none⟩ = some (.int .i64 full) := bS1.cell 0 rfl
  have cs1 : w1.cell? ⟨w.heap.size, 1, none⟩ = some (.int .i64 read) := bS1.cell 1 rfl
  have cs2 : w1.cell? ⟨w.heap.size, 2, none⟩ = some (.int .i64 slip) := bS1.cell 2 rfl
  have cs3 : w1.cell? ⟨w.heap.size, 3, none⟩ = some (.int .i64 skew) := bS1.cell 3 rfl
  have cs4 : w1.cell? ⟨w.heap.size, 4, none⟩ = some (.int .i64 circ) := bS1.cell 4 rfl
  have cs5 : w1.cell? ⟨w.heap.size, 5, none⟩ = some (.int .i64 glo) := bS1.cell 5 rfl
  have cs6 : w1.cell? ⟨w.heap.size, 6, none⟩ = some (.int .i64 ghi) := bS1.cell 6 rfl
  have cs7 : w1.cell? ⟨w.heap.size, 7, none⟩ = some (.int .i64 wrn) := bS1.cell 7 rfl
  have lS1 := bS1.lt
  have cx0 : w1.cell? ⟨w.heap.size + 1, 0, none⟩ = some (.int .i64 t1) := bX1.cell 0 rfl
  have cx1 : w1.cell? ⟨w.heap.size + 1, 1, none⟩ = some (.int .i64 t2) := bX1.cell 1 rfl
  have lX1 := bX1.lt
  go_wp2_with fail
  refine (HRD.out _ hB1).mono ?_
  rintro e w2 ⟨rfl, hb2⟩
  have bS2 := bS1.below hb2
  have bX2 := bX1.below hb2
  have hB2 := hB1.trans (hb2.mono hB1.size)
  clear cs0 cs1 cs2 cs3 cs4 cs5 cs6 cs7 lS1 cx0 cx1 lX1 bS1 bX1 hB1 hb2
  have cs0 : w2.cell? ⟨w.heap.size, 0, none⟩ = some (.int .i64 full) := bS2.cell 0 rfl
  have cs1 : w2.cell? ⟨w.heap.size, 1, none⟩ = some (.int .i64 read) := bS2.cell 1 rfl
  have cs2 : w2.cell? ⟨w.heap.size, 2, none⟩ = some (.int .i64 slip) := bS2.cell 2 rfl
  have cs3 : w2.cell? ⟨w.heap.size, 3, none⟩ = some (.int .i64 skew) := bS2.cell 3 rfl
  have cs4 : w2.cell? ⟨w.heap.size, 4, none⟩ = some (.int .i64 circ) := bS2.cell 4 rfl
  have cs5 : w2.cell? ⟨w.heap.size, 5, none⟩ = some (.int .i64 glo) := bS2.cell 5 rfl
  have cs6 : w2.cell? ⟨w.heap.size, 6, none⟩ = some (.int .i64 ghi) := bS2.cell 6 rfl
  have cs7 : w2.cell? ⟨w.heap.size, 7, none⟩ = some (.int .i64 wrn) := bS2.cell 7 rfl
  have lS2 := bS2.lt
  have cx0 : w2.cell? ⟨w.heap.size + 1, 0, none⟩ = some (.int .i64 t1) := bX2.cell 0 rfl
  have cx1 : w2.cell? ⟨w.heap.size + 1, 1, none⟩ = some (.int .i64 t2) := bX2.cell 1 rfl
  have lX2 := bX2.lt
  go_wp2_with fail
  refine (HFW.out _ hB2).mono ?_
  rintro e w3 ⟨rfl, hb3⟩
  have bS3 := bS2.below hb3
  have bX3 := bX2.below hb3
  have hB3 := hB2.trans (hb3.mono hB2.size)
  clear cs0 cs1 cs2 cs3 cs4 cs5 cs6 cs7 lS2 cx0 cx1 lX2 bS2 bX2 hB2 hb3
  have cs0 : w3.cell? ⟨w.heap.size, 0, none⟩ = some (.int .i64 full) := bS3.cell 0 rfl
  have cs1 : w3.cell? ⟨w.heap.size, 1, none⟩ = some (.int .i64 read) := bS3.cell 1 rfl
  have cs2 : w3.cell? ⟨w.heap.size, 2, none⟩ = some (.int .i64 slip) := bS3.cell 2 rfl
  have cs3 : w3.cell? ⟨w.heap.size, 3, none⟩ = some (.int .i64 skew) := bS3.cell 3 rfl
  have cs4 : w3.cell? ⟨w.heap.size, 4, none⟩ = some (.int .i64 circ) := bS3.cell 4 rfl
  have cs5 : w3.cell? ⟨w.heap.size, 5, none⟩ = some (.int .i64 glo) := bS3.cell 5 rfl
  have cs6 : w3.cell? ⟨w.heap.size, 6, none⟩ = some (.int .i64 ghi) := bS3.cell 6 rfl
  have cs7 : w3.cell? ⟨w.heap.size, 7, none⟩ = some (.int .i64 wrn) := bS3.cell 7 rfl
  have lS3 := bS3.lt
  have cx0 : w3.cell? ⟨w.heap.size + 1, 0, none⟩ = some (.int .i64 t1) := bX3.cell 0 rfl
  have cx1 : w3.cell? ⟨w.heap.size + 1, 1, none⟩ = some (.int .i64 t2) := bX3.cell 1 rfl
  have lX3 := bX3.lt
  go_wp2_with fail
  refine (HAR.out _ hB3).mono ?_
  rintro e w4 ⟨v4, rfl, hv4, hb4⟩
  obtain ⟨ALAh, cLAh, rfl⟩ := ints_form hv4.out
  have bS4 := bS3.below hb4
  have bX4 := bX3.below hb4
  have hB4 := hB3.trans (hb4.mono hB3.size)
  clear cs0 cs1 cs2 cs3 cs4 cs5 cs6 cs7 lS3 cx0 cx1 lX3 bS3 bX3 hB3 hb4
  have LAh4 : Hid (Ints w4 w4.heap.size (.slice ALAh LA.length cLAh) LA) := hv4
  clear hv4
  have cs0 : w4.cell? ⟨w.heap.size, 0, none⟩ = some (.int .i64 full) := bS4.cell 0 rfl
  have cs1 : w4.cell? ⟨w.heap.size, 1, none⟩ = some (.int .i64 read) := bS4.cell 1 rfl
  have cs2 : w4.cell? ⟨w.heap.size, 2, none⟩ = some (.int .i64 slip) := bS4.cell 2 rfl
  have cs3 : w4.cell? ⟨w.heap.size, 3, none⟩ = some (.int .i64 skew) := bS4.cell 3 rfl
  have cs4 : w4.cell? ⟨w.heap.size, 4, none⟩ = some (.int .i64 circ) := bS4.cell 4 rfl
  have cs5 : w4.cell? ⟨w.heap.size, 5, none⟩ = some (.int .i64 glo) := bS4.cell 5 rfl
  have cs6 : w4.cell? ⟨w.heap.size, 6, none⟩ = some (.int .i64 ghi) := bS4.cell 6 rfl
  have cs7 : w4.cell? ⟨w.heap.size, 7, none⟩ = some (.int .i64 wrn) := bS4.cell 7 rfl
  have lS4 := bS4.lt
  have cx0 : w4.cell? ⟨w.heap.size + 1, 0, none⟩ = some (.int .i64 t1) := bX4.cell 0 rfl
  have cx1 : w4.cell? ⟨w.heap.size + 1, 1, none⟩ = some (.int .i64 t2) := bX4.cell 1 rfl
  have lX4 := bX4.lt
  go_wp2_with fail
  refine (HKN.out _).mono ?_
  rintro e wq ⟨rfl, hq⟩
  have hq := hq.symm
  subst hq
  go_wp2_with fail
  refine (HIT.out _ hB4).mono ?_
  rintro e w5 ⟨rfl, hb5⟩
  have bS5 := bS4.below hb5
  have bX5 := bX4.below hb5
  have hB5 := hB4.trans (hb5.mono hB4.size)
  have LAh5 : Hid (Ints w5 w5.heap.size (.slice ALAh LA.length cLAh) LA) := (LAh4.out.keep hb5).more hb5.size
  clear cs0 cs1 cs2 cs3 cs4 cs5 cs6 cs7 lS4 cx0 cx1 lX4 bS4 bX4 LAh4 hB4 hb5
  have cs0 : w5.cell? ⟨w.heap.size, 0, none⟩ = some (.int .i64 full) := bS5.cell 0 rfl
  have cs1 : w5.cell? ⟨w.heap.size, 1, none⟩ = some (.int .i64 read) := bS5.cell 1 rfl
  have cs2 : w5.cell? ⟨w.heap.size, 2, none⟩ = some (.int .i64 slip) := bS5.cell 2 rfl
  have cs3 : w5.cell? ⟨w.heap.size, 3, none⟩ = some (.int .i64 skew) := bS5.cell 3 rfl
  have cs4 : w5.cell? ⟨w.heap.size, 4, none⟩ = some (.int .i64 circ) := bS5.cell 4 rfl
  have cs5 : w5.cell? ⟨w.heap.size, 5, none⟩ = some (.int .i64 glo) := bS5.cell 5 rfl
  have cs6 : w5.cell? ⟨w.heap.size, 6, none⟩ = some (.int .i64 ghi) := bS5.cell 6 rfl
  have cs7 : w5.cell? ⟨w.heap.size, 7, none⟩ = some (.int .i64 wrn) := bS5.cell 7 rfl
  have lS5 := bS5.lt
  have cx0 : w5.cell? ⟨w.heap.size + 1, 0, none⟩ = some (.int .i64 t1) := bX5.cell 0 rfl
  have cx1 : w5.cell? ⟨w.heap.size + 1, 1, none⟩ = some (.int .i64 t2) := bX5.cell 1 rfl
  have lX5 := bX5.lt
  go_wp2_with fail
  refine (HWK.out _).mono ?_
  rintro e wz ⟨rfl, hbz⟩
  have hBz := hB5.trans (hbz.mono hB5.size)
  go_wp2_with fail
  go_returns
  exact ⟨rfl, hBz⟩
set_option maxRecDepth 100000 in
set_option maxHeartbeats 16000000 in
theorem True_not3 (full read slip skew circ glo ghi wrn : Int) (ws : List Wh.Wk) (A : Option Addr) (c : Nat) (t1 t2 : Int) (w : World) (LA : List Int) (nV : Int) (HG : Hid (Wks w w.heap.size A ws)) (hl8 : ws.length ≤ 8) (n0 : decide (nV < 0) = false) (n1 : decide ((ws.length : Int) < nV) = false) (n2 : decide (nV ≤ wrn) = false) (q1 : decide ((100 : Int) < (LA.length : Int)) = false)
    (HWK : Hid (∀ W, Calls Try.prog 13 #[] W (BoolPost true W))) (HRD : Hid (∀ W, Below w.heap.size w W → Calls Try.prog 34 #[.agg #[.int .i64 full, .int .i64 read, .int .i64 slip, .int .i64 skew, .int .i64 circ, .int .i64 glo, .int .i64 ghi, .int .i64 wrn], .slice A ws.length c] W (BoolPost true W)))
    (HFW : Hid (∀ W, Below w.heap.size w W → Calls Try.prog 16 #[.agg #[.int .i64 full, .int .i64 read, .int .i64 slip, .int .i64 skew, .int .i64 circ, .int .i64 glo, .int .i64 ghi, .int .i64 wrn], .slice A ws.length c] W (TwoPost nV 0 W)))
    (HAR : Hid (∀ W, Below w.heap.size w W → Calls Try.prog 20 #[.agg #[.int .i64 full, .int .i64 read, .int .i64 slip, .int .i64 skew, .int .i64 circ, .int .i64 glo, .int .i64 ghi, .int .i64 wrn], .slice A ws.length c] W (IntsEPost LA 3 W)))
    (HKN : Hid (∀ W, Calls Try.prog 35 #[.int .i64 3] W fun e w' => e = .returned (.bool true) ∧ w' = W))
    (HIT : Hid (∀ W, Below w.heap.size w W → Calls Try.prog 36 #[.agg #[.int .i64 full, .int .i64 read, .int .i64 slip, .int .i64 skew, .int .i64 circ, .int .i64 glo, .int .i64 ghi, .int .i64 wrn], .slice A ws.length c, .agg #[.int .i64 t1, .int .i64 t2]] W (BoolPost false W))) : Calls Try.prog 5 #[.agg #[.int .i64 full, .int .i64 read, .int .i64 slip, .int .i64 skew, .int .i64 circ, .int .i64 glo, .int .i64 ghi, .int .i64 wrn], .slice A ws.length c, .agg #[.int .i64 t1, .int .i64 t2]] w (BoolPost true w) := by
  go_enter Try.func5, Try.ntmps5
  go_wp2_with fail
  have bS1 := (BoxS.new w 25 #[.int .i64 full, .int .i64 read, .int .i64 slip, .int .i64 skew, .int .i64 circ, .int .i64 glo, .int .i64 ghi, .int .i64 wrn]).alloc (.cells #[.int .i64 t1, .int .i64 t2] 47)
  have bX1 := BoxS.new (w.alloc (.cells #[.int .i64 full, .int .i64 read, .int .i64 slip, .int .i64 skew, .int .i64 circ, .int .i64 glo, .int .i64 ghi, .int .i64 wrn] 25)) 47 #[.int .i64 t1, .int .i64 t2]
  rw [World.size_alloc] at bX1
  have hB1 : Below w.heap.size w ((w.alloc (.cells #[.int .i64 full, .int .i64 read, .int .i64 slip, .int .i64 skew, .int .i64 circ, .int .i64 glo, .int .i64 ghi, .int .i64 wrn] 25)).alloc (.cells #[.int .i64 t1, .int .i64 t2] 47)) := by (repeat' (first | (with_reducible exact Below.refl _ _) | (with_reducible assumption) | (with_reducible refine Below.alloc ?_ ?_ _) | (with_reducible refine Below.drew ?_) | (with_reducible refine Below.setCell ?_ ?_ _) | go_size | (exact (by simp)) | omega))
  generalize World.alloc (World.alloc w _) _ = w1 at *
  have cs0 : w1.cell? ⟨w.heap.size, 0, none⟩ = some (.int .i64 full) := bS1.cell 0 rfl
  have cs1 : w1.cell? ⟨w.heap.size, 1, none⟩ = some (.int .i64 read) := bS1.cell 1 rfl
  have cs2 : w1.cell? ⟨w.heap.size, 2, none⟩ = some (.int .i64 slip) := bS1.cell 2 rfl
  have cs3 : w1.cell? ⟨w.heap.size, 3, none⟩ = some (.int .i64 skew) := bS1.cell 3 rfl
  have cs4 : w1.cell? ⟨w.heap.size, 4, none⟩ = some (.int .i64 circ) := bS1.cell 4 rfl
  have cs5 : w1.cell? ⟨w.heap.size, 5, none⟩ = some (.int .i64 glo) := bS1.cell 5 rfl
  have cs6 : w1.cell? ⟨w.heap.size, 6, none⟩ = some (.int .i64 ghi) := bS1.cell 6 rfl
  have cs7 : w1.cell? ⟨w.heap.size, 7, none⟩ = some (.int .i64 wrn) := bS1.cell 7 rfl
  have lS1 := bS1.lt
  have cx0 : w1.cell? ⟨w.heap.size + 1, 0, none⟩ = some (.int .i64 t1) := bX1.cell 0 rfl
  have cx1 : w1.cell? ⟨w.heap.size + 1, 1, none⟩ = some (.int .i64 t2) := bX1.cell 1 rfl
  have lX1 := bX1.lt
  go_wp2_with fail
  refine (HRD.out _ hB1).mono ?_
  rintro e w2 ⟨rfl, hb2⟩
  have bS2 := bS1.below hb2
  have bX2 := bX1.below hb2
  have hB2 := hB1.trans (hb2.mono hB1.size)
  clear cs0 cs1 cs2 cs3 cs4 cs5 cs6 cs7 lS1 cx0 cx1 lX1 bS1 bX1 hB1 hb2
  have cs0 : w2.cell? ⟨w.heap.size, 0, none⟩ = some (.int .i64 full) := bS2.cell 0 rfl
  have cs1 : w2.cell? ⟨w.heap.size, 1, none⟩ = some (.int .i64 read) := bS2.cell 1 rfl
  have cs2 : w2.cell? ⟨w.heap.size, 2, none⟩ = some (.int .i64 slip) := bS2.cell 2 rfl
  have cs3 : w2.cell? ⟨w.heap.size, 3, none⟩ = some (.int .i64 skew) := bS2.cell 3 rfl
  have cs4 : w2.cell? ⟨w.heap.size, 4, none⟩ = some (.int .i64 circ) := bS2.cell 4 rfl
  have cs5 : w2.cell? ⟨w.heap.size, 5, none⟩ = some (.int .i64 glo) := bS2.cell 5 rfl
  have cs6 : w2.cell? ⟨w.heap.size, 6, none⟩ = some (.int .i64 ghi) := bS2.cell 6 rfl
  have cs7 : w2.cell? ⟨w.heap.size, 7, none⟩ = some (.int .i64 wrn) := bS2.cell 7 rfl
  have lS2 := bS2.lt
  have cx0 : w2.cell? ⟨w.heap.size + 1, 0, none⟩ = some (.int .i64 t1) := bX2.cell 0 rfl
  have cx1 : w2.cell? ⟨w.heap.size + 1, 1, none⟩ = some (.int .i64 t2) := bX2.cell 1 rfl
  have lX2 := bX2.lt
  go_wp2_with fail
  refine (HFW.out _ hB2).mono ?_
  rintro e w3 ⟨rfl, hb3⟩
  have bS3 := bS2.below hb3
  have bX3 := bX2.below hb3
  have hB3 := hB2.trans (hb3.mono hB2.size)
  clear cs0 cs1 cs2 cs3 cs4 cs5 cs6 cs7 lS2 cx0 cx1 lX2 bS2 bX2 hB2 hb3
  have cs0 : w3.cell? ⟨w.heap.size, 0, none⟩ = some (.int .i64 full) := bS3.cell 0 rfl
  have cs1 : w3.cell? ⟨w.heap.size, 1, none⟩ = some (.int .i64 read) := bS3.cell 1 rfl
  have cs2 : w3.cell? ⟨w.heap.size, 2, none⟩ = some (.int .i64 slip) := bS3.cell 2 rfl
  have cs3 : w3.cell? ⟨w.heap.size, 3, none⟩ = some (.int .i64 skew) := bS3.cell 3 rfl
  have cs4 : w3.cell? ⟨w.heap.size, 4, none⟩ = some (.int .i64 circ) := bS3.cell 4 rfl
  have cs5 : w3.cell? ⟨w.heap.size, 5, none⟩ = some (.int .i64 glo) := bS3.cell 5 rfl
  have cs6 : w3.cell? ⟨w.heap.size, 6, none⟩ = some (.int .i64 ghi) := bS3.cell 6 rfl
  have cs7 : w3.cell? ⟨w.heap.size, 7, none⟩ = some (.int .i64 wrn) := bS3.cell 7 rfl
  have lS3 := bS3.lt
  have cx0 : w3.cell? ⟨w.heap.size + 1, 0, none⟩ = some (.int .i64 t1) := bX3.cell 0 rfl
  have cx1 : w3.cell? ⟨w.heap.size + 1, 1, none⟩ = some (.int .i64 t2) := bX3.cell 1 rfl
  have lX3 := bX3.lt
  go_wp2_with fail
  refine (HAR.out _ hB3).mono ?_
  rintro e w4 ⟨v4, rfl, hv4, hb4⟩
  obtain ⟨ALAh, cLAh, rfl⟩ := ints_form hv4.out
  have bS4 := bS3.below hb4
  have bX4 := bX3.below hb4
  have hB4 := hB3.trans (hb4.mono hB3.size)
  clear cs0 cs1 cs2 cs3 cs4 cs5 cs6 cs7 lS3 cx0 cx1 lX3 bS3 bX3 hB3 hb4
  have LAh4 : Hid (Ints w4 w4.heap.size (.slice ALAh LA.length cLAh) LA) := hv4
  clear hv4
  have cs0 : w4.cell? ⟨w.heap.size, 0, none⟩ = some (.int .i64 full) := bS4.cell 0 rfl
  have cs1 : w4.cell? ⟨w.heap.size, 1, none⟩ = some (.int .i64 read) := bS4.cell 1 rfl
  have cs2 : w4.cell? ⟨w.heap.size, 2, none⟩ = some (.int .i64 slip) := bS4.cell 2 rfl
  have cs3 : w4.cell? ⟨w.heap.size, 3, none⟩ = some (.int .i64 skew) := bS4.cell 3 rfl
  have cs4 : w4.cell? ⟨w.heap.size, 4, none⟩ = some (.int .i64 circ) := bS4.cell 4 rfl
  have cs5 : w4.cell? ⟨w.heap.size, 5, none⟩ = some (.int .i64 glo) := bS4.cell 5 rfl
  have cs6 : w4.cell? ⟨w.heap.size, 6, none⟩ = some (.int .i64 ghi) := bS4.cell 6 rfl
  have cs7 : w4.cell? ⟨w.heap.size, 7, none⟩ = some (.int .i64 wrn) := bS4.cell 7 rfl
  have lS4 := bS4.lt
  have cx0 : w4.cell? ⟨w.heap.size + 1, 0, none⟩ = some (.int .i64 t1) := bX4.cell 0 rfl
  have cx1 : w4.cell? ⟨w.heap.size + 1, 1, none⟩ = some (.int .i64 t2) := bX4.cell 1 rfl
  have lX4 := bX4.lt
  go_wp2_with fail
  refine (HKN.out _).mono ?_
  rintro e wq ⟨rfl, hq⟩
  have hq := hq.symm
  subst hq
  go_wp2_with fail
  refine (HIT.out _ hB4).mono ?_
  rintro e w5 ⟨rfl, hb5⟩
  have bS5 := bS4.below hb5
  have bX5 := bX4.below hb5
  have hB5 := hB4.trans (hb5.mono hB4.size)
  have LAh5 : Hid (Ints w5 w5.heap.size (.slice ALAh LA.length cLAh) LA) := (LAh4.out.keep hb5).more hb5.size
  clear cs0 cs1 cs2 cs3 cs4 cs5 cs6 cs7 lS4 cx0 cx1 lX4 bS4 bX4 LAh4 hB4 hb5
  have cs0 : w5.cell? ⟨w.heap.size, 0, none⟩ = some (.int .i64 full) := bS5.cell 0 rfl
  have cs1 : w5.cell? ⟨w.heap.size, 1, none⟩ = some (.int .i64 read) := bS5.cell 1 rfl
  have cs2 : w5.cell? ⟨w.heap.size, 2, none⟩ = some (.int .i64 slip) := bS5.cell 2 rfl
  have cs3 : w5.cell? ⟨w.heap.size, 3, none⟩ = some (.int .i64 skew) := bS5.cell 3 rfl
  have cs4 : w5.cell? ⟨w.heap.size, 4, none⟩ = some (.int .i64 circ) := bS5.cell 4 rfl
  have cs5 : w5.cell? ⟨w.heap.size, 5, none⟩ = some (.int .i64 glo) := bS5.cell 5 rfl
  have cs6 : w5.cell? ⟨w.heap.size, 6, none⟩ = some (.int .i64 ghi) := bS5.cell 6 rfl
  have cs7 : w5.cell? ⟨w.heap.size, 7, none⟩ = some (.int .i64 wrn) := bS5.cell 7 rfl
  have lS5 := bS5.lt
  have cx0 : w5.cell? ⟨w.heap.size + 1, 0, none⟩ = some (.int .i64 t1) := bX5.cell 0 rfl
  have cx1 : w5.cell? ⟨w.heap.size + 1, 1, none⟩ = some (.int .i64 t2) := bX5.cell 1 rfl
  have lX5 := bX5.lt
  go_wp2_with fail
  refine (HWK.out _).mono ?_
  rintro e wz ⟨rfl, hbz⟩
  have hBz := hB5.trans (hbz.mono hB5.size)
  go_wp2_with fail
  go_returns
  exact ⟨rfl, hBz⟩
set_option maxRecDepth 100000 in
set_option maxHeartbeats 16000000 in
theorem True_core (full read slip skew circ glo ghi wrn : Int) (ws : List Wh.Wk) (A : Option Addr) (c : Nat) (t1 t2 : Int) (w : World) (LA : List Int) (nV : Int) (HG : Hid (Wks w w.heap.size A ws)) (hl8 : ws.length ≤ 8) (n0 : decide (nV < 0) = false) (n1 : decide ((ws.length : Int) < nV) = false) (n2 : decide (nV ≤ wrn) = true) (q1 : decide ((100 : Int) < (LA.length : Int)) = false)
    (HWK : Hid (∀ W, Calls Try.prog 13 #[] W (BoolPost true W))) (HRD : Hid (∀ W, Below w.heap.size w W → Calls Try.prog 34 #[.agg #[.int .i64 full, .int .i64 read, .int .i64 slip, .int .i64 skew, .int .i64 circ, .int .i64 glo, .int .i64 ghi, .int .i64 wrn], .slice A ws.length c] W (BoolPost true W)))
    (HFW : Hid (∀ W, Below w.heap.size w W → Calls Try.prog 16 #[.agg #[.int .i64 full, .int .i64 read, .int .i64 slip, .int .i64 skew, .int .i64 circ, .int .i64 glo, .int .i64 ghi, .int .i64 wrn], .slice A ws.length c] W (TwoPost nV 0 W)))
    (HAR : Hid (∀ W, Below w.heap.size w W → Calls Try.prog 20 #[.agg #[.int .i64 full, .int .i64 read, .int .i64 slip, .int .i64 skew, .int .i64 circ, .int .i64 glo, .int .i64 ghi, .int .i64 wrn], .slice A ws.length c] W (IntsEPost LA 0 W)))
    (HKN : Hid (∀ W, Calls Try.prog 35 #[.int .i64 0] W fun e w' => e = .returned (.bool true) ∧ w' = W))
    (HIT : Hid (∀ W, Below w.heap.size w W → Calls Try.prog 36 #[.agg #[.int .i64 full, .int .i64 read, .int .i64 slip, .int .i64 skew, .int .i64 circ, .int .i64 glo, .int .i64 ghi, .int .i64 wrn], .slice A ws.length c, .agg #[.int .i64 t1, .int .i64 t2]] W (BoolPost true W)))
    (LK LS : List Int) (sb : Int × Int) (wV : Int) (q2 : decide ((100 : Int) < (LK.length : Int)) = false) (q3 : decide ((ws.length : Int) < (LS.length : Int)) = false) (hla : LA.length ≤ 100) (hlk : LK.length ≤ 100) (hls : LS.length ≤ 8)
    (hin1 : decide (t1 ∈ LA) = true) (hin2 : decide (t2 ∈ LK) = true) (b1 : decide (t1 < sb.1) = false) (b2 : decide (sb.2 < t1) = false) (b3 : decide (wV < nV) = false)
    (HBD : Hid (∀ W, Below w.heap.size w W → Calls Try.prog 23 #[.agg #[.int .i64 full, .int .i64 read, .int .i64 slip, .int .i64 skew, .int .i64 circ, .int .i64 glo, .int .i64 ghi, .int .i64 wrn], .slice A ws.length c] W (BoundPost sb 0 W))) (HSK : Hid (∀ W, Below w.heap.size w W → Calls Try.prog 25 #[.agg #[.int .i64 full, .int .i64 read, .int .i64 slip, .int .i64 skew, .int .i64 circ, .int .i64 glo, .int .i64 ghi, .int .i64 wrn], .slice A ws.length c] W (IntsEPost LK 0 W))) (HST : Hid (∀ W, Below w.heap.size w W → Calls Try.prog 27 #[.agg #[.int .i64 full, .int .i64 read, .int .i64 slip, .int .i64 skew, .int .i64 circ, .int .i64 glo, .int .i64 ghi, .int .i64 wrn], .slice A ws.length c] W (IntsEPost LS 0 W)))
    (HWR : Hid (∀ W, Below w.heap.size w W → Calls Try.prog 38 #[.agg #[.int .i64 full, .int .i64 read, .int .i64 slip, .int .i64 skew, .int .i64 circ, .int .i64 glo, .int .i64 ghi, .int .i64 wrn], .slice A ws.length c, .agg #[.int .i64 t1, .int .i64 t2]] W fun e w' => e = .returned (.int .i64 wV) ∧ Below W.heap.size W w'))
    (HSM : Hid (∀ x ∈ LS, ∃ j : Nat, j < ws.length ∧ x = (j : Int) ∧ ∀ W, Calls Try.prog 39 #[.agg #[.int .i64 full, .int .i64 read, .int .i64 slip, .int .i64 skew, .int .i64 circ, .int .i64 glo, .int .i64 ghi, .int .i64 wrn], .agg #[.int .i64 (Wh.wkAt ws j).1, .int .i64 (Wh.wkAt ws j).2.1, .int .i64 (Wh.wkAt ws j).2.2.1, .int .i64 (Wh.wkAt ws j).2.2.2.1, .int .i64 (Wh.wkAt ws j).2.2.2.2], .agg #[.int .i64 t1, .int .i64 t2]] W fun e w' => e = .returned (.bool false) ∧ Below W.heap.size W w')) : Calls Try.prog 5 #[.agg #[.int .i64 full, .int .i64 read, .int .i64 slip, .int .i64 skew, .int .i64 circ, .int .i64 glo, .int .i64 ghi, .int .i64 wrn], .slice A ws.length c, .agg #[.int .i64 t1, .int .i64 t2]] w (BoolPost true w) := by
  have q3c : decide (ws.length < LS.length) = false := decide_eq_false (by have := of_decide_eq_false q3; omega)
  have q2c : decide (100 < LK.length) = false := decide_eq_false (by omega)
  go_enter Try.func5, Try.ntmps5
  go_wp2_with fail
  have bS1 := (BoxS.new w 25 #[.int .i64 full, .int .i64 read, .int .i64 slip, .int .i64 skew, .int .i64 circ, .int .i64 glo, .int .i64 ghi, .int .i64 wrn]).alloc (.cells #[.int .i64 t1, .int .i64 t2] 47)
  have bX1 := BoxS.new (w.alloc (.cells #[.int .i64 full, .int .i64 read, .int .i64 slip, .int .i64 skew, .int .i64 circ, .int .i64 glo, .int .i64 ghi, .int .i64 wrn] 25)) 47 #[.int .i64 t1, .int .i64 t2]
  rw [World.size_alloc] at bX1
  have hB1 : Below w.heap.size w ((w.alloc (.cells #[.int .i64 full, .int .i64 read, .int .i64 slip, .int .i64 skew, .int .i64 circ, .int .i64 glo, .int .i64 ghi, .int .i64 wrn] 25)).alloc (.cells #[.int .i64 t1, .int .i64 t2] 47)) := by (repeat' (first | (with_reducible exact Below.refl _ _) | (with_reducible assumption) | (with_reducible refine Below.alloc ?_ ?_ _) | (with_reducible refine Below.drew ?_) | (with_reducible refine Below.setCell ?_ ?_ _) | go_size | (exact (by simp)) | omega))
  generalize World.alloc (World.alloc w _) _ = w1 at *
  have cs0 : w1.cell? ⟨w.heap.size, 0, none⟩ = some (.int .i64 full) := bS1.cell 0 rfl
  have cs1 : w1.cell? ⟨w.heap.size, 1, none⟩ = some (.int .i64 read) := bS1.cell 1 rfl
  have cs2 : w1.cell? ⟨w.heap.size, 2, none⟩ = some (.int .i64 slip) := bS1.cell 2 rfl
  have cs3 : w1.cell? ⟨w.heap.size, 3, none⟩ = some (.int .i64 skew) := bS1.cell 3 rfl
  have cs4 : w1.cell? ⟨w.heap.size, 4, none⟩ = some (.int .i64 circ) := bS1.cell 4 rfl
  have cs5 : w1.cell? ⟨w.heap.size, 5, none⟩ = some (.int .i64 glo) := bS1.cell 5 rfl
  have cs6 : w1.cell? ⟨w.heap.size, 6, none⟩ = some (.int .i64 ghi) := bS1.cell 6 rfl
  have cs7 : w1.cell? ⟨w.heap.size, 7, none⟩ = some (.int .i64 wrn) := bS1.cell 7 rfl
  have lS1 := bS1.lt
  have cx0 : w1.cell? ⟨w.heap.size + 1, 0, none⟩ = some (.int .i64 t1) := bX1.cell 0 rfl
  have cx1 : w1.cell? ⟨w.heap.size + 1, 1, none⟩ = some (.int .i64 t2) := bX1.cell 1 rfl
  have lX1 := bX1.lt
  go_wp2_with fail
  refine (HRD.out _ hB1).mono ?_
  rintro e w2 ⟨rfl, hb2⟩
  have bS2 := bS1.below hb2
  have bX2 := bX1.below hb2
  have hB2 := hB1.trans (hb2.mono hB1.size)
  clear cs0 cs1 cs2 cs3 cs4 cs5 cs6 cs7 lS1 cx0 cx1 lX1 bS1 bX1 hB1 hb2
  have cs0 : w2.cell? ⟨w.heap.size, 0, none⟩ = some (.int .i64 full) := bS2.cell 0 rfl
  have cs1 : w2.cell? ⟨w.heap.size, 1, none⟩ = some (.int .i64 read) := bS2.cell 1 rfl
  have cs2 : w2.cell? ⟨w.heap.size, 2, none⟩ = some (.int .i64 slip) := bS2.cell 2 rfl
  have cs3 : w2.cell? ⟨w.heap.size, 3, none⟩ = some (.int .i64 skew) := bS2.cell 3 rfl
  have cs4 : w2.cell? ⟨w.heap.size, 4, none⟩ = some (.int .i64 circ) := bS2.cell 4 rfl
  have cs5 : w2.cell? ⟨w.heap.size, 5, none⟩ = some (.int .i64 glo) := bS2.cell 5 rfl
  have cs6 : w2.cell? ⟨w.heap.size, 6, none⟩ = some (.int .i64 ghi) := bS2.cell 6 rfl
  have cs7 : w2.cell? ⟨w.heap.size, 7, none⟩ = some (.int .i64 wrn) := bS2.cell 7 rfl
  have lS2 := bS2.lt
  have cx0 : w2.cell? ⟨w.heap.size + 1, 0, none⟩ = some (.int .i64 t1) := bX2.cell 0 rfl
  have cx1 : w2.cell? ⟨w.heap.size + 1, 1, none⟩ = some (.int .i64 t2) := bX2.cell 1 rfl
  have lX2 := bX2.lt
  go_wp2_with fail
  refine (HFW.out _ hB2).mono ?_
  rintro e w3 ⟨rfl, hb3⟩
  have bS3 := bS2.below hb3
  have bX3 := bX2.below hb3
  have hB3 := hB2.trans (hb3.mono hB2.size)
  clear cs0 cs1 cs2 cs3 cs4 cs5 cs6 cs7 lS2 cx0 cx1 lX2 bS2 bX2 hB2 hb3
  have cs0 : w3.cell? ⟨w.heap.size, 0, none⟩ = some (.int .i64 full) := bS3.cell 0 rfl
  have cs1 : w3.cell? ⟨w.heap.size, 1, none⟩ = some (.int .i64 read) := bS3.cell 1 rfl
  have cs2 : w3.cell? ⟨w.heap.size, 2, none⟩ = some (.int .i64 slip) := bS3.cell 2 rfl
  have cs3 : w3.cell? ⟨w.heap.size, 3, none⟩ = some (.int .i64 skew) := bS3.cell 3 rfl
  have cs4 : w3.cell? ⟨w.heap.size, 4, none⟩ = some (.int .i64 circ) := bS3.cell 4 rfl
  have cs5 : w3.cell? ⟨w.heap.size, 5, none⟩ = some (.int .i64 glo) := bS3.cell 5 rfl
  have cs6 : w3.cell? ⟨w.heap.size, 6, none⟩ = some (.int .i64 ghi) := bS3.cell 6 rfl
  have cs7 : w3.cell? ⟨w.heap.size, 7, none⟩ = some (.int .i64 wrn) := bS3.cell 7 rfl
  have lS3 := bS3.lt
  have cx0 : w3.cell? ⟨w.heap.size + 1, 0, none⟩ = some (.int .i64 t1) := bX3.cell 0 rfl
  have cx1 : w3.cell? ⟨w.heap.size + 1, 1, none⟩ = some (.int .i64 t2) := bX3.cell 1 rfl
  have lX3 := bX3.lt
  go_wp2_with fail
  refine (HAR.out _ hB3).mono ?_
  rintro e w4 ⟨v4, rfl, hv4, hb4⟩
  obtain ⟨ALAh, cLAh, rfl⟩ := ints_form hv4.out
  have bS4 := bS3.below hb4
  have bX4 := bX3.below hb4
  have hB4 := hB3.trans (hb4.mono hB3.size)
  clear cs0 cs1 cs2 cs3 cs4 cs5 cs6 cs7 lS3 cx0 cx1 lX3 bS3 bX3 hB3 hb4
  have LAh4 : Hid (Ints w4 w4.heap.size (.slice ALAh LA.length cLAh) LA) := hv4
  clear hv4
  have cs0 : w4.cell? ⟨w.heap.size, 0, none⟩ = some (.int .i64 full) := bS4.cell 0 rfl
  have cs1 : w4.cell? ⟨w.heap.size, 1, none⟩ = some (.int .i64 read) := bS4.cell 1 rfl
  have cs2 : w4.cell? ⟨w.heap.size, 2, none⟩ = some (.int .i64 slip) := bS4.cell 2 rfl
  have cs3 : w4.cell? ⟨w.heap.size, 3, none⟩ = some (.int .i64 skew) := bS4.cell 3 rfl
  have cs4 : w4.cell? ⟨w.heap.size, 4, none⟩ = some (.int .i64 circ) := bS4.cell 4 rfl
  have cs5 : w4.cell? ⟨w.heap.size, 5, none⟩ = some (.int .i64 glo) := bS4.cell 5 rfl
  have cs6 : w4.cell? ⟨w.heap.size, 6, none⟩ = some (.int .i64 ghi) := bS4.cell 6 rfl
  have cs7 : w4.cell? ⟨w.heap.size, 7, none⟩ = some (.int .i64 wrn) := bS4.cell 7 rfl
  have lS4 := bS4.lt
  have cx0 : w4.cell? ⟨w.heap.size + 1, 0, none⟩ = some (.int .i64 t1) := bX4.cell 0 rfl
  have cx1 : w4.cell? ⟨w.heap.size + 1, 1, none⟩ = some (.int .i64 t2) := bX4.cell 1 rfl
  have lX4 := bX4.lt
  go_wp2_with fail
  refine (HKN.out _).mono ?_
  rintro e wq ⟨rfl, hq⟩
  have hq := hq.symm
  subst hq
  go_wp2_with fail
  refine (HIT.out _ hB4).mono ?_
  rintro e w5 ⟨rfl, hb5⟩
  have bS5 := bS4.below hb5
  have bX5 := bX4.below hb5
  have hB5 := hB4.trans (hb5.mono hB4.size)
  have LAh5 : Hid (Ints w5 w5.heap.size (.slice ALAh LA.length cLAh) LA) := (LAh4.out.keep hb5).more hb5.size
  clear cs0 cs1 cs2 cs3 cs4 cs5 cs6 cs7 lS4 cx0 cx1 lX4 bS4 bX4 LAh4 hB4 hb5
  have cs0 : w5.cell? ⟨w.heap.size, 0, none⟩ = some (.int .i64 full) := bS5.cell 0 rfl
  have cs1 : w5.cell? ⟨w.heap.size, 1, none⟩ = some (.int .i64 read) := bS5.cell 1 rfl
  have cs2 : w5.cell? ⟨w.heap.size, 2, none⟩ = some (.int .i64 slip) := bS5.cell 2 rfl
  have cs3 : w5.cell? ⟨w.heap.size, 3, none⟩ = some (.int .i64 skew) := bS5.cell 3 rfl
  have cs4 : w5.cell? ⟨w.heap.size, 4, none⟩ = some (.int .i64 circ) := bS5.cell 4 rfl
  have cs5 : w5.cell? ⟨w.heap.size, 5, none⟩ = some (.int .i64 glo) := bS5.cell 5 rfl
  have cs6 : w5.cell? ⟨w.heap.size, 6, none⟩ = some (.int .i64 ghi) := bS5.cell 6 rfl
  have cs7 : w5.cell? ⟨w.heap.size, 7, none⟩ = some (.int .i64 wrn) := bS5.cell 7 rfl
  have lS5 := bS5.lt
  have cx0 : w5.cell? ⟨w.heap.size + 1, 0, none⟩ = some (.int .i64 t1) := bX5.cell 0 rfl
  have cx1 : w5.cell? ⟨w.heap.size + 1, 1, none⟩ = some (.int .i64 t2) := bX5.cell 1 rfl
  have lX5 := bX5.lt
  go_wp2_with fail
  refine (HBD.out _ hB5).mono ?_
  rintro e w6 ⟨rfl, hb6⟩
  have bS6 := bS5.below hb6
  have bX6 := bX5.below hb6
  have hB6 := hB5.trans (hb6.mono hB5.size)
  have LAh6 : Hid (Ints w6 w6.heap.size (.slice ALAh LA.length cLAh) LA) := (LAh5.out.keep hb6).more hb6.size
  clear cs0 cs1 cs2 cs3 cs4 cs5 cs6 cs7 lS5 cx0 cx1 lX5 bS5 bX5 LAh5 hB5 hb6
  have cs0 : w6.cell? ⟨w.heap.size, 0, none⟩ = some (.int .i64 full) := bS6.cell 0 rfl
  have cs1 : w6.cell? ⟨w.heap.size, 1, none⟩ = some (.int .i64 read) := bS6.cell 1 rfl
  have cs2 : w6.cell? ⟨w.heap.size, 2, none⟩ = some (.int .i64 slip) := bS6.cell 2 rfl
  have cs3 : w6.cell? ⟨w.heap.size, 3, none⟩ = some (.int .i64 skew) := bS6.cell 3 rfl
  have cs4 : w6.cell? ⟨w.heap.size, 4, none⟩ = some (.int .i64 circ) := bS6.cell 4 rfl
  have cs5 : w6.cell? ⟨w.heap.size, 5, none⟩ = some (.int .i64 glo) := bS6.cell 5 rfl
  have cs6 : w6.cell? ⟨w.heap.size, 6, none⟩ = some (.int .i64 ghi) := bS6.cell 6 rfl
  have cs7 : w6.cell? ⟨w.heap.size, 7, none⟩ = some (.int .i64 wrn) := bS6.cell 7 rfl
  have lS6 := bS6.lt
  have cx0 : w6.cell? ⟨w.heap.size + 1, 0, none⟩ = some (.int .i64 t1) := bX6.cell 0 rfl
  have cx1 : w6.cell? ⟨w.heap.size + 1, 1, none⟩ = some (.int .i64 t2) := bX6.cell 1 rfl
  have lX6 := bX6.lt
  go_upto_region 10 with fail
  have bV7n := BoxS.new w6 23 #[.int .i64 sb.1, .int .i64 sb.2]
  have hbx : Below w6.heap.size w6 (w6.alloc (.cells #[.int .i64 sb.1, .int .i64 sb.2] 23)) := (Below.refl _ _).alloc (Nat.le_refl _) _
  have bS7 := bS6.below hbx
  have bX7 := bX6.below hbx
  have hB7 := hB6.trans (hbx.mono hB6.size)
  have LAh7 : Hid (Ints (w6.alloc (.cells #[.int .i64 sb.1, .int .i64 sb.2] 23)) (w6.alloc (.cells #[.int .i64 sb.1, .int .i64 sb.2] 23)).heap.size (.slice ALAh LA.length cLAh) LA) := (LAh6.out.keep hbx).more hbx.size
  obtain ⟨BV, hBe⟩ : ∃ B, B = w6.heap.size := ⟨_, rfl⟩
  have kV : w.heap.size + 1 < BV := by have := bX6.lt; omega
  rw [← hBe] at bV7n ⊢
  have bV7 := bV7n
  clear cs0 cs1 cs2 cs3 cs4 cs5 cs6 cs7 lS6 cx0 cx1 lX6 bS6 bX6 LAh6 hB6 hbx hBe bV7n
  generalize World.alloc w6 _ = w7 at *
  have kV2 : w.heap.size < BV := by omega
  have cs0 : w7.cell? ⟨w.heap.size, 0, none⟩ = some (.int .i64 full) := bS7.cell 0 rfl
  have cs1 : w7.cell? ⟨w.heap.size, 1, none⟩ = some (.int .i64 read) := bS7.cell 1 rfl
  have cs2 : w7.cell? ⟨w.heap.size, 2, none⟩ = some (.int .i64 slip) := bS7.cell 2 rfl
  have cs3 : w7.cell? ⟨w.heap.size, 3, none⟩ = some (.int .i64 skew) := bS7.cell 3 rfl
  have cs4 : w7.cell? ⟨w.heap.size, 4, none⟩ = some (.int .i64 circ) := bS7.cell 4 rfl
  have cs5 : w7.cell? ⟨w.heap.size, 5, none⟩ = some (.int .i64 glo) := bS7.cell 5 rfl
  have cs6 : w7.cell? ⟨w.heap.size, 6, none⟩ = some (.int .i64 ghi) := bS7.cell 6 rfl
  have cs7 : w7.cell? ⟨w.heap.size, 7, none⟩ = some (.int .i64 wrn) := bS7.cell 7 rfl
  have lS7 := bS7.lt
  have cx0 : w7.cell? ⟨w.heap.size + 1, 0, none⟩ = some (.int .i64 t1) := bX7.cell 0 rfl
  have cx1 : w7.cell? ⟨w.heap.size + 1, 1, none⟩ = some (.int .i64 t2) := bX7.cell 1 rfl
  have lX7 := bX7.lt
  have cv0 : w7.cell? ⟨BV, 0, none⟩ = some (.int .i64 sb.1) := bV7.cell 0 rfl
  have cv1 : w7.cell? ⟨BV, 1, none⟩ = some (.int .i64 sb.2) := bV7.cell 1 rfl
  have lV7 := bV7.lt
  go_wp2_with fail
  refine (HSK.out _ hB7).mono ?_
  rintro e w8 ⟨v8, rfl, hv8, hb8⟩
  obtain ⟨ALKh, cLKh, rfl⟩ := ints_form hv8.out
  have bS8 := bS7.below hb8
  have bX8 := bX7.below hb8
  have bV8 := bV7.below hb8
  have hB8 := hB7.trans (hb8.mono hB7.size)
  have LAh8 : Hid (Ints w8 w8.heap.size (.slice ALAh LA.length cLAh) LA) := (LAh7.out.keep hb8).more hb8.size
  clear cs0 cs1 cs2 cs3 cs4 cs5 cs6 cs7 lS7 cx0 cx1 lX7 cv0 cv1 lV7 bS7 bX7 bV7 LAh7 hB7 hb8
  have LKh8 : Hid (Ints w8 w8.heap.size (.slice ALKh LK.length cLKh) LK) := hv8
  clear hv8
  have cs0 : w8.cell? ⟨w.heap.size, 0, none⟩ = some (.int .i64 full) := bS8.cell 0 rfl
  have cs1 : w8.cell? ⟨w.heap.size, 1, none⟩ = some (.int .i64 read) := bS8.cell 1 rfl
  have cs2 : w8.cell? ⟨w.heap.size, 2, none⟩ = some (.int .i64 slip) := bS8.cell 2 rfl
  have cs3 : w8.cell? ⟨w.heap.size, 3, none⟩ = some (.int .i64 skew) := bS8.cell 3 rfl
  have cs4 : w8.cell? ⟨w.heap.size, 4, none⟩ = some (.int .i64 circ) := bS8.cell 4 rfl
  have cs5 : w8.cell? ⟨w.heap.size, 5, none⟩ = some (.int .i64 glo) := bS8.cell 5 rfl
  have cs6 : w8.cell? ⟨w.heap.size, 6, none⟩ = some (.int .i64 ghi) := bS8.cell 6 rfl
  have cs7 : w8.cell? ⟨w.heap.size, 7, none⟩ = some (.int .i64 wrn) := bS8.cell 7 rfl
  have lS8 := bS8.lt
  have cx0 : w8.cell? ⟨w.heap.size + 1, 0, none⟩ = some (.int .i64 t1) := bX8.cell 0 rfl
  have cx1 : w8.cell? ⟨w.heap.size + 1, 1, none⟩ = some (.int .i64 t2) := bX8.cell 1 rfl
  have lX8 := bX8.lt
  have cv0 : w8.cell? ⟨BV, 0, none⟩ = some (.int .i64 sb.1) := bV8.cell 0 rfl
  have cv1 : w8.cell? ⟨BV, 1, none⟩ = some (.int .i64 sb.2) := bV8.cell 1 rfl
  have lV8 := bV8.lt
  go_wp2_with fail
  refine (HST.out _ hB8).mono ?_
  rintro e w9 ⟨v9, rfl, hv9, hb9⟩
  obtain ⟨ALSh, cLSh, rfl⟩ := ints_form hv9.out
  have bS9 := bS8.below hb9
  have bX9 := bX8.below hb9
  have bV9 := bV8.below hb9
  have hB9 := hB8.trans (hb9.mono hB8.size)
  have LAh9 : Hid (Ints w9 w9.heap.size (.slice ALAh LA.length cLAh) LA) := (LAh8.out.keep hb9).more hb9.size
  have LKh9 : Hid (Ints w9 w9.heap.size (.slice ALKh LK.length cLKh) LK) := (LKh8.out.keep hb9).more hb9.size
  clear cs0 cs1 cs2 cs3 cs4 cs5 cs6 cs7 lS8 cx0 cx1 lX8 cv0 cv1 lV8 bS8 bX8 bV8 LAh8 LKh8 hB8 hb9
  have LSh9 : Hid (Ints w9 w9.heap.size (.slice ALSh LS.length cLSh) LS) := hv9
  clear hv9
  have cs0 : w9.cell? ⟨w.heap.size, 0, none⟩ = some (.int .i64 full) := bS9.cell 0 rfl
  have cs1 : w9.cell? ⟨w.heap.size, 1, none⟩ = some (.int .i64 read) := bS9.cell 1 rfl
  have cs2 : w9.cell? ⟨w.heap.size, 2, none⟩ = some (.int .i64 slip) := bS9.cell 2 rfl
  have cs3 : w9.cell? ⟨w.heap.size, 3, none⟩ = some (.int .i64 skew) := bS9.cell 3 rfl
  have cs4 : w9.cell? ⟨w.heap.size, 4, none⟩ = some (.int .i64 circ) := bS9.cell 4 rfl
  have cs5 : w9.cell? ⟨w.heap.size, 5, none⟩ = some (.int .i64 glo) := bS9.cell 5 rfl
  have cs6 : w9.cell? ⟨w.heap.size, 6, none⟩ = some (.int .i64 ghi) := bS9.cell 6 rfl
  have cs7 : w9.cell? ⟨w.heap.size, 7, none⟩ = some (.int .i64 wrn) := bS9.cell 7 rfl
  have lS9 := bS9.lt
  have cx0 : w9.cell? ⟨w.heap.size + 1, 0, none⟩ = some (.int .i64 t1) := bX9.cell 0 rfl
  have cx1 : w9.cell? ⟨w.heap.size + 1, 1, none⟩ = some (.int .i64 t2) := bX9.cell 1 rfl
  have lX9 := bX9.lt
  have cv0 : w9.cell? ⟨BV, 0, none⟩ = some (.int .i64 sb.1) := bV9.cell 0 rfl
  have cv1 : w9.cell? ⟨BV, 1, none⟩ = some (.int .i64 sb.2) := bV9.cell 1 rfl
  have lV9 := bV9.lt
  go_wp2_with fail
  all_goals (try (exact absurd (by have := of_decide_eq_false q3; omega : LS.length ≤ ws.length) ‹¬LS.length ≤ ws.length›))
  have HI1 : Hid (Calls Try.prog 37 #[.slice ALAh LA.length cLAh, .int .i64 t1] w9 fun e w' => e = .returned (.bool true) ∧ w' = w9) := by
    have := In_any _ LA t1 w9 LAh9.out (by omega)
    rw [hin1] at this
    exact this
  have HI2 : Hid (Calls Try.prog 37 #[.slice ALKh LK.length cLKh, .int .i64 t2] w9 fun e w' => e = .returned (.bool true) ∧ w' = w9) := by
    have := In_any _ LK t2 w9 LKh9.out (by omega)
    rw [hin2] at this
    exact this
  refine (HI1.out).mono ?_
  rintro e wq ⟨rfl, hq⟩
  have hq := hq.symm
  subst hq
  go_wp2_with fail
  refine (HI2.out).mono ?_
  rintro e wq ⟨rfl, hq⟩
  have hq := hq.symm
  subst hq
  go_wp2_with fail
  refine (HWR.out _ hB9).mono ?_
  rintro e w10 ⟨rfl, hb10⟩
  have bS10 := bS9.below hb10
  have bX10 := bX9.below hb10
  have bV10 := bV9.below hb10
  have hB10 := hB9.trans (hb10.mono hB9.size)
  have LAh10 : Hid (Ints w10 w10.heap.size (.slice ALAh LA.length cLAh) LA) := (LAh9.out.keep hb10).more hb10.size
  have LKh10 : Hid (Ints w10 w10.heap.size (.slice ALKh LK.length cLKh) LK) := (LKh9.out.keep hb10).more hb10.size
  have LSh10 : Hid (Ints w10 w10.heap.size (.slice ALSh LS.length cLSh) LS) := (LSh9.out.keep hb10).more hb10.size
  clear cs0 cs1 cs2 cs3 cs4 cs5 cs6 cs7 lS9 cx0 cx1 lX9 cv0 cv1 lV9 bS9 bX9 bV9 LAh9 LKh9 LSh9 hB9 hb10 HI1 HI2
  have cs0 : w10.cell? ⟨w.heap.size, 0, none⟩ = some (.int .i64 full) := bS10.cell 0 rfl
  have cs1 : w10.cell? ⟨w.heap.size, 1, none⟩ = some (.int .i64 read) := bS10.cell 1 rfl
  have cs2 : w10.cell? ⟨w.heap.size, 2, none⟩ = some (.int .i64 slip) := bS10.cell 2 rfl
  have cs3 : w10.cell? ⟨w.heap.size, 3, none⟩ = some (.int .i64 skew) := bS10.cell 3 rfl
  have cs4 : w10.cell? ⟨w.heap.size, 4, none⟩ = some (.int .i64 circ) := bS10.cell 4 rfl
  have cs5 : w10.cell? ⟨w.heap.size, 5, none⟩ = some (.int .i64 glo) := bS10.cell 5 rfl
  have cs6 : w10.cell? ⟨w.heap.size, 6, none⟩ = some (.int .i64 ghi) := bS10.cell 6 rfl
  have cs7 : w10.cell? ⟨w.heap.size, 7, none⟩ = some (.int .i64 wrn) := bS10.cell 7 rfl
  have lS10 := bS10.lt
  have cx0 : w10.cell? ⟨w.heap.size + 1, 0, none⟩ = some (.int .i64 t1) := bX10.cell 0 rfl
  have cx1 : w10.cell? ⟨w.heap.size + 1, 1, none⟩ = some (.int .i64 t2) := bX10.cell 1 rfl
  have lX10 := bX10.lt
  have cv0 : w10.cell? ⟨BV, 0, none⟩ = some (.int .i64 sb.1) := bV10.cell 0 rfl
  have cv1 : w10.cell? ⟨BV, 1, none⟩ = some (.int .i64 sb.2) := bV10.cell 1 rfl
  have lV10 := bV10.lt
  go_wp2_with fail
  clear cs0 cs1 cs2 cs3 cs4 cs5 cs6 cs7 lS10 cx0 cx1 lX10 cv0 cv1 lV10
  have hbase : Below w10.heap.size w10 w10 := Below.refl _ _
  have KB : Hid (∀ W', Below w10.heap.size w10 W' → (W'.cell? ⟨w.heap.size, 0, none⟩ = some (.int .i64 full) ∧ W'.cell? ⟨w.heap.size, 1, none⟩ = some (.int .i64 read) ∧ W'.cell? ⟨w.heap.size, 2, none⟩ = some (.int .i64 slip) ∧ W'.cell? ⟨w.heap.size, 3, none⟩ = some (.int .i64 skew) ∧ W'.cell? ⟨w.heap.size, 4, none⟩ = some (.int .i64 circ) ∧ W'.cell? ⟨w.heap.size, 5, none⟩ = some (.int .i64 glo) ∧ W'.cell? ⟨w.heap.size, 6, none⟩ = some (.int .i64 ghi) ∧ W'.cell? ⟨w.heap.size, 7, none⟩ = some (.int .i64 wrn)) ∧ (W'.cell? ⟨w.heap.size + 1, 0, none⟩ = some (.int .i64 t1) ∧ W'.cell? ⟨w.heap.size + 1, 1, none⟩ = some (.int .i64 t2))) := fun W' h => ⟨⟨(bS10.below h).cell 0 rfl, (bS10.below h).cell 1 rfl, (bS10.below h).cell 2 rfl, (bS10.below h).cell 3 rfl, (bS10.below h).cell 4 rfl, (bS10.below h).cell 5 rfl, (bS10.below h).cell 6 rfl, (bS10.below h).cell 7 rfl⟩, ⟨(bX10.below h).cell 0 rfl, (bX10.below h).cell 1 rfl⟩⟩
  have HLS := LSh10
  have HBW : Hid (∀ W', Below w10.heap.size w10 W' → Below w.heap.size w W') := fun W' h => hB10.trans (h.mono hB10.size)
  clear bS10 bX10 bV10 hB10 LAh10 LKh10 LSh10
  go_loopg [17] LS.length (fun g x17 wx => ∃ k : Nat, Hid (k + g = LS.length) ∧ (k : Int) ≤ LS.length ∧ x17 = .int .i64 (k : Int) ∧ Below w10.heap.size w10 wx)
  case atStart => exact ⟨0, by simp [Hid], by omega, rfl, hbase⟩
  case round =>
    clear hbase
    obtain ⟨k, hk, hk1, rfl, hb⟩ := hrel
    have hk0 := Int.natCast_nonneg k
    have hBr := HBW.out _ hb
    by_cases hlt : (k : Int) < LS.length
    · have hkn : k < LS.length := by omega
      obtain ⟨j, hj, hje, hjr⟩ := HSM.out _ (List.getElem_mem hkn)
      have hgk : LS[k]? = some LS[k] := List.getElem?_eq_getElem hkn
      rcases HLS.out with ⟨_, e⟩ | ⟨bq, oq, capq, e, hbq, hcq⟩
      · subst e; simp at hkn
      · injection e with eA _ ec
        subst eA ec
        have hq := hcq k _ hgk
        rw [hje] at hq
        obtain ⟨bb, off, hA, hbb, hcc⟩ := HG.out (by omega)
        subst hA
        obtain ⟨a0, a1, a2, a3, a4⟩ := hcc j hj
        have KC : Hid (∀ W', Below wr.heap.size wr W' → ((W'.cell? ⟨w.heap.size, 0, none⟩ = some (.int .i64 full) ∧ W'.cell? ⟨w.heap.size, 1, none⟩ = some (.int .i64 read) ∧ W'.cell? ⟨w.heap.size, 2, none⟩ = some (.int .i64 slip) ∧ W'.cell? ⟨w.heap.size, 3, none⟩ = some (.int .i64 skew) ∧ W'.cell? ⟨w.heap.size, 4, none⟩ = some (.int .i64 circ) ∧ W'.cell? ⟨w.heap.size, 5, none⟩ = some (.int .i64 glo) ∧ W'.cell? ⟨w.heap.size, 6, none⟩ = some (.int .i64 ghi) ∧ W'.cell? ⟨w.heap.size, 7, none⟩ = some (.int .i64 wrn)) ∧ (W'.cell? ⟨w.heap.size + 1, 0, none⟩ = some (.int .i64 t1) ∧ W'.cell? ⟨w.heap.size + 1, 1, none⟩ = some (.int .i64 t2))) ∧ W'.cell? ⟨bq, oq + k, none⟩ = some (.int .i64 (j : Int)) ∧ (W'.cell? ⟨bb, off + j * 5, none⟩ = some (.int .i64 (Wh.wkAt ws j).1) ∧ W'.cell? ⟨bb, off + j * 5 + 1, none⟩ = some (.int .i64 (Wh.wkAt ws j).2.1) ∧ W'.cell? ⟨bb, off + j * 5 + 2, none⟩ = some (.int .i64 (Wh.wkAt ws j).2.2.1) ∧ W'.cell? ⟨bb, off + j * 5 + 3, none⟩ = some (.int .i64 (Wh.wkAt ws j).2.2.2.1) ∧ W'.cell? ⟨bb, off + j * 5 + 4, none⟩ = some (.int .i64 (Wh.wkAt ws j).2.2.2.2))) := fun W' h => by
          have h1 := hb.trans (h.mono hb.size)
          have h2 := HBW.out _ h1
          exact ⟨KB.out _ h1, (h1.cell (p := ⟨bq, _, none⟩) hbq).trans hq, (h2.cell (p := ⟨bb, _, none⟩) hbb).trans a0, (h2.cell (p := ⟨bb, _, none⟩) hbb).trans a1, (h2.cell (p := ⟨bb, _, none⟩) hbb).trans a2, (h2.cell (p := ⟨bb, _, none⟩) hbb).trans a3, (h2.cell (p := ⟨bb, _, none⟩) hbb).trans a4⟩
        have HIR := Lib.hid hjr
        have hw1 : IntKind.i64.wrap ((k : Int) + 1) = (k : Int) + 1 := IntWalk.i64_in _ (by omega)
        have hj0 := Int.natCast_nonneg j
        have d1 : decide ((j : Int) < 0) = false := decide_eq_false (by omega)
        have d2 : decide ((ws.length : Int) ≤ (j : Int)) = false := decide_eq_false (by omega)
        have d3 : (j : Int) < ws.length := by omega
        have d4 : decide (ws.length ≤ j) = false := decide_eq_false (by omega)
        have d5 : decide ((k : Int) < 0) = false := decide_eq_false (by omega)
        have d6 : decide ((LS.length : Int) ≤ (k : Int)) = false := decide_eq_false (by omega)
        have d7 : decide (LS.length ≤ k) = false := decide_eq_false (by omega)
        have q0 : Below wr.heap.size wr wr.drew := (Below.refl _ _).drew
        have hmo : Try.prog.follows .mixedOrders = true := by kernel_rfl
        clear hcq hq hcc a0 a1 a2 a3 a4 hgk hje hjr
        generalize Wh.wkAt ws j = wj at *
        obtain ⟨x1, x2, x3, x4, x5⟩ := wj
        dsimp only at KC HIR
        go_upto_region 17 with fail
        refine (wpIn_wide (n := 4)).1 ?_
        refine wpIn_region_held (fun W' => Below wr.heap.size wr W') 60 hmo ?_
        refine wpHeldIn_take (i := 0) (v := ?_) (plain_of (by kernel_rfl)) rfl (by kernel_rfl) (fun _ _ _ h => h) (yieldsSoIn_of (by kernel_rfl) ?_ (fun _ => rfl)) q0 ?_; rotate_left; focus (intro wq hw; clear hw; go_simp; try (with_reducible rfl))
        refine wpHeldIn_take (i := 1) (v := ?_) (plain_of (by kernel_rfl)) rfl (by kernel_rfl) (fun _ _ _ h => h) (yieldsSoIn_of (by kernel_rfl) ?_ (fun _ => rfl)) q0 ?_; rotate_left; focus (intro wq hw; clear hw; go_simp; try (with_reducible rfl))
        refine wpHeldIn_take (i := 2) (v := ?_) (plain_of (by kernel_rfl)) rfl (by kernel_rfl) (fun _ _ _ h => h) (yieldsSoIn_of (by kernel_rfl) ?_ (fun _ => rfl)) q0 ?_; rotate_left; focus (intro wq hw; clear hw; go_simp; try (with_reducible rfl))
        refine wpHeldIn_take (i := 3) (v := ?_) (plain_of (by kernel_rfl)) rfl (by kernel_rfl) (fun _ _ _ h => h) (yieldsSoIn_of (by kernel_rfl) ?_ (fun _ => rfl)) q0 ?_; rotate_left; focus (intro wq hw; have kq := KC.out wq hw; clear hw; go_simp; try (with_reducible rfl))
        refine wpHeldIn_take (i := 4) (v := ?_) (plain_of (by kernel_rfl)) rfl (by kernel_rfl) (fun _ _ _ h => h) (yieldsSoIn_of (by kernel_rfl) ?_ (fun _ => rfl)) q0 ?_; rotate_left; focus (intro wq hw; clear hw; go_simp; try (with_reducible rfl))
        refine wpHeldIn_take (i := 5) (v := ?_) (plain_of (by kernel_rfl)) rfl (by kernel_rfl) (fun _ _ _ h => h) (yieldsSoIn_of (by kernel_rfl) ?_ (fun _ => rfl)) q0 ?_; rotate_left; focus (intro wq hw; clear hw; go_simp; try (with_reducible rfl))
        refine wpHeldIn_take (i := 6) (v := ?_) (plain_of (by kernel_rfl)) rfl (by kernel_rfl) (fun _ _ _ h => h) (yieldsSoIn_of (by kernel_rfl) ?_ (fun _ => rfl)) q0 ?_; rotate_left; focus (intro wq hw; clear hw; go_simp; try (with_reducible rfl))
        refine wpHeldIn_take (i := 7) (v := ?_) (plain_of (by kernel_rfl)) rfl (by kernel_rfl) (fun _ _ _ h => h) (yieldsSoIn_of (by kernel_rfl) ?_ (fun _ => rfl)) q0 ?_; rotate_left; focus (intro wq hw; clear hw; go_simp; try (with_reducible rfl))
        refine wpHeldIn_take (i := 8) (v := ?_) (plain_of (by kernel_rfl)) rfl (by kernel_rfl) (fun _ _ _ h => h) (yieldsSoIn_of (by kernel_rfl) ?_ (fun _ => rfl)) q0 ?_; rotate_left; focus (intro wq hw; clear hw; go_simp; try (with_reducible rfl))
        refine wpHeldIn_take (i := 9) (v := ?_) (plain_of (by kernel_rfl)) rfl (by kernel_rfl) (fun _ _ _ h => h) (yieldsSoIn_of (by kernel_rfl) ?_ (fun _ => rfl)) q0 ?_; rotate_left; focus (intro wq hw; have kq := KC.out wq hw; clear hw; go_simp; try (with_reducible rfl))
        refine wpHeldIn_take (i := 10) (v := ?_) (plain_of (by kernel_rfl)) rfl (by kernel_rfl) (fun _ _ _ h => h) (yieldsSoIn_of (by kernel_rfl) ?_ (fun _ => rfl)) q0 ?_; rotate_left; focus (intro wq hw; clear hw; go_simp; try (with_reducible rfl))
        refine wpHeldIn_take (i := 11) (v := ?_) (plain_of (by kernel_rfl)) rfl (by kernel_rfl) (fun _ _ _ h => h) (yieldsSoIn_of (by kernel_rfl) ?_ (fun _ => rfl)) q0 ?_; rotate_left; focus (intro wq hw; clear hw; go_simp; try (with_reducible rfl))
        refine wpHeldIn_take (i := 12) (v := ?_) (plain_of (by kernel_rfl)) rfl (by kernel_rfl) (fun _ _ _ h => h) (yieldsSoIn_of (by kernel_rfl) ?_ (fun _ => rfl)) q0 ?_; rotate_left; focus (intro wq hw; clear hw; go_simp; try (with_reducible rfl))
        refine wpHeldIn_take (i := 13) (v := ?_) (plain_of (by kernel_rfl)) rfl (by kernel_rfl) (fun _ _ _ h => h) (yieldsSoIn_of (by kernel_rfl) ?_ (fun _ => rfl)) q0 ?_; rotate_left; focus (intro wq hw; clear hw; go_simp; try (with_reducible rfl))
        refine wpHeldIn_take (i := 14) (v := ?_) (plain_of (by kernel_rfl)) rfl (by kernel_rfl) (fun _ _ _ h => h) (yieldsSoIn_of (by kernel_rfl) ?_ (fun _ => rfl)) q0 ?_; rotate_left; focus (intro wq hw; clear hw; go_simp; try (with_reducible rfl))
        refine wpHeldIn_take (i := 15) (v := ?_) (plain_of (by kernel_rfl)) rfl (by kernel_rfl) (fun _ _ _ h => h) (yieldsSoIn_of (by kernel_rfl) ?_ (fun _ => rfl)) q0 ?_; rotate_left; focus (intro wq hw; have kq := KC.out wq hw; clear hw; go_simp; try (with_reducible rfl))
        refine wpHeldIn_take (i := 16) (v := ?_) (plain_of (by kernel_rfl)) rfl (by kernel_rfl) (fun _ _ _ h => h) (yieldsSoIn_of (by kernel_rfl) ?_ (fun _ => rfl)) q0 ?_; rotate_left; focus (intro wq hw; clear hw; go_simp; try (with_reducible rfl))
        refine wpHeldIn_take (i := 17) (v := ?_) (plain_of (by kernel_rfl)) rfl (by kernel_rfl) (fun _ _ _ h => h) (yieldsSoIn_of (by kernel_rfl) ?_ (fun _ => rfl)) q0 ?_; rotate_left; focus (intro wq hw; clear hw; go_simp; try (with_reducible rfl))
        refine wpHeldIn_take (i := 18) (v := ?_) (plain_of (by kernel_rfl)) rfl (by kernel_rfl) (fun _ _ _ h => h) (yieldsSoIn_of (by kernel_rfl) ?_ (fun _ => rfl)) q0 ?_; rotate_left; focus (intro wq hw; clear hw; go_simp; try (with_reducible rfl))
        refine wpHeldIn_take (i := 19) (v := ?_) (plain_of (by kernel_rfl)) rfl (by kernel_rfl) (fun _ _ _ h => h) (yieldsSoIn_of (by kernel_rfl) ?_ (fun _ => rfl)) q0 ?_; rotate_left; focus (intro wq hw; clear hw; go_simp; try (with_reducible rfl))
        refine wpHeldIn_take (i := 20) (v := ?_) (plain_of (by kernel_rfl)) rfl (by kernel_rfl) (fun _ _ _ h => h) (yieldsSoIn_of (by kernel_rfl) ?_ (fun _ => rfl)) q0 ?_; rotate_left; focus (intro wq hw; have kq := KC.out wq hw; clear hw; go_simp; try (with_reducible rfl))
        refine wpHeldIn_take (i := 21) (v := ?_) (plain_of (by kernel_rfl)) rfl (by kernel_rfl) (fun _ _ _ h => h) (yieldsSoIn_of (by kernel_rfl) ?_ (fun _ => rfl)) q0 ?_; rotate_left; focus (intro wq hw; clear hw; go_simp; try (with_reducible rfl))
        refine wpHeldIn_take (i := 22) (v := ?_) (plain_of (by kernel_rfl)) rfl (by kernel_rfl) (fun _ _ _ h => h) (yieldsSoIn_of (by kernel_rfl) ?_ (fun _ => rfl)) q0 ?_; rotate_left; focus (intro wq hw; have kq := KC.out wq hw; clear hw; go_simp; try (with_reducible rfl))
        refine wpHeldIn_take (i := 23) (v := ?_) (plain_of (by kernel_rfl)) rfl (by kernel_rfl) (fun _ _ _ h => h) (yieldsSoIn_of (by kernel_rfl) ?_ (fun _ => rfl)) q0 ?_; rotate_left; focus (intro wq hw; have kq := KC.out wq hw; clear hw; go_simp; try (with_reducible rfl))
        refine wpHeldIn_one (i := 24) (by kernel_rfl) (by kernel_rfl) rfl (by kernel_rfl) (fun K1 hK1 => ?_)
        go_simp
        refine ⟨trivial, (callsIn_wide.2 (HIR.out _)).mono ?_⟩
        rintro e5 w5 ⟨rfl, hb5⟩
        have q1 := q0.trans (hb5.mono q0.size)
        refine hK1 _ _ q1 ?_
        refine wpHeldIn_take (i := 25) (v := ?_) (plain_of (by kernel_rfl)) rfl (by kernel_rfl) (fun _ _ _ h => h) (yieldsSoIn_of (by kernel_rfl) ?_ (fun _ => rfl)) q1 ?_; rotate_left; focus (intro wq hw; clear hw; go_simp; try (with_reducible rfl))
        refine wpHeldIn_done (by kernel_rfl) ?_ _
        go_simp
        have hb6 := hb.trans (q1.mono hb.size)
        clear KC q0 q1 hb5 hb hBr
        go_wp2_with fail
        obtain ⟨g', hg'⟩ : ∃ g', gk = g' + 1 := ⟨gk - 1, by have := hk.out; omega⟩
        go_roundg g'
        case measure => omega
        case rel => exact ⟨k + 1, by have := hk.out; simp only [Hid]; omega, by omega, by go_num, hb6⟩
    · go_wp2_with fail
      refine (HWK.out _).mono ?_
      rintro e wz ⟨rfl, hbz⟩
      have hBz := hBr.trans (hbz.mono hBr.size)
      go_wp2_with fail
      go_returns
      exact ⟨rfl, hBz⟩
theorem True_any (d : Wh.Desk) (t : Wh.Tr) (A : Option Addr) (c : Nat) (w : World) (hl : d.ws.length ≤ 1000000000) (hg : Wks w w.heap.size A d.ws) :
    Calls Try.prog 5 #[.agg (whV d), .slice A d.ws.length c, .agg #[.int .i64 t.1, .int .i64 t.2]] w (BoolPost true w) := by
  have HWK : Hid (∀ W, Calls Try.prog 13 #[] W (BoolPost true W)) := works_any
  have g1 := fun W (hW : Below w.heap.size w W) => (hg.keep hW).wider hW.size
  have HRD : Hid (∀ W, Below w.heap.size w W → Calls Try.prog 34 #[.agg (whV d), .slice A d.ws.length c] W (BoolPost (Wh.readyB d) W)) := fun W hW => ready3_any d A c W hl (g1 W hW)
  cases hr : Wh.readyB d
  · rw [hr] at HRD
    exact True_far d.full d.read d.slip d.skew d.circ d.glo d.ghi d.wr d.ws A c t.1 t.2 w HWK HRD
  · rw [hr] at HRD
    obtain ⟨hok, hsp, hl4⟩ := Wh.ready_ok' hr
    have hd := Wh.ok_of hok
    have HFW : Hid (∀ W, Below w.heap.size w W → Calls Try.prog 16 #[.agg (whV d), .slice A d.ws.length c] W (TwoPost (Wh.fewV d) 0 W)) := fun W hW => by
      have := Fewest_any d A c W hl (g1 W hW)
      rw [Wh.chkE_yes hok] at this
      exact this
    have HAR : Hid (∀ W, Below w.heap.size w W → Calls Try.prog 20 #[.agg (whV d), .slice A d.ws.length c] W (IntsEPost (Wh.areasV d) (Wh.spE d) W)) := fun W hW => Areas_any d A c W hl (g1 W hW)
    have kn : ∀ e : Int, e = 0 ∨ e = 3 → ∀ W, Calls Try.prog 35 #[.int .i64 e] W fun e w' => e = .returned (.bool true) ∧ w' = W := fun e he W => by
      have := isKnown3_any e W
      rw [show (decide (e = 0) || decide (e = 3)) = true from by rcases he with h | h <;> rw [h] <;> rfl] at this
      exact this
    have HIT : Hid (∀ W, Below w.heap.size w W → Calls Try.prog 36 #[.agg (whV d), .slice A d.ws.length c, .agg #[.int .i64 t.1, .int .i64 t.2]] W (BoolPost (Wh.truthB d t) W)) := fun W hW => IsTruth3_any d hok A c t W (g1 W hW)
    have hfb := Wh.few_bd d (Wh.casesL d)
    have hfv : Wh.fewV d = Wh.fewF d (Wh.casesL d) := by unfold Wh.fewV; rw [hok, if_pos rfl]
    rw [← hfv] at hfb
    have n0 : decide (Wh.fewV d < 0) = false := decide_eq_false (by omega)
    have n1 : decide ((d.ws.length : Int) < Wh.fewV d) = false := decide_eq_false (by omega)
    have hla := Wh.areas_span hok hsp
    have q1 : decide ((100 : Int) < ((Wh.areasV d).length : Int)) = false := decide_eq_false (by omega)
    have hfs := Wh.few_sp hok
    rcases Wh.sp_or hok with h0 | h0
    · rw [h0] at HAR
      have n2 : decide (Wh.fewV d ≤ d.wr) = true := decide_eq_true (hfs.2 h0)
      cases ht : Wh.truthB d t
      · rw [ht] at HIT
        exact True_not0 d.full d.read d.slip d.skew d.circ d.glo d.ghi d.wr d.ws A c t.1 t.2 w (Wh.areasV d) (Wh.fewV d) (Lib.hid hg) (by omega) n0 n1 n2 q1 HWK HRD HFW HAR (kn 0 (.inl rfl)) HIT
      · rw [ht] at HIT
        obtain ⟨x, hx, ex⟩ := Wh.truth_in hok ht
        obtain ⟨hx1, hx2⟩ := (Wh.mem_truths hd x).1 hx
        have ha : t.1 ∈ Wh.areasV d := (Wh.areas_mem h0 _).2 ⟨x, hx, by rw [ex]⟩
        have hk : t.2 ∈ Wh.skewsV d := (Wh.skews_mem h0 _).2 ⟨x, hx, by rw [ex]⟩
        have hbm := (Wh.bound_mem h0).2.2 _ ha
        have hlk := Wh.skews_span hok
        have hst : Wh.strV d = Wh.stTo d d.ws.length := by unfold Wh.strV; rw [if_pos h0]
        have hsl := Wh.stTo_len d d.ws.length
        rw [← hst] at hsl
        have hsmt : Wh.tsm t := by rw [← ex]; exact x.2
        have hfw : Wh.fewV d ≤ (Wh.wrongN d t : Nat) := by
          rw [hfv]
          unfold Wh.fewF
          exact (Wh.few_le_from d _ _ _).2 (.inr ⟨x, (Wh.cases_iff hd x).2 hx1, by rw [ex]; exact Int.le_refl _⟩)
        refine True_core d.full d.read d.slip d.skew d.circ d.glo d.ghi d.wr d.ws A c t.1 t.2 w (Wh.areasV d) (Wh.fewV d) (Lib.hid hg) (by omega) n0 n1 n2 q1 HWK HRD HFW HAR (kn 0 (.inl rfl)) HIT (Wh.skewsV d) (Wh.strV d) (Wh.boundV d) (Wh.wrongN d t : Nat) (decide_eq_false (by omega)) (decide_eq_false (by omega)) hla hlk (by omega)
          (decide_eq_true ha) (decide_eq_true hk) (decide_eq_false (by omega)) (decide_eq_false (by omega)) (decide_eq_false (by omega)) (fun W hW => ?_) (fun W hW => ?_) (fun W hW => ?_) (fun W hW => Wrongs3_any d hok A c t W hsmt (g1 W hW)) (fun y hy => ?_)
        · have := Bound_any d A c W hl (g1 W hW)
          rw [h0] at this
          exact this
        · have := Skews_any d A c W hl (g1 W hW)
          rw [h0] at this
          exact this
        · have := Strange_any d A c W hl (g1 W hW)
          rw [h0] at this
          exact this
        · rw [hst] at hy
          obtain ⟨j, hj, hja, hje⟩ := Wh.stTo_mem d y _ hy
          refine ⟨j, hj, hje, fun W => ?_⟩
          have hwk := Wh.ok_wk hok j hj
          have := IsRight3_any d hd (Wh.wkAt d.ws j) (by
            unfold Wh.wkB at hwk
            simp only [Bool.and_eq_true, Wh.signB_iff] at hwk
            exact hwk.1.1.1.1) (Wh.ok_sm hok j hj) t hsmt W
          have hno := Wh.any_no hja hx
          rw [ex] at hno
          rw [hno] at this
          exact this
    · rw [h0] at HAR
      have n2 : decide (Wh.fewV d ≤ d.wr) = false := decide_eq_false fun h => by have := hfs.1 h; omega
      have ht : Wh.truthB d t = false := by
        cases h : Wh.truthB d t
        · rfl
        · obtain ⟨x, hx, _⟩ := Wh.truth_in hok h
          have := Wh.sp_mem hok hx
          omega
      rw [ht] at HIT
      exact True_not3 d.full d.read d.slip d.skew d.circ d.glo d.ghi d.wr d.ws A c t.1 t.2 w (Wh.areasV d) (Wh.fewV d) (Lib.hid hg) (by omega) n0 n1 n2 q1 HWK HRD HFW HAR (kn 3 (.inr rfl)) HIT
theorem True_all (d : Wh.Desk) (t : Wh.Tr) (A : Option Addr) (c : Nat) (w : World) (hg : Wks w w.heap.size A d.ws) :
    Calls Try.prog 5 #[.agg (whV d), .slice A d.ws.length c, .agg #[.int .i64 t.1, .int .i64 t.2]] w (BoolPost true w) := by
  by_cases h40 : 40 < d.ws.length
  · exact True_far d.full d.read d.slip d.skew d.circ d.glo d.ghi d.wr d.ws A c t.1 t.2 w works_any (fun W _ => ready3_long d A c W h40)
  · exact True_any d t A c w (by omega) hg
section
open Go.ChangeShapes Go.WideShapes Go.ChangeAt Go.RowKit Go.Joins Go.Deep
variable {H : Type} {enc : TypeId × Value → H} {w : World} {base : Nat} {spare : Nat → Bool} {held : Bool} {r : Reach} {b0 : Nat} {v : Value} {d : DataW H} {p : List MemPlace}
set_option maxRecDepth 100000 in
theorem open_Truth (hv : Value.okWide Try.prog w r b0 47 v) (h : DataW.Trod enc Try.prog w base spare held 47 v d p) :
    ∃ x1 x2 : Int, v = .agg #[.int .i64 x1, .int .i64 x2] := by
  obtain ⟨c0, c1, y0, y1, m, rfl, rfl, rfl, hy0, hy1⟩ := open_agg2 Try.underlying47 (by kernel_rfl) (by kernel_rfl : Try.prog.cellsOf 47 = 2) hv h
  obtain ⟨a, e0, rfl, wa⟩ := DataW.trod_int Try.underlying3 hy0
  obtain ⟨b, e1, rfl, wb⟩ := DataW.trod_int Try.underlying3 hy1
  simp at e0 e1
  subst e0 e1
  exact ⟨a, b, rfl⟩
end
theorem lawTrue_walk (f1 f2 f3 f4 f5 f6 f7 f8 : Int) (A : Option Addr) (c : Nat) (ws : List Wh.Wk) (t1 t2 : Int) (w : World) (_hl : ws.length ≤ maxLen) (hg : Wks w w.heap.size A ws) :
    Calls Try.prog 5 #[.agg #[.int .i64 f1, .int .i64 f2, .int .i64 f3, .int .i64 f4, .int .i64 f5, .int .i64 f6, .int .i64 f7, .int .i64 f8], .slice A ws.length c, .agg #[.int .i64 t1, .int .i64 t2]] w fun e w' => e = .returned (.bool true) ∧ Below w.heap.size w w' := True_all ⟨f1, f2, f3, f4, f5, f6, f7, f8, ws⟩ (t1, t2) A c w hg

open Go.ChangeShapes Go.WideShapes Go.ChangeAt Go.RowKit Go.Joins

set_option maxRecDepth 100000 in
theorem true3_lifted (os : Os) (started : os.Started) (H : Type) (enc : TypeId × Value → H) :
    ReturnsInHanded {} Try.checked os 5 .any (Rows.wheelsTrueSpec.pre6 enc Try.prog Try.f5 Rows.wheelsTrueRow.domain false) (Rows.wheelsTrueSpec.post enc Try.prog Try.f5 false true false false) := by
  refine returnsInHanded_of_change (C := Try.checked) own started (by kernel_rfl) Try.func5
    (ChangeSpec.witness6 (enc := enc) (C := Try.checked) false ⟨#[], #[.agg #[.int .i64 0, .int .i64 0, .int .i64 0, .int .i64 0, .int .i64 0, .int .i64 0, .int .i64 0, .int .i64 0], .slice none 0 0, .agg #[.int .i64 0, .int .i64 0]], []⟩ 8 (by kernel_rfl) (by kernel_rfl) (by kernel_rfl) (by kernel_rfl)) ?_
  intro W base args ds gs before hval0 hW hcnd _
  have hval : ∀ (j : Nat) t v, Try.f5.params[j]? = some t → args[j]? = some v → Value.okWide Try.prog W .any base t v := hval0
  have hW' := hW
  obtain ⟨p, q, hA0, hV, rfl, hfz, hnd⟩ := hW
  have hA : DataW.TrodAll enc Try.prog W 0 (fun _ => true) true Try.f5.params.toList args.toList ds p := hA0
  rw [Try.params5] at hA hval
  obtain ⟨v0, v1, v2, d0, d1, d2, p0, p1, p2, rfl, rfl, rfl, h0, h1, h2⟩ := trodAll_three hA
  obtain ⟨rfl, rfl⟩ := trodVars_none hV
  obtain ⟨f1, f2, f3, f4, f5, f6, f7, f8, rfl⟩ := open_Wheel (hval 0 25 v0 rfl rfl) h0
  obtain ⟨A, c, ws, rfl, hg_ws, hl_ws, hc_ws⟩ := open_Walks (hval 1 26 v1 rfl rfl) h1
  obtain ⟨t1, t2, rfl⟩ := open_Truth (hval 2 47 v2 rfl rfl) h2
  refine (lawTrue_walk f1 f2 f3 f4 f5 f6 f7 f8 A c ws t1 t2 W hl_ws hg_ws).mono fun e W' ⟨he, hb⟩ => ?_
  subst he
  exact ⟨_, rfl, law_post hW' rfl rfl (by intro t ht; have : t = 25 ∨ t = 26 ∨ t = 47 := (by rw [Try.params5] at ht; simpa using ht); rcases this with rfl | rfl | rfl <;> exact ⟨by kernel_rfl, of_decide_eq_true (by kernel_rfl)⟩) rfl rfl rfl hb⟩

theorem true3_holds : Rows.WheelsTrueSaid :=
  OpenClaim.holds_of_wide 5 Try.f5 rfl rfl rfl rfl rfl rfl rfl ⟨rfl, rfl, rfl, rfl, rfl⟩ rfl rfl rfl rfl rfl (by kernel_rfl) Try.func5 (by kernel_rfl)
    (of_decide_eq_true (by kernel_rfl)) (by unfold Func.isWrapper; rw [if_neg (of_decide_eq_false (by kernel_rfl))]; exact ⟨rfl, rfl⟩)
    (fun os started H enc _ => true3_lifted os started H enc)
end Go.Proofs.Ytecmlakcpgkfbaa
