/- Wheels: the reference's Many, Areas and Bound. -/
import Derived.Test.YtecmlakcpgkfbaaAr3
import Derived.Test.YtecmlakcpgkfbaaWhBd
namespace Go.Proofs.Ytecmlakcpgkfbaa
open Go.RowKit
namespace Wh
theorem tr_le {P : List Tr} (hP : P.Pairwise (fun a b => a.1 ≤ b.1)) {j k : Nat} (hj : j ≤ k) (hk : k < P.length) : (trAt P j).1 ≤ (trAt P k).1 := by
  rcases Nat.lt_or_eq_of_le hj with h | h
  · unfold trAt
    rw [List.getElem?_eq_getElem (by omega), List.getElem?_eq_getElem (by omega)]
    exact List.pairwise_iff_getElem.1 hP j k (by omega) (by omega) h
  · subst h
    exact Int.le_refl _
theorem arTo_asc {P : List Tr} (hP : P.Pairwise (fun a b => a.1 ≤ b.1)) : ∀ k, k ≤ P.length → (arTo P k).Pairwise (fun a b => a < b)
  | 0, _ => List.Pairwise.nil
  | k + 1, h => by
    have ih := arTo_asc hP k (by omega)
    have e : arTo P (k + 1) = if (trAt P k).1 ∈ arTo P k then arTo P k else arTo P k ++ [(trAt P k).1] := rfl
    rw [e]
    split
    · exact ih
    · rename_i hn
      rw [List.pairwise_append]
      refine ⟨ih, by simp, fun a ha b hb => ?_⟩
      rw [List.mem_singleton] at hb
      subst hb
      obtain ⟨j, hj, e2⟩ := (arTo_mem P a k).1 ha
      have h1 := tr_le hP (Nat.le_of_lt hj) (show k < P.length by omega)
      have h2 : a ≠ (trAt P k).1 := fun e2 => hn (e2 ▸ ha)
      omega
theorem vals_asc {d : Desk} (hd : Ok d) : (vals (truthsL d)).Pairwise (fun a b => a.1 ≤ b.1) := by
  unfold vals
  rw [List.pairwise_map]
  exact truths_asc hd
theorem vals_mem {d : Desk} (x : Int) : (∃ t ∈ vals (truthsL d), t.1 = x) ↔ ∃ f ∈ truthsL d, f.1.1 = x := by
  unfold vals
  constructor
  · rintro ⟨t, ht, e⟩
    obtain ⟨f, hf, rfl⟩ := List.mem_map.1 ht
    exact ⟨f, hf, e⟩
  · rintro ⟨f, hf, e⟩
    exact ⟨f.1, List.mem_map.2 ⟨f, hf, rfl⟩, e⟩
theorem kn_yes {d : Desk} (h0 : spE d = 0) : knL d true = vals (truthsL d) := by unfold knL; rw [knE_sp, if_pos h0]
theorem kn_no {d : Desk} (h0 : spE d ≠ 0) : knL d true = [] := by unfold knL; rw [knE_sp, if_neg h0]
theorem areas_kn (d : Desk) : areasV d = arL (knL d true) := by
  by_cases h0 : spE d = 0
  · rw [kn_yes h0]
    have hd := ok_of (sp_ok h0).1
    unfold areasV
    rw [if_pos h0]
    exact all_eq (fun t => t.1) _ (arTo_asc (vals_asc hd) _ (Nat.le_refl _)) (fun x => (arL_mem _ x).trans (vals_mem x))
  · rw [kn_no h0]
    unfold areasV
    rw [if_neg h0]
    rfl
theorem many_kn (d : Desk) : manyV d = (knL d true).length := by
  by_cases h0 : spE d = 0
  · rw [kn_yes h0, vals_len]
    unfold manyV
    rw [if_pos h0]
  · rw [kn_no h0]
    unfold manyV
    rw [if_neg h0]
    rfl
theorem bound_kn {d : Desk} (h0 : spE d = 0) : 0 < (knL d true).length ∧ (boundV d).1 = (trAt (knL d true) 0).1 ∧ (boundV d).2 = (trAt (knL d true) ((knL d true).length - 1)).1 := by
  have hne := (sp_ok h0).2
  have hd := ok_of (sp_ok h0).1
  have hP := vals_asc hd
  rw [kn_yes h0]
  have hpos : 0 < (vals (truthsL d)).length := by
    rw [vals_len]
    exact List.length_pos_iff.2 hne
  obtain ⟨m1, m2, m3⟩ := bound_mem h0
  have key : ∀ x, x ∈ areasV d ↔ ∃ j, j < (vals (truthsL d)).length ∧ (trAt (vals (truthsL d)) j).1 = x := fun x => ((areas_mem h0 x).trans (vals_mem x).symm).trans trAt_mem.symm
  obtain ⟨j1, hj1, e1⟩ := (key _).1 m1
  obtain ⟨j2, hj2, e2⟩ := (key _).1 m2
  have b1 := m3 _ ((key _).2 ⟨0, hpos, rfl⟩)
  have b2 := m3 _ ((key _).2 ⟨(vals (truthsL d)).length - 1, by omega, rfl⟩)
  have a1 := tr_le hP (Nat.zero_le j1) hj1
  have a2 := tr_le hP (show j2 ≤ (vals (truthsL d)).length - 1 by omega) (by omega)
  exact ⟨hpos, by omega, by omega⟩
end Wh
theorem cell_back {W : World} {b B i : Nat} {t : TypeId} {z z' u v x y : Value} (hR : BoxS W B t #[z, z']) (h : W.cell? ⟨b, i, none⟩ = some x) (h2 : W.cell? ⟨b, i + 1, none⟩ = some y) (hx : b = B → i = 0 → x = u) :
    ((W.setCell ⟨B, 0, none⟩ u).setCell ⟨B, 1, none⟩ v).cell? ⟨b, i, none⟩ = some x := by
  by_cases hb : b = B
  · subst hb
    have hi : i = 0 := by
      simp [World.cell?, show W.heap[b]? = _ from hR] at h2
      match i, h2 with
      | 0, _ => rfl
      | i + 1, h2 => simp at h2
    subst hi
    rw [hx rfl rfl]
    exact ((hR.put9 0 u).put9 1 v).cell 0 rfl
  · exact cell_away2 h hb
set_option maxRecDepth 100000 in
set_option maxHeartbeats 8000000 in
theorem Many3_core (full read slip skew circ glo ghi wrn : Int) (ws : List Wh.Wk) (A : Option Addr) (c : Nat) (w : World) (E : Int) (P : List Wh.Tr) (HKN : Hid (∀ W, Below w.heap.size w W → Calls Try.prog 57 #[.agg #[.int .i64 full, .int .i64 read, .int .i64 slip, .int .i64 skew, .int .i64 circ, .int .i64 glo, .int .i64 ghi, .int .i64 wrn], .slice A ws.length c, .bool true] W (PrsEPost P E W))) :
    Calls Try.prog 19 #[.agg #[.int .i64 full, .int .i64 read, .int .i64 slip, .int .i64 skew, .int .i64 circ, .int .i64 glo, .int .i64 ghi, .int .i64 wrn], .slice A ws.length c] w (TwoPost (P.length : Nat) E w) := by
  unfold PrsEPost at HKN
  go_enter Try.func19, Try.ntmps19
  go_wp2_with fail
  have hB1 : Below w.heap.size w (w.alloc (.cells #[.int .i64 full, .int .i64 read, .int .i64 slip, .int .i64 skew, .int .i64 circ, .int .i64 glo, .int .i64 ghi, .int .i64 wrn] 25)) := by (repeat' (first | (with_reducible exact Below.refl _ _) | (with_reducible assumption) | (with_reducible refine Below.alloc ?_ ?_ _) | (with_reducible refine Below.drew ?_) | (with_reducible refine Below.setCell ?_ ?_ _) | go_size | (exact (by simp)) | omega))
  generalize World.alloc w _ = w1 at *
  refine (HKN.out _ hB1).mono ?_
  rintro e w3 ⟨A3, c3, rfl, hP3, hb3⟩
  have hB3 := hB1.trans (hb3.mono hB1.size)
  clear HKN hb3 hB1
  go_wp2_with fail
  go_returns
  exact ⟨rfl, hB3⟩
set_option maxRecDepth 100000 in
set_option maxHeartbeats 8000000 in
theorem Areas3_core (full read slip skew circ glo ghi wrn : Int) (ws : List Wh.Wk) (A : Option Addr) (c : Nat) (w : World) (E : Int) (P : List Wh.Tr) (hl : P.length ≤ 90000) (HKN : Hid (∀ W, Below w.heap.size w W → Calls Try.prog 57 #[.agg #[.int .i64 full, .int .i64 read, .int .i64 slip, .int .i64 skew, .int .i64 circ, .int .i64 glo, .int .i64 ghi, .int .i64 wrn], .slice A ws.length c, .bool true] W (PrsEPost P E W))) :
    Calls Try.prog 21 #[.agg #[.int .i64 full, .int .i64 read, .int .i64 slip, .int .i64 skew, .int .i64 circ, .int .i64 glo, .int .i64 ghi, .int .i64 wrn], .slice A ws.length c] w (IntsEPost (Wh.arL P) E w) := by
  have HAR : Hid (∀ A' c' W, Prs W W.heap.size A' P → Calls Try.prog 60 #[.slice A' P.length c'] W (IntsPost (Wh.arL P) W)) := fun A' c' W h => areas3_any A' c' P hl W h
  unfold IntsPost at HAR
  unfold PrsEPost at HKN
  go_enter Try.func21, Try.ntmps21
  go_wp2_with fail
  have hB1 : Below w.heap.size w (w.alloc (.cells #[.int .i64 full, .int .i64 read, .int .i64 slip, .int .i64 skew, .int .i64 circ, .int .i64 glo, .int .i64 ghi, .int .i64 wrn] 25)) := by (repeat' (first | (with_reducible exact Below.refl _ _) | (with_reducible assumption) | (with_reducible refine Below.alloc ?_ ?_ _) | (with_reducible refine Below.drew ?_) | (with_reducible refine Below.setCell ?_ ?_ _) | go_size | (exact (by simp)) | omega))
  generalize World.alloc w _ = w1 at *
  refine (HKN.out _ hB1).mono ?_
  rintro e w3 ⟨A3, c3, rfl, hP3, hb3⟩
  have hB3 := hB1.trans (hb3.mono hB1.size)
  clear HKN hb3 hB1
  go_wp2_with fail
  refine (HAR.out _ _ _ hP3.out).mono ?_
  rintro e w4 ⟨v, rfl, hv, hb4⟩
  have hB4 := hB3.trans (hb4.mono hB3.size)
  go_wp2_with fail
  go_returns
  exact ⟨v, rfl, hv, hB4⟩
set_option maxRecDepth 100000 in
set_option maxHeartbeats 8000000 in
theorem Bound3_no (full read slip skew circ glo ghi wrn : Int) (ws : List Wh.Wk) (A : Option Addr) (c : Nat) (w : World) (E : Int) (P : List Wh.Tr) (hE : E ≠ 0) (HKN : Hid (∀ W, Below w.heap.size w W → Calls Try.prog 57 #[.agg #[.int .i64 full, .int .i64 read, .int .i64 slip, .int .i64 skew, .int .i64 circ, .int .i64 glo, .int .i64 ghi, .int .i64 wrn], .slice A ws.length c, .bool true] W (PrsEPost P E W))) :
    Calls Try.prog 24 #[.agg #[.int .i64 full, .int .i64 read, .int .i64 slip, .int .i64 skew, .int .i64 circ, .int .i64 glo, .int .i64 ghi, .int .i64 wrn], .slice A ws.length c] w (BoundPost (0, 0) E w) := by
  have hb : (E == 0) = false := by simpa using hE
  unfold PrsEPost at HKN
  go_enter Try.func24, Try.ntmps24
  go_wp2_with fail
  have bR1 := BoxS.new (w.alloc (.cells #[.int .i64 full, .int .i64 read, .int .i64 slip, .int .i64 skew, .int .i64 circ, .int .i64 glo, .int .i64 ghi, .int .i64 wrn] 25)) 23 #[.int .i64 0, .int .i64 0]
  have hB1 : Below w.heap.size w ((w.alloc (.cells #[.int .i64 full, .int .i64 read, .int .i64 slip, .int .i64 skew, .int .i64 circ, .int .i64 glo, .int .i64 ghi, .int .i64 wrn] 25)).alloc (.cells #[.int .i64 0, .int .i64 0] 23)) := by (repeat' (first | (with_reducible exact Below.refl _ _) | (with_reducible assumption) | (with_reducible refine Below.alloc ?_ ?_ _) | (with_reducible refine Below.drew ?_) | (with_reducible refine Below.setCell ?_ ?_ _) | go_size | (exact (by simp)) | omega))
  rw [World.size_alloc] at bR1
  generalize World.alloc (World.alloc w _) _ = w1 at *
  refine (HKN.out _ hB1).mono ?_
  rintro e w2 ⟨A3, c3, rfl, hP3, hb3⟩
  have hB2 := hB1.trans (hb3.mono hB1.size)
  have bR2 := bR1.below hb3
  clear HKN hb3 hB1 bR1
  have f0 := bR2.frozen 0
  have f1 := bR2.frozen 1
  have hbr := bR2.lt
  obtain ⟨r0, r1⟩ := boxS2' bR2
  go_wp2_with fail
  clear r0 r1
  have bR3 := (bR2.put9 0 (.int .i64 0)).put9 1 (.int .i64 0)
  obtain ⟨r0, r1⟩ := boxS2' bR3
  have hB3 : Below w.heap.size w ((w2.setCell ⟨w.heap.size + 1, 0, none⟩ (.int .i64 0)).setCell ⟨w.heap.size + 1, 1, none⟩ (.int .i64 0)) := by (repeat' (first | (with_reducible exact Below.refl _ _) | (with_reducible assumption) | (with_reducible refine Below.alloc ?_ ?_ _) | (with_reducible refine Below.drew ?_) | (with_reducible refine Below.setCell ?_ ?_ _) | go_size | (exact (by simp)) | omega))
  generalize World.setCell (World.setCell w2 _ _) _ _ = w3 at *
  go_wp2_with fail
  exact bodyPost_ret (v := .tuple #[.agg #[.int .i64 0, .int .i64 0], .int .i64 E]) (by simp [results, Try.results24, go_sem, r0, r1]) rfl ⟨rfl, by (repeat' (first | (with_reducible exact Below.refl _ _) | (with_reducible assumption) | (with_reducible refine Below.alloc ?_ ?_ _) | (with_reducible refine Below.drew ?_) | (with_reducible refine Below.setCell ?_ ?_ _) | go_size | (exact (by simp)) | omega))⟩
set_option maxRecDepth 100000 in
set_option maxHeartbeats 8000000 in
theorem Bound3_yes (full read slip skew circ glo ghi wrn : Int) (ws : List Wh.Wk) (A : Option Addr) (c : Nat) (w : World) (E : Int) (P : List Wh.Tr) (hE : E = 0) (hpos : 0 < P.length) (hlen : P.length ≤ 90000) (HKN : Hid (∀ W, Below w.heap.size w W → Calls Try.prog 57 #[.agg #[.int .i64 full, .int .i64 read, .int .i64 slip, .int .i64 skew, .int .i64 circ, .int .i64 glo, .int .i64 ghi, .int .i64 wrn], .slice A ws.length c, .bool true] W (PrsEPost P E W))) :
    Calls Try.prog 24 #[.agg #[.int .i64 full, .int .i64 read, .int .i64 slip, .int .i64 skew, .int .i64 circ, .int .i64 glo, .int .i64 ghi, .int .i64 wrn], .slice A ws.length c] w (BoundPost ((Wh.trAt P 0).1, (Wh.trAt P (P.length - 1)).1) 0 w) := by
  subst hE
  unfold PrsEPost at HKN
  go_enter Try.func24, Try.ntmps24
  go_wp2_with fail
  have bR1 := BoxS.new (w.alloc (.cells #[.int .i64 full, .int .i64 read, .int .i64 slip, .int .i64 skew, .int .i64 circ, .int .i64 glo, .int .i64 ghi, .int .i64 wrn] 25)) 23 #[.int .i64 0, .int .i64 0]
  have hB1 : Below w.heap.size w ((w.alloc (.cells #[.int .i64 full, .int .i64 read, .int .i64 slip, .int .i64 skew, .int .i64 circ, .int .i64 glo, .int .i64 ghi, .int .i64 wrn] 25)).alloc (.cells #[.int .i64 0, .int .i64 0] 23)) := by (repeat' (first | (with_reducible exact Below.refl _ _) | (with_reducible assumption) | (with_reducible refine Below.alloc ?_ ?_ _) | (with_reducible refine Below.drew ?_) | (with_reducible refine Below.setCell ?_ ?_ _) | go_size | (exact (by simp)) | omega))
  rw [World.size_alloc] at bR1
  generalize World.alloc (World.alloc w _) _ = w1 at *
  refine (HKN.out _ hB1).mono ?_
  rintro e w2 ⟨A3, c3, rfl, hP3, hb3⟩
  have hB2 := hB1.trans (hb3.mono hB1.size)
  have bR2 := bR1.below hb3
  clear HKN hb3 hB1 bR1
  have f0 := bR2.frozen 0
  have f1 := bR2.frozen 1
  have hbr := bR2.lt
  obtain ⟨r0, r1⟩ := boxS2' bR2
  obtain ⟨b, o, rfl, hbp, hcp⟩ := hP3.out hpos
  have at1 : ∀ j, j < P.length → P[j]? = some (Wh.trAt P j) := fun j hj => by unfold Wh.trAt; rw [List.getElem?_eq_getElem hj]; rfl
  have c0 : w2.cell? ⟨b, o, none⟩ = some (.int .i64 (Wh.trAt P 0).1) := (hcp 0 _ (at1 0 hpos)).1
  have e0 : w2.cell? ⟨b, o + 1, none⟩ = some (.int .i64 (Wh.trAt P 0).2) := (hcp 0 _ (at1 0 hpos)).2
  have c1 := (hcp (P.length - 1) _ (at1 _ (by omega))).1
  have e1 := (hcp (P.length - 1) _ (at1 _ (by omega))).2
  have hw1 : IntKind.i64.wrap ((P.length : Int) - 1) = (P.length : Int) - 1 := IntWalk.i64_in _ (by omega)
  have ht1 : ((P.length : Int) - 1).toNat = P.length - 1 := by omega
  have hn1 : 0 ≤ (P.length : Int) - 1 := by omega
  have hn2 : (P.length : Int) - 1 < P.length := by omega
  have hn3 : (0 : Int) < P.length := by omega
  have hn4 : (1 : Int) ≤ P.length := by omega
  generalize Wh.trAt P (P.length - 1) = X1 at *
  generalize Wh.trAt P 0 = X0 at *
  obtain ⟨X0, Y0⟩ := X0
  obtain ⟨X1, Y1⟩ := X1
  dsimp only at c0 c1 e0 e1 ⊢
  have d0 : ((w2.setCell ⟨w.heap.size + 1, 0, none⟩ (.int .i64 X0)).setCell ⟨w.heap.size + 1, 1, none⟩ (.int .i64 X1)).cell? ⟨b, o, none⟩ = some (.int .i64 X0) := cell_back bR2 c0 e0 (fun _ _ => rfl)
  have d1 : ((w2.setCell ⟨w.heap.size + 1, 0, none⟩ (.int .i64 X0)).setCell ⟨w.heap.size + 1, 1, none⟩ (.int .i64 X1)).cell? ⟨b, o + (P.length - 1) * 2, none⟩ = some (.int .i64 X1) := cell_back bR2 c1 e1 (fun hb hi => by
    have ho : o = 0 := by omega
    rw [hi] at c1
    rw [ho, c1] at c0
    exact Option.some.inj c0)
  have HD := Lib.hid (And.intro d0 d1)
  clear hcp at1 e0 e1 d0 d1
  go_wp2_with fail
  have d0 := HD.out.1
  have d1 := HD.out.2
  have bR3 := (bR2.put9 0 (.int .i64 X0)).put9 1 (.int .i64 X1)
  have hB3 : Below w.heap.size w ((w2.setCell ⟨w.heap.size + 1, 0, none⟩ (.int .i64 X0)).setCell ⟨w.heap.size + 1, 1, none⟩ (.int .i64 X1)) := by (repeat' (first | (with_reducible exact Below.refl _ _) | (with_reducible assumption) | (with_reducible refine Below.alloc ?_ ?_ _) | (with_reducible refine Below.drew ?_) | (with_reducible refine Below.setCell ?_ ?_ _) | go_size | (exact (by simp)) | omega))
  refine (wpIn_wide (n := 4)).1 ?_
  have hmo : Try.prog.follows .mixedOrders = true := by kernel_rfl
  refine wpIn_region_held (fun W' => W'.cell? ⟨b, o, none⟩ = some (.int .i64 X0) ∧ W'.cell? ⟨b, o + (P.length - 1) * 2, none⟩ = some (.int .i64 X1)) 13 hmo ?_
  refine wpHeldIn_take (i := 0) (v := ?_) (plain_of (by kernel_rfl)) rfl (by kernel_rfl) (fun _ _ _ h => h) (yieldsSoIn_of (by kernel_rfl) ?_ (fun _ => rfl)) (⟨c0, c1⟩) ?_; rotate_left; focus (rintro wq ⟨g0, g1⟩; go_simp; try (with_reducible rfl))
  refine wpHeldIn_take (i := 1) (v := ?_) (plain_of (by kernel_rfl)) rfl (by kernel_rfl) (fun _ _ _ h => h) (yieldsSoIn_of (by kernel_rfl) ?_ (fun _ => rfl)) (⟨c0, c1⟩) ?_; rotate_left; focus (rintro wq ⟨g0, g1⟩; go_simp; try (with_reducible rfl))
  refine wpHeldIn_take (i := 2) (v := ?_) (plain_of (by kernel_rfl)) rfl (by kernel_rfl) (fun _ _ _ h => h) (yieldsSoIn_of (by kernel_rfl) ?_ (fun _ => rfl)) (⟨c0, c1⟩) ?_; rotate_left; focus (rintro wq ⟨g0, g1⟩; go_simp; try (with_reducible rfl))
  refine wpHeldIn_take (i := 3) (v := ?_) (plain_of (by kernel_rfl)) rfl (by kernel_rfl) (fun _ _ _ h => h) (yieldsSoIn_of (by kernel_rfl) ?_ (fun _ => rfl)) (⟨c0, c1⟩) ?_; rotate_left; focus (rintro wq ⟨g0, g1⟩; go_simp; try (with_reducible rfl))
  refine wpHeldIn_take (i := 4) (v := ?_) (plain_of (by kernel_rfl)) rfl (by kernel_rfl) (fun _ _ _ h => h) (yieldsSoIn_of (by kernel_rfl) ?_ (fun _ => rfl)) (⟨c0, c1⟩) ?_; rotate_left; focus (rintro wq ⟨g0, g1⟩; go_simp; try (with_reducible rfl))
  refine wpHeldIn_take (i := 5) (v := ?_) (plain_of (by kernel_rfl)) rfl (by kernel_rfl) (fun _ _ _ h => h) (yieldsSoIn_of (by kernel_rfl) ?_ (fun _ => rfl)) (⟨c0, c1⟩) ?_; rotate_left; focus (rintro wq ⟨g0, g1⟩; go_simp; try (with_reducible rfl))
  refine wpHeldIn_take (i := 6) (v := ?_) (plain_of (by kernel_rfl)) rfl (by kernel_rfl) (fun _ _ _ h => h) (yieldsSoIn_of (by kernel_rfl) ?_ (fun _ => rfl)) (⟨c0, c1⟩) ?_; rotate_left; focus (rintro wq ⟨g0, g1⟩; go_simp; try (with_reducible rfl))
  refine wpHeldIn_take (i := 7) (v := ?_) (plain_of (by kernel_rfl)) rfl (by kernel_rfl) (fun _ _ _ h => h) (yieldsSoIn_of (by kernel_rfl) ?_ (fun _ => rfl)) (⟨c0, c1⟩) ?_; rotate_left; focus (rintro wq ⟨g0, g1⟩; go_simp; try (with_reducible rfl))
  refine wpHeldIn_take (i := 8) (v := ?_) (plain_of (by kernel_rfl)) rfl (by kernel_rfl) (fun _ _ _ h => h) (yieldsSoIn_of (by kernel_rfl) ?_ (fun _ => rfl)) (⟨c0, c1⟩) ?_; rotate_left; focus (rintro wq ⟨g0, g1⟩; go_simp; try (with_reducible rfl))
  refine wpHeldIn_take (i := 9) (v := ?_) (plain_of (by kernel_rfl)) rfl (by kernel_rfl) (fun _ _ _ h => h) (yieldsSoIn_of (by kernel_rfl) ?_ (fun _ => rfl)) (⟨c0, c1⟩) ?_; rotate_left; focus (rintro wq ⟨g0, g1⟩; go_simp; try (with_reducible rfl))
  refine wpHeldIn_take (i := 10) (v := ?_) (plain_of (by kernel_rfl)) rfl (by kernel_rfl) (fun _ _ _ h => h) (yieldsSoIn_of (by kernel_rfl) ?_ (fun _ => rfl)) (⟨c0, c1⟩) ?_; rotate_left; focus (rintro wq ⟨g0, g1⟩; go_simp; try (with_reducible rfl))
  refine wpHeldIn_take (i := 11) (v := ?_) (plain_of (by kernel_rfl)) rfl (by kernel_rfl) (fun _ _ _ h => h) (yieldsSoIn_of (by kernel_rfl) ?_ (fun _ => rfl)) (⟨c0, c1⟩) ?_; rotate_left; focus (rintro wq ⟨g0, g1⟩; go_simp; try (with_reducible rfl))
  refine wpHeldIn_one (i := 12) (by kernel_rfl) (by kernel_rfl) rfl (by kernel_rfl) (fun K' hK' => ?_); go_simp; refine hK' _ _ ⟨d0, d1⟩ ?_
  refine wpHeldIn_last (by kernel_rfl) rfl (by kernel_rfl) (fun K2 hK2 => ?_)
  go_simp
  refine hK2 _ _ ?_
  refine wpHeldIn_done (by kernel_rfl) ?_ _
  go_simp
  clear d0 d1
  clear r0 r1 c0 c1
  obtain ⟨r0, r1⟩ := boxS2' bR3
  generalize World.setCell (World.setCell w2 _ _) _ _ = w3 at *
  go_wp2_with fail
  exact bodyPost_ret (v := .tuple #[.agg #[.int .i64 X0, .int .i64 X1], .int .i64 0]) (by simp [results, Try.results24, go_sem, r0, r1]) rfl ⟨rfl, by (repeat' (first | (with_reducible exact Below.refl _ _) | (with_reducible assumption) | (with_reducible refine Below.alloc ?_ ?_ _) | (with_reducible refine Below.drew ?_) | (with_reducible refine Below.setCell ?_ ?_ _) | go_size | (exact (by simp)) | omega))⟩
namespace Wh
theorem kn_small {d : Desk} (hz : okB d = true → (casesL d).length ≤ 90000) : (knL d true).length ≤ 90000 := by
  by_cases h0 : spE d = 0
  · rw [kn_yes h0, vals_len]
    exact Nat.le_trans (List.length_filter_le _ _) (hz (sp_ok h0).1)
  · rw [kn_no h0]
    exact Nat.zero_le _
end Wh
theorem kn3_any (d : Wh.Desk) (A : Option Addr) (c : Nat) (w : World) (hl : d.ws.length ≤ 1000000000) (hz : Wh.okB d = true → (Wh.casesL d).length ≤ 90000) (hg : Wks w w.heap.size A d.ws) : Hid (∀ W, Below w.heap.size w W → Calls Try.prog 57 #[.agg (whV d), .slice A d.ws.length c, .bool true] W (PrsEPost (Wh.knL d true) (Wh.spE d) W)) := fun W hW => by
  have := known3_any d A c true W hl hz ((hg.keep hW).wider hW.size)
  rw [Wh.knE_sp] at this
  exact this
theorem Many3_any (d : Wh.Desk) (A : Option Addr) (c : Nat) (w : World) (hl : d.ws.length ≤ 1000000000) (hz : Wh.okB d = true → (Wh.casesL d).length ≤ 90000) (hg : Wks w w.heap.size A d.ws) : Calls Try.prog 19 #[.agg (whV d), .slice A d.ws.length c] w (TwoPost (Wh.manyV d) (Wh.spE d) w) := by
  have := Many3_core d.full d.read d.slip d.skew d.circ d.glo d.ghi d.wr d.ws A c w _ _ (kn3_any d A c w hl hz hg)
  rw [← Wh.many_kn] at this
  exact this
theorem Areas3_any (d : Wh.Desk) (A : Option Addr) (c : Nat) (w : World) (hl : d.ws.length ≤ 1000000000) (hz : Wh.okB d = true → (Wh.casesL d).length ≤ 90000) (hg : Wks w w.heap.size A d.ws) : Calls Try.prog 21 #[.agg (whV d), .slice A d.ws.length c] w (IntsEPost (Wh.areasV d) (Wh.spE d) w) := by
  have := Areas3_core d.full d.read d.slip d.skew d.circ d.glo d.ghi d.wr d.ws A c w _ _ (Wh.kn_small hz) (kn3_any d A c w hl hz hg)
  rw [← Wh.areas_kn] at this
  exact this
theorem Bound3_any (d : Wh.Desk) (A : Option Addr) (c : Nat) (w : World) (hl : d.ws.length ≤ 1000000000) (hz : Wh.okB d = true → (Wh.casesL d).length ≤ 90000) (hg : Wks w w.heap.size A d.ws) : Calls Try.prog 24 #[.agg (whV d), .slice A d.ws.length c] w (BoundPost (Wh.boundV d) (Wh.spE d) w) := by
  by_cases h0 : Wh.spE d = 0
  · obtain ⟨h1, h2, h3⟩ := Wh.bound_kn h0
    have := Bound3_yes d.full d.read d.slip d.skew d.circ d.glo d.ghi d.wr d.ws A c w _ _ h0 h1 (Wh.kn_small hz) (kn3_any d A c w hl hz hg)
    rw [← h2, ← h3] at this
    rw [h0]
    exact this
  · have := Bound3_no d.full d.read d.slip d.skew d.circ d.glo d.ghi d.wr d.ws A c w _ _ h0 (kn3_any d A c w hl hz hg)
    have e : Wh.boundV d = (0, 0) := by unfold Wh.boundV; rw [if_neg h0]
    rw [e]
    exact this
end Go.Proofs.Ytecmlakcpgkfbaa
