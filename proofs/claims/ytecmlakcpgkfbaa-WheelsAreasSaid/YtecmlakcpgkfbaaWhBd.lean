/- Wheels: what is in a list of all, and Bound. -/
import Derived.Test.YtecmlakcpgkfbaaWorks
namespace Go.Proofs.Ytecmlakcpgkfbaa
open Go.RowKit
namespace Wh
theorem all_spec (f : Tr → Int) (L : List TrS) (hf : ∀ t ∈ L, -1000000 ≤ f t.1 ∧ f t.1 ≤ 1000000) : (allL f L).Pairwise (fun a b => a < b) ∧ ∀ x, x ∈ allL f L ↔ ∃ t ∈ L, f t.1 = x := by
  have hp : (((List.range 2000001).map (fun n : Nat => (n : Int) - 1000000)).filter (fun x => L.any (fun t => decide (f t.1 = x)))).Pairwise (fun a b => a < b) := by
    refine List.Pairwise.filter _ ?_
    rw [List.pairwise_map]
    exact List.pairwise_lt_range.imp (fun h => by omega)
  have hm : ∀ x, x ∈ (((List.range 2000001).map (fun n : Nat => (n : Int) - 1000000)).filter (fun x => L.any (fun t => decide (f t.1 = x)))) ↔ ∃ t ∈ L, f t.1 = x := by
    intro x
    rw [List.mem_filter, List.any_eq_true]
    constructor
    · rintro ⟨_, t, ht, h⟩
      exact ⟨t, ht, of_decide_eq_true h⟩
    · rintro ⟨t, ht, h⟩
      refine ⟨?_, t, ht, decide_eq_true h⟩
      rw [List.mem_map]
      have := hf t ht
      exact ⟨(x + 1000000).toNat, by rw [List.mem_range]; omega, by omega⟩
  rw [all_eq f L hp hm]
  exact ⟨hp, hm⟩
theorem areas_bd (d : Desk) : ∀ t ∈ truthsL d, -1000000 ≤ (fun t : Tr => t.1) t.1 ∧ (fun t : Tr => t.1) t.1 ≤ 1000000 := fun t _ => by
  have := t.2
  unfold tsm at this
  dsimp only
  omega
theorem areas_mem {d : Desk} (h : spE d = 0) (x : Int) : x ∈ areasV d ↔ ∃ t ∈ truthsL d, t.1.1 = x := by
  unfold areasV
  rw [if_pos h]
  exact (all_spec _ _ (areas_bd d)).2 x
theorem areas_sorted (d : Desk) : (areasV d).Pairwise (fun a b => a < b) := by
  unfold areasV
  split
  · exact (all_spec _ _ (areas_bd d)).1
  · exact List.Pairwise.nil
theorem areas_pos {d : Desk} (h : spE d = 0) : 0 < (areasV d).length := by
  obtain ⟨t, ht⟩ := List.exists_mem_of_ne_nil _ (sp_ok h).2
  exact List.length_pos_of_mem ((areas_mem h t.1.1).2 ⟨t, ht, rfl⟩)
theorem areas_len (d : Desk) : (areasV d).length ≤ 2000001 := by
  by_cases h : spE d = 0
  · have hn : (areasV d).Nodup := (areas_sorted d).imp (fun h => by omega)
    have hsub : areasV d ⊆ (List.range 2000001).map (fun n : Nat => (n : Int) - 1000000) := fun x hx => by
      obtain ⟨t, ht, rfl⟩ := (areas_mem h x).1 hx
      have := areas_bd d t ht
      dsimp only at this
      rw [List.mem_map]
      exact ⟨(t.1.1 + 1000000).toNat, by rw [List.mem_range]; omega, by omega⟩
    have := hn.length_le_of_subset hsub
    rwa [List.length_map, List.length_range] at this
  · unfold areasV
    rw [if_neg h]
    simp
def boundV (d : Desk) : Int × Int := if spE d = 0 then ((areasV d)[0]?.getD 0, (areasV d)[(areasV d).length - 1]?.getD 0) else (0, 0)
end Wh
theorem ownsRow_low {w : World} {b b' : Nat} {e : TypeId} {size : Nat} {v : Value} {n : Nat} {xs : List Value} (h : w.ownsRow b e size v n xs) (hb : b' ≤ b) : w.ownsRow b' e size v n xs := by
  obtain ⟨h1, h2⟩ := h
  refine ⟨h1, ?_⟩
  rcases h2 with h2 | ⟨g, cap, cur, a1, a2, a3⟩
  · exact .inl h2
  · exact .inr ⟨g, cap, cur, a1, Nat.le_trans hb a2, a3⟩
set_option maxRecDepth 100000 in
set_option maxHeartbeats 4000000 in
theorem Areas_own (d : Wh.Desk) (h0 : Wh.spE d = 0) (A : Option Addr) (c : Nat) (w : World) (hl : d.ws.length ≤ 1000000000) (hg : Wks w w.heap.size A d.ws) :
    Calls Try.prog 20 #[.agg (whV d), .slice A d.ws.length c] w fun e w' => ∃ v : Value, e = .returned (.tuple #[v, .int .i64 0]) ∧ Hid (w'.ownsRow w.heap.size 3 1 v (Wh.areasV d).length ((Wh.areasV d).map (Value.int .i64))) ∧ Below w.heap.size w w' := by
  have HP : Hid (∀ W, Below w.heap.size w W → Calls Try.prog 55 #[.agg (whV d), .slice A d.ws.length c] W (SpPost (Wh.spV d A c) (Wh.spE d) W)) := fun W hW => lay_any d A c W hl ((hg.keep hW).wider hW.size)
  unfold Wh.areasV
  have HA : Hid (∀ W, Below w.heap.size w W → Calls Try.prog 58 #[.agg (dkV d A c), .func (.func 59) #[] #[]] W (SortPost (Wh.allL (fun t => t.1) (Wh.truthsL d)) W)) := fun W hW => all_any d (Wh.sp_ok h0).1 59 (fun t => t.1) (fun args W => enters_of Try.func59 (by kernel_rfl) rfl args W) (fun x => by have := x.2; unfold Wh.tsm at this; (try dsimp only); omega) theArea_any A c W ((hg.keep hW).wider hW.size)
  rw [if_pos h0]
  rw [Wh.spV_yes h0, h0] at HP
  unfold SortPost at HA
  generalize Wh.allL (fun t => t.1) (Wh.truthsL d) = L at *
  clear hg h0 hl
  obtain ⟨full, read, slip, skew, circ, glo, ghi, wrn, ws⟩ := d
  unfold dkV at *
  unfold whV at *
  dsimp only at *
  go_enter Try.func20, Try.ntmps20
  go_wp2_with fail
  have hB1 : Below w.heap.size w (w.alloc (.cells #[.int .i64 full, .int .i64 read, .int .i64 slip, .int .i64 skew, .int .i64 circ, .int .i64 glo, .int .i64 ghi, .int .i64 wrn] 25)) := by (repeat' (first | (with_reducible exact Below.refl _ _) | (with_reducible assumption) | (with_reducible refine Below.alloc ?_ ?_ _) | (with_reducible refine Below.drew ?_) | (with_reducible refine Below.setCell ?_ ?_ _) | go_size | (exact (by simp)) | omega))
  generalize World.alloc w _ = w1 at *
  refine (HP.out _ hB1).mono ?_
  rintro e w2 ⟨rfl, hb2⟩
  have hB2 := hB1.trans (hb2.mono hB1.size)
  clear hb2 hB1 HP
  go_wp2_with fail
  have hB3 : Below w.heap.size w (w2.alloc (.cells #[.int .i64 full, .int .i64 read, .int .i64 slip, .int .i64 skew, .int .i64 circ, .int .i64 glo, .int .i64 ghi, .int .i64 wrn, .slice A ws.length c] 77)) := hB2.alloc hB2.size _
  generalize World.alloc w2 _ = w3 at *
  refine (HA.out _ hB3).mono ?_
  rintro e w4 ⟨v, rfl, hrow, _, hb4⟩
  have hB4 := hB3.trans (hb4.mono hB3.size)
  go_wp2_with fail
  go_returns
  exact ⟨v, rfl, ownsRow_low (show w4.ownsRow _ 3 1 v L.length (L.map (Value.int .i64)) from hrow) hB3.size, hB4⟩

theorem cell_away2 {W : World} {b B i : Nat} {u v x : Value} (h : W.cell? ⟨b, i, none⟩ = some x) (hne : b ≠ B) : ((W.setCell ⟨B, 0, none⟩ u).setCell ⟨B, 1, none⟩ v).cell? ⟨b, i, none⟩ = some x := by
  have e : ((W.setCell ⟨B, 0, none⟩ u).setCell ⟨B, 1, none⟩ v).heap[b]? = W.heap[b]? := (Below.heap_setCell _ _ _ b hne).trans (Below.heap_setCell _ _ _ b hne)
  unfold World.cell? at h ⊢
  rw [show ((W.setCell ⟨B, 0, none⟩ u).setCell ⟨B, 1, none⟩ v).heap[(⟨b, i, none⟩ : Addr).block]? = W.heap[(⟨b, i, none⟩ : Addr).block]? from e]
  exact h
def BoundPost (v : Int × Int) (x : Int) (w : World) (e : Ending) (w' : World) : Prop := e = .returned (.tuple #[.agg #[.int .i64 v.1, .int .i64 v.2], .int .i64 x]) ∧ Below w.heap.size w w'
set_option maxRecDepth 100000 in
set_option maxHeartbeats 8000000 in
theorem Bound_any (d : Wh.Desk) (A : Option Addr) (c : Nat) (w : World) (hl : d.ws.length ≤ 1000000000) (hg : Wks w w.heap.size A d.ws) :
    Calls Try.prog 23 #[.agg (whV d), .slice A d.ws.length c] w (BoundPost (Wh.boundV d) (Wh.spE d) w) := by
  have HA : Hid (∀ W, Below w.heap.size w W → Calls Try.prog 20 #[.agg (whV d), .slice A d.ws.length c] W (IntsEPost (Wh.areasV d) (Wh.spE d) W)) := fun W hW => Areas_any d A c W hl ((hg.keep hW).wider hW.size)
  unfold Wh.boundV
  by_cases h0 : Wh.spE d = 0
  · have hpos := Wh.areas_pos h0
    clear HA
    have HA : Hid (∀ W, Below w.heap.size w W → Calls Try.prog 20 #[.agg (whV d), .slice A d.ws.length c] W fun e w' => ∃ v : Value, e = .returned (.tuple #[v, .int .i64 0]) ∧ Hid (w'.ownsRow W.heap.size 3 1 v (Wh.areasV d).length ((Wh.areasV d).map (Value.int .i64))) ∧ Below W.heap.size W w') := fun W hW => Areas_own d h0 A c W hl ((hg.keep hW).wider hW.size)
    rw [if_pos h0]
    rw [h0]
    have hlen : (Wh.areasV d).length ≤ 1000000000 := by
      have := Wh.areas_len d
      omega
    generalize Wh.areasV d = L at *
    clear hg h0 hl
    obtain ⟨full, read, slip, skew, circ, glo, ghi, wrn, ws⟩ := d
    unfold whV at *
    dsimp only at *
    go_enter Try.func23, Try.ntmps23
    go_wp2_with fail
    have bR1 := BoxS.new (w.alloc (.cells #[.int .i64 full, .int .i64 read, .int .i64 slip, .int .i64 skew, .int .i64 circ, .int .i64 glo, .int .i64 ghi, .int .i64 wrn] 25)) 23 #[.int .i64 0, .int .i64 0]
    have hB1 : Below w.heap.size w ((w.alloc (.cells #[.int .i64 full, .int .i64 read, .int .i64 slip, .int .i64 skew, .int .i64 circ, .int .i64 glo, .int .i64 ghi, .int .i64 wrn] 25)).alloc (.cells #[.int .i64 0, .int .i64 0] 23)) := by (repeat' (first | (with_reducible exact Below.refl _ _) | (with_reducible assumption) | (with_reducible refine Below.alloc ?_ ?_ _) | (with_reducible refine Below.drew ?_) | (with_reducible refine Below.setCell ?_ ?_ _) | go_size | (exact (by simp)) | omega))
    rw [World.size_alloc] at bR1
    have hz1 : ((w.alloc (.cells #[.int .i64 full, .int .i64 read, .int .i64 slip, .int .i64 skew, .int .i64 circ, .int .i64 glo, .int .i64 ghi, .int .i64 wrn] 25)).alloc (.cells #[.int .i64 0, .int .i64 0] 23)).heap.size = w.heap.size + 2 := by simp
    generalize World.alloc (World.alloc w _) _ = w1 at *
    refine (HA.out _ hB1).mono ?_
    rintro e w2 ⟨v, rfl, hi, hb2⟩
    have hB2 := hB1.trans (hb2.mono hB1.size)
    have bR2 := bR1.below hb2
    clear hb2 hB1 HA bR1
    obtain ⟨b, cap, hv, hbg, hbl⟩ := hi.out.form hpos
    subst hv
    have hcc := fun j hj => hi.out.cellAt j hj
    have c0 : w2.cell? ⟨b, 0, none⟩ = some (.int .i64 (L[0]?.getD 0)) := by rw [hcc 0 (by omega), List.getElem?_map, List.getElem?_eq_getElem hpos]; rfl
    have c1 : w2.cell? ⟨b, L.length - 1, none⟩ = some (.int .i64 (L[L.length - 1]?.getD 0)) := by rw [hcc (L.length - 1) (by omega), List.getElem?_map, List.getElem?_eq_getElem (by omega)]; rfl
    have hne : b ≠ w.heap.size + 1 := by have := bR2.lt; omega
    have hw1 : IntKind.i64.wrap ((L.length : Int) - 1) = (L.length : Int) - 1 := IntWalk.i64_in _ (by omega)
    have ht1 : ((L.length : Int) - 1).toNat = L.length - 1 := by omega
    have hn1 : 0 ≤ (L.length : Int) - 1 := by omega
    have hn2 : (L.length : Int) - 1 < L.length := by omega
    have hn3 : (0 : Int) < L.length := by omega
    have hn4 : (1 : Int) ≤ L.length := by omega
    obtain ⟨X0, hX0⟩ : ∃ x, x = L[0]?.getD 0 := ⟨_, rfl⟩
    obtain ⟨X1, hX1⟩ : ∃ x, x = L[L.length - 1]?.getD 0 := ⟨_, rfl⟩
    rw [← hX0] at c0
    rw [← hX1] at c1
    have HX := Lib.hid (And.intro hX0 hX1)
    clear hX0 hX1
    clear hcc hi
    have f0 := bR2.frozen 0
    have f1 := bR2.frozen 1
    have hbr := bR2.lt
    go_wp2_with fail
    have bR3 := (bR2.put9 0 (.int .i64 X0)).put9 1 (.int .i64 X1)
    have hB3 : Below w.heap.size w ((w2.setCell ⟨w.heap.size + 1, 0, none⟩ (.int .i64 X0)).setCell ⟨w.heap.size + 1, 1, none⟩ (.int .i64 X1)) := by (repeat' (first | (with_reducible exact Below.refl _ _) | (with_reducible assumption) | (with_reducible refine Below.alloc ?_ ?_ _) | (with_reducible refine Below.drew ?_) | (with_reducible refine Below.setCell ?_ ?_ _) | go_size | (exact (by simp)) | omega))
    obtain ⟨r0, r1⟩ := boxS2' bR2
    have d0 : ((w2.setCell ⟨w.heap.size + 1, 0, none⟩ (.int .i64 X0)).setCell ⟨w.heap.size + 1, 1, none⟩ (.int .i64 X1)).cell? ⟨b, 0, none⟩ = some (.int .i64 X0) := cell_away2 c0 hne
    have d1 : ((w2.setCell ⟨w.heap.size + 1, 0, none⟩ (.int .i64 X0)).setCell ⟨w.heap.size + 1, 1, none⟩ (.int .i64 X1)).cell? ⟨b, L.length - 1, none⟩ = some (.int .i64 X1) := cell_away2 c1 hne
    refine (wpIn_wide (n := 4)).1 ?_
    have hmo : Try.prog.follows .mixedOrders = true := by kernel_rfl
    refine wpIn_region_held (fun W' => W'.cell? ⟨b, 0, none⟩ = some (.int .i64 X0) ∧ W'.cell? ⟨b, L.length - 1, none⟩ = some (.int .i64 X1)) 11 hmo ?_
    refine wpHeldIn_take (i := 0) (v := ?_) (plain_of (by kernel_rfl)) rfl (by kernel_rfl) (fun _ _ _ h => h) (yieldsSoIn_of (by kernel_rfl) ?_ (fun _ => rfl)) (⟨c0, c1⟩) ?_; rotate_left; focus (rintro wq ⟨g0, g1⟩; go_simp; try (with_reducible rfl))
    refine wpHeldIn_take (i := 1) (v := ?_) (plain_of (by kernel_rfl)) rfl (by kernel_rfl) (fun _ _ _ h => h) (yieldsSoIn_of (by kernel_rfl) ?_ (fun _ => rfl)) (⟨c0, c1⟩) ?_; rotate_left; focus (rintro wq ⟨g0, g1⟩; go_simp; try (with_reducible rfl))
    refine wpHeldIn_take (i := 2) (v := ?_) (plain_of (by kernel_rfl)) rfl (by kernel_rfl) (fun _ _ _ h => h) (yieldsSoIn_of (by kernel_rfl) ?_ (fun _ => rfl)) (⟨c0, c1⟩) ?_; rotate_left; focus (rintro wq ⟨g0, g1⟩; go_simp; try (with_reducible rfl))
    refine wpHeldIn_take (i := 3) (v := ?_) (plain_of (by kernel_rfl)) rfl (by kernel_rfl) (fun _ _ _ h => h) (yieldsSoIn_of (by kernel_rfl) ?_ (fun _ => rfl)) (⟨c0, c1⟩) ?_; rotate_left; focus (rintro wq ⟨g0, g1⟩; go_simp; try (with_reducible rfl))
    refine wpHeldIn_take (i := 4) (v := ?_) (plain_of (by kernel_rfl)) rfl (by kernel_rfl) (fun _ _ _ h => h) (yieldsSoIn_of (by kernel_rfl) ?_ (fun _ => rfl)) (⟨c0, c1⟩) ?_; rotate_left; focus (rintro wq ⟨g0, g1⟩; go_simp; try (with_reducible rfl))
    refine wpHeldIn_take (i := 5) (v := ?_) (plain_of (by kernel_rfl)) rfl (by kernel_rfl) (fun _ _ _ h => h) (yieldsSoIn_of (by kernel_rfl) ?_ (fun _ => rfl)) (⟨c0, c1⟩) ?_; rotate_left; focus (rintro wq ⟨g0, g1⟩; go_simp; try (with_reducible rfl))
    refine wpHeldIn_take (i := 6) (v := ?_) (plain_of (by kernel_rfl)) rfl (by kernel_rfl) (fun _ _ _ h => h) (yieldsSoIn_of (by kernel_rfl) ?_ (fun _ => rfl)) (⟨c0, c1⟩) ?_; rotate_left; focus (rintro wq ⟨g0, g1⟩; go_simp; try (with_reducible rfl))
    refine wpHeldIn_take (i := 7) (v := ?_) (plain_of (by kernel_rfl)) rfl (by kernel_rfl) (fun _ _ _ h => h) (yieldsSoIn_of (by kernel_rfl) ?_ (fun _ => rfl)) (⟨c0, c1⟩) ?_; rotate_left; focus (rintro wq ⟨g0, g1⟩; go_simp; try (with_reducible rfl))
    refine wpHeldIn_take (i := 8) (v := ?_) (plain_of (by kernel_rfl)) rfl (by kernel_rfl) (fun _ _ _ h => h) (yieldsSoIn_of (by kernel_rfl) ?_ (fun _ => rfl)) (⟨c0, c1⟩) ?_; rotate_left; focus (rintro wq ⟨g0, g1⟩; go_simp; try (with_reducible rfl))
    refine wpHeldIn_take (i := 9) (v := ?_) (plain_of (by kernel_rfl)) rfl (by kernel_rfl) (fun _ _ _ h => h) (yieldsSoIn_of (by kernel_rfl) ?_ (fun _ => rfl)) (⟨c0, c1⟩) ?_; rotate_left; focus (rintro wq ⟨g0, g1⟩; go_simp; try (with_reducible rfl))
    refine wpHeldIn_one (i := 10) (by kernel_rfl) (by kernel_rfl) rfl (by kernel_rfl) (fun K' hK' => ?_); go_simp; refine hK' _ _ ⟨d0, d1⟩ ?_
    refine wpHeldIn_last (by kernel_rfl) rfl (by kernel_rfl) (fun K2 hK2 => ?_)
    go_simp
    refine hK2 _ _ ?_
    refine wpHeldIn_done (by kernel_rfl) ?_ _
    go_simp
    clear d0 d1
    clear r0 r1 c0 c1
    obtain ⟨r0, r1⟩ := boxS2' bR3
    generalize World.setCell (World.setCell w2 _ _) _ _ = w3 at *
    go_wp2_with fail
    exact bodyPost_ret (v := .tuple #[.agg #[.int .i64 X0, .int .i64 X1], .int .i64 0]) (by simp [results, Try.results23, go_sem, r0, r1]) rfl ⟨by rw [HX.out.1, HX.out.2], by (repeat' (first | (with_reducible exact Below.refl _ _) | (with_reducible assumption) | (with_reducible refine Below.alloc ?_ ?_ _) | (with_reducible refine Below.drew ?_) | (with_reducible refine Below.setCell ?_ ?_ _) | go_size | (exact (by simp)) | omega))⟩
  · rw [if_neg h0]
    have hb : (Wh.spE d == 0) = false := by simpa using h0
    generalize Wh.spE d = E at *
    generalize Wh.areasV d = L at *
    clear hg h0 hl
    obtain ⟨full, read, slip, skew, circ, glo, ghi, wrn, ws⟩ := d
    unfold whV at *
    dsimp only at *
    go_enter Try.func23, Try.ntmps23
    go_wp2_with fail
    have bR1 := BoxS.new (w.alloc (.cells #[.int .i64 full, .int .i64 read, .int .i64 slip, .int .i64 skew, .int .i64 circ, .int .i64 glo, .int .i64 ghi, .int .i64 wrn] 25)) 23 #[.int .i64 0, .int .i64 0]
    have hB1 : Below w.heap.size w ((w.alloc (.cells #[.int .i64 full, .int .i64 read, .int .i64 slip, .int .i64 skew, .int .i64 circ, .int .i64 glo, .int .i64 ghi, .int .i64 wrn] 25)).alloc (.cells #[.int .i64 0, .int .i64 0] 23)) := by (repeat' (first | (with_reducible exact Below.refl _ _) | (with_reducible assumption) | (with_reducible refine Below.alloc ?_ ?_ _) | (with_reducible refine Below.drew ?_) | (with_reducible refine Below.setCell ?_ ?_ _) | go_size | (exact (by simp)) | omega))
    rw [World.size_alloc] at bR1
    generalize World.alloc (World.alloc w _) _ = w1 at *
    refine (HA.out _ hB1).mono ?_
    rintro e w2 ⟨v, rfl, hi, hb2⟩
    have hB2 := hB1.trans (hb2.mono hB1.size)
    have bR2 := bR1.below hb2
    clear hb2 hB1 HA bR1
    have f0 := bR2.frozen 0
    have f1 := bR2.frozen 1
    have hbr := bR2.lt
    obtain ⟨r0, r1⟩ := boxS2' bR2
    go_wp2_with fail
    clear r0 r1
    have bR3 := (bR2.put9 0 (.int .i64 0)).put9 1 (.int .i64 0)
    obtain ⟨r0, r1⟩ := boxS2' bR3
    have hB3 : Below w.heap.size w ((w2.setCell ⟨w.heap.size + 1, 0, none⟩ (.int .i64 0)).setCell ⟨w.heap.size + 1, 1, none⟩ (.int .i64 0)) := by (repeat' (first | (with_reducible exact Below.refl _ _) | (with_reducible assumption) | (with_reducible refine Below.alloc ?_ ?_ _) | (with_reducible refine Below.drew ?_) | (with_reducible refine Below.setCell ?_ ?_ _) | go_size | (exact (by simp)) | omega))
    exact bodyPost_ret (v := .tuple #[.agg #[.int .i64 0, .int .i64 0], .int .i64 E]) (by simp [results, Try.results23, go_sem, r0, r1]) rfl ⟨rfl, hB3⟩
end Go.Proofs.Ytecmlakcpgkfbaa
