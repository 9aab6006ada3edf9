/- Trials: what is in a list of all; whether a gain shows an area. -/
import Derived.Test.YtkmacpkjobdffaaTiU
namespace Go.Proofs.Ytkmacpkjobdffaa
open Go.RowKit Go.Shelf Go.Maps Go.Sort
namespace Ti
/-- A map's keys are numbers. -/
def IntK (D : DataW Empty) : Prop := ∃ es, D = .map es ∧ ∀ p ∈ es, ∃ x, p.1 = .int .i64 x
theorem intK_put {D : DataW Empty} (h : IntK D) (x : Int) (d : DataW Empty) : IntK (D.put (.int .i64 x) d) := by
  obtain ⟨es, rfl, hp⟩ := h
  refine ⟨_, rfl, fun p hp' => ?_⟩
  have := (WideShapes.insert_perm (Lit.int .i64 x, d) _).mem_iff.1 hp'
  rcases List.mem_cons.1 this with rfl | hm
  · exact ⟨x, rfl⟩
  · exact hp p (List.mem_filter.1 hm).1
theorem intK_map (f0 : Gk → Int) (L : List GkS) : IntK (mapT (H := Empty) f0 L) := by
  have key : ∀ (L : List GkS) (D : DataW Empty), IntK D → IntK (L.foldl (fun D x => D.put (.int .i64 (f0 x.1)) (.lit (.bool true))) D) := by
    intro L
    induction L with
    | nil => exact fun D h => h
    | cons x l ih => exact fun D h => ih _ (intK_put h _ _)
  exact key L _ ⟨[], rfl, fun p hp => by cases hp⟩
theorem mapT_set (f0 : Gk → Int) (L : List GkS) : mapT (H := Empty) f0 L = setOf (.lit (.bool true)) (L.map fun x => .int .i64 (f0 x.1)) := by
  unfold mapT setOf
  rw [List.foldl_map]
theorem lits (f0 : Gk → Int) (L : List GkS) : ∀ x ∈ (L.map fun x => Lit.int .i64 (f0 x.1)), WideAt.IsKeyLit x := by
  intro x hx
  rw [List.mem_map] at hx
  obtain ⟨f, _, rfl⟩ := hx
  trivial
/-- The sorted keys are the strictly ascending list of the same members. -/
theorem all_eq (f0 : Gk → Int) (L : List GkS) {R : List Int} (hR : R.Pairwise (fun a b => a < b)) (hm : ∀ x, x ∈ R ↔ ∃ f ∈ L, f0 f.1 = x) : allT f0 L = R := by
  have ht : Tidy (mapT (H := Empty) f0 L) := by rw [mapT_set]; exact tidy_setOf _ _ (lits f0 L)
  obtain ⟨es, he, hk⟩ := intK_map f0 L
  obtain ⟨es2, he2, hp⟩ := ht
  have hes : es2 = es := by rw [he] at he2; injection he2 with h; exact h.symm
  subst hes
  have hnd : R.Nodup := hR.imp (fun h => by omega)
  have hhas : ∀ x, x ∈ R ↔ has (.map es2) (.int .i64 x) = true := by
    intro x
    rw [hm x, ← he, mapT_set]
    unfold setOf
    rw [has_fold _ _ _ _ ⟨[], rfl⟩ (lits f0 L)]
    have h0 : has (DataW.map ([] : List (Lit × DataW Empty))) (.int .i64 x) = false := rfl
    rw [h0, Bool.false_or, List.any_map, List.any_eq_true]
    constructor
    · rintro ⟨f, hf, rfl⟩
      exact ⟨f, hf, by simp [Lit.sameKey]⟩
    · rintro ⟨f, hf, h⟩
      exact ⟨f, hf, by simpa [Lit.sameKey] using h⟩
  have hperm := perm_intKeys hp hk hnd hhas
  have h1 := mergeSort_of_perm_i hperm
  rw [List.mergeSort_of_pairwise (hR.imp (fun h => by simp only [leI, decide_eq_true_eq]; omega))] at h1
  unfold allT
  rw [he]
  exact h1.symm

theorem asc101 : ((List.range 101).map fun i : Nat => (i : Int) - 50).Pairwise (fun a b => a < b) := by
  rw [List.pairwise_map]
  exact List.pairwise_lt_range.imp (fun h => by omega)
/-- All gains, ascending. -/
def gainF (L : List GkS) : List Int := ((List.range 101).map fun i : Nat => (i : Int) - 50).filter (fun s => decide (∃ f ∈ L, f.1.1 = s))
def skewF (L : List GkS) : List Int := ((List.range 41).map fun i : Nat => (i : Int) - 20).filter (fun s => decide (∃ f ∈ L, f.1.2 = s))
theorem gains_eq (L : List GkS) : allT (fun x => x.1) L = gainF L := by
  refine all_eq _ _ (asc101.filter _) fun x => ?_
  unfold gainF
  rw [List.mem_filter, decide_eq_true_eq]
  constructor
  · exact fun h => h.2
  · rintro ⟨f, hf, rfl⟩
    refine ⟨?_, f, hf, rfl⟩
    have := f.2
    unfold gsm at this
    rw [List.mem_map]
    exact ⟨(f.1.1 + 50).toNat, List.mem_range.2 (by omega), by omega⟩
theorem tskews_eq (L : List GkS) : allT (fun x => x.2) L = skewF L := by
  refine all_eq _ _ (asc41.filter _) fun x => ?_
  unfold skewF
  rw [List.mem_filter, decide_eq_true_eq]
  constructor
  · exact fun h => h.2
  · rintro ⟨f, hf, rfl⟩
    refine ⟨?_, f, hf, rfl⟩
    have := f.2
    unfold gsm at this
    rw [List.mem_map]
    exact ⟨(f.1.2 + 20).toNat, List.mem_range.2 (by omega), by omega⟩
theorem gains_bd {L : List GkS} {g : Int} (h : g ∈ allT (fun x => x.1) L) : -50 ≤ g ∧ g ≤ 50 := by
  rw [gains_eq] at h
  unfold gainF at h
  rw [List.mem_filter, List.mem_map] at h
  obtain ⟨⟨i, hi, rfl⟩, -⟩ := h
  rw [List.mem_range] at hi
  omega
theorem gains_len (L : List GkS) : (allT (fun x => x.1) L).length ≤ 101 := by
  rw [gains_eq]
  unfold gainF
  exact Nat.le_trans (List.length_filter_le _ _) (by simp)
end Ti
set_option maxHeartbeats 1000000 in
theorem Real1_any (x : Ti.GkS) (w : World) : Calls Try.prog 58 #[.agg #[.int .i64 x.1.1, .int .i64 x.1.2]] w fun e w' => e = .returned (.int .i64 x.1.1) ∧ Below w.heap.size w w' := by
  generalize x.1.1 = a at *
  generalize x.1.2 = b at *
  go_enter Try.func58, Try.ntmps58
  go_wp2_with fail
  go_returns
  exact ⟨rfl, by (repeat' (first | (with_reducible exact Below.refl _ _) | (with_reducible assumption) | (with_reducible refine Below.alloc ?_ ?_ _) | (with_reducible refine Below.drew ?_) | (with_reducible refine Below.setCell ?_ ?_ _) | go_size | (exact (by simp)) | omega))⟩
set_option maxRecDepth 100000 in
set_option maxHeartbeats 4000000 in
theorem Real2_any (z a s : Int) (hz : -50 ≤ z ∧ z ≤ 50) (ha : 0 ≤ a ∧ a ≤ 9000) (BA BS : Nat) (w : World) (hA : w.cell? ⟨BA, 0, none⟩ = some (.int .i64 a)) (hS : w.cell? ⟨BS, 0, none⟩ = some (.int .i64 s)) (lA : BA < w.heap.size) (lS : BS < w.heap.size) :
    Calls Try.prog 60 #[.int .i64 z, .pointer (some ⟨BA, 0, none⟩), .pointer (some ⟨BS, 0, none⟩)] w fun e w' => e = .returned (.bool (Ti.seenV z a == s)) ∧ Below w.heap.size w w' := by
  have HSE : Hid (∀ W, Calls Try.prog 51 #[.agg #[.int .i64 z, .int .i64 0], .int .i64 a] W fun e w' => e = .returned (.int .i64 (Ti.seenV z a)) ∧ Below W.heap.size W w') := fun W => seen_any (z, 0) a hz ha W
  generalize Ti.seenV z a = v at *
  have hmo : Try.prog.follows .mixedOrders = true := by kernel_rfl
  have KC : Hid (∀ W', Below w.heap.size w W' → W'.cell? ⟨BA, 0, none⟩ = some (.int .i64 a) ∧ W'.cell? ⟨BS, 0, none⟩ = some (.int .i64 s)) := fun W' h => ⟨(h.cell (p := ⟨BA, 0, none⟩) lA).trans hA, (h.cell (p := ⟨BS, 0, none⟩) lS).trans hS⟩
  have q0 : Below w.heap.size w w.drew := (Below.refl _ _).drew
  clear hA hS
  go_enter Try.func60, Try.ntmps60
  try go_wp2_with fail
  refine (wpIn_wide (n := 4)).1 ?_
  refine wpIn_region_held (fun W' => Below w.heap.size w W') 30 hmo ?_
  refine wpHeldIn_take (i := 0) (v := ?_) (plain_of (by kernel_rfl)) rfl (by kernel_rfl) (fun _ _ _ h => h) (yieldsSoIn_of (by kernel_rfl) ?_ (fun _ => rfl)) q0 ?_; rotate_left; focus (intro wq hw; clear hw; go_simp; try (with_reducible rfl))
  refine wpHeldIn_take (i := 1) (v := ?_) (plain_of (by kernel_rfl)) rfl (by kernel_rfl) (fun _ _ _ h => h) (yieldsSoIn_of (by kernel_rfl) ?_ (fun _ => rfl)) q0 ?_; rotate_left; focus (intro wq hw; clear hw; go_simp; try (with_reducible rfl))
  refine wpHeldIn_take (i := 2) (v := ?_) (plain_of (by kernel_rfl)) rfl (by kernel_rfl) (fun _ _ _ h => h) (yieldsSoIn_of (by kernel_rfl) ?_ (fun _ => rfl)) q0 ?_; rotate_left; focus (intro wq hw; have kq := KC.out wq hw; clear hw; go_simp; try (with_reducible rfl))
  refine wpHeldIn_take (i := 4) (v := ?_) (plain_of (by kernel_rfl)) rfl (by kernel_rfl) (fun _ _ _ h => h) (yieldsSoIn_of (by kernel_rfl) ?_ (fun _ => rfl)) q0 ?_; rotate_left; focus (intro wq hw; have kq := KC.out wq hw; clear hw; go_simp; try (with_reducible rfl))
  refine wpHeldIn_one (i := 3) (by kernel_rfl) (by kernel_rfl) rfl (by kernel_rfl) (fun K2 hK2 => ?_)
  go_simp
  refine ⟨trivial, (callsIn_wide.2 (HSE.out _)).mono ?_⟩
  rintro e w2 ⟨rfl, hb2⟩
  have q2 := q0.trans (hb2.mono q0.size)
  refine hK2 _ _ q2 ?_
  refine wpHeldIn_take (i := 5) (v := ?_) (plain_of (by kernel_rfl)) rfl (by kernel_rfl) (fun _ _ _ h => h) (yieldsSoIn_of (by kernel_rfl) ?_ (fun _ => rfl)) q2 ?_; rotate_left; focus (intro wq hw; clear hw; go_simp; try (with_reducible rfl))
  refine wpHeldIn_take (i := 6) (v := ?_) (plain_of (by kernel_rfl)) rfl (by kernel_rfl) (fun _ _ _ h => h) (yieldsSoIn_of (by kernel_rfl) ?_ (fun _ => rfl)) q2 ?_; rotate_left; focus (intro wq hw; clear hw; go_simp; try (with_reducible rfl))
  refine wpHeldIn_done (by kernel_rfl) ?_ _
  go_simp
  go_wp2_with fail
  go_returns
  exact ⟨rfl, q2⟩
end Go.Proofs.Ytkmacpkjobdffaa
