/- Wheels: the reference's Worst is the program's. -/
import Derived.Test.YtecmlakcpgkfbaaWor3
import Derived.Test.YtecmlakcpgkfbaaMoreW
namespace Go.Proofs.Ytecmlakcpgkfbaa
open Go.RowKit
namespace Wh
theorem res_le {a n L : Int} (hn : 0 < n) : a % n ≤ L ↔ ∃ m, 0 ≤ m ∧ m ≤ L ∧ (a - m) % n = 0 := by
  constructor
  · intro h
    refine ⟨a % n, Int.emod_nonneg _ (by omega), h, ?_⟩
    have q := Int.emod_add_mul_ediv a n
    have e : a - a % n = n * (a / n) := by omega
    rw [e, Int.mul_emod_right]
  · rintro ⟨m, h1, h2, h3⟩
    have q := Int.emod_add_mul_ediv (a - m) n
    rw [h3] at q
    have e : a = m + n * ((a - m) / n) := by omega
    rw [e, Int.add_mul_emod_self_left]
    have := emod_le_self (a := m) (n := n) h1 hn
    omega
def shJ (d : Desk) (k1 : Int) (j : Nat) : Int := if k1 = 1 then (looseV d + (j : Int) - 2 * d.read) % d.full else ((j : Int) + 2 * d.read) % d.full
theorem right_sh {d : Desk} (hd : Ok d) {k1 k2 : Int} (hk1 : k1 = 1 ∨ k1 = -1) (t : Tr) (j : Nat) : rightB d (moreW k1 k2 j) t = true ↔ cov d k1 k2 t (shJ d k1 j) := by
  have hf := hd.f1
  have hr := hd.r1
  have hs := hd.s1
  unfold rightB cov shJ
  rw [modV_eq (by omega), decide_eq_true_eq, res_le (by omega)]
  unfold missV moreW
  dsimp only
  rcases hk1 with h | h <;> subst h
  · rw [if_pos rfl]
    constructor
    · rintro ⟨m, h1, h2, h3⟩
      refine ⟨looseV d - m, by omega, by omega, ?_⟩
      rw [Int.emod_eq_emod_iff_emod_sub_eq_zero]
      have e : 1 * t.1 + k2 * t.2 + (looseV d - m) - (looseV d + (j : Int) - 2 * d.read) = 1 * (1 * (t.1 - 0 * d.circ) + k2 * t.2 - ((j : Int) - 0)) + 2 * d.read - m := by omega
      rw [e]; exact h3
    · rintro ⟨m, h1, h2, h3⟩
      refine ⟨looseV d - m, by omega, by omega, ?_⟩
      rw [Int.emod_eq_emod_iff_emod_sub_eq_zero] at h3
      have e : 1 * (1 * (t.1 - 0 * d.circ) + k2 * t.2 - ((j : Int) - 0)) + 2 * d.read - (looseV d - m) = 1 * t.1 + k2 * t.2 + m - (looseV d + (j : Int) - 2 * d.read) := by omega
      rw [e]; exact h3
  · rw [if_neg (by omega)]
    have neg : ∀ x : Int, x % d.full = 0 ↔ (-x) % d.full = 0 := fun x => by rw [← Int.dvd_iff_emod_eq_zero, ← Int.dvd_iff_emod_eq_zero, Int.dvd_neg]
    constructor
    · rintro ⟨m, h1, h2, h3⟩
      refine ⟨m, h1, h2, ?_⟩
      rw [Int.emod_eq_emod_iff_emod_sub_eq_zero, neg]
      have e : -(-1 * t.1 + k2 * t.2 + m - ((j : Int) + 2 * d.read)) = -1 * (-1 * (t.1 - 0 * d.circ) + k2 * t.2 - ((j : Int) - 0)) + 2 * d.read - m := by omega
      rw [e]; exact h3
    · rintro ⟨m, h1, h2, h3⟩
      refine ⟨m, h1, h2, ?_⟩
      rw [Int.emod_eq_emod_iff_emod_sub_eq_zero, neg] at h3
      have e : -1 * (-1 * (t.1 - 0 * d.circ) + k2 * t.2 - ((j : Int) - 0)) + 2 * d.read - m = -(-1 * t.1 + k2 * t.2 + m - ((j : Int) + 2 * d.read)) := by omega
      rw [e]; exact h3
theorem sh_bd {d : Desk} (hd : Ok d) (k1 : Int) (j : Nat) : 0 ≤ shJ d k1 j ∧ shJ d k1 j < d.full := by
  have hf := hd.f1
  unfold shJ
  split <;> exact ⟨Int.emod_nonneg _ (by omega), Int.emod_lt_of_pos _ (by omega)⟩
theorem sh_all {d : Desk} (hd : Ok d) (k1 : Int) {J : Int} (h0 : 0 ≤ J) (h1 : J < d.full) : ∃ j : Nat, j < d.full.toNat ∧ shJ d k1 j = J := by
  have hf := hd.f1
  have key : ∀ s : Int, ∃ j : Nat, j < d.full.toNat ∧ ((j : Int) + s) % d.full = J := fun s => by
    have b1 := Int.emod_nonneg (J - s) (show d.full ≠ 0 by omega)
    have b2 := Int.emod_lt_of_pos (J - s) (show 0 < d.full by omega)
    refine ⟨((J - s) % d.full).toNat, by omega, ?_⟩
    have e : ((((J - s) % d.full).toNat : Nat) : Int) = (J - s) % d.full := by omega
    rw [e, Int.emod_add_emod]
    have e2 : J - s + s = J := by omega
    rw [e2]
    exact Int.emod_eq_of_lt h0 h1
  unfold shJ
  split
  · obtain ⟨j, hj, e⟩ := key (looseV d - 2 * d.read)
    refine ⟨j, hj, ?_⟩
    have e2 : looseV d + (j : Int) - 2 * d.read = (j : Int) + (looseV d - 2 * d.read) := by omega
    rw [e2]; exact e
  · exact key (2 * d.read)
theorem worst_ge2 {d : Desk} (hd : Ok d) (k1 k2 : Int) {j : Int} (j0 : 0 ≤ j) (j1 : j < d.full) {B : List Int} (hn : B.Nodup) (h : ∀ x ∈ B, ∃ t ∈ truthsL d, t.1.1 = x ∧ cov d k1 k2 t.1 j) : (B.length : Int) ≤ worstV d k1 k2 := by
  obtain ⟨i, rfl⟩ : ∃ i : Nat, j = i := ⟨j.toNat, by omega⟩
  obtain ⟨B', ⟨_, b2⟩, b3, _, _⟩ := wInv_all hd k1 k2 i (by omega)
  have hsub : B ⊆ B' := fun x hx => (b2 x).2 (h x hx)
  have h1 := hn.length_le_of_subset hsub
  have h2 := maxTo_ge (worstS d k1 k2 (truthsL d)).1 d.full.toNat i (by omega)
  unfold worstV
  omega
theorem left_mem {d : Desk} (k1 k2 : Int) (j : Nat) (x : Tr) : x ∈ leftN d k1 k2 (vals (truthsL d)) j ↔ (∃ t ∈ truthsL d, t.1 = x) ∧ rightB d (moreW k1 k2 j) x = true := by
  unfold leftN
  rw [lfTo_mem]
  constructor
  · rintro ⟨i, hi, h1, h2⟩
    rw [h2] at h1
    rw [vals_len] at hi
    rw [vals_at hi] at h2
    exact ⟨⟨_, List.getElem_mem hi, h2⟩, h1⟩
  · rintro ⟨⟨t, ht, e⟩, h⟩
    obtain ⟨i, hi, e2⟩ := List.getElem_of_mem ht
    refine ⟨i, by rw [vals_len]; exact hi, ?_, ?_⟩
    · rw [vals_at hi, e2, e]; exact h
    · rw [vals_at hi, e2, e]
theorem mostTo_ge (d : Desk) (k1 k2 : Int) (P : List Tr) : ∀ n j : Nat, j < n → ((arL (leftN d k1 k2 P j)).length : Int) ≤ mostTo d k1 k2 P n
  | 0, j, h => by omega
  | n + 1, j, h => by
    show _ ≤ max (mostTo d k1 k2 P n) ((arL (leftN d k1 k2 P n)).length : Int)
    by_cases e : j = n
    · subst e; omega
    · have := mostTo_ge d k1 k2 P n j (by omega); omega
theorem worst3_eq {d : Desk} (hd : Ok d) {k1 k2 : Int} (hk1 : k1 = 1 ∨ k1 = -1) (h0 : spE d = 0) : worst3V d k1 k2 (vals (truthsL d)) = worstV d k1 k2 := by
  have hup : ∀ n, mostTo d k1 k2 (vals (truthsL d)) n ≤ worstV d k1 k2 := by
    intro n
    induction n with
    | zero =>
      have := worst_pos hd h0 k1 k2
      show (0 : Int) ≤ _
      omega
    | succ n ih =>
      show max (mostTo d k1 k2 (vals (truthsL d)) n) ((arL (leftN d k1 k2 (vals (truthsL d)) n)).length : Int) ≤ _
      have := worst_ge2 hd k1 k2 (sh_bd hd k1 n).1 (sh_bd hd k1 n).2 (arL_nodup (leftN d k1 k2 (vals (truthsL d)) n)) (fun x hx => by
        obtain ⟨t, ht, e⟩ := (arL_mem _ x).1 hx
        obtain ⟨⟨u, hu, e2⟩, hr⟩ := (left_mem k1 k2 n t).1 ht
        exact ⟨u, hu, by rw [e2]; exact e, by rw [e2]; exact (right_sh hd hk1 t n).1 hr⟩)
      omega
  obtain ⟨J, B, hJ, ⟨b1, b2⟩, e⟩ := worst_le hd k1 k2
  obtain ⟨j, hj, ej⟩ := sh_all hd k1 hJ.1 hJ.2
  have hn : B.Nodup := b1.imp (fun h => by omega)
  have h1 := hn.length_le_of_subset (l₂ := arL (leftN d k1 k2 (vals (truthsL d)) j)) (fun x hx => by
    obtain ⟨t, ht, e1, hc⟩ := b2 x hx
    rw [← ej, ← right_sh hd hk1] at hc
    exact (arL_mem _ x).2 ⟨t.1, (left_mem k1 k2 j t.1).2 ⟨⟨t, ht, rfl⟩, hc⟩, e1⟩)
  have h2 := mostTo_ge d k1 k2 (vals (truthsL d)) d.full.toNat j hj
  have h3 := hup d.full.toNat
  unfold worst3V
  omega
theorem trAt_sm {d : Desk} {i : Nat} (hi : i < (vals (truthsL d)).length) : tsm (trAt (vals (truthsL d)) i) := by
  rw [vals_len] at hi
  rw [vals_at hi]
  exact ((truthsL d)[i]).2
theorem knE_worst (d : Desk) (s t : Int) : knE d (signB s && signB t) = worstE d s t := by
  unfold knE worstE spE
  cases okB d <;> cases signB s <;> cases signB t <;> simp
end Wh
set_option maxRecDepth 100000 in
set_option maxHeartbeats 8000000 in
theorem Worst3_core (full read slip skew circ glo ghi wrn : Int) (ws : List Wh.Wk) (A : Option Addr) (c : Nat) (s t : Int) (w : World) (b1 b2 : Bool) (E V : Int) (L : List Wh.Tr)
    (HI1 : Hid (∀ W, Calls Try.prog 65 #[.int .i64 s] W fun e w' => e = .returned (.bool b1) ∧ w' = W)) (HI2 : Hid (∀ W, Calls Try.prog 65 #[.int .i64 t] W fun e w' => e = .returned (.bool b2) ∧ w' = W))
    (HKN : Hid (∀ W, Below w.heap.size w W → Calls Try.prog 57 #[.agg #[.int .i64 full, .int .i64 read, .int .i64 slip, .int .i64 skew, .int .i64 circ, .int .i64 glo, .int .i64 ghi, .int .i64 wrn], .slice A ws.length c, .bool (b1 && b2)] W (PrsEPost L E W)))
    (HWO : Hid (E = 0 → ∀ A' c' W, Prs W W.heap.size A' L → Calls Try.prog 66 #[.agg #[.int .i64 full, .int .i64 read, .int .i64 slip, .int .i64 skew, .int .i64 circ, .int .i64 glo, .int .i64 ghi, .int .i64 wrn], .slice A' L.length c', .int .i64 s, .int .i64 t] W fun e w' => e = .returned (.int .i64 V) ∧ Below W.heap.size W w')) (HV : Hid (E ≠ 0 → V = 0)) :
    Calls Try.prog 31 #[.agg #[.int .i64 full, .int .i64 read, .int .i64 slip, .int .i64 skew, .int .i64 circ, .int .i64 glo, .int .i64 ghi, .int .i64 wrn], .slice A ws.length c, .int .i64 s, .int .i64 t] w (WorstPost V E w) := by
  unfold PrsEPost at HKN
  by_cases hE : E = 0
  · subst hE
    have HWO2 := Lib.hid (HWO.out rfl)
    clear HWO HV
    go_enter Try.func31, Try.ntmps31
    go_wp2_with fail
    have bS1 := BoxS.new w 25 #[.int .i64 full, .int .i64 read, .int .i64 slip, .int .i64 skew, .int .i64 circ, .int .i64 glo, .int .i64 ghi, .int .i64 wrn]
    have hB1 : Below w.heap.size w (w.alloc (.cells #[.int .i64 full, .int .i64 read, .int .i64 slip, .int .i64 skew, .int .i64 circ, .int .i64 glo, .int .i64 ghi, .int .i64 wrn] 25)) := by (repeat' (first | (with_reducible exact Below.refl _ _) | (with_reducible assumption) | (with_reducible refine Below.alloc ?_ ?_ _) | (with_reducible refine Below.drew ?_) | (with_reducible refine Below.setCell ?_ ?_ _) | go_size | (exact (by simp)) | omega))
    generalize World.alloc w _ = w1 at *
    refine (wpIn_wide (n := 4)).1 ?_
    have hmo : Try.prog.follows .mixedOrders = true := by kernel_rfl
    have q0 : Below w1.heap.size w1 w1.drew := (Below.refl _ _).drew
    have KC : Hid (∀ W', Below w1.heap.size w1 W' → ((W'.cell? ⟨w.heap.size, 0, none⟩ = some (.int .i64 full) ∧ W'.cell? ⟨w.heap.size, 1, none⟩ = some (.int .i64 read) ∧ W'.cell? ⟨w.heap.size, 2, none⟩ = some (.int .i64 slip)) ∧ W'.cell? ⟨w.heap.size, 3, none⟩ = some (.int .i64 skew) ∧ W'.cell? ⟨w.heap.size, 4, none⟩ = some (.int .i64 circ) ∧ W'.cell? ⟨w.heap.size, 5, none⟩ = some (.int .i64 glo)) ∧ W'.cell? ⟨w.heap.size, 6, none⟩ = some (.int .i64 ghi) ∧ W'.cell? ⟨w.heap.size, 7, none⟩ = some (.int .i64 wrn)) := fun W' h => boxS8 (bS1.below h)
    refine wpIn_region_held (fun W' => Below w1.heap.size w1 W') 60 hmo ?_
    refine wpHeldIn_take (i := 0) (v := ?_) (plain_of (by kernel_rfl)) rfl (by kernel_rfl) (fun _ _ _ h => h) (yieldsSoIn_of (by kernel_rfl) ?_ (fun _ => rfl)) q0 ?_; rotate_left; focus (intro wq hw; have kq := KC.out wq hw; clear hw; go_simp; try (with_reducible rfl))
    refine wpHeldIn_take (i := 1) (v := ?_) (plain_of (by kernel_rfl)) rfl (by kernel_rfl) (fun _ _ _ h => h) (yieldsSoIn_of (by kernel_rfl) ?_ (fun _ => rfl)) q0 ?_; rotate_left; focus (intro wq hw; clear hw; go_simp; try (with_reducible rfl))
    refine wpHeldIn_take (i := 2) (v := ?_) (plain_of (by kernel_rfl)) rfl (by kernel_rfl) (fun _ _ _ h => h) (yieldsSoIn_of (by kernel_rfl) ?_ (fun _ => rfl)) q0 ?_; rotate_left; focus (intro wq hw; clear hw; go_simp; try (with_reducible rfl))
    refine wpHeldIn_one (i := 3) (by kernel_rfl) (by kernel_rfl) rfl (by kernel_rfl) (fun K1 hK1 => ?_)
    go_simp
    refine ⟨trivial, (callsIn_wide.2 (HI1.out _)).mono ?_⟩
    rintro e w2 ⟨rfl, hw2⟩
    have hw2 := hw2.symm
    subst hw2
    refine hK1 _ _ q0 ?_
    cases b1 with
    | true =>
      refine wpHeldIn_take (i := 4) (v := ?_) (plain_of (by kernel_rfl)) rfl (by kernel_rfl) (fun _ _ _ h => h) (yieldsSoIn_of (by kernel_rfl) ?_ (fun _ => rfl)) q0 ?_; rotate_left; focus (intro wq hw; clear hw; go_simp; try (with_reducible rfl))
      refine wpHeldIn_take (i := 5) (v := ?_) (plain_of (by kernel_rfl)) rfl (by kernel_rfl) (fun _ _ _ h => h) (yieldsSoIn_of (by kernel_rfl) ?_ (fun _ => rfl)) q0 ?_; rotate_left; focus (intro wq hw; clear hw; go_simp; try (with_reducible rfl))
      refine wpHeldIn_one (i := 6) (by kernel_rfl) (by kernel_rfl) rfl (by kernel_rfl) (fun K2 hK2 => ?_)
      go_simp
      refine ⟨trivial, (callsIn_wide.2 (HI2.out _)).mono ?_⟩
      rintro e w2 ⟨rfl, hw2⟩
      have hw2 := hw2.symm
      subst hw2
      refine hK2 _ _ q0 ?_
      rw [Bool.true_and] at HKN
      refine wpHeldIn_take (i := 7) (v := ?_) (plain_of (by kernel_rfl)) rfl (by kernel_rfl) (fun _ _ _ h => h) (yieldsSoIn_of (by kernel_rfl) ?_ (fun _ => rfl)) q0 ?_; rotate_left; focus (intro wq hw; clear hw; go_simp; try (with_reducible rfl))
      refine wpHeldIn_one (i := 8) (by kernel_rfl) (by kernel_rfl) rfl (by kernel_rfl) (fun K3 hK3 => ?_)
      go_simp
      refine ⟨trivial, (callsIn_wide.2 (HKN.out _ (hB1.trans (q0.mono hB1.size)))).mono ?_⟩
      rintro e w3 ⟨A3, c3, rfl, hP3, hb3⟩
      have q1 := q0.trans (hb3.mono q0.size)
      refine hK3 _ _ q1 ?_
      refine wpHeldIn_take (i := 9) (v := ?_) (plain_of (by kernel_rfl)) rfl (by kernel_rfl) (fun _ _ _ h => h) (yieldsSoIn_of (by kernel_rfl) ?_ (fun _ => rfl)) q1 ?_; rotate_left; focus (intro wq hw; clear hw; go_simp; try (with_reducible rfl))
      refine wpHeldIn_take (i := 10) (v := ?_) (plain_of (by kernel_rfl)) rfl (by kernel_rfl) (fun _ _ _ h => h) (yieldsSoIn_of (by kernel_rfl) ?_ (fun _ => rfl)) q1 ?_; rotate_left; focus (intro wq hw; clear hw; go_simp; try (with_reducible rfl))
      refine wpHeldIn_take (i := 11) (v := ?_) (plain_of (by kernel_rfl)) rfl (by kernel_rfl) (fun _ _ _ h => h) (yieldsSoIn_of (by kernel_rfl) ?_ (fun _ => rfl)) q1 ?_; rotate_left; focus (intro wq hw; clear hw; go_simp; try (with_reducible rfl))
      refine wpHeldIn_take (i := 12) (v := ?_) (plain_of (by kernel_rfl)) rfl (by kernel_rfl) (fun _ _ _ h => h) (yieldsSoIn_of (by kernel_rfl) ?_ (fun _ => rfl)) q1 ?_; rotate_left; focus (intro wq hw; clear hw; go_simp; try (with_reducible rfl))
      refine wpHeldIn_take (i := 13) (v := ?_) (plain_of (by kernel_rfl)) rfl (by kernel_rfl) (fun _ _ _ h => h) (yieldsSoIn_of (by kernel_rfl) ?_ (fun _ => rfl)) q1 ?_; rotate_left; focus (intro wq hw; clear hw; go_simp; try (with_reducible rfl))
      refine wpHeldIn_done (by kernel_rfl) ?_ _
      go_simp
      have bS3 := bS1.below q1
      have hB3 := hB1.trans (q1.mono hB1.size)
      clear KC q0 q1 hb3 bS1 hB1 hmo
      obtain ⟨⟨⟨s0, s1, s2⟩, s3, s4, s5⟩, s6, s7⟩ := boxS8 bS3
      have lS := bS3.lt
      go_wp2_with fail
      refine (HWO2.out _ _ _ hP3.out).mono ?_
      rintro e w4 ⟨rfl, hb4⟩
      have hB4 := hB3.trans (hb4.mono hB3.size)
      go_wp2_with fail
      go_returns
      exact ⟨rfl, hB4⟩
    | false =>
      rw [Bool.false_and] at HKN
      refine wpHeldIn_take (i := 4) (v := ?_) (plain_of (by kernel_rfl)) rfl (by kernel_rfl) (fun _ _ _ h => h) (yieldsSoIn_of (by kernel_rfl) ?_ (fun _ => rfl)) q0 ?_; rotate_left; focus (intro wq hw; clear hw; go_simp; try (with_reducible rfl))
      refine wpHeldIn_skip (i := 5) (plain_of (by kernel_rfl)) rfl (by kernel_rfl) (by kernel_rfl) (fun _ => trivial) (by kernel_rfl) (fun _ _ _ h => h) q0 ?_
      refine wpHeldIn_skip (i := 6) (plain_of (by kernel_rfl)) rfl (by kernel_rfl) (by kernel_rfl) (fun _ => trivial) (by kernel_rfl) (fun _ _ _ h => h) q0 ?_
      refine wpHeldIn_take (i := 7) (v := ?_) (plain_of (by kernel_rfl)) rfl (by kernel_rfl) (fun _ _ _ h => h) (yieldsSoIn_of (by kernel_rfl) ?_ (fun _ => rfl)) q0 ?_; rotate_left; focus (intro wq hw; clear hw; go_simp; try (with_reducible rfl))
      refine wpHeldIn_one (i := 8) (by kernel_rfl) (by kernel_rfl) rfl (by kernel_rfl) (fun K3 hK3 => ?_)
      go_simp
      refine ⟨trivial, (callsIn_wide.2 (HKN.out _ (hB1.trans (q0.mono hB1.size)))).mono ?_⟩
      rintro e w3 ⟨A3, c3, rfl, hP3, hb3⟩
      have q1 := q0.trans (hb3.mono q0.size)
      refine hK3 _ _ q1 ?_
      refine wpHeldIn_take (i := 9) (v := ?_) (plain_of (by kernel_rfl)) rfl (by kernel_rfl) (fun _ _ _ h => h) (yieldsSoIn_of (by kernel_rfl) ?_ (fun _ => rfl)) q1 ?_; rotate_left; focus (intro wq hw; clear hw; go_simp; try (with_reducible rfl))
      refine wpHeldIn_take (i := 10) (v := ?_) (plain_of (by kernel_rfl)) rfl (by kernel_rfl) (fun _ _ _ h => h) (yieldsSoIn_of (by kernel_rfl) ?_ (fun _ => rfl)) q1 ?_; rotate_left; focus (intro wq hw; clear hw; go_simp; try (with_reducible rfl))
      refine wpHeldIn_take (i := 11) (v := ?_) (plain_of (by kernel_rfl)) rfl (by kernel_rfl) (fun _ _ _ h => h) (yieldsSoIn_of (by kernel_rfl) ?_ (fun _ => rfl)) q1 ?_; rotate_left; focus (intro wq hw; clear hw; go_simp; try (with_reducible rfl))
      refine wpHeldIn_take (i := 12) (v := ?_) (plain_of (by kernel_rfl)) rfl (by kernel_rfl) (fun _ _ _ h => h) (yieldsSoIn_of (by kernel_rfl) ?_ (fun _ => rfl)) q1 ?_; rotate_left; focus (intro wq hw; clear hw; go_simp; try (with_reducible rfl))
      refine wpHeldIn_take (i := 13) (v := ?_) (plain_of (by kernel_rfl)) rfl (by kernel_rfl) (fun _ _ _ h => h) (yieldsSoIn_of (by kernel_rfl) ?_ (fun _ => rfl)) q1 ?_; rotate_left; focus (intro wq hw; clear hw; go_simp; try (with_reducible rfl))
      refine wpHeldIn_done (by kernel_rfl) ?_ _
      go_simp
      have bS3 := bS1.below q1
      have hB3 := hB1.trans (q1.mono hB1.size)
      clear KC q0 q1 hb3 bS1 hB1 hmo
      obtain ⟨⟨⟨s0, s1, s2⟩, s3, s4, s5⟩, s6, s7⟩ := boxS8 bS3
      have lS := bS3.lt
      go_wp2_with fail
      refine (HWO2.out _ _ _ hP3.out).mono ?_
      rintro e w4 ⟨rfl, hb4⟩
      have hB4 := hB3.trans (hb4.mono hB3.size)
      go_wp2_with fail
      go_returns
      exact ⟨rfl, hB4⟩
  · have hEb : (E != 0) = true := by simpa using hE
    have HV0 := Lib.hid (HV.out hE)
    have hv0 := HV0.out
    subst hv0
    clear HV HV0 HWO hE
    go_enter Try.func31, Try.ntmps31
    go_wp2_with fail
    have bS1 := BoxS.new w 25 #[.int .i64 full, .int .i64 read, .int .i64 slip, .int .i64 skew, .int .i64 circ, .int .i64 glo, .int .i64 ghi, .int .i64 wrn]
    have hB1 : Below w.heap.size w (w.alloc (.cells #[.int .i64 full, .int .i64 read, .int .i64 slip, .int .i64 skew, .int .i64 circ, .int .i64 glo, .int .i64 ghi, .int .i64 wrn] 25)) := by (repeat' (first | (with_reducible exact Below.refl _ _) | (with_reducible assumption) | (with_reducible refine Below.alloc ?_ ?_ _) | (with_reducible refine Below.drew ?_) | (with_reducible refine Below.setCell ?_ ?_ _) | go_size | (exact (by simp)) | omega))
    generalize World.alloc w _ = w1 at *
    refine (wpIn_wide (n := 4)).1 ?_
    have hmo : Try.prog.follows .mixedOrders = true := by kernel_rfl
    have q0 : Below w1.heap.size w1 w1.drew := (Below.refl _ _).drew
    have KC : Hid (∀ W', Below w1.heap.size w1 W' → ((W'.cell? ⟨w.heap.size, 0, none⟩ = some (.int .i64 full) ∧ W'.cell? ⟨w.heap.size, 1, none⟩ = some (.int .i64 read) ∧ W'.cell? ⟨w.heap.size, 2, none⟩ = some (.int .i64 slip)) ∧ W'.cell? ⟨w.heap.size, 3, none⟩ = some (.int .i64 skew) ∧ W'.cell? ⟨w.heap.size, 4, none⟩ = some (.int .i64 circ) ∧ W'.cell? ⟨w.heap.size, 5, none⟩ = some (.int .i64 glo)) ∧ W'.cell? ⟨w.heap.size, 6, none⟩ = some (.int .i64 ghi) ∧ W'.cell? ⟨w.heap.size, 7, none⟩ = some (.int .i64 wrn)) := fun W' h => boxS8 (bS1.below h)
    refine wpIn_region_held (fun W' => Below w1.heap.size w1 W') 60 hmo ?_
    refine wpHeldIn_take (i := 0) (v := ?_) (plain_of (by kernel_rfl)) rfl (by kernel_rfl) (fun _ _ _ h => h) (yieldsSoIn_of (by kernel_rfl) ?_ (fun _ => rfl)) q0 ?_; rotate_left; focus (intro wq hw; have kq := KC.out wq hw; clear hw; go_simp; try (with_reducible rfl))
    refine wpHeldIn_take (i := 1) (v := ?_) (plain_of (by kernel_rfl)) rfl (by kernel_rfl) (fun _ _ _ h => h) (yieldsSoIn_of (by kernel_rfl) ?_ (fun _ => rfl)) q0 ?_; rotate_left; focus (intro wq hw; clear hw; go_simp; try (with_reducible rfl))
    refine wpHeldIn_take (i := 2) (v := ?_) (plain_of (by kernel_rfl)) rfl (by kernel_rfl) (fun _ _ _ h => h) (yieldsSoIn_of (by kernel_rfl) ?_ (fun _ => rfl)) q0 ?_; rotate_left; focus (intro wq hw; clear hw; go_simp; try (with_reducible rfl))
    refine wpHeldIn_one (i := 3) (by kernel_rfl) (by kernel_rfl) rfl (by kernel_rfl) (fun K1 hK1 => ?_)
    go_simp
    refine ⟨trivial, (callsIn_wide.2 (HI1.out _)).mono ?_⟩
    rintro e w2 ⟨rfl, hw2⟩
    have hw2 := hw2.symm
    subst hw2
    refine hK1 _ _ q0 ?_
    cases b1 with
    | true =>
      refine wpHeldIn_take (i := 4) (v := ?_) (plain_of (by kernel_rfl)) rfl (by kernel_rfl) (fun _ _ _ h => h) (yieldsSoIn_of (by kernel_rfl) ?_ (fun _ => rfl)) q0 ?_; rotate_left; focus (intro wq hw; clear hw; go_simp; try (with_reducible rfl))
      refine wpHeldIn_take (i := 5) (v := ?_) (plain_of (by kernel_rfl)) rfl (by kernel_rfl) (fun _ _ _ h => h) (yieldsSoIn_of (by kernel_rfl) ?_ (fun _ => rfl)) q0 ?_; rotate_left; focus (intro wq hw; clear hw; go_simp; try (with_reducible rfl))
      refine wpHeldIn_one (i := 6) (by kernel_rfl) (by kernel_rfl) rfl (by kernel_rfl) (fun K2 hK2 => ?_)
      go_simp
      refine ⟨trivial, (callsIn_wide.2 (HI2.out _)).mono ?_⟩
      rintro e w2 ⟨rfl, hw2⟩
      have hw2 := hw2.symm
      subst hw2
      refine hK2 _ _ q0 ?_
      rw [Bool.true_and] at HKN
      refine wpHeldIn_take (i := 7) (v := ?_) (plain_of (by kernel_rfl)) rfl (by kernel_rfl) (fun _ _ _ h => h) (yieldsSoIn_of (by kernel_rfl) ?_ (fun _ => rfl)) q0 ?_; rotate_left; focus (intro wq hw; clear hw; go_simp; try (with_reducible rfl))
      refine wpHeldIn_one (i := 8) (by kernel_rfl) (by kernel_rfl) rfl (by kernel_rfl) (fun K3 hK3 => ?_)
      go_simp
      refine ⟨trivial, (callsIn_wide.2 (HKN.out _ (hB1.trans (q0.mono hB1.size)))).mono ?_⟩
      rintro e w3 ⟨A3, c3, rfl, hP3, hb3⟩
      have q1 := q0.trans (hb3.mono q0.size)
      refine hK3 _ _ q1 ?_
      refine wpHeldIn_take (i := 9) (v := ?_) (plain_of (by kernel_rfl)) rfl (by kernel_rfl) (fun _ _ _ h => h) (yieldsSoIn_of (by kernel_rfl) ?_ (fun _ => rfl)) q1 ?_; rotate_left; focus (intro wq hw; clear hw; go_simp; try (with_reducible rfl))
      refine wpHeldIn_take (i := 10) (v := ?_) (plain_of (by kernel_rfl)) rfl (by kernel_rfl) (fun _ _ _ h => h) (yieldsSoIn_of (by kernel_rfl) ?_ (fun _ => rfl)) q1 ?_; rotate_left; focus (intro wq hw; clear hw; go_simp; try (with_reducible rfl))
      refine wpHeldIn_take (i := 11) (v := ?_) (plain_of (by kernel_rfl)) rfl (by kernel_rfl) (fun _ _ _ h => h) (yieldsSoIn_of (by kernel_rfl) ?_ (fun _ => rfl)) q1 ?_; rotate_left; focus (intro wq hw; clear hw; go_simp; try (with_reducible rfl))
      refine wpHeldIn_take (i := 12) (v := ?_) (plain_of (by kernel_rfl)) rfl (by kernel_rfl) (fun _ _ _ h => h) (yieldsSoIn_of (by kernel_rfl) ?_ (fun _ => rfl)) q1 ?_; rotate_left; focus (intro wq hw; clear hw; go_simp; try (with_reducible rfl))
      refine wpHeldIn_take (i := 13) (v := ?_) (plain_of (by kernel_rfl)) rfl (by kernel_rfl) (fun _ _ _ h => h) (yieldsSoIn_of (by kernel_rfl) ?_ (fun _ => rfl)) q1 ?_; rotate_left; focus (intro wq hw; clear hw; go_simp; try (with_reducible rfl))
      refine wpHeldIn_done (by kernel_rfl) ?_ _
      go_simp
      have bS3 := bS1.below q1
      have hB3 := hB1.trans (q1.mono hB1.size)
      clear KC q0 q1 hb3 bS1 hB1 hmo
      obtain ⟨⟨⟨s0, s1, s2⟩, s3, s4, s5⟩, s6, s7⟩ := boxS8 bS3
      have lS := bS3.lt
      go_wp2_with fail
      go_returns
      exact ⟨rfl, hB3⟩
    | false =>
      rw [Bool.false_and] at HKN
      refine wpHeldIn_take (i := 4) (v := ?_) (plain_of (by kernel_rfl)) rfl (by kernel_rfl) (fun _ _ _ h => h) (yieldsSoIn_of (by kernel_rfl) ?_ (fun _ => rfl)) q0 ?_; rotate_left; focus (intro wq hw; clear hw; go_simp; try (with_reducible rfl))
      refine wpHeldIn_skip (i := 5) (plain_of (by kernel_rfl)) rfl (by kernel_rfl) (by kernel_rfl) (fun _ => trivial) (by kernel_rfl) (fun _ _ _ h => h) q0 ?_
      refine wpHeldIn_skip (i := 6) (plain_of (by kernel_rfl)) rfl (by kernel_rfl) (by kernel_rfl) (fun _ => trivial) (by kernel_rfl) (fun _ _ _ h => h) q0 ?_
      refine wpHeldIn_take (i := 7) (v := ?_) (plain_of (by kernel_rfl)) rfl (by kernel_rfl) (fun _ _ _ h => h) (yieldsSoIn_of (by kernel_rfl) ?_ (fun _ => rfl)) q0 ?_; rotate_left; focus (intro wq hw; clear hw; go_simp; try (with_reducible rfl))
      refine wpHeldIn_one (i := 8) (by kernel_rfl) (by kernel_rfl) rfl (by kernel_rfl) (fun K3 hK3 => ?_)
      go_simp
      refine ⟨trivial, (callsIn_wide.2 (HKN.out _ (hB1.trans (q0.mono hB1.size)))).mono ?_⟩
      rintro e w3 ⟨A3, c3, rfl, hP3, hb3⟩
      have q1 := q0.trans (hb3.mono q0.size)
      refine hK3 _ _ q1 ?_
      refine wpHeldIn_take (i := 9) (v := ?_) (plain_of (by kernel_rfl)) rfl (by kernel_rfl) (fun _ _ _ h => h) (yieldsSoIn_of (by kernel_rfl) ?_ (fun _ => rfl)) q1 ?_; rotate_left; focus (intro wq hw; clear hw; go_simp; try (with_reducible rfl))
      refine wpHeldIn_take (i := 10) (v := ?_) (plain_of (by kernel_rfl)) rfl (by kernel_rfl) (fun _ _ _ h => h) (yieldsSoIn_of (by kernel_rfl) ?_ (fun _ => rfl)) q1 ?_; rotate_left; focus (intro wq hw; clear hw; go_simp; try (with_reducible rfl))
      refine wpHeldIn_take (i := 11) (v := ?_) (plain_of (by kernel_rfl)) rfl (by kernel_rfl) (fun _ _ _ h => h) (yieldsSoIn_of (by kernel_rfl) ?_ (fun _ => rfl)) q1 ?_; rotate_left; focus (intro wq hw; clear hw; go_simp; try (with_reducible rfl))
      refine wpHeldIn_take (i := 12) (v := ?_) (plain_of (by kernel_rfl)) rfl (by kernel_rfl) (fun _ _ _ h => h) (yieldsSoIn_of (by kernel_rfl) ?_ (fun _ => rfl)) q1 ?_; rotate_left; focus (intro wq hw; clear hw; go_simp; try (with_reducible rfl))
      refine wpHeldIn_take (i := 13) (v := ?_) (plain_of (by kernel_rfl)) rfl (by kernel_rfl) (fun _ _ _ h => h) (yieldsSoIn_of (by kernel_rfl) ?_ (fun _ => rfl)) q1 ?_; rotate_left; focus (intro wq hw; clear hw; go_simp; try (with_reducible rfl))
      refine wpHeldIn_done (by kernel_rfl) ?_ _
      go_simp
      have bS3 := bS1.below q1
      have hB3 := hB1.trans (q1.mono hB1.size)
      clear KC q0 q1 hb3 bS1 hB1 hmo
      obtain ⟨⟨⟨s0, s1, s2⟩, s3, s4, s5⟩, s6, s7⟩ := boxS8 bS3
      have lS := bS3.lt
      go_wp2_with fail
      go_returns
      exact ⟨rfl, hB3⟩
theorem Worst3_any (d : Wh.Desk) (s t : Int) (A : Option Addr) (c : Nat) (w : World) (hl : d.ws.length ≤ 1000000000) (hz : Wh.okB d = true → (Wh.casesL d).length ≤ 90000) (hg : Wks w w.heap.size A d.ws) :
    Calls Try.prog 31 #[.agg (whV d), .slice A d.ws.length c, .int .i64 s, .int .i64 t] w (WorstPost (Wh.worstR d s t) (Wh.worstE d s t) w) := by
  refine Worst3_core d.full d.read d.slip d.skew d.circ d.glo d.ghi d.wr d.ws A c s t w (Wh.signB s) (Wh.signB t) (Wh.worstE d s t) (Wh.worstR d s t) (Wh.knL d (Wh.signB s && Wh.signB t)) (fun W => isOne3_any s W) (fun W => isOne3_any t W) (fun W hW => ?_) (fun hE A' c' W hP => ?_) (fun hE => ?_)
  · have := known3_any d A c (Wh.signB s && Wh.signB t) W hl hz ((hg.keep hW).wider hW.size)
    rw [Wh.knE_worst] at this
    exact this
  · have hE' := hE
    unfold Wh.worstE at hE'
    have hok : Wh.okB d = true := by
      cases h : Wh.okB d
      · rw [h] at hE'; exact absurd hE' (Wh.chkE_no h)
      · rfl
    rw [hok, if_pos rfl] at hE'
    have hss : (Wh.signB s && Wh.signB t) = true := by
      cases h : (Wh.signB s && Wh.signB t)
      · rw [h] at hE'; simp at hE'
      · rfl
    rw [hss, if_pos rfl] at hE'
    rw [Bool.and_eq_true] at hss
    have hL : Wh.knL d (Wh.signB s && Wh.signB t) = Wh.vals (Wh.truthsL d) := by
      unfold Wh.knL
      rw [Wh.knE_worst, hE, if_pos rfl]
    rw [hL] at hP ⊢
    have hd := Wh.ok_of hok
    have hs1 := Wh.signB_iff.1 hss.1
    have := worst3_any d hd s t hs1 (Wh.signB_iff.1 hss.2) A' c' (Wh.vals (Wh.truthsL d)) (by
      rw [Wh.vals_len]
      exact Nat.le_trans (List.length_filter_le _ _) (hz hok)) (fun i hi => Wh.trAt_sm hi) W hP
    rw [Wh.worst3_eq hd hs1 hE'] at this
    rw [Wh.worstR_eq hok hE' hss.1 hss.2]
    exact this
  · unfold Wh.worstR
    rw [if_neg hE]
end Go.Proofs.Ytecmlakcpgkfbaa
