/- Wheels: what cancels (plain). -/
import Derived.Test.YtecmlakcpgkfbaaReady3
namespace Go.Proofs.Ytecmlakcpgkfbaa
namespace Wh
theorem right_gap {full L v1 v2 : Int} (hf : 0 < full) (h1 : v1 % full ≤ L) (h2 : v2 % full ≤ L) (hb1 : v2 - v1 + L < full) (hb2 : v1 - v2 + L < full) : v2 - v1 ≤ L ∧ v1 - v2 ≤ L := by
  have p1 := Int.emod_nonneg v1 (show full ≠ 0 by omega)
  have p2 := Int.emod_nonneg v2 (show full ≠ 0 by omega)
  have e1 := Int.emod_add_mul_ediv v1 full
  have e2 := Int.emod_add_mul_ediv v2 full
  generalize v1 % full = r1 at *
  generalize v2 % full = r2 at *
  generalize v1 / full = q1 at *
  generalize v2 / full = q2 at *
  have e3 : v2 - v1 - (r2 - r1) = full * (q2 - q1) := by rw [Int.mul_sub]; omega
  rcases Int.lt_trichotomy (q2 - q1) 0 with h | h | h
  · have := Int.mul_le_mul_of_nonneg_left (show q2 - q1 ≤ -1 by omega) (show 0 ≤ full by omega)
    omega
  · rw [h] at e3
    omega
  · have := Int.mul_le_mul_of_nonneg_left (show 1 ≤ q2 - q1 by omega) (show 0 ≤ full by omega)
    omega
/-- Two walks whose sense times side is not the same, right in two truths: the areas are near each other. -/
theorem cancel {d : Desk} (hs : Ok d) (hw : d.ghi - d.glo + d.slip + 2 * d.skew + 4 * d.read < d.full) {k1 k2 : Wk} (s1 : (k1.1 = 1 ∨ k1.1 = -1) ∧ (k1.2.1 = 1 ∨ k1.2.1 = -1)) (s2 : (k2.1 = 1 ∨ k2.1 = -1) ∧ (k2.2.1 = 1 ∨ k2.2.1 = -1)) (hne : k1.1 * k1.2.1 ≠ k2.1 * k2.2.1)
    {t u : Tr} (ht : (d.glo ≤ t.1 ∧ t.1 ≤ d.ghi) ∧ (-d.skew ≤ t.2 ∧ t.2 ≤ d.skew)) (hu : (d.glo ≤ u.1 ∧ u.1 ≤ d.ghi) ∧ (-d.skew ≤ u.2 ∧ u.2 ≤ d.skew))
    (a1 : rightB d k1 t = true) (a2 : rightB d k2 t = true) (b1 : rightB d k1 u = true) (b2 : rightB d k2 u = true) : u.1 - t.1 ≤ d.slip + 4 * d.read := by
  have hf := hs.f1
  have hr := hs.r1
  have hsl := hs.s1
  have key : ∀ k : Wk, (k.1 = 1 ∨ k.1 = -1) ∧ (k.2.1 = 1 ∨ k.2.1 = -1) → rightB d k t = true → rightB d k u = true → ∀ p, p = k.1 * k.2.1 → (u.1 - t.1) + p * (u.2 - t.2) ≤ d.slip + 4 * d.read := by
    intro k s a b p hp
    unfold rightB looseV at a b
    rw [modV_eq (by omega), decide_eq_true_eq] at a b
    have e : missV d.full d.read d.circ k u - missV d.full d.read d.circ k t = (u.1 - t.1) + p * (u.2 - t.2) := by
      unfold missV
      rw [hp]
      rcases s with ⟨h1 | h1, h2 | h2⟩ <;> rw [h1, h2] <;> grind
    have hpv : p = 1 ∨ p = -1 := by
      rw [hp]
      rcases s with ⟨h1 | h1, h2 | h2⟩ <;> rw [h1, h2] <;> simp
    have hb : (u.1 - t.1) + p * (u.2 - t.2) ≤ d.ghi - d.glo + 2 * d.skew ∧ -(d.ghi - d.glo + 2 * d.skew) ≤ (u.1 - t.1) + p * (u.2 - t.2) := by
      rcases hpv with h | h <;> rw [h] <;> omega
    have := right_gap (by omega) a b (by omega) (by omega)
    omega
  have g1 := key k1 s1 a1 b1 _ rfl
  have g2 := key k2 s2 a2 b2 _ rfl
  rcases s1 with ⟨h1 | h1, h2 | h2⟩ <;> rcases s2 with ⟨h3 | h3, h4 | h4⟩ <;> rw [h1, h2, h3, h4] at hne <;> rw [h1, h2] at g1 <;> rw [h3, h4] at g2 <;> first | (exact absurd rfl hne) | omega
end Wh
end Go.Proofs.Ytecmlakcpgkfbaa

namespace Go.Proofs.Ytecmlakcpgkfbaa
open Go.RowKit
namespace Wh
def spN (ws : List Wk) (j : Nat) : Int := (wkAt ws j).1 * (wkAt ws j).2.1
def bothTo (ws : List Wk) : Nat → Bool
  | 0 => false
  | 1 => false
  | k + 2 => bothTo ws (k + 1) || !decide (spN ws (k + 1) = spN ws 0)
theorem bothTo_ex {ws : List Wk} : ∀ {k : Nat}, bothTo ws k = true → ∃ j, j < k ∧ spN ws j ≠ spN ws 0
  | 0, h => by cases h
  | 1, h => by cases h
  | k + 2, h => by
    unfold bothTo at h
    rw [Bool.or_eq_true] at h
    rcases h with h | h
    · obtain ⟨j, hj, hn⟩ := bothTo_ex h
      exact ⟨j, by omega, hn⟩
    · exact ⟨k + 1, by omega, by simpa using h⟩
theorem truths_all {d : Desk} (hok : okB d = true) (h0 : d.wr = 0) {t : TrS} (ht : t ∈ truthsL d) : ((d.glo ≤ t.1.1 ∧ t.1.1 ≤ d.ghi) ∧ (-d.skew ≤ t.1.2 ∧ t.1.2 ≤ d.skew)) ∧ ∀ j, j < d.ws.length → rightB d (wkAt d.ws j) t.1 = true := by
  unfold truthsL at ht
  rw [List.mem_filter] at ht
  refine ⟨of_cases (ok_of hok) ht.1, fun j hj => ?_⟩
  have h1 := ht.2
  have key : ∀ k, wrongTo d t.1 k = 0 → ∀ j, j < k → rightB d (wkAt d.ws j) t.1 = true := by
    intro k
    induction k with
    | zero => intro _ j hj; omega
    | succ k ih =>
      intro h j hj
      rw [wrongTo_succ] at h
      by_cases e : j = k
      · subst e
        cases hr : rightB d (wkAt d.ws j) t.1
        · rw [hr] at h; simp at h
        · rfl
      · exact ih (by omega) j (by omega)
  have h2 : wrongN d t.1 = 0 := by
    unfold trB at h1
    rw [decide_eq_true_eq] at h1
    omega
  exact key _ h2 j hj
theorem bound_ok {d : Desk} (hok : okB d = true) (h0 : d.wr = 0) (hw : d.ghi - d.glo + d.slip + 2 * d.skew + 4 * d.read < d.full) (hsp : spE d = 0) (hb : bothTo d.ws d.ws.length = true) : (boundV d).1 ≤ (boundV d).2 ∧ (boundV d).2 - (boundV d).1 ≤ d.slip + 4 * d.read := by
  obtain ⟨j, hj, hne⟩ := bothTo_ex hb
  have hp := areas_pos hsp
  have m0 : (areasV d)[0]?.getD 0 ∈ areasV d := by rw [List.getElem?_eq_getElem hp]; exact List.getElem_mem _
  have m1 : (areasV d)[(areasV d).length - 1]?.getD 0 ∈ areasV d := by rw [List.getElem?_eq_getElem (by omega)]; exact List.getElem_mem _
  obtain ⟨t, ht, e1⟩ := (areas_mem hsp _).1 m0
  obtain ⟨u, hu, e2⟩ := (areas_mem hsp _).1 m1
  obtain ⟨t1, t2⟩ := truths_all hok h0 ht
  obtain ⟨u1, u2⟩ := truths_all hok h0 hu
  have s : ∀ j, j < d.ws.length → ((wkAt d.ws j).1 = 1 ∨ (wkAt d.ws j).1 = -1) ∧ ((wkAt d.ws j).2.1 = 1 ∨ (wkAt d.ws j).2.1 = -1) := fun j hj => by
    have := ok_wk hok j hj
    unfold wkB at this
    simp only [Bool.and_eq_true, signB_iff] at this
    exact ⟨this.1.1.1.1, this.1.1.1.2⟩
  have hc := cancel (ok_of hok) hw (s j hj) (s 0 (by omega)) hne t1 u1 (t2 j hj) (t2 0 (by omega)) (u2 j hj) (u2 0 (by omega))
  have hle : (areasV d)[0]?.getD 0 ≤ (areasV d)[(areasV d).length - 1]?.getD 0 := by
    rw [List.getElem?_eq_getElem hp, List.getElem?_eq_getElem (show (areasV d).length - 1 < (areasV d).length by omega)]
    by_cases e : (areasV d).length - 1 = 0
    · simp [e]
    · exact Int.le_of_lt (List.pairwise_iff_getElem.1 (areas_sorted d) 0 ((areasV d).length - 1) hp (by omega) (by omega))
  unfold boundV
  rw [if_pos hsp]
  dsimp only
  rw [← e1, ← e2] at hle ⊢
  exact ⟨hle, hc⟩
end Wh
theorem isKnown3_any (n : Int) (w : World) : Calls Try.prog 35 #[.int .i64 n] w fun e w' => e = .returned (.bool (decide (n = 0) || decide (n = 3))) ∧ w' = w := by
  go_enter Try.func35, Try.ntmps35
  go_wp2
  all_goals
    go_ret
    refine ⟨ret_b ?_, rfl⟩
    rw [Bool.eq_iff_iff]
    simp
    try omega

set_option maxRecDepth 100000 in
set_option maxHeartbeats 8000000 in
theorem Cancel_any (d : Wh.Desk) (A : Option Addr) (c : Nat) (w : World) (hl : d.ws.length ≤ 1000000000) (hg : Wks w w.heap.size A d.ws) :
    Calls Try.prog 7 #[.agg (whV d), .slice A d.ws.length c] w fun e w' => e = .returned (.bool true) ∧ Below w.heap.size w w' := by
  have HRD : Hid (∀ W, Below w.heap.size w W → Calls Try.prog 34 #[.agg (whV d), .slice A d.ws.length c] W fun e w' => e = .returned (.bool (Wh.readyB d)) ∧ Below W.heap.size W w') := fun W hW => ready3_any d A c W hl ((hg.keep hW).wider hW.size)
  have HWK : Hid (∀ W, Calls Try.prog 13 #[] W fun e w' => e = .returned (.bool true) ∧ Below W.heap.size W w') := works_any
  have HBD : Hid (∀ W, Below w.heap.size w W → Calls Try.prog 23 #[.agg (whV d), .slice A d.ws.length c] W (BoundPost (Wh.boundV d) (Wh.spE d) W)) := fun W hW => Bound_any d A c W hl ((hg.keep hW).wider hW.size)
  cases hr : Wh.readyB d
  · rw [hr] at HRD
    clear hr HBD hg
    obtain ⟨full, read, slip, skew, circ, glo, ghi, wrn, ws⟩ := d
    unfold whV at *
    dsimp only at *
    go_enter Try.func7, Try.ntmps7
    go_wp2_with fail
    have bS1 := BoxS.new w 25 #[.int .i64 full, .int .i64 read, .int .i64 slip, .int .i64 skew, .int .i64 circ, .int .i64 glo, .int .i64 ghi, .int .i64 wrn]
    have hB1 : Below w.heap.size w (w.alloc (.cells #[.int .i64 full, .int .i64 read, .int .i64 slip, .int .i64 skew, .int .i64 circ, .int .i64 glo, .int .i64 ghi, .int .i64 wrn] 25)) := by (repeat' (first | (with_reducible exact Below.refl _ _) | (with_reducible assumption) | (with_reducible refine Below.alloc ?_ ?_ _) | (with_reducible refine Below.drew ?_) | (with_reducible refine Below.setCell ?_ ?_ _) | go_size | (exact (by simp)) | omega))
    generalize World.alloc w _ = w1 at *
    refine (HRD.out _ hB1).mono ?_
    rintro e w2 ⟨rfl, hb2⟩
    have bS2 := bS1.below hb2
    have hB2 := hB1.trans (hb2.mono hB1.size)
    clear bS1 hB1 hb2 HRD
    obtain ⟨⟨⟨s0, s1, s2⟩, s3, s4, s5⟩, s6, s7⟩ := boxS8 bS2
    go_wp2_with fail
    refine (HWK.out _).mono ?_
    rintro e w9 ⟨rfl, hb9⟩
    go_wp2_with fail
    go_returns
    exact ⟨rfl, hB2.trans (hb9.mono hB2.size)⟩
  · have hok : Wh.okB d = true := by
      unfold Wh.readyB at hr
      rw [Bool.and_eq_true] at hr
      exact hr.2
    rw [hr] at HRD
    have hs := Wh.ok_of hok
    have f1 := hs.f1
    have f2 := hs.f2
    have r1 := hs.r1
    have r2 := hs.r2
    have s1 := hs.s1
    have s2 := hs.s2
    have k1 := hs.k1
    have k2 := hs.k2
    have g1 := hs.g1
    have g2 := hs.g2
    have g3 := hs.g3
    have v1 := hs.w1
    have m1 : IntKind.i64.wrap (d.ghi - d.glo) = d.ghi - d.glo := IntWalk.i64_in _ (by omega)
    have m2 : IntKind.i64.wrap (d.ghi - d.glo + d.slip) = d.ghi - d.glo + d.slip := IntWalk.i64_in _ (by omega)
    have m3 : IntKind.i64.wrap (2 * d.skew) = 2 * d.skew := IntWalk.i64_in _ (by omega)
    have m4 : IntKind.i64.wrap (d.ghi - d.glo + d.slip + 2 * d.skew) = d.ghi - d.glo + d.slip + 2 * d.skew := IntWalk.i64_in _ (by omega)
    have m5 : IntKind.i64.wrap (4 * d.read) = 4 * d.read := IntWalk.i64_in _ (by omega)
    have m6 : IntKind.i64.wrap (d.ghi - d.glo + d.slip + 2 * d.skew + 4 * d.read) = d.ghi - d.glo + d.slip + 2 * d.skew + 4 * d.read := IntWalk.i64_in _ (by omega)
    have m7 : IntKind.i64.wrap (d.slip + 4 * d.read) = d.slip + 4 * d.read := IntWalk.i64_in _ (by omega)
    by_cases hw0 : 0 < d.wr
    · have q0 : decide (0 < d.wr) = true := decide_eq_true hw0
      clear hr HBD hg hs hok f1 f2 r1 r2 s1 s2 k1 k2 g1 g2 g3 v1
      obtain ⟨full, read, slip, skew, circ, glo, ghi, wrn, ws⟩ := d
      unfold whV at *
      dsimp only at *
      go_enter Try.func7, Try.ntmps7
      go_wp2_with fail
      have bS1 := BoxS.new w 25 #[.int .i64 full, .int .i64 read, .int .i64 slip, .int .i64 skew, .int .i64 circ, .int .i64 glo, .int .i64 ghi, .int .i64 wrn]
      have hB1 : Below w.heap.size w (w.alloc (.cells #[.int .i64 full, .int .i64 read, .int .i64 slip, .int .i64 skew, .int .i64 circ, .int .i64 glo, .int .i64 ghi, .int .i64 wrn] 25)) := by (repeat' (first | (with_reducible exact Below.refl _ _) | (with_reducible assumption) | (with_reducible refine Below.alloc ?_ ?_ _) | (with_reducible refine Below.drew ?_) | (with_reducible refine Below.setCell ?_ ?_ _) | go_size | (exact (by simp)) | omega))
      generalize World.alloc w _ = w1 at *
      refine (HRD.out _ hB1).mono ?_
      rintro e w2 ⟨rfl, hb2⟩
      have bS2 := bS1.below hb2
      have hB2 := hB1.trans (hb2.mono hB1.size)
      clear bS1 hB1 hb2 HRD
      obtain ⟨⟨⟨s0, s1, s2⟩, s3, s4, s5⟩, s6, s7⟩ := boxS8 bS2
      go_wp2_with fail
      refine (HWK.out _).mono ?_
      rintro e w9 ⟨rfl, hb9⟩
      go_wp2_with fail
      go_returns
      exact ⟨rfl, hB2.trans (hb9.mono hB2.size)⟩
    · have q0 : decide (0 < d.wr) = false := decide_eq_false hw0
      by_cases hsum : d.full ≤ d.ghi - d.glo + d.slip + 2 * d.skew + 4 * d.read
      · have q1 : decide (d.full ≤ d.ghi - d.glo + d.slip + 2 * d.skew + 4 * d.read) = true := decide_eq_true hsum
        clear hr HBD hg hs hok f1 f2 r1 r2 s1 s2 k1 k2 g1 g2 g3 v1 hw0 hsum
        obtain ⟨full, read, slip, skew, circ, glo, ghi, wrn, ws⟩ := d
        unfold whV at *
        dsimp only at *
        go_enter Try.func7, Try.ntmps7
        go_wp2_with fail
        have bS1 := BoxS.new w 25 #[.int .i64 full, .int .i64 read, .int .i64 slip, .int .i64 skew, .int .i64 circ, .int .i64 glo, .int .i64 ghi, .int .i64 wrn]
        have hB1 : Below w.heap.size w (w.alloc (.cells #[.int .i64 full, .int .i64 read, .int .i64 slip, .int .i64 skew, .int .i64 circ, .int .i64 glo, .int .i64 ghi, .int .i64 wrn] 25)) := by (repeat' (first | (with_reducible exact Below.refl _ _) | (with_reducible assumption) | (with_reducible refine Below.alloc ?_ ?_ _) | (with_reducible refine Below.drew ?_) | (with_reducible refine Below.setCell ?_ ?_ _) | go_size | (exact (by simp)) | omega))
        generalize World.alloc w _ = w1 at *
        refine (HRD.out _ hB1).mono ?_
        rintro e w2 ⟨rfl, hb2⟩
        have bS2 := bS1.below hb2
        have hB2 := hB1.trans (hb2.mono hB1.size)
        clear bS1 hB1 hb2 HRD
        obtain ⟨⟨⟨s0, s1, s2⟩, s3, s4, s5⟩, s6, s7⟩ := boxS8 bS2
        go_wp2_with fail
        refine (HWK.out _).mono ?_
        rintro e w9 ⟨rfl, hb9⟩
        go_wp2_with fail
        go_returns
        exact ⟨rfl, hB2.trans (hb9.mono hB2.size)⟩
      · have q1 : decide (d.full ≤ d.ghi - d.glo + d.slip + 2 * d.skew + 4 * d.read) = false := decide_eq_false hsum
        have HFIN : Hid (Wh.spE d = 0 → Wh.bothTo d.ws d.ws.length = true → ((Wh.boundV d).1 ≤ (Wh.boundV d).2 ∧ (Wh.boundV d).2 - (Wh.boundV d).1 ≤ d.slip + 4 * d.read)) := fun h1 h2 => Wh.bound_ok hok (by omega) (by omega) h1 h2
        have hek : Wh.spE d = 0 ∨ Wh.spE d = 3 := by
          unfold Wh.spE
          rw [if_pos hok]
          split
          · exact .inr rfl
          · exact .inl rfl
        have HKN : Hid (∀ W, Calls Try.prog 35 #[.int .i64 (Wh.spE d)] W fun e w' => e = .returned (.bool true) ∧ w' = W) := fun W => by
          have := isKnown3_any (Wh.spE d) W
          rw [show (decide (Wh.spE d = 0) || decide (Wh.spE d = 3)) = true from by rcases hek with h | h <;> rw [h] <;> rfl] at this
          exact this
        have HB0 : Hid (Wh.bothTo d.ws 1 = false) := rfl
        have HB1 : Hid (∀ k, Wh.bothTo d.ws k = true → 2 ≤ k) := fun k h => by
          match k, h with
          | 0, h => cases h
          | 1, h => cases h
          | k + 2, _ => omega
        have HBS : Hid (∀ k, 1 ≤ k → Wh.bothTo d.ws (k + 1) = (Wh.bothTo d.ws k || !decide ((Wh.wkAt d.ws k).1 * (Wh.wkAt d.ws k).2.1 = (Wh.wkAt d.ws 0).1 * (Wh.wkAt d.ws 0).2.1))) := fun k hk => by
          obtain ⟨j, rfl⟩ : ∃ j, k = j + 1 := ⟨k - 1, by omega⟩
          rfl
        have HMU : Hid (∀ j, j < d.ws.length → IntKind.i64.wrap ((Wh.wkAt d.ws j).1 * (Wh.wkAt d.ws j).2.1) = (Wh.wkAt d.ws j).1 * (Wh.wkAt d.ws j).2.1) := fun j hj => by
          have := Wh.ok_wk hok j hj
          unfold Wh.wkB at this
          simp only [Bool.and_eq_true, Wh.signB_iff] at this
          rcases this.1.1.1 with ⟨h1 | h1, h2 | h2⟩ <;> rw [h1, h2] <;> rfl
        have HG := Lib.hid hg
        have HWA := Lib.hid (rfl : Wh.wkAt d.ws = Wh.wkAt d.ws)
        have hln := Wh.ok_len hok
        clear hr hg hs hok f1 f2 g1 g2 g3 v1 hw0 hsum hek k1 k2 HWA
        generalize Wh.bothTo d.ws = BT at *
        generalize Wh.boundV d = BV at *
        generalize Wh.spE d = E at *
        obtain ⟨full, read, slip, skew, circ, glo, ghi, wrn, ws⟩ := d
        unfold whV at *
        dsimp only at *
        go_enter Try.func7, Try.ntmps7
        go_wp2_with fail
        have bS1 := BoxS.new w 25 #[.int .i64 full, .int .i64 read, .int .i64 slip, .int .i64 skew, .int .i64 circ, .int .i64 glo, .int .i64 ghi, .int .i64 wrn]
        have hB1 : Below w.heap.size w (w.alloc (.cells #[.int .i64 full, .int .i64 read, .int .i64 slip, .int .i64 skew, .int .i64 circ, .int .i64 glo, .int .i64 ghi, .int .i64 wrn] 25)) := by (repeat' (first | (with_reducible exact Below.refl _ _) | (with_reducible assumption) | (with_reducible refine Below.alloc ?_ ?_ _) | (with_reducible refine Below.drew ?_) | (with_reducible refine Below.setCell ?_ ?_ _) | go_size | (exact (by simp)) | omega))
        generalize World.alloc w _ = w1 at *
        refine (HRD.out _ hB1).mono ?_
        rintro e w2 ⟨rfl, hb2⟩
        have bS2 := bS1.below hb2
        have hB2 := hB1.trans (hb2.mono hB1.size)
        clear bS1 hB1 hb2 HRD
        obtain ⟨⟨⟨s0, s1, s2⟩, s3, s4, s5⟩, s6, s7⟩ := boxS8 bS2
        go_wp2_with fail
        clear s0 s1 s2 s3 s4 s5 s6 s7 q0 q1 m1 m2 m3 m4 m6
        go_loopw [5, 6] (fun x i wr => ∃ k : Nat, 1 ≤ k ∧ (k ≤ ws.length ∨ k = 1) ∧ x = .bool (BT k) ∧ i = .int .i64 (k : Int) ∧ BoxS wr w.heap.size 25 #[.int .i64 full, .int .i64 read, .int .i64 slip, .int .i64 skew, .int .i64 circ, .int .i64 glo, .int .i64 ghi, .int .i64 wrn] ∧ Below w.heap.size w wr) (fun _ i _ => (ws.length - intOf i).toNat)
        case atStart => exact ⟨1, by omega, .inr rfl, by rw [HB0.out], rfl, bS2, hB2⟩
        case round =>
          clear bS2 hB2
          obtain ⟨k, hk1, hk2, rfl, rfl, bS, hB⟩ := hrel
          have hk0 := Int.natCast_nonneg k
          by_cases hlt : (k : Int) < ws.length
          · have hkn : k < ws.length := by omega
            obtain ⟨bb, off, rfl, hbb, hc⟩ := HG.out (by omega)
            have hck := hc k hkn
            have hc0 := hc 0 (by omega)
            have HS := HBS.out k hk1
            have mk := HMU.out k hkn
            have m0 := HMU.out 0 (by omega)
            have a0 := (hB.cell (p := ⟨bb, _, none⟩) hbb).trans hck.1
            have a1 := (hB.cell (p := ⟨bb, _, none⟩) hbb).trans hck.2.1
            have hc1 := hc0.1
            have hc2 := hc0.2.1
            rw [Nat.zero_mul, Nat.add_zero] at hc1 hc2
            have b0 := (hB.cell (p := ⟨bb, off, none⟩) hbb).trans hc1
            have b1 := (hB.cell (p := ⟨bb, off + 1, none⟩) hbb).trans hc2
            have hw1 : IntKind.i64.wrap ((k : Int) + 1) = (k : Int) + 1 := IntWalk.i64_in _ (by omega)
            have hbr : bb < wr.heap.size := by have := hB.size; omega
            have hl0 : (0 : Int) < ws.length := by omega
            generalize Wh.wkAt ws k = p at *
            generalize Wh.wkAt ws 0 = p0 at *
            obtain ⟨x0, x1, _, _, _⟩ := p
            obtain ⟨y0, y1, _, _, _⟩ := p0
            dsimp only at a0 a1 b0 b1 mk m0 HS
            clear hc hck hc0 hc1 hc2 HG HBS HMU
            cases hbk : BT k
            · rw [hbk, Bool.false_or] at HS
              have HSh := Lib.hid HS
              clear HS
              go_wp2_with fail
              go_quiet (fail)
              go_wp2_with fail
              go_roundw
              case rel => exact ⟨k + 1, by omega, .inl (by omega), by first | (rw [HSh.out]; done) | (rw [HSh.out]; rfl), by go_num, bS, by (repeat' (first | (with_reducible exact Below.refl _ _) | (with_reducible assumption) | (with_reducible refine Below.alloc ?_ ?_ _) | (with_reducible refine below_drewN ?_ _) | (with_reducible refine Below.drew ?_) | (with_reducible refine Below.setCell ?_ ?_ _) | go_size))⟩
              case measure => simp [intOf]; omega
            · rw [hbk, Bool.true_or] at HS
              have HSh := Lib.hid HS
              clear HS a0 a1 b0 b1
              go_wp2_with fail
              go_quiet (fail)
              go_wp2_with fail
              go_roundw
              case rel => exact ⟨k + 1, by omega, .inl (by omega), by first | (rw [HSh.out]; done) | (rw [HSh.out]; rfl), by go_num, bS, by (repeat' (first | (with_reducible exact Below.refl _ _) | (with_reducible assumption) | (with_reducible refine Below.alloc ?_ ?_ _) | (with_reducible refine below_drewN ?_ _) | (with_reducible refine Below.drew ?_) | (with_reducible refine Below.setCell ?_ ?_ _) | go_size))⟩
              case measure => simp [intOf]; omega
          · have hk3 : ¬ (k : Int) < ws.length := hlt
            obtain ⟨⟨⟨s0, s1, s2⟩, s3, s4, s5⟩, s6, s7⟩ := boxS8 bS
            go_wp2_with fail
            clear s0 s1 s2 s3 s4 s5 s6 s7
            refine (HBD.out _ hB).mono ?_
            rintro e w3 ⟨rfl, hb3⟩
            have bS3 := bS.below hb3
            have hB3 := hB.trans (hb3.mono hB.size)
            go_wp2_with fail
            have bX := BoxS.new w3 23 #[.int .i64 BV.1, .int .i64 BV.2]
            have bS4 := bS3.alloc (.cells #[.int .i64 BV.1, .int .i64 BV.2] 23)
            have hB4 : Below w.heap.size w (w3.alloc (.cells #[.int .i64 BV.1, .int .i64 BV.2] 23)) := hB3.alloc hB3.size _
            generalize World.alloc w3 _ = w4 at *
            refine (HKN.out _).mono ?_
            rintro e w5 ⟨rfl, rfl⟩
            clear hb3 bS bS3 hB hB3
            obtain ⟨⟨⟨s0, s1, s2⟩, s3, s4, s5⟩, s6, s7⟩ := boxS8 bS4
            obtain ⟨z0, z1⟩ := boxS2' bX
            cases hbo : BT k
            · go_wp2_with fail
              refine (HWK.out _).mono ?_
              rintro e w9 ⟨rfl, hb9⟩
              go_wp2_with fail
              go_returns
              exact ⟨rfl, hB4.trans (hb9.mono hB4.size)⟩
            · by_cases he : E = 0
              · have hbb := HFIN.out he (by have := HB1.out k hbo; rw [show ws.length = k by omega]; exact hbo)
                have hee : (E == 0) = true := by simpa using he
                have l1 : decide (BV.1 ≤ BV.2) = true := decide_eq_true hbb.1
                have l2 : decide (BV.2 - BV.1 ≤ slip + 4 * read) = true := decide_eq_true hbb.2
                have hwx : IntKind.i64.wrap (BV.2 - BV.1) = BV.2 - BV.1 := IntWalk.i64_in _ (by omega)
                go_wp2_with fail
                refine (HWK.out _).mono ?_
                rintro e w9 ⟨rfl, hb9⟩
                go_wp2_with fail
                go_returns
                exact ⟨rfl, hB4.trans (hb9.mono hB4.size)⟩
              · have hee : (E == 0) = false := by simpa using he
                go_wp2_with fail
                refine (HWK.out _).mono ?_
                rintro e w9 ⟨rfl, hb9⟩
                go_wp2_with fail
                go_returns
                exact ⟨rfl, hB4.trans (hb9.mono hB4.size)⟩
end Go.Proofs.Ytecmlakcpgkfbaa
