/- Wheels: whether a walk is right, by the reference: each slip and each error tried. -/
import Derived.Test.YtecmlakcpgkfbaaTrQ
namespace Go.Proofs.Ytecmlakcpgkfbaa
open Go.RowKit
namespace Wh
def rollV (d : Desk) (k : Wk) (t : Tr) (slip off : Int) : Int := k.1 * (t.1 - k.2.2.1 * d.circ - slip) + k.2.1 * t.2 + off
/-- A slip and an error with which the readings are just as they are. -/
def hitP (d : Desk) (k : Wk) (t : Tr) (slip off : Int) : Prop := (k.2.2.2.2 - k.2.2.2.1 - rollV d k t slip off) % d.full = 0
theorem right_hit {d : Desk} (hd : Ok d) {k : Wk} (hk : k.1 = 1 ∨ k.1 = -1) (t : Tr) : rightB d k t = true ↔ ∃ slip off : Int, (0 ≤ slip ∧ slip ≤ d.slip) ∧ (-(2 * d.read) ≤ off ∧ off ≤ 2 * d.read) ∧ hitP d k t slip off := by
  have hf := hd.f1
  have hr := hd.r1
  have hs := hd.s1
  unfold rightB looseV hitP rollV
  rw [modV_eq (by omega), decide_eq_true_eq]
  have _hb := Int.emod_nonneg (missV d.full d.read d.circ k t) (show d.full ≠ 0 by omega)
  have q := Int.emod_add_mul_ediv (missV d.full d.read d.circ k t) d.full
  constructor
  · intro h
    -- what is missing: first the slip, then the error
    generalize hM : missV d.full d.read d.circ k t = M at *
    unfold missV at hM
    obtain ⟨m, hm⟩ : ∃ m, m = M % d.full := ⟨_, rfl⟩
    rw [← hm] at h _hb q
    have key : ∀ slip p : Int, slip + p = m → k.1 * (k.1 * (t.1 - k.2.2.1 * d.circ) + k.2.1 * t.2 - (k.2.2.2.2 - k.2.2.2.1)) + 2 * d.read = slip + p + d.full * (M / d.full) := fun slip p e => by omega
    by_cases hms : m ≤ d.slip
    · have e := key m 0 (by omega)
      rcases hk with h1 | h1
      · refine ⟨m, 2 * d.read, ⟨_hb, hms⟩, by omega, ?_⟩
        rw [h1] at e ⊢
        have e2 : k.2.2.2.2 - k.2.2.2.1 - (1 * (t.1 - k.2.2.1 * d.circ - m) + k.2.1 * t.2 + 2 * d.read) = d.full * (-(M / d.full)) := by rw [Int.mul_neg]; omega
        rw [e2, Int.mul_emod_right]
      · refine ⟨m, -(2 * d.read), ⟨_hb, hms⟩, by omega, ?_⟩
        rw [h1] at e ⊢
        simp only [Int.neg_mul, Int.one_mul] at e ⊢
        have e2 : k.2.2.2.2 - k.2.2.2.1 - (-(t.1 - k.2.2.1 * d.circ - m) + k.2.1 * t.2 + -(2 * d.read)) = d.full * (M / d.full) := by omega
        rw [e2, Int.mul_emod_right]
    · have e := key d.slip (m - d.slip) (by omega)
      rcases hk with h1 | h1
      · refine ⟨d.slip, 2 * d.read - (m - d.slip), ⟨hs, Int.le_refl _⟩, by omega, ?_⟩
        rw [h1] at e ⊢
        have e2 : k.2.2.2.2 - k.2.2.2.1 - (1 * (t.1 - k.2.2.1 * d.circ - d.slip) + k.2.1 * t.2 + (2 * d.read - (m - d.slip))) = d.full * (-(M / d.full)) := by rw [Int.mul_neg]; omega
        rw [e2, Int.mul_emod_right]
      · refine ⟨d.slip, m - d.slip - 2 * d.read, ⟨hs, Int.le_refl _⟩, by omega, ?_⟩
        rw [h1] at e ⊢
        simp only [Int.neg_mul, Int.one_mul] at e ⊢
        have e2 : k.2.2.2.2 - k.2.2.2.1 - (-(t.1 - k.2.2.1 * d.circ - d.slip) + k.2.1 * t.2 + (m - d.slip - 2 * d.read)) = d.full * (M / d.full) := by omega
        rw [e2, Int.mul_emod_right]
  · rintro ⟨slip, off, h1, h2, h3⟩
    have q3 := Int.emod_add_mul_ediv (k.2.2.2.2 - k.2.2.2.1 - (k.1 * (t.1 - k.2.2.1 * d.circ - slip) + k.2.1 * t.2 + off)) d.full
    rw [h3] at q3
    generalize (k.2.2.2.2 - k.2.2.2.1 - (k.1 * (t.1 - k.2.2.1 * d.circ - slip) + k.2.1 * t.2 + off)) / d.full = Z at q3
    have hx : ∃ x z : Int, (0 ≤ x ∧ x ≤ d.slip + 4 * d.read) ∧ missV d.full d.read d.circ k t = x + d.full * z := by
      unfold missV
      rcases hk with h | h
      · refine ⟨slip - off + 2 * d.read, -Z, by omega, ?_⟩
        rw [h] at q3 ⊢
        rw [Int.mul_neg]
        omega
      · refine ⟨slip + off + 2 * d.read, Z, by omega, ?_⟩
        rw [h] at q3 ⊢
        simp only [Int.neg_mul, Int.one_mul] at q3 ⊢
        omega
    obtain ⟨x, z, hx1, hx2⟩ := hx
    rw [hx2, Int.add_mul_emod_self_left]
    have := emod_le_self (a := x) (n := d.full) hx1.1 (by omega)
    omega
theorem tmod_zero {a b : Int} (hb : 0 < b) : a.tmod b = 0 ↔ a % b = 0 := by
  rw [← Int.dvd_iff_emod_eq_zero, ← Int.dvd_iff_tmod_eq_zero]
end Wh
set_option maxRecDepth 100000 in
set_option maxHeartbeats 8000000 in
theorem IsRight3_any (d : Wh.Desk) (hd : Wh.Ok d) (k : Wh.Wk) (hs : k.1 = 1 ∨ k.1 = -1) (hk : Wh.ksm k) (t : Wh.Tr) (ht : Wh.tsm t) (w : World) :
    Calls Try.prog 39 #[.agg (whV d), .agg #[.int .i64 k.1, .int .i64 k.2.1, .int .i64 k.2.2.1, .int .i64 k.2.2.2.1, .int .i64 k.2.2.2.2], .agg #[.int .i64 t.1, .int .i64 t.2]] w fun e w' => e = .returned (.bool (Wh.rightB d k t)) ∧ Below w.heap.size w w' := by
  have HR := Lib.hid (Wh.right_hit hd hs t)
  have f1 := hd.f1
  have f2 := hd.f2
  have r1 := hd.r1
  have r2 := hd.r2
  have s1 := hd.s1
  have s2 := hd.s2
  have c1 := hd.c1
  have c2 := hd.c2
  unfold Wh.ksm at hk
  unfold Wh.tsm at ht
  generalize Wh.rightB d k t = RB at *
  obtain ⟨full, read, slip, skew, circ, glo, ghi, wrn, ws⟩ := d
  obtain ⟨s, sd, ins, st, en⟩ := k
  obtain ⟨t1, t2⟩ := t
  unfold Wh.hitP Wh.rollV at HR
  unfold whV
  dsimp only at *
  have b1 : 0 ≤ ins * circ ∧ ins * circ ≤ 9999 := by
    rcases (by omega : ins = 0 ∨ ins = 1) with h | h <;> rw [h] <;> omega
  have b2 : -20 ≤ sd * t2 ∧ sd * t2 ≤ 20 := by
    rcases (by omega : sd = -1 ∨ sd = 0 ∨ sd = 1) with h | h | h <;> rw [h] <;> omega
  have b3 : ∀ i : Nat, (i : Int) ≤ 20 → -20100 ≤ s * (t1 - ins * circ - (i : Int)) ∧ s * (t1 - ins * circ - (i : Int)) ≤ 20100 := fun i hi => by
    rcases hs with h | h <;> rw [h] <;> omega
  have B3 := Lib.hid b3
  have hf0 : ¬ full = 0 := by omega
  have hw1 : IntKind.i64.wrap (ins * circ) = ins * circ := IntWalk.i64_in _ (by omega)
  have hw2 : IntKind.i64.wrap (t1 - ins * circ) = t1 - ins * circ := IntWalk.i64_in _ (by omega)
  have hw3 : IntKind.i64.wrap (sd * t2) = sd * t2 := IntWalk.i64_in _ (by omega)
  have hw4 : IntKind.i64.wrap (en - st) = en - st := IntWalk.i64_in _ (by omega)
  have hw5 : IntKind.i64.wrap (2 * read) = 2 * read := IntWalk.i64_in _ (by omega)
  have hw6 : IntKind.i64.wrap (-2 * read) = -(2 * read) := by rw [Int.neg_mul]; exact IntWalk.i64_in _ (by omega)
  clear b3 hd
  have HSS := Lib.hid hs
  clear hs
  go_enter Try.func39, Try.ntmps39
  go_wp2_with fail
  have bS1 := ((BoxS.new w 25 #[.int .i64 full, .int .i64 read, .int .i64 slip, .int .i64 skew, .int .i64 circ, .int .i64 glo, .int .i64 ghi, .int .i64 wrn]).alloc (.cells #[.int .i64 s, .int .i64 sd, .int .i64 ins, .int .i64 st, .int .i64 en] 54)).alloc (.cells #[.int .i64 t1, .int .i64 t2] 47)
  have bK1 := (BoxS.new (w.alloc (.cells #[.int .i64 full, .int .i64 read, .int .i64 slip, .int .i64 skew, .int .i64 circ, .int .i64 glo, .int .i64 ghi, .int .i64 wrn] 25)) 54 #[.int .i64 s, .int .i64 sd, .int .i64 ins, .int .i64 st, .int .i64 en]).alloc (.cells #[.int .i64 t1, .int .i64 t2] 47)
  have bT1 := BoxS.new ((w.alloc (.cells #[.int .i64 full, .int .i64 read, .int .i64 slip, .int .i64 skew, .int .i64 circ, .int .i64 glo, .int .i64 ghi, .int .i64 wrn] 25)).alloc (.cells #[.int .i64 s, .int .i64 sd, .int .i64 ins, .int .i64 st, .int .i64 en] 54)) 47 #[.int .i64 t1, .int .i64 t2]
  rw [World.size_alloc] at bK1
  rw [World.size_alloc, World.size_alloc] at bT1
  have hB1 : Below w.heap.size w (((w.alloc (.cells #[.int .i64 full, .int .i64 read, .int .i64 slip, .int .i64 skew, .int .i64 circ, .int .i64 glo, .int .i64 ghi, .int .i64 wrn] 25)).alloc (.cells #[.int .i64 s, .int .i64 sd, .int .i64 ins, .int .i64 st, .int .i64 en] 54)).alloc (.cells #[.int .i64 t1, .int .i64 t2] 47)) := by (repeat' (first | (with_reducible exact Below.refl _ _) | (with_reducible assumption) | (with_reducible refine Below.alloc ?_ ?_ _) | (with_reducible refine Below.drew ?_) | (with_reducible refine Below.setCell ?_ ?_ _) | go_size | (exact (by simp)) | omega))
  generalize World.alloc (World.alloc (World.alloc w _) _) _ = w1 at *
  have a0 := bS1.cell 0 rfl
  have a1 := bS1.cell 1 rfl
  have a2 := bS1.cell 2 rfl
  have a4 := bS1.cell 4 rfl
  have k0 := bK1.cell 0 rfl
  have k1 := bK1.cell 1 rfl
  have k2 := bK1.cell 2 rfl
  have k3 := bK1.cell 3 rfl
  have k4 := bK1.cell 4 rfl
  have u0 := bT1.cell 0 rfl
  have u1 := bT1.cell 1 rfl
  have lT := bT1.lt
  clear bS1 bK1 bT1
  obtain ⟨N1, hN1⟩ : ∃ n : Nat, (n : Int) = slip + 1 := ⟨(slip + 1).toNat, by omega⟩
  obtain ⟨N2, hN2⟩ : ∃ n : Nat, (n : Int) = 4 * read + 1 := ⟨(4 * read + 1).toNat, by omega⟩
  go_loopg [7, 8, 9] N1 (fun g x7 x8 x9 wx => ∃ i : Nat, Hid (i + g = N1) ∧ (i : Int) ≤ N1 ∧ x7 = .int .i64 (i : Int) ∧ wx = w1 ∧ Hid (∀ i' j' : Nat, i' < i → j' < N2 → ¬ (en - st - (s * (t1 - ins * circ - (i' : Int)) + sd * t2 + (-(2 * read) + (j' : Int)))).tmod full = 0))
  case atStart => exact ⟨0, by simp [Hid], by omega, by simp, rfl, fun i' j' h => by omega⟩
  case round =>
    obtain ⟨i, hi, hi1, rfl, rfl, hno⟩ := hrel
    have hi0 := Int.natCast_nonneg i
    by_cases hlt : (i : Int) < N1
    · have hle : (i : Int) ≤ slip := by omega
      obtain ⟨b4, b5⟩ := B3.out i (by omega)
      have hw7 : IntKind.i64.wrap (t1 - ins * circ - (i : Int)) = t1 - ins * circ - (i : Int) := IntWalk.i64_in _ (by omega)
      have hw8 : IntKind.i64.wrap (s * (t1 - ins * circ - (i : Int))) = s * (t1 - ins * circ - (i : Int)) := IntWalk.i64_in _ (by omega)
      have hw9 : IntKind.i64.wrap (s * (t1 - ins * circ - (i : Int)) + sd * t2) = s * (t1 - ins * circ - (i : Int)) + sd * t2 := IntWalk.i64_in _ (by omega)
      have hwi : IntKind.i64.wrap ((i : Int) + 1) = (i : Int) + 1 := IntWalk.i64_in _ (by omega)
      go_wp2_with fail
      obtain ⟨gko, rfl⟩ : ∃ gko, gko = gk := ⟨_, rfl⟩
      go_loopg [8, 9] N2 (fun g x8 x9 wx => ∃ j : Nat, Hid (j + g = N2) ∧ (j : Int) ≤ N2 ∧ x8 = .int .i64 (-(2 * read) + (j : Int)) ∧ wx = wr ∧ Hid (∀ j' : Nat, j' < j → ¬ (en - st - (s * (t1 - ins * circ - (i : Int)) + sd * t2 + (-(2 * read) + (j' : Int)))).tmod full = 0))
      case atStart => exact ⟨0, by simp [Hid], by omega, by simp, rfl, fun j' h => by omega⟩
      case round =>
        obtain ⟨j, hj, hj1, rfl, rfl, hnj⟩ := hrel
        have hj0 := Int.natCast_nonneg j
        by_cases hjl : (j : Int) < N2
        · have hle2 : -(2 * read) + (j : Int) ≤ 2 * read := by omega
          have hwA : IntKind.i64.wrap (s * (t1 - ins * circ - (i : Int)) + sd * t2 + (-(2 * read) + (j : Int))) = s * (t1 - ins * circ - (i : Int)) + sd * t2 + (-(2 * read) + (j : Int)) := IntWalk.i64_in _ (by omega)
          have hwB : IntKind.i64.wrap (en - st - (s * (t1 - ins * circ - (i : Int)) + sd * t2 + (-(2 * read) + (j : Int)))) = en - st - (s * (t1 - ins * circ - (i : Int)) + sd * t2 + (-(2 * read) + (j : Int))) := IntWalk.i64_in _ (by omega)
          have htb := Wh.tmod_bd (a := en - st - (s * (t1 - ins * circ - (i : Int)) + sd * t2 + (-(2 * read) + (j : Int)))) (b := full) (by omega)
          have hwC : IntKind.i64.wrap ((en - st - (s * (t1 - ins * circ - (i : Int)) + sd * t2 + (-(2 * read) + (j : Int)))).tmod full) = (en - st - (s * (t1 - ins * circ - (i : Int)) + sd * t2 + (-(2 * read) + (j : Int)))).tmod full := IntWalk.i64_in _ (by omega)
          have hwj : IntKind.i64.wrap (-(2 * read) + (j : Int) + 1) = -(2 * read) + (j : Int) + 1 := IntWalk.i64_in _ (by omega)
          by_cases hz : (en - st - (s * (t1 - ins * circ - (i : Int)) + sd * t2 + (-(2 * read) + (j : Int)))).tmod full = 0
          · have hzB : ((en - st - (s * (t1 - ins * circ - (i : Int)) + sd * t2 + (-(2 * read) + (j : Int)))).tmod full == 0) = true := by simpa using hz
            have HRB : Hid (RB = true) := HR.out.2 ⟨i, -(2 * read) + (j : Int), by omega, by omega, (Wh.tmod_zero (by omega)).1 hz⟩
            clear hz
            go_wp2_with fail
            go_returns
            exact ⟨by rw [HRB.out]; rfl, hB1⟩
          · have hzB : ((en - st - (s * (t1 - ins * circ - (i : Int)) + sd * t2 + (-(2 * read) + (j : Int)))).tmod full == 0) = false := by simpa using hz
            have HZ := Lib.hid hz
            clear hz
            go_wp2_with fail
            obtain ⟨g', hg'⟩ : ∃ g', gk = g' + 1 := ⟨gk - 1, by have := hj.out; omega⟩
            go_roundg g'
            case measure => omega
            case rel => exact ⟨j + 1, by have := hj.out; simp only [Hid]; omega, by omega, by go_num, rfl, fun j' h => by
              by_cases e : j' = j
              · subst e; exact HZ.out
              · exact hnj.out j' (by omega)⟩
        · have hle2 : ¬ -(2 * read) + (j : Int) ≤ 2 * read := by omega
          have e : j = N2 := by omega
          have HNI : Hid (∀ i' j' : Nat, i' < i + 1 → j' < N2 → ¬ (en - st - (s * (t1 - ins * circ - (i' : Int)) + sd * t2 + (-(2 * read) + (j' : Int)))).tmod full = 0) := fun i' j' h1 h2 => by
            by_cases e2 : i' = i
            · subst e2; exact hnj.out j' (by omega)
            · exact hno.out i' j' (by omega) h2
          clear e
          go_wp2_with fail
          obtain ⟨g', hg'⟩ : ∃ g', gko = g' + 1 := ⟨gko - 1, by have := hi.out; omega⟩
          go_roundg g'
          case measure => omega
          case rel => exact ⟨i + 1, by have := hi.out; simp only [Hid]; omega, by omega, by go_num, rfl, HNI⟩
    · have hle : ¬ (i : Int) ≤ slip := by omega
      have HRB : Hid (RB = false) := by
        cases hrb : RB
        · rfl
        · obtain ⟨sl, off, h1, h2, h3⟩ := HR.out.1 hrb
          have := hno.out sl.toNat (off + 2 * read).toNat (by omega) (by omega)
          refine absurd ((Wh.tmod_zero (by omega)).2 ?_) this
          rw [show ((sl.toNat : Nat) : Int) = sl by omega, show -(2 * read) + (((off + 2 * read).toNat : Nat) : Int) = off by omega]
          exact h3
      go_wp2_with fail
      go_returns
      exact ⟨by rw [HRB.out]; rfl, hB1⟩
end Go.Proofs.Ytecmlakcpgkfbaa
