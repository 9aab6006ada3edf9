/- Wheels: the skews of truths, by the reference. -/
import Derived.Test.YtkmacpkjobdffaaGreatTjG
namespace Go.Proofs.YtkmacpkjobdffaaGreat
open Go.RowKit
namespace Wh
theorem emod_le_self {a n : Int} (h : 0 ≤ a) (hn : 0 < n) : a % n ≤ a := by
  have h1 := Int.emod_add_mul_ediv a n
  have h2 : 0 ≤ a / n := Int.ediv_nonneg h (by omega)
  have h3 := Int.mul_nonneg (show 0 ≤ n by omega) h2
  omega
def rollV (d : Desk) (k : Wk) (t : Tr) (slip off : Int) : Int := k.1 * (t.1 - k.2.2.1 * d.circ - slip) + k.2.1 * t.2 + off
/-- A slip and an error with which the readings are just as they are. -/
def hitP (d : Desk) (k : Wk) (t : Tr) (slip off : Int) : Prop := (k.2.2.2.2 - k.2.2.2.1 - rollV d k t slip off) % d.full = 0
theorem right_hit {d : Desk} (hd : Ok d) {k : Wk} (hk : k.1 = 1 ∨ k.1 = -1) (t : Tr) : rightB d k t = true ↔ ∃ slip off : Int, (0 ≤ slip ∧ slip ≤ d.slip) ∧ (-(2 * d.read) ≤ off ∧ off ≤ 2 * d.read) ∧ hitP d k t slip off := by
  have hf := hd.f1
  have hr := hd.r1
  have hs := hd.s1
  unfold rightB looseV hitP rollV
  rw [modV_eq (by omega), decide_eq_true_eq]
  have _hb := Int.emod_nonneg (missV d.full d.read d.circ k t) (show d.full ≠ 0 by omega)
  have q := Int.emod_add_mul_ediv (missV d.full d.read d.circ k t) d.full
  constructor
  · intro h
    -- what is missing: first the slip, then the error
    generalize hM : missV d.full d.read d.circ k t = M at *
    unfold missV at hM
    obtain ⟨m, hm⟩ : ∃ m, m = M % d.full := ⟨_, rfl⟩
    rw [← hm] at h _hb q
    have key : ∀ slip p : Int, slip + p = m → k.1 * (k.1 * (t.1 - k.2.2.1 * d.circ) + k.2.1 * t.2 - (k.2.2.2.2 - k.2.2.2.1)) + 2 * d.read = slip + p + d.full * (M / d.full) := fun slip p e => by omega
    by_cases hms : m ≤ d.slip
    · have e := key m 0 (by omega)
      rcases hk with h1 | h1
      · refine ⟨m, 2 * d.read, ⟨_hb, hms⟩, by omega, ?_⟩
        rw [h1] at e ⊢
        have e2 : k.2.2.2.2 - k.2.2.2.1 - (1 * (t.1 - k.2.2.1 * d.circ - m) + k.2.1 * t.2 + 2 * d.read) = d.full * (-(M / d.full)) := by rw [Int.mul_neg]; omega
        rw [e2, Int.mul_emod_right]
      · refine ⟨m, -(2 * d.read), ⟨_hb, hms⟩, by omega, ?_⟩
        rw [h1] at e ⊢
        simp only [Int.neg_mul, Int.one_mul] at e ⊢
        have e2 : k.2.2.2.2 - k.2.2.2.1 - (-(t.1 - k.2.2.1 * d.circ - m) + k.2.1 * t.2 + -(2 * d.read)) = d.full * (M / d.full) := by omega
        rw [e2, Int.mul_emod_right]
    · have e := key d.slip (m - d.slip) (by omega)
      rcases hk with h1 | h1
      · refine ⟨d.slip, 2 * d.read - (m - d.slip), ⟨hs, Int.le_refl _⟩, by omega, ?_⟩
        rw [h1] at e ⊢
        have e2 : k.2.2.2.2 - k.2.2.2.1 - (1 * (t.1 - k.2.2.1 * d.circ - d.slip) + k.2.1 * t.2 + (2 * d.read - (m - d.slip))) = d.full * (-(M / d.full)) := by rw [Int.mul_neg]; omega
        rw [e2, Int.mul_emod_right]
      · refine ⟨d.slip, m - d.slip - 2 * d.read, ⟨hs, Int.le_refl _⟩, by omega, ?_⟩
        rw [h1] at e ⊢
        simp only [Int.neg_mul, Int.one_mul] at e ⊢
        have e2 : k.2.2.2.2 - k.2.2.2.1 - (-(t.1 - k.2.2.1 * d.circ - d.slip) + k.2.1 * t.2 + (m - d.slip - 2 * d.read)) = d.full * (M / d.full) := by omega
        rw [e2, Int.mul_emod_right]
  · rintro ⟨slip, off, h1, h2, h3⟩
    have q3 := Int.emod_add_mul_ediv (k.2.2.2.2 - k.2.2.2.1 - (k.1 * (t.1 - k.2.2.1 * d.circ - slip) + k.2.1 * t.2 + off)) d.full
    rw [h3] at q3
    generalize (k.2.2.2.2 - k.2.2.2.1 - (k.1 * (t.1 - k.2.2.1 * d.circ - slip) + k.2.1 * t.2 + off)) / d.full = Z at q3
    have hx : ∃ x z : Int, (0 ≤ x ∧ x ≤ d.slip + 4 * d.read) ∧ missV d.full d.read d.circ k t = x + d.full * z := by
      unfold missV
      rcases hk with h | h
      · refine ⟨slip - off + 2 * d.read, -Z, by omega, ?_⟩
        rw [h] at q3 ⊢
        rw [Int.mul_neg]
        omega
      · refine ⟨slip + off + 2 * d.read, Z, by omega, ?_⟩
        rw [h] at q3 ⊢
        simp only [Int.neg_mul, Int.one_mul] at q3 ⊢
        omega
    obtain ⟨x, z, hx1, hx2⟩ := hx
    rw [hx2, Int.add_mul_emod_self_left]
    have := emod_le_self (a := x) (n := d.full) hx1.1 (by omega)
    omega
theorem tmod_zero {a b : Int} (hb : 0 < b) : a.tmod b = 0 ↔ a % b = 0 := by
  rw [← Int.dvd_iff_emod_eq_zero, ← Int.dvd_iff_tmod_eq_zero]
end Wh
set_option maxRecDepth 100000 in
set_option maxHeartbeats 8000000 in
theorem IsRight3_any (d : Wh.Desk) (hd : Wh.Ok d) (k : Wh.Wk) (hs : k.1 = 1 ∨ k.1 = -1) (hk : Wh.ksm k) (t : Wh.Tr) (ht : Wh.tsm t) (w : World) :
    Calls Tryz.prog 45 #[.agg (whV d), .agg #[.int .i64 k.1, .int .i64 k.2.1, .int .i64 k.2.2.1, .int .i64 k.2.2.2.1, .int .i64 k.2.2.2.2], .agg #[.int .i64 t.1, .int .i64 t.2]] w fun e w' => e = .returned (.bool (Wh.rightB d k t)) ∧ Below w.heap.size w w' := by
  have HR := Lib.hid (Wh.right_hit hd hs t)
  have f1 := hd.f1
  have f2 := hd.f2
  have r1 := hd.r1
  have r2 := hd.r2
  have s1 := hd.s1
  have s2 := hd.s2
  have c1 := hd.c1
  have c2 := hd.c2
  unfold Wh.ksm at hk
  unfold Wh.tsm at ht
  generalize Wh.rightB d k t = RB at *
  obtain ⟨full, read, slip, skew, circ, glo, ghi, wrn, ws⟩ := d
  obtain ⟨s, sd, ins, st, en⟩ := k
  obtain ⟨t1, t2⟩ := t
  unfold Wh.hitP Wh.rollV at HR
  unfold whV
  dsimp only at *
  have b1 : 0 ≤ ins * circ ∧ ins * circ ≤ 9999 := by
    rcases (by omega : ins = 0 ∨ ins = 1) with h | h <;> rw [h] <;> omega
  have b2 : -20 ≤ sd * t2 ∧ sd * t2 ≤ 20 := by
    rcases (by omega : sd = -1 ∨ sd = 0 ∨ sd = 1) with h | h | h <;> rw [h] <;> omega
  have b3 : ∀ i : Nat, (i : Int) ≤ 20 → -20100 ≤ s * (t1 - ins * circ - (i : Int)) ∧ s * (t1 - ins * circ - (i : Int)) ≤ 20100 := fun i hi => by
    rcases hs with h | h <;> rw [h] <;> omega
  have B3 := Lib.hid b3
  have hf0 : ¬ full = 0 := by omega
  have hw1 : IntKind.i64.wrap (ins * circ) = ins * circ := IntWalk.i64_in _ (by omega)
  have hw2 : IntKind.i64.wrap (t1 - ins * circ) = t1 - ins * circ := IntWalk.i64_in _ (by omega)
  have hw3 : IntKind.i64.wrap (sd * t2) = sd * t2 := IntWalk.i64_in _ (by omega)
  have hw4 : IntKind.i64.wrap (en - st) = en - st := IntWalk.i64_in _ (by omega)
  have hw5 : IntKind.i64.wrap (2 * read) = 2 * read := IntWalk.i64_in _ (by omega)
  have hw6 : IntKind.i64.wrap (-2 * read) = -(2 * read) := by rw [Int.neg_mul]; exact IntWalk.i64_in _ (by omega)
  clear b3 hd
  have HSS := Lib.hid hs
  clear hs
  go_enter Tryz.func45, Tryz.ntmps45
  go_wp2_with fail
  have bS1 := ((BoxS.new w 25 #[.int .i64 full, .int .i64 read, .int .i64 slip, .int .i64 skew, .int .i64 circ, .int .i64 glo, .int .i64 ghi, .int .i64 wrn]).alloc (.cells #[.int .i64 s, .int .i64 sd, .int .i64 ins, .int .i64 st, .int .i64 en] 67)).alloc (.cells #[.int .i64 t1, .int .i64 t2] 73)
  have bK1 := (BoxS.new (w.alloc (.cells #[.int .i64 full, .int .i64 read, .int .i64 slip, .int .i64 skew, .int .i64 circ, .int .i64 glo, .int .i64 ghi, .int .i64 wrn] 25)) 67 #[.int .i64 s, .int .i64 sd, .int .i64 ins, .int .i64 st, .int .i64 en]).alloc (.cells #[.int .i64 t1, .int .i64 t2] 73)
  have bT1 := BoxS.new ((w.alloc (.cells #[.int .i64 full, .int .i64 read, .int .i64 slip, .int .i64 skew, .int .i64 circ, .int .i64 glo, .int .i64 ghi, .int .i64 wrn] 25)).alloc (.cells #[.int .i64 s, .int .i64 sd, .int .i64 ins, .int .i64 st, .int .i64 en] 67)) 73 #[.int .i64 t1, .int .i64 t2]
  rw [World.size_alloc] at bK1
  rw [World.size_alloc, World.size_alloc] at bT1
  have hB1 : Below w.heap.size w (((w.alloc (.cells #[.int .i64 full, .int .i64 read, .int .i64 slip, .int .i64 skew, .int .i64 circ, .int .i64 glo, .int .i64 ghi, .int .i64 wrn] 25)).alloc (.cells #[.int .i64 s, .int .i64 sd, .int .i64 ins, .int .i64 st, .int .i64 en] 67)).alloc (.cells #[.int .i64 t1, .int .i64 t2] 73)) := by (repeat' (first | (with_reducible exact Below.refl _ _) | (with_reducible assumption) | (with_reducible refine Below.alloc ?_ ?_ _) | (with_reducible refine Below.drew ?_) | (with_reducible refine Below.setCell ?_ ?_ _) | go_size | (exact (by simp)) | omega))
  generalize World.alloc (World.alloc (World.alloc w _) _) _ = w1 at *
  have a0 := bS1.cell 0 rfl
  have a1 := bS1.cell 1 rfl
  have a2 := bS1.cell 2 rfl
  have a4 := bS1.cell 4 rfl
  have k0 := bK1.cell 0 rfl
  have k1 := bK1.cell 1 rfl
  have k2 := bK1.cell 2 rfl
  have k3 := bK1.cell 3 rfl
  have k4 := bK1.cell 4 rfl
  have u0 := bT1.cell 0 rfl
  have u1 := bT1.cell 1 rfl
  have lT := bT1.lt
  clear bS1 bK1 bT1
  obtain ⟨N1, hN1⟩ : ∃ n : Nat, (n : Int) = slip + 1 := ⟨(slip + 1).toNat, by omega⟩
  obtain ⟨N2, hN2⟩ : ∃ n : Nat, (n : Int) = 4 * read + 1 := ⟨(4 * read + 1).toNat, by omega⟩
  go_loopg [7, 8, 9] N1 (fun g x7 x8 x9 wx => ∃ i : Nat, Hid (i + g = N1) ∧ (i : Int) ≤ N1 ∧ x7 = .int .i64 (i : Int) ∧ wx = w1 ∧ Hid (∀ i' j' : Nat, i' < i → j' < N2 → ¬ (en - st - (s * (t1 - ins * circ - (i' : Int)) + sd * t2 + (-(2 * read) + (j' : Int)))).tmod full = 0))
  case atStart => exact ⟨0, by simp [Hid], by omega, by simp, rfl, fun i' j' h => by omega⟩
  case round =>
    obtain ⟨i, hi, hi1, rfl, rfl, hno⟩ := hrel
    have hi0 := Int.natCast_nonneg i
    by_cases hlt : (i : Int) < N1
    · have hle : (i : Int) ≤ slip := by omega
      obtain ⟨b4, b5⟩ := B3.out i (by omega)
      have hw7 : IntKind.i64.wrap (t1 - ins * circ - (i : Int)) = t1 - ins * circ - (i : Int) := IntWalk.i64_in _ (by omega)
      have hw8 : IntKind.i64.wrap (s * (t1 - ins * circ - (i : Int))) = s * (t1 - ins * circ - (i : Int)) := IntWalk.i64_in _ (by omega)
      have hw9 : IntKind.i64.wrap (s * (t1 - ins * circ - (i : Int)) + sd * t2) = s * (t1 - ins * circ - (i : Int)) + sd * t2 := IntWalk.i64_in _ (by omega)
      have hwi : IntKind.i64.wrap ((i : Int) + 1) = (i : Int) + 1 := IntWalk.i64_in _ (by omega)
      go_wp2_with fail
      obtain ⟨gko, rfl⟩ : ∃ gko, gko = gk := ⟨_, rfl⟩
      go_loopg [8, 9] N2 (fun g x8 x9 wx => ∃ j : Nat, Hid (j + g = N2) ∧ (j : Int) ≤ N2 ∧ x8 = .int .i64 (-(2 * read) + (j : Int)) ∧ wx = wr ∧ Hid (∀ j' : Nat, j' < j → ¬ (en - st - (s * (t1 - ins * circ - (i : Int)) + sd * t2 + (-(2 * read) + (j' : Int)))).tmod full = 0))
      case atStart => exact ⟨0, by simp [Hid], by omega, by simp, rfl, fun j' h => by omega⟩
      case round =>
        obtain ⟨j, hj, hj1, rfl, rfl, hnj⟩ := hrel
        have hj0 := Int.natCast_nonneg j
        by_cases hjl : (j : Int) < N2
        · have hle2 : -(2 * read) + (j : Int) ≤ 2 * read := by omega
          have hwA : IntKind.i64.wrap (s * (t1 - ins * circ - (i : Int)) + sd * t2 + (-(2 * read) + (j : Int))) = s * (t1 - ins * circ - (i : Int)) + sd * t2 + (-(2 * read) + (j : Int)) := IntWalk.i64_in _ (by omega)
          have hwB : IntKind.i64.wrap (en - st - (s * (t1 - ins * circ - (i : Int)) + sd * t2 + (-(2 * read) + (j : Int)))) = en - st - (s * (t1 - ins * circ - (i : Int)) + sd * t2 + (-(2 * read) + (j : Int))) := IntWalk.i64_in _ (by omega)
          have htb := Wh.tmod_bd (a := en - st - (s * (t1 - ins * circ - (i : Int)) + sd * t2 + (-(2 * read) + (j : Int)))) (b := full) (by omega)
          have hwC : IntKind.i64.wrap ((en - st - (s * (t1 - ins * circ - (i : Int)) + sd * t2 + (-(2 * read) + (j : Int)))).tmod full) = (en - st - (s * (t1 - ins * circ - (i : Int)) + sd * t2 + (-(2 * read) + (j : Int)))).tmod full := IntWalk.i64_in _ (by omega)
          have hwj : IntKind.i64.wrap (-(2 * read) + (j : Int) + 1) = -(2 * read) + (j : Int) + 1 := IntWalk.i64_in _ (by omega)
          by_cases hz : (en - st - (s * (t1 - ins * circ - (i : Int)) + sd * t2 + (-(2 * read) + (j : Int)))).tmod full = 0
          · have hzB : ((en - st - (s * (t1 - ins * circ - (i : Int)) + sd * t2 + (-(2 * read) + (j : Int)))).tmod full == 0) = true := by simpa using hz
            have HRB : Hid (RB = true) := HR.out.2 ⟨i, -(2 * read) + (j : Int), by omega, by omega, (Wh.tmod_zero (by omega)).1 hz⟩
            clear hz
            go_wp2_with fail
            go_returns
            exact ⟨by rw [HRB.out]; rfl, hB1⟩
          · have hzB : ((en - st - (s * (t1 - ins * circ - (i : Int)) + sd * t2 + (-(2 * read) + (j : Int)))).tmod full == 0) = false := by simpa using hz
            have HZ := Lib.hid hz
            clear hz
            go_wp2_with fail
            obtain ⟨g', hg'⟩ : ∃ g', gk = g' + 1 := ⟨gk - 1, by have := hj.out; omega⟩
            go_roundg g'
            case measure => omega
            case rel => exact ⟨j + 1, by have := hj.out; simp only [Hid]; omega, by omega, by go_num, rfl, fun j' h => by
              by_cases e : j' = j
              · subst e; exact HZ.out
              · exact hnj.out j' (by omega)⟩
        · have hle2 : ¬ -(2 * read) + (j : Int) ≤ 2 * read := by omega
          have e : j = N2 := by omega
          have HNI : Hid (∀ i' j' : Nat, i' < i + 1 → j' < N2 → ¬ (en - st - (s * (t1 - ins * circ - (i' : Int)) + sd * t2 + (-(2 * read) + (j' : Int)))).tmod full = 0) := fun i' j' h1 h2 => by
            by_cases e2 : i' = i
            · subst e2; exact hnj.out j' (by omega)
            · exact hno.out i' j' (by omega) h2
          clear e
          go_wp2_with fail
          obtain ⟨g', hg'⟩ : ∃ g', gko = g' + 1 := ⟨gko - 1, by have := hi.out; omega⟩
          go_roundg g'
          case measure => omega
          case rel => exact ⟨i + 1, by have := hi.out; simp only [Hid]; omega, by omega, by go_num, rfl, HNI⟩
    · have hle : ¬ (i : Int) ≤ slip := by omega
      have HRB : Hid (RB = false) := by
        cases hrb : RB
        · rfl
        · obtain ⟨sl, off, h1, h2, h3⟩ := HR.out.1 hrb
          have := hno.out sl.toNat (off + 2 * read).toNat (by omega) (by omega)
          refine absurd ((Wh.tmod_zero (by omega)).2 ?_) this
          rw [show ((sl.toNat : Nat) : Int) = sl by omega, show -(2 * read) + (((off + 2 * read).toNat : Nat) : Int) = off by omega]
          exact h3
      go_wp2_with fail
      go_returns
      exact ⟨by rw [HRB.out]; rfl, hB1⟩
end Go.Proofs.YtkmacpkjobdffaaGreat
namespace Go.Proofs.YtkmacpkjobdffaaGreat
open Go.RowKit
set_option maxRecDepth 100000 in
set_option maxHeartbeats 4000000 in
theorem Wrongs3_any (d : Wh.Desk) (hok : Wh.okB d = true) (A : Option Addr) (c : Nat) (t : Wh.Tr) (w : World) (ht : Wh.tsm t) (hg : Wks w w.heap.size A d.ws) :
    Calls Tryz.prog 153 #[.agg (whV d), .slice A d.ws.length c, .agg #[.int .i64 t.1, .int .i64 t.2]] w fun e w' => e = .returned (.int .i64 (Wh.wrongN d t : Nat)) ∧ Below w.heap.size w w' := by
  have hd := Wh.ok_of hok
  have hln := Wh.ok_len hok
  have HF : Hid (∀ k, k < d.ws.length → ∀ W, Calls Tryz.prog 45 #[.agg (whV d), .agg #[.int .i64 (Wh.wkAt d.ws k).1, .int .i64 (Wh.wkAt d.ws k).2.1, .int .i64 (Wh.wkAt d.ws k).2.2.1, .int .i64 (Wh.wkAt d.ws k).2.2.2.1, .int .i64 (Wh.wkAt d.ws k).2.2.2.2], .agg #[.int .i64 t.1, .int .i64 t.2]] W fun e w' => e = .returned (.bool (Wh.rightB d (Wh.wkAt d.ws k) t)) ∧ Below W.heap.size W w') := fun k hk W => IsRight3_any d hd _ (by
    have := Wh.ok_wk hok k hk
    unfold Wh.wkB at this
    simp only [Bool.and_eq_true, Wh.signB_iff] at this
    exact this.1.1.1.1) (Wh.ok_sm hok k hk) t ht W
  have HG := Lib.hid hg
  have HS0 : Hid (∀ k, Wh.wrongTo d t (k + 1) = Wh.wrongTo d t k + (if Wh.rightB d (Wh.wkAt d.ws k) t then 0 else 1)) := fun k => rfl
  have HLE : Hid (∀ k, Wh.wrongTo d t k ≤ k) := Wh.wrongTo_le d t
  have HWN : Hid (Wh.wrongN d t = Wh.wrongTo d t d.ws.length) := rfl
  have HW0 : Hid (Wh.wrongTo d t 0 = 0) := rfl
  generalize Wh.wrongTo d t = WT at *
  generalize Wh.wrongN d t = WN at *
  obtain ⟨RBf, hRB⟩ : ∃ f : Nat → Bool, ∀ k, f k = Wh.rightB d (Wh.wkAt d.ws k) t := ⟨_, fun _ => rfl⟩
  simp only [← hRB] at HF HS0
  clear hRB hd hok hg ht
  obtain ⟨full, read, slip, skew, circ, glo, ghi, wrn, ws⟩ := d
  obtain ⟨t1, t2⟩ := t
  unfold whV at *
  dsimp only at *
  go_enter Tryz.func153, Tryz.ntmps153
  go_wp2_with fail
  have hB0 : Below w.heap.size w ((w.alloc (.cells #[.int .i64 full, .int .i64 read, .int .i64 slip, .int .i64 skew, .int .i64 circ, .int .i64 glo, .int .i64 ghi, .int .i64 wrn] 25)).alloc (.cells #[.int .i64 t1, .int .i64 t2] 73)) := by (repeat' (first | (with_reducible exact Below.refl _ _) | (with_reducible assumption) | (with_reducible refine Below.alloc ?_ ?_ _) | (with_reducible refine Below.drew ?_) | (with_reducible refine Below.setCell ?_ ?_ _) | go_size | (exact (by simp)) | omega))
  have bS0 := (BoxS.new w 25 #[.int .i64 full, .int .i64 read, .int .i64 slip, .int .i64 skew, .int .i64 circ, .int .i64 glo, .int .i64 ghi, .int .i64 wrn]).alloc (.cells #[.int .i64 t1, .int .i64 t2] 73)
  have bF0 := BoxS.new (w.alloc (.cells #[.int .i64 full, .int .i64 read, .int .i64 slip, .int .i64 skew, .int .i64 circ, .int .i64 glo, .int .i64 ghi, .int .i64 wrn] 25)) 73 #[.int .i64 t1, .int .i64 t2]
  rw [World.size_alloc] at bF0
  generalize World.alloc (World.alloc w _) _ = w1 at *
  go_loopw [7, 8] (fun m x wr => ∃ k : Nat, (k : Int) ≤ ws.length ∧ x = .int .i64 (k : Int) ∧ m = .int .i64 (WT k : Nat) ∧ BoxS wr w.heap.size 25 #[.int .i64 full, .int .i64 read, .int .i64 slip, .int .i64 skew, .int .i64 circ, .int .i64 glo, .int .i64 ghi, .int .i64 wrn] ∧ BoxS wr (w.heap.size + 1) 73 #[.int .i64 t1, .int .i64 t2] ∧ Below w.heap.size w wr) (fun _ x _ => (ws.length - intOf x).toNat)
  case atStart => exact ⟨0, by omega, rfl, by rw [HW0.out]; rfl, bS0, bF0, hB0⟩
  case round =>
    obtain ⟨k, hk, rfl, rfl, bS, bF, hB⟩ := hrel
    have hk0 := Int.natCast_nonneg k
    by_cases hlt : (k : Int) < ws.length
    · have hkn : k < ws.length := by omega
      obtain ⟨bb, off, hA, hbb, hc⟩ := HG.out (by omega)
      subst hA
      have HF1 := Lib.hid (HF.out k hkn)
      have HS := Lib.hid (HS0.out k)
      have hwl := HLE.out k
      have hw1 : IntKind.i64.wrap ((k : Int) + 1) = (k : Int) + 1 := IntWalk.i64_in _ (by omega)
      have hw2 : IntKind.i64.wrap ((WT k : Int) + 1) = ((WT k : Nat) : Int) + 1 := IntWalk.i64_in _ (by omega)
      have hlw : w.heap.size + 1 < wr.heap.size := bF.lt
      have HCC : Hid (∀ W', Below wr.heap.size wr W' → W'.cell? ⟨bb, off + k * 5, none⟩ = some (.int .i64 (Wh.wkAt ws k).1) ∧ W'.cell? ⟨bb, off + k * 5 + 1, none⟩ = some (.int .i64 (Wh.wkAt ws k).2.1) ∧ W'.cell? ⟨bb, off + k * 5 + 2, none⟩ = some (.int .i64 (Wh.wkAt ws k).2.2.1) ∧ W'.cell? ⟨bb, off + k * 5 + 3, none⟩ = some (.int .i64 (Wh.wkAt ws k).2.2.2.1) ∧ W'.cell? ⟨bb, off + k * 5 + 4, none⟩ = some (.int .i64 (Wh.wkAt ws k).2.2.2.2)) := fun W' hW => by
        obtain ⟨h0, h1, h2, h3, h4⟩ := hc k hkn
        have hBW := hB.trans (hW.mono hB.size)
        exact ⟨(hBW.cell (p := ⟨bb, _, none⟩) hbb).trans h0, (hBW.cell (p := ⟨bb, _, none⟩) hbb).trans h1, (hBW.cell (p := ⟨bb, _, none⟩) hbb).trans h2, (hBW.cell (p := ⟨bb, _, none⟩) hbb).trans h3, (hBW.cell (p := ⟨bb, _, none⟩) hbb).trans h4⟩
      clear hc HF HS0
      obtain ⟨m, hm⟩ : ∃ m, m = WT k := ⟨_, rfl⟩
      rw [← hm] at HS hwl hw2 ⊢
      obtain ⟨b, hb⟩ : ∃ b, b = RBf k := ⟨_, rfl⟩
      rw [← hb] at HS HF1
      clear hm hb
      generalize Wh.wkAt ws k = ct at *
      obtain ⟨c0, c1, c2, c3, c4⟩ := ct
      dsimp only at HCC HF1
      go_wp2_with fail
      refine (wpIn_wide (n := 4)).1 ?_
      have hmo : Tryz.prog.follows .mixedOrders = true := by kernel_rfl
      have q0 : Below wr.heap.size wr wr.drew := (Below.refl _ _).drew
      have KC : Hid (∀ W', Below wr.heap.size wr W' → (((W'.cell? ⟨w.heap.size, 0, none⟩ = some (.int .i64 full) ∧ W'.cell? ⟨w.heap.size, 1, none⟩ = some (.int .i64 read) ∧ W'.cell? ⟨w.heap.size, 2, none⟩ = some (.int .i64 slip)) ∧ W'.cell? ⟨w.heap.size, 3, none⟩ = some (.int .i64 skew) ∧ W'.cell? ⟨w.heap.size, 4, none⟩ = some (.int .i64 circ) ∧ W'.cell? ⟨w.heap.size, 5, none⟩ = some (.int .i64 glo)) ∧ W'.cell? ⟨w.heap.size, 6, none⟩ = some (.int .i64 ghi) ∧ W'.cell? ⟨w.heap.size, 7, none⟩ = some (.int .i64 wrn)) ∧ (W'.cell? ⟨w.heap.size + 1, 0, none⟩ = some (.int .i64 t1) ∧ W'.cell? ⟨w.heap.size + 1, 1, none⟩ = some (.int .i64 t2)) ∧ (W'.cell? ⟨bb, off + k * 5, none⟩ = some (.int .i64 c0) ∧ W'.cell? ⟨bb, off + k * 5 + 1, none⟩ = some (.int .i64 c1) ∧ W'.cell? ⟨bb, off + k * 5 + 2, none⟩ = some (.int .i64 c2) ∧ W'.cell? ⟨bb, off + k * 5 + 3, none⟩ = some (.int .i64 c3) ∧ W'.cell? ⟨bb, off + k * 5 + 4, none⟩ = some (.int .i64 c4))) :=
        fun W' h => ⟨boxS8 (bS.below h), ⟨(bF.below h).cell 0 rfl, (bF.below h).cell 1 rfl⟩, HCC.out W' h⟩
      clear HCC
      refine wpIn_region_held (fun W' => Below wr.heap.size wr W') 30 hmo ?_
      refine wpHeldIn_take (i := 0) (v := ?_) (plain_of (by kernel_rfl)) rfl (by kernel_rfl) (fun _ _ _ h => h) (yieldsSoIn_of (by kernel_rfl) ?_ (fun _ => rfl)) q0 ?_; rotate_left; focus (intro wq hw; have kq := KC.out wq hw; clear hw; go_simp; try (with_reducible rfl))
      refine wpHeldIn_take (i := 1) (v := ?_) (plain_of (by kernel_rfl)) rfl (by kernel_rfl) (fun _ _ _ h => h) (yieldsSoIn_of (by kernel_rfl) ?_ (fun _ => rfl)) q0 ?_; rotate_left; focus (intro wq hw; clear hw; go_simp; try (with_reducible rfl))
      refine wpHeldIn_take (i := 2) (v := ?_) (plain_of (by kernel_rfl)) rfl (by kernel_rfl) (fun _ _ _ h => h) (yieldsSoIn_of (by kernel_rfl) ?_ (fun _ => rfl)) q0 ?_; rotate_left; focus (intro wq hw; clear hw; go_simp; try (with_reducible rfl))
      refine wpHeldIn_take (i := 3) (v := ?_) (plain_of (by kernel_rfl)) rfl (by kernel_rfl) (fun _ _ _ h => h) (yieldsSoIn_of (by kernel_rfl) ?_ (fun _ => rfl)) q0 ?_; rotate_left; focus (intro wq hw; clear hw; go_simp; try (with_reducible rfl))
      refine wpHeldIn_take (i := 4) (v := ?_) (plain_of (by kernel_rfl)) rfl (by kernel_rfl) (fun _ _ _ h => h) (yieldsSoIn_of (by kernel_rfl) ?_ (fun _ => rfl)) q0 ?_; rotate_left; focus (intro wq hw; have kq := KC.out wq hw; clear hw; go_simp; try (with_reducible rfl))
      refine wpHeldIn_take (i := 5) (v := ?_) (plain_of (by kernel_rfl)) rfl (by kernel_rfl) (fun _ _ _ h => h) (yieldsSoIn_of (by kernel_rfl) ?_ (fun _ => rfl)) q0 ?_; rotate_left; focus (intro wq hw; have kq := KC.out wq hw; clear hw; go_simp; try (with_reducible rfl))
      refine wpHeldIn_one (i := 6) (by kernel_rfl) (by kernel_rfl) rfl (by kernel_rfl) (fun K' hK' => ?_); go_simp; refine ⟨trivial, (callsIn_wide.2 (HF1.out _)).mono ?_⟩; rintro e w3 ⟨rfl, hb3⟩
      have q1 := q0.trans (hb3.mono q0.size)
      refine hK' _ _ q1 ?_
      refine wpHeldIn_take (i := 7) (v := ?_) (plain_of (by kernel_rfl)) rfl (by kernel_rfl) (fun _ _ _ h => h) (yieldsSoIn_of (by kernel_rfl) ?_ (fun _ => rfl)) q1 ?_; rotate_left; focus (intro wq hw; clear hw; go_simp; try (with_reducible rfl))
      refine wpHeldIn_done (by kernel_rfl) ?_ _
      go_simp
      have bF3 := bF.below q1
      have bS3 := bS.below q1
      have hB3 := hB.trans (q1.mono hB.size)
      clear KC q0 q1 bF bS
      cases b with
      | true =>
        have HS2 : Hid (WT (k + 1) = m) := HS.out
        go_wp2_with fail
        go_roundw
        case rel => exact ⟨k + 1, by omega, by go_num, by rw [HS2.out], bS3, bF3, hB3⟩
        case measure => simp [intOf]; omega
      | false =>
        have HS2 : Hid (((WT (k + 1) : Nat) : Int) = (m : Int) + 1) := by unfold Hid; rw [HS.out]; rfl
        go_wp2_with fail
        go_roundw
        case rel => exact ⟨k + 1, by omega, by go_num, by rw [HS2.out], bS3, bF3, hB3⟩
        case measure => simp [intOf]; omega
    · obtain rfl : k = ws.length := by omega
      go_wp2_with fail
      go_returns
      exact ⟨by rw [HWN.out]; rfl, hB⟩
namespace Wh
def truthB (s : Desk) (f : Tr) : Bool := (inB f.1 s.glo s.ghi && inB f.2 (-s.skew) s.skew) && decide ((wrongN s f : Int) ≤ s.wr)
end Wh
set_option maxRecDepth 100000 in
set_option maxHeartbeats 4000000 in
theorem IsTruth3_any (d : Wh.Desk) (hok : Wh.okB d = true) (A : Option Addr) (c : Nat) (t : Wh.Tr) (w : World) (hg : Wks w w.heap.size A d.ws) :
    Calls Tryz.prog 131 #[.agg (whV d), .slice A d.ws.length c, .agg #[.int .i64 t.1, .int .i64 t.2]] w fun e w' => e = .returned (.bool (Wh.truthB d t)) ∧ Below w.heap.size w w' := by
  have hs := Wh.ok_of hok
  have HW : Hid (inB t.1 d.glo d.ghi = true → inB t.2 (-d.skew) d.skew = true → ∀ W, Below w.heap.size w W → Calls Tryz.prog 153 #[.agg (whV d), .slice A d.ws.length c, .agg #[.int .i64 t.1, .int .i64 t.2]] W fun e w' => e = .returned (.int .i64 (Wh.wrongN d t : Nat)) ∧ Below W.heap.size W w') := fun h1 h2 W hW =>
    Wrongs3_any d hok A c t W (by
      unfold inB at h1 h2
      simp only [Bool.and_eq_true, decide_eq_true_eq] at h1 h2
      have := hs.g1; have := hs.g3; have := hs.k1; have := hs.k2
      unfold Wh.tsm
      omega) ((hg.keep hW).wider hW.size)
  have HR : Hid (Wh.truthB d t = ((inB t.1 d.glo d.ghi && inB t.2 (-d.skew) d.skew) && decide ((Wh.wrongN d t : Int) ≤ d.wr))) := rfl
  have k1 := hs.k1
  have k2 := hs.k2
  have hwn : IntKind.i64.wrap (-d.skew) = -d.skew := IntWalk.i64_in _ (by omega)
  clear hs hg hok k1 k2
  generalize Wh.wrongN d t = m at *
  generalize Wh.truthB d t = R at *
  obtain ⟨full, read, slip, skew, circ, glo, ghi, wrn, ws⟩ := d
  obtain ⟨t1, t2⟩ := t
  unfold whV at *
  dsimp only at *
  have H1 : Hid (∀ W, Calls Tryz.prog 82 #[.int .i64 t1, .int .i64 glo, .int .i64 ghi] W fun e w' => e = .returned (.bool (inB t1 glo ghi)) ∧ w' = W) := fun W => within3_any t1 glo ghi W
  have H2 : Hid (∀ W, Calls Tryz.prog 82 #[.int .i64 t2, .int .i64 (-skew), .int .i64 skew] W fun e w' => e = .returned (.bool (inB t2 (-skew) skew)) ∧ w' = W) := fun W => within3_any t2 (-skew) skew W
  generalize inB t1 glo ghi = b1 at *
  generalize inB t2 (-skew) skew = b2 at *
  go_enter Tryz.func131, Tryz.ntmps131
  go_wp2_with fail
  have hB0 : Below w.heap.size w ((w.alloc (.cells #[.int .i64 full, .int .i64 read, .int .i64 slip, .int .i64 skew, .int .i64 circ, .int .i64 glo, .int .i64 ghi, .int .i64 wrn] 25)).alloc (.cells #[.int .i64 t1, .int .i64 t2] 73)) := by (repeat' (first | (with_reducible exact Below.refl _ _) | (with_reducible assumption) | (with_reducible refine Below.alloc ?_ ?_ _) | (with_reducible refine Below.drew ?_) | (with_reducible refine Below.setCell ?_ ?_ _) | go_size | (exact (by simp)) | omega))
  have bS0 := (BoxS.new w 25 #[.int .i64 full, .int .i64 read, .int .i64 slip, .int .i64 skew, .int .i64 circ, .int .i64 glo, .int .i64 ghi, .int .i64 wrn]).alloc (.cells #[.int .i64 t1, .int .i64 t2] 73)
  have bF0 := BoxS.new (w.alloc (.cells #[.int .i64 full, .int .i64 read, .int .i64 slip, .int .i64 skew, .int .i64 circ, .int .i64 glo, .int .i64 ghi, .int .i64 wrn] 25)) 73 #[.int .i64 t1, .int .i64 t2]
  rw [World.size_alloc] at bF0
  generalize World.alloc (World.alloc w _) _ = w1 at *
  refine (wpIn_wide (n := 4)).1 ?_
  have hmo : Tryz.prog.follows .mixedOrders = true := by kernel_rfl
  have q0 : Below w1.heap.size w1 w1.drew := (Below.refl _ _).drew
  have KC : Hid (∀ W', Below w1.heap.size w1 W' → (((W'.cell? ⟨w.heap.size, 0, none⟩ = some (.int .i64 full) ∧ W'.cell? ⟨w.heap.size, 1, none⟩ = some (.int .i64 read) ∧ W'.cell? ⟨w.heap.size, 2, none⟩ = some (.int .i64 slip)) ∧ W'.cell? ⟨w.heap.size, 3, none⟩ = some (.int .i64 skew) ∧ W'.cell? ⟨w.heap.size, 4, none⟩ = some (.int .i64 circ) ∧ W'.cell? ⟨w.heap.size, 5, none⟩ = some (.int .i64 glo)) ∧ W'.cell? ⟨w.heap.size, 6, none⟩ = some (.int .i64 ghi) ∧ W'.cell? ⟨w.heap.size, 7, none⟩ = some (.int .i64 wrn)) ∧ (W'.cell? ⟨w.heap.size + 1, 0, none⟩ = some (.int .i64 t1) ∧ W'.cell? ⟨w.heap.size + 1, 1, none⟩ = some (.int .i64 t2))) := fun W' h => ⟨boxS8 (bS0.below h), ⟨(bF0.below h).cell 0 rfl, (bF0.below h).cell 1 rfl⟩⟩
  refine wpIn_region_held (fun W' => Below w1.heap.size w1 W') 60 hmo ?_
  refine wpHeldIn_take (i := 0) (v := ?_) (plain_of (by kernel_rfl)) rfl (by kernel_rfl) (fun _ _ _ h => h) (yieldsSoIn_of (by kernel_rfl) ?_ (fun _ => rfl)) q0 ?_; rotate_left; focus (intro wq hw; clear hw; go_simp; try (with_reducible rfl))
  refine wpHeldIn_take (i := 1) (v := ?_) (plain_of (by kernel_rfl)) rfl (by kernel_rfl) (fun _ _ _ h => h) (yieldsSoIn_of (by kernel_rfl) ?_ (fun _ => rfl)) q0 ?_; rotate_left; focus (intro wq hw; have kq := KC.out wq hw; clear hw; go_simp; try (with_reducible rfl))
  refine wpHeldIn_take (i := 2) (v := ?_) (plain_of (by kernel_rfl)) rfl (by kernel_rfl) (fun _ _ _ h => h) (yieldsSoIn_of (by kernel_rfl) ?_ (fun _ => rfl)) q0 ?_; rotate_left; focus (intro wq hw; clear hw; go_simp; try (with_reducible rfl))
  refine wpHeldIn_take (i := 3) (v := ?_) (plain_of (by kernel_rfl)) rfl (by kernel_rfl) (fun _ _ _ h => h) (yieldsSoIn_of (by kernel_rfl) ?_ (fun _ => rfl)) q0 ?_; rotate_left; focus (intro wq hw; clear hw; go_simp; try (with_reducible rfl))
  refine wpHeldIn_take (i := 4) (v := ?_) (plain_of (by kernel_rfl)) rfl (by kernel_rfl) (fun _ _ _ h => h) (yieldsSoIn_of (by kernel_rfl) ?_ (fun _ => rfl)) q0 ?_; rotate_left; focus (intro wq hw; have kq := KC.out wq hw; clear hw; go_simp; try (with_reducible rfl))
  refine wpHeldIn_take (i := 5) (v := ?_) (plain_of (by kernel_rfl)) rfl (by kernel_rfl) (fun _ _ _ h => h) (yieldsSoIn_of (by kernel_rfl) ?_ (fun _ => rfl)) q0 ?_; rotate_left; focus (intro wq hw; clear hw; go_simp; try (with_reducible rfl))
  refine wpHeldIn_take (i := 6) (v := ?_) (plain_of (by kernel_rfl)) rfl (by kernel_rfl) (fun _ _ _ h => h) (yieldsSoIn_of (by kernel_rfl) ?_ (fun _ => rfl)) q0 ?_; rotate_left; focus (intro wq hw; clear hw; go_simp; try (with_reducible rfl))
  refine wpHeldIn_take (i := 7) (v := ?_) (plain_of (by kernel_rfl)) rfl (by kernel_rfl) (fun _ _ _ h => h) (yieldsSoIn_of (by kernel_rfl) ?_ (fun _ => rfl)) q0 ?_; rotate_left; focus (intro wq hw; have kq := KC.out wq hw; clear hw; go_simp; try (with_reducible rfl))
  refine wpHeldIn_one (i := 8) (by kernel_rfl) (by kernel_rfl) rfl (by kernel_rfl) (fun K1 hK1 => ?_)
  go_simp
  refine ⟨trivial, (callsIn_wide.2 (H1.out _)).mono ?_⟩
  rintro e w2 ⟨rfl, hw2⟩
  have hw2 := hw2.symm
  subst hw2
  refine hK1 _ _ q0 ?_
  cases b1 with
  | false =>
    refine wpHeldIn_take (i := 9) (v := ?_) (plain_of (by kernel_rfl)) rfl (by kernel_rfl) (fun _ _ _ h => h) (yieldsSoIn_of (by kernel_rfl) ?_ (fun _ => rfl)) q0 ?_; rotate_left; focus (intro wq hw; clear hw; go_simp; try (with_reducible rfl))
    refine wpHeldIn_skip (i := 10) (plain_of (by kernel_rfl)) rfl (by kernel_rfl) (by kernel_rfl) (fun _ => trivial) (by kernel_rfl) (fun _ _ _ h => h) q0 ?_
    refine wpHeldIn_skip (i := 11) (plain_of (by kernel_rfl)) rfl (by kernel_rfl) (by kernel_rfl) (fun _ => trivial) (by kernel_rfl) (fun _ _ _ h => h) q0 ?_
    refine wpHeldIn_skip (i := 12) (plain_of (by kernel_rfl)) rfl (by kernel_rfl) (by kernel_rfl) (fun _ => trivial) (by kernel_rfl) (fun _ _ _ h => h) q0 ?_
    refine wpHeldIn_skip (i := 13) (plain_of (by kernel_rfl)) rfl (by kernel_rfl) (by kernel_rfl) (fun _ => trivial) (by kernel_rfl) (fun _ _ _ h => h) q0 ?_
    refine wpHeldIn_skip (i := 14) (plain_of (by kernel_rfl)) rfl (by kernel_rfl) (by kernel_rfl) (fun _ => trivial) (by kernel_rfl) (fun _ _ _ h => h) q0 ?_
    refine wpHeldIn_skip (i := 15) (plain_of (by kernel_rfl)) rfl (by kernel_rfl) (by kernel_rfl) (fun _ => trivial) (by kernel_rfl) (fun _ _ _ h => h) q0 ?_
    refine wpHeldIn_skip (i := 16) (plain_of (by kernel_rfl)) rfl (by kernel_rfl) (by kernel_rfl) (fun _ => trivial) (by kernel_rfl) (fun _ _ _ h => h) q0 ?_
    refine wpHeldIn_skip (i := 17) (plain_of (by kernel_rfl)) rfl (by kernel_rfl) (by kernel_rfl) (fun _ => trivial) (by kernel_rfl) (fun _ _ _ h => h) q0 ?_
    refine wpHeldIn_take (i := 18) (v := ?_) (plain_of (by kernel_rfl)) rfl (by kernel_rfl) (fun _ _ _ h => h) (yieldsSoIn_of (by kernel_rfl) ?_ (fun _ => rfl)) q0 ?_; rotate_left; focus (intro wq hw; clear hw; go_simp; try (with_reducible rfl))
    refine wpHeldIn_take (i := 19) (v := ?_) (plain_of (by kernel_rfl)) rfl (by kernel_rfl) (fun _ _ _ h => h) (yieldsSoIn_of (by kernel_rfl) ?_ (fun _ => rfl)) q0 ?_; rotate_left; focus (intro wq hw; clear hw; go_simp; try (with_reducible rfl))
    refine wpHeldIn_skip (i := 20) (plain_of (by kernel_rfl)) rfl (by kernel_rfl) (by kernel_rfl) (fun _ => trivial) (by kernel_rfl) (fun _ _ _ h => h) q0 ?_
    refine wpHeldIn_skip (i := 21) (plain_of (by kernel_rfl)) rfl (by kernel_rfl) (by kernel_rfl) (fun _ => trivial) (by kernel_rfl) (fun _ _ _ h => h) q0 ?_
    refine wpHeldIn_skip (i := 22) (plain_of (by kernel_rfl)) rfl (by kernel_rfl) (by kernel_rfl) (fun _ => trivial) (by kernel_rfl) (fun _ _ _ h => h) q0 ?_
    refine wpHeldIn_skip (i := 23) (plain_of (by kernel_rfl)) rfl (by kernel_rfl) (by kernel_rfl) (fun _ => trivial) (by kernel_rfl) (fun _ _ _ h => h) q0 ?_
    refine wpHeldIn_skip (i := 24) (plain_of (by kernel_rfl)) rfl (by kernel_rfl) (by kernel_rfl) (fun _ => trivial) (by kernel_rfl) (fun _ _ _ h => h) q0 ?_
    refine wpHeldIn_skip (i := 25) (plain_of (by kernel_rfl)) rfl (by kernel_rfl) (by kernel_rfl) (fun _ => trivial) (by kernel_rfl) (fun _ _ _ h => h) q0 ?_
    refine wpHeldIn_skip (i := 26) (plain_of (by kernel_rfl)) rfl (by kernel_rfl) (by kernel_rfl) (fun _ => trivial) (by kernel_rfl) (fun _ _ _ h => h) q0 ?_
    refine wpHeldIn_take (i := 27) (v := ?_) (plain_of (by kernel_rfl)) rfl (by kernel_rfl) (fun _ _ _ h => h) (yieldsSoIn_of (by kernel_rfl) ?_ (fun _ => rfl)) q0 ?_; rotate_left; focus (intro wq hw; clear hw; go_simp; try (with_reducible rfl))
    refine wpHeldIn_take (i := 28) (v := ?_) (plain_of (by kernel_rfl)) rfl (by kernel_rfl) (fun _ _ _ h => h) (yieldsSoIn_of (by kernel_rfl) ?_ (fun _ => rfl)) q0 ?_; rotate_left; focus (intro wq hw; clear hw; go_simp; try (with_reducible rfl))
    refine wpHeldIn_done (by kernel_rfl) ?_ _
    go_simp
    have hBB := hB0.trans (q0.mono hB0.size)
    clear KC q0
    go_wp2_with fail
    go_returns
    exact ⟨by rw [HR.out]; rfl, hBB⟩
  | true =>
    refine wpHeldIn_take (i := 9) (v := ?_) (plain_of (by kernel_rfl)) rfl (by kernel_rfl) (fun _ _ _ h => h) (yieldsSoIn_of (by kernel_rfl) ?_ (fun _ => rfl)) q0 ?_; rotate_left; focus (intro wq hw; clear hw; go_simp; try (with_reducible rfl))
    refine wpHeldIn_take (i := 10) (v := ?_) (plain_of (by kernel_rfl)) rfl (by kernel_rfl) (fun _ _ _ h => h) (yieldsSoIn_of (by kernel_rfl) ?_ (fun _ => rfl)) q0 ?_; rotate_left; focus (intro wq hw; clear hw; go_simp; try (with_reducible rfl))
    refine wpHeldIn_take (i := 11) (v := ?_) (plain_of (by kernel_rfl)) rfl (by kernel_rfl) (fun _ _ _ h => h) (yieldsSoIn_of (by kernel_rfl) ?_ (fun _ => rfl)) q0 ?_; rotate_left; focus (intro wq hw; have kq := KC.out wq hw; clear hw; go_simp; try (with_reducible rfl))
    refine wpHeldIn_take (i := 12) (v := ?_) (plain_of (by kernel_rfl)) rfl (by kernel_rfl) (fun _ _ _ h => h) (yieldsSoIn_of (by kernel_rfl) ?_ (fun _ => rfl)) q0 ?_; rotate_left; focus (intro wq hw; clear hw; go_simp; try (with_reducible rfl))
    refine wpHeldIn_take (i := 13) (v := ?_) (plain_of (by kernel_rfl)) rfl (by kernel_rfl) (fun _ _ _ h => h) (yieldsSoIn_of (by kernel_rfl) ?_ (fun _ => rfl)) q0 ?_; rotate_left; focus (intro wq hw; have kq := KC.out wq hw; clear hw; go_simp; try (with_reducible rfl))
    refine wpHeldIn_take (i := 14) (v := ?_) (plain_of (by kernel_rfl)) rfl (by kernel_rfl) (fun _ _ _ h => h) (yieldsSoIn_of (by kernel_rfl) ?_ (fun _ => rfl)) q0 ?_; rotate_left; focus (intro wq hw; clear hw; go_simp; try (with_reducible rfl))
    refine wpHeldIn_take (i := 15) (v := ?_) (plain_of (by kernel_rfl)) rfl (by kernel_rfl) (fun _ _ _ h => h) (yieldsSoIn_of (by kernel_rfl) ?_ (fun _ => rfl)) q0 ?_; rotate_left; focus (intro wq hw; clear hw; go_simp; try (with_reducible rfl))
    refine wpHeldIn_take (i := 16) (v := ?_) (plain_of (by kernel_rfl)) rfl (by kernel_rfl) (fun _ _ _ h => h) (yieldsSoIn_of (by kernel_rfl) ?_ (fun _ => rfl)) q0 ?_; rotate_left; focus (intro wq hw; have kq := KC.out wq hw; clear hw; go_simp; try (with_reducible rfl))
    refine wpHeldIn_one (i := 17) (by kernel_rfl) (by kernel_rfl) rfl (by kernel_rfl) (fun K2 hK2 => ?_)
    go_simp
    refine ⟨trivial, (callsIn_wide.2 (H2.out _)).mono ?_⟩
    rintro e w2 ⟨rfl, hw2⟩
    have hw2 := hw2.symm
    subst hw2
    refine hK2 _ _ q0 ?_
    cases b2 with
    | false =>
      refine wpHeldIn_take (i := 18) (v := ?_) (plain_of (by kernel_rfl)) rfl (by kernel_rfl) (fun _ _ _ h => h) (yieldsSoIn_of (by kernel_rfl) ?_ (fun _ => rfl)) q0 ?_; rotate_left; focus (intro wq hw; clear hw; go_simp; try (with_reducible rfl))
      refine wpHeldIn_take (i := 19) (v := ?_) (plain_of (by kernel_rfl)) rfl (by kernel_rfl) (fun _ _ _ h => h) (yieldsSoIn_of (by kernel_rfl) ?_ (fun _ => rfl)) q0 ?_; rotate_left; focus (intro wq hw; clear hw; go_simp; try (with_reducible rfl))
      refine wpHeldIn_skip (i := 20) (plain_of (by kernel_rfl)) rfl (by kernel_rfl) (by kernel_rfl) (fun _ => trivial) (by kernel_rfl) (fun _ _ _ h => h) q0 ?_
      refine wpHeldIn_skip (i := 21) (plain_of (by kernel_rfl)) rfl (by kernel_rfl) (by kernel_rfl) (fun _ => trivial) (by kernel_rfl) (fun _ _ _ h => h) q0 ?_
      refine wpHeldIn_skip (i := 22) (plain_of (by kernel_rfl)) rfl (by kernel_rfl) (by kernel_rfl) (fun _ => trivial) (by kernel_rfl) (fun _ _ _ h => h) q0 ?_
      refine wpHeldIn_skip (i := 23) (plain_of (by kernel_rfl)) rfl (by kernel_rfl) (by kernel_rfl) (fun _ => trivial) (by kernel_rfl) (fun _ _ _ h => h) q0 ?_
      refine wpHeldIn_skip (i := 24) (plain_of (by kernel_rfl)) rfl (by kernel_rfl) (by kernel_rfl) (fun _ => trivial) (by kernel_rfl) (fun _ _ _ h => h) q0 ?_
      refine wpHeldIn_skip (i := 25) (plain_of (by kernel_rfl)) rfl (by kernel_rfl) (by kernel_rfl) (fun _ => trivial) (by kernel_rfl) (fun _ _ _ h => h) q0 ?_
      refine wpHeldIn_skip (i := 26) (plain_of (by kernel_rfl)) rfl (by kernel_rfl) (by kernel_rfl) (fun _ => trivial) (by kernel_rfl) (fun _ _ _ h => h) q0 ?_
      refine wpHeldIn_take (i := 27) (v := ?_) (plain_of (by kernel_rfl)) rfl (by kernel_rfl) (fun _ _ _ h => h) (yieldsSoIn_of (by kernel_rfl) ?_ (fun _ => rfl)) q0 ?_; rotate_left; focus (intro wq hw; clear hw; go_simp; try (with_reducible rfl))
      refine wpHeldIn_take (i := 28) (v := ?_) (plain_of (by kernel_rfl)) rfl (by kernel_rfl) (fun _ _ _ h => h) (yieldsSoIn_of (by kernel_rfl) ?_ (fun _ => rfl)) q0 ?_; rotate_left; focus (intro wq hw; clear hw; go_simp; try (with_reducible rfl))
      refine wpHeldIn_done (by kernel_rfl) ?_ _
      go_simp
      have hBB := hB0.trans (q0.mono hB0.size)
      clear KC q0
      go_wp2_with fail
      go_returns
      exact ⟨by rw [HR.out]; rfl, hBB⟩
    | true =>
      have HW1 := Lib.hid (HW.out (by trivial) (by trivial) w1.drew (hB0.trans (q0.mono hB0.size)))
      refine wpHeldIn_take (i := 18) (v := ?_) (plain_of (by kernel_rfl)) rfl (by kernel_rfl) (fun _ _ _ h => h) (yieldsSoIn_of (by kernel_rfl) ?_ (fun _ => rfl)) q0 ?_; rotate_left; focus (intro wq hw; clear hw; go_simp; try (with_reducible rfl))
      refine wpHeldIn_take (i := 19) (v := ?_) (plain_of (by kernel_rfl)) rfl (by kernel_rfl) (fun _ _ _ h => h) (yieldsSoIn_of (by kernel_rfl) ?_ (fun _ => rfl)) q0 ?_; rotate_left; focus (intro wq hw; clear hw; go_simp; try (with_reducible rfl))
      refine wpHeldIn_take (i := 20) (v := ?_) (plain_of (by kernel_rfl)) rfl (by kernel_rfl) (fun _ _ _ h => h) (yieldsSoIn_of (by kernel_rfl) ?_ (fun _ => rfl)) q0 ?_; rotate_left; focus (intro wq hw; have kq := KC.out wq hw; clear hw; go_simp; try (with_reducible rfl))
      refine wpHeldIn_take (i := 21) (v := ?_) (plain_of (by kernel_rfl)) rfl (by kernel_rfl) (fun _ _ _ h => h) (yieldsSoIn_of (by kernel_rfl) ?_ (fun _ => rfl)) q0 ?_; rotate_left; focus (intro wq hw; clear hw; go_simp; try (with_reducible rfl))
      refine wpHeldIn_take (i := 22) (v := ?_) (plain_of (by kernel_rfl)) rfl (by kernel_rfl) (fun _ _ _ h => h) (yieldsSoIn_of (by kernel_rfl) ?_ (fun _ => rfl)) q0 ?_; rotate_left; focus (intro wq hw; have kq := KC.out wq hw; clear hw; go_simp; try (with_reducible rfl))
      refine wpHeldIn_take (i := 24) (v := ?_) (plain_of (by kernel_rfl)) rfl (by kernel_rfl) (fun _ _ _ h => h) (yieldsSoIn_of (by kernel_rfl) ?_ (fun _ => rfl)) q0 ?_; rotate_left; focus (intro wq hw; clear hw; go_simp; try (with_reducible rfl))
      refine wpHeldIn_take (i := 25) (v := ?_) (plain_of (by kernel_rfl)) rfl (by kernel_rfl) (fun _ _ _ h => h) (yieldsSoIn_of (by kernel_rfl) ?_ (fun _ => rfl)) q0 ?_; rotate_left; focus (intro wq hw; have kq := KC.out wq hw; clear hw; go_simp; try (with_reducible rfl))
      refine wpHeldIn_one (i := 23) (by kernel_rfl) (by kernel_rfl) rfl (by kernel_rfl) (fun K3 hK3 => ?_)
      go_simp
      refine ⟨trivial, (callsIn_wide.2 HW1.out).mono ?_⟩
      rintro e w3 ⟨rfl, hb3⟩
      have q1 := q0.trans (hb3.mono q0.size)
      refine hK3 _ _ q1 ?_
      refine wpHeldIn_take (i := 26) (v := ?_) (plain_of (by kernel_rfl)) rfl (by kernel_rfl) (fun _ _ _ h => h) (yieldsSoIn_of (by kernel_rfl) ?_ (fun _ => rfl)) q1 ?_; rotate_left; focus (intro wq hw; clear hw; go_simp; try (with_reducible rfl))
      refine wpHeldIn_take (i := 27) (v := ?_) (plain_of (by kernel_rfl)) rfl (by kernel_rfl) (fun _ _ _ h => h) (yieldsSoIn_of (by kernel_rfl) ?_ (fun _ => rfl)) q1 ?_; rotate_left; focus (intro wq hw; clear hw; go_simp; try (with_reducible rfl))
      refine wpHeldIn_take (i := 28) (v := ?_) (plain_of (by kernel_rfl)) rfl (by kernel_rfl) (fun _ _ _ h => h) (yieldsSoIn_of (by kernel_rfl) ?_ (fun _ => rfl)) q1 ?_; rotate_left; focus (intro wq hw; clear hw; go_simp; try (with_reducible rfl))
      refine wpHeldIn_done (by kernel_rfl) ?_ _
      go_simp
      have hBB := hB0.trans (q1.mono hB0.size)
      clear KC q0 q1
      go_wp2_with fail
      go_returns
      exact ⟨by rw [HR.out]; rfl, hBB⟩
end Go.Proofs.YtkmacpkjobdffaaGreat
namespace Go.Proofs.YtkmacpkjobdffaaGreat
open Go.RowKit
namespace Wh
theorem of_cases {d : Desk} (hd : Ok d) {x : TrS} (h : x ∈ casesL d) : (d.glo ≤ x.1.1 ∧ x.1.1 ≤ d.ghi) ∧ (-d.skew ≤ x.1.2 ∧ x.1.2 ≤ d.skew) := by
  have g1 := hd.g1
  have g2 := hd.g2
  have g3 := hd.g3
  have k1 := hd.k1
  have k2 := hd.k2
  unfold casesL casesTo rowTo at h
  rw [List.mem_flatMap] at h
  obtain ⟨i, hi, h⟩ := h
  rw [List.mem_map] at h
  obtain ⟨j, hj, rfl⟩ := h
  have hi := List.mem_range.1 hi
  have hj := List.mem_range.1 hj
  unfold na at hi
  unfold nb at hj
  rw [trOf_val (by unfold tsm; dsimp only; omega)]
  dsimp only
  omega
def vals (L : List TrS) : List Tr := L.map (·.1)
def trAt (L : List Tr) (k : Nat) : Tr := (L[k]?).getD (0, 0)
theorem vals_append (a b : List TrS) : vals (a ++ b) = vals a ++ vals b := List.map_append
theorem vals_len (a : List TrS) : (vals a).length = a.length := List.length_map _
theorem vals_at {L : List TrS} {k : Nat} (hk : k < L.length) : trAt (vals L) k = (L[k]).1 := by unfold trAt vals; rw [List.getElem?_map, List.getElem?_eq_getElem hk]; rfl
theorem row_zero (s : Desk) (i : Nat) : rowTo s i 0 = [] := rfl
theorem all_step {s : Desk} (hs : Ok s) {i j : Nat} (hi : i < na s) (hj : j < nb s) : vals (casesTo s i ++ rowTo s i (j + 1)) = vals (casesTo s i ++ rowTo s i j) ++ [(s.glo + (i : Int), -s.skew + (j : Int))] := by
  have h1 := hs.g1
  have h2 := hs.g3
  have h3 := hs.k1
  have h4 := hs.k2
  unfold na at hi
  unfold nb at hj
  rw [rowTo_succ, ← List.append_assoc, vals_append]
  congr 1
  show [(trOf (s.glo + (i : Int), -s.skew + (j : Int))).1] = _
  rw [trOf_val (by unfold tsm; dsimp only; omega)]
theorem all_len {s : Desk} {i j : Nat} (hi : i < na s) (hj : j ≤ nb s) : (vals (casesTo s i ++ rowTo s i j)).length ≤ (casesL s).length := by
  rw [vals_len]
  exact (part_pre s hi hj).length_le
end Wh
theorem truth_info3 : (Tryz.prog.info? 73).map (fun i => (i.zero, i.size, i.bytes)) = some (some (.agg #[.int .i64 0, .int .i64 0]), 2, 16) := by kernel_rfl
theorem info_partsQ {o : Option TypeInfo} {z : Option Value} {n b : Nat} (h : o.map (fun i => (i.zero, i.size, i.bytes)) = some (z, n, b)) : ∃ i, o = some i ∧ i.zero = z ∧ i.size = n ∧ i.bytes = b := by
  cases o with
  | none => cases h
  | some i => simp at h; exact ⟨i, rfl, h.1, h.2.1, h.2.2⟩
theorem reads_q (w : World) (T : TypeId) (g : Int × Int) : Reads (w.alloc (.cells #[.int .i64 g.1, .int .i64 g.2] T)) (w.heap.size + 1) 2 (some ⟨w.heap.size, 0, none⟩) 1 (flat [g]) := by
  refine ⟨rfl, fun _ => ⟨_, rfl, by simp, fun j u hu => ?_⟩⟩
  match j with
  | 0 =>
    have hu' : u = .int .i64 g.1 := by simpa [flat] using hu.symm
    subst hu'
    show (w.alloc _).cell? ⟨w.heap.size, 0, none⟩ = _
    go_cell
  | 1 =>
    have hu' : u = .int .i64 g.2 := by simpa [flat] using hu.symm
    subst hu'
    show (w.alloc _).cell? ⟨w.heap.size, 1, none⟩ = _
    go_cell
  | j + 2 => simp [flat] at hu
/-- 'out = append(out, g)' on a row of the call's own. -/
theorem wpList_pushq {ops : Array Oper} {rest : List Oper} {o : Oper} {a : Act} {Q : Exit → Act → World → Prop} {wr : World} (hgd : o.guard = none) (s y : Operand)
    (ho : o.op = .call { callee := .builtin .append, args := #[s, y], argTypes := #[158, 158] }) (g : Int × Int) (B : Nat) (v : Value) (n : Nat) (xs : List Value) (hs : a.eval s = v)
    (hx : a.eval y = .slice (some ⟨wr.heap.size, 0, none⟩) 1 1) (hown : wr.ownsRow B 73 2 v n xs) (hB : B ≤ wr.heap.size) (hn : n ≤ 100000)
    (h : ∀ v' w', w'.ownsRow B 73 2 v' (n + 1) (xs ++ flat [g]) → Below B wr w' → wpList Tryz.prog ops Q rest (a.put o.dst v') w') :
    wpList Tryz.prog ops Q (o :: rest) a (wr.alloc (.cells #[.int .i64 g.1, .int .i64 g.2] 73)) := by
  obtain ⟨i0, hi0, hz0, hz1, hz2⟩ := info_partsQ truth_info3
  refine wpList_append_any _ hgd s y 158 ho B 73 i0 (.agg #[.int .i64 0, .int .i64 0]) 2 16 Tryz.underlying158 hi0 hz0 hz1 hz2 rfl (by decide) v n xs hs (hown.alloc _) (wr.heap.size + 1) (some ⟨wr.heap.size, 0, none⟩) 1 1 (flat [g]) hx (reads_q wr _ g) (flat_one [g]) (by simp only [maxLen]; omega) (by omega) (by simp; omega) ?_
  intro v' w' hown' hgr _
  exact h v' w' hown' (((Below.refl B wr).alloc hB _).grown hgr (by simp; omega) (fun j hj => (hown.lt j hj).1))
theorem ownq_nil (w : World) (B : Nat) {L : List (Int × Int)} (h : L = []) : w.ownsRow B 73 2 (.slice none 0 0) L.length (flat L) := by subst h; exact ⟨rfl, .inl ⟨rfl, rfl⟩⟩
theorem ownq_below {w w' : World} {B : Nat} {v : Value} {n : Nat} {xs : List Value} (h : w.ownsRow B 73 2 v n xs) (hb : Below w.heap.size w w') : w'.ownsRow B 73 2 v n xs :=
  h.kept (row := none) ⟨hb.os, hb.tape, hb.output, hb.size, fun k hk _ => hb.block k hk⟩ (by cases hv : v.ownBlock <;> simp)
theorem prs_of_own {w : World} {B : Nat} {L : List (Int × Int)} {v : Value} (h : w.ownsRow B 73 2 v L.length (flat L)) : ∃ A c, v = .slice A L.length c ∧ Hid (Prs w w.heap.size A L) := by
  obtain ⟨A, c, rfl⟩ := own_form2 h
  exact ⟨A, c, rfl, Prs.of_reads (Reads.of_own h)⟩
/-- A list of pairs. -/
def PrsPost (L : List (Int × Int)) (w : World) (e : Ending) (w' : World) : Prop := ∃ A c, e = .returned (.slice A L.length c) ∧ Hid (Prs w' w'.heap.size A L) ∧ Below w.heap.size w w'
def PrsEPost (L : List (Int × Int)) (x : Int) (w : World) (e : Ending) (w' : World) : Prop := ∃ A c, e = .returned (.tuple #[.slice A L.length c, .int .i64 x]) ∧ Hid (Prs w' w'.heap.size A L) ∧ Below w.heap.size w w'

set_option maxRecDepth 100000 in
set_option maxHeartbeats 4000000 in
theorem all3_any (s : Wh.Desk) (hs : Wh.Ok s) (hz : (Wh.casesL s).length ≤ 90000) (w : World) :
    Calls Tryz.prog 130 #[.agg (whV s)] w (PrsPost (Wh.vals (Wh.casesL s)) w) := by
  have g1 := hs.g1
  have g2 := hs.g2
  have g3 := hs.g3
  have k1 := hs.k1
  have k2 := hs.k2
  have hN1 : s.glo + ((Wh.na s : Nat) : Int) = s.ghi + 1 := by unfold Wh.na; omega
  have hN2 : -s.skew + ((Wh.nb s : Nat) : Int) = s.skew + 1 := by unfold Wh.nb; omega
  have HE : Hid (Wh.vals (Wh.casesL s) = Wh.vals (Wh.casesTo s (Wh.na s))) := rfl
  have HR0 : Hid (∀ i, Wh.vals (Wh.casesTo s i ++ Wh.rowTo s i 0) = Wh.vals (Wh.casesTo s i)) := fun i => by rw [Wh.row_zero, List.append_nil]
  have HRE : Hid (∀ i, Wh.vals (Wh.casesTo s i ++ Wh.rowTo s i (Wh.nb s)) = Wh.vals (Wh.casesTo s (i + 1))) := fun i => by rw [Wh.casesTo_succ]
  have HRS : Hid (∀ i j, i < Wh.na s → j < Wh.nb s → Wh.vals (Wh.casesTo s i ++ Wh.rowTo s i (j + 1)) = Wh.vals (Wh.casesTo s i ++ Wh.rowTo s i j) ++ [(s.glo + (i : Int), -s.skew + (j : Int))]) := fun i j hi hj => Wh.all_step hs hi hj
  have HLN : Hid (∀ i j, i < Wh.na s → j ≤ Wh.nb s → (Wh.vals (Wh.casesTo s i ++ Wh.rowTo s i j)).length ≤ 90000) := fun i j hi hj => Nat.le_trans (Wh.all_len hi hj) hz
  have HC0 : Hid (Wh.vals (Wh.casesTo s 0) = []) := rfl
  have hwn : IntKind.i64.wrap (-s.skew) = -s.skew := IntWalk.i64_in _ (by omega)
  clear hz
  generalize Wh.vals (Wh.casesL s) = LL at *
  generalize Wh.na s = n1 at *
  generalize Wh.nb s = n2 at *
  obtain ⟨C, hC⟩ : ∃ C : Nat → List Wh.Tr, ∀ i, C i = Wh.vals (Wh.casesTo s i) := ⟨_, fun _ => rfl⟩
  obtain ⟨R, hR⟩ : ∃ R : Nat → Nat → List Wh.Tr, ∀ i j, R i j = Wh.vals (Wh.casesTo s i ++ Wh.rowTo s i j) := ⟨_, fun _ _ => rfl⟩
  simp only [← hC, ← hR] at HE HR0 HRE HRS HLN HC0
  clear hC hR hs
  obtain ⟨full, read, slip, skew, circ, glo, ghi, wrn, ws⟩ := s
  unfold whV
  dsimp only at *
  go_enter Tryz.func130, Tryz.ntmps130
  go_wp2_with fail
  have bS1 := BoxS.new w 25 #[.int .i64 full, .int .i64 read, .int .i64 slip, .int .i64 skew, .int .i64 circ, .int .i64 glo, .int .i64 ghi, .int .i64 wrn]
  have hB1 : Below w.heap.size w (w.alloc (.cells #[.int .i64 full, .int .i64 read, .int .i64 slip, .int .i64 skew, .int .i64 circ, .int .i64 glo, .int .i64 ghi, .int .i64 wrn] 25)) := by (repeat' (first | (with_reducible exact Below.refl _ _) | (with_reducible assumption) | (with_reducible refine Below.alloc ?_ ?_ _) | (with_reducible refine Below.drew ?_) | (with_reducible refine Below.setCell ?_ ?_ _) | go_size | (exact (by simp)) | omega))
  have hz1 : w.heap.size < (w.alloc (.cells #[.int .i64 full, .int .i64 read, .int .i64 slip, .int .i64 skew, .int .i64 circ, .int .i64 glo, .int .i64 ghi, .int .i64 wrn] 25)).heap.size := by simp
  generalize World.alloc w _ = w1 at *
  obtain ⟨⟨⟨s0, s1, s2⟩, s3, s4, s5⟩, s6, s7⟩ := boxS8 bS1
  try go_wp2_with fail
  clear s0 s1 s2 s3 s4 s5 s6 s7
  go_loopg [3, 4, 5] n1 (fun g x3 x4 x5 wx => ∃ i : Nat, Hid (i + g = n1) ∧ (i : Int) ≤ n1 ∧ x4 = .int .i64 (glo + (i : Int)) ∧ Below w.heap.size w wx ∧ w.heap.size < wx.heap.size ∧ BoxS wx w.heap.size 25 #[.int .i64 full, .int .i64 read, .int .i64 slip, .int .i64 skew, .int .i64 circ, .int .i64 glo, .int .i64 ghi, .int .i64 wrn] ∧ wx.ownsRow (w.heap.size + 1) 73 2 x3 (C i).length (flat (C i)))
  case atStart => exact ⟨0, by simp [Hid], by omega, by simp, hB1, hz1, bS1, ownq_nil _ _ HC0.out⟩
  case round =>
    clear hB1 hz1 bS1
    obtain ⟨i, hi, hi1, rfl, hB, hz, bS, hown⟩ := hrel
    have hi0 := Int.natCast_nonneg i
    obtain ⟨⟨⟨s0, s1, s2⟩, s3, s4, s5⟩, s6, s7⟩ := boxS8 bS
    by_cases hlt : (i : Int) < n1
    · have hle : glo + (i : Int) ≤ ghi := by omega
      have hin : i < n1 := by omega
      have HOW : Hid (wr.ownsRow (w.heap.size + 1) 73 2 u3 (R i 0).length (flat (R i 0))) := by rw [HR0.out]; exact hown
      have HRS1 := Lib.hid (fun j => HRS.out i j hin)
      have HLN1 := Lib.hid (fun j => HLN.out i j hin)
      have HRE1 := Lib.hid (HRE.out i)
      clear hown hlt
      go_wp2_with fail
      obtain ⟨gko, rfl⟩ : ∃ gko, gko = gk := ⟨_, rfl⟩
      obtain ⟨wq, rfl⟩ : ∃ wq, wq = wr := ⟨_, rfl⟩
      clear s0 s1 s2 s3 s4 s5 s6 s7
      go_loopg [3, 5] n2 (fun g x3 x5 wx => ∃ j : Nat, Hid (j + g = n2) ∧ (j : Int) ≤ n2 ∧ x5 = .int .i64 (-skew + (j : Int)) ∧ Below w.heap.size w wx ∧ w.heap.size < wx.heap.size ∧ BoxS wx w.heap.size 25 #[.int .i64 full, .int .i64 read, .int .i64 slip, .int .i64 skew, .int .i64 circ, .int .i64 glo, .int .i64 ghi, .int .i64 wrn] ∧ wx.ownsRow (w.heap.size + 1) 73 2 x3 (R i j).length (flat (R i j)))
      case atStart => exact ⟨0, by simp [Hid], by omega, by simp, hB, hz, bS, HOW.out⟩
      case round =>
        clear hB hz bS HOW
        obtain ⟨j, hj, hj1, rfl, hB, hz, bS, hown⟩ := hrel
        have hj0 := Int.natCast_nonneg j
        obtain ⟨⟨⟨s0, s1, s2⟩, s3, s4, s5⟩, s6, s7⟩ := boxS8 bS
        by_cases hlt : (j : Int) < n2
        · have hle2 : -skew + (j : Int) ≤ skew := by omega
          have hjn : j < n2 := by omega
          have hw1 : IntKind.i64.wrap (-skew + (j : Int) + 1) = -skew + (j : Int) + 1 := IntWalk.i64_in _ (by omega)
          have HO := Lib.hid hown
          have hln := HLN1.out j (by omega)
          have HS1 := Lib.hid (HRS1.out j hjn)
          clear hown hlt
          go_wp2_with (at_builtin; refine wpList_pushq rfl (.tmp 25) (.tmp 29) rfl (glo + (i : Int), -skew + (j : Int)) (w.heap.size + 1) _ _ _ rfl rfl HO.out (by omega) (by omega) ?_; intro v' w3 hown3 hb3; have HO3 := Lib.hid hown3; clear hown3)
          obtain ⟨g', hg'⟩ : ∃ g', gk = g' + 1 := ⟨gk - 1, by have := hj.out; omega⟩
          go_roundg g'
          case measure => omega
          case rel =>
            refine ⟨j + 1, by have := hj.out; simp only [Hid]; omega, by omega, by simp; omega, hB.trans (hb3.mono (by omega)), by have := hb3.size; omega, (hb3.block w.heap.size (by omega)).trans bS, ?_⟩
            rw [HS1.out, flat_append, List.length_append]
            exact HO3.out
        · have e : j = n2 := by omega
          have hle2 : ¬ -skew + (j : Int) ≤ skew := by omega
          have HO : Hid (wr.ownsRow (w.heap.size + 1) 73 2 u3 (C (i + 1)).length (flat (C (i + 1)))) := by rw [← HRE1.out, ← e]; exact hown
          have hw1 : IntKind.i64.wrap (glo + (i : Int) + 1) = glo + (i : Int) + 1 := IntWalk.i64_in _ (by omega)
          clear hown hlt e
          go_wp2_with fail
          obtain ⟨g', hg'⟩ : ∃ g', gko = g' + 1 := ⟨gko - 1, by have := hi.out; omega⟩
          go_roundg g'
          case measure => omega
          case rel => exact ⟨i + 1, by have := hi.out; simp only [Hid]; omega, by omega, by simp; omega, hB, hz, bS, HO.out⟩
    · have e : i = n1 := by omega
      have hle : ¬ glo + (i : Int) ≤ ghi := by omega
      rw [e, ← HE.out] at hown
      obtain ⟨A', c', hv, hP⟩ := prs_of_own hown
      have HV := Lib.hid hv
      clear hown hv hlt e
      go_wp2_with fail
      go_returns
      exact ⟨A', c', by rw [HV.out]; rfl, hP, hB⟩
namespace Wh
theorem truth_tr {s : Desk} (hs : Ok s) {f : TrS} (h : f ∈ casesL s) : truthB s f.1 = trB s f := by
  obtain ⟨⟨h1, h2⟩, h3, h4⟩ := of_cases hs h
  unfold truthB trB inB
  simp [h1, h2, h3, h4]
/-- The truths among the first cases. -/
def fltTo (s : Desk) (k : Nat) : List Tr := vals (((casesL s).take k).filter (trB s))
theorem flt_all (s : Desk) : fltTo s (casesL s).length = vals (truthsL s) := by unfold fltTo truthsL; rw [List.take_length]
theorem flt_step {s : Desk} (hs : Ok s) {k : Nat} (hk : k < (casesL s).length) :
    (truthB s (trAt (vals (casesL s)) k) = true → fltTo s (k + 1) = fltTo s k ++ [trAt (vals (casesL s)) k]) ∧ (truthB s (trAt (vals (casesL s)) k) = false → fltTo s (k + 1) = fltTo s k) := by
  have hm : (casesL s)[k] ∈ casesL s := List.getElem_mem hk
  rw [vals_at hk, truth_tr hs hm]
  unfold fltTo
  rw [List.take_succ_eq_append_getElem hk, List.filter_append, vals_append]
  constructor
  · intro h
    congr 1
    simp [h, vals]
  · intro h
    simp [h, vals]
theorem flt_len (s : Desk) (k : Nat) : (fltTo s k).length ≤ (casesL s).length := by
  unfold fltTo
  rw [vals_len]
  refine Nat.le_trans (List.length_filter_le _ _) ?_
  rw [List.length_take]
  omega
def knE (s : Desk) (b : Bool) : Int := if okB s then (if b then (if truthsL s = [] then 3 else 0) else 1) else chkE s
def knL (s : Desk) (b : Bool) : List Tr := if knE s b = 0 then vals (truthsL s) else []
theorem knE_sp (s : Desk) : knE s true = spE s := by unfold knE spE; simp
theorem kn_of {s : Desk} {x : Int} {b : Bool} (h : knE s b = x) (hx : x ≠ 0) : knL s b = [] := by unfold knL; rw [h, if_neg hx]
end Wh
set_option maxRecDepth 100000 in
set_option maxHeartbeats 4000000 in
theorem known3_any (s : Wh.Desk) (A : Option Addr) (c : Nat) (b : Bool) (w : World) (hl : s.ws.length ≤ 1000000000) (hz : Wh.okB s = true → (Wh.casesL s).length ≤ 90000) (hg : Wks w w.heap.size A s.ws) :
    Calls Tryz.prog 118 #[.agg (whV s), .slice A s.ws.length c, .bool b] w (PrsEPost (Wh.knL s b) (Wh.knE s b) w) := by
  have HC : Hid (∀ W, Below w.heap.size w W → Calls Tryz.prog 53 #[.agg (whV s), .slice A s.ws.length c] W (ErrPost (Wh.chkE s) W)) := fun W hW => Check3_any s A c W hl ((hg.keep hW).wider hW.size)
  have HE : Hid (Wh.knE s b = if Wh.okB s then (if b then (if Wh.truthsL s = [] then 3 else 0) else 1) else Wh.chkE s) := rfl
  have HL : Hid (∀ x, Wh.knE s b = x → x ≠ 0 → Wh.knL s b = []) := fun x h hx => Wh.kn_of h hx
  have HL0 : Hid (Wh.knE s b = 0 → Wh.knL s b = Wh.vals (Wh.truthsL s)) := fun h => by unfold Hid Wh.knL at *; rw [if_pos h]
  cases hok : Wh.okB s with
  | false =>
    have hne := Wh.chkE_no hok
    have he : Hid (Wh.knE s b = Wh.chkE s) := by unfold Hid; rw [HE.out, hok]; rfl
    have hL := Lib.hid (HL.out _ he.out hne)
    have hcb : (Wh.chkE s != 0) = true := by simpa using hne
    generalize Wh.knE s b = E at *
    generalize Wh.knL s b = L at *
    clear hg hl HE HL HL0 hok hz hne
    generalize Wh.chkE s = CE at *
    obtain ⟨full, read, slip, skew, circ, glo, ghi, wrn, ws⟩ := s
    unfold whV at *
    dsimp only at *
    go_enter Tryz.func118, Tryz.ntmps118
    go_wp2_with fail
    have hB1 : Below w.heap.size w (w.alloc (.cells #[.int .i64 full, .int .i64 read, .int .i64 slip, .int .i64 skew, .int .i64 circ, .int .i64 glo, .int .i64 ghi, .int .i64 wrn] 25)) := by (repeat' (first | (with_reducible exact Below.refl _ _) | (with_reducible assumption) | (with_reducible refine Below.alloc ?_ ?_ _) | (with_reducible refine Below.drew ?_) | (with_reducible refine Below.setCell ?_ ?_ _) | go_size | (exact (by simp)) | omega))
    have bS1 := BoxS.new w 25 #[.int .i64 full, .int .i64 read, .int .i64 slip, .int .i64 skew, .int .i64 circ, .int .i64 glo, .int .i64 ghi, .int .i64 wrn]
    generalize World.alloc w _ = w1 at *
    refine (HC.out _ hB1).mono ?_
    rintro e2 w2 ⟨rfl, hb2⟩
    have bS2 := bS1.below hb2
    have hB2 := hB1.trans (hb2.mono hB1.size)
    clear bS1 hb2 hB1 HC
    go_wp2_with fail
    go_returns
    exact ⟨none, 0, by rw [hL.out, he.out]; rfl, by rw [hL.out]; exact fun h => by simp at h, hB2⟩
  | true =>
    rw [Wh.chkE_yes hok] at HC
    cases b with
    | false =>
      have he : Hid (Wh.knE s false = 1) := by unfold Hid; rw [HE.out, hok]; rfl
      have hL := Lib.hid (HL.out 1 he.out (by decide))
      generalize Wh.knE s false = E at *
      generalize Wh.knL s false = L at *
      clear hg hl HE HL HL0 hok hz
      obtain ⟨full, read, slip, skew, circ, glo, ghi, wrn, ws⟩ := s
      unfold whV at *
      dsimp only at *
      go_enter Tryz.func118, Tryz.ntmps118
      go_wp2_with fail
      have hB1 : Below w.heap.size w (w.alloc (.cells #[.int .i64 full, .int .i64 read, .int .i64 slip, .int .i64 skew, .int .i64 circ, .int .i64 glo, .int .i64 ghi, .int .i64 wrn] 25)) := by (repeat' (first | (with_reducible exact Below.refl _ _) | (with_reducible assumption) | (with_reducible refine Below.alloc ?_ ?_ _) | (with_reducible refine Below.drew ?_) | (with_reducible refine Below.setCell ?_ ?_ _) | go_size | (exact (by simp)) | omega))
      have bS1 := BoxS.new w 25 #[.int .i64 full, .int .i64 read, .int .i64 slip, .int .i64 skew, .int .i64 circ, .int .i64 glo, .int .i64 ghi, .int .i64 wrn]
      generalize World.alloc w _ = w1 at *
      refine (HC.out _ hB1).mono ?_
      rintro e2 w2 ⟨rfl, hb2⟩
      have bS2 := bS1.below hb2
      have hB2 := hB1.trans (hb2.mono hB1.size)
      clear bS1 hb2 hB1 HC
      go_wp2_with fail
      go_returns
      exact ⟨none, 0, by rw [hL.out, he.out]; rfl, by rw [hL.out]; exact fun h => by simp at h, hB2⟩
    | true =>
      have hs := Wh.ok_of hok
      have hzz := hz hok
      have he : Hid (Wh.knE s true = if Wh.truthsL s = [] then 3 else 0) := by unfold Hid; rw [HE.out, hok]; rfl
      have HP : Hid (∀ W, Calls Tryz.prog 130 #[.agg (whV s)] W (PrsPost (Wh.vals (Wh.casesL s)) W)) := fun W => all3_any s hs hzz W
      have HIT : Hid (∀ (f : Wh.Tr) W, Below w.heap.size w W → Calls Tryz.prog 131 #[.agg (whV s), .slice A s.ws.length c, .agg #[.int .i64 f.1, .int .i64 f.2]] W fun e w' => e = .returned (.bool (Wh.truthB s f)) ∧ Below W.heap.size W w') := fun f W hW => IsTruth3_any s hok A c f W ((hg.keep hW).wider hW.size)
      have hvl : (Wh.vals (Wh.casesL s)).length = (Wh.casesL s).length := Wh.vals_len _
      have HFS : Hid (∀ k, k < (Wh.vals (Wh.casesL s)).length → (Wh.truthB s (Wh.trAt (Wh.vals (Wh.casesL s)) k) = true → Wh.fltTo s (k + 1) = Wh.fltTo s k ++ [Wh.trAt (Wh.vals (Wh.casesL s)) k]) ∧ (Wh.truthB s (Wh.trAt (Wh.vals (Wh.casesL s)) k) = false → Wh.fltTo s (k + 1) = Wh.fltTo s k)) := fun k hk => Wh.flt_step hs (by rw [← hvl]; exact hk)
      have HFN : Hid (Wh.fltTo s (Wh.vals (Wh.casesL s)).length = Wh.vals (Wh.truthsL s)) := by rw [hvl]; exact Wh.flt_all s
      have HF0 : Hid (Wh.fltTo s 0 = []) := by unfold Wh.fltTo Wh.vals; simp [Hid]
      have HFL : Hid (∀ k, (Wh.fltTo s k).length ≤ 90000) := fun k => Nat.le_trans (Wh.flt_len s k) hzz
      have hnl : (Wh.vals (Wh.casesL s)).length ≤ 90000 := by rw [hvl]; exact hzz
      have HT0 : Hid (Wh.truthsL s = [] ↔ Wh.vals (Wh.truthsL s) = []) := by unfold Hid Wh.vals; simp
      clear hzz hz
      generalize Wh.vals (Wh.casesL s) = P at *
      generalize Wh.fltTo s = F at *
      generalize Wh.vals (Wh.truthsL s) = TV at *
      generalize Wh.truthB s = TB at *
      generalize Wh.truthsL s = TL at *
      generalize Wh.knE s true = E at *
      generalize Wh.knL s true = L at *
      clear hg hl HE hok hs hvl
      obtain ⟨full, read, slip, skew, circ, glo, ghi, wrn, ws⟩ := s
      unfold whV at *
      dsimp only at *
      go_enter Tryz.func118, Tryz.ntmps118
      go_wp2_with fail
      have hB1 : Below w.heap.size w (w.alloc (.cells #[.int .i64 full, .int .i64 read, .int .i64 slip, .int .i64 skew, .int .i64 circ, .int .i64 glo, .int .i64 ghi, .int .i64 wrn] 25)) := by (repeat' (first | (with_reducible exact Below.refl _ _) | (with_reducible assumption) | (with_reducible refine Below.alloc ?_ ?_ _) | (with_reducible refine Below.drew ?_) | (with_reducible refine Below.setCell ?_ ?_ _) | go_size | (exact (by simp)) | omega))
      have bS1 := BoxS.new w 25 #[.int .i64 full, .int .i64 read, .int .i64 slip, .int .i64 skew, .int .i64 circ, .int .i64 glo, .int .i64 ghi, .int .i64 wrn]
      generalize World.alloc w _ = w1 at *
      refine (HC.out _ hB1).mono ?_
      rintro e2 w2 ⟨rfl, hb2⟩
      have bS2 := bS1.below hb2
      have hB2 := hB1.trans (hb2.mono hB1.size)
      clear bS1 hb2 hB1 HC
      obtain ⟨⟨⟨s0, s1, s2⟩, s3, s4, s5⟩, s6, s7⟩ := boxS8 bS2
      have lS := bS2.lt
      go_wp2_with fail
      refine (HP.out _).mono ?_
      rintro e3 w3 ⟨A3, c3, rfl, hP3, hb3⟩
      have bS3 := bS2.below hb3
      have hB3 := hB2.trans (hb3.mono hB2.size)
      have hz3 : w.heap.size < w3.heap.size := bS3.lt
      clear s0 s1 s2 s3 s4 s5 s6 s7 lS bS2 hb3 hB2 HP
      go_wp2_with fail
      obtain ⟨wb, hwb⟩ : ∃ wb, wb = w3 := ⟨_, rfl⟩
      have hbb : Below wb.heap.size wb w3 := by rw [hwb]; exact Below.refl _ _
      have hPb : Hid (Prs wb wb.heap.size A3 P) := by rw [hwb]; exact hP3
      have hzb : w.heap.size < wb.heap.size := by rw [hwb]; exact hz3
      clear hwb hP3 hz3
      go_loopg [9, 11] P.length (fun g x9 x11 wx => ∃ k : Nat, Hid (k + g = P.length) ∧ (k : Int) ≤ P.length ∧ x11 = .int .i64 k ∧ Below w.heap.size w wx ∧ Below wb.heap.size wb wx ∧ BoxS wx w.heap.size 25 #[.int .i64 full, .int .i64 read, .int .i64 slip, .int .i64 skew, .int .i64 circ, .int .i64 glo, .int .i64 ghi, .int .i64 wrn] ∧ wx.ownsRow wb.heap.size 73 2 x9 (F k).length (flat (F k)))
      case atStart => exact ⟨0, by simp [Hid], by omega, rfl, hB3, hbb, bS3, ownq_nil _ _ HF0.out⟩
      case round =>
        clear hB3 hbb bS3
        obtain ⟨k, hk, hk1, rfl, hB, hbb, bS, hown⟩ := hrel
        have hk0 := Int.natCast_nonneg k
        by_cases hlt : (k : Int) < P.length
        · have hkn : k < P.length := by omega
          have hPk : P[k]? = some (Wh.trAt P k) := by unfold Wh.trAt; rw [List.getElem?_eq_getElem hkn]; rfl
          obtain ⟨bp, op, rfl, hbp, hcp⟩ := hPb.out (by omega)
          obtain ⟨h0, h1⟩ := hcp k _ hPk
          have HIT1 := Lib.hid (HIT.out (Wh.trAt P k))
          have HFS1 := Lib.hid (HFS.out k hkn)
          have HO := Lib.hid hown
          have hfl := HFL.out k
          have hlb := hbb.size
          have hw1 : IntKind.i64.wrap ((k : Int) + 1) = (k : Int) + 1 := IntWalk.i64_in _ (by omega)
          have HCC : Hid (∀ W', Below wr.heap.size wr W' → W'.cell? ⟨bp, op + k * 2, none⟩ = some (.int .i64 (Wh.trAt P k).1) ∧ W'.cell? ⟨bp, op + k * 2 + 1, none⟩ = some (.int .i64 (Wh.trAt P k).2)) := fun W' hW => by
            have hBW := hbb.trans (hW.mono hbb.size)
            exact ⟨(hBW.cell (p := ⟨bp, _, none⟩) hbp).trans h0, (hBW.cell (p := ⟨bp, _, none⟩) hbp).trans h1⟩
          clear h0 h1 hcp hPk hown HFS HIT HFL
          generalize TB (Wh.trAt P k) = tb at *
          generalize Wh.trAt P k = q at *
          obtain ⟨q1, q2⟩ := q
          dsimp only at HCC HIT1
          go_wp2_with fail
          refine (wpIn_wide (n := 4)).1 ?_
          have hmo : Tryz.prog.follows .mixedOrders = true := by kernel_rfl
          have q0 : Below wr.heap.size wr wr.drew := (Below.refl _ _).drew
          have KC : Hid (∀ W', Below wr.heap.size wr W' → (((W'.cell? ⟨w.heap.size, 0, none⟩ = some (.int .i64 full) ∧ W'.cell? ⟨w.heap.size, 1, none⟩ = some (.int .i64 read) ∧ W'.cell? ⟨w.heap.size, 2, none⟩ = some (.int .i64 slip)) ∧ W'.cell? ⟨w.heap.size, 3, none⟩ = some (.int .i64 skew) ∧ W'.cell? ⟨w.heap.size, 4, none⟩ = some (.int .i64 circ) ∧ W'.cell? ⟨w.heap.size, 5, none⟩ = some (.int .i64 glo)) ∧ W'.cell? ⟨w.heap.size, 6, none⟩ = some (.int .i64 ghi) ∧ W'.cell? ⟨w.heap.size, 7, none⟩ = some (.int .i64 wrn)) ∧ W'.cell? ⟨bp, op + k * 2, none⟩ = some (.int .i64 q1) ∧ W'.cell? ⟨bp, op + k * 2 + 1, none⟩ = some (.int .i64 q2)) := fun W' h => ⟨boxS8 (bS.below h), HCC.out W' h⟩
          refine wpIn_region_held (fun W' => Below wr.heap.size wr W') 30 hmo ?_
          refine wpHeldIn_take (i := 0) (v := ?_) (plain_of (by kernel_rfl)) rfl (by kernel_rfl) (fun _ _ _ h => h) (yieldsSoIn_of (by kernel_rfl) ?_ (fun _ => rfl)) q0 ?_; rotate_left; focus (intro wq hw; have kq := KC.out wq hw; clear hw; go_simp; try (with_reducible rfl))
          refine wpHeldIn_take (i := 1) (v := ?_) (plain_of (by kernel_rfl)) rfl (by kernel_rfl) (fun _ _ _ h => h) (yieldsSoIn_of (by kernel_rfl) ?_ (fun _ => rfl)) q0 ?_; rotate_left; focus (intro wq hw; clear hw; go_simp; try (with_reducible rfl))
          refine wpHeldIn_take (i := 2) (v := ?_) (plain_of (by kernel_rfl)) rfl (by kernel_rfl) (fun _ _ _ h => h) (yieldsSoIn_of (by kernel_rfl) ?_ (fun _ => rfl)) q0 ?_; rotate_left; focus (intro wq hw; clear hw; go_simp; try (with_reducible rfl))
          refine wpHeldIn_take (i := 3) (v := ?_) (plain_of (by kernel_rfl)) rfl (by kernel_rfl) (fun _ _ _ h => h) (yieldsSoIn_of (by kernel_rfl) ?_ (fun _ => rfl)) q0 ?_; rotate_left; focus (intro wq hw; clear hw; go_simp; try (with_reducible rfl))
          refine wpHeldIn_take (i := 4) (v := ?_) (plain_of (by kernel_rfl)) rfl (by kernel_rfl) (fun _ _ _ h => h) (yieldsSoIn_of (by kernel_rfl) ?_ (fun _ => rfl)) q0 ?_; rotate_left; focus (intro wq hw; clear hw; go_simp; try (with_reducible rfl))
          refine wpHeldIn_take (i := 5) (v := ?_) (plain_of (by kernel_rfl)) rfl (by kernel_rfl) (fun _ _ _ h => h) (yieldsSoIn_of (by kernel_rfl) ?_ (fun _ => rfl)) q0 ?_; rotate_left; focus (intro wq hw; have kq := KC.out wq hw; clear hw; go_simp; try (with_reducible rfl))
          refine wpHeldIn_one (i := 6) (by kernel_rfl) (by kernel_rfl) rfl (by kernel_rfl) (fun K1 hK1 => ?_)
          go_simp
          refine ⟨trivial, (callsIn_wide.2 (HIT1.out _ (hB.trans (q0.mono hB.size)))).mono ?_⟩
          rintro e4 w4 ⟨rfl, hb4⟩
          have q1' := q0.trans (hb4.mono q0.size)
          refine hK1 _ _ q1' ?_
          refine wpHeldIn_done (by kernel_rfl) ?_ _
          go_simp
          have bS4 := bS.below q1'
          have hB4 := hB.trans (q1'.mono hB.size)
          have hbb4 := hbb.trans (q1'.mono hbb.size)
          have HO4 := Lib.hid (ownq_below HO.out q1')
          obtain ⟨a0, a1⟩ := HCC.out w4 q1'
          have hlb4 := hbb4.size
          have hlb5 : bp < w4.heap.size := by omega
          clear KC q0 hb4 bS hB hbb HO HCC HIT1
          cases tb with
          | true =>
            have HF2 := Lib.hid (HFS1.out.1 rfl)
            go_wp2_with (at_builtin; refine wpList_pushq rfl (.tmp 35) (.tmp 40) rfl (q1, q2) wb.heap.size _ _ _ rfl rfl HO4.out (by omega) (by omega) ?_; intro v' w5 hown5 hb5; have HO5 := Lib.hid hown5; clear hown5)
            obtain ⟨g', hg'⟩ : ∃ g', gk = g' + 1 := ⟨gk - 1, by have := hk.out; omega⟩
            go_roundg g'
            case measure => omega
            case rel =>
              refine ⟨k + 1, by have := hk.out; simp only [Hid]; omega, by omega, by go_num, hB4.trans (hb5.mono (by omega)), hbb4.trans hb5, (hb5.block w.heap.size (by omega)).trans bS4, ?_⟩
              rw [HF2.out, flat_append, List.length_append]
              exact HO5.out
          | false =>
            have HF2 := Lib.hid (HFS1.out.2 rfl)
            go_wp2_with fail
            obtain ⟨g', hg'⟩ : ∃ g', gk = g' + 1 := ⟨gk - 1, by have := hk.out; omega⟩
            go_roundg g'
            case measure => omega
            case rel => exact ⟨k + 1, by have := hk.out; simp only [Hid]; omega, by omega, by go_num, hB4, hbb4, bS4, by rw [HF2.out]; exact HO4.out⟩
        · have ek : k = P.length := by omega
          rw [ek, HFN.out] at hown
          obtain ⟨A', c', hv, hP⟩ := prs_of_own hown
          have HV := Lib.hid hv
          clear hown ek
          subst hv
          by_cases ht : TL = []
          · have hz : TV = [] := HT0.out.1 ht
            have he1 : Hid (E = 3) := by unfold Hid; rw [he.out, if_pos ht]
            have hL := Lib.hid (HL.out 3 he1.out (by decide))
            have hn0 : ((TV.length : Int) == 0) = true := by rw [hz]; rfl
            clear hz ht
            go_wp2_with fail
            go_returns
            exact ⟨none, 0, by rw [hL.out, he1.out]; rfl, by rw [hL.out]; exact fun h => by simp at h, hB⟩
          · have hz : ¬ TV = [] := fun h => ht (HT0.out.2 h)
            have he1 : Hid (E = 0) := by unfold Hid; rw [he.out, if_neg ht]
            have hL := Lib.hid (HL0.out he1.out)
            have hn0 : ((TV.length : Int) == 0) = false := by
              have : TV.length ≠ 0 := fun h => hz (List.eq_nil_of_length_eq_zero h)
              simp; exact hz
            clear hz ht
            go_wp2_with fail
            go_returns
            exact ⟨A', c', by rw [hL.out, he1.out]; rfl, by rw [hL.out]; exact hP, hB⟩
end Go.Proofs.YtkmacpkjobdffaaGreat
namespace Go.Proofs.YtkmacpkjobdffaaGreat
open Go.RowKit
namespace Wh
theorem cases_iff {d : Desk} (hd : Ok d) (x : TrS) : x ∈ casesL d ↔ (d.glo ≤ x.1.1 ∧ x.1.1 ≤ d.ghi) ∧ (-d.skew ≤ x.1.2 ∧ x.1.2 ≤ d.skew) := by
  refine ⟨of_cases hd, fun h => ?_⟩
  unfold casesL casesTo rowTo
  rw [List.mem_flatMap]
  refine ⟨(x.1.1 - d.glo).toNat, List.mem_range.2 (by unfold na; omega), ?_⟩
  rw [List.mem_map]
  refine ⟨(x.1.2 + d.skew).toNat, List.mem_range.2 (by unfold nb; omega), ?_⟩
  have e : ((d.glo + ((x.1.1 - d.glo).toNat : Int), -d.skew + ((x.1.2 + d.skew).toNat : Int)) : Tr) = x.1 := by
    apply Prod.ext <;> dsimp only <;> omega
  apply Subtype.ext
  rw [e, trOf_val x.2]
theorem mem_truths {d : Desk} (hd : Ok d) (x : TrS) : x ∈ truthsL d ↔ ((d.glo ≤ x.1.1 ∧ x.1.1 ≤ d.ghi) ∧ (-d.skew ≤ x.1.2 ∧ x.1.2 ≤ d.skew)) ∧ (wrongN d x.1 : Int) ≤ d.wr := by
  unfold truthsL trB
  rw [List.mem_filter, cases_iff hd, decide_eq_true_eq]
theorem kn_yes {d : Desk} (h0 : spE d = 0) : knL d true = vals (truthsL d) := by unfold knL; rw [knE_sp, if_pos h0]
theorem kn_no {d : Desk} (h0 : spE d ≠ 0) : knL d true = [] := by unfold knL; rw [knE_sp, if_neg h0]
theorem kn_small {d : Desk} (hz : okB d = true → (casesL d).length ≤ 90000) : (knL d true).length ≤ 90000 := by
  by_cases h0 : spE d = 0
  · rw [kn_yes h0, vals_len]
    exact Nat.le_trans (List.length_filter_le _ _) (hz (sp_ok h0).1)
  · rw [kn_no h0]
    exact Nat.zero_le _
end Wh
open Wh in
theorem kn3_any (d : Wh.Desk) (A : Option Addr) (c : Nat) (w : World) (hl : d.ws.length ≤ 1000000000) (hz : Wh.okB d = true → (Wh.casesL d).length ≤ 90000) (hg : Wks w w.heap.size A d.ws) : Hid (∀ W, Below w.heap.size w W → Calls Tryz.prog 118 #[.agg (whV d), .slice A d.ws.length c, .bool true] W (PrsEPost (Wh.knL d true) (Wh.spE d) W)) := fun W hW => by
  have := known3_any d A c true W hl hz ((hg.keep hW).wider hW.size)
  rw [Wh.knE_sp] at this
  exact this
set_option maxRecDepth 100000 in
set_option maxHeartbeats 8000000 in
theorem Skews3_no (full read slip skew circ glo ghi wrn : Int) (ws : List Wh.Wk) (A : Option Addr) (c : Nat) (w : World) (P : List Wh.Tr) (E : Int) (hE : E ≠ 0) (HKN : Hid (∀ W, Below w.heap.size w W → Calls Tryz.prog 118 #[.agg #[.int .i64 full, .int .i64 read, .int .i64 slip, .int .i64 skew, .int .i64 circ, .int .i64 glo, .int .i64 ghi, .int .i64 wrn], .slice A ws.length c, .bool true] W (PrsEPost P E W))) : Calls Tryz.prog 103 #[.agg #[.int .i64 full, .int .i64 read, .int .i64 slip, .int .i64 skew, .int .i64 circ, .int .i64 glo, .int .i64 ghi, .int .i64 wrn], .slice A ws.length c] w (IntsEPost [] E w) := by
  have hcb : (E == 0) = false := by simpa using hE
  unfold PrsEPost at HKN
  go_enter Tryz.func103, Tryz.ntmps103
  go_wp2_with fail
  have hB1 : Below w.heap.size w (w.alloc (.cells #[.int .i64 full, .int .i64 read, .int .i64 slip, .int .i64 skew, .int .i64 circ, .int .i64 glo, .int .i64 ghi, .int .i64 wrn] 25)) := by (repeat' (first | (with_reducible exact Below.refl _ _) | (with_reducible assumption) | (with_reducible refine Below.alloc ?_ ?_ _) | (with_reducible refine Below.drew ?_) | (with_reducible refine Below.setCell ?_ ?_ _) | go_size | (exact (by simp)) | omega))
  have bS1 := BoxS.new w 25 #[.int .i64 full, .int .i64 read, .int .i64 slip, .int .i64 skew, .int .i64 circ, .int .i64 glo, .int .i64 ghi, .int .i64 wrn]
  generalize World.alloc w _ = w1 at *
  refine (HKN.out _ hB1).mono ?_
  rintro e w3 ⟨A3, c3, rfl, hP3, hb3⟩
  have bS3 := bS1.below hb3
  have hB3 := hB1.trans (hb3.mono hB1.size)
  clear bS1 hb3 hB1 HKN
  obtain ⟨⟨⟨s0, s1, s2⟩, s3, s4, s5⟩, s6, s7⟩ := boxS8 bS3
  have lS := bS3.lt
  go_wp2_with fail
  go_returns
  exact ⟨_, rfl, .inl ⟨rfl, rfl⟩, hB3⟩
set_option maxRecDepth 100000 in
set_option maxHeartbeats 8000000 in
theorem Skews3_yes (full read slip skew circ glo ghi wrn : Int) (ws : List Wh.Wk) (A : Option Addr) (c : Nat) (w : World) (P : List Wh.Tr) (nb : Nat) (SK : Nat → List Int) (hsk : 0 ≤ skew ∧ skew ≤ 1000) (hnb : -skew + (nb : Int) = skew + 1) (hl : P.length ≤ 90000) (HKN : Hid (∀ W, Below w.heap.size w W → Calls Tryz.prog 118 #[.agg #[.int .i64 full, .int .i64 read, .int .i64 slip, .int .i64 skew, .int .i64 circ, .int .i64 glo, .int .i64 ghi, .int .i64 wrn], .slice A ws.length c, .bool true] W (PrsEPost P 0 W))) (HS0 : Hid (SK 0 = [])) (HLN : Hid (∀ j, (SK j).length ≤ j))
    (HSY : Hid (∀ j m, j < nb → m < P.length → (Wh.trAt P m).2 = -skew + (j : Int) → SK (j + 1) = SK j ++ [-skew + (j : Int)])) (HSN : Hid (∀ j, j < nb → (∀ m, m < P.length → (Wh.trAt P m).2 ≠ -skew + (j : Int)) → SK (j + 1) = SK j)) :
    Calls Tryz.prog 103 #[.agg #[.int .i64 full, .int .i64 read, .int .i64 slip, .int .i64 skew, .int .i64 circ, .int .i64 glo, .int .i64 ghi, .int .i64 wrn], .slice A ws.length c] w (IntsEPost (SK nb) 0 w) := by
  have hwn : IntKind.i64.wrap (-skew) = -skew := IntWalk.i64_in _ (by omega)
  unfold PrsEPost at HKN
  go_enter Tryz.func103, Tryz.ntmps103
  go_wp2_with fail
  have hB1 : Below w.heap.size w (w.alloc (.cells #[.int .i64 full, .int .i64 read, .int .i64 slip, .int .i64 skew, .int .i64 circ, .int .i64 glo, .int .i64 ghi, .int .i64 wrn] 25)) := by (repeat' (first | (with_reducible exact Below.refl _ _) | (with_reducible assumption) | (with_reducible refine Below.alloc ?_ ?_ _) | (with_reducible refine Below.drew ?_) | (with_reducible refine Below.setCell ?_ ?_ _) | go_size | (exact (by simp)) | omega))
  have bS1 := BoxS.new w 25 #[.int .i64 full, .int .i64 read, .int .i64 slip, .int .i64 skew, .int .i64 circ, .int .i64 glo, .int .i64 ghi, .int .i64 wrn]
  generalize World.alloc w _ = w1 at *
  refine (HKN.out _ hB1).mono ?_
  rintro e w3 ⟨A3, c3, rfl, hP3, hb3⟩
  have bS3 := bS1.below hb3
  have hB3 := hB1.trans (hb3.mono hB1.size)
  clear bS1 hb3 hB1 HKN
  obtain ⟨⟨⟨s0, s1, s2⟩, s3, s4, s5⟩, s6, s7⟩ := boxS8 bS3
  have lS := bS3.lt
  go_wp2_with fail
  obtain ⟨wb, hwb⟩ : ∃ wb, wb = w3 := ⟨_, rfl⟩
  have hbb : Below wb.heap.size wb w3 := by rw [hwb]; exact Below.refl _ _
  have hPb : Hid (Prs wb wb.heap.size A3 P) := by rw [hwb]; exact hP3
  have hzb : w.heap.size < wb.heap.size := by rw [hwb]; exact bS3.lt
  have hBb : Below w.heap.size w wb := by rw [hwb]; exact hB3
  have bSb : BoxS wb w.heap.size 25 #[.int .i64 full, .int .i64 read, .int .i64 slip, .int .i64 skew, .int .i64 circ, .int .i64 glo, .int .i64 ghi, .int .i64 wrn] := by rw [hwb]; exact bS3
  have lb := bSb.lt
  clear hwb hP3 s0 s1 s2 s3 s4 s5 s6 s7 lS
  go_loopg [8, 9, 10] nb (fun g x8 x9 x10 wx => ∃ j : Nat, Hid (j + g = nb) ∧ (j : Int) ≤ nb ∧ x9 = .int .i64 (-skew + (j : Int)) ∧ Below wb.heap.size wb wx ∧ wx.ownsRow wb.heap.size 3 1 x8 (SK j).length ((SK j).map (Value.int .i64)))
  case atStart => exact ⟨0, by simp [Hid], by omega, by simp, hbb, by rw [HS0.out]; exact owni_nil _ _⟩
  case round =>
    clear hB3 hbb bS3
    obtain ⟨j, hj, hj1, rfl, hbb, hown⟩ := hrel
    have hj0 := Int.natCast_nonneg j
    have bS := bSb.below hbb
    have lS := bS.lt
    obtain ⟨⟨⟨s0, s1, s2⟩, s3, s4, s5⟩, s6, s7⟩ := boxS8 bS
    by_cases hlt : (j : Int) < nb
    · have hle : -skew + (j : Int) ≤ skew := by omega
      have hjn : j < nb := by omega
      have HO := Lib.hid hown
      have hln := HLN.out j
      have HY1 := Lib.hid (fun m => HSY.out j m hjn)
      have HN1 := Lib.hid (HSN.out j hjn)
      have hw9 : IntKind.i64.wrap (-skew + (j : Int) + 1) = -skew + (j : Int) + 1 := IntWalk.i64_in _ (by omega)
      clear hown hlt HSY HSN
      obtain ⟨x, hx⟩ : ∃ x, x = -skew + (j : Int) := ⟨_, rfl⟩
      rw [← hx] at hle hw9 HY1 HN1 ⊢
      have HX := Lib.hid hx
      clear hx
      go_wp2_with fail
      obtain ⟨gko, rfl⟩ : ∃ gko, gko = gk := ⟨_, rfl⟩
      obtain ⟨wq, rfl⟩ : ∃ wq, wq = wr := ⟨_, rfl⟩
      clear s0 s1 s2 s3 s4 s5 s6 s7
      go_loopg [8, 10] P.length (fun g x8 x10 wx => ∃ i : Nat, Hid (i + g = P.length) ∧ (i : Int) ≤ P.length ∧ x10 = .int .i64 (i : Int) ∧ Hid (∀ m, m < i → (Wh.trAt P m).2 ≠ x) ∧ wx = wq ∧ wx.ownsRow wb.heap.size 3 1 x8 (SK j).length ((SK j).map (Value.int .i64)))
      case atStart => exact ⟨0, by simp [Hid], by omega, rfl, (fun m h => by omega), rfl, HO.out⟩
      case round =>
        clear HO
        obtain ⟨i, hi, hi1, rfl, hno, hwe, hown⟩ := hrel
        subst hwe
        have HO := Lib.hid hown
        clear hown
        have hi0 := Int.natCast_nonneg i
        by_cases hlt : (i : Int) < P.length
        · have hin : i < P.length := by omega
          have hPk : P[i]? = some (Wh.trAt P i) := by unfold Wh.trAt; rw [List.getElem?_eq_getElem hin]; rfl
          obtain ⟨bp, op, rfl, hbp, hcp⟩ := hPb.out (by omega)
          obtain ⟨_, h1⟩ := hcp i _ hPk
          have a1 := (hbb.cell (p := ⟨bp, _, none⟩) hbp).trans h1
          have HY2 := Lib.hid (HY1.out i hin)
          have hw1 : IntKind.i64.wrap ((i : Int) + 1) = (i : Int) + 1 := IntWalk.i64_in _ (by omega)
          have HQ : Hid (∀ m, m < i + 1 → (Wh.trAt P i).2 ≠ x → (Wh.trAt P m).2 ≠ x) := fun m hm h => by
            rcases Nat.lt_or_eq_of_le (Nat.lt_succ_iff.1 hm) with h2 | h2
            · exact hno.out m h2
            · subst h2; exact h
          clear hcp hPk h1 hno
          generalize Wh.trAt P i = q at *
          obtain ⟨q1, q2⟩ := q
          dsimp only at a1 HY2 HQ
          by_cases hq : q2 = x
          · have hqb : (q2 == x) = true := by simpa using hq
            have HY3 := Lib.hid (HY2.out hq)
            clear hq HY2 HQ
            have hlb := hbb.size
            go_wp2_with (at_builtin; refine wpList_pushi rfl (.tmp 42) (.tmp 44) rfl x wb.heap.size _ _ _ rfl rfl HO.out (by omega) (by omega) ?_; intro v' w5 hown5 hb5; have HO5 := Lib.hid hown5; clear hown5)
            obtain ⟨g', hg'⟩ : ∃ g', gko = g' + 1 := ⟨gko - 1, by have := hj.out; omega⟩
            go_roundg g'
            case measure => omega
            case rel =>
              refine ⟨j + 1, by have := hj.out; simp only [Hid]; omega, by omega, by rw [HX.out]; simp; omega, hbb.trans hb5, ?_⟩
              rw [HY3.out, List.length_append, List.map_append]
              exact HO5.out
          · have hqb : (q2 == x) = false := by simpa using hq
            have HQ2 : Hid (∀ m, m < i + 1 → (Wh.trAt P m).2 ≠ x) := fun m hm => HQ.out m hm hq
            clear hq HY2 HQ
            go_wp2_with fail
            obtain ⟨g', hg'⟩ : ∃ g', gk = g' + 1 := ⟨gk - 1, by have := hi.out; omega⟩
            go_roundg g'
            case measure => omega
            case rel => exact ⟨i + 1, by have := hi.out; simp only [Hid]; omega, by omega, by go_num, HQ2, rfl, HO.out⟩
        · have e : i = P.length := by omega
          have HE := Lib.hid (HN1.out (by rw [← e]; exact hno.out))
          clear e hno
          go_wp2_with fail
          obtain ⟨g', hg'⟩ : ∃ g', gko = g' + 1 := ⟨gko - 1, by have := hj.out; omega⟩
          go_roundg g'
          case measure => omega
          case rel => exact ⟨j + 1, by have := hj.out; simp only [Hid]; omega, by omega, by rw [HX.out]; simp; omega, hbb, by rw [HE.out]; exact HO.out⟩
    · have e : j = nb := by omega
      have hle : ¬ -skew + (j : Int) ≤ skew := by omega
      have hI := Lib.hid (Ints.of_own hown)
      rw [e] at hI
      have hBr := hBb.trans (hbb.mono hBb.size)
      clear hown hlt e
      go_wp2_with fail
      go_returns
      exact ⟨_, rfl, hI, hBr⟩
namespace Wh
def skTo (P : List Tr) (a : Int) : Nat → List Int
  | 0 => []
  | j + 1 => if P.any (fun t => t.2 == a + (j : Int)) then skTo P a j ++ [a + (j : Int)] else skTo P a j
theorem skTo_succ (P : List Tr) (a : Int) (j : Nat) : skTo P a (j + 1) = if P.any (fun t => t.2 == a + (j : Int)) then skTo P a j ++ [a + (j : Int)] else skTo P a j := rfl
theorem any_iff (P : List Tr) (x : Int) : P.any (fun t => t.2 == x) = true ↔ ∃ t ∈ P, t.2 = x := by
  rw [List.any_eq_true]
  constructor
  · rintro ⟨t, ht, e⟩; exact ⟨t, ht, by simpa using e⟩
  · rintro ⟨t, ht, e⟩; exact ⟨t, ht, by simpa using e⟩
theorem skTo_len (P : List Tr) (a : Int) : ∀ j, (skTo P a j).length ≤ j
  | 0 => Nat.le_refl _
  | j + 1 => by
    have := skTo_len P a j
    rw [skTo_succ]
    split
    · rw [List.length_append]; simp; omega
    · omega
theorem skTo_mem (P : List Tr) (a x : Int) : ∀ j, x ∈ skTo P a j ↔ (∃ i : Nat, i < j ∧ x = a + (i : Int)) ∧ ∃ t ∈ P, t.2 = x
  | 0 => by simp [skTo]
  | j + 1 => by
    have ih := skTo_mem P a x j
    rw [skTo_succ]
    by_cases h : P.any (fun t => t.2 == a + (j : Int)) = true
    · rw [if_pos h, List.mem_append, List.mem_singleton, ih]
      constructor
      · rintro (⟨⟨i, hi, e⟩, h2⟩ | rfl)
        · exact ⟨⟨i, by omega, e⟩, h2⟩
        · exact ⟨⟨j, by omega, rfl⟩, (any_iff P _).1 h⟩
      · rintro ⟨⟨i, hi, e⟩, h2⟩
        by_cases e2 : i = j
        · subst e2; exact .inr e
        · exact .inl ⟨⟨i, by omega, e⟩, h2⟩
    · rw [if_neg h, ih]
      constructor
      · rintro ⟨⟨i, hi, e⟩, h2⟩
        exact ⟨⟨i, by omega, e⟩, h2⟩
      · rintro ⟨⟨i, hi, e⟩, h2⟩
        refine ⟨⟨i, ?_, e⟩, h2⟩
        by_cases e2 : i = j
        · subst e2
          rw [e] at h2
          exact absurd ((any_iff P _).2 h2) h
        · omega
theorem skTo_asc (P : List Tr) (a : Int) : ∀ j, (skTo P a j).Pairwise (fun x y => x < y)
  | 0 => List.Pairwise.nil
  | j + 1 => by
    have ih := skTo_asc P a j
    rw [skTo_succ]
    split
    · rw [List.pairwise_append]
      refine ⟨ih, by simp, fun x hx y hy => ?_⟩
      rw [List.mem_singleton] at hy
      obtain ⟨⟨i, hi, e⟩, _⟩ := (skTo_mem P a x j).1 hx
      omega
    · exact ih
theorem skews_kn {d : Desk} (h0 : spE d = 0) : skewsV d = skTo (knL d true) (-d.skew) (nb d) := by
  have hd := ok_of (sp_ok h0).1
  have k1 := hd.k1
  have hN2 : -d.skew + ((nb d : Nat) : Int) = d.skew + 1 := by unfold nb; omega
  rw [kn_yes h0]
  unfold skewsV
  rw [if_pos h0]
  refine all_eq (fun t => t.2) _ (skTo_asc _ _ _) (fun x => ?_)
  rw [skTo_mem]
  constructor
  · rintro ⟨_, t, ht, e⟩
    unfold vals at ht
    obtain ⟨f, hf, rfl⟩ := List.mem_map.1 ht
    exact ⟨f, hf, e⟩
  · rintro ⟨f, hf, e⟩
    obtain ⟨⟨_, h1, h2⟩, _⟩ := (mem_truths hd f).1 hf
    refine ⟨⟨(x + d.skew).toNat, by omega, by omega⟩, f.1, ?_, e⟩
    unfold vals
    exact List.mem_map.2 ⟨f, hf, rfl⟩
end Wh
theorem Skews3_any (d : Wh.Desk) (A : Option Addr) (c : Nat) (w : World) (hl : d.ws.length ≤ 1000000000) (hz : Wh.okB d = true → (Wh.casesL d).length ≤ 90000) (hg : Wks w w.heap.size A d.ws) : Calls Tryz.prog 103 #[.agg (whV d), .slice A d.ws.length c] w (IntsEPost (Wh.skewsV d) (Wh.spE d) w) := by
  have HK := kn3_any d A c w hl hz hg
  by_cases h0 : Wh.spE d = 0
  · have hd := Wh.ok_of (Wh.sp_ok h0).1
    have k1 := hd.k1
    have k2 := hd.k2
    have hN2 : -d.skew + ((Wh.nb d : Nat) : Int) = d.skew + 1 := by unfold Wh.nb; omega
    rw [Wh.skews_kn h0]
    rw [h0] at HK ⊢
    exact Skews3_yes d.full d.read d.slip d.skew d.circ d.glo d.ghi d.wr d.ws A c w (Wh.knL d true) (Wh.nb d) (Wh.skTo (Wh.knL d true) (-d.skew)) ⟨k1, by omega⟩ hN2 (Wh.kn_small hz) HK rfl (Wh.skTo_len _ _) (fun j m _ hm e => by
      rw [Wh.skTo_succ, if_pos]
      refine (Wh.any_iff _ _).2 ⟨(Wh.knL d true)[m], List.getElem_mem hm, ?_⟩
      unfold Wh.trAt at e
      rw [List.getElem?_eq_getElem hm] at e
      exact e) (fun j _ hno => by
      rw [Wh.skTo_succ, if_neg]
      intro h
      obtain ⟨t, ht, e⟩ := (Wh.any_iff _ _).1 h
      obtain ⟨m, hm, e2⟩ := List.getElem_of_mem ht
      refine hno m hm ?_
      unfold Wh.trAt
      rw [List.getElem?_eq_getElem hm, e2]
      exact e)
  · have := Skews3_no d.full d.read d.slip d.skew d.circ d.glo d.ghi d.wr d.ws A c w _ _ h0 HK
    have e : Wh.skewsV d = [] := by unfold Wh.skewsV; rw [if_neg h0]
    rw [e]
    exact this
end Go.Proofs.YtkmacpkjobdffaaGreat
