/- Wheels: how many areas are left at the most, by the reference. -/
import Derived.Test.YtecmlakcpgkfbaaAr3
namespace Go.Proofs.Ytecmlakcpgkfbaa
open Go.RowKit
namespace Wh
/-- The first truths in which one more walk is right. -/
def lfTo (R : Nat → Bool) (P : List Tr) : Nat → List Tr
  | 0 => []
  | k + 1 => if R k then lfTo R P k ++ [trAt P k] else lfTo R P k
theorem lfTo_len (R : Nat → Bool) (P : List Tr) : ∀ k, (lfTo R P k).length ≤ k
  | 0 => Nat.le_refl _
  | k + 1 => by
    have := lfTo_len R P k
    unfold lfTo
    split
    · simp; omega
    · omega
theorem lfTo_mem (R : Nat → Bool) (P : List Tr) (x : Tr) : ∀ k, x ∈ lfTo R P k ↔ ∃ i, i < k ∧ R i = true ∧ trAt P i = x
  | 0 => by simp [lfTo]
  | k + 1 => by
    have ih := lfTo_mem R P x k
    have e : lfTo R P (k + 1) = if R k then lfTo R P k ++ [trAt P k] else lfTo R P k := rfl
    have key : x ∈ lfTo R P (k + 1) ↔ x ∈ lfTo R P k ∨ (R k = true ∧ trAt P k = x) := by
      rw [e]
      cases h : R k
      · simp
      · simp only [if_true, List.mem_append, List.mem_singleton, true_and]
        constructor
        · rintro (h | h)
          · exact .inl h
          · exact .inr h.symm
        · rintro (h | h)
          · exact .inl h
          · exact .inr h.symm
    rw [key, ih]
    constructor
    · rintro (⟨i, h1, h2⟩ | h)
      · exact ⟨i, by omega, h2⟩
      · exact ⟨k, by omega, h⟩
    · rintro ⟨i, h1, h2⟩
      by_cases e : i = k
      · subst e; exact .inr h2
      · exact .inl ⟨i, by omega, h2⟩
def moreW (k1 k2 : Int) (j : Nat) : Wk := (k1, k2, 0, 0, (j : Int))
def leftN (d : Desk) (k1 k2 : Int) (P : List Tr) (j : Nat) : List Tr := lfTo (fun i => rightB d (moreW k1 k2 j) (trAt P i)) P P.length
def mostTo (d : Desk) (k1 k2 : Int) (P : List Tr) : Nat → Int
  | 0 => 0
  | j + 1 => max (mostTo d k1 k2 P j) ((arL (leftN d k1 k2 P j)).length : Int)
def worst3V (d : Desk) (k1 k2 : Int) (P : List Tr) : Int := mostTo d k1 k2 P d.full.toNat
theorem mostTo_bd (d : Desk) (k1 k2 : Int) (P : List Tr) : ∀ j, 0 ≤ mostTo d k1 k2 P j ∧ mostTo d k1 k2 P j ≤ P.length
  | 0 => by simp [mostTo]
  | j + 1 => by
    have h1 := mostTo_bd d k1 k2 P j
    have h2 := arL_len (leftN d k1 k2 P j)
    have h3 : (leftN d k1 k2 P j).length ≤ P.length := lfTo_len _ _ _
    unfold mostTo
    omega
end Wh
set_option maxRecDepth 100000 in
set_option maxHeartbeats 8000000 in
theorem worst3_any (d : Wh.Desk) (hd : Wh.Ok d) (k1 k2 : Int) (hk1 : k1 = 1 ∨ k1 = -1) (hk2 : k2 = 1 ∨ k2 = -1) (A : Option Addr) (c : Nat) (P : List Wh.Tr) (hl : P.length ≤ 90000) (hsm : ∀ i, i < P.length → Wh.tsm (Wh.trAt P i)) (w : World) (hP : Prs w w.heap.size A P) :
    Calls Try.prog 66 #[.agg (whV d), .slice A P.length c, .int .i64 k1, .int .i64 k2] w fun e w' => e = .returned (.int .i64 (Wh.worst3V d k1 k2 P)) ∧ Below w.heap.size w w' := by
  have f1 := hd.f1
  have f2 := hd.f2
  have HIR : Hid (∀ j i : Nat, (j : Int) < d.full → i < P.length → ∀ W, Calls Try.prog 39 #[.agg (whV d), .agg #[.int .i64 k1, .int .i64 k2, .int .i64 0, .int .i64 0, .int .i64 (j : Int)], .agg #[.int .i64 (Wh.trAt P i).1, .int .i64 (Wh.trAt P i).2]] W fun e w' => e = .returned (.bool (Wh.rightB d (Wh.moreW k1 k2 j) (Wh.trAt P i))) ∧ Below W.heap.size W w') := fun j i hj hi W =>
    IsRight3_any d hd (Wh.moreW k1 k2 j) hk1 (by unfold Wh.ksm Wh.moreW; dsimp only; omega) _ (hsm i hi) W
  have HLS : Hid (∀ j i : Nat, Wh.lfTo (fun i => Wh.rightB d (Wh.moreW k1 k2 j) (Wh.trAt P i)) P (i + 1) = if Wh.rightB d (Wh.moreW k1 k2 j) (Wh.trAt P i) then Wh.lfTo (fun i => Wh.rightB d (Wh.moreW k1 k2 j) (Wh.trAt P i)) P i ++ [Wh.trAt P i] else Wh.lfTo (fun i => Wh.rightB d (Wh.moreW k1 k2 j) (Wh.trAt P i)) P i) := fun j i => rfl
  have HL0 : Hid (∀ j : Nat, Wh.lfTo (fun i => Wh.rightB d (Wh.moreW k1 k2 j) (Wh.trAt P i)) P 0 = []) := fun j => rfl
  have HLL : Hid (∀ j i : Nat, (Wh.lfTo (fun i => Wh.rightB d (Wh.moreW k1 k2 j) (Wh.trAt P i)) P i).length ≤ i) := fun j i => Wh.lfTo_len _ P i
  have HMS : Hid (∀ j : Nat, Wh.mostTo d k1 k2 P (j + 1) = max (Wh.mostTo d k1 k2 P j) ((Wh.arL (Wh.lfTo (fun i => Wh.rightB d (Wh.moreW k1 k2 j) (Wh.trAt P i)) P P.length)).length : Int)) := fun j => rfl
  have HM0 : Hid (Wh.mostTo d k1 k2 P 0 = 0) := rfl
  have HMN : Hid (Wh.worst3V d k1 k2 P = Wh.mostTo d k1 k2 P d.full.toNat) := rfl
  have HP := Lib.hid hP
  generalize Wh.worst3V d k1 k2 P = WV at *
  generalize Wh.mostTo d k1 k2 P = MT at *
  obtain ⟨RB, hRB⟩ : ∃ R : Nat → Nat → Bool, ∀ j i, R j i = Wh.rightB d (Wh.moreW k1 k2 j) (Wh.trAt P i) := ⟨_, fun _ _ => rfl⟩
  obtain ⟨LF, hLF⟩ : ∃ L : Nat → Nat → List Wh.Tr, ∀ j i, L j i = Wh.lfTo (fun i => Wh.rightB d (Wh.moreW k1 k2 j) (Wh.trAt P i)) P i := ⟨_, fun _ _ => rfl⟩
  simp only [← hLF] at HLS HL0 HLL HMS
  simp only [← hRB] at HIR HLS
  clear hRB hLF hd hP hsm hk1 hk2
  obtain ⟨full, read, slip, skew, circ, glo, ghi, wrn, ws⟩ := d
  unfold whV at *
  dsimp only at *
  obtain ⟨N, hN⟩ : ∃ n : Nat, (n : Int) = full := ⟨full.toNat, by omega⟩
  have HMN2 : Hid (WV = MT N) := by unfold Hid; rw [HMN.out]; congr 1; omega
  clear HMN
  go_enter Try.func66, Try.ntmps66
  go_wp2_with fail
  have bS1 := BoxS.new w 25 #[.int .i64 full, .int .i64 read, .int .i64 slip, .int .i64 skew, .int .i64 circ, .int .i64 glo, .int .i64 ghi, .int .i64 wrn]
  have hB1 : Below w.heap.size w (w.alloc (.cells #[.int .i64 full, .int .i64 read, .int .i64 slip, .int .i64 skew, .int .i64 circ, .int .i64 glo, .int .i64 ghi, .int .i64 wrn] 25)) := by (repeat' (first | (with_reducible exact Below.refl _ _) | (with_reducible assumption) | (with_reducible refine Below.alloc ?_ ?_ _) | (with_reducible refine Below.drew ?_) | (with_reducible refine Below.setCell ?_ ?_ _) | go_size | (exact (by simp)) | omega))
  generalize World.alloc w _ = w1 at *
  go_loopg [9, 10, 11, 12, 13] N (fun g x9 x10 x11 x12 x13 wx => ∃ j : Nat, Hid (j + g = N) ∧ (j : Int) ≤ N ∧ x9 = .int .i64 (MT j) ∧ x10 = .int .i64 (j : Int) ∧ Below w.heap.size w wx ∧ BoxS wx w.heap.size 25 #[.int .i64 full, .int .i64 read, .int .i64 slip, .int .i64 skew, .int .i64 circ, .int .i64 glo, .int .i64 ghi, .int .i64 wrn])
  case atStart => exact ⟨0, by simp [Hid], by omega, by rw [HM0.out], rfl, hB1, bS1⟩
  case round =>
    clear hB1 bS1
    obtain ⟨j, hj, hj1, rfl, rfl, hB, bS⟩ := hrel
    have hj0 := Int.natCast_nonneg j
    obtain ⟨⟨⟨s0, s1, s2⟩, s3, s4, s5⟩, s6, s7⟩ := boxS8 bS
    have lS := bS.lt
    by_cases hlt : (j : Int) < full
    · have HIR1 := Lib.hid (fun i hi => HIR.out j i hlt hi)
      have HLS1 := Lib.hid (HLS.out j)
      have HL01 := Lib.hid (HL0.out j)
      have HLL1 := Lib.hid (HLL.out j)
      have HMS1 := Lib.hid (HMS.out j)
      have hwj : IntKind.i64.wrap ((j : Int) + 1) = (j : Int) + 1 := IntWalk.i64_in _ (by omega)
      generalize RB j = R at *
      generalize LF j = L at *
      go_upto_region 6 with fail
      obtain ⟨NX, hNX⟩ : ∃ n, n = wr.heap.size := ⟨_, rfl⟩
      have bX := BoxS.new wr 54 #[.int .i64 k1, .int .i64 k2, .int .i64 0, .int .i64 0, .int .i64 (j : Int)]
      have bSa := bS.alloc (.cells #[.int .i64 k1, .int .i64 k2, .int .i64 0, .int .i64 0, .int .i64 (j : Int)] 54)
      have hBa : Below w.heap.size w (wr.alloc (.cells #[.int .i64 k1, .int .i64 k2, .int .i64 0, .int .i64 0, .int .i64 (j : Int)] 54)) := hB.alloc hB.size _
      have hSX : w.heap.size < NX := by rw [hNX]; exact lS
      rw [← hNX] at bX ⊢
      clear s0 s1 s2 s3 s4 s5 s6 s7 lS bS hB hNX
      generalize World.alloc wr _ = wa at *
      go_wp2_with fail
      obtain ⟨gko, rfl⟩ : ∃ gko, gko = gk := ⟨_, rfl⟩
      obtain ⟨wb, hwb⟩ : ∃ wb, wb = wa := ⟨_, rfl⟩
      have hbb : Below wb.heap.size wb wa := by rw [hwb]; exact Below.refl _ _
      have hzb : NX < wb.heap.size := by rw [hwb]; exact bX.lt
      clear hwb
      go_loopg [12, 13] P.length (fun g x12 x13 wx => ∃ k : Nat, Hid (k + g = P.length) ∧ (k : Int) ≤ P.length ∧ x13 = .int .i64 (k : Int) ∧ Below w.heap.size w wx ∧ Below wb.heap.size wb wx ∧ BoxS wx w.heap.size 25 #[.int .i64 full, .int .i64 read, .int .i64 slip, .int .i64 skew, .int .i64 circ, .int .i64 glo, .int .i64 ghi, .int .i64 wrn] ∧ BoxS wx NX 54 #[.int .i64 k1, .int .i64 k2, .int .i64 0, .int .i64 0, .int .i64 (j : Int)] ∧ wx.ownsRow wb.heap.size 47 2 x12 (L k).length (flat (L k)))
      case atStart => exact ⟨0, by simp [Hid], by omega, rfl, hBa, hbb, bSa, bX, ownq_nil _ _ HL01.out⟩
      case round =>
        clear hBa hbb bSa bX
        obtain ⟨k, hk, hk1, rfl, hB, hbb, bS, bX, hown⟩ := hrel
        have hk0 := Int.natCast_nonneg k
        by_cases hlt2 : (k : Int) < P.length
        · have hkn : k < P.length := by omega
          have hPk : P[k]? = some (Wh.trAt P k) := by unfold Wh.trAt; rw [List.getElem?_eq_getElem hkn]; rfl
          obtain ⟨bp, op, hA, hbp, hcp⟩ := HP.out (by omega)
          subst hA
          obtain ⟨h0, h1⟩ := hcp k _ hPk
          have HIT1 := Lib.hid (HIR1.out k hkn)
          have HFS1 := Lib.hid (HLS1.out k)
          have HO := Lib.hid hown
          have hfl := HLL1.out k
          have hlb := hbb.size
          have hlw := hB.size
          have hw1 : IntKind.i64.wrap ((k : Int) + 1) = (k : Int) + 1 := IntWalk.i64_in _ (by omega)
          have HCC : Hid (∀ W', Below wr.heap.size wr W' → W'.cell? ⟨bp, op + k * 2, none⟩ = some (.int .i64 (Wh.trAt P k).1) ∧ W'.cell? ⟨bp, op + k * 2 + 1, none⟩ = some (.int .i64 (Wh.trAt P k).2)) := fun W' hW => by
            have hBW := hB.trans (hW.mono hB.size)
            exact ⟨(hBW.cell (p := ⟨bp, _, none⟩) hbp).trans h0, (hBW.cell (p := ⟨bp, _, none⟩) hbp).trans h1⟩
          clear h0 h1 hcp hPk hown
          generalize R k = tb at *
          generalize Wh.trAt P k = q at *
          obtain ⟨q1, q2⟩ := q
          dsimp only at HCC HIT1
          go_wp2_with fail
          refine (wpIn_wide (n := 4)).1 ?_
          have hmo : Try.prog.follows .mixedOrders = true := by kernel_rfl
          have q0 : Below wr.heap.size wr wr.drew := (Below.refl _ _).drew
          have KC : Hid (∀ W', Below wr.heap.size wr W' → (((W'.cell? ⟨w.heap.size, 0, none⟩ = some (.int .i64 full) ∧ W'.cell? ⟨w.heap.size, 1, none⟩ = some (.int .i64 read) ∧ W'.cell? ⟨w.heap.size, 2, none⟩ = some (.int .i64 slip)) ∧ W'.cell? ⟨w.heap.size, 3, none⟩ = some (.int .i64 skew) ∧ W'.cell? ⟨w.heap.size, 4, none⟩ = some (.int .i64 circ) ∧ W'.cell? ⟨w.heap.size, 5, none⟩ = some (.int .i64 glo)) ∧ W'.cell? ⟨w.heap.size, 6, none⟩ = some (.int .i64 ghi) ∧ W'.cell? ⟨w.heap.size, 7, none⟩ = some (.int .i64 wrn)) ∧ (W'.cell? ⟨NX, 0, none⟩ = some (.int .i64 k1) ∧ W'.cell? ⟨NX, 1, none⟩ = some (.int .i64 k2) ∧ W'.cell? ⟨NX, 2, none⟩ = some (.int .i64 0) ∧ W'.cell? ⟨NX, 3, none⟩ = some (.int .i64 0) ∧ W'.cell? ⟨NX, 4, none⟩ = some (.int .i64 (j : Int))) ∧ W'.cell? ⟨bp, op + k * 2, none⟩ = some (.int .i64 q1) ∧ W'.cell? ⟨bp, op + k * 2 + 1, none⟩ = some (.int .i64 q2)) := fun W' h => ⟨boxS8 (bS.below h), ⟨(bX.below h).cell 0 rfl, (bX.below h).cell 1 rfl, (bX.below h).cell 2 rfl, (bX.below h).cell 3 rfl, (bX.below h).cell 4 rfl⟩, HCC.out W' h⟩
          refine wpIn_region_held (fun W' => Below wr.heap.size wr W') 30 hmo ?_
          refine wpHeldIn_take (i := 0) (v := ?_) (plain_of (by kernel_rfl)) rfl (by kernel_rfl) (fun _ _ _ h => h) (yieldsSoIn_of (by kernel_rfl) ?_ (fun _ => rfl)) q0 ?_; rotate_left; focus (intro wq hw; have kq := KC.out wq hw; clear hw; go_simp; try (with_reducible rfl))
          refine wpHeldIn_take (i := 1) (v := ?_) (plain_of (by kernel_rfl)) rfl (by kernel_rfl) (fun _ _ _ h => h) (yieldsSoIn_of (by kernel_rfl) ?_ (fun _ => rfl)) q0 ?_; rotate_left; focus (intro wq hw; have kq := KC.out wq hw; clear hw; go_simp; try (with_reducible rfl))
          refine wpHeldIn_take (i := 2) (v := ?_) (plain_of (by kernel_rfl)) rfl (by kernel_rfl) (fun _ _ _ h => h) (yieldsSoIn_of (by kernel_rfl) ?_ (fun _ => rfl)) q0 ?_; rotate_left; focus (intro wq hw; clear hw; go_simp; try (with_reducible rfl))
          refine wpHeldIn_take (i := 3) (v := ?_) (plain_of (by kernel_rfl)) rfl (by kernel_rfl) (fun _ _ _ h => h) (yieldsSoIn_of (by kernel_rfl) ?_ (fun _ => rfl)) q0 ?_; rotate_left; focus (intro wq hw; clear hw; go_simp; try (with_reducible rfl))
          refine wpHeldIn_take (i := 4) (v := ?_) (plain_of (by kernel_rfl)) rfl (by kernel_rfl) (fun _ _ _ h => h) (yieldsSoIn_of (by kernel_rfl) ?_ (fun _ => rfl)) q0 ?_; rotate_left; focus (intro wq hw; clear hw; go_simp; try (with_reducible rfl))
          refine wpHeldIn_take (i := 5) (v := ?_) (plain_of (by kernel_rfl)) rfl (by kernel_rfl) (fun _ _ _ h => h) (yieldsSoIn_of (by kernel_rfl) ?_ (fun _ => rfl)) q0 ?_; rotate_left; focus (intro wq hw; have kq := KC.out wq hw; clear hw; go_simp; try (with_reducible rfl))
          refine wpHeldIn_one (i := 6) (by kernel_rfl) (by kernel_rfl) rfl (by kernel_rfl) (fun K1 hK1 => ?_)
          go_simp
          refine ⟨trivial, (callsIn_wide.2 (HIT1.out _)).mono ?_⟩
          rintro e4 w4 ⟨rfl, hb4⟩
          have q1' := q0.trans (hb4.mono q0.size)
          refine hK1 _ _ q1' ?_
          refine wpHeldIn_done (by kernel_rfl) ?_ _
          go_simp
          have bS4 := bS.below q1'
          have bX4 := bX.below q1'
          have hB4 := hB.trans (q1'.mono hB.size)
          have hbb4 := hbb.trans (q1'.mono hbb.size)
          have HO4 := Lib.hid (ownq_below HO.out q1')
          obtain ⟨a0, a1⟩ := HCC.out w4 q1'
          have hlb4 := hbb4.size
          have hlb5 : bp < w4.heap.size := by have := hB4.size; omega
          clear KC q0 hb4 bS bX hB hbb HO HCC HIT1 q1'
          cases tb with
          | true =>
            have HF2 : Hid (L (k + 1) = L k ++ [(q1, q2)]) := by unfold Hid; rw [HFS1.out]; rfl
            go_wp2_with (at_builtin; refine wpList_pushq rfl (.tmp 37) (.tmp 42) rfl (q1, q2) wb.heap.size _ _ _ rfl rfl HO4.out (by omega) (by omega) ?_; intro v' w5 hown5 hb5; have HO5 := Lib.hid hown5; clear hown5)
            obtain ⟨g', hg'⟩ : ∃ g', gk = g' + 1 := ⟨gk - 1, by have := hk.out; omega⟩
            go_roundg g'
            case measure => omega
            case rel =>
              refine ⟨k + 1, by have := hk.out; simp only [Hid]; omega, by omega, by go_num, hB4.trans (hb5.mono (by omega)), hbb4.trans hb5, (hb5.block w.heap.size (by omega)).trans bS4, (hb5.block NX (by omega)).trans bX4, ?_⟩
              rw [HF2.out, flat_append, List.length_append]
              exact HO5.out
          | false =>
            have HF2 : Hid (L (k + 1) = L k) := by unfold Hid; rw [HFS1.out]; rfl
            go_wp2_with fail
            obtain ⟨g', hg'⟩ : ∃ g', gk = g' + 1 := ⟨gk - 1, by have := hk.out; omega⟩
            go_roundg g'
            case measure => omega
            case rel => exact ⟨k + 1, by have := hk.out; simp only [Hid]; omega, by omega, by go_num, hB4, hbb4, bS4, bX4, by rw [HF2.out]; exact HO4.out⟩
        · have ek : k = P.length := by omega
          rw [ek] at hown
          have hfl := HLL1.out P.length
          obtain ⟨A', c', hv, hPL⟩ := prs_of_own hown
          subst hv
          have HAR := Lib.hid (areas3_any A' c' (L P.length) (by omega) wr hPL.out)
          clear hown ek hPL
          generalize L P.length = LL at *
          go_wp2_with fail
          refine HAR.out.mono ?_
          rintro e6 w6 ⟨v6, rfl, hi6, hb6⟩
          obtain ⟨A6, c6, rfl⟩ := ints_form hi6.out
          have bS6 := bS.below hb6
          have hB6 := hB.trans (hb6.mono hB.size)
          go_wp2_with fail
          obtain ⟨g', hg'⟩ : ∃ g', gko = g' + 1 := ⟨gko - 1, by have := hj.out; omega⟩
          go_roundg g'
          case measure => omega
          case rel => exact ⟨j + 1, by have := hj.out; simp only [Hid]; omega, by omega, by rw [HMS1.out], by go_num, hB6, bS6⟩
    · have ej : j = N := by omega
      have HV : Hid (WV = MT j) := by unfold Hid; rw [HMN2.out, ej]
      clear ej
      go_wp2_with fail
      go_returns
      exact ⟨by rw [HV.out]; rfl, hB⟩
end Go.Proofs.Ytecmlakcpgkfbaa
