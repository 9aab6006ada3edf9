/- Wheels: which walk leaves the fewest areas. -/
import Derived.Test.YtecmlakcpgkfbaaWhN
namespace Go.Proofs.Ytecmlakcpgkfbaa
open Go.RowKit Go.Maps
namespace Wh
def nk (k : Int × Int) : Int × Int := (-k.1, -k.2)
abbrev NS := (Int × Int → Option Int) × (Int × Int)
def leftV (W : Int → Int → Int) (s : NS) (k : Int × Int) : Int := if (s.1 (nk k)).isSome then (s.1 (nk k)).getD 0 else W k.1 k.2
def nextStep (W : Int → Int → Int) (s : NS) (k : Int × Int) : NS :=
  (putG s.1 k (leftV W s k), if leftV W s k < ((putG s.1 k (leftV W s k)) s.2).getD 0 then k else s.2)
def kindAt : Nat → Int × Int
  | 0 => (1, 1)
  | 1 => (1, -1)
  | 2 => (-1, 1)
  | _ => (-1, -1)
def nextTo (W : Int → Int → Int) : Nat → NS
  | 0 => (fun _ => none, (1, 1))
  | n + 1 => nextStep W (nextTo W n) (kindAt n)
def nextV (d : Desk) : Int × Int := if spE d = 0 then (nextTo (worstV d) 4).2 else (0, 0)
theorem kindAt_sgn (n : Nat) : sgn (kindAt n) := by
  match n with
  | 0 => exact ⟨.inl rfl, .inl rfl⟩
  | 1 => exact ⟨.inl rfl, .inr rfl⟩
  | 2 => exact ⟨.inr rfl, .inl rfl⟩
  | n + 3 => exact ⟨.inr rfl, .inr rfl⟩
/-- What a map of kinds holds is small, and the best kind is one. -/
def nsB (s : NS) : Prop := (∀ p v, s.1 p = some v → 0 ≤ v ∧ v ≤ 100000000) ∧ sgn s.2
theorem leftV_bd {W : Int → Int → Int} (hW : ∀ a b, 0 ≤ W a b ∧ W a b ≤ 100000000) {s : NS} (h : nsB s) (k : Int × Int) : 0 ≤ leftV W s k ∧ leftV W s k ≤ 100000000 := by
  unfold leftV
  split
  · rename_i h1
    obtain ⟨v, hv⟩ := Option.isSome_iff_exists.1 h1
    rw [hv]
    exact h.1 _ _ hv
  · exact hW _ _
theorem nextStep_bd {W : Int → Int → Int} (hW : ∀ a b, 0 ≤ W a b ∧ W a b ≤ 100000000) {s : NS} (h : nsB s) {k : Int × Int} (hk : sgn k) : nsB (nextStep W s k) := by
  refine ⟨fun p v e => ?_, ?_⟩
  · unfold nextStep putG at e
    dsimp only at e
    split at e
    · injection e with e
      rw [← e]
      exact leftV_bd hW h k
    · exact h.1 _ _ e
  · unfold nextStep
    dsimp only
    split
    · exact hk
    · exact h.2
theorem nextTo_bd {W : Int → Int → Int} (hW : ∀ a b, 0 ≤ W a b ∧ W a b ≤ 100000000) : ∀ n, nsB (nextTo W n)
  | 0 => ⟨(fun p v e => by cases e), .inl rfl, .inl rfl⟩
  | n + 1 => nextStep_bd hW (nextTo_bd hW n) (kindAt_sgn n)
theorem maxTo_bd {xs : List Int} {M : Int} (h0 : 0 ≤ M) (h : ∀ j : Nat, 0 ≤ xs[j]?.getD 0 ∧ xs[j]?.getD 0 ≤ M) : ∀ n, 0 ≤ maxTo xs n ∧ maxTo xs n ≤ M
  | 0 => ⟨Int.le_refl _, h0⟩
  | 1 => h 0
  | k + 2 => by
    have h1 := maxTo_bd h0 h (k + 1)
    have h2 := h (k + 1)
    unfold maxTo
    omega
theorem worstV_bd (d : Desk) (hs : Ok d) (k1 k2 : Int) : 0 ≤ worstV d k1 k2 ∧ worstV d k1 k2 ≤ 100000000 := by
  have hlv : (looseV d + 1).toNat ≤ 101 := by
    have h1 := hs.r1
    have h2 := hs.r2
    have h3 := hs.s1
    have h4 := hs.s2
    unfold looseV
    omega
  have hb := worstS_bd d k1 k2 hlv (truthsL d)
  have hl := truthsL_len d hs
  have := maxTo_bd (M := 101 * ((truthsL d).length : Int)) (by omega) hb d.full.toNat
  unfold worstV
  omega
end Wh
theorem boxS2' {W : World} {B : Nat} {t : TypeId} {a b : Value} (H : BoxS W B t #[a, b]) : W.cell? ⟨B, 0, none⟩ = some a ∧ W.cell? ⟨B, 1, none⟩ = some b := ⟨H.cell 0 rfl, H.cell 1 rfl⟩
set_option maxRecDepth 100000 in
theorem turnedK_any (x y : Int) (hx : -1000 ≤ x ∧ x ≤ 1000) (hy : -1000 ≤ y ∧ y ≤ 1000) (w : World) : Calls Try.prog 67 #[.agg #[.int .i64 x, .int .i64 y]] w fun e w' => e = .returned (.agg #[.int .i64 (-x), .int .i64 (-y)]) ∧ Below w.heap.size w w' := by
  have hw1 : IntKind.i64.wrap (-x) = -x := IntWalk.i64_in _ (by omega)
  have hw2 : IntKind.i64.wrap (-y) = -y := IntWalk.i64_in _ (by omega)
  go_enter Try.func67, Try.ntmps67
  go_wp2_with fail
  go_returns
  exact ⟨rfl, by (repeat' (first | (with_reducible exact Below.refl _ _) | (with_reducible assumption) | (with_reducible refine Below.alloc ?_ ?_ _) | (with_reducible refine Below.drew ?_) | (with_reducible refine Below.setCell ?_ ?_ _) | go_size | (exact (by simp)) | omega))⟩

theorem grownBy_set1 (W : World) (b i : Nat) (v : Value) : W.grownBy (W.setCell ⟨b, i, none⟩ v) (some b) :=
  ⟨rfl, rfl, rfl, (KeepsWalks.setCell W _ v).size, fun k _ hk => Below.heap_setCell _ _ _ k (fun e => hk (by rw [e]))⟩
theorem grownBy_set2 (W : World) (b i j : Nat) (u v : Value) : W.grownBy ((W.setCell ⟨b, i, none⟩ u).setCell ⟨b, j, none⟩ v) (some b) := (grownBy_set1 W b i u).trans (grownBy_set1 _ b j v)

set_option maxRecDepth 100000 in
set_option maxHeartbeats 8000000 in
theorem Next_any (d : Wh.Desk) (A : Option Addr) (c : Nat) (w : World) (hl : d.ws.length ≤ 1000000000) (hg : Wks w w.heap.size A d.ws) :
    Calls Try.prog 32 #[.agg (whV d), .slice A d.ws.length c] w fun e w' => e = .returned (.tuple #[.int .i64 (Wh.nextV d).1, .int .i64 (Wh.nextV d).2, .int .i64 (Wh.spE d)]) ∧ Below w.heap.size w w' := by
  have HP : Hid (∀ W, Below w.heap.size w W → Calls Try.prog 55 #[.agg (whV d), .slice A d.ws.length c] W (SpPost (Wh.spV d A c) (Wh.spE d) W)) := fun W hW => lay_any d A c W hl ((hg.keep hW).wider hW.size)
  unfold Wh.nextV
  by_cases h0 : Wh.spE d = 0
  · have hok := (Wh.sp_ok h0).1
    have HWO : Hid (∀ (k1 k2 : Int), sgn (k1, k2) → ∀ W, Below w.heap.size w W → Calls Try.prog 64 #[.agg (dkV d A c), .agg #[.int .i64 k1, .int .i64 k2]] W fun e w' => e = .returned (.int .i64 (Wh.worstV d k1 k2)) ∧ Below W.heap.size W w') := fun k1 k2 hk W hW => by
      have h1 := hk.1
      have h2 := hk.2
      dsimp only at h1 h2
      exact worst_any d hok k1 k2 (by omega) (by omega) A c W ((hg.keep hW).wider hW.size)
    have HNB : Hid (∀ n, Wh.nsB (Wh.nextTo (Wh.worstV d) n)) := fun n => Wh.nextTo_bd (Wh.worstV_bd d (Wh.ok_of hok)) n
    have HLB : Hid (∀ n, 0 ≤ Wh.leftV (Wh.worstV d) (Wh.nextTo (Wh.worstV d) n) (Wh.kindAt n) ∧ Wh.leftV (Wh.worstV d) (Wh.nextTo (Wh.worstV d) n) (Wh.kindAt n) ≤ 100000000) := fun n => Wh.leftV_bd (Wh.worstV_bd d (Wh.ok_of hok)) (HNB.out n) _
    have HST : Hid (∀ n, Wh.nextTo (Wh.worstV d) (n + 1) = Wh.nextStep (Wh.worstV d) (Wh.nextTo (Wh.worstV d) n) (Wh.kindAt n)) := fun n => rfl
    have HS0 : Hid (Wh.nextTo (Wh.worstV d) 0 = (fun _ => none, (1, 1))) := rfl
    rw [if_pos h0]
    rw [Wh.spV_yes h0, h0] at HP
    rw [h0]
    clear hg h0 hl hok
    generalize Wh.nextTo (Wh.worstV d) = NT at *
    generalize Wh.worstV d = WV at *
    obtain ⟨full, read, slip, skew, circ, glo, ghi, wrn, ws⟩ := d
    unfold dkV at *
    unfold whV at *
    dsimp only at *
    have hmm := @run_makeMap Try.prog
    go_enter Try.func32, Try.ntmps32
    go_wp2_with fail
    have hB1 : Below w.heap.size w (w.alloc (.cells #[.int .i64 full, .int .i64 read, .int .i64 slip, .int .i64 skew, .int .i64 circ, .int .i64 glo, .int .i64 ghi, .int .i64 wrn] 25)) := by (repeat' (first | (with_reducible exact Below.refl _ _) | (with_reducible assumption) | (with_reducible refine Below.alloc ?_ ?_ _) | (with_reducible refine Below.drew ?_) | (with_reducible refine Below.setCell ?_ ?_ _) | go_size | (exact (by simp)) | omega))
    generalize World.alloc w _ = w1 at *
    refine (HP.out _ hB1).mono ?_
    rintro e w2 ⟨rfl, hb2⟩
    have hB2 := hB1.trans (hb2.mono hB1.size)
    clear hb2 hB1 HP
    go_wp2_with fail
    clear hmm
    have hz2 := hB2.size
    have bD5 : BoxS (((w2.alloc (.cells #[.int .i64 full, .int .i64 read, .int .i64 slip, .int .i64 skew, .int .i64 circ, .int .i64 glo, .int .i64 ghi, .int .i64 wrn, .slice A ws.length c] 77)).alloc (.map #[] 0)).alloc (.cells #[.int .i64 1, .int .i64 1] 95)) w2.heap.size 77 #[.int .i64 full, .int .i64 read, .int .i64 slip, .int .i64 skew, .int .i64 circ, .int .i64 glo, .int .i64 ghi, .int .i64 wrn, .slice A ws.length c] := ((BoxS.new w2 77 #[.int .i64 full, .int .i64 read, .int .i64 slip, .int .i64 skew, .int .i64 circ, .int .i64 glo, .int .i64 ghi, .int .i64 wrn, .slice A ws.length c]).alloc _).alloc _
    have hM5 : Kmap (((w2.alloc (.cells #[.int .i64 full, .int .i64 read, .int .i64 slip, .int .i64 skew, .int .i64 circ, .int .i64 glo, .int .i64 ghi, .int .i64 wrn, .slice A ws.length c] 77)).alloc (.map #[] 0)).alloc (.cells #[.int .i64 1, .int .i64 1] 95)) (w2.heap.size + 1) 0 (NT 0).1 := by
      rw [HS0.out]
      have := (Kmap.made (w2.alloc (.cells #[.int .i64 full, .int .i64 read, .int .i64 slip, .int .i64 skew, .int .i64 circ, .int .i64 glo, .int .i64 ghi, .int .i64 wrn, .slice A ws.length c] 77))).below ((Below.refl _ _).alloc (Nat.le_refl _) (.cells #[.int .i64 1, .int .i64 1] 95))
      rw [World.size_alloc] at this
      exact this
    have bB5 : BoxS (((w2.alloc (.cells #[.int .i64 full, .int .i64 read, .int .i64 slip, .int .i64 skew, .int .i64 circ, .int .i64 glo, .int .i64 ghi, .int .i64 wrn, .slice A ws.length c] 77)).alloc (.map #[] 0)).alloc (.cells #[.int .i64 1, .int .i64 1] 95)) (w2.heap.size + 1 + 1) 95 #[.int .i64 (NT 0).2.1, .int .i64 (NT 0).2.2] := by
      rw [HS0.out]
      have := BoxS.new ((w2.alloc (.cells #[.int .i64 full, .int .i64 read, .int .i64 slip, .int .i64 skew, .int .i64 circ, .int .i64 glo, .int .i64 ghi, .int .i64 wrn, .slice A ws.length c] 77)).alloc (.map #[] 0)) 95 #[.int .i64 1, .int .i64 1]
      simp only [World.size_alloc] at this
      exact this
    have hB5 : Below w.heap.size w (((w2.alloc (.cells #[.int .i64 full, .int .i64 read, .int .i64 slip, .int .i64 skew, .int .i64 circ, .int .i64 glo, .int .i64 ghi, .int .i64 wrn, .slice A ws.length c] 77)).alloc (.map #[] 0)).alloc (.cells #[.int .i64 1, .int .i64 1] 95)) := by (repeat' (first | (with_reducible exact Below.refl _ _) | (with_reducible assumption) | (with_reducible refine Below.alloc ?_ ?_ _) | (with_reducible refine Below.drew ?_) | (with_reducible refine Below.setCell ?_ ?_ _) | go_size | (exact (by simp)) | omega))
    generalize (((w2.alloc (.cells #[.int .i64 full, .int .i64 read, .int .i64 slip, .int .i64 skew, .int .i64 circ, .int .i64 glo, .int .i64 ghi, .int .i64 wrn, .slice A ws.length c] 77)).alloc (.map #[] 0)).alloc (.cells #[.int .i64 1, .int .i64 1] 95)) = w5 at *
    obtain ⟨BB, hBB⟩ : ∃ B, B = w2.heap.size + 1 + 1 := ⟨_, rfl⟩
    obtain ⟨BM, hBM⟩ : ∃ B, B = w2.heap.size + 1 := ⟨_, rfl⟩
    obtain ⟨BD, hBD⟩ : ∃ B, B = w2.heap.size := ⟨_, rfl⟩
    rw [← hBB] at bB5
    rw [← hBM] at hM5
    rw [← hBD] at bD5
    rw [← hBB, ← hBM, ← hBD]
    have hord : w.heap.size ≤ BD ∧ BD < BM ∧ BM < BB := by omega
    clear hBB hBM hBD hz2
    obtain ⟨o1, o2, o3⟩ := hord
    go_loopw [30] (fun i wr => ∃ (k : Nat) (z : Int), z = (k : Int) ∧ (k : Int) ≤ 4 ∧ i = .int .i64 z ∧ Kmap wr BM k (NT k).1 ∧ BoxS wr BD 77 #[.int .i64 full, .int .i64 read, .int .i64 slip, .int .i64 skew, .int .i64 circ, .int .i64 glo, .int .i64 ghi, .int .i64 wrn, .slice A ws.length c] ∧ BoxS wr BB 95 #[.int .i64 (NT k).2.1, .int .i64 (NT k).2.2] ∧ Below w.heap.size w wr) (fun i _ => (4 - intOf i).toNat)
    case atStart => exact ⟨0, 0, rfl, by omega, rfl, hM5, bD5, bB5, hB5⟩
    case round =>
      obtain ⟨k, z, hzk, hk, rfl, hM, bD, bB, hB⟩ := hrel
      clear hM5 bD5 bB5 hB5
      by_cases hlt : (k : Int) < 4
      · have hks : k = 0 ∨ k = 1 ∨ k = 2 ∨ k = 3 := by omega
        rcases hks with rfl | rfl | rfl | rfl
        · obtain rfl : z = 0 := by omega
          clear hzk hk hlt
          have hST : NT 1 = Wh.nextStep WV (NT 0) (1, 1) := HST.out 0
          have hLB : 0 ≤ Wh.leftV WV (NT 0) (1, 1) ∧ Wh.leftV WV (NT 0) (1, 1) ≤ 100000000 := HLB.out 0
          have hsb := (HNB.out 0).2
          obtain ⟨g, b1, b2, hN⟩ : ∃ g b1 b2, NT 0 = (g, (b1, b2)) := ⟨_, _, _, rfl⟩
          rw [hN] at hM bB hsb hST hLB
          dsimp only at hM bB hsb
          have hTU : Hid (∀ W, Calls Try.prog 67 #[.agg #[.int .i64 1, .int .i64 1]] W fun e w' => e = .returned (.agg #[.int .i64 (-1), .int .i64 (-1)]) ∧ Below W.heap.size W w') := fun W => turnedK_any 1 1 (by omega) (by omega) W
          have hBs := hB.size
          have hMl := hM.lt
          have hbl := bB.lt
          have hix : (Instr.index 98 (.agg #[.int .i64 1, .int .i64 1, .int .i64 1, .int .i64 (-1), .int .i64 (-1), .int .i64 1, .int .i64 (-1), .int .i64 (-1)]) (.int .i64 0)).run Try.prog wr = .ok (.agg #[.int .i64 1, .int .i64 1]) wr := by kernel_rfl
          go_wp2_with fail
          refine (hTU.out _).mono ?_
          rintro e w6 ⟨rfl, hb6⟩
          have hM6 := (hM.below ((Below.refl _ _).alloc (Nat.le_refl _) (.cells #[.int .i64 1, .int .i64 1] 95))).below hb6
          have bD6 := (bD.alloc (.cells #[.int .i64 1, .int .i64 1] 95)).below hb6
          have bB6 := (bB.alloc (.cells #[.int .i64 1, .int .i64 1] 95)).below hb6
          have bX6 := (BoxS.new wr 95 #[.int .i64 1, .int .i64 1]).below hb6
          have hB6 : Below w.heap.size w w6 := (hB.alloc hB.size _).trans (hb6.mono (by simp; omega))
          have hlk6 := hM6.look_ok (x := -1) (y := -1) ⟨.inr rfl, .inr rfl⟩
          have hz6 : wr.heap.size < w6.heap.size := bX6.lt
          clear hb6 hM bD bB hB hTU
          cases hs : (g (-1, -1)).isSome
          · have hL0 : Wh.leftV WV (g, (b1, b2)) (1, 1) = WV 1 1 := by unfold Wh.leftV; rw [if_neg]; show ¬ (g (-1, -1)).isSome = true; rw [hs]; simp
            rw [hs] at hlk6
            obtain ⟨q0, q1⟩ := boxS2' bX6
            obtain ⟨⟨⟨d0, d1, d2⟩, d3, d4, d5⟩, d6, d7, d8⟩ := boxS9 bD6
            go_wp2_with fail
            refine (HWO.out 1 1 ⟨.inl rfl, .inl rfl⟩ _ hB6).mono ?_
            rintro e w7 ⟨rfl, hb7⟩
            have hM7 := hM6.below hb7
            have bD7 := bD6.below hb7
            have bB7 := bB6.below hb7
            have bX7 := bX6.below hb7
            have hB7 : Below w.heap.size w w7 := hB6.trans (hb7.mono hB6.size)
            obtain ⟨L, hL⟩ : ∃ L, L = Wh.leftV WV (g, (b1, b2)) (1, 1) := ⟨_, rfl⟩
            rw [← hL] at hL0
            rw [← hL0]
            clear hM6 bD6 bB6 bX6 hlk6 q0 q1 d0 d1 d2 d3 d4 d5 d6 d7 d8 hb7 hL0
            have hL2 : 0 ≤ L ∧ L ≤ 100000000 := hL ▸ hLB
            have hST2 : NT 1 = (putG g (1, 1) L, if L < ((putG g (1, 1) L) (b1, b2)).getD 0 then (1, 1) else (b1, b2)) := by rw [hL]; exact hST
            clear hLB hST hL
            obtain ⟨w8, hput, hM8, hg8⟩ := hM7.put (x := 1) (y := 1) ⟨.inl rfl, .inl rfl⟩ (by omega) (v := L) (by omega)
            have bD8 := bD7.kept hg8 (by simp; omega)
            have bB8 := bB7.kept hg8 (by simp; omega)
            have bX8 := bX7.kept hg8 (by simp; omega)
            have hB8 : Below w.heap.size w w8 := hB7.grown hg8 hB7.size (fun j hj => by injection hj with hj; omega)
            have hlk8 := hM8.look (x := b1) (y := b2) hsb
            obtain ⟨x0, x1⟩ := boxS2' bX7
            obtain ⟨y0, y1⟩ := boxS2' bX8
            obtain ⟨z0, z1⟩ := boxS2' bB8
            have fz0 := bB8.frozen 0
            have fz1 := bB8.frozen 1
            generalize ((putG g (1, 1) L) (b1, b2)).getD 0 = T at *
            by_cases hLT : L < T
            · rw [if_pos hLT] at hST2
              go_wp2_with fail
              have hg9 := grownBy_set2 w8 BB 0 1 (.int .i64 1) (.int .i64 1)
              go_roundw
              case rel => exact ⟨1, 1, rfl, by omega, rfl, by rw [hST2]; exact hM8.kept hg9 (by simp; omega), bD8.kept hg9 (by simp; omega), by rw [hST2]; exact (bB8.put9 0 (.int .i64 1)).put9 1 (.int .i64 1), hB8.grown hg9 hB8.size (fun j hj => by injection hj with hj; omega)⟩
              case measure => simp [intOf]
            · rw [if_neg hLT] at hST2
              go_wp2_with fail
              go_roundw
              case rel => exact ⟨1, 1, rfl, by omega, rfl, by rw [hST2]; exact hM8, bD8, by rw [hST2]; exact bB8, hB8⟩
              case measure => simp [intOf]
          · have hL0 : Wh.leftV WV (g, (b1, b2)) (1, 1) = (g (-1, -1)).getD 0 := by unfold Wh.leftV; rw [if_pos]; rfl; exact hs
            rw [hs] at hlk6
            obtain ⟨L, hL⟩ : ∃ L, L = Wh.leftV WV (g, (b1, b2)) (1, 1) := ⟨_, rfl⟩
            rw [← hL] at hL0
            rw [← hL0] at hlk6
            have hM7 := hM6
            have bD7 := bD6
            have bB7 := bB6
            have bX7 := bX6
            have hB7 := hB6
            clear hM6 bD6 bB6 bX6 hB6 hL0
            have hL2 : 0 ≤ L ∧ L ≤ 100000000 := hL ▸ hLB
            have hST2 : NT 1 = (putG g (1, 1) L, if L < ((putG g (1, 1) L) (b1, b2)).getD 0 then (1, 1) else (b1, b2)) := by rw [hL]; exact hST
            clear hLB hST hL
            obtain ⟨w8, hput, hM8, hg8⟩ := hM7.put (x := 1) (y := 1) ⟨.inl rfl, .inl rfl⟩ (by omega) (v := L) (by omega)
            have bD8 := bD7.kept hg8 (by simp; omega)
            have bB8 := bB7.kept hg8 (by simp; omega)
            have bX8 := bX7.kept hg8 (by simp; omega)
            have hB8 : Below w.heap.size w w8 := hB7.grown hg8 hB7.size (fun j hj => by injection hj with hj; omega)
            have hlk8 := hM8.look (x := b1) (y := b2) hsb
            obtain ⟨x0, x1⟩ := boxS2' bX7
            obtain ⟨y0, y1⟩ := boxS2' bX8
            obtain ⟨z0, z1⟩ := boxS2' bB8
            have fz0 := bB8.frozen 0
            have fz1 := bB8.frozen 1
            generalize ((putG g (1, 1) L) (b1, b2)).getD 0 = T at *
            by_cases hLT : L < T
            · rw [if_pos hLT] at hST2
              go_wp2_with fail
              have hg9 := grownBy_set2 w8 BB 0 1 (.int .i64 1) (.int .i64 1)
              go_roundw
              case rel => exact ⟨1, 1, rfl, by omega, rfl, by rw [hST2]; exact hM8.kept hg9 (by simp; omega), bD8.kept hg9 (by simp; omega), by rw [hST2]; exact (bB8.put9 0 (.int .i64 1)).put9 1 (.int .i64 1), hB8.grown hg9 hB8.size (fun j hj => by injection hj with hj; omega)⟩
              case measure => simp [intOf]
            · rw [if_neg hLT] at hST2
              go_wp2_with fail
              go_roundw
              case rel => exact ⟨1, 1, rfl, by omega, rfl, by rw [hST2]; exact hM8, bD8, by rw [hST2]; exact bB8, hB8⟩
              case measure => simp [intOf]
        · obtain rfl : z = 1 := by omega
          clear hzk hk hlt
          have hST : NT 2 = Wh.nextStep WV (NT 1) (1, -1) := HST.out 1
          have hLB : 0 ≤ Wh.leftV WV (NT 1) (1, -1) ∧ Wh.leftV WV (NT 1) (1, -1) ≤ 100000000 := HLB.out 1
          have hsb := (HNB.out 1).2
          obtain ⟨g, b1, b2, hN⟩ : ∃ g b1 b2, NT 1 = (g, (b1, b2)) := ⟨_, _, _, rfl⟩
          rw [hN] at hM bB hsb hST hLB
          dsimp only at hM bB hsb
          have hTU : Hid (∀ W, Calls Try.prog 67 #[.agg #[.int .i64 1, .int .i64 (-1)]] W fun e w' => e = .returned (.agg #[.int .i64 (-1), .int .i64 1]) ∧ Below W.heap.size W w') := fun W => turnedK_any 1 (-1) (by omega) (by omega) W
          have hBs := hB.size
          have hMl := hM.lt
          have hbl := bB.lt
          have hix : (Instr.index 98 (.agg #[.int .i64 1, .int .i64 1, .int .i64 1, .int .i64 (-1), .int .i64 (-1), .int .i64 1, .int .i64 (-1), .int .i64 (-1)]) (.int .i64 1)).run Try.prog wr = .ok (.agg #[.int .i64 1, .int .i64 (-1)]) wr := by kernel_rfl
          go_wp2_with fail
          refine (hTU.out _).mono ?_
          rintro e w6 ⟨rfl, hb6⟩
          have hM6 := (hM.below ((Below.refl _ _).alloc (Nat.le_refl _) (.cells #[.int .i64 1, .int .i64 (-1)] 95))).below hb6
          have bD6 := (bD.alloc (.cells #[.int .i64 1, .int .i64 (-1)] 95)).below hb6
          have bB6 := (bB.alloc (.cells #[.int .i64 1, .int .i64 (-1)] 95)).below hb6
          have bX6 := (BoxS.new wr 95 #[.int .i64 1, .int .i64 (-1)]).below hb6
          have hB6 : Below w.heap.size w w6 := (hB.alloc hB.size _).trans (hb6.mono (by simp; omega))
          have hlk6 := hM6.look_ok (x := -1) (y := 1) ⟨.inr rfl, .inl rfl⟩
          have hz6 : wr.heap.size < w6.heap.size := bX6.lt
          clear hb6 hM bD bB hB hTU
          cases hs : (g (-1, 1)).isSome
          · have hL0 : Wh.leftV WV (g, (b1, b2)) (1, -1) = WV 1 (-1) := by unfold Wh.leftV; rw [if_neg]; show ¬ (g (-1, 1)).isSome = true; rw [hs]; simp
            rw [hs] at hlk6
            obtain ⟨q0, q1⟩ := boxS2' bX6
            obtain ⟨⟨⟨d0, d1, d2⟩, d3, d4, d5⟩, d6, d7, d8⟩ := boxS9 bD6
            go_wp2_with fail
            refine (HWO.out 1 (-1) ⟨.inl rfl, .inr rfl⟩ _ hB6).mono ?_
            rintro e w7 ⟨rfl, hb7⟩
            have hM7 := hM6.below hb7
            have bD7 := bD6.below hb7
            have bB7 := bB6.below hb7
            have bX7 := bX6.below hb7
            have hB7 : Below w.heap.size w w7 := hB6.trans (hb7.mono hB6.size)
            obtain ⟨L, hL⟩ : ∃ L, L = Wh.leftV WV (g, (b1, b2)) (1, -1) := ⟨_, rfl⟩
            rw [← hL] at hL0
            rw [← hL0]
            clear hM6 bD6 bB6 bX6 hlk6 q0 q1 d0 d1 d2 d3 d4 d5 d6 d7 d8 hb7 hL0
            have hL2 : 0 ≤ L ∧ L ≤ 100000000 := hL ▸ hLB
            have hST2 : NT 2 = (putG g (1, -1) L, if L < ((putG g (1, -1) L) (b1, b2)).getD 0 then (1, -1) else (b1, b2)) := by rw [hL]; exact hST
            clear hLB hST hL
            obtain ⟨w8, hput, hM8, hg8⟩ := hM7.put (x := 1) (y := -1) ⟨.inl rfl, .inr rfl⟩ (by omega) (v := L) (by omega)
            have bD8 := bD7.kept hg8 (by simp; omega)
            have bB8 := bB7.kept hg8 (by simp; omega)
            have bX8 := bX7.kept hg8 (by simp; omega)
            have hB8 : Below w.heap.size w w8 := hB7.grown hg8 hB7.size (fun j hj => by injection hj with hj; omega)
            have hlk8 := hM8.look (x := b1) (y := b2) hsb
            obtain ⟨x0, x1⟩ := boxS2' bX7
            obtain ⟨y0, y1⟩ := boxS2' bX8
            obtain ⟨z0, z1⟩ := boxS2' bB8
            have fz0 := bB8.frozen 0
            have fz1 := bB8.frozen 1
            generalize ((putG g (1, -1) L) (b1, b2)).getD 0 = T at *
            by_cases hLT : L < T
            · rw [if_pos hLT] at hST2
              go_wp2_with fail
              have hg9 := grownBy_set2 w8 BB 0 1 (.int .i64 1) (.int .i64 (-1))
              go_roundw
              case rel => exact ⟨2, 2, rfl, by omega, rfl, by rw [hST2]; exact hM8.kept hg9 (by simp; omega), bD8.kept hg9 (by simp; omega), by rw [hST2]; exact (bB8.put9 0 (.int .i64 1)).put9 1 (.int .i64 (-1)), hB8.grown hg9 hB8.size (fun j hj => by injection hj with hj; omega)⟩
              case measure => simp [intOf]
            · rw [if_neg hLT] at hST2
              go_wp2_with fail
              go_roundw
              case rel => exact ⟨2, 2, rfl, by omega, rfl, by rw [hST2]; exact hM8, bD8, by rw [hST2]; exact bB8, hB8⟩
              case measure => simp [intOf]
          · have hL0 : Wh.leftV WV (g, (b1, b2)) (1, -1) = (g (-1, 1)).getD 0 := by unfold Wh.leftV; rw [if_pos]; rfl; exact hs
            rw [hs] at hlk6
            obtain ⟨L, hL⟩ : ∃ L, L = Wh.leftV WV (g, (b1, b2)) (1, -1) := ⟨_, rfl⟩
            rw [← hL] at hL0
            rw [← hL0] at hlk6
            have hM7 := hM6
            have bD7 := bD6
            have bB7 := bB6
            have bX7 := bX6
            have hB7 := hB6
            clear hM6 bD6 bB6 bX6 hB6 hL0
            have hL2 : 0 ≤ L ∧ L ≤ 100000000 := hL ▸ hLB
            have hST2 : NT 2 = (putG g (1, -1) L, if L < ((putG g (1, -1) L) (b1, b2)).getD 0 then (1, -1) else (b1, b2)) := by rw [hL]; exact hST
            clear hLB hST hL
            obtain ⟨w8, hput, hM8, hg8⟩ := hM7.put (x := 1) (y := -1) ⟨.inl rfl, .inr rfl⟩ (by omega) (v := L) (by omega)
            have bD8 := bD7.kept hg8 (by simp; omega)
            have bB8 := bB7.kept hg8 (by simp; omega)
            have bX8 := bX7.kept hg8 (by simp; omega)
            have hB8 : Below w.heap.size w w8 := hB7.grown hg8 hB7.size (fun j hj => by injection hj with hj; omega)
            have hlk8 := hM8.look (x := b1) (y := b2) hsb
            obtain ⟨x0, x1⟩ := boxS2' bX7
            obtain ⟨y0, y1⟩ := boxS2' bX8
            obtain ⟨z0, z1⟩ := boxS2' bB8
            have fz0 := bB8.frozen 0
            have fz1 := bB8.frozen 1
            generalize ((putG g (1, -1) L) (b1, b2)).getD 0 = T at *
            by_cases hLT : L < T
            · rw [if_pos hLT] at hST2
              go_wp2_with fail
              have hg9 := grownBy_set2 w8 BB 0 1 (.int .i64 1) (.int .i64 (-1))
              go_roundw
              case rel => exact ⟨2, 2, rfl, by omega, rfl, by rw [hST2]; exact hM8.kept hg9 (by simp; omega), bD8.kept hg9 (by simp; omega), by rw [hST2]; exact (bB8.put9 0 (.int .i64 1)).put9 1 (.int .i64 (-1)), hB8.grown hg9 hB8.size (fun j hj => by injection hj with hj; omega)⟩
              case measure => simp [intOf]
            · rw [if_neg hLT] at hST2
              go_wp2_with fail
              go_roundw
              case rel => exact ⟨2, 2, rfl, by omega, rfl, by rw [hST2]; exact hM8, bD8, by rw [hST2]; exact bB8, hB8⟩
              case measure => simp [intOf]
        · obtain rfl : z = 2 := by omega
          clear hzk hk hlt
          have hST : NT 3 = Wh.nextStep WV (NT 2) (-1, 1) := HST.out 2
          have hLB : 0 ≤ Wh.leftV WV (NT 2) (-1, 1) ∧ Wh.leftV WV (NT 2) (-1, 1) ≤ 100000000 := HLB.out 2
          have hsb := (HNB.out 2).2
          obtain ⟨g, b1, b2, hN⟩ : ∃ g b1 b2, NT 2 = (g, (b1, b2)) := ⟨_, _, _, rfl⟩
          rw [hN] at hM bB hsb hST hLB
          dsimp only at hM bB hsb
          have hTU : Hid (∀ W, Calls Try.prog 67 #[.agg #[.int .i64 (-1), .int .i64 1]] W fun e w' => e = .returned (.agg #[.int .i64 1, .int .i64 (-1)]) ∧ Below W.heap.size W w') := fun W => turnedK_any (-1) 1 (by omega) (by omega) W
          have hBs := hB.size
          have hMl := hM.lt
          have hbl := bB.lt
          have hix : (Instr.index 98 (.agg #[.int .i64 1, .int .i64 1, .int .i64 1, .int .i64 (-1), .int .i64 (-1), .int .i64 1, .int .i64 (-1), .int .i64 (-1)]) (.int .i64 2)).run Try.prog wr = .ok (.agg #[.int .i64 (-1), .int .i64 1]) wr := by kernel_rfl
          go_wp2_with fail
          refine (hTU.out _).mono ?_
          rintro e w6 ⟨rfl, hb6⟩
          have hM6 := (hM.below ((Below.refl _ _).alloc (Nat.le_refl _) (.cells #[.int .i64 (-1), .int .i64 1] 95))).below hb6
          have bD6 := (bD.alloc (.cells #[.int .i64 (-1), .int .i64 1] 95)).below hb6
          have bB6 := (bB.alloc (.cells #[.int .i64 (-1), .int .i64 1] 95)).below hb6
          have bX6 := (BoxS.new wr 95 #[.int .i64 (-1), .int .i64 1]).below hb6
          have hB6 : Below w.heap.size w w6 := (hB.alloc hB.size _).trans (hb6.mono (by simp; omega))
          have hlk6 := hM6.look_ok (x := 1) (y := -1) ⟨.inl rfl, .inr rfl⟩
          have hz6 : wr.heap.size < w6.heap.size := bX6.lt
          clear hb6 hM bD bB hB hTU
          cases hs : (g (1, -1)).isSome
          · have hL0 : Wh.leftV WV (g, (b1, b2)) (-1, 1) = WV (-1) 1 := by unfold Wh.leftV; rw [if_neg]; show ¬ (g (1, -1)).isSome = true; rw [hs]; simp
            rw [hs] at hlk6
            obtain ⟨q0, q1⟩ := boxS2' bX6
            obtain ⟨⟨⟨d0, d1, d2⟩, d3, d4, d5⟩, d6, d7, d8⟩ := boxS9 bD6
            go_wp2_with fail
            refine (HWO.out (-1) 1 ⟨.inr rfl, .inl rfl⟩ _ hB6).mono ?_
            rintro e w7 ⟨rfl, hb7⟩
            have hM7 := hM6.below hb7
            have bD7 := bD6.below hb7
            have bB7 := bB6.below hb7
            have bX7 := bX6.below hb7
            have hB7 : Below w.heap.size w w7 := hB6.trans (hb7.mono hB6.size)
            obtain ⟨L, hL⟩ : ∃ L, L = Wh.leftV WV (g, (b1, b2)) (-1, 1) := ⟨_, rfl⟩
            rw [← hL] at hL0
            rw [← hL0]
            clear hM6 bD6 bB6 bX6 hlk6 q0 q1 d0 d1 d2 d3 d4 d5 d6 d7 d8 hb7 hL0
            have hL2 : 0 ≤ L ∧ L ≤ 100000000 := hL ▸ hLB
            have hST2 : NT 3 = (putG g (-1, 1) L, if L < ((putG g (-1, 1) L) (b1, b2)).getD 0 then (-1, 1) else (b1, b2)) := by rw [hL]; exact hST
            clear hLB hST hL
            obtain ⟨w8, hput, hM8, hg8⟩ := hM7.put (x := -1) (y := 1) ⟨.inr rfl, .inl rfl⟩ (by omega) (v := L) (by omega)
            have bD8 := bD7.kept hg8 (by simp; omega)
            have bB8 := bB7.kept hg8 (by simp; omega)
            have bX8 := bX7.kept hg8 (by simp; omega)
            have hB8 : Below w.heap.size w w8 := hB7.grown hg8 hB7.size (fun j hj => by injection hj with hj; omega)
            have hlk8 := hM8.look (x := b1) (y := b2) hsb
            obtain ⟨x0, x1⟩ := boxS2' bX7
            obtain ⟨y0, y1⟩ := boxS2' bX8
            obtain ⟨z0, z1⟩ := boxS2' bB8
            have fz0 := bB8.frozen 0
            have fz1 := bB8.frozen 1
            generalize ((putG g (-1, 1) L) (b1, b2)).getD 0 = T at *
            by_cases hLT : L < T
            · rw [if_pos hLT] at hST2
              go_wp2_with fail
              have hg9 := grownBy_set2 w8 BB 0 1 (.int .i64 (-1)) (.int .i64 1)
              go_roundw
              case rel => exact ⟨3, 3, rfl, by omega, rfl, by rw [hST2]; exact hM8.kept hg9 (by simp; omega), bD8.kept hg9 (by simp; omega), by rw [hST2]; exact (bB8.put9 0 (.int .i64 (-1))).put9 1 (.int .i64 1), hB8.grown hg9 hB8.size (fun j hj => by injection hj with hj; omega)⟩
              case measure => simp [intOf]
            · rw [if_neg hLT] at hST2
              go_wp2_with fail
              go_roundw
              case rel => exact ⟨3, 3, rfl, by omega, rfl, by rw [hST2]; exact hM8, bD8, by rw [hST2]; exact bB8, hB8⟩
              case measure => simp [intOf]
          · have hL0 : Wh.leftV WV (g, (b1, b2)) (-1, 1) = (g (1, -1)).getD 0 := by unfold Wh.leftV; rw [if_pos]; rfl; exact hs
            rw [hs] at hlk6
            obtain ⟨L, hL⟩ : ∃ L, L = Wh.leftV WV (g, (b1, b2)) (-1, 1) := ⟨_, rfl⟩
            rw [← hL] at hL0
            rw [← hL0] at hlk6
            have hM7 := hM6
            have bD7 := bD6
            have bB7 := bB6
            have bX7 := bX6
            have hB7 := hB6
            clear hM6 bD6 bB6 bX6 hB6 hL0
            have hL2 : 0 ≤ L ∧ L ≤ 100000000 := hL ▸ hLB
            have hST2 : NT 3 = (putG g (-1, 1) L, if L < ((putG g (-1, 1) L) (b1, b2)).getD 0 then (-1, 1) else (b1, b2)) := by rw [hL]; exact hST
            clear hLB hST hL
            obtain ⟨w8, hput, hM8, hg8⟩ := hM7.put (x := -1) (y := 1) ⟨.inr rfl, .inl rfl⟩ (by omega) (v := L) (by omega)
            have bD8 := bD7.kept hg8 (by simp; omega)
            have bB8 := bB7.kept hg8 (by simp; omega)
            have bX8 := bX7.kept hg8 (by simp; omega)
            have hB8 : Below w.heap.size w w8 := hB7.grown hg8 hB7.size (fun j hj => by injection hj with hj; omega)
            have hlk8 := hM8.look (x := b1) (y := b2) hsb
            obtain ⟨x0, x1⟩ := boxS2' bX7
            obtain ⟨y0, y1⟩ := boxS2' bX8
            obtain ⟨z0, z1⟩ := boxS2' bB8
            have fz0 := bB8.frozen 0
            have fz1 := bB8.frozen 1
            generalize ((putG g (-1, 1) L) (b1, b2)).getD 0 = T at *
            by_cases hLT : L < T
            · rw [if_pos hLT] at hST2
              go_wp2_with fail
              have hg9 := grownBy_set2 w8 BB 0 1 (.int .i64 (-1)) (.int .i64 1)
              go_roundw
              case rel => exact ⟨3, 3, rfl, by omega, rfl, by rw [hST2]; exact hM8.kept hg9 (by simp; omega), bD8.kept hg9 (by simp; omega), by rw [hST2]; exact (bB8.put9 0 (.int .i64 (-1))).put9 1 (.int .i64 1), hB8.grown hg9 hB8.size (fun j hj => by injection hj with hj; omega)⟩
              case measure => simp [intOf]
            · rw [if_neg hLT] at hST2
              go_wp2_with fail
              go_roundw
              case rel => exact ⟨3, 3, rfl, by omega, rfl, by rw [hST2]; exact hM8, bD8, by rw [hST2]; exact bB8, hB8⟩
              case measure => simp [intOf]
        · obtain rfl : z = 3 := by omega
          clear hzk hk hlt
          have hST : NT 4 = Wh.nextStep WV (NT 3) (-1, -1) := HST.out 3
          have hLB : 0 ≤ Wh.leftV WV (NT 3) (-1, -1) ∧ Wh.leftV WV (NT 3) (-1, -1) ≤ 100000000 := HLB.out 3
          have hsb := (HNB.out 3).2
          obtain ⟨g, b1, b2, hN⟩ : ∃ g b1 b2, NT 3 = (g, (b1, b2)) := ⟨_, _, _, rfl⟩
          rw [hN] at hM bB hsb hST hLB
          dsimp only at hM bB hsb
          have hTU : Hid (∀ W, Calls Try.prog 67 #[.agg #[.int .i64 (-1), .int .i64 (-1)]] W fun e w' => e = .returned (.agg #[.int .i64 1, .int .i64 1]) ∧ Below W.heap.size W w') := fun W => turnedK_any (-1) (-1) (by omega) (by omega) W
          have hBs := hB.size
          have hMl := hM.lt
          have hbl := bB.lt
          have hix : (Instr.index 98 (.agg #[.int .i64 1, .int .i64 1, .int .i64 1, .int .i64 (-1), .int .i64 (-1), .int .i64 1, .int .i64 (-1), .int .i64 (-1)]) (.int .i64 3)).run Try.prog wr = .ok (.agg #[.int .i64 (-1), .int .i64 (-1)]) wr := by kernel_rfl
          go_wp2_with fail
          refine (hTU.out _).mono ?_
          rintro e w6 ⟨rfl, hb6⟩
          have hM6 := (hM.below ((Below.refl _ _).alloc (Nat.le_refl _) (.cells #[.int .i64 (-1), .int .i64 (-1)] 95))).below hb6
          have bD6 := (bD.alloc (.cells #[.int .i64 (-1), .int .i64 (-1)] 95)).below hb6
          have bB6 := (bB.alloc (.cells #[.int .i64 (-1), .int .i64 (-1)] 95)).below hb6
          have bX6 := (BoxS.new wr 95 #[.int .i64 (-1), .int .i64 (-1)]).below hb6
          have hB6 : Below w.heap.size w w6 := (hB.alloc hB.size _).trans (hb6.mono (by simp; omega))
          have hlk6 := hM6.look_ok (x := 1) (y := 1) ⟨.inl rfl, .inl rfl⟩
          have hz6 : wr.heap.size < w6.heap.size := bX6.lt
          clear hb6 hM bD bB hB hTU
          cases hs : (g (1, 1)).isSome
          · have hL0 : Wh.leftV WV (g, (b1, b2)) (-1, -1) = WV (-1) (-1) := by unfold Wh.leftV; rw [if_neg]; show ¬ (g (1, 1)).isSome = true; rw [hs]; simp
            rw [hs] at hlk6
            obtain ⟨q0, q1⟩ := boxS2' bX6
            obtain ⟨⟨⟨d0, d1, d2⟩, d3, d4, d5⟩, d6, d7, d8⟩ := boxS9 bD6
            go_wp2_with fail
            refine (HWO.out (-1) (-1) ⟨.inr rfl, .inr rfl⟩ _ hB6).mono ?_
            rintro e w7 ⟨rfl, hb7⟩
            have hM7 := hM6.below hb7
            have bD7 := bD6.below hb7
            have bB7 := bB6.below hb7
            have bX7 := bX6.below hb7
            have hB7 : Below w.heap.size w w7 := hB6.trans (hb7.mono hB6.size)
            obtain ⟨L, hL⟩ : ∃ L, L = Wh.leftV WV (g, (b1, b2)) (-1, -1) := ⟨_, rfl⟩
            rw [← hL] at hL0
            rw [← hL0]
            clear hM6 bD6 bB6 bX6 hlk6 q0 q1 d0 d1 d2 d3 d4 d5 d6 d7 d8 hb7 hL0
            have hL2 : 0 ≤ L ∧ L ≤ 100000000 := hL ▸ hLB
            have hST2 : NT 4 = (putG g (-1, -1) L, if L < ((putG g (-1, -1) L) (b1, b2)).getD 0 then (-1, -1) else (b1, b2)) := by rw [hL]; exact hST
            clear hLB hST hL
            obtain ⟨w8, hput, hM8, hg8⟩ := hM7.put (x := -1) (y := -1) ⟨.inr rfl, .inr rfl⟩ (by omega) (v := L) (by omega)
            have bD8 := bD7.kept hg8 (by simp; omega)
            have bB8 := bB7.kept hg8 (by simp; omega)
            have bX8 := bX7.kept hg8 (by simp; omega)
            have hB8 : Below w.heap.size w w8 := hB7.grown hg8 hB7.size (fun j hj => by injection hj with hj; omega)
            have hlk8 := hM8.look (x := b1) (y := b2) hsb
            obtain ⟨x0, x1⟩ := boxS2' bX7
            obtain ⟨y0, y1⟩ := boxS2' bX8
            obtain ⟨z0, z1⟩ := boxS2' bB8
            have fz0 := bB8.frozen 0
            have fz1 := bB8.frozen 1
            generalize ((putG g (-1, -1) L) (b1, b2)).getD 0 = T at *
            by_cases hLT : L < T
            · rw [if_pos hLT] at hST2
              go_wp2_with fail
              have hg9 := grownBy_set2 w8 BB 0 1 (.int .i64 (-1)) (.int .i64 (-1))
              go_roundw
              case rel => exact ⟨4, 4, rfl, by omega, rfl, by rw [hST2]; exact hM8.kept hg9 (by simp; omega), bD8.kept hg9 (by simp; omega), by rw [hST2]; exact (bB8.put9 0 (.int .i64 (-1))).put9 1 (.int .i64 (-1)), hB8.grown hg9 hB8.size (fun j hj => by injection hj with hj; omega)⟩
              case measure => simp [intOf]
            · rw [if_neg hLT] at hST2
              go_wp2_with fail
              go_roundw
              case rel => exact ⟨4, 4, rfl, by omega, rfl, by rw [hST2]; exact hM8, bD8, by rw [hST2]; exact bB8, hB8⟩
              case measure => simp [intOf]
          · have hL0 : Wh.leftV WV (g, (b1, b2)) (-1, -1) = (g (1, 1)).getD 0 := by unfold Wh.leftV; rw [if_pos]; rfl; exact hs
            rw [hs] at hlk6
            obtain ⟨L, hL⟩ : ∃ L, L = Wh.leftV WV (g, (b1, b2)) (-1, -1) := ⟨_, rfl⟩
            rw [← hL] at hL0
            rw [← hL0] at hlk6
            have hM7 := hM6
            have bD7 := bD6
            have bB7 := bB6
            have bX7 := bX6
            have hB7 := hB6
            clear hM6 bD6 bB6 bX6 hB6 hL0
            have hL2 : 0 ≤ L ∧ L ≤ 100000000 := hL ▸ hLB
            have hST2 : NT 4 = (putG g (-1, -1) L, if L < ((putG g (-1, -1) L) (b1, b2)).getD 0 then (-1, -1) else (b1, b2)) := by rw [hL]; exact hST
            clear hLB hST hL
            obtain ⟨w8, hput, hM8, hg8⟩ := hM7.put (x := -1) (y := -1) ⟨.inr rfl, .inr rfl⟩ (by omega) (v := L) (by omega)
            have bD8 := bD7.kept hg8 (by simp; omega)
            have bB8 := bB7.kept hg8 (by simp; omega)
            have bX8 := bX7.kept hg8 (by simp; omega)
            have hB8 : Below w.heap.size w w8 := hB7.grown hg8 hB7.size (fun j hj => by injection hj with hj; omega)
            have hlk8 := hM8.look (x := b1) (y := b2) hsb
            obtain ⟨x0, x1⟩ := boxS2' bX7
            obtain ⟨y0, y1⟩ := boxS2' bX8
            obtain ⟨z0, z1⟩ := boxS2' bB8
            have fz0 := bB8.frozen 0
            have fz1 := bB8.frozen 1
            generalize ((putG g (-1, -1) L) (b1, b2)).getD 0 = T at *
            by_cases hLT : L < T
            · rw [if_pos hLT] at hST2
              go_wp2_with fail
              have hg9 := grownBy_set2 w8 BB 0 1 (.int .i64 (-1)) (.int .i64 (-1))
              go_roundw
              case rel => exact ⟨4, 4, rfl, by omega, rfl, by rw [hST2]; exact hM8.kept hg9 (by simp; omega), bD8.kept hg9 (by simp; omega), by rw [hST2]; exact (bB8.put9 0 (.int .i64 (-1))).put9 1 (.int .i64 (-1)), hB8.grown hg9 hB8.size (fun j hj => by injection hj with hj; omega)⟩
              case measure => simp [intOf]
            · rw [if_neg hLT] at hST2
              go_wp2_with fail
              go_roundw
              case rel => exact ⟨4, 4, rfl, by omega, rfl, by rw [hST2]; exact hM8, bD8, by rw [hST2]; exact bB8, hB8⟩
              case measure => simp [intOf]
      · obtain rfl : k = 4 := by omega
        obtain rfl : z = 4 := by omega
        clear hzk hk hlt
        obtain ⟨z0, z1⟩ := boxS2' bB
        have hbl := bB.lt
        go_wp2_with fail
        go_quiet (fail)
        go_wp2_with fail
        go_returns
        exact ⟨rfl, by (repeat' (first | (with_reducible exact Below.refl _ _) | (with_reducible assumption) | (with_reducible refine Below.alloc ?_ ?_ _) | (with_reducible refine below_drewN ?_ _) | (with_reducible refine Below.drew ?_) | (with_reducible refine Below.setCell ?_ ?_ _) | go_size))⟩
  · rw [if_neg h0]
    rw [Wh.spV_no h0] at HP
    have hb : (Wh.spE d == 0) = false := by simpa using h0
    clear hg h0
    generalize Wh.spE d = E at *
    obtain ⟨full, read, slip, skew, circ, glo, ghi, wrn, ws⟩ := d
    unfold whV at *
    dsimp only at *
    go_enter Try.func32, Try.ntmps32
    go_wp2_with fail
    have hB1 : Below w.heap.size w (w.alloc (.cells #[.int .i64 full, .int .i64 read, .int .i64 slip, .int .i64 skew, .int .i64 circ, .int .i64 glo, .int .i64 ghi, .int .i64 wrn] 25)) := by (repeat' (first | (with_reducible exact Below.refl _ _) | (with_reducible assumption) | (with_reducible refine Below.alloc ?_ ?_ _) | (with_reducible refine Below.drew ?_) | (with_reducible refine Below.setCell ?_ ?_ _) | go_size | (exact (by simp)) | omega))
    generalize World.alloc w _ = w1 at *
    refine (HP.out _ hB1).mono ?_
    rintro e w2 ⟨rfl, hb2⟩
    have hB2 := hB1.trans (hb2.mono hB1.size)
    go_wp2_with fail
    go_returns
    exact ⟨rfl, hB2.alloc hB2.size _⟩
end Go.Proofs.Ytecmlakcpgkfbaa
