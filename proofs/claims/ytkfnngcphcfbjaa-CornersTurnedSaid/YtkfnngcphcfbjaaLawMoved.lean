/- What is moved: Twice is the same, First and Second change as the document says. No condition beyond the statement's own. -/
import Derived.Test.YtkfnngcphcfbjaaTold
import Derived.Test.YtkfnngcphcfbjaaPoly
import Derived.Test.YtkfnngcphcfbjaaFan
namespace Go.Proofs.Ytkfnngcphcfbjaa
open Go.RowKit

namespace Geo
def mvTo (ps : List Pt) (a b : Int) (k : Nat) : List Pt := (List.range k).map fun j => ((ptAt ps j).1 + a, (ptAt ps j).2 + b)
theorem mvTo_len (ps : List Pt) (a b : Int) (k : Nat) : (mvTo ps a b k).length = k := by unfold mvTo; simp
theorem mvTo_succ (ps : List Pt) (a b : Int) (k : Nat) : mvTo ps a b (k + 1) = mvTo ps a b k ++ [((ptAt ps k).1 + a, (ptAt ps k).2 + b)] := by
  unfold mvTo
  rw [List.range_succ, List.map_append]
  rfl
theorem mvTo_at (ps : List Pt) (a b : Int) {n j : Nat} (h : j < n) : ptAt (mvTo ps a b n) j = ((ptAt ps j).1 + a, (ptAt ps j).2 + b) := by
  unfold mvTo
  rw [ptAt_get (by simp; exact h)]
  simp
theorem flat_mv (ps : List Pt) (a b : Int) (k : Nat) : flat (mvTo ps a b (k + 1)) = flat (mvTo ps a b k) ++ [.int .i64 ((ptAt ps k).1 + a), .int .i64 ((ptAt ps k).2 + b)] := by
  rw [mvTo_succ, flat_append]
  simp [flat]
end Geo
theorem infoPt2 : (Try.prog.info? 24).map (fun i => (i.zero, i.size, i.bytes)) = some (some (.agg #[.int .i64 0, .int .i64 0]), 2, 16) := by kernel_rfl
theorem reads_two (W : World) (u v : Value) : Reads ((W.alloc (.cells #[u, v] 24)).drew) (W.heap.size + 1) 2 (some ⟨W.heap.size, 0, none⟩) 1 [u, v] := by
  refine ⟨rfl, fun _ => ⟨_, rfl, by simp, fun j x hx => ?_⟩⟩
  have hb := BoxS.drew (BoxS.new W 24 #[u, v])
  have hadd : (⟨W.heap.size, 0, none⟩ : Addr).add j = ⟨W.heap.size, j, none⟩ := by
    unfold Addr.add
    by_cases h0 : j = 0 <;> simp [h0]
  rw [hadd]
  refine hb.cell j ?_
  rw [← hx]
  simp

set_option maxRecDepth 100000 in
set_option maxHeartbeats 8000000 in
theorem lawMoved_walk (A : Option Addr) (c : Nat) (ps : List (Int × Int)) (a b : Int) (w : World) (hm : ps.length ≤ maxLen) (hg : Prs w w.heap.size A ps) :
    Calls Try.prog 4 #[.slice A ps.length c, .agg #[.int .i64 a, .int .i64 b]] w fun e w' => e = .returned (.bool true) ∧ Below w.heap.size w w' := by
  have HR : Hid (∀ W, Below w.heap.size w W → Calls Try.prog 14 #[.slice A ps.length c] W fun e w' => e = .returned (.bool (Geo.validB ps)) ∧ Below W.heap.size W w') := fun W hW => ready_any A c ps hm W (prs_keep hg hW)
  cases hv : Geo.validB ps with
  | false =>
    rw [hv] at HR
    clear hg hm hv
    go_enter Try.func4, Try.ntmps4
    go_wp2_with fail
    have HBY : Below w.heap.size w (w.alloc (.cells #[.int .i64 a, .int .i64 b] 24)) := by (repeat' (first | (with_reducible exact Below.refl _ _) | (with_reducible assumption) | (with_reducible refine Below.alloc ?_ ?_ _) | (with_reducible refine below_drewN ?_ _) | (with_reducible refine Below.drew ?_) | (with_reducible refine Below.setCell ?_ ?_ _) | go_size))
    refine (HR.out _ HBY).mono ?_
    rintro e w1 ⟨rfl, hb1⟩
    have HBZ := HBY.trans (hb1.mono HBY.size)
    go_wp2_with fail
    refine (works_any _).mono ?_
    rintro e w9 ⟨rfl, hb9⟩
    have hB9 : Below w.heap.size w w9 := HBZ.trans (hb9.mono HBZ.size)
    go_wp2_with fail
    go_returns
    exact ⟨rfl, hB9⟩
  | true =>
    rw [hv] at HR
    have HI : Hid (∀ W, Calls Try.prog 20 #[.agg #[.int .i64 a, .int .i64 b]] W fun e w' => e = .returned (.bool (Geo.ptB (a, b))) ∧ Below W.heap.size W w') := fun W => IsPoint_any a b W
    cases hp : Geo.ptB (a, b) with
    | false =>
      rw [hp] at HI
      clear hg hm hv hp
      go_enter Try.func4, Try.ntmps4
      go_wp2_with fail
      have HBY : Below w.heap.size w (w.alloc (.cells #[.int .i64 a, .int .i64 b] 24)) := by (repeat' (first | (with_reducible exact Below.refl _ _) | (with_reducible assumption) | (with_reducible refine Below.alloc ?_ ?_ _) | (with_reducible refine below_drewN ?_ _) | (with_reducible refine Below.drew ?_) | (with_reducible refine Below.setCell ?_ ?_ _) | go_size))
      have bY := BoxS.new w 24 #[.int .i64 a, .int .i64 b]
      refine (HR.out _ HBY).mono ?_
      rintro e w1 ⟨rfl, hb1⟩
      have HBX := HBY.trans (hb1.mono HBY.size)
      obtain ⟨y0, y1⟩ := boxS2 (bY.below hb1)
      clear bY hb1
      go_wp2_with fail
      refine (HI.out _).mono ?_
      rintro e w2 ⟨rfl, hb2⟩
      have HBZ := HBX.trans (hb2.mono HBX.size)
      clear y0 y1
      go_wp2_with fail
      refine (works_any _).mono ?_
      rintro e w9 ⟨rfl, hb9⟩
      have hB9 : Below w.heap.size w w9 := HBZ.trans (hb9.mono HBZ.size)
      go_wp2_with fail
      go_returns
      exact ⟨rfl, hB9⟩
    | true =>
      rw [hp] at HI
      have hlen := Geo.valid_len hv
      have hab : (-200 ≤ a ∧ a ≤ 200) ∧ (-200 ≤ b ∧ b ≤ 200) := by
        unfold Geo.ptB inB at hp
        simp at hp
        omega
      have hsm : ∀ k, k < ps.length → Geo.sm (Geo.ptAt ps k) := fun k hk => Geo.ptAt_sm (Geo.valid_sm hv) hk
      obtain ⟨bb, off, rfl, hbb, hc⟩ := hg (by omega)
      have HC : Hid (∀ W, Below w.heap.size w W → ∀ k, k < ps.length → W.cell? ⟨bb, off + k * 2, none⟩ = some (.int .i64 (Geo.ptAt ps k).1) ∧ W.cell? ⟨bb, off + k * 2 + 1, none⟩ = some (.int .i64 (Geo.ptAt ps k).2)) := fun W hW k hk => by
        have hgk : ps[k]? = some ps[k] := List.getElem?_eq_getElem hk
        have := hc k _ hgk
        rw [Geo.ptAt_eq hgk]
        exact ⟨(hW.cell (p := ⟨bb, off + k * 2, none⟩) hbb).trans this.1, (hW.cell (p := ⟨bb, off + k * 2 + 1, none⟩) hbb).trans this.2⟩
      have HG : Hid (Prs w w.heap.size (some ⟨bb, off, none⟩) ps) := hg
      have hll : (ps.length : Int) ≤ 10 := by omega
      have HV := Lib.hid hv
      have HSM := Lib.hid hsm
      have hl0 : 0 < ps.length := by omega
      clear hc hg hm hv hp hsm
      obtain ⟨i0, hi0, hz0, hz1, hz2⟩ := info_parts infoPt2
      go_enter Try.func4, Try.ntmps4
      go_wp2_with fail
      have HBY : Below w.heap.size w (w.alloc (.cells #[.int .i64 a, .int .i64 b] 24)) := by (repeat' (first | (with_reducible exact Below.refl _ _) | (with_reducible assumption) | (with_reducible refine Below.alloc ?_ ?_ _) | (with_reducible refine below_drewN ?_ _) | (with_reducible refine Below.drew ?_) | (with_reducible refine Below.setCell ?_ ?_ _) | go_size))
      have bY := BoxS.new w 24 #[.int .i64 a, .int .i64 b]
      refine (HR.out _ HBY).mono ?_
      rintro e w1 ⟨rfl, hb1⟩
      have HBX := HBY.trans (hb1.mono HBY.size)
      have bY1 := bY.below hb1
      obtain ⟨y0, y1⟩ := boxS2 bY1
      clear bY hb1 HBY
      go_wp2_with fail
      refine (HI.out _).mono ?_
      rintro e w2 ⟨rfl, hb2⟩
      have HB2 := HBX.trans (hb2.mono HBX.size)
      have bY2 := bY1.below hb2
      clear y0 y1 bY1 hb2 HBX
      go_wp2_with fail
      go_loopw [5, 6] (fun v x wr => ∃ k : Nat, (k : Int) ≤ ps.length ∧ x = .int .i64 k ∧ wr.ownsRow w2.heap.size 24 2 v k (flat (Geo.mvTo ps a b k)) ∧ Below w2.heap.size w2 wr) (fun _ x _ => (ps.length - intOf x).toNat)
      case atStart => exact ⟨0, by omega, rfl, World.ownsRow_nil _ _ _ _, Below.refl _ _⟩
      case round =>
        obtain ⟨k, hk, rfl, hown, hB⟩ := hrel
        have hk0 := Int.natCast_nonneg k
        by_cases hlt : (k : Int) < ps.length
        · have hkn : k < ps.length := by omega
          have hBw : Below w.heap.size w wr := HB2.trans (hB.mono HB2.size)
          obtain ⟨a0, a1⟩ := HC.out _ hBw k hkn
          have bYr := bY2.below hB
          obtain ⟨y0, y1⟩ := boxS2 bYr
          have HFL := Lib.hid (Geo.flat_mv ps a b k)
          have hpk := HSM.out k hkn
          have HOWN := Lib.hid hown
          have ly := bYr.lt
          have lb : bb < wr.heap.size := by have := hBw.size; omega
          clear hown
          generalize Geo.ptAt ps k = p at *
          obtain ⟨x0, z0⟩ := p
          dsimp only at a0 a1
          unfold Geo.sm at hpk
          dsimp only at hpk
          have hw1 : IntKind.i64.wrap ((k : Int) + 1) = (k : Int) + 1 := IntWalk.i64_in _ (by omega)
          have hw2 : IntKind.i64.wrap (x0 + a) = x0 + a := IntWalk.i64_in _ (by omega)
          have hw3 : IntKind.i64.wrap (z0 + b) = z0 + b := IntWalk.i64_in _ (by omega)
          go_wp2_with fail
          refine (wpIn_wide (n := 4)).1 ?_
          have hmo : Try.prog.follows .mixedOrders = true := by kernel_rfl
          have q0 : Below wr.heap.size wr wr.drew := (Below.refl _ _).drew
          have KC : Hid (∀ W', Below wr.heap.size wr W' → (W'.cell? ⟨bb, off + k * 2, none⟩ = some (.int .i64 x0) ∧ W'.cell? ⟨bb, off + k * 2 + 1, none⟩ = some (.int .i64 z0)) ∧ (W'.cell? ⟨w.heap.size, 0, none⟩ = some (.int .i64 a) ∧ W'.cell? ⟨w.heap.size, 1, none⟩ = some (.int .i64 b))) :=
            fun W' h => ⟨⟨(h.cell (p := ⟨bb, _, none⟩) lb).trans a0, (h.cell (p := ⟨bb, _, none⟩) lb).trans a1⟩, (h.cell (p := ⟨w.heap.size, _, none⟩) ly).trans y0, (h.cell (p := ⟨w.heap.size, _, none⟩) ly).trans y1⟩
          clear a0 a1 y0 y1
          refine wpIn_region_held (fun W' => Below wr.heap.size wr W') 19 hmo ?_
          refine wpHeldIn_take (i := 0) (v := ?_) (plain_of (by kernel_rfl)) rfl (by kernel_rfl) (fun _ _ _ h => h) (yieldsSoIn_of (by kernel_rfl) ?_ (fun _ => rfl)) q0 ?_; rotate_left; focus (intro wq hw; clear hw; go_simp; try (with_reducible rfl))
          refine wpHeldIn_take (i := 1) (v := ?_) (plain_of (by kernel_rfl)) rfl (by kernel_rfl) (fun _ _ _ h => h) (yieldsSoIn_of (by kernel_rfl) ?_ (fun _ => rfl)) q0 ?_; rotate_left; focus (intro wq hw; clear hw; go_simp; try (with_reducible rfl))
          refine wpHeldIn_take (i := 2) (v := ?_) (plain_of (by kernel_rfl)) rfl (by kernel_rfl) (fun _ _ _ h => h) (yieldsSoIn_of (by kernel_rfl) ?_ (fun _ => rfl)) q0 ?_; rotate_left; focus (intro wq hw; clear hw; go_simp; try (with_reducible rfl))
          refine wpHeldIn_take (i := 3) (v := ?_) (plain_of (by kernel_rfl)) rfl (by kernel_rfl) (fun _ _ _ h => h) (yieldsSoIn_of (by kernel_rfl) ?_ (fun _ => rfl)) q0 ?_; rotate_left; focus (intro wq hw; clear hw; go_simp; try (with_reducible rfl))
          refine wpHeldIn_take (i := 4) (v := ?_) (plain_of (by kernel_rfl)) rfl (by kernel_rfl) (fun _ _ _ h => h) (yieldsSoIn_of (by kernel_rfl) ?_ (fun _ => rfl)) q0 ?_; rotate_left; focus (intro wq hw; clear hw; go_simp; try (with_reducible rfl))
          refine wpHeldIn_take (i := 5) (v := ?_) (plain_of (by kernel_rfl)) rfl (by kernel_rfl) (fun _ _ _ h => h) (yieldsSoIn_of (by kernel_rfl) ?_ (fun _ => rfl)) q0 ?_; rotate_left; focus (intro wq hw; have kq := KC.out wq hw; clear hw; go_simp; try (with_reducible rfl))
          refine wpHeldIn_take (i := 6) (v := ?_) (plain_of (by kernel_rfl)) rfl (by kernel_rfl) (fun _ _ _ h => h) (yieldsSoIn_of (by kernel_rfl) ?_ (fun _ => rfl)) q0 ?_; rotate_left; focus (intro wq hw; clear hw; go_simp; try (with_reducible rfl))
          refine wpHeldIn_take (i := 7) (v := ?_) (plain_of (by kernel_rfl)) rfl (by kernel_rfl) (fun _ _ _ h => h) (yieldsSoIn_of (by kernel_rfl) ?_ (fun _ => rfl)) q0 ?_; rotate_left; focus (intro wq hw; have kq := KC.out wq hw; clear hw; go_simp; try (with_reducible rfl))
          refine wpHeldIn_take (i := 8) (v := ?_) (plain_of (by kernel_rfl)) rfl (by kernel_rfl) (fun _ _ _ h => h) (yieldsSoIn_of (by kernel_rfl) ?_ (fun _ => rfl)) q0 ?_; rotate_left; focus (intro wq hw; clear hw; go_simp; try (with_reducible rfl))
          refine wpHeldIn_take (i := 9) (v := ?_) (plain_of (by kernel_rfl)) rfl (by kernel_rfl) (fun _ _ _ h => h) (yieldsSoIn_of (by kernel_rfl) ?_ (fun _ => rfl)) q0 ?_; rotate_left; focus (intro wq hw; clear hw; go_simp; try (with_reducible rfl))
          refine wpHeldIn_take (i := 10) (v := ?_) (plain_of (by kernel_rfl)) rfl (by kernel_rfl) (fun _ _ _ h => h) (yieldsSoIn_of (by kernel_rfl) ?_ (fun _ => rfl)) q0 ?_; rotate_left; focus (intro wq hw; clear hw; go_simp; try (with_reducible rfl))
          refine wpHeldIn_take (i := 11) (v := ?_) (plain_of (by kernel_rfl)) rfl (by kernel_rfl) (fun _ _ _ h => h) (yieldsSoIn_of (by kernel_rfl) ?_ (fun _ => rfl)) q0 ?_; rotate_left; focus (intro wq hw; clear hw; go_simp; try (with_reducible rfl))
          refine wpHeldIn_take (i := 12) (v := ?_) (plain_of (by kernel_rfl)) rfl (by kernel_rfl) (fun _ _ _ h => h) (yieldsSoIn_of (by kernel_rfl) ?_ (fun _ => rfl)) q0 ?_; rotate_left; focus (intro wq hw; clear hw; go_simp; try (with_reducible rfl))
          refine wpHeldIn_take (i := 13) (v := ?_) (plain_of (by kernel_rfl)) rfl (by kernel_rfl) (fun _ _ _ h => h) (yieldsSoIn_of (by kernel_rfl) ?_ (fun _ => rfl)) q0 ?_; rotate_left; focus (intro wq hw; have kq := KC.out wq hw; clear hw; go_simp; try (with_reducible rfl))
          refine wpHeldIn_take (i := 14) (v := ?_) (plain_of (by kernel_rfl)) rfl (by kernel_rfl) (fun _ _ _ h => h) (yieldsSoIn_of (by kernel_rfl) ?_ (fun _ => rfl)) q0 ?_; rotate_left; focus (intro wq hw; clear hw; go_simp; try (with_reducible rfl))
          refine wpHeldIn_take (i := 15) (v := ?_) (plain_of (by kernel_rfl)) rfl (by kernel_rfl) (fun _ _ _ h => h) (yieldsSoIn_of (by kernel_rfl) ?_ (fun _ => rfl)) q0 ?_; rotate_left; focus (intro wq hw; have kq := KC.out wq hw; clear hw; go_simp; try (with_reducible rfl))
          refine wpHeldIn_take (i := 16) (v := ?_) (plain_of (by kernel_rfl)) rfl (by kernel_rfl) (fun _ _ _ h => h) (yieldsSoIn_of (by kernel_rfl) ?_ (fun _ => rfl)) q0 ?_; rotate_left; focus (intro wq hw; clear hw; go_simp; try (with_reducible rfl))
          refine wpHeldIn_take (i := 17) (v := ?_) (plain_of (by kernel_rfl)) rfl (by kernel_rfl) (fun _ _ _ h => h) (yieldsSoIn_of (by kernel_rfl) ?_ (fun _ => rfl)) q0 ?_; rotate_left; focus (intro wq hw; clear hw; go_simp; try (with_reducible rfl))
          refine wpHeldIn_one (i := 18) (by kernel_rfl) (by kernel_rfl) rfl (by kernel_rfl) (fun K' hK' => ?_)
          go_simp
          refine hK' _ _ (by (repeat' (first | (with_reducible exact Below.refl _ _) | (with_reducible assumption) | (with_reducible refine Below.alloc ?_ ?_ _) | (with_reducible refine Below.drew ?_) | (with_reducible refine Below.setCell ?_ ?_ _) | go_size | (exact (by simp)) | omega))) ?_
          refine wpHeldIn_last (by kernel_rfl) rfl (by kernel_rfl) (fun K2 hK2 => ?_)
          have HRD := reads_two wr (.int .i64 (x0 + a)) (.int .i64 (z0 + b))
          have hown1 : ((wr.alloc (.cells #[.int .i64 (x0 + a), .int .i64 (z0 + b)] 24)).drew).ownsRow w2.heap.size 24 2 _ k (flat (Geo.mvTo ps a b k)) := HOWN.out.alloc _
          have hB1 : Below w2.heap.size w2 ((wr.alloc (.cells #[.int .i64 (x0 + a), .int .i64 (z0 + b)] 24)).drew) := (hB.alloc hB.size _).drew
          refine wpIn_append_any _ (fun _ => rfl) (.tmp 28) (.tmp 46) 22 rfl w2.heap.size 24 i0 _ 2 16 Try.underlying22 hi0 hz0 hz1 hz2 rfl (by decide) _ k (flat (Geo.mvTo ps a b k)) rfl hown1 (wr.heap.size + 1) (some ⟨wr.heap.size, 0, none⟩) 1 1 [.int .i64 (x0 + a), .int .i64 (z0 + b)] rfl HRD (by intro u hu; simp at hu; rcases hu with rfl | rfl <;> rfl) (by unfold maxLen; omega) (by omega) (by have := hB.size; simp; omega) ?_
          intro v' w' hown2 hgrow _
          have hB2 : Below w2.heap.size w2 w' := hB1.grown hgrow hB1.size (fun j hj => by
            rcases hown1.2 with ⟨rfl, _⟩ | ⟨g, cap, cur, rfl, hbg, _⟩
            · cases hj
            · cases hj; exact hbg)
          rw [← HFL.out] at hown2
          have HOWN2 := Lib.hid hown2
          clear hown2 hgrow hown1 HRD hB1
          refine hK2 _ _ ?_
          refine wpHeldIn_take (i := 20) (v := ?_) (plain_of (by kernel_rfl)) rfl (by kernel_rfl) (fun _ _ _ h => h) (yieldsSoIn_of (by kernel_rfl) ?_ (fun _ => rfl)) trivial ?_; rotate_left; focus (intro w _; go_simp; try (with_reducible rfl))
          refine wpHeldIn_done (by kernel_rfl) ?_ _
          go_wp2_with fail
          go_roundw
          case rel => exact ⟨k + 1, by omega, by go_num, HOWN2.out, hB2⟩
          case measure => simp [intOf]; omega
        · obtain rfl : k = ps.length := by omega
          obtain ⟨A2, c2, hv⟩ : ∃ A2 c2, u5 = Value.slice A2 ps.length c2 := by
            rcases hown.2 with ⟨rfl, h0⟩ | ⟨g, cap, cur, rfl, _⟩
            · exact ⟨none, 0, by rw [h0]⟩
            · exact ⟨_, _, rfl⟩
          subst hv
          have hBw : Below w.heap.size w wr := HB2.trans (hB.mono HB2.size)
          have bY3 := bY2.below hB
          obtain ⟨qs, hqs⟩ : ∃ qs, qs = Geo.mvTo ps a b ps.length := ⟨_, rfl⟩
          have hql : qs.length = ps.length := by rw [hqs, Geo.mvTo_len]
          have hqat : ∀ j, j < ps.length → Geo.ptAt qs j = ((Geo.ptAt ps j).1 + a, (Geo.ptAt ps j).2 + b) := fun j hj => by rw [hqs]; exact Geo.mvTo_at ps a b hj
          have hP2 : Hid (Prs wr wr.heap.size A2 qs) := prs_of_own (B := w2.heap.size) (e := 24) (c := c2) (by rw [hql, hqs]; exact hown)
          have HK : Hid (∀ W, Prs W W.heap.size A2 qs → Calls Try.prog 21 #[.slice A2 ps.length c2] W fun e W' => e = .returned (.int .i64 (Geo.errV qs)) ∧ Below W.heap.size W W') := fun W hP => by rw [← Geo.refV_errV, ← hql]; exact refchk_any A2 c2 qs (by omega) W hP
          clear hown hB HSM bY2
          cases hvq : Geo.validB qs with
          | false =>
            rw [Geo.errV_no hvq] at HK
            clear hqat hql hqs hvq bY3
            go_wp2_with fail
            refine (HK.out _ hP2.out).mono ?_
            rintro e w3 ⟨rfl, hb3⟩
            have HBZ := hBw.trans (hb3.mono hBw.size)
            go_wp2_with fail
            refine (works_any _).mono ?_
            rintro e w9 ⟨rfl, hb9⟩
            have hB9 : Below w.heap.size w w9 := HBZ.trans (hb9.mono HBZ.size)
            go_wp2_with fail
            go_returns
            exact ⟨rfl, hB9⟩
          | true =>
            rw [Geo.errV_yes hvq] at HK
            have HT1 : Hid (∀ W, Below w.heap.size w W → Calls Try.prog 16 #[.slice (some ⟨bb, off, none⟩) ps.length c] W (ToldPost (Geo.toldA ps) W)) := fun W hW => told_yes _ c ps HV.out W (prs_keep HG.out hW)
            have HT2 : Hid (∀ W, Prs W W.heap.size A2 qs → Calls Try.prog 16 #[.slice A2 ps.length c2] W (ToldPost (Geo.toldA qs) W)) := fun W hP => by rw [← hql]; exact told_yes A2 c2 qs hvq W hP
            have e1 : Geo.toldA ps = #[.int .i64 (Geo.tot Geo.fanV ps), .int .i64 (Geo.tot Geo.fxV ps), .int .i64 (Geo.tot Geo.fyV ps), .int .i64 (Geo.tot Geo.xxV ps), .int .i64 (Geo.tot Geo.xyV ps), .int .i64 (Geo.tot Geo.yyV ps), .int .i64 (Geo.cenN Geo.fxV ps), .int .i64 (Geo.cenD Geo.fxV ps), .int .i64 (Geo.cenN Geo.fyV ps), .int .i64 (Geo.cenD Geo.fyV ps)] := rfl
            have e2 : Geo.toldA qs = #[.int .i64 (Geo.tot Geo.fanV ps), .int .i64 (Geo.tot Geo.fxV ps + 3 * a * Geo.tot Geo.fanV ps), .int .i64 (Geo.tot Geo.fyV ps + 3 * b * Geo.tot Geo.fanV ps), .int .i64 (Geo.tot Geo.xxV ps + 4 * a * Geo.tot Geo.fxV ps + 6 * a * a * Geo.tot Geo.fanV ps), .int .i64 (Geo.tot Geo.xyV ps + 4 * b * Geo.tot Geo.fxV ps + 4 * a * Geo.tot Geo.fyV ps + 12 * a * b * Geo.tot Geo.fanV ps), .int .i64 (Geo.tot Geo.yyV ps + 4 * b * Geo.tot Geo.fyV ps + 6 * b * b * Geo.tot Geo.fanV ps), .int .i64 (Geo.cenN Geo.fxV qs), .int .i64 (Geo.cenD Geo.fxV qs), .int .i64 (Geo.cenN Geo.fyV qs), .int .i64 (Geo.cenD Geo.fyV qs)] := by
              unfold Geo.toldA
              rw [Geo.moved_fan hql hl0 hqat, Geo.moved_fx hql hl0 hqat, Geo.moved_fy hql hl0 hqat, Geo.moved_xx hql hl0 hqat, Geo.moved_xy hql hl0 hqat, Geo.moved_yy hql hl0 hqat]
            rw [e1] at HT1
            rw [e2] at HT2
            have hsm := Geo.valid_sm HV.out
            have hl10 := (Geo.valid_len HV.out).2
            have bT := fan_sum hsm hl10
            have bX := tot_b2 (f := Geo.fxV) hsm hl10 (fun s h1 h2 => Geo.fx_b2 h1 h2)
            have bZ := tot_b2 (f := Geo.fyV) hsm hl10 (fun s h1 h2 => Geo.fy_b2 h1 h2)
            have bXX := tot_b2 (f := Geo.xxV) hsm hl10 (fun s h1 h2 => Geo.xx_b2 h1 h2)
            have bXY := tot_b2 (f := Geo.xyV) hsm hl10 (fun s h1 h2 => Geo.xy_b2 h1 h2)
            have bYY := tot_b2 (f := Geo.yyV) hsm hl10 (fun s h1 h2 => Geo.yy_b2 h1 h2)
            clear e1 e2 hsm hl10 hqat hql hqs hvq HV HC HI HR
            generalize Geo.tot Geo.fanV ps = T at *
            generalize Geo.tot Geo.fxV ps = X at *
            generalize Geo.tot Geo.fyV ps = Z at *
            generalize Geo.tot Geo.xxV ps = XX at *
            generalize Geo.tot Geo.xyV ps = XY at *
            generalize Geo.tot Geo.yyV ps = YY at *
            generalize Geo.cenN Geo.fxV ps = N1 at *
            generalize Geo.cenD Geo.fxV ps = N2 at *
            generalize Geo.cenN Geo.fyV ps = N3 at *
            generalize Geo.cenD Geo.fyV ps = N4 at *
            generalize Geo.cenN Geo.fxV qs = M1 at *
            generalize Geo.cenD Geo.fxV qs = M2 at *
            generalize Geo.cenN Geo.fyV qs = M3 at *
            generalize Geo.cenD Geo.fyV qs = M4 at *
            go_wp2_with fail
            refine (HK.out _ hP2.out).mono ?_
            rintro e w3 ⟨rfl, hb3⟩
            have hBw3 := hBw.trans (hb3.mono hBw.size)
            have hP3 : Hid (Prs w3 w3.heap.size A2 qs) := prs_keep hP2.out hb3
            have bY4 := bY3.below hb3
            clear hb3 hBw hP2 bY3 HK
            go_wp2_with fail
            refine (HT1.out _ hBw3).mono ?_
            rintro e w4 ⟨rfl, hb4⟩
            have hBw4 := hBw3.trans (hb4.mono hBw3.size)
            have hP4 : Hid (Prs w4 w4.heap.size A2 qs) := prs_keep hP3.out hb4
            have bY5 := bY4.below hb4
            clear hb4 hBw3 hP3 bY4 HT1
            go_wp2_with fail
            have bA5 := BoxS.new w4 30 #[.int .i64 T, .int .i64 X, .int .i64 Z, .int .i64 XX, .int .i64 XY, .int .i64 YY, .int .i64 N1, .int .i64 N2, .int .i64 N3, .int .i64 N4]
            have hb5 : Below w4.heap.size w4 (w4.alloc (.cells #[.int .i64 T, .int .i64 X, .int .i64 Z, .int .i64 XX, .int .i64 XY, .int .i64 YY, .int .i64 N1, .int .i64 N2, .int .i64 N3, .int .i64 N4] 30)) := by (repeat' (first | (with_reducible exact Below.refl _ _) | (with_reducible assumption) | (with_reducible refine Below.alloc ?_ ?_ _) | (with_reducible refine Below.drew ?_) | (with_reducible refine Below.setCell ?_ ?_ _) | go_size | (exact (by simp)) | omega))
            have hBw5 := hBw4.trans (hb5.mono hBw4.size)
            have hP5 : Hid (Prs _ _ A2 qs) := prs_keep hP4.out hb5
            have bY6 := bY5.below hb5
            clear hb5 hBw4 hP4 bY5
            generalize World.alloc _ _ = v5 at *
            refine (HT2.out _ hP5.out).mono ?_
            rintro e w6 ⟨rfl, hb6⟩
            have hBw6 := hBw5.trans (hb6.mono hBw5.size)
            have bY7 := bY6.below hb6
            have bA7 := bA5.below hb6
            clear hb6 hBw5 hP5 bY6 bA5 HT2
            go_wp2_with fail
            have bB8 := BoxS.new w6 30 #[.int .i64 T, .int .i64 (X + 3 * a * T), .int .i64 (Z + 3 * b * T), .int .i64 (XX + 4 * a * X + 6 * a * a * T), .int .i64 (XY + 4 * b * X + 4 * a * Z + 12 * a * b * T), .int .i64 (YY + 4 * b * Z + 6 * b * b * T), .int .i64 M1, .int .i64 M2, .int .i64 M3, .int .i64 M4]
            have bA8 := bA7.alloc (.cells #[.int .i64 T, .int .i64 (X + 3 * a * T), .int .i64 (Z + 3 * b * T), .int .i64 (XX + 4 * a * X + 6 * a * a * T), .int .i64 (XY + 4 * b * X + 4 * a * Z + 12 * a * b * T), .int .i64 (YY + 4 * b * Z + 6 * b * b * T), .int .i64 M1, .int .i64 M2, .int .i64 M3, .int .i64 M4] 30)
            have bY8 := bY7.alloc (.cells #[.int .i64 T, .int .i64 (X + 3 * a * T), .int .i64 (Z + 3 * b * T), .int .i64 (XX + 4 * a * X + 6 * a * a * T), .int .i64 (XY + 4 * b * X + 4 * a * Z + 12 * a * b * T), .int .i64 (YY + 4 * b * Z + 6 * b * b * T), .int .i64 M1, .int .i64 M2, .int .i64 M3, .int .i64 M4] 30)
            have hb6 : Below w6.heap.size w6 (w6.alloc (.cells #[.int .i64 T, .int .i64 (X + 3 * a * T), .int .i64 (Z + 3 * b * T), .int .i64 (XX + 4 * a * X + 6 * a * a * T), .int .i64 (XY + 4 * b * X + 4 * a * Z + 12 * a * b * T), .int .i64 (YY + 4 * b * Z + 6 * b * b * T), .int .i64 M1, .int .i64 M2, .int .i64 M3, .int .i64 M4] 30)) := by (repeat' (first | (with_reducible exact Below.refl _ _) | (with_reducible assumption) | (with_reducible refine Below.alloc ?_ ?_ _) | (with_reducible refine Below.drew ?_) | (with_reducible refine Below.setCell ?_ ?_ _) | go_size | (exact (by simp)) | omega))
            have hBw8 := hBw6.trans (hb6.mono hBw6.size)
            clear hb6 hBw6 bA7 bY7
            generalize World.alloc _ _ = v8 at *
            obtain ⟨y0, y1⟩ := boxS2 bY8
            have ly := bY8.lt
            have m1 := mul_bd (a := 3 * a) (b := T) (x := 600) (y := 80000000) (by omega) (by omega) (by omega) (by omega)
            have m2 := mul_bd (a := 3 * b) (b := T) (x := 600) (y := 80000000) (by omega) (by omega) (by omega) (by omega)
            have m3 := mul_bd (a := 4 * a) (b := X) (x := 800) (y := 1125899906842624) (by omega) (by omega) (by omega) (by omega)
            have m4 := mul_bd (a := 6 * a) (b := a) (x := 1200) (y := 200) (by omega) (by omega) (by omega) (by omega)
            have m5 := mul_bd (a := 6 * a * a) (b := T) (x := 240000) (y := 80000000) (by omega) (by omega) (by omega) (by omega)
            have m6 := mul_bd (a := 4 * b) (b := X) (x := 800) (y := 1125899906842624) (by omega) (by omega) (by omega) (by omega)
            have m7 := mul_bd (a := 4 * a) (b := Z) (x := 800) (y := 1125899906842624) (by omega) (by omega) (by omega) (by omega)
            have m8 := mul_bd (a := 12 * a) (b := b) (x := 2400) (y := 200) (by omega) (by omega) (by omega) (by omega)
            have m9 := mul_bd (a := 12 * a * b) (b := T) (x := 480000) (y := 80000000) (by omega) (by omega) (by omega) (by omega)
            have m10 := mul_bd (a := 4 * b) (b := Z) (x := 800) (y := 1125899906842624) (by omega) (by omega) (by omega) (by omega)
            have m11 := mul_bd (a := 6 * b) (b := b) (x := 1200) (y := 200) (by omega) (by omega) (by omega) (by omega)
            have m12 := mul_bd (a := 6 * b * b) (b := T) (x := 240000) (y := 80000000) (by omega) (by omega) (by omega) (by omega)
            have hw0 : IntKind.i64.wrap (3 * a) = 3 * a := IntWalk.i64_in _ (by omega)
            have hw1 : IntKind.i64.wrap (3 * a * T) = 3 * a * T := IntWalk.i64_in _ (by omega)
            have hw2 : IntKind.i64.wrap (X + 3 * a * T) = X + 3 * a * T := IntWalk.i64_in _ (by omega)
            have hw3 : IntKind.i64.wrap (3 * b) = 3 * b := IntWalk.i64_in _ (by omega)
            have hw4 : IntKind.i64.wrap (3 * b * T) = 3 * b * T := IntWalk.i64_in _ (by omega)
            have hw5 : IntKind.i64.wrap (Z + 3 * b * T) = Z + 3 * b * T := IntWalk.i64_in _ (by omega)
            have hw6 : IntKind.i64.wrap (4 * a) = 4 * a := IntWalk.i64_in _ (by omega)
            have hw7 : IntKind.i64.wrap (4 * a * X) = 4 * a * X := IntWalk.i64_in _ (by omega)
            have hw8 : IntKind.i64.wrap (XX + 4 * a * X) = XX + 4 * a * X := IntWalk.i64_in _ (by omega)
            have hw9 : IntKind.i64.wrap (6 * a) = 6 * a := IntWalk.i64_in _ (by omega)
            have hw10 : IntKind.i64.wrap (6 * a * a) = 6 * a * a := IntWalk.i64_in _ (by omega)
            have hw11 : IntKind.i64.wrap (6 * a * a * T) = 6 * a * a * T := IntWalk.i64_in _ (by omega)
            have hw12 : IntKind.i64.wrap (XX + 4 * a * X + 6 * a * a * T) = XX + 4 * a * X + 6 * a * a * T := IntWalk.i64_in _ (by omega)
            have hw13 : IntKind.i64.wrap (4 * b) = 4 * b := IntWalk.i64_in _ (by omega)
            have hw14 : IntKind.i64.wrap (4 * b * X) = 4 * b * X := IntWalk.i64_in _ (by omega)
            have hw15 : IntKind.i64.wrap (XY + 4 * b * X) = XY + 4 * b * X := IntWalk.i64_in _ (by omega)
            have hw16 : IntKind.i64.wrap (4 * a * Z) = 4 * a * Z := IntWalk.i64_in _ (by omega)
            have hw17 : IntKind.i64.wrap (XY + 4 * b * X + 4 * a * Z) = XY + 4 * b * X + 4 * a * Z := IntWalk.i64_in _ (by omega)
            have hw18 : IntKind.i64.wrap (12 * a) = 12 * a := IntWalk.i64_in _ (by omega)
            have hw19 : IntKind.i64.wrap (12 * a * b) = 12 * a * b := IntWalk.i64_in _ (by omega)
            have hw20 : IntKind.i64.wrap (12 * a * b * T) = 12 * a * b * T := IntWalk.i64_in _ (by omega)
            have hw21 : IntKind.i64.wrap (XY + 4 * b * X + 4 * a * Z + 12 * a * b * T) = XY + 4 * b * X + 4 * a * Z + 12 * a * b * T := IntWalk.i64_in _ (by omega)
            have hw22 : IntKind.i64.wrap (4 * b * Z) = 4 * b * Z := IntWalk.i64_in _ (by omega)
            have hw23 : IntKind.i64.wrap (YY + 4 * b * Z) = YY + 4 * b * Z := IntWalk.i64_in _ (by omega)
            have hw24 : IntKind.i64.wrap (6 * b) = 6 * b := IntWalk.i64_in _ (by omega)
            have hw25 : IntKind.i64.wrap (6 * b * b) = 6 * b * b := IntWalk.i64_in _ (by omega)
            have hw26 : IntKind.i64.wrap (6 * b * b * T) = 6 * b * b * T := IntWalk.i64_in _ (by omega)
            have hw27 : IntKind.i64.wrap (YY + 4 * b * Z + 6 * b * b * T) = YY + 4 * b * Z + 6 * b * b * T := IntWalk.i64_in _ (by omega)
            clear m1 m2 m3 m4 m5 m6 m7 m8 m9 m10 m11 m12 bT bX bZ bXX bXY bYY hab
            refine (wpIn_wide (n := 4)).1 ?_
            have hmo : Try.prog.follows .mixedOrders = true := by kernel_rfl
            have q0 : Below v8.heap.size v8 v8.drew := (Below.refl _ _).drew
            have KC : Hid (∀ W', Below v8.heap.size v8 W' → W'.cell? ⟨w.heap.size, 0, none⟩ = some (.int .i64 a) ∧ W'.cell? ⟨w.heap.size, 1, none⟩ = some (.int .i64 b)) :=
              fun W' h => ⟨(h.cell (p := ⟨w.heap.size, _, none⟩) ly).trans y0, (h.cell (p := ⟨w.heap.size, _, none⟩) ly).trans y1⟩
            clear y0 y1
            refine wpIn_region_held (fun W' => Below v8.heap.size v8 W') 6 hmo ?_
            refine wpHeldIn_take (i := 0) (v := ?_) (plain_of (by kernel_rfl)) rfl (by kernel_rfl) (fun _ _ _ h => h) (yieldsSoIn_of (by kernel_rfl) ?_ (fun _ => rfl)) q0 ?_; rotate_left; focus (intro wq hw; clear hw; go_simp; try (with_reducible rfl))
            refine wpHeldIn_take (i := 1) (v := ?_) (plain_of (by kernel_rfl)) rfl (by kernel_rfl) (fun _ _ _ h => h) (yieldsSoIn_of (by kernel_rfl) ?_ (fun _ => rfl)) q0 ?_; rotate_left; focus (intro wq hw; have kq := KC.out wq hw; clear hw; go_simp; try (with_reducible rfl))
            refine wpHeldIn_take (i := 2) (v := ?_) (plain_of (by kernel_rfl)) rfl (by kernel_rfl) (fun _ _ _ h => h) (yieldsSoIn_of (by kernel_rfl) ?_ (fun _ => rfl)) q0 ?_; rotate_left; focus (intro wq hw; clear hw; go_simp; try (with_reducible rfl))
            refine wpHeldIn_take (i := 3) (v := ?_) (plain_of (by kernel_rfl)) rfl (by kernel_rfl) (fun _ _ _ h => h) (yieldsSoIn_of (by kernel_rfl) ?_ (fun _ => rfl)) q0 ?_; rotate_left; focus (intro wq hw; have kq := KC.out wq hw; clear hw; go_simp; try (with_reducible rfl))
            refine wpHeldIn_take (i := 4) (v := ?_) (plain_of (by kernel_rfl)) rfl (by kernel_rfl) (fun _ _ _ h => h) (yieldsSoIn_of (by kernel_rfl) ?_ (fun _ => rfl)) q0 ?_; rotate_left; focus (intro wq hw; clear hw; go_simp; try (with_reducible rfl))
            refine wpHeldIn_take (i := 5) (v := ?_) (plain_of (by kernel_rfl)) rfl (by kernel_rfl) (fun _ _ _ h => h) (yieldsSoIn_of (by kernel_rfl) ?_ (fun _ => rfl)) q0 ?_; rotate_left; focus (intro wq hw; clear hw; go_simp; try (with_reducible rfl))
            refine wpHeldIn_done (by kernel_rfl) ?_ _
            have c0 := (BoxS.drew bA8).cell 0 rfl
            have d0 := (BoxS.drew bB8).cell 0 rfl
            have c1 := (BoxS.drew bA8).cell 1 rfl
            have d1 := (BoxS.drew bB8).cell 1 rfl
            have c2 := (BoxS.drew bA8).cell 2 rfl
            have d2 := (BoxS.drew bB8).cell 2 rfl
            have c3 := (BoxS.drew bA8).cell 3 rfl
            have d3 := (BoxS.drew bB8).cell 3 rfl
            have c4 := (BoxS.drew bA8).cell 4 rfl
            have d4 := (BoxS.drew bB8).cell 4 rfl
            have c5 := (BoxS.drew bA8).cell 5 rfl
            have d5 := (BoxS.drew bB8).cell 5 rfl
            have HBZ := hBw8.drew
            clear bA8 bB8 bY8 ly KC q0 hBw8
            generalize v8.drew = v9 at *
            go_wp2_with fail
            refine (works_any _).mono ?_
            rintro e w10 ⟨rfl, hb10⟩
            have hB10 : Below w.heap.size w w10 := HBZ.trans (hb10.mono HBZ.size)
            go_wp2_with fail
            go_returns
            exact ⟨rfl, hB10⟩

open Go.ChangeShapes Go.WideShapes Go.ChangeAt Go.RowKit Go.Joins

set_option maxRecDepth 100000 in
theorem moved_lifted (os : Os) (started : os.Started) (H : Type) (enc : TypeId × Value → H) :
    ReturnsInHanded {} Try.checked os 4 .any (Rows.cornersMovedSpec.pre6 enc Try.prog Try.f4 Rows.cornersMovedRow.domain false) (Rows.cornersMovedSpec.post enc Try.prog Try.f4 false true false false) := by
  refine returnsInHanded_of_change (C := Try.checked) own started (by kernel_rfl) Try.func4
    (ChangeSpec.witness6 (enc := enc) (C := Try.checked) false ⟨#[], #[.slice none 0 0, .agg #[.int .i64 0, .int .i64 0]], []⟩ 8 (by kernel_rfl) (by kernel_rfl) (by kernel_rfl) (by kernel_rfl)) ?_
  intro W base args ds gs before hval0 hW hcnd _
  have hval : ∀ (j : Nat) t v, Try.f4.params[j]? = some t → args[j]? = some v → Value.okWide Try.prog W .any base t v := hval0
  have hW' := hW
  obtain ⟨p, q, hA0, hV, rfl, hfz, hnd⟩ := hW
  have hA : DataW.TrodAll enc Try.prog W 0 (fun _ => true) true Try.f4.params.toList args.toList ds p := hA0
  rw [Try.params4] at hA hval
  obtain ⟨v0, v1, d0, d1, p0, p1, rfl, rfl, rfl, h0, h1⟩ := trodAll_two hA
  obtain ⟨rfl, rfl⟩ := trodVars_none hV
  obtain ⟨A, c, ps, rfl, hg_ps, hl_ps⟩ := open_prs Try.underlying22 Try.underlying24 (by kernel_rfl) (by kernel_rfl) (by kernel_rfl) (by kernel_rfl) (by kernel_rfl) Try.underlying3 Try.underlying3 (hval 0 22 v0 rfl rfl) h0
  obtain ⟨x, y, rfl⟩ := open_Point (hval 1 24 v1 rfl rfl) h1
  refine (lawMoved_walk A c ps x y W hl_ps hg_ps).mono fun e W' ⟨he, hb⟩ => ?_
  subst he
  exact ⟨_, rfl, law_post hW' rfl rfl (by intro t ht; have : t = 22 ∨ t = 24 := (by rw [Try.params4] at ht; simpa using ht); rcases this with rfl | rfl <;> exact ⟨by kernel_rfl, of_decide_eq_true (by kernel_rfl)⟩) rfl rfl rfl hb⟩

theorem moved_holds : Rows.CornersMovedSaid :=
  OpenClaim.holds_of_wide 4 Try.f4 rfl rfl rfl rfl rfl rfl rfl ⟨rfl, rfl, rfl, rfl, rfl⟩ rfl rfl rfl rfl rfl (by kernel_rfl) Try.func4 (by kernel_rfl)
    (of_decide_eq_true (by kernel_rfl)) (by unfold Func.isWrapper; rw [if_neg (of_decide_eq_false (by kernel_rfl))]; exact ⟨rfl, rfl⟩)
    (fun os started H enc _ => moved_lifted os started H enc)
end Go.Proofs.Ytkfnngcphcfbjaa
