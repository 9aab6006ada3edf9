/- The reference's TwiceOf. -/
import Derived.Test.YtgpmnkdagpcffaaFan
import Derived.Test.YtgpmnkdagpcffaaValid
namespace Go.Proofs.Ytgpmnkdagpcffaa
open Go.RowKit

namespace Geo
/-- The sum of what the first m triangles from the first corner give. -/
def fanS (f : Pt → Pt → Pt → Int) (ps : List Pt) : Nat → Int
  | 0 => 0
  | m + 1 => fanS f ps m + f (ptAt ps 0) (ptAt ps (m + 1)) (ptAt ps (m + 2))
theorem fanS_bd {f : Pt → Pt → Pt → Int} {ps : List Pt} {M : Int} {m : Nat} (h : ∀ k, k < m → -M ≤ f (ptAt ps 0) (ptAt ps (k + 1)) (ptAt ps (k + 2)) ∧ f (ptAt ps 0) (ptAt ps (k + 1)) (ptAt ps (k + 2)) ≤ M) : -(M * m) ≤ fanS f ps m ∧ fanS f ps m ≤ M * m := by
  induction m with
  | zero => simp [fanS]
  | succ m ih =>
    have h1 := ih (fun k hk => h k (by omega))
    have h2 := h m (by omega)
    unfold fanS
    have e : M * ((m + 1 : Nat) : Int) = M * (m : Int) + M := by push_cast; rw [Int.mul_add]; omega
    rw [e]
    omega
theorem ptAt_sm {ps : List Pt} (h : ∀ p ∈ ps, sm p) {k : Nat} (hk : k < ps.length) : sm (ptAt ps k) := by
  rw [ptAt_eq (List.getElem?_eq_getElem hk)]; exact h _ (List.getElem_mem hk)
end Geo

set_option maxRecDepth 100000 in
set_option maxHeartbeats 4000000 in
theorem TwiceOf_any (A : Option Addr) (c : Nat) (ps : List (Int × Int)) (hsm : ∀ p ∈ ps, Geo.sm p) (hl : ps.length ≤ 100) (h2 : 2 ≤ ps.length) (w : World) (hP : Prs w w.heap.size A ps) :
    Calls Try.prog 32 #[.slice A ps.length c] w fun e w' => e = .returned (.int .i64 (Geo.fanS Geo.turn ps (ps.length - 2))) ∧ Below w.heap.size w w' := by
  have HF := Lib.hid (Fan_any A c ps hl h2 w hP)
  have HSM : Hid (∀ k, k < ps.length → Geo.sm (Geo.ptAt ps k)) := fun k hk => Geo.ptAt_sm hsm hk
  have HBD : Hid (∀ m, m ≤ ps.length - 2 → -(8000000 * (m : Int)) ≤ Geo.fanS Geo.turn ps m ∧ Geo.fanS Geo.turn ps m ≤ 8000000 * m) := fun m hm => Geo.fanS_bd (fun k hk => (Geo.turn_bd (HSM.out _ (by omega)) (HSM.out _ (by omega)) (HSM.out _ (by omega))).2.2)
  clear hsm hP
  obtain ⟨n2, hn2⟩ : ∃ n2, n2 = ps.length - 2 := ⟨_, rfl⟩
  rw [← hn2] at HBD ⊢
  have hn2l : n2 + 2 = ps.length := by omega
  have hn3l : (n2 : Int) ≤ 100 := by omega
  have HN2 := Lib.hid hn2
  have HN2l := Lib.hid hn2l
  clear hn2 hn2l
  go_enter Try.func32, Try.ntmps32
  go_wp2_with fail
  refine HF.out.mono ?_
  rintro e w1 ⟨A2, c2, he, hT, hB1⟩
  rw [← HN2.out] at he hT
  subst he
  have HT := Lib.hid hT
  clear hT HF
  go_wp2_with fail
  go_loopw [3, 5] (fun s x wr => ∃ k : Nat, (k : Int) ≤ n2 ∧ x = .int .i64 k ∧ s = .int .i64 (Geo.fanS Geo.turn ps k) ∧ Below w1.heap.size w1 wr) (fun _ x _ => (n2 - intOf x).toNat)
  case atStart => exact ⟨0, by omega, rfl, rfl, Below.refl _ _⟩
  case round =>
    obtain ⟨k, hk, rfl, rfl, hB⟩ := hrel
    have hk0 := Int.natCast_nonneg k
    by_cases hlt : (k : Int) < n2
    · have hkl : k < n2 := by omega
      obtain ⟨g, rfl, hg, hc⟩ := HT.out (by rw [fanTo_len]; omega)
      obtain ⟨⟨a0, a1⟩, ⟨a2, a3⟩, a4, a5⟩ := hc k _ (fanTo_get hkl)
      unfold triAt at a0 a1 a2 a3 a4 a5
      dsimp only at a0 a1 a2 a3 a4 a5
      have b0 := (hB.cell (p := ⟨g, _, none⟩) hg).trans a0
      have b1 := (hB.cell (p := ⟨g, _, none⟩) hg).trans a1
      have b2 := (hB.cell (p := ⟨g, _, none⟩) hg).trans a2
      have b3 := (hB.cell (p := ⟨g, _, none⟩) hg).trans a3
      have b4 := (hB.cell (p := ⟨g, _, none⟩) hg).trans a4
      have b5 := (hB.cell (p := ⟨g, _, none⟩) hg).trans a5
      have hn2l := HN2l.out
      have s0 := HSM.out 0 (by omega)
      have s1 := HSM.out (k + 1) (by omega)
      have s2 := HSM.out (k + 2) (by omega)
      obtain ⟨v1, v2⟩ := HBD.out k (by omega)
      obtain ⟨v3, v4⟩ := (Geo.turn_bd s0 s1 s2).2.2
      have hsn : Hid (Geo.fanS Geo.turn ps (k + 1) = Geo.fanS Geo.turn ps k + Geo.turn (Geo.ptAt ps 0) (Geo.ptAt ps (k + 1)) (Geo.ptAt ps (k + 2))) := rfl
      clear a0 a1 a2 a3 a4 a5 hc hn2l
      generalize Geo.fanS Geo.turn ps k = s at *
      generalize Geo.ptAt ps 0 = p0 at *
      generalize Geo.ptAt ps (k + 1) = p1 at *
      generalize Geo.ptAt ps (k + 2) = p2 at *
      obtain ⟨x0, y0⟩ := p0
      obtain ⟨x1, y1⟩ := p1
      obtain ⟨x2, y2⟩ := p2
      dsimp only at b0 b1 b2 b3 b4 b5
      have HU : Hid (∀ W, Calls Try.prog 86 #[.agg #[.int .i64 x0, .int .i64 y0], .agg #[.int .i64 x1, .int .i64 y1], .agg #[.int .i64 x2, .int .i64 y2]] W fun e w' => e = .returned (.int .i64 (Geo.turn (x0, y0) (x1, y1) (x2, y2))) ∧ Below W.heap.size W w') := fun W => Turn_any _ _ _ _ _ _ W s0 s1 s2
      generalize Geo.turn (x0, y0) (x1, y1) (x2, y2) = T at *
      have hwr : IntKind.i64.wrap (s + T) = s + T := IntWalk.i64_in _ (by omega)
      clear s0 s1 s2 v1 v2 v3 v4
      go_wp2_with fail
      refine (wpIn_wide (n := 4)).1 ?_
      have hmo : Try.prog.follows .mixedOrders = true := by kernel_rfl
      refine wpIn_region_held (fun W' => Below wr.heap.size wr W') 19 hmo ?_
      have q0 : Below wr.heap.size wr wr.drew := (Below.refl _ _).drew
      have hgw : g < wr.heap.size := by have := hB.size; omega
      have KC : Hid (∀ W', Below wr.heap.size wr W' → (W'.cell? ⟨g, k * 6, none⟩ = some (.int .i64 x0) ∧ W'.cell? ⟨g, k * 6 + 1, none⟩ = some (.int .i64 y0)) ∧ (W'.cell? ⟨g, k * 6 + 2, none⟩ = some (.int .i64 x1) ∧ W'.cell? ⟨g, k * 6 + 3, none⟩ = some (.int .i64 y1)) ∧ (W'.cell? ⟨g, k * 6 + 4, none⟩ = some (.int .i64 x2) ∧ W'.cell? ⟨g, k * 6 + 5, none⟩ = some (.int .i64 y2))) :=
        fun W' h => ⟨⟨(h.cell (p := ⟨g, _, none⟩) hgw).trans b0, (h.cell (p := ⟨g, _, none⟩) hgw).trans b1⟩, ⟨(h.cell (p := ⟨g, _, none⟩) hgw).trans b2, (h.cell (p := ⟨g, _, none⟩) hgw).trans b3⟩, (h.cell (p := ⟨g, _, none⟩) hgw).trans b4, (h.cell (p := ⟨g, _, none⟩) hgw).trans b5⟩
      clear b0 b1 b2 b3 b4 b5
      refine wpHeldIn_take (i := 0) (v := ?_) (plain_of (by kernel_rfl)) rfl (by kernel_rfl) (fun _ _ _ h => h) (yieldsSoIn_of (by kernel_rfl) ?_ (fun _ => rfl)) q0 ?_; rotate_left; focus (intro wq hw; clear hw; go_simp; try (with_reducible rfl))
      refine wpHeldIn_take (i := 1) (v := ?_) (plain_of (by kernel_rfl)) rfl (by kernel_rfl) (fun _ _ _ h => h) (yieldsSoIn_of (by kernel_rfl) ?_ (fun _ => rfl)) q0 ?_; rotate_left; focus (intro wq hw; clear hw; go_simp; try (with_reducible rfl))
      refine wpHeldIn_take (i := 2) (v := ?_) (plain_of (by kernel_rfl)) rfl (by kernel_rfl) (fun _ _ _ h => h) (yieldsSoIn_of (by kernel_rfl) ?_ (fun _ => rfl)) q0 ?_; rotate_left; focus (intro wq hw; clear hw; go_simp; try (with_reducible rfl))
      refine wpHeldIn_take (i := 3) (v := ?_) (plain_of (by kernel_rfl)) rfl (by kernel_rfl) (fun _ _ _ h => h) (yieldsSoIn_of (by kernel_rfl) ?_ (fun _ => rfl)) q0 ?_; rotate_left; focus (intro wq hw; clear hw; go_simp; try (with_reducible rfl))
      refine wpHeldIn_take (i := 4) (v := ?_) (plain_of (by kernel_rfl)) rfl (by kernel_rfl) (fun _ _ _ h => h) (yieldsSoIn_of (by kernel_rfl) ?_ (fun _ => rfl)) q0 ?_; rotate_left; focus (intro wq hw; clear hw; go_simp; try (with_reducible rfl))
      refine wpHeldIn_take (i := 5) (v := ?_) (plain_of (by kernel_rfl)) rfl (by kernel_rfl) (fun _ _ _ h => h) (yieldsSoIn_of (by kernel_rfl) ?_ (fun _ => rfl)) q0 ?_; rotate_left; focus (intro wq hw; have kq := KC.out wq hw; clear hw; go_simp; try (with_reducible rfl))
      refine wpHeldIn_take (i := 6) (v := ?_) (plain_of (by kernel_rfl)) rfl (by kernel_rfl) (fun _ _ _ h => h) (yieldsSoIn_of (by kernel_rfl) ?_ (fun _ => rfl)) q0 ?_; rotate_left; focus (intro wq hw; clear hw; go_simp; try (with_reducible rfl))
      refine wpHeldIn_take (i := 7) (v := ?_) (plain_of (by kernel_rfl)) rfl (by kernel_rfl) (fun _ _ _ h => h) (yieldsSoIn_of (by kernel_rfl) ?_ (fun _ => rfl)) q0 ?_; rotate_left; focus (intro wq hw; clear hw; go_simp; try (with_reducible rfl))
      refine wpHeldIn_take (i := 8) (v := ?_) (plain_of (by kernel_rfl)) rfl (by kernel_rfl) (fun _ _ _ h => h) (yieldsSoIn_of (by kernel_rfl) ?_ (fun _ => rfl)) q0 ?_; rotate_left; focus (intro wq hw; clear hw; go_simp; try (with_reducible rfl))
      refine wpHeldIn_take (i := 9) (v := ?_) (plain_of (by kernel_rfl)) rfl (by kernel_rfl) (fun _ _ _ h => h) (yieldsSoIn_of (by kernel_rfl) ?_ (fun _ => rfl)) q0 ?_; rotate_left; focus (intro wq hw; clear hw; go_simp; try (with_reducible rfl))
      refine wpHeldIn_take (i := 10) (v := ?_) (plain_of (by kernel_rfl)) rfl (by kernel_rfl) (fun _ _ _ h => h) (yieldsSoIn_of (by kernel_rfl) ?_ (fun _ => rfl)) q0 ?_; rotate_left; focus (intro wq hw; have kq := KC.out wq hw; clear hw; go_simp; try (with_reducible rfl))
      refine wpHeldIn_take (i := 11) (v := ?_) (plain_of (by kernel_rfl)) rfl (by kernel_rfl) (fun _ _ _ h => h) (yieldsSoIn_of (by kernel_rfl) ?_ (fun _ => rfl)) q0 ?_; rotate_left; focus (intro wq hw; clear hw; go_simp; try (with_reducible rfl))
      refine wpHeldIn_take (i := 12) (v := ?_) (plain_of (by kernel_rfl)) rfl (by kernel_rfl) (fun _ _ _ h => h) (yieldsSoIn_of (by kernel_rfl) ?_ (fun _ => rfl)) q0 ?_; rotate_left; focus (intro wq hw; clear hw; go_simp; try (with_reducible rfl))
      refine wpHeldIn_take (i := 13) (v := ?_) (plain_of (by kernel_rfl)) rfl (by kernel_rfl) (fun _ _ _ h => h) (yieldsSoIn_of (by kernel_rfl) ?_ (fun _ => rfl)) q0 ?_; rotate_left; focus (intro wq hw; clear hw; go_simp; try (with_reducible rfl))
      refine wpHeldIn_take (i := 14) (v := ?_) (plain_of (by kernel_rfl)) rfl (by kernel_rfl) (fun _ _ _ h => h) (yieldsSoIn_of (by kernel_rfl) ?_ (fun _ => rfl)) q0 ?_; rotate_left; focus (intro wq hw; clear hw; go_simp; try (with_reducible rfl))
      refine wpHeldIn_take (i := 15) (v := ?_) (plain_of (by kernel_rfl)) rfl (by kernel_rfl) (fun _ _ _ h => h) (yieldsSoIn_of (by kernel_rfl) ?_ (fun _ => rfl)) q0 ?_; rotate_left; focus (intro wq hw; have kq := KC.out wq hw; clear hw; go_simp; try (with_reducible rfl))
      refine wpHeldIn_one (i := 16) (by kernel_rfl) (by kernel_rfl) rfl (by kernel_rfl) (fun K' hK' => ?_); go_simp; refine ⟨trivial, (callsIn_wide.2 (HU.out _)).mono ?_⟩; rintro e w4 ⟨rfl, hb4⟩
      have q4 : Below wr.heap.size wr w4 := q0.trans hb4
      refine hK' _ _ q4 ?_
      refine wpHeldIn_take (i := 17) (v := ?_) (plain_of (by kernel_rfl)) rfl (by kernel_rfl) (fun _ _ _ h => h) (yieldsSoIn_of (by kernel_rfl) ?_ (fun _ => rfl)) q4 ?_; rotate_left; focus (intro wq hw; clear hw; go_simp; try (with_reducible rfl))
      refine wpHeldIn_take (i := 18) (v := ?_) (plain_of (by kernel_rfl)) rfl (by kernel_rfl) (fun _ _ _ h => h) (yieldsSoIn_of (by kernel_rfl) ?_ (fun _ => rfl)) q4 ?_; rotate_left; focus (intro wq hw; clear hw; go_simp; try (with_reducible rfl))
      refine wpHeldIn_done (by kernel_rfl) ?_ _
      have hB4 : Below w1.heap.size w1 w4 := hB.trans (q4.mono hB.size)
      go_wp2_with fail
      go_roundw
      case rel => exact ⟨k + 1, by omega, by go_num, by rw [hsn.out], hB4⟩
      case measure => simp [intOf]; omega
    · obtain rfl : k = n2 := by omega
      go_wp2_with fail
      go_returns
      exact ⟨rfl, hB1.trans (hB.mono hB1.size)⟩
end Go.Proofs.Ytgpmnkdagpcffaa
