/- Wheels: what a walk tells by itself. -/
import Derived.Test.YtecmlakcpgkfbaaWhP
namespace Go.Proofs.Ytecmlakcpgkfbaa
open Go.RowKit
namespace Wh
/-- A walk alone, that must be right. -/
def subD (d : Desk) (k : Nat) : Desk := ⟨d.full, d.read, d.slip, d.skew, d.circ, d.glo, d.ghi, 0, [wkAt d.ws k]⟩
def tellsE (d : Desk) (i : Int) : Int := if okB d then (if 0 ≤ i ∧ i < d.ws.length then spE (subD d i.toNat) else 1) else chkE d
def tellsV (d : Desk) (i : Int) : List Int := if okB d then (if 0 ≤ i ∧ i < d.ws.length then areasV (subD d i.toNat) else []) else []
end Wh
theorem Wks.sub {W : World} {B : Nat} {b off : Nat} {ws : List Wh.Wk} (h : Wks W B (some ⟨b, off, none⟩) ws) {k : Nat} (hk : k < ws.length) : Wks W B (some ⟨b, off + k * 5, none⟩) [Wh.wkAt ws k] := fun _ => by
  obtain ⟨b', off', e, hB, hc⟩ := h (by omega)
  injection e with e
  injection e with e1 e2
  subst e1
  subst e2
  refine ⟨b, off + k * 5, rfl, hB, fun j hj => ?_⟩
  have : j = 0 := by simp at hj; omega
  subst this
  simpa [Wh.wkAt] using hc k hk
theorem elemWk : Try.prog.elem 26 = 54 := by kernel_rfl
theorem sizeWk (W : World) : (sizeOf 54).run Try.prog W = .ok 5 W := by kernel_rfl
theorem slice_one {b off len c n : Nat} (h : n + 1 ≤ c) (W : World) : (Instr.slice 26 (.slice (some ⟨b, off, none⟩) len c) (some (.int .i64 (n : Int))) (some (.int .i64 ((n : Int) + 1))) none).run Try.prog W = .ok (.slice (some ⟨b, off + n * 5, none⟩) 1 (c - n)) W := by
  rw [run_slice_lh (ht := by rw [elemWk]; exact Try.underlying26) (h0 := by omega) (h1 := by omega) (h2 := by omega), elemWk, sizeWk]
  have e1 : ((n : Int) + 1).toNat = n + 1 := by omega
  have e2 : ¬ c = n := by omega
  rw [e1, Int.toNat_natCast]
  simp [Result.andThen, sliced, e2, Addr.add]
set_option maxRecDepth 100000 in
set_option maxHeartbeats 8000000 in
theorem Tells_any (d : Wh.Desk) (i : Int) (A : Option Addr) (c : Nat) (w : World) (hl : d.ws.length ≤ 1000000000) (hcap : d.ws.length ≤ c) (hi : -9000000000000000000 ≤ i ∧ i ≤ 9000000000000000000) (hg : Wks w w.heap.size A d.ws) :
    Calls Try.prog 43 #[.agg (whV d), .slice A d.ws.length c, .int .i64 i] w (IntsEPost (Wh.tellsV d i) (Wh.tellsE d i) w) := by
  have HC : Hid (∀ W, Below w.heap.size w W → Calls Try.prog 14 #[.agg (whV d), .slice A d.ws.length c] W (ErrPost (Wh.chkE d) W)) := fun W hW => wCheck_any d A c W hl ((hg.keep hW).wider hW.size)
  by_cases hok : Wh.okB d = true
  · rw [Wh.chkE_yes hok] at HC
    by_cases h1 : 0 ≤ i ∧ i < d.ws.length
    · have hE : Wh.tellsE d i = Wh.spE (Wh.subD d i.toNat) := by unfold Wh.tellsE; rw [if_pos hok, if_pos h1]
      have hR : Wh.tellsV d i = Wh.areasV (Wh.subD d i.toNat) := by unfold Wh.tellsV; rw [if_pos hok, if_pos h1]
      rw [hE, hR]
      obtain ⟨b, off, rfl, hbb, _⟩ := hg (by omega)
      obtain ⟨n, rfl⟩ : ∃ n : Nat, i = n := ⟨i.toNat, by omega⟩
      rw [Int.toNat_natCast]
      have hn : n < d.ws.length := by omega
      obtain ⟨AV, hAV⟩ : ∃ x, x = Wh.areasV (Wh.subD d n) := ⟨_, rfl⟩
      obtain ⟨E, hEE⟩ : ∃ x, x = Wh.spE (Wh.subD d n) := ⟨_, rfl⟩
      rw [← hAV, ← hEE]
      have HAR : Hid (∀ W, Below w.heap.size w W → Calls Try.prog 20 #[.agg (whV (Wh.subD d n)), .slice (some ⟨b, off + n * 5, none⟩) 1 (c - n)] W (IntsEPost AV E W)) := by
        rw [hAV, hEE]
        exact fun W hW => Areas_any (Wh.subD d n) (some ⟨b, off + n * 5, none⟩) (c - n) W (by show 1 ≤ 1000000000; omega) (((hg.keep hW).wider hW.size).sub hn)
      unfold IntsEPost at HAR
      unfold whV at HAR
      unfold Wh.subD at HAR
      dsimp only at HAR
      have hh1 : IntKind.i64.wrap ((n : Int) + 1) = (n : Int) + 1 := IntWalk.i64_in _ (by omega)
      have dn0 : decide ((n : Int) < 0) = false := decide_eq_false (by omega)
      have dn1 : decide ((d.ws.length : Int) ≤ n) = false := decide_eq_false (by omega)
      have dn2 : decide (d.ws.length ≤ n) = false := decide_eq_false (by omega)
      have hnc : (n : Int) + 1 ≤ c := by omega
      have hn0 : 0 ≤ (n : Int) := by omega
      have hsl : ∀ W, (Instr.slice 26 (.slice (some ⟨b, off, none⟩) d.ws.length c) (some (.int .i64 (n : Int))) (some (.int .i64 ((n : Int) + 1))) none).run Try.prog W = .ok (.slice (some ⟨b, off + n * 5, none⟩) 1 (c - n)) W := fun W => slice_one (by omega) W
      clear hE hR hok h1 hg hi hcap hn hAV hEE
      obtain ⟨full, read, slip, skew, circ, glo, ghi, wrn, ws⟩ := d
      unfold whV at *
      dsimp only at *
      go_enter Try.func43, Try.ntmps43
      go_wp2_with fail
      have hB1 : Below w.heap.size w (w.alloc (.cells #[.int .i64 full, .int .i64 read, .int .i64 slip, .int .i64 skew, .int .i64 circ, .int .i64 glo, .int .i64 ghi, .int .i64 wrn] 25)) := by (repeat' (first | (with_reducible exact Below.refl _ _) | (with_reducible assumption) | (with_reducible refine Below.alloc ?_ ?_ _) | (with_reducible refine Below.drew ?_) | (with_reducible refine Below.setCell ?_ ?_ _) | go_size | (exact (by simp)) | omega))
      have bw1 := BoxS.new w 25 #[.int .i64 full, .int .i64 read, .int .i64 slip, .int .i64 skew, .int .i64 circ, .int .i64 glo, .int .i64 ghi, .int .i64 wrn]
      generalize World.alloc w _ = w1 at *
      refine (HC.out _ hB1).mono ?_
      rintro e w2 ⟨rfl, hb2⟩
      have hB2 := hB1.trans (hb2.mono hB1.size)
      have bw2 := bw1.below hb2
      clear hb2 hB1 HC bw1
      obtain ⟨⟨⟨a0, a1, a2⟩, a3, a4, a5⟩, a6, a7⟩ := boxS8 bw2
      have f7 := bw2.frozen 7
      have hbl := bw2.lt
      go_wp2_with fail
      have bw3 : BoxS (w2.setCell ⟨w.heap.size, 7, none⟩ (.int .i64 0)) w.heap.size 25 #[.int .i64 full, .int .i64 read, .int .i64 slip, .int .i64 skew, .int .i64 circ, .int .i64 glo, .int .i64 ghi, .int .i64 0] := bw2.put9 7 (.int .i64 0)
      have hB3 : Below w.heap.size w (w2.setCell ⟨w.heap.size, 7, none⟩ (.int .i64 0)) := by (repeat' (first | (with_reducible exact Below.refl _ _) | (with_reducible assumption) | (with_reducible refine Below.alloc ?_ ?_ _) | (with_reducible refine Below.drew ?_) | (with_reducible refine Below.setCell ?_ ?_ _) | go_size | (exact (by simp)) | omega))
      generalize World.setCell w2 _ _ = w3 at *
      clear a0 a1 a2 a3 a4 a5 a6 a7 f7 bw2 hB2 dn0 dn1 dn2
      refine (wpIn_wide (n := 4)).1 ?_
      have hmo : Try.prog.follows .mixedOrders = true := by kernel_rfl
      have q0 : Below w3.heap.size w3 w3.drew := (Below.refl _ _).drew
      have KC : Hid (∀ W', Below w3.heap.size w3 W' → ((W'.cell? ⟨w.heap.size, 0, none⟩ = some (.int .i64 full) ∧ W'.cell? ⟨w.heap.size, 1, none⟩ = some (.int .i64 read) ∧ W'.cell? ⟨w.heap.size, 2, none⟩ = some (.int .i64 slip)) ∧ W'.cell? ⟨w.heap.size, 3, none⟩ = some (.int .i64 skew) ∧ W'.cell? ⟨w.heap.size, 4, none⟩ = some (.int .i64 circ) ∧ W'.cell? ⟨w.heap.size, 5, none⟩ = some (.int .i64 glo)) ∧ W'.cell? ⟨w.heap.size, 6, none⟩ = some (.int .i64 ghi) ∧ W'.cell? ⟨w.heap.size, 7, none⟩ = some (.int .i64 0)) := fun W' h => boxS8 (bw3.below h)
      refine wpIn_region_held (fun W' => Below w3.heap.size w3 W') 30 hmo ?_
      refine wpHeldIn_take (i := 0) (v := ?_) (plain_of (by kernel_rfl)) rfl (by kernel_rfl) (fun _ _ _ h => h) (yieldsSoIn_of (by kernel_rfl) ?_ (fun _ => rfl)) q0 ?_; rotate_left; focus (intro wq hw; have kq := KC.out wq hw; clear hw; go_simp; try (with_reducible rfl))
      refine wpHeldIn_take (i := 1) (v := ?_) (plain_of (by kernel_rfl)) rfl (by kernel_rfl) (fun _ _ _ h => h) (yieldsSoIn_of (by kernel_rfl) ?_ (fun _ => rfl)) q0 ?_; rotate_left; focus (intro wq hw; clear hw; go_simp; try (with_reducible rfl))
      refine wpHeldIn_take (i := 2) (v := ?_) (plain_of (by kernel_rfl)) rfl (by kernel_rfl) (fun _ _ _ h => h) (yieldsSoIn_of (by kernel_rfl) ?_ (fun _ => rfl)) q0 ?_; rotate_left; focus (intro wq hw; clear hw; go_simp; try (with_reducible rfl))
      refine wpHeldIn_take (i := 3) (v := ?_) (plain_of (by kernel_rfl)) rfl (by kernel_rfl) (fun _ _ _ h => h) (yieldsSoIn_of (by kernel_rfl) ?_ (fun _ => rfl)) q0 ?_; rotate_left; focus (intro wq hw; clear hw; go_simp; try (with_reducible rfl))
      refine wpHeldIn_take (i := 4) (v := ?_) (plain_of (by kernel_rfl)) rfl (by kernel_rfl) (fun _ _ _ h => h) (yieldsSoIn_of (by kernel_rfl) ?_ (fun _ => rfl)) q0 ?_; rotate_left; focus (intro wq hw; clear hw; go_simp; try (with_reducible rfl))
      refine wpHeldIn_take (i := 5) (v := ?_) (plain_of (by kernel_rfl)) rfl (by kernel_rfl) (fun _ _ _ h => h) (yieldsSoIn_of (by kernel_rfl) ?_ (fun _ => rfl)) q0 ?_; rotate_left; focus (intro wq hw; clear hw; go_simp; try (with_reducible rfl))
      refine wpHeldIn_one (i := 6) (by kernel_rfl) (by kernel_rfl) rfl (by kernel_rfl) (fun K2 hK2 => ?_)
      go_simp
      refine ⟨trivial, (callsIn_wide.2 (HAR.out _ (by (repeat' (first | (with_reducible exact Below.refl _ _) | (with_reducible assumption) | (with_reducible refine Below.alloc ?_ ?_ _) | (with_reducible refine Below.drew ?_) | (with_reducible refine Below.setCell ?_ ?_ _) | go_size | (exact (by simp)) | omega))))).mono ?_⟩
      rintro e w4 ⟨v, rfl, hv, hb4⟩
      have q1 := q0.trans (hb4.mono q0.size)
      refine hK2 _ _ q1 ?_
      refine wpHeldIn_take (i := 7) (v := ?_) (plain_of (by kernel_rfl)) rfl (by kernel_rfl) (fun _ _ _ h => h) (yieldsSoIn_of (by kernel_rfl) ?_ (fun _ => rfl)) q1 ?_; rotate_left; focus (intro wq hw; clear hw; go_simp; try (with_reducible rfl))
      refine wpHeldIn_take (i := 8) (v := ?_) (plain_of (by kernel_rfl)) rfl (by kernel_rfl) (fun _ _ _ h => h) (yieldsSoIn_of (by kernel_rfl) ?_ (fun _ => rfl)) q1 ?_; rotate_left; focus (intro wq hw; clear hw; go_simp; try (with_reducible rfl))
      refine wpHeldIn_take (i := 9) (v := ?_) (plain_of (by kernel_rfl)) rfl (by kernel_rfl) (fun _ _ _ h => h) (yieldsSoIn_of (by kernel_rfl) ?_ (fun _ => rfl)) q1 ?_; rotate_left; focus (intro wq hw; clear hw; go_simp; try (with_reducible rfl))
      refine wpHeldIn_take (i := 10) (v := ?_) (plain_of (by kernel_rfl)) rfl (by kernel_rfl) (fun _ _ _ h => h) (yieldsSoIn_of (by kernel_rfl) ?_ (fun _ => rfl)) q1 ?_; rotate_left; focus (intro wq hw; clear hw; go_simp; try (with_reducible rfl))
      refine wpHeldIn_done (by kernel_rfl) ?_ _
      go_simp
      have hBB := hB3.trans (q1.mono hB3.size)
      clear KC q0 q1
      go_wp2_with fail
      go_returns
      exact ⟨_, rfl, hv, hBB⟩
    · have hE : Wh.tellsE d i = 1 := by unfold Wh.tellsE; rw [if_pos hok, if_neg h1]
      have hR : Wh.tellsV d i = [] := by unfold Wh.tellsV; rw [if_pos hok, if_neg h1]
      rw [hE, hR]
      by_cases h2 : i < 0
      · have dn0 : decide (i < 0) = true := decide_eq_true h2
        clear hE hR hok h1 hg hl hi hcap h2
        obtain ⟨full, read, slip, skew, circ, glo, ghi, wrn, ws⟩ := d
        unfold whV at *
        dsimp only at *
        go_enter Try.func43, Try.ntmps43
        go_wp2_with fail
        have hB1 : Below w.heap.size w (w.alloc (.cells #[.int .i64 full, .int .i64 read, .int .i64 slip, .int .i64 skew, .int .i64 circ, .int .i64 glo, .int .i64 ghi, .int .i64 wrn] 25)) := by (repeat' (first | (with_reducible exact Below.refl _ _) | (with_reducible assumption) | (with_reducible refine Below.alloc ?_ ?_ _) | (with_reducible refine Below.drew ?_) | (with_reducible refine Below.setCell ?_ ?_ _) | go_size | (exact (by simp)) | omega))
        have bw1 := BoxS.new w 25 #[.int .i64 full, .int .i64 read, .int .i64 slip, .int .i64 skew, .int .i64 circ, .int .i64 glo, .int .i64 ghi, .int .i64 wrn]
        generalize World.alloc w _ = w1 at *
        refine (HC.out _ hB1).mono ?_
        rintro e w2 ⟨rfl, hb2⟩
        have hB2 := hB1.trans (hb2.mono hB1.size)
        have bw2 := bw1.below hb2
        clear hb2 hB1 HC bw1
        obtain ⟨⟨⟨a0, a1, a2⟩, a3, a4, a5⟩, a6, a7⟩ := boxS8 bw2
        have f7 := bw2.frozen 7
        have hbl := bw2.lt
        go_wp2_with fail
        go_returns
        exact ⟨_, rfl, .inl ⟨rfl, rfl⟩, hB2⟩
      · have dn0 : decide (i < 0) = false := decide_eq_false h2
        have dn1 : decide ((d.ws.length : Int) ≤ i) = true := decide_eq_true (by omega)
        clear hE hR hok h1 hg hl hi hcap h2
        obtain ⟨full, read, slip, skew, circ, glo, ghi, wrn, ws⟩ := d
        unfold whV at *
        dsimp only at *
        go_enter Try.func43, Try.ntmps43
        go_wp2_with fail
        have hB1 : Below w.heap.size w (w.alloc (.cells #[.int .i64 full, .int .i64 read, .int .i64 slip, .int .i64 skew, .int .i64 circ, .int .i64 glo, .int .i64 ghi, .int .i64 wrn] 25)) := by (repeat' (first | (with_reducible exact Below.refl _ _) | (with_reducible assumption) | (with_reducible refine Below.alloc ?_ ?_ _) | (with_reducible refine Below.drew ?_) | (with_reducible refine Below.setCell ?_ ?_ _) | go_size | (exact (by simp)) | omega))
        have bw1 := BoxS.new w 25 #[.int .i64 full, .int .i64 read, .int .i64 slip, .int .i64 skew, .int .i64 circ, .int .i64 glo, .int .i64 ghi, .int .i64 wrn]
        generalize World.alloc w _ = w1 at *
        refine (HC.out _ hB1).mono ?_
        rintro e w2 ⟨rfl, hb2⟩
        have hB2 := hB1.trans (hb2.mono hB1.size)
        have bw2 := bw1.below hb2
        clear hb2 hB1 HC bw1
        obtain ⟨⟨⟨a0, a1, a2⟩, a3, a4, a5⟩, a6, a7⟩ := boxS8 bw2
        have f7 := bw2.frozen 7
        have hbl := bw2.lt
        go_wp2_with fail
        go_returns
        exact ⟨_, rfl, .inl ⟨rfl, rfl⟩, hB2⟩
  · have hno : Wh.okB d = false := by simpa using hok
    have hE : Wh.tellsE d i = Wh.chkE d := by unfold Wh.tellsE; rw [if_neg hok]
    have hR : Wh.tellsV d i = [] := by unfold Wh.tellsV; rw [if_neg hok]
    have hb : (Wh.chkE d == 0) = false := by simpa using Wh.chkE_no hno
    rw [hE, hR]
    generalize Wh.chkE d = E at *
    clear hE hR hok hno hg hl hi hcap
    obtain ⟨full, read, slip, skew, circ, glo, ghi, wrn, ws⟩ := d
    unfold whV at *
    dsimp only at *
    go_enter Try.func43, Try.ntmps43
    go_wp2_with fail
    have hB1 : Below w.heap.size w (w.alloc (.cells #[.int .i64 full, .int .i64 read, .int .i64 slip, .int .i64 skew, .int .i64 circ, .int .i64 glo, .int .i64 ghi, .int .i64 wrn] 25)) := by (repeat' (first | (with_reducible exact Below.refl _ _) | (with_reducible assumption) | (with_reducible refine Below.alloc ?_ ?_ _) | (with_reducible refine Below.drew ?_) | (with_reducible refine Below.setCell ?_ ?_ _) | go_size | (exact (by simp)) | omega))
    have bw1 := BoxS.new w 25 #[.int .i64 full, .int .i64 read, .int .i64 slip, .int .i64 skew, .int .i64 circ, .int .i64 glo, .int .i64 ghi, .int .i64 wrn]
    generalize World.alloc w _ = w1 at *
    refine (HC.out _ hB1).mono ?_
    rintro e w2 ⟨rfl, hb2⟩
    have hB2 := hB1.trans (hb2.mono hB1.size)
    have bw2 := bw1.below hb2
    clear hb2 hB1 HC bw1
    obtain ⟨⟨⟨a0, a1, a2⟩, a3, a4, a5⟩, a6, a7⟩ := boxS8 bw2
    have f7 := bw2.frozen 7
    have hbl := bw2.lt
    go_wp2_with fail
    go_returns
    exact ⟨_, rfl, .inl ⟨rfl, rfl⟩, hB2⟩
end Go.Proofs.Ytecmlakcpgkfbaa
