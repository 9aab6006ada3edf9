/- Sheets: the reference's bounds of a fraction: up, wider, and the square of a length. -/
import Derived.Test.YtgpmnkdagpcffaaLen
import Derived.Test.YtgpmnkdagpcffaaKn
namespace Go.Proofs.Ytgpmnkdagpcffaa
open Go.RowKit
namespace Sh
def upV (n d : Int) : Int := (n + d - 1).tdiv d
theorem up_facts {n d : Int} (hn : 0 ≤ n) (hd : 1 ≤ d) : 0 ≤ n.tdiv d ∧ n.tdiv d ≤ n ∧ 0 ≤ n.tmod d ∧ (n.tmod d = 0 → upV n d = n.tdiv d) ∧ (¬ n.tmod d = 0 → upV n d = n.tdiv d + 1) := by
  unfold upV
  rw [Int.tdiv_eq_ediv_of_nonneg hn, Int.tmod_eq_emod_of_nonneg hn, Int.tdiv_eq_ediv_of_nonneg (by omega)]
  have h1 := Int.mul_ediv_add_emod n d
  have h2 := Int.emod_nonneg n (show d ≠ 0 by omega)
  have h3 := Int.emod_lt_of_pos n (show 0 < d by omega)
  have h4 := Int.ediv_nonneg hn (show 0 ≤ d by omega)
  have h5 := Int.ediv_le_self d hn
  refine ⟨h4, h5, h2, fun h => ?_, fun h => ?_⟩
  · rw [show n + d - 1 = (d - 1) + (n / d) * d from by rw [Int.mul_comm]; omega, Int.add_mul_ediv_right _ _ (by omega), Int.ediv_eq_zero_of_lt (by omega) (by omega)]
    omega
  · rw [show n + d - 1 = (n % d - 1) + (n / d + 1) * d from by rw [Int.add_mul, Int.mul_comm (n / d) d]; omega, Int.add_mul_ediv_right _ _ (by omega), Int.ediv_eq_zero_of_lt (by omega) (by omega)]
    omega
def widLo (l n d : Int) (first : Bool) : Int := if first then n.tdiv d else lowS l (n.tdiv d)
def widHi (h n d : Int) (first : Bool) : Int := if first then upV n d else highS h (upV n d)
/-- The bounds over the first truths, as the reference has them. -/
def loK (N D : FaS → Int) (L : List FaS) (k : Nat) : Int := if k = 0 then 0 else lowF N D (L.take k)
def hiK (N D : FaS → Int) (L : List FaS) (k : Nat) : Int := if k = 0 then 0 else highF N D (L.take k)
theorem wid_step (N D : FaS → Int) (L : List FaS) (hN : ∀ x, 0 ≤ N x ∧ N x ≤ 2000000000000000000) (hD : ∀ x, 1 ≤ D x) {k : Nat} (hk : k < L.length) :
    widLo (loK N D L k) (N L[k]) (D L[k]) (decide (k = 0)) = loK N D L (k + 1) ∧ widHi (hiK N D L k) (N L[k]) (D L[k]) (decide (k = 0)) = hiK N D L (k + 1) := by
  have hn := hN L[k]
  have hd := hD L[k]
  obtain ⟨f1, f2, f3, f4, f5⟩ := up_facts hn.1 hd
  have f6 : 0 ≤ upV (N L[k]) (D L[k]) := by
    by_cases h : (N L[k]).tmod (D L[k]) = 0
    · rw [f4 h]; exact f1
    · rw [f5 h]; omega
  have e1 : loK N D L (k + 1) = lowS (lowF N D (L.take k)) ((N L[k]).tdiv (D L[k])) := by
    unfold loK
    rw [if_neg (by omega), List.take_succ_eq_append_getElem hk, lowF_snoc]
  have e2 : hiK N D L (k + 1) = highS (highF N D (L.take k)) (upV (N L[k]) (D L[k])) := by
    unfold hiK
    rw [if_neg (by omega), List.take_succ_eq_append_getElem hk, highF_snoc]
    rfl
  rw [e1, e2]
  by_cases h0 : k = 0
  · subst h0
    have l1 : lowF N D (L.take 0) = 9223372036854775807 := rfl
    have l2 : highF N D (L.take 0) = 0 := rfl
    rw [l1, l2]
    constructor
    · show (N L[0]).tdiv (D L[0]) = _
      unfold lowS
      rw [if_pos (by omega)]
    · show upV (N L[0]) (D L[0]) = _
      unfold highS
      split <;> omega
  · unfold widLo widHi loK hiK
    rw [decide_eq_false h0, if_neg h0, if_neg h0]
    exact ⟨rfl, rfl⟩
theorem lo_end (N D : FaS → Int) {L : List FaS} (hne : L ≠ []) : loK N D L L.length = lowF N D L ∧ hiK N D L L.length = highF N D L := by
  unfold loK hiK
  have : L.length ≠ 0 := fun h => hne (List.eq_nil_of_length_eq_zero h)
  rw [if_neg this, if_neg this, List.take_length]
  exact ⟨rfl, rfl⟩
end Sh
theorem up4_any (n d : Int) (w : World) (hn : 0 ≤ n ∧ n ≤ 2000000000000000000) (hd : 1 ≤ d ∧ d ≤ 100000000000000) :
    Calls Try.prog 130 #[.int .i64 n, .int .i64 d] w fun e w' => e = .returned (.int .i64 (Sh.upV n d)) ∧ w' = w := by
  obtain ⟨f1, f2, f3, f4, f5⟩ := Sh.up_facts hn.1 hd.1
  have hd0 : ¬ d = 0 := by omega
  have hw1 : IntKind.i64.wrap (n.tdiv d) = n.tdiv d := IntWalk.i64_in _ (by omega)
  have hw2 : IntKind.i64.wrap (n.tdiv d + 1) = n.tdiv d + 1 := IntWalk.i64_in _ (by omega)
  by_cases h : n.tmod d = 0
  · have hb : (n.tmod d == 0) = true := by simpa using h
    have hv := Lib.hid (f4 h)
    clear f1 f2 f3 f4 f5 hn hd
    go_enter Try.func130, Try.ntmps130
    go_wp2_with fail
    go_returns
    exact ⟨by rw [hv.out]; rfl, rfl⟩
  · have hb : (n.tmod d == 0) = false := by simpa using h
    have hv := Lib.hid (f5 h)
    clear f1 f2 f3 f4 f5 hn hd
    go_enter Try.func130, Try.ntmps130
    go_wp2_with fail
    go_returns
    exact ⟨by rw [hv.out]; rfl, rfl⟩

set_option maxRecDepth 100000 in
set_option maxHeartbeats 2000000 in
theorem wider4_any (l h n d : Int) (first : Bool) (w : World) (hn : 0 ≤ n ∧ n ≤ 2000000000000000000) (hd : 1 ≤ d ∧ d ≤ 100000000000000) :
    Calls Try.prog 102 #[.agg #[.int .i64 l, .int .i64 h], .int .i64 n, .int .i64 d, .bool first] w (SpanPost (Sh.widLo l n d first) (Sh.widHi h n d first) w) := by
  obtain ⟨f1, f2, f3, f4, f5⟩ := Sh.up_facts hn.1 hd.1
  have hd0 : ¬ d = 0 := by omega
  have hw1 : IntKind.i64.wrap (n.tdiv d) = n.tdiv d := IntWalk.i64_in _ (by omega)
  have HU : Hid (∀ W, Calls Try.prog 130 #[.int .i64 n, .int .i64 d] W fun e w' => e = .returned (.int .i64 (Sh.upV n d)) ∧ W = w') := fun W => (up4_any n d W hn hd).mono (fun e w' h => ⟨h.1, h.2.symm⟩)
  unfold Sh.widLo Sh.widHi
  generalize Sh.upV n d = U at *
  clear f1 f2 f3 f4 f5 hn hd
  cases first with
  | true =>
    rw [if_pos rfl, if_pos rfl]
    go_enter Try.func102, Try.ntmps102
    go_wp2_with fail
    have hB1 : Below w.heap.size w ((w.alloc (.cells #[.int .i64 l, .int .i64 h] 23)).alloc (.cells #[.int .i64 0, .int .i64 0] 23)) := by (repeat' (first | (with_reducible exact Below.refl _ _) | (with_reducible assumption) | (with_reducible refine Below.alloc ?_ ?_ _) | (with_reducible refine Below.drew ?_) | (with_reducible refine Below.setCell ?_ ?_ _) | go_size | (exact (by simp)) | omega))
    have bR1 := BoxS.new (w.alloc (.cells #[.int .i64 l, .int .i64 h] 23)) 23 #[.int .i64 0, .int .i64 0]
    rw [World.size_alloc] at bR1
    generalize World.alloc (World.alloc w _) _ = w1 at *
    refine (wpIn_wide (n := 4)).1 ?_
    have hmo : Try.prog.follows .mixedOrders = true := by kernel_rfl
    have q0 : Below w1.heap.size w1 w1.drew := (Below.refl _ _).drew
    have r0 := bR1.cell 0 rfl
    have r1 := bR1.cell 1 rfl
    have g0 := bR1.frozen 0
    have g1 := bR1.frozen 1
    refine wpIn_region_held (fun W' => Below w1.heap.size w1 W') 7 hmo ?_
    refine wpHeldIn_take (i := 0) (v := ?_) (plain_of (by kernel_rfl)) rfl (by kernel_rfl) (fun _ _ _ h => h) (yieldsSoIn_of (by kernel_rfl) ?_ (fun _ => rfl)) q0 ?_; rotate_left; focus (intro wq hw; clear hw; go_simp; try (with_reducible rfl))
    refine wpHeldIn_take (i := 1) (v := ?_) (plain_of (by kernel_rfl)) rfl (by kernel_rfl) (fun _ _ _ h => h) (yieldsSoIn_of (by kernel_rfl) ?_ (fun _ => rfl)) q0 ?_; rotate_left; focus (intro wq hw; clear hw; go_simp; try (with_reducible rfl))
    refine wpHeldIn_take (i := 2) (v := ?_) (plain_of (by kernel_rfl)) rfl (by kernel_rfl) (fun _ _ _ h => h) (yieldsSoIn_of (by kernel_rfl) ?_ (fun _ => rfl)) q0 ?_; rotate_left; focus (intro wq hw; clear hw; go_simp; try (with_reducible rfl))
    refine wpHeldIn_take (i := 3) (v := ?_) (plain_of (by kernel_rfl)) rfl (by kernel_rfl) (fun _ _ _ h => h) (yieldsSoIn_of (by kernel_rfl) ?_ (fun _ => rfl)) q0 ?_; rotate_left; focus (intro wq hw; clear hw; go_simp; try (with_reducible rfl))
    refine wpHeldIn_take (i := 4) (v := ?_) (plain_of (by kernel_rfl)) rfl (by kernel_rfl) (fun _ _ _ h => h) (yieldsSoIn_of (by kernel_rfl) ?_ (fun _ => rfl)) q0 ?_; rotate_left; focus (intro wq hw; clear hw; go_simp; try (with_reducible rfl))
    refine wpHeldIn_take (i := 5) (v := .int .i64 U) (plain_of (by kernel_rfl)) rfl (by kernel_rfl) (fun _ _ _ h => h) (yieldsSoIn_call (by kernel_rfl) ?_ rfl (fun _ => trivial) (fun m wq hw => callsIn_wide.2 ((HU.out wq).mono (fun e w' h => ⟨h.1, h.2.symm⟩)))) q0 ?_; focus (intro wq hw; clear hw; go_simp; try (with_reducible rfl))
    refine wpHeldIn_take (i := 6) (v := ?_) (plain_of (by kernel_rfl)) rfl (by kernel_rfl) (fun _ _ _ h => h) (yieldsSoIn_of (by kernel_rfl) ?_ (fun _ => rfl)) q0 ?_; rotate_left; focus (intro wq hw; clear hw; go_simp; try (with_reducible rfl))
    refine wpHeldIn_last (by kernel_rfl) rfl (by kernel_rfl) (fun K2 hK2 => ?_)
    go_simp
    refine hK2 _ _ ?_
    refine wpHeldIn_done (by kernel_rfl) ?_ _
    go_simp
    have bR3 : BoxS ((w1.setCell ⟨w.heap.size + 1, 0, none⟩ (.int .i64 (n.tdiv d))).setCell ⟨w.heap.size + 1, 1, none⟩ (.int .i64 U)).drew (w.heap.size + 1) 23 #[.int .i64 (n.tdiv d), .int .i64 U] := (two_put (two_put bR1 _).1 _).2
    have hB3 : Below w.heap.size w ((w1.setCell ⟨w.heap.size + 1, 0, none⟩ (.int .i64 (n.tdiv d))).setCell ⟨w.heap.size + 1, 1, none⟩ (.int .i64 U)).drew := by (repeat' (first | (with_reducible exact Below.refl _ _) | (with_reducible assumption) | (with_reducible refine Below.alloc ?_ ?_ _) | (with_reducible refine Below.drew ?_) | (with_reducible refine Below.setCell ?_ ?_ _) | go_size | (exact (by simp)) | omega))
    clear q0 r0 r1 g0 g1 bR1 hB1
    first
      | generalize ((w1.setCell ⟨w.heap.size + 1, 0, none⟩ (.int .i64 (n.tdiv d))).setCell ⟨w.heap.size + 1, 1, none⟩ (.int .i64 U)).drew = w3 at *
      | skip
    obtain ⟨r0, r1⟩ := boxS2 bR3
    go_wp2_with fail
    exact bodyPost_ret (v := .agg #[.int .i64 (n.tdiv d), .int .i64 U]) (by simp [results, Try.results102, go_sem, r0, r1]) rfl ⟨rfl, hB3⟩
  | false =>
    rw [if_neg (by decide), if_neg (by decide)]
    go_enter Try.func102, Try.ntmps102
    go_wp2_with fail
    have hB1 : Below w.heap.size w ((w.alloc (.cells #[.int .i64 l, .int .i64 h] 23)).alloc (.cells #[.int .i64 0, .int .i64 0] 23)) := by (repeat' (first | (with_reducible exact Below.refl _ _) | (with_reducible assumption) | (with_reducible refine Below.alloc ?_ ?_ _) | (with_reducible refine Below.drew ?_) | (with_reducible refine Below.setCell ?_ ?_ _) | go_size | (exact (by simp)) | omega))
    have bL1 := (BoxS.new w 23 #[.int .i64 l, .int .i64 h]).alloc (.cells #[.int .i64 0, .int .i64 0] 23)
    have bR1 := BoxS.new (w.alloc (.cells #[.int .i64 l, .int .i64 h] 23)) 23 #[.int .i64 0, .int .i64 0]
    rw [World.size_alloc] at bR1
    generalize World.alloc (World.alloc w _) _ = w1 at *
    refine (wpIn_wide (n := 4)).1 ?_
    have hmo : Try.prog.follows .mixedOrders = true := by kernel_rfl
    have q0 : Below w1.heap.size w1 w1.drew := (Below.refl _ _).drew
    have r0 := bR1.cell 0 rfl
    have r1 := bR1.cell 1 rfl
    have g0 := bR1.frozen 0
    have g1 := bR1.frozen 1
    have KC : Hid (∀ W', Below w1.heap.size w1 W' → W'.cell? ⟨w.heap.size, 0, none⟩ = some (.int .i64 l) ∧ W'.cell? ⟨w.heap.size, 1, none⟩ = some (.int .i64 h)) := fun W' h => boxS2 (bL1.below h)
    refine wpIn_region_held (fun W' => Below w1.heap.size w1 W') 13 hmo ?_
    refine wpHeldIn_take (i := 0) (v := ?_) (plain_of (by kernel_rfl)) rfl (by kernel_rfl) (fun _ _ _ h => h) (yieldsSoIn_of (by kernel_rfl) ?_ (fun _ => rfl)) q0 ?_; rotate_left; focus (intro wq hw; clear hw; go_simp; try (with_reducible rfl))
    refine wpHeldIn_take (i := 1) (v := ?_) (plain_of (by kernel_rfl)) rfl (by kernel_rfl) (fun _ _ _ h => h) (yieldsSoIn_of (by kernel_rfl) ?_ (fun _ => rfl)) q0 ?_; rotate_left; focus (intro wq hw; have kq := KC.out wq hw; clear hw; go_simp; try (with_reducible rfl))
    refine wpHeldIn_take (i := 2) (v := ?_) (plain_of (by kernel_rfl)) rfl (by kernel_rfl) (fun _ _ _ h => h) (yieldsSoIn_of (by kernel_rfl) ?_ (fun _ => rfl)) q0 ?_; rotate_left; focus (intro wq hw; clear hw; go_simp; try (with_reducible rfl))
    refine wpHeldIn_take (i := 3) (v := ?_) (plain_of (by kernel_rfl)) rfl (by kernel_rfl) (fun _ _ _ h => h) (yieldsSoIn_of (by kernel_rfl) ?_ (fun _ => rfl)) q0 ?_; rotate_left; focus (intro wq hw; clear hw; go_simp; try (with_reducible rfl))
    refine wpHeldIn_take (i := 4) (v := ?_) (plain_of (by kernel_rfl)) rfl (by kernel_rfl) (fun _ _ _ h => h) (yieldsSoIn_of (by kernel_rfl) ?_ (fun _ => rfl)) q0 ?_; rotate_left; focus (intro wq hw; clear hw; go_simp; try (with_reducible rfl))
    refine wpHeldIn_take (i := 5) (v := ?_) (plain_of (by kernel_rfl)) rfl (by kernel_rfl) (fun _ _ _ h => h) (yieldsSoIn_of (by kernel_rfl) ?_ (fun _ => rfl)) q0 ?_; rotate_left; focus (intro wq hw; clear hw; go_simp; try (with_reducible rfl))
    refine wpHeldIn_take (i := 6) (v := ?_) (plain_of (by kernel_rfl)) rfl (by kernel_rfl) (fun _ _ _ h => h) (yieldsSoIn_of (by kernel_rfl) ?_ (fun _ => rfl)) q0 ?_; rotate_left; focus (intro wq hw; clear hw; go_simp; try (with_reducible rfl))
    refine wpHeldIn_take (i := 7) (v := ?_) (plain_of (by kernel_rfl)) rfl (by kernel_rfl) (fun _ _ _ h => h) (yieldsSoIn_of (by kernel_rfl) ?_ (fun _ => rfl)) q0 ?_; rotate_left; focus (intro wq hw; have kq := KC.out wq hw; clear hw; go_simp; try (with_reducible rfl))
    refine wpHeldIn_take (i := 8) (v := ?_) (plain_of (by kernel_rfl)) rfl (by kernel_rfl) (fun _ _ _ h => h) (yieldsSoIn_of (by kernel_rfl) ?_ (fun _ => rfl)) q0 ?_; rotate_left; focus (intro wq hw; clear hw; go_simp; try (with_reducible rfl))
    refine wpHeldIn_take (i := 9) (v := ?_) (plain_of (by kernel_rfl)) rfl (by kernel_rfl) (fun _ _ _ h => h) (yieldsSoIn_of (by kernel_rfl) ?_ (fun _ => rfl)) q0 ?_; rotate_left; focus (intro wq hw; clear hw; go_simp; try (with_reducible rfl))
    refine wpHeldIn_take (i := 10) (v := .int .i64 U) (plain_of (by kernel_rfl)) rfl (by kernel_rfl) (fun _ _ _ h => h) (yieldsSoIn_call (by kernel_rfl) ?_ rfl (fun _ => trivial) (fun m wq hw => callsIn_wide.2 ((HU.out wq).mono (fun e w' h => ⟨h.1, h.2.symm⟩)))) q0 ?_; focus (intro wq hw; clear hw; go_simp; try (with_reducible rfl))
    refine wpHeldIn_take (i := 11) (v := ?_) (plain_of (by kernel_rfl)) rfl (by kernel_rfl) (fun _ _ _ h => h) (yieldsSoIn_of (by kernel_rfl) ?_ (fun _ => rfl)) q0 ?_; rotate_left; focus (intro wq hw; clear hw; go_simp; try (with_reducible rfl))
    refine wpHeldIn_take (i := 12) (v := ?_) (plain_of (by kernel_rfl)) rfl (by kernel_rfl) (fun _ _ _ h => h) (yieldsSoIn_of (by kernel_rfl) ?_ (fun _ => rfl)) q0 ?_; rotate_left; focus (intro wq hw; clear hw; go_simp; try (with_reducible rfl))
    refine wpHeldIn_last (by kernel_rfl) rfl (by kernel_rfl) (fun K2 hK2 => ?_)
    have hl : min l (n.tdiv d) = Sh.lowS l (n.tdiv d) := by unfold Sh.lowS; split <;> omega
    have hh : max h U = Sh.highS h U := by unfold Sh.highS; split <;> omega
    generalize Sh.lowS l (n.tdiv d) = lo at *
    generalize Sh.highS h U = hi at *
    go_simp
    try rw [hl]
    try rw [hh]
    clear hl hh
    refine hK2 _ _ ?_
    refine wpHeldIn_done (by kernel_rfl) ?_ _
    go_simp
    have bR3 : BoxS ((w1.setCell ⟨w.heap.size + 1, 0, none⟩ (.int .i64 lo)).setCell ⟨w.heap.size + 1, 1, none⟩ (.int .i64 hi)).drew (w.heap.size + 1) 23 #[.int .i64 lo, .int .i64 hi] := (two_put (two_put bR1 _).1 _).2
    have hB3 : Below w.heap.size w ((w1.setCell ⟨w.heap.size + 1, 0, none⟩ (.int .i64 lo)).setCell ⟨w.heap.size + 1, 1, none⟩ (.int .i64 hi)).drew := by (repeat' (first | (with_reducible exact Below.refl _ _) | (with_reducible assumption) | (with_reducible refine Below.alloc ?_ ?_ _) | (with_reducible refine Below.drew ?_) | (with_reducible refine Below.setCell ?_ ?_ _) | go_size | (exact (by simp)) | omega))
    clear q0 r0 r1 g0 g1 bR1 hB1 bL1 KC
    first
      | generalize ((w1.setCell ⟨w.heap.size + 1, 0, none⟩ (.int .i64 lo)).setCell ⟨w.heap.size + 1, 1, none⟩ (.int .i64 hi)).drew = w3 at *
      | skip
    obtain ⟨r0, r1⟩ := boxS2 bR3
    go_wp2_with fail
    exact bodyPost_ret (v := .agg #[.int .i64 lo, .int .i64 hi]) (by simp [results, Try.results102, go_sem, r0, r1]) rfl ⟨rfl, hB3⟩

set_option maxRecDepth 100000 in
set_option maxHeartbeats 2000000 in
theorem Square4_any (f : Sh.FaS) (a b : Geo.Pt) (w : World) (h : Sh.sqOk (b.1 - a.1) (b.2 - a.2)) :
    Calls Try.prog 104 #[.agg #[.int .i64 a.1, .int .i64 a.2], .agg #[.int .i64 b.1, .int .i64 b.2], .agg #[.int .i64 f.1.1, .int .i64 f.1.2]] w fun e w' => e = .returned (.tuple #[.int .i64 (Sh.sqN (b.1 - a.1) (b.2 - a.2) f), .int .i64 (Sh.sqD f)]) ∧ Below w.heap.size w w' := by
  have hN := Sh.sqN_bd h f
  have hD := Sh.sqD_bd f
  have hf := Sh.fac_bd f
  have hx := Sh.sq_bd h.1
  have hy := Sh.sq_bd h.2
  have HN : Hid (Sh.sqN (b.1 - a.1) (b.2 - a.2) f = ((b.1 - a.1) * (b.1 - a.1) * (f.1.2 * f.1.2) + (b.2 - a.2) * (b.2 - a.2) * (f.1.1 * f.1.1)) * 1000 * 1000) := rfl
  have HD : Hid (Sh.sqD f = f.1.1 * f.1.1 * (f.1.2 * f.1.2)) := rfl
  generalize Sh.sqN (b.1 - a.1) (b.2 - a.2) f = N at *
  generalize Sh.sqD f = D at *
  obtain ⟨⟨f1, f2⟩, hf0⟩ := f
  obtain ⟨a1, a2⟩ := a
  obtain ⟨b1, b2⟩ := b
  have h1 := h.1
  have h2 := h.2
  dsimp only at *
  have ex : (b1 - a1) * (b1 - a1) = (a1 - b1) * (a1 - b1) := by grind
  have ey : (b2 - a2) * (b2 - a2) = (a2 - b2) * (a2 - b2) := by grind
  have HN1 : N = ((a1 - b1) * (a1 - b1) * (f2 * f2) + (a2 - b2) * (a2 - b2) * (f1 * f1)) * 1000 * 1000 := by rw [← ex, ← ey]; exact HN.out
  rw [ex] at hx
  rw [ey] at hy
  have hw11 : IntKind.i64.wrap (a1 - b1) = a1 - b1 := IntWalk.i64_in _ (by omega)
  have hw12 : IntKind.i64.wrap (a2 - b2) = a2 - b2 := IntWalk.i64_in _ (by omega)
  clear HN ex ey
  obtain ⟨P, hP⟩ : ∃ P, P = f1 * f1 := ⟨_, rfl⟩
  obtain ⟨Q, hQ⟩ : ∃ Q, Q = f2 * f2 := ⟨_, rfl⟩
  obtain ⟨X, hX⟩ : ∃ X, X = (a1 - b1) * (a1 - b1) := ⟨_, rfl⟩
  obtain ⟨Y, hY⟩ : ∃ Y, Y = (a2 - b2) * (a2 - b2) := ⟨_, rfl⟩
  rw [← hP, ← hQ] at hf
  rw [← hX] at hx
  rw [← hY] at hy
  rw [← hX, ← hY, ← hP, ← hQ] at HN1
  have HD1 : D = P * Q := by rw [hP, hQ]; exact HD.out
  clear HD
  have m1 := Sh.term_bd hx hf.2
  have m2 := Sh.term_bd hy hf.1
  obtain ⟨U, hU⟩ : ∃ U, U = X * Q := ⟨_, rfl⟩
  obtain ⟨V, hV⟩ : ∃ V, V = Y * P := ⟨_, rfl⟩
  rw [← hU] at m1 HN1
  rw [← hV] at m2 HN1
  have hw1 : IntKind.i64.wrap (f1 * f1) = P := by rw [← hP]; exact IntWalk.i64_in _ (by omega)
  have hw2 : IntKind.i64.wrap (f2 * f2) = Q := by rw [← hQ]; exact IntWalk.i64_in _ (by omega)
  have hw3 : IntKind.i64.wrap ((a1 - b1) * (a1 - b1)) = X := by rw [← hX]; exact IntWalk.i64_in _ (by omega)
  have hw4 : IntKind.i64.wrap ((a2 - b2) * (a2 - b2)) = Y := by rw [← hY]; exact IntWalk.i64_in _ (by omega)
  have hw5 : IntKind.i64.wrap (X * Q) = U := by rw [← hU]; exact IntWalk.i64_in _ (by omega)
  have hw6 : IntKind.i64.wrap (Y * P) = V := by rw [← hV]; exact IntWalk.i64_in _ (by omega)
  have hw7 : IntKind.i64.wrap (U + V) = U + V := IntWalk.i64_in _ (by omega)
  have hw9 : IntKind.i64.wrap (1000000 * (U + V)) = N := by rw [show 1000000 * (U + V) = N from by omega]; exact IntWalk.i64_in _ (by omega)
  have hw10 : IntKind.i64.wrap (P * Q) = D := by rw [← HD1]; exact IntWalk.i64_in _ (by omega)
  clear HN1 HD1 hU hV hX hY hP hQ hN hD hf hx hy m1 m2 h h1 h2 hf0
  go_enter Try.func104, Try.ntmps104
  go_wp2_with fail
  have hB0 : Below w.heap.size w (((w.alloc (.cells #[.int .i64 a1, .int .i64 a2] 43)).alloc (.cells #[.int .i64 b1, .int .i64 b2] 43)).alloc (.cells #[.int .i64 f1, .int .i64 f2] 70)) := by (repeat' (first | (with_reducible exact Below.refl _ _) | (with_reducible assumption) | (with_reducible refine Below.alloc ?_ ?_ _) | (with_reducible refine Below.drew ?_) | (with_reducible refine Below.setCell ?_ ?_ _) | go_size | (exact (by simp)) | omega))
  have bA := ((BoxS.new w 43 #[.int .i64 a1, .int .i64 a2]).alloc (.cells #[.int .i64 b1, .int .i64 b2] 43)).alloc (.cells #[.int .i64 f1, .int .i64 f2] 70)
  have bB := (BoxS.new (w.alloc (.cells #[.int .i64 a1, .int .i64 a2] 43)) 43 #[.int .i64 b1, .int .i64 b2]).alloc (.cells #[.int .i64 f1, .int .i64 f2] 70)
  have bF := BoxS.new ((w.alloc (.cells #[.int .i64 a1, .int .i64 a2] 43)).alloc (.cells #[.int .i64 b1, .int .i64 b2] 43)) 70 #[.int .i64 f1, .int .i64 f2]
  simp only [World.size_alloc] at bB bF
  generalize World.alloc (World.alloc (World.alloc w _) _) _ = w1 at *
  refine (wpIn_wide (n := 4)).1 ?_
  have hmo : Try.prog.follows .mixedOrders = true := by kernel_rfl
  have q0 : Below w1.heap.size w1 w1.drew := (Below.refl _ _).drew
  have KC : Hid (∀ W', Below w1.heap.size w1 W' → (W'.cell? ⟨w.heap.size, 0, none⟩ = some (.int .i64 a1) ∧ W'.cell? ⟨w.heap.size, 1, none⟩ = some (.int .i64 a2)) ∧ (W'.cell? ⟨w.heap.size + 1, 0, none⟩ = some (.int .i64 b1) ∧ W'.cell? ⟨w.heap.size + 1, 1, none⟩ = some (.int .i64 b2))) := fun W' h => ⟨boxS2 (bA.below h), boxS2 (bB.below h)⟩
  refine wpIn_region_held (fun W' => Below w1.heap.size w1 W') 30 hmo ?_
  refine wpHeldIn_take (i := 0) (v := ?_) (plain_of (by kernel_rfl)) rfl (by kernel_rfl) (fun _ _ _ h => h) (yieldsSoIn_of (by kernel_rfl) ?_ (fun _ => rfl)) q0 ?_; rotate_left; focus (intro wq hw; clear hw; go_simp; try (with_reducible rfl))
  refine wpHeldIn_take (i := 1) (v := ?_) (plain_of (by kernel_rfl)) rfl (by kernel_rfl) (fun _ _ _ h => h) (yieldsSoIn_of (by kernel_rfl) ?_ (fun _ => rfl)) q0 ?_; rotate_left; focus (intro wq hw; have kq := KC.out wq hw; clear hw; go_simp; try (with_reducible rfl))
  refine wpHeldIn_take (i := 2) (v := ?_) (plain_of (by kernel_rfl)) rfl (by kernel_rfl) (fun _ _ _ h => h) (yieldsSoIn_of (by kernel_rfl) ?_ (fun _ => rfl)) q0 ?_; rotate_left; focus (intro wq hw; clear hw; go_simp; try (with_reducible rfl))
  refine wpHeldIn_take (i := 3) (v := ?_) (plain_of (by kernel_rfl)) rfl (by kernel_rfl) (fun _ _ _ h => h) (yieldsSoIn_of (by kernel_rfl) ?_ (fun _ => rfl)) q0 ?_; rotate_left; focus (intro wq hw; have kq := KC.out wq hw; clear hw; go_simp; try (with_reducible rfl))
  refine wpHeldIn_take (i := 4) (v := ?_) (plain_of (by kernel_rfl)) rfl (by kernel_rfl) (fun _ _ _ h => h) (yieldsSoIn_of (by kernel_rfl) ?_ (fun _ => rfl)) q0 ?_; rotate_left; focus (intro wq hw; clear hw; go_simp; try (with_reducible rfl))
  refine wpHeldIn_take (i := 5) (v := ?_) (plain_of (by kernel_rfl)) rfl (by kernel_rfl) (fun _ _ _ h => h) (yieldsSoIn_of (by kernel_rfl) ?_ (fun _ => rfl)) q0 ?_; rotate_left; focus (intro wq hw; clear hw; go_simp; try (with_reducible rfl))
  refine wpHeldIn_take (i := 6) (v := ?_) (plain_of (by kernel_rfl)) rfl (by kernel_rfl) (fun _ _ _ h => h) (yieldsSoIn_of (by kernel_rfl) ?_ (fun _ => rfl)) q0 ?_; rotate_left; focus (intro wq hw; have kq := KC.out wq hw; clear hw; go_simp; try (with_reducible rfl))
  refine wpHeldIn_take (i := 7) (v := ?_) (plain_of (by kernel_rfl)) rfl (by kernel_rfl) (fun _ _ _ h => h) (yieldsSoIn_of (by kernel_rfl) ?_ (fun _ => rfl)) q0 ?_; rotate_left; focus (intro wq hw; clear hw; go_simp; try (with_reducible rfl))
  refine wpHeldIn_take (i := 8) (v := ?_) (plain_of (by kernel_rfl)) rfl (by kernel_rfl) (fun _ _ _ h => h) (yieldsSoIn_of (by kernel_rfl) ?_ (fun _ => rfl)) q0 ?_; rotate_left; focus (intro wq hw; have kq := KC.out wq hw; clear hw; go_simp; try (with_reducible rfl))
  refine wpHeldIn_take (i := 9) (v := ?_) (plain_of (by kernel_rfl)) rfl (by kernel_rfl) (fun _ _ _ h => h) (yieldsSoIn_of (by kernel_rfl) ?_ (fun _ => rfl)) q0 ?_; rotate_left; focus (intro wq hw; clear hw; go_simp; try (with_reducible rfl))
  refine wpHeldIn_take (i := 10) (v := ?_) (plain_of (by kernel_rfl)) rfl (by kernel_rfl) (fun _ _ _ h => h) (yieldsSoIn_of (by kernel_rfl) ?_ (fun _ => rfl)) q0 ?_; rotate_left; focus (intro wq hw; clear hw; go_simp; try (with_reducible rfl))
  refine wpHeldIn_take (i := 11) (v := ?_) (plain_of (by kernel_rfl)) rfl (by kernel_rfl) (fun _ _ _ h => h) (yieldsSoIn_of (by kernel_rfl) ?_ (fun _ => rfl)) q0 ?_; rotate_left; focus (intro wq hw; clear hw; go_simp; try (with_reducible rfl))
  refine wpHeldIn_done (by kernel_rfl) ?_ _
  go_simp
  have bF1 : BoxS w1.drew (w.heap.size + 1 + 1) 70 #[.int .i64 f1, .int .i64 f2] := bF
  have hB1 := hB0.drew
  clear KC q0 bA bB bF hB0
  generalize World.drew w1 = w2 at *
  go_wp2_with fail
  refine (wpIn_wide (n := 4)).1 ?_
  have q0 : Below w2.heap.size w2 w2.drew := (Below.refl _ _).drew
  have KC : Hid (∀ W', Below w2.heap.size w2 W' → W'.cell? ⟨w.heap.size + 1 + 1, 0, none⟩ = some (.int .i64 f1) ∧ W'.cell? ⟨w.heap.size + 1 + 1, 1, none⟩ = some (.int .i64 f2)) := fun W' h => boxS2 (bF1.below h)
  refine wpIn_region_held (fun W' => Below w2.heap.size w2 W') 30 hmo ?_
  refine wpHeldIn_take (i := 0) (v := ?_) (plain_of (by kernel_rfl)) rfl (by kernel_rfl) (fun _ _ _ h => h) (yieldsSoIn_of (by kernel_rfl) ?_ (fun _ => rfl)) q0 ?_; rotate_left; focus (intro wq hw; clear hw; go_simp; try (with_reducible rfl))
  refine wpHeldIn_take (i := 1) (v := ?_) (plain_of (by kernel_rfl)) rfl (by kernel_rfl) (fun _ _ _ h => h) (yieldsSoIn_of (by kernel_rfl) ?_ (fun _ => rfl)) q0 ?_; rotate_left; focus (intro wq hw; have kq := KC.out wq hw; clear hw; go_simp; try (with_reducible rfl))
  refine wpHeldIn_take (i := 2) (v := ?_) (plain_of (by kernel_rfl)) rfl (by kernel_rfl) (fun _ _ _ h => h) (yieldsSoIn_of (by kernel_rfl) ?_ (fun _ => rfl)) q0 ?_; rotate_left; focus (intro wq hw; clear hw; go_simp; try (with_reducible rfl))
  refine wpHeldIn_take (i := 3) (v := ?_) (plain_of (by kernel_rfl)) rfl (by kernel_rfl) (fun _ _ _ h => h) (yieldsSoIn_of (by kernel_rfl) ?_ (fun _ => rfl)) q0 ?_; rotate_left; focus (intro wq hw; have kq := KC.out wq hw; clear hw; go_simp; try (with_reducible rfl))
  refine wpHeldIn_take (i := 4) (v := ?_) (plain_of (by kernel_rfl)) rfl (by kernel_rfl) (fun _ _ _ h => h) (yieldsSoIn_of (by kernel_rfl) ?_ (fun _ => rfl)) q0 ?_; rotate_left; focus (intro wq hw; clear hw; go_simp; try (with_reducible rfl))
  refine wpHeldIn_take (i := 5) (v := ?_) (plain_of (by kernel_rfl)) rfl (by kernel_rfl) (fun _ _ _ h => h) (yieldsSoIn_of (by kernel_rfl) ?_ (fun _ => rfl)) q0 ?_; rotate_left; focus (intro wq hw; clear hw; go_simp; try (with_reducible rfl))
  refine wpHeldIn_take (i := 6) (v := ?_) (plain_of (by kernel_rfl)) rfl (by kernel_rfl) (fun _ _ _ h => h) (yieldsSoIn_of (by kernel_rfl) ?_ (fun _ => rfl)) q0 ?_; rotate_left; focus (intro wq hw; have kq := KC.out wq hw; clear hw; go_simp; try (with_reducible rfl))
  refine wpHeldIn_take (i := 7) (v := ?_) (plain_of (by kernel_rfl)) rfl (by kernel_rfl) (fun _ _ _ h => h) (yieldsSoIn_of (by kernel_rfl) ?_ (fun _ => rfl)) q0 ?_; rotate_left; focus (intro wq hw; clear hw; go_simp; try (with_reducible rfl))
  refine wpHeldIn_take (i := 8) (v := ?_) (plain_of (by kernel_rfl)) rfl (by kernel_rfl) (fun _ _ _ h => h) (yieldsSoIn_of (by kernel_rfl) ?_ (fun _ => rfl)) q0 ?_; rotate_left; focus (intro wq hw; have kq := KC.out wq hw; clear hw; go_simp; try (with_reducible rfl))
  refine wpHeldIn_take (i := 9) (v := ?_) (plain_of (by kernel_rfl)) rfl (by kernel_rfl) (fun _ _ _ h => h) (yieldsSoIn_of (by kernel_rfl) ?_ (fun _ => rfl)) q0 ?_; rotate_left; focus (intro wq hw; clear hw; go_simp; try (with_reducible rfl))
  refine wpHeldIn_take (i := 10) (v := ?_) (plain_of (by kernel_rfl)) rfl (by kernel_rfl) (fun _ _ _ h => h) (yieldsSoIn_of (by kernel_rfl) ?_ (fun _ => rfl)) q0 ?_; rotate_left; focus (intro wq hw; clear hw; go_simp; try (with_reducible rfl))
  refine wpHeldIn_take (i := 11) (v := ?_) (plain_of (by kernel_rfl)) rfl (by kernel_rfl) (fun _ _ _ h => h) (yieldsSoIn_of (by kernel_rfl) ?_ (fun _ => rfl)) q0 ?_; rotate_left; focus (intro wq hw; clear hw; go_simp; try (with_reducible rfl))
  refine wpHeldIn_done (by kernel_rfl) ?_ _
  go_simp
  have hBB := hB1.drew
  clear KC q0
  go_wp2_with fail
  go_returns
  exact ⟨rfl, hBB⟩
end Go.Proofs.Ytgpmnkdagpcffaa
