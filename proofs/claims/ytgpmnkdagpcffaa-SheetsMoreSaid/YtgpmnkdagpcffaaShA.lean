/- Sheets: the small functions. -/
import Derived.Test.YtgpmnkdagpcffaaLoops
import Derived.Test.YtgpmnkdagpcffaaFence
import Derived.Test.YtgpmnkdagpcffaaPairs
namespace Go.Proofs.Ytgpmnkdagpcffaa
open Go.RowKit
namespace Sh
/-- A control: its way, what is true, what was read, and how far it can be off. -/
abbrev Ct := Int × Int × Int × Int
abbrev Fa := Int × Int
def spanB (l h : Int) : Bool := (decide (900 ≤ l) && decide (l ≤ h)) && decide (h ≤ 1100)
def wayB (n : Int) : Bool := decide (n = 1) || decide (n = 2)
def ctB (c : Ct) : Bool := ((wayB c.1 && inB c.2.1 1 9999) && inB c.2.2.1 0 9999) && inB c.2.2.2 0 9999
def ofV (f : Fa) (way : Int) : Int := if way = 1 then f.1 else f.2
def dist (a b : Int) : Int := max (a - b) (b - a)
def fitB (f : Fa) (c : Ct) : Bool := decide (dist (c.2.1 * ofV f c.1) (1000 * c.2.2.1) ≤ 1000 * c.2.2.2)
def fsm (f : Fa) : Prop := (1 ≤ f.1 ∧ f.1 ≤ 2000) ∧ (1 ≤ f.2 ∧ f.2 ≤ 2000)
def csm (c : Ct) : Prop := (-10000 ≤ c.2.1 ∧ c.2.1 ≤ 10000) ∧ (-10000 ≤ c.2.2.1 ∧ c.2.2.1 ≤ 10000) ∧ (-10000 ≤ c.2.2.2 ∧ c.2.2.2 ≤ 10000)
theorem ctB_sm {c : Ct} (h : ctB c = true) : csm c := by
  unfold ctB inB at h
  simp at h
  unfold csm
  omega
end Sh
set_option maxHeartbeats 400000 in
theorem within_any (n l h : Int) (w : World) : Calls Try.prog 82 #[.int .i64 n, .int .i64 l, .int .i64 h] w fun e w' => e = .returned (.bool (inB n l h)) ∧ w' = w := by
  go_enter Try.func82, Try.ntmps82
  go_wp2
  all_goals
    go_ret
    refine ⟨ret_b ?_, rfl⟩
    rw [Bool.eq_iff_iff]
    simp [inB]
    try omega
set_option maxHeartbeats 400000 in
theorem isWay_any (n : Int) (w : World) : Calls Try.prog 63 #[.int .i64 n] w fun e w' => e = .returned (.bool (Sh.wayB n)) ∧ w' = w := by
  go_enter Try.func63, Try.ntmps63
  go_wp2
  all_goals
    go_ret
    refine ⟨ret_b ?_, rfl⟩
    rw [Bool.eq_iff_iff]
    simp [Sh.wayB]
    try omega
set_option maxHeartbeats 400000 in
theorem distance_any (a b : Int) (w : World) (ha : -1000000000000000000 ≤ a ∧ a ≤ 1000000000000000000) (hb : -1000000000000000000 ≤ b ∧ b ≤ 1000000000000000000) :
    Calls Try.prog 84 #[.int .i64 a, .int .i64 b] w fun e w' => e = .returned (.int .i64 (Sh.dist a b)) ∧ w' = w := by
  have h1 : IntKind.i64.wrap (a - b) = a - b := IntWalk.i64_in _ (by omega)
  have h2 : IntKind.i64.wrap (b - a) = b - a := IntWalk.i64_in _ (by omega)
  have hd : Hid (Sh.dist a b = if b - a > a - b then b - a else a - b) := by unfold Hid Sh.dist; split <;> omega
  go_enter Try.func84, Try.ntmps84
  go_wp2
  all_goals
    go_ret
    refine ⟨ret_i ?_, rfl⟩
    rw [hd.out]
    split <;> omega
set_option maxHeartbeats 400000 in
theorem of_any (a b n : Int) (w : World) : Calls Try.prog 64 #[.agg #[.int .i64 a, .int .i64 b], .int .i64 n] w fun e w' => e = .returned (.int .i64 (Sh.ofV (a, b) n)) ∧ Below w.heap.size w w' := by
  go_enter Try.func64, Try.ntmps64
  by_cases hn : n = 1
  · have hd : Sh.ofV (a, b) n = a := by unfold Sh.ofV; rw [if_pos hn]
    rw [hd]
    go_wp2
    go_ret
    exact ⟨rfl, (Below.refl _ _).alloc (Nat.le_refl _) _⟩
  · have hd : Sh.ofV (a, b) n = b := by unfold Sh.ofV; rw [if_neg hn]
    rw [hd]
    go_wp2
    go_ret
    exact ⟨rfl, (Below.refl _ _).alloc (Nat.le_refl _) _⟩
set_option maxHeartbeats 400000 in
theorem validSpan_any (a b : Int) (w : World) : Calls Try.prog 96 #[.agg #[.int .i64 a, .int .i64 b]] w fun e w' => e = .returned (.bool (Sh.spanB a b)) ∧ Below w.heap.size w w' := by
  go_enter Try.func96, Try.ntmps96
  go_wp2
  all_goals
    go_ret
    refine ⟨ret_b ?_, (Below.refl _ _).alloc (Nat.le_refl _) _⟩
    rw [Bool.eq_iff_iff]
    simp [Sh.spanB]
    try omega
end Go.Proofs.Ytgpmnkdagpcffaa

namespace Go.Proofs.Ytgpmnkdagpcffaa
open Go.RowKit
set_option maxRecDepth 100000 in
set_option maxHeartbeats 2000000 in
theorem fit_any (f : Sh.Fa) (c : Sh.Ct) (w : World) (hf : Sh.fsm f) (hc : Sh.csm c) :
    Calls Try.prog 75 #[.agg #[.int .i64 f.1, .int .i64 f.2], .agg #[.int .i64 c.1, .int .i64 c.2.1, .int .i64 c.2.2.1, .int .i64 c.2.2.2]] w fun e w' => e = .returned (.bool (Sh.fitB f c)) ∧ Below w.heap.size w w' := by
  obtain ⟨f1, f2⟩ := f
  obtain ⟨cw, ct, cr, co⟩ := c
  dsimp only
  have hof : -2000 ≤ Sh.ofV (f1, f2) cw ∧ Sh.ofV (f1, f2) cw ≤ 2000 := by
    unfold Sh.ofV
    unfold Sh.fsm at hf
    dsimp only at hf ⊢
    split <;> omega
  unfold Sh.csm at hc
  dsimp only at hc
  have m1 := mul_bd (a := ct) (b := Sh.ofV (f1, f2) cw) (x := 10000) (y := 2000) (by omega) (by omega) (by omega) (by omega)
  have hw1 : IntKind.i64.wrap (ct * Sh.ofV (f1, f2) cw) = ct * Sh.ofV (f1, f2) cw := IntWalk.i64_in _ (by omega)
  have hw2 : IntKind.i64.wrap (1000 * cr) = 1000 * cr := IntWalk.i64_in _ (by omega)
  have hw3 : IntKind.i64.wrap (1000 * co) = 1000 * co := IntWalk.i64_in _ (by omega)
  have HO : Hid (∀ W, Calls Try.prog 64 #[.agg #[.int .i64 f1, .int .i64 f2], .int .i64 cw] W fun e w' => e = .returned (.int .i64 (Sh.ofV (f1, f2) cw)) ∧ Below W.heap.size W w') := fun W => of_any f1 f2 cw W
  have hfv : Hid (Sh.fitB (f1, f2) (cw, ct, cr, co) = decide (Sh.dist (ct * Sh.ofV (f1, f2) cw) (1000 * cr) ≤ 1000 * co)) := rfl
  have HD : Hid (∀ W, Calls Try.prog 84 #[.int .i64 (ct * Sh.ofV (f1, f2) cw), .int .i64 (1000 * cr)] W fun e w' => e = .returned (.int .i64 (Sh.dist (ct * Sh.ofV (f1, f2) cw) (1000 * cr))) ∧ w' = W) := fun W => distance_any _ _ W (by omega) (by omega)
  clear hf hc hof m1
  generalize Sh.fitB (f1, f2) (cw, ct, cr, co) = R at *
  generalize Sh.ofV (f1, f2) cw = V at *
  generalize Sh.dist (ct * V) (1000 * cr) = D at *
  go_enter Try.func75, Try.ntmps75
  go_wp2_with fail
  have hB0 : Below w.heap.size w ((w.alloc (.cells #[.int .i64 f1, .int .i64 f2] 90)).alloc (.cells #[.int .i64 cw, .int .i64 ct, .int .i64 cr, .int .i64 co] 29)) := by (repeat' (first | (with_reducible exact Below.refl _ _) | (with_reducible assumption) | (with_reducible refine Below.alloc ?_ ?_ _) | (with_reducible refine Below.drew ?_) | (with_reducible refine Below.setCell ?_ ?_ _) | go_size | (exact (by simp)) | omega))
  have bF := (BoxS.new w 90 #[.int .i64 f1, .int .i64 f2]).alloc (.cells #[.int .i64 cw, .int .i64 ct, .int .i64 cr, .int .i64 co] 29)
  have bC := BoxS.new (w.alloc (.cells #[.int .i64 f1, .int .i64 f2] 90)) 29 #[.int .i64 cw, .int .i64 ct, .int .i64 cr, .int .i64 co]
  rw [World.size_alloc] at bC
  generalize World.alloc (World.alloc w _) _ = w1 at *
  refine (wpIn_wide (n := 4)).1 ?_
  have hmo : Try.prog.follows .mixedOrders = true := by kernel_rfl
  have q0 : Below w1.heap.size w1 w1.drew := (Below.refl _ _).drew
  have KC : Hid (∀ W', Below w1.heap.size w1 W' → (W'.cell? ⟨w.heap.size, 0, none⟩ = some (.int .i64 f1) ∧ W'.cell? ⟨w.heap.size, 1, none⟩ = some (.int .i64 f2)) ∧ (W'.cell? ⟨w.heap.size + 1, 0, none⟩ = some (.int .i64 cw) ∧ W'.cell? ⟨w.heap.size + 1, 1, none⟩ = some (.int .i64 ct) ∧ W'.cell? ⟨w.heap.size + 1, 2, none⟩ = some (.int .i64 cr) ∧ W'.cell? ⟨w.heap.size + 1, 3, none⟩ = some (.int .i64 co))) :=
    fun W' h => ⟨⟨(bF.below h).cell 0 rfl, (bF.below h).cell 1 rfl⟩, (bC.below h).cell 0 rfl, (bC.below h).cell 1 rfl, (bC.below h).cell 2 rfl, (bC.below h).cell 3 rfl⟩
  refine wpIn_region_held (fun W' => Below w1.heap.size w1 W') 30 hmo ?_
  refine wpHeldIn_take (i := 0) (v := ?_) (plain_of (by kernel_rfl)) rfl (by kernel_rfl) (fun _ _ _ h => h) (yieldsSoIn_of (by kernel_rfl) ?_ (fun _ => rfl)) q0 ?_; rotate_left; focus (intro wq hw; clear hw; go_simp; try (with_reducible rfl))
  refine wpHeldIn_take (i := 1) (v := ?_) (plain_of (by kernel_rfl)) rfl (by kernel_rfl) (fun _ _ _ h => h) (yieldsSoIn_of (by kernel_rfl) ?_ (fun _ => rfl)) q0 ?_; rotate_left; focus (intro wq hw; have kq := KC.out wq hw; clear hw; go_simp; try (with_reducible rfl))
  refine wpHeldIn_take (i := 2) (v := ?_) (plain_of (by kernel_rfl)) rfl (by kernel_rfl) (fun _ _ _ h => h) (yieldsSoIn_of (by kernel_rfl) ?_ (fun _ => rfl)) q0 ?_; rotate_left; focus (intro wq hw; have kq := KC.out wq hw; clear hw; go_simp; try (with_reducible rfl))
  refine wpHeldIn_take (i := 3) (v := ?_) (plain_of (by kernel_rfl)) rfl (by kernel_rfl) (fun _ _ _ h => h) (yieldsSoIn_of (by kernel_rfl) ?_ (fun _ => rfl)) q0 ?_; rotate_left; focus (intro wq hw; clear hw; go_simp; try (with_reducible rfl))
  refine wpHeldIn_take (i := 4) (v := ?_) (plain_of (by kernel_rfl)) rfl (by kernel_rfl) (fun _ _ _ h => h) (yieldsSoIn_of (by kernel_rfl) ?_ (fun _ => rfl)) q0 ?_; rotate_left; focus (intro wq hw; have kq := KC.out wq hw; clear hw; go_simp; try (with_reducible rfl))
  refine wpHeldIn_take (i := 7) (v := ?_) (plain_of (by kernel_rfl)) rfl (by kernel_rfl) (fun _ _ _ h => h) (yieldsSoIn_of (by kernel_rfl) ?_ (fun _ => rfl)) q0 ?_; rotate_left; focus (intro wq hw; clear hw; go_simp; try (with_reducible rfl))
  refine wpHeldIn_take (i := 8) (v := ?_) (plain_of (by kernel_rfl)) rfl (by kernel_rfl) (fun _ _ _ h => h) (yieldsSoIn_of (by kernel_rfl) ?_ (fun _ => rfl)) q0 ?_; rotate_left; focus (intro wq hw; have kq := KC.out wq hw; clear hw; go_simp; try (with_reducible rfl))
  refine wpHeldIn_take (i := 9) (v := ?_) (plain_of (by kernel_rfl)) rfl (by kernel_rfl) (fun _ _ _ h => h) (yieldsSoIn_of (by kernel_rfl) ?_ (fun _ => rfl)) q0 ?_; rotate_left; focus (intro wq hw; clear hw; go_simp; try (with_reducible rfl))
  refine wpHeldIn_take (i := 11) (v := ?_) (plain_of (by kernel_rfl)) rfl (by kernel_rfl) (fun _ _ _ h => h) (yieldsSoIn_of (by kernel_rfl) ?_ (fun _ => rfl)) q0 ?_; rotate_left; focus (intro wq hw; clear hw; go_simp; try (with_reducible rfl))
  refine wpHeldIn_take (i := 12) (v := ?_) (plain_of (by kernel_rfl)) rfl (by kernel_rfl) (fun _ _ _ h => h) (yieldsSoIn_of (by kernel_rfl) ?_ (fun _ => rfl)) q0 ?_; rotate_left; focus (intro wq hw; have kq := KC.out wq hw; clear hw; go_simp; try (with_reducible rfl))
  refine wpHeldIn_take (i := 13) (v := ?_) (plain_of (by kernel_rfl)) rfl (by kernel_rfl) (fun _ _ _ h => h) (yieldsSoIn_of (by kernel_rfl) ?_ (fun _ => rfl)) q0 ?_; rotate_left; focus (intro wq hw; clear hw; go_simp; try (with_reducible rfl))
  refine wpHeldIn_one (i := 5) (by kernel_rfl) (by kernel_rfl) rfl (by kernel_rfl) (fun K' hK' => ?_); go_simp; refine ⟨trivial, (callsIn_wide.2 (HO.out _)).mono ?_⟩; rintro e w2 ⟨rfl, hb2⟩
  have q1 := q0.trans (hb2.mono q0.size)
  refine hK' _ _ q1 ?_
  refine wpHeldIn_take (i := 6) (v := ?_) (plain_of (by kernel_rfl)) rfl (by kernel_rfl) (fun _ _ _ h => h) (yieldsSoIn_of (by kernel_rfl) ?_ (fun _ => rfl)) q1 ?_; rotate_left; focus (intro wq hw; clear hw; go_simp; try (with_reducible rfl))
  refine wpHeldIn_one (i := 10) (by kernel_rfl) (by kernel_rfl) rfl (by kernel_rfl) (fun K2 hK2 => ?_)
  go_simp
  refine ⟨trivial, (callsIn_wide.2 (HD.out _)).mono ?_⟩
  rintro e w3 ⟨rfl, rfl⟩
  refine hK2 _ _ q1 ?_
  refine wpHeldIn_take (i := 14) (v := ?_) (plain_of (by kernel_rfl)) rfl (by kernel_rfl) (fun _ _ _ h => h) (yieldsSoIn_of (by kernel_rfl) ?_ (fun _ => rfl)) q1 ?_; rotate_left; focus (intro wq hw; clear hw; go_simp; try (with_reducible rfl))
  refine wpHeldIn_take (i := 15) (v := ?_) (plain_of (by kernel_rfl)) rfl (by kernel_rfl) (fun _ _ _ h => h) (yieldsSoIn_of (by kernel_rfl) ?_ (fun _ => rfl)) q1 ?_; rotate_left; focus (intro wq hw; clear hw; go_simp; try (with_reducible rfl))
  refine wpHeldIn_done (by kernel_rfl) ?_ _
  go_simp
  have hBB := hB0.trans (q1.mono hB0.size)
  clear KC q0 q1
  go_wp2_with fail
  go_returns
  exact ⟨by rw [hfv.out]; rfl, hBB⟩
end Go.Proofs.Ytgpmnkdagpcffaa

namespace Go.Proofs.Ytgpmnkdagpcffaa
open Go.RowKit
namespace Sh
def ctAt (cs : List Ct) (k : Nat) : Ct := cs[k]?.getD (0, 0, 0, 0)
def wrongTo (f : Fa) (cs : List Ct) : Nat → Nat
  | 0 => 0
  | k + 1 => wrongTo f cs k + (if fitB f (ctAt cs k) then 0 else 1)
def wrongN (f : Fa) (cs : List Ct) : Nat := wrongTo f cs cs.length
theorem wrongTo_le (f : Fa) (cs : List Ct) : ∀ k, wrongTo f cs k ≤ k
  | 0 => Nat.le_refl _
  | k + 1 => by
    have := wrongTo_le f cs k
    unfold wrongTo
    split <;> omega
theorem wrongTo_succ (f : Fa) (cs : List Ct) (k : Nat) : wrongTo f cs (k + 1) = wrongTo f cs k + (if fitB f (ctAt cs k) then 0 else 1) := rfl
theorem ctAt_eq {cs : List Ct} {k : Nat} {c : Ct} (h : cs[k]? = some c) : ctAt cs k = c := by unfold ctAt; rw [h]; rfl
end Sh
/-- A slice of controls reads as a list of them. -/
def Cts (w : World) (B : Nat) (A : Option Addr) (cs : List Sh.Ct) : Prop :=
  0 < cs.length → ∃ b off, A = some ⟨b, off, none⟩ ∧ b < B ∧ ∀ k, k < cs.length → w.cell? ⟨b, off + k * 4, none⟩ = some (.int .i64 (Sh.ctAt cs k).1) ∧ w.cell? ⟨b, off + k * 4 + 1, none⟩ = some (.int .i64 (Sh.ctAt cs k).2.1) ∧ w.cell? ⟨b, off + k * 4 + 2, none⟩ = some (.int .i64 (Sh.ctAt cs k).2.2.1) ∧ w.cell? ⟨b, off + k * 4 + 3, none⟩ = some (.int .i64 (Sh.ctAt cs k).2.2.2)
theorem Cts.keep {w w' : World} {B : Nat} {A : Option Addr} {cs : List Sh.Ct} (h : Cts w B A cs) (hb : Below B w w') : Cts w' B A cs := fun hn => by
  obtain ⟨b, off, e, hB, hc⟩ := h hn
  refine ⟨b, off, e, hB, fun k hk => ?_⟩
  obtain ⟨h0, h1, h2, h3⟩ := hc k hk
  exact ⟨(hb.cell (p := ⟨b, _, none⟩) hB).trans h0, (hb.cell (p := ⟨b, _, none⟩) hB).trans h1, (hb.cell (p := ⟨b, _, none⟩) hB).trans h2, (hb.cell (p := ⟨b, _, none⟩) hB).trans h3⟩
theorem Cts.wider {w : World} {B B' : Nat} {A : Option Addr} {cs : List Sh.Ct} (h : Cts w B A cs) (hb : B ≤ B') : Cts w B' A cs := fun hn => by
  obtain ⟨b, off, e, hB, hc⟩ := h hn
  exact ⟨b, off, e, by omega, hc⟩
/-- A sheet, as its value. -/
structure Sheet where
  al : Int
  ah : Int
  bl : Int
  bh : Int
  cs : List Sh.Ct
  wr : Int
abbrev shV (s : Sheet) (A : Option Addr) (c : Nat) : Array Value := #[.int .i64 s.al, .int .i64 s.ah, .int .i64 s.bl, .int .i64 s.bh, .slice A s.cs.length c, .int .i64 s.wr]
theorem boxS6 {W : World} {B : Nat} {t : TypeId} {a b c d e f : Value} (h : BoxS W B t #[a, b, c, d, e, f]) : (W.cell? ⟨B, 0, none⟩ = some a ∧ W.cell? ⟨B, 1, none⟩ = some b ∧ W.cell? ⟨B, 2, none⟩ = some c) ∧ W.cell? ⟨B, 3, none⟩ = some d ∧ W.cell? ⟨B, 4, none⟩ = some e ∧ W.cell? ⟨B, 5, none⟩ = some f := ⟨⟨h.cell 0 rfl, h.cell 1 rfl, h.cell 2 rfl⟩, h.cell 3 rfl, h.cell 4 rfl, h.cell 5 rfl⟩

set_option maxRecDepth 100000 in
set_option maxHeartbeats 2000000 in
theorem wrong_any (s : Sheet) (A : Option Addr) (c : Nat) (f : Sh.Fa) (w : World) (hl : s.cs.length ≤ 1000) (hf : Sh.fsm f) (hc : ∀ k, k < s.cs.length → Sh.csm (Sh.ctAt s.cs k)) (hg : Cts w w.heap.size A s.cs) :
    Calls Try.prog 59 #[.agg (shV s A c), .agg #[.int .i64 f.1, .int .i64 f.2]] w fun e w' => e = .returned (.int .i64 (Sh.wrongN f s.cs)) ∧ Below w.heap.size w w' := by
  obtain ⟨al, ah, bl, bh, cs, wrn⟩ := s
  obtain ⟨f1, f2⟩ := f
  dsimp only at *
  unfold shV
  dsimp only
  have HF : Hid (∀ k, k < cs.length → ∀ W, Calls Try.prog 75 #[.agg #[.int .i64 f1, .int .i64 f2], .agg #[.int .i64 (Sh.ctAt cs k).1, .int .i64 (Sh.ctAt cs k).2.1, .int .i64 (Sh.ctAt cs k).2.2.1, .int .i64 (Sh.ctAt cs k).2.2.2]] W fun e w' => e = .returned (.bool (Sh.fitB (f1, f2) (Sh.ctAt cs k))) ∧ Below W.heap.size W w') := fun k hk W => fit_any (f1, f2) (Sh.ctAt cs k) W hf (hc k hk)
  have HG := Lib.hid hg
  have hll : (cs.length : Int) ≤ 1000 := by omega
  clear hf hc hg
  go_enter Try.func59, Try.ntmps59
  go_wp2_with fail
  have hB0 : Below w.heap.size w ((w.alloc (.cells #[.int .i64 al, .int .i64 ah, .int .i64 bl, .int .i64 bh, .slice A cs.length c, .int .i64 wrn] 87)).alloc (.cells #[.int .i64 f1, .int .i64 f2] 90)) := by (repeat' (first | (with_reducible exact Below.refl _ _) | (with_reducible assumption) | (with_reducible refine Below.alloc ?_ ?_ _) | (with_reducible refine Below.drew ?_) | (with_reducible refine Below.setCell ?_ ?_ _) | go_size | (exact (by simp)) | omega))
  have bF0 := BoxS.new (w.alloc (.cells #[.int .i64 al, .int .i64 ah, .int .i64 bl, .int .i64 bh, .slice A cs.length c, .int .i64 wrn] 87)) 90 #[.int .i64 f1, .int .i64 f2]
  have hz0 : ((w.alloc (.cells #[.int .i64 al, .int .i64 ah, .int .i64 bl, .int .i64 bh, .slice A cs.length c, .int .i64 wrn] 87)).alloc (.cells #[.int .i64 f1, .int .i64 f2] 90)).heap.size = w.heap.size + 2 := by simp
  rw [World.size_alloc] at bF0
  generalize World.alloc (World.alloc w _) _ = w1 at *
  go_loopw [5, 12] (fun m x wr => ∃ k : Nat, (k : Int) ≤ cs.length ∧ x = .int .i64 k ∧ m = .int .i64 (Sh.wrongTo (f1, f2) cs k) ∧ BoxS wr (w.heap.size + 1) 90 #[.int .i64 f1, .int .i64 f2] ∧ Below w.heap.size w wr) (fun _ x _ => (cs.length - intOf x).toNat)
  case atStart => exact ⟨0, by omega, rfl, rfl, bF0, hB0⟩
  case round =>
    obtain ⟨k, hk, rfl, rfl, bF, hB⟩ := hrel
    have hk0 := Int.natCast_nonneg k
    by_cases hlt : (k : Int) < cs.length
    · have hkn : k < cs.length := by omega
      obtain ⟨bb, off, rfl, hbb, hc⟩ := HG.out (by omega)
      obtain ⟨h0, h1, h2, h3⟩ := hc k hkn
      have a0 := (hB.cell (p := ⟨bb, _, none⟩) hbb).trans h0
      have a1 := (hB.cell (p := ⟨bb, _, none⟩) hbb).trans h1
      have a2 := (hB.cell (p := ⟨bb, _, none⟩) hbb).trans h2
      have a3 := (hB.cell (p := ⟨bb, _, none⟩) hbb).trans h3
      have HF1 := Lib.hid (HF.out k hkn)
      have HS := Lib.hid (Sh.wrongTo_succ (f1, f2) cs k)
      have hwl := Sh.wrongTo_le (f1, f2) cs k
      have hw1 : IntKind.i64.wrap ((k : Int) + 1) = (k : Int) + 1 := IntWalk.i64_in _ (by omega)
      have hw2 : IntKind.i64.wrap ((Sh.wrongTo (f1, f2) cs k : Int) + 1) = ((Sh.wrongTo (f1, f2) cs k : Nat) : Int) + 1 := IntWalk.i64_in _ (by omega)
      have hlw : w.heap.size + 1 < wr.heap.size := bF.lt
      clear hc h0 h1 h2 h3 HF
      generalize Sh.fitB (f1, f2) (Sh.ctAt cs k) = b at *
      generalize Sh.ctAt cs k = ct at *
      generalize Sh.wrongTo (f1, f2) cs k = m at *
      obtain ⟨c0, c1, c2, c3⟩ := ct
      dsimp only at a0 a1 a2 a3 HF1
      obtain ⟨g0, g1⟩ := boxS2 bF
      go_wp2_with fail
      have bF2 := bF.alloc (.cells #[.int .i64 c0, .int .i64 c1, .int .i64 c2, .int .i64 c3] 29)
      have hB2 : Below w.heap.size w (wr.alloc (.cells #[.int .i64 c0, .int .i64 c1, .int .i64 c2, .int .i64 c3] 29)) := hB.alloc hB.size _
      clear a0 a1 a2 a3 g0 g1
      generalize World.alloc wr _ = w2 at *
      refine (HF1.out _).mono ?_
      rintro e w3 ⟨rfl, hb3⟩
      have bF3 := bF2.below hb3
      have hB3 := hB2.trans (hb3.mono hB2.size)
      cases b with
      | true =>
        have HS2 : Hid (Sh.wrongTo (f1, f2) cs (k + 1) = m) := HS.out
        go_wp2_with fail
        go_roundw
        case rel => exact ⟨k + 1, by omega, by go_num, by rw [HS2.out], bF3, hB3⟩
        case measure => simp [intOf]; omega
      | false =>
        have HS2 : Hid (((Sh.wrongTo (f1, f2) cs (k + 1) : Nat) : Int) = (m : Int) + 1) := by unfold Hid; rw [HS.out]; rfl
        go_wp2_with fail
        go_roundw
        case rel => exact ⟨k + 1, by omega, by go_num, by rw [HS2.out], bF3, hB3⟩
        case measure => simp [intOf]; omega
    · obtain rfl : k = cs.length := by omega
      go_wp2_with fail
      go_returns
      exact ⟨rfl, hB⟩
end Go.Proofs.Ytgpmnkdagpcffaa
