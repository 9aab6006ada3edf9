/- The sum of what each side of a polygon gives. -/
import Derived.Test.YtmjcdggmofohcaaIter
import Derived.Test.YtmjcdggmofohcaaLoops
namespace Go.Proofs.Ytmjcdggmofohcaa
open Go.RowKit Go.Shelf
attribute [local go_sem] Oper.semAt_some

set_option maxHeartbeats 1000000 in
theorem sides_in (F : Fence) (n : Nat) (hF : F.fn 76) (hro : F.round = none) (A : Option Addr) (k c : Nat) (w : World) :
    CallsIn F n Try.prog 76 #[.slice A k c] w fun e w' => e = .returned (.func (.func 96) #[] #[.pointer (some ⟨w.heap.size, 0, none⟩)]) ∧ w' = w.alloc (.cells #[.slice A k c] 22) := by
  refine callsIn_of_wp Try.func76 rfl hF ?_ hro
  simp only [Try.ntmps76, List.size_toArray, List.length_cons, List.length_nil, Nat.reduceAdd, Nat.reduceSub, Array.replicate_succ, Array.replicate_zero, List.push_toArray, List.append_toArray, List.nil_append, List.cons_append]
  gi_wp2
  go_ret
  exact ⟨rfl, rfl⟩

/-- What sides hands back yields all sides, in order; or a part of them, where a round has said 'no more'. -/
theorem sides_stops (F : Fence) (n : Nat) (hF : F.fn 96) (hro : F.round = none) (hn : 1 ≤ n) (Bs n₀ : Nat) (A : Option Addr) (c : Nat) (ps : List (Int × Int)) (hps : ∀ p ∈ ps, Geo.sm p) (hlen : ps.length ≤ 100) (w : World)
    (hBs : Boxed w Bs 22 (.slice A ps.length c)) (hn0 : n₀ ≤ w.heap.size) (hP : Prs w n₀ A ps) :
    SeqStopsK F n Try.prog 96 #[.pointer (some ⟨Bs, 0, none⟩)] (fun x : Side => #[encSide x]) (KpS n₀ Bs) (fun ys => ys = sidesTo ps hps ps.length) (fun pre => ∃ k, k ≤ ps.length ∧ pre = sidesTo ps hps k) ps.length w := fun l J Jx W hW hJ _ hY h0 =>
  sides1_in F n hF hro hn l Bs n₀ A c ps hps hlen J Jx hY W hJ (boxed_below hBs hW) (Nat.le_trans hn0 hW.size) (hP.keep (hW.mono hn0)) h0

def sumOf (val : Side → Int) (l : List Side) : Int := (l.map val).sum
theorem sumOf_snoc (val : Side → Int) (l : List Side) (x : Side) : sumOf val (l ++ [x]) = sumOf val l + val x := by simp [sumOf]
theorem sumOf_bd {val : Side → Int} {M : Int} (h : ∀ x, -M ≤ val x ∧ val x ≤ M) (l : List Side) : -(M * l.length) ≤ sumOf val l ∧ sumOf val l ≤ M * l.length := by
  induction l with
  | nil => simp [sumOf]
  | cons x l ih =>
    have hx := h x
    have e1 : sumOf val (x :: l) = val x + sumOf val l := by simp [sumOf]
    have e2 : M * ((x :: l).length : Int) = M + M * (l.length : Int) := by rw [List.length_cons]; push_cast; rw [Int.mul_add]; omega
    rw [e1, e2]
    omega
theorem sidesTo_len (ps : List (Int × Int)) (h : ∀ p ∈ ps, Geo.sm p) (k : Nat) : (sidesTo ps h k).length = k := by unfold sidesTo; simp

set_option maxRecDepth 100000 in
set_option maxHeartbeats 4000000 in
theorem total_in (n : Nat) (hn : 6 ≤ n) (A : Option Addr) (c : Nat) (ps : List (Int × Int)) (hps : ∀ p ∈ ps, Geo.sm p) (hlen : ps.length ≤ 100) (g : Nat) (val : Side → Int) (hval : ∀ x, -1000000000000000 ≤ val x ∧ val x ≤ 1000000000000000)
    (eg : ∀ args W, (callFunc g args).run Try.prog W = .ok (.enter g args) W)
    (hg : ∀ x m W, CallsIn Fence.wide m Try.prog g #[encSide x] W fun e W' => e = .returned (.int .i64 (val x)) ∧ Below W.heap.size W W') (w : World) (hP : Prs w w.heap.size A ps) :
    CallsIn Fence.wide n Try.prog 93 #[.slice A ps.length c, .func (.func g) #[] #[]] w fun e w' => e = .returned (.int .i64 (sumOf val (sidesTo ps hps ps.length))) ∧ Below w.heap.size w w' := by
  have h1 : 1 ≤ n := by omega
  have HG := Lib.hid hg
  have HV := Lib.hid hval
  have HP := Lib.hid hP
  clear hg hval hP
  refine callsIn_of_wp_marks Try.func93 rfl trivial ?_ rfl
  simp only [Try.ntmps93, List.size_toArray, List.length_cons, List.length_nil, Nat.reduceAdd, Nat.reduceSub, Array.replicate_succ, Array.replicate_zero, List.push_toArray, List.append_toArray, List.nil_append, List.cons_append]
  gi_wp2_with (refine ⟨trivial, ?_⟩; gi_at_call 76; refine (sides_in Fence.wide (n - 1) trivial rfl _ _ _ _).mono ?_; rintro e w' ⟨rfl, rfl⟩)
  have bG := ((Boxed.new w 114 (.func (.func g) #[] #[])).alloc (.cells #[.int .i64 0] 3)).alloc (.cells #[.slice A ps.length c] 22)
  have bR := (Boxed.new (w.alloc (.cells #[.func (.func g) #[] #[]] 114)) 3 (.int .i64 0)).alloc (.cells #[.slice A ps.length c] 22)
  have bA := Boxed.new ((w.alloc (.cells #[.func (.func g) #[] #[]] 114)).alloc (.cells #[.int .i64 0] 3)) 22 (.slice A ps.length c)
  simp only [World.size_alloc] at bR bA
  have hB0 : Below w.heap.size w (((w.alloc (.cells #[.func (.func g) #[] #[]] 114)).alloc (.cells #[.int .i64 0] 3)).alloc (.cells #[.slice A ps.length c] 22)) := (((Below.refl _ w).alloc (Nat.le_refl _) _).alloc (by simp) _).alloc (by simp; omega) _
  have hsz : (((w.alloc (.cells #[.func (.func g) #[] #[]] 114)).alloc (.cells #[.int .i64 0] 3)).alloc (.cells #[.slice A ps.length c] 22)).heap.size = w.heap.size + 3 := by simp
  obtain ⟨W0, hW0⟩ : ∃ W0, ((w.alloc (.cells #[.func (.func g) #[] #[]] 114)).alloc (.cells #[.int .i64 0] 3)).alloc (.cells #[.slice A ps.length c] 22) = W0 := ⟨_, rfl⟩
  rw [hW0] at bG bR bA hB0 hsz ⊢
  clear hW0
  have hP1 : Prs W0 w.heap.size A ps := HP.out.keep hB0
  refine wpIn_rangeFunc_ownH rfl h1 (gf := 96) (lb := #[.pointer (some ⟨w.heap.size + 1 + 1, 0, none⟩)]) rfl trivial (enters_of Try.func96 (by kernel_rfl) rfl)
    (sides_stops Fence.wide (n - 1) trivial rfl (by omega) (w.heap.size + 1 + 1) w.heap.size A c ps hps hlen W0 bA (by omega) hP1) KpS.trans (fun W l o o' hl _ _ _ => KpS.putObj W (by omega) (by omega) o') (Below.refl _ _) (fun _ => rfl)
    (fun pre W => (Boxed W (w.heap.size + 1) 3 (.int .i64 (sumOf val pre)) ∧ Boxed W w.heap.size 114 (.func (.func g) #[] #[])) ∧ Below w.heap.size w W)
    (fun _ _ _ => False)
    (OwnFrom.and (OwnFrom.and (Own.from (boxed_own _ _ _) _) (Own.from (boxed_own _ _ _) _)) (ownFrom_below (Nat.le_refl _) (by omega)))
    (fun _ _ _ _ _ hs _ _ => hs)
    ⟨⟨bR, bG⟩, hB0⟩
    (fun x a' W => ∃ Bx, w.heap.size + 1 < Bx ∧ BoxS W Bx 98 #[.int .i64 x.1.1.1, .int .i64 x.1.1.2, .int .i64 x.1.2.1, .int .i64 x.1.2.2] ∧ a' = { tmps := #[.slice A ps.length c, .func (.func g) #[] #[], undef, .pointer (some ⟨w.heap.size, 0, none⟩), .int .i64 0, .pointer (some ⟨w.heap.size + 1, 0, none⟩), .pointer (some ⟨Bx, 0, none⟩), .slice A ps.length c, .func (.func 96) #[] #[.pointer (some ⟨w.heap.size + 1 + 1, 0, none⟩)], encSide x, undef, undef, undef, undef, undef, undef], defers := [] })
    (fun x a' _ X Y row hs hg hr => by obtain ⟨Bx, e1, e2, e3⟩ := hs; exact ⟨Bx, e1, boxS_own Bx 98 (fun (_ : Unit) => #[.int .i64 x.1.1.1, .int .i64 x.1.1.2, .int .i64 x.1.2.1, .int .i64 x.1.2.2]) () X Y row e2 hg (fun r e => (hr r e).2), e3⟩)
    ?assign ?body ?done ?stop
  case assign =>
    rintro l pre x W K ⟨⟨bR1, bG1⟩, hB1⟩ hK
    unfold encSide
    gi_wp2
    exact hK _ _ ((KeepsOthers.alloc _ _).from _) (KpS.alloc W hB1.size _) ⟨⟨bR1.alloc _, bG1.alloc _⟩, hB1.alloc hB1.size _⟩ ⟨W.heap.size, bR1.lt, BoxS.new W _ _, rfl⟩
  case body =>
    rintro l pre x a' W hl ⟨r, hr⟩ ⟨⟨bR1, bG1⟩, hB1⟩ ⟨Bx, hBx, bX, rfl⟩ hlt
    have h1' : 1 ≤ n - 1 - 1 := by omega
    obtain ⟨v1, v2⟩ := sumOf_bd HV.out pre
    obtain ⟨v3, v4⟩ := HV.out x
    have hsn := Lib.hid (sumOf_snoc val pre x)
    generalize sumOf val pre = s0 at *
    have hgx := fun m W => HG.out x m W
    have HGX := Lib.hid hgx
    clear hgx
    generalize val x = vx at *
    have hmo : Try.prog.follows .mixedOrders = true := by kernel_rfl
    have hsW := hB1.size
    gi_wp2
    refine wpIn_region_held (fun W' => Below W.heap.size W W') 5 hmo ?_
    have q0 : Below W.heap.size W W.drew := (Below.refl _ _).drew
    have c1 : ∀ W', Below W.heap.size W W' → W'.cell? ⟨w.heap.size + 1, 0, none⟩ = some (.int .i64 s0) := fun W' h => (boxed_below bR1 h).cell
    have c2 : ∀ W', Below W.heap.size W W' → W'.cell? ⟨w.heap.size, 0, none⟩ = some (.func (.func g) #[] #[]) := fun W' h => (boxed_below bG1 h).cell
    have c3 : ∀ W', Below W.heap.size W W' → W'.cell? ⟨Bx, 0, none⟩ = some (.int .i64 x.1.1.1) ∧ W'.cell? ⟨Bx, 1, none⟩ = some (.int .i64 x.1.1.2) ∧ W'.cell? ⟨Bx, 2, none⟩ = some (.int .i64 x.1.2.1) ∧ W'.cell? ⟨Bx, 3, none⟩ = some (.int .i64 x.1.2.2) := fun W' h => ⟨(bX.below h).cell 0 rfl, (bX.below h).cell 1 rfl, (bX.below h).cell 2 rfl, (bX.below h).cell 3 rfl⟩
    have C1 := Lib.hid c1
    have C2 := Lib.hid c2
    have C3 := Lib.hid c3
    clear c1 c2 c3
    refine wpHeldIn_take (i := 0) (v := ?_) (plain_of (by kernel_rfl)) rfl (by kernel_rfl) (fun _ _ _ h => h) (yieldsSoIn_of (by rfl) ?_ (fun _ => rfl)) q0 ?_
    rotate_left
    · intro wq hw; have k := C1.out _ hw; clear hw; go_simp; try (with_reducible rfl)
    refine wpHeldIn_take (i := 1) (v := ?_) (plain_of (by kernel_rfl)) rfl (by kernel_rfl) (fun _ _ _ h => h) (yieldsSoIn_of (by rfl) ?_ (fun _ => rfl)) q0 ?_
    rotate_left
    · intro wq hw; have k := C2.out _ hw; clear hw; go_simp; try (with_reducible rfl)
    refine wpHeldIn_take (i := 2) (v := ?_) (plain_of (by kernel_rfl)) rfl (by kernel_rfl) (fun _ _ _ h => h) (yieldsSoIn_of (by rfl) ?_ (fun _ => rfl)) q0 ?_
    rotate_left
    · intro wq hw; obtain ⟨k1, k2, k3, k4⟩ := C3.out _ hw; clear hw; go_simp; try (with_reducible rfl)
    refine wpHeldIn_one (i := 3) (by kernel_rfl) (by kernel_rfl) rfl (by rfl) (fun K' hK' => ?_)
    go_simp
    refine ⟨trivial, (CallsIn.inRound l (HGX.out _ _)).mono ?_⟩
    rintro e w1 ⟨rfl, hb1⟩
    have q1 : Below W.heap.size W w1 := q0.trans hb1
    have bR2 := boxed_below bR1 q1
    have k1 := bR2.cell
    have k2 := bR2.frozen
    refine hK' _ _ q1 ?_
    refine wpHeldIn_take (i := 4) (v := ?_) (plain_of (by kernel_rfl)) rfl (by kernel_rfl) (fun _ _ _ h => h) (yieldsSoIn_of (by rfl) ?_ (fun _ => rfl)) q1 ?_
    rotate_left
    · intro wq hw; clear hw; go_simp; try (with_reducible rfl)
    refine wpHeldIn_last (by kernel_rfl) rfl (by rfl) (fun K2 hK2 => ?_)
    go_simp
    refine hK2 _ _ ?_
    refine wpHeldIn_done (by kernel_rfl) ?_ _
    gi_wp2
    have hwr : IntKind.i64.wrap (s0 + vx) = s0 + vx := IntWalk.i64_in _ (by omega)
    exact ⟨(keepsFrom_below _ q1).trans ((KeepsOthers.setCell _ _ _).from _), (KpS.of_below q1 hsW).trans (KpS.setCell _ (by omega) (by omega) _), ⟨by rw [hsn.out, hwr]; exact bR2.set _, Boxed.other (boxed_below bG1 q1) (by omega) _⟩, (hB1.trans (q1.mono hsW)).setCell (p := ⟨w.heap.size + 1, 0, none⟩) (by simp) _⟩
  case done =>
    rintro D zs W hD rfl ⟨⟨bR1, bG1⟩, hB1⟩ hK
    have cR := bR1.cell
    have fR := bR1.frozen
    gi_wp2
    refine ⟨by simp, .inl ⟨_, _, rfl, run_takeDeferred hK, ?_⟩⟩
    exact ⟨_, results_tmp rfl _ _ _, rfl, hB1.trans (belowK_b (w := w) (Nat.le_refl _) W D _ _ (by omega) hK rfl rfl)⟩
  case stop =>
    rintro D c pre W hD hpre h hK
    exact h.elim
end Go.Proofs.Ytmjcdggmofohcaa
