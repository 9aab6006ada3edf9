/- Walks: the doubled area of points. -/
import Derived.Test.YtmjcdggmofohcaaWlI
import Derived.Test.YtmjcdggmofohcaaTotal
namespace Go.Proofs.Ytmjcdggmofohcaa
open Go.RowKit Go.Shelf
attribute [local go_sem] Oper.semAt_some
set_option maxHeartbeats 1000000 in
theorem around_in (F : Fence) (n : Nat) (hF : F.fn 82) (hro : F.round = none) (A : Option Addr) (k c : Nat) (w : World) :
    CallsIn F n Try.prog 82 #[.slice A k c] w fun e w' => e = .returned (.func (.func 99) #[] #[.pointer (some ⟨w.heap.size, 0, none⟩)]) ∧ w' = w.alloc (.cells #[.slice A k c] 22) := by
  refine callsIn_of_wp Try.func82 rfl hF ?_ hro
  simp only [Try.ntmps82, List.size_toArray, List.length_cons, List.length_nil, Nat.reduceAdd, Nat.reduceSub, Array.replicate_succ, Array.replicate_zero, List.push_toArray, List.append_toArray, List.nil_append, List.cons_append]
  gi_wp2
  go_ret
  exact ⟨rfl, rfl⟩
theorem around_stops (F : Fence) (n : Nat) (hF : F.fn 99) (hro : F.round = none) (hn : 1 ≤ n) (Bs n₀ : Nat) (A : Option Addr) (c : Nat) (ps : List (Int × Int)) (hps : ∀ p ∈ ps, Geo.sm p) (hlen : ps.length ≤ 100) (w : World)
    (hBs : Boxed w Bs 22 (.slice A ps.length c)) (hn0 : n₀ ≤ w.heap.size) (hP : Prs w n₀ A ps) :
    SeqStopsK F n Try.prog 99 #[.pointer (some ⟨Bs, 0, none⟩)] (fun x : Side => #[encA x, encB x]) (KpS n₀ Bs) (fun ys => ys = sidesTo ps hps ps.length) (fun pre => ∃ k, k ≤ ps.length ∧ pre = sidesTo ps hps k) ps.length w := fun l J Jx W hW hJ _ hY h0 =>
  around1_in F n hF hro hn l Bs n₀ A c ps hps hlen J Jx hY W hJ (boxed_below hBs hW) (Nat.le_trans hn0 hW.size) (hP.keep (hW.mono hn0)) h0
def crS (x : Side) : Int := x.1.1.1 * x.1.2.2 - x.1.1.2 * x.1.2.1
theorem crS_bd (x : Side) : (-1000000 ≤ x.1.1.1 * x.1.2.2 ∧ x.1.1.1 * x.1.2.2 ≤ 1000000) ∧ -1000000 ≤ x.1.1.2 * x.1.2.1 ∧ x.1.1.2 * x.1.2.1 ≤ 1000000 := by
  obtain ⟨⟨⟨a1, a2⟩, b1, b2⟩, h1, h2⟩ := x
  unfold Geo.sm at h1 h2
  dsimp only at *
  exact ⟨mul_bd (x := 1000) (y := 1000) h1.1.1 h1.1.2 h2.2.1 h2.2.2, mul_bd (x := 1000) (y := 1000) h1.2.1 h1.2.2 h2.1.1 h2.1.2⟩
set_option maxRecDepth 100000 in
set_option maxHeartbeats 4000000 in
theorem doubled_in (n : Nat) (hn : 6 ≤ n) (A : Option Addr) (c : Nat) (ps : List (Int × Int)) (hps : ∀ p ∈ ps, Geo.sm p) (hlen : ps.length ≤ 100) (w : World) (hP : Prs w w.heap.size A ps) :
    CallsIn Fence.wide n Try.prog 52 #[.slice A ps.length c] w fun e w' => e = .returned (.int .i64 (sumOf crS (sidesTo ps hps ps.length))) ∧ Below w.heap.size w w' := by
  have h1 : 1 ≤ n := by omega
  have HV : Hid (∀ x, -2000000 ≤ crS x ∧ crS x ≤ 2000000) := fun x => by
    have := crS_bd x
    unfold crS
    omega
  have HP := Lib.hid hP
  clear hP
  refine callsIn_of_wp_marks Try.func52 rfl trivial ?_ rfl
  simp only [Try.ntmps52, List.size_toArray, List.length_cons, List.length_nil, Nat.reduceAdd, Nat.reduceSub, Array.replicate_succ, Array.replicate_zero, List.push_toArray, List.append_toArray, List.nil_append, List.cons_append]
  gi_wp2_with (refine ⟨trivial, ?_⟩; gi_at_call 82; refine (around_in Fence.wide (n - 1) trivial rfl _ _ _ _).mono ?_; rintro e w' ⟨rfl, rfl⟩)
  have bR := (Boxed.new w 3 (.int .i64 0)).alloc (.cells #[.slice A ps.length c] 22)
  have bA := Boxed.new (w.alloc (.cells #[.int .i64 0] 3)) 22 (.slice A ps.length c)
  simp only [World.size_alloc] at bA
  have hB0 : Below w.heap.size w ((w.alloc (.cells #[.int .i64 0] 3)).alloc (.cells #[.slice A ps.length c] 22)) := ((Below.refl _ w).alloc (Nat.le_refl _) _).alloc (by simp) _
  have hsz : ((w.alloc (.cells #[.int .i64 0] 3)).alloc (.cells #[.slice A ps.length c] 22)).heap.size = w.heap.size + 2 := by simp
  obtain ⟨W0, hW0⟩ : ∃ W0, ((w.alloc (.cells #[.int .i64 0] 3)).alloc (.cells #[.slice A ps.length c] 22)) = W0 := ⟨_, rfl⟩
  rw [hW0] at bR bA hB0 hsz ⊢
  clear hW0
  have hP1 : Prs W0 w.heap.size A ps := HP.out.keep hB0
  refine wpIn_rangeFunc_ownH rfl h1 (gf := 99) (lb := #[.pointer (some ⟨w.heap.size + 1, 0, none⟩)]) rfl trivial (enters_of Try.func99 (by kernel_rfl) rfl)
    (around_stops Fence.wide (n - 1) trivial rfl (by omega) (w.heap.size + 1) w.heap.size A c ps hps hlen W0 bA (by omega) hP1) KpS.trans (fun W l o o' hl _ _ _ => KpS.putObj W (by omega) (by omega) o') (Below.refl _ _) (fun _ => rfl)
    (fun pre W => Boxed W w.heap.size 3 (.int .i64 (sumOf crS pre)) ∧ Below w.heap.size w W)
    (fun _ _ _ => False)
    (OwnFrom.and (Own.from (boxed_own _ _ _) _) (ownFrom_below (Nat.le_refl _) (by omega)))
    (fun _ _ _ _ _ hs _ _ => hs)
    ⟨bR, hB0⟩
    (fun x a' W => ∃ Ba Bb, (w.heap.size < Ba ∧ w.heap.size < Bb) ∧ (BoxS W Ba 28 #[.int .i64 x.1.1.1, .int .i64 x.1.1.2] ∧ BoxS W Bb 28 #[.int .i64 x.1.2.1, .int .i64 x.1.2.2]) ∧ a' = { tmps := #[.slice A ps.length c, undef, .int .i64 0, .pointer (some ⟨w.heap.size, 0, none⟩), .pointer (some ⟨Ba, 0, none⟩), .pointer (some ⟨Bb, 0, none⟩), .slice A ps.length c, .func (.func 99) #[] #[.pointer (some ⟨w.heap.size + 1, 0, none⟩)], encA x, encB x, undef, undef, undef, undef, undef, undef, undef, undef, undef, undef, undef, undef, undef, undef], defers := [] })
    (fun x a' _ X Y row hs hg hr => by obtain ⟨Ba, Bb, e1, ⟨e2, e3⟩, e4⟩ := hs; exact ⟨Ba, Bb, e1, ⟨boxS_own Ba 28 (fun (_ : Unit) => #[.int .i64 x.1.1.1, .int .i64 x.1.1.2]) () X Y row e2 hg (fun r e => (hr r e).2), boxS_own Bb 28 (fun (_ : Unit) => #[.int .i64 x.1.2.1, .int .i64 x.1.2.2]) () X Y row e3 hg (fun r e => (hr r e).2)⟩, e4⟩)
    ?assign ?body ?done ?stop
  case assign =>
    rintro l pre x W K ⟨bR1, hB1⟩ hK
    unfold encA encB
    gi_wp2
    exact hK _ _ (((KeepsOthers.alloc _ _).from _).trans ((KeepsOthers.alloc _ _).from _)) ((KpS.alloc W hB1.size _).trans (KpS.alloc _ (by have := hB1.size; simp; omega) _)) ⟨(bR1.alloc _).alloc _, (hB1.alloc hB1.size _).alloc (by have := hB1.size; simp; omega) _⟩ ⟨W.heap.size, W.heap.size + 1, ⟨bR1.lt, by have := bR1.lt; omega⟩, ⟨(BoxS.new W _ _).alloc _, by have := BoxS.new (W.alloc (.cells #[.int .i64 x.1.1.1, .int .i64 x.1.1.2] 28)) 28 #[.int .i64 x.1.2.1, .int .i64 x.1.2.2]; rwa [World.size_alloc] at this⟩, rfl⟩
  case body =>
    rintro l pre x a' W hl ⟨r, hr⟩ ⟨bR1, hB1⟩ ⟨Ba, Bb, ⟨hBa, hBb⟩, ⟨bXa, bXb⟩, rfl⟩ hlt
    obtain ⟨v1, v2⟩ := sumOf_bd HV.out pre
    have hsn := Lib.hid (sumOf_snoc crS pre x)
    obtain ⟨⟨m1, m2⟩, m3, m4⟩ := crS_bd x
    have hcr : Hid (crS x = x.1.1.1 * x.1.2.2 - x.1.1.2 * x.1.2.1) := rfl
    generalize sumOf crS pre = s0 at *
    generalize crS x = vx at *
    have c0 := bR1.cell
    have f0 := bR1.frozen
    obtain ⟨y0, y1⟩ := boxS2 bXa
    obtain ⟨y2, y3⟩ := boxS2 bXb
    have l1 := bXa.lt
    have l2 := bXb.lt
    have l3 := bR1.lt
    have hsW := hB1.size
    have e1 : IntKind.i64.wrap (x.1.1.1 * x.1.2.2) = x.1.1.1 * x.1.2.2 := IntWalk.i64_in _ (by omega)
    have e2 : IntKind.i64.wrap (x.1.1.2 * x.1.2.1) = x.1.1.2 * x.1.2.1 := IntWalk.i64_in _ (by omega)
    have e3 : IntKind.i64.wrap (x.1.1.1 * x.1.2.2 - x.1.1.2 * x.1.2.1) = vx := by rw [hcr.out]; exact IntWalk.i64_in _ (by omega)
    have e4 : IntKind.i64.wrap (s0 + vx) = s0 + vx := IntWalk.i64_in _ (by have := hcr.out; omega)
    clear m1 m2 m3 m4 v1 v2 hcr
    gi_wp2
    exact ⟨(KeepsOthers.setCell _ _ _).from _, KpS.setCell _ (by omega) (by omega) _, by rw [hsn.out]; exact bR1.set _, hB1.setCell (p := ⟨w.heap.size, 0, none⟩) (Nat.le_refl _) _⟩
  case done =>
    rintro D zs W hD rfl ⟨bR1, hB1⟩ hK
    have cR := bR1.cell
    have fR := bR1.frozen
    gi_wp2
    refine ⟨by simp, .inl ⟨_, _, rfl, run_takeDeferred hK, ?_⟩⟩
    exact ⟨_, results_tmp rfl _ _ _, rfl, hB1.trans (belowK_b (w := w) (Nat.le_refl _) W D _ _ (by omega) hK rfl rfl)⟩
  case stop =>
    rintro D c pre W hD hpre h hK
    exact h.elim
end Go.Proofs.Ytmjcdggmofohcaa
