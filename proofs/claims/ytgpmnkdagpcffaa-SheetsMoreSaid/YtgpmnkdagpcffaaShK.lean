/- Sheets: the bounds of a fraction over all truths. -/
import Derived.Test.YtgpmnkdagpcffaaShI
namespace Go.Proofs.Ytgpmnkdagpcffaa
open Go.RowKit Go.Shelf
attribute [local go_sem] Oper.semAt_some
namespace Sh
def lowS (l q : Int) : Int := if q < l then q else l
def highS (h q : Int) : Int := if q > h then q else h
def lowF (N D : FaS → Int) (L : List FaS) : Int := L.foldl (fun l x => lowS l ((N x).tdiv (D x))) 9223372036854775807
def highF (N D : FaS → Int) (L : List FaS) : Int := L.foldl (fun h x => highS h ((N x + D x - 1).tdiv (D x))) 0
theorem lowF_snoc (N D : FaS → Int) (L : List FaS) (x : FaS) : lowF N D (L ++ [x]) = lowS (lowF N D L) ((N x).tdiv (D x)) := by unfold lowF; rw [List.foldl_append]; rfl
theorem highF_snoc (N D : FaS → Int) (L : List FaS) (x : FaS) : highF N D (L ++ [x]) = highS (highF N D L) ((N x + D x - 1).tdiv (D x)) := by unfold highF; rw [List.foldl_append]; rfl
theorem tdiv_bd {a b M : Int} (h : 0 ≤ a ∧ a ≤ M) : -M ≤ a.tdiv b ∧ a.tdiv b ≤ M := by
  have h1 : (a.tdiv b).natAbs = a.natAbs / b.natAbs := Int.natAbs_tdiv _ _
  have h2 : a.natAbs / b.natAbs ≤ a.natAbs := Nat.div_le_self _ _
  omega
end Sh
def SpanPost (a b : Int) (w : World) (e : Ending) (w' : World) : Prop := e = .returned (.agg #[.int .i64 a, .int .i64 b]) ∧ Below w.heap.size w w'
theorem two_put {W : World} {B : Nat} {t : TypeId} {a b : Value} (h : BoxS W B t #[a, b]) (u : Value) : BoxS (W.setCell ⟨B, 0, none⟩ u) B t #[u, b] ∧ BoxS (W.setCell ⟨B, 1, none⟩ u) B t #[a, u] := by
  have put : ∀ (i : Nat) (v : Value), BoxS (W.setCell ⟨B, i, none⟩ v) B t (#[a, b].setIfInBounds i v) := by
    intro i v
    obtain ⟨hlt, hk⟩ := Array.getElem?_eq_some_iff.1 h
    show (W.heap.modify B _)[B]? = _
    rw [Array.getElem?_eq_getElem (by rw [Array.size_modify]; exact hlt), Array.getElem_modify_self, hk]
    rfl
  exact ⟨put 0 u, put 1 u⟩
theorem BoxS.away {W : World} {B B' : Nat} {t : TypeId} {vs : Array Value} (h : BoxS W B t vs) (hne : B ≠ B') (i : Nat) (v : Value) : BoxS (W.setCell ⟨B', i, none⟩ v) B t vs := (Below.heap_setCell _ _ _ B hne).trans h
theorem boxed_away {W : World} {B B' : Nat} {t : TypeId} {u : Value} (h : Boxed W B t u) (hne : B ≠ B') (i : Nat) (v : Value) : Boxed (W.setCell ⟨B', i, none⟩ v) B t u := (Below.heap_setCell _ _ _ B hne).trans h

set_option maxRecDepth 100000 in
set_option maxHeartbeats 8000000 in
theorem bounds_any (s : Sheet) (hs : Sh.Ok s) (A : Option Addr) (c : Nat) (g : Nat) (lb : Array Value) (N D : Sh.FaS → Int) (hN : ∀ x, 0 ≤ N x ∧ N x ≤ 2000000000000000000) (hD : ∀ x, 1 ≤ D x ∧ D x ≤ 100000000000000) (w : World) (hg : Cts w w.heap.size A s.cs)
    (eg : ∀ args W, (callFunc g args).run Try.prog W = .ok (.enter g args) W)
    (hb : ∀ (x : Sh.FaS) W, Below w.heap.size w W → Calls Try.prog g (#[.agg #[.int .i64 x.1.1, .int .i64 x.1.2]] ++ lb) W fun e W' => e = .returned (.tuple #[.int .i64 (N x), .int .i64 (D x)]) ∧ Below W.heap.size W W') :
    Calls Try.prog 67 #[.agg (shV s A c), .func (.func g) #[] lb] w (SpanPost (Sh.lowF N D (Sh.truthsL s)) (Sh.highF N D (Sh.truthsL s)) w) := by
  have HSEQ : Hid (∀ w', Below w.heap.size w w' → SeqFar Try.prog 61 #[.agg (shV s A c)] #[] encFa w.heap.size (fun ys => ys = Sh.truthsL s) (fun pre => pre <+: Sh.truthsL s) 50000 w') := fun w' h => truths_far s hs A c w.heap.size w' h.size (hg.keep h)
  have HB := Lib.hid hb
  have HN := Lib.hid hN
  have HD := Lib.hid hD
  clear hg hs hb hN hD
  obtain ⟨al, ah, bl, bh, cs, wrn⟩ := s
  unfold shV at HSEQ ⊢
  dsimp only at *
  generalize Sh.truthsL ⟨al, ah, bl, bh, cs, wrn⟩ = TL at *
  refine (callsIn_wide (n := 8)).1 ?_
  refine callsIn_of_wp_marks Try.func67 rfl trivial ?_ rfl
  simp only [Try.ntmps67, List.size_toArray, List.length_cons, List.length_nil, Nat.reduceAdd, Nat.reduceSub, Array.replicate_succ, Array.replicate_zero, List.push_toArray, List.append_toArray, List.nil_append, List.cons_append]
  gi_wp2
  obtain ⟨B1, hB1⟩ : ∃ B1, B1 = w.heap.size + 1 := ⟨_, rfl⟩
  obtain ⟨B2, hB2⟩ : ∃ B2, B2 = w.heap.size + 1 + 1 := ⟨_, rfl⟩
  obtain ⟨B3, hB3⟩ : ∃ B3, B3 = w.heap.size + 1 + 1 + 1 := ⟨_, rfl⟩
  have bG0 : Boxed ((((w.alloc (.cells #[.int .i64 al, .int .i64 ah, .int .i64 bl, .int .i64 bh, .slice A cs.length c, .int .i64 wrn] 87)).alloc (.cells #[.func (.func g) #[] lb] 103)).alloc (.cells #[.int .i64 0, .int .i64 0] 23)).alloc (.cells #[.int .i64 9223372036854775807, .int .i64 0] 23)) B1 103 (.func (.func g) #[] lb) := by
    have := (((Boxed.new (w.alloc (.cells #[.int .i64 al, .int .i64 ah, .int .i64 bl, .int .i64 bh, .slice A cs.length c, .int .i64 wrn] 87)) 103 (.func (.func g) #[] lb)).alloc (.cells #[.int .i64 0, .int .i64 0] 23)).alloc (.cells #[.int .i64 9223372036854775807, .int .i64 0] 23))
    simp only [World.size_alloc] at this
    rw [hB1]; exact this
  have bR0 : BoxS ((((w.alloc (.cells #[.int .i64 al, .int .i64 ah, .int .i64 bl, .int .i64 bh, .slice A cs.length c, .int .i64 wrn] 87)).alloc (.cells #[.func (.func g) #[] lb] 103)).alloc (.cells #[.int .i64 0, .int .i64 0] 23)).alloc (.cells #[.int .i64 9223372036854775807, .int .i64 0] 23)) B2 23 #[.int .i64 0, .int .i64 0] := by
    have := ((BoxS.new ((w.alloc (.cells #[.int .i64 al, .int .i64 ah, .int .i64 bl, .int .i64 bh, .slice A cs.length c, .int .i64 wrn] 87)).alloc (.cells #[.func (.func g) #[] lb] 103)) 23 #[.int .i64 0, .int .i64 0]).alloc (.cells #[.int .i64 9223372036854775807, .int .i64 0] 23))
    simp only [World.size_alloc] at this
    rw [hB2]; exact this
  have bS0 : BoxS ((((w.alloc (.cells #[.int .i64 al, .int .i64 ah, .int .i64 bl, .int .i64 bh, .slice A cs.length c, .int .i64 wrn] 87)).alloc (.cells #[.func (.func g) #[] lb] 103)).alloc (.cells #[.int .i64 0, .int .i64 0] 23)).alloc (.cells #[.int .i64 9223372036854775807, .int .i64 0] 23)) B3 23 #[.int .i64 (Sh.lowF N D []), .int .i64 (Sh.highF N D [])] := by
    have := (BoxS.new (((w.alloc (.cells #[.int .i64 al, .int .i64 ah, .int .i64 bl, .int .i64 bh, .slice A cs.length c, .int .i64 wrn] 87)).alloc (.cells #[.func (.func g) #[] lb] 103)).alloc (.cells #[.int .i64 0, .int .i64 0] 23)) 23 #[.int .i64 9223372036854775807, .int .i64 0])
    simp only [World.size_alloc] at this
    rw [hB3]; exact this
  have hBw : Below w.heap.size w ((((w.alloc (.cells #[.int .i64 al, .int .i64 ah, .int .i64 bl, .int .i64 bh, .slice A cs.length c, .int .i64 wrn] 87)).alloc (.cells #[.func (.func g) #[] lb] 103)).alloc (.cells #[.int .i64 0, .int .i64 0] 23)).alloc (.cells #[.int .i64 9223372036854775807, .int .i64 0] 23)) := by (repeat' (first | (with_reducible exact Below.refl _ _) | (with_reducible assumption) | (with_reducible refine Below.alloc ?_ ?_ _) | (with_reducible refine Below.drew ?_) | (with_reducible refine Below.setCell ?_ ?_ _) | go_size | (exact (by simp)) | omega))
  have hz : ((((w.alloc (.cells #[.int .i64 al, .int .i64 ah, .int .i64 bl, .int .i64 bh, .slice A cs.length c, .int .i64 wrn] 87)).alloc (.cells #[.func (.func g) #[] lb] 103)).alloc (.cells #[.int .i64 0, .int .i64 0] 23)).alloc (.cells #[.int .i64 9223372036854775807, .int .i64 0] 23)).heap.size = w.heap.size + 4 := by simp
  rw [← hB3, ← hB2, ← hB1]
  have hord : w.heap.size < B1 ∧ B1 < B2 ∧ B2 < B3 ∧ B3 < ((((w.alloc (.cells #[.int .i64 al, .int .i64 ah, .int .i64 bl, .int .i64 bh, .slice A cs.length c, .int .i64 wrn] 87)).alloc (.cells #[.func (.func g) #[] lb] 103)).alloc (.cells #[.int .i64 0, .int .i64 0] 23)).alloc (.cells #[.int .i64 9223372036854775807, .int .i64 0] 23)).heap.size := by omega
  generalize ((((w.alloc (.cells #[.int .i64 al, .int .i64 ah, .int .i64 bl, .int .i64 bh, .slice A cs.length c, .int .i64 wrn] 87)).alloc (.cells #[.func (.func g) #[] lb] 103)).alloc (.cells #[.int .i64 0, .int .i64 0] 23)).alloc (.cells #[.int .i64 9223372036854775807, .int .i64 0] 23)) = w5 at *
  clear hB1 hB2 hB3
  obtain ⟨k1, k2, k3, k4⟩ := hord
  refine wpIn_far (n₀ := w.heap.size) (gf := 61) (pb := #[.agg #[.int .i64 al, .int .i64 ah, .int .i64 bl, .int .i64 bh, .slice A cs.length c, .int .i64 wrn]]) (lb := #[]) rfl (enters_of Try.func61 (by kernel_rfl) rfl)
    (HSEQ.out w5 hBw) (Below.refl _ _) (by omega) (fun _ => rfl)
    (fun (pre : List Sh.FaS) V => ((Boxed V B1 103 (.func (.func g) #[] lb) ∧ BoxS V B2 23 #[.int .i64 0, .int .i64 0]) ∧ BoxS V B3 23 #[.int .i64 (Sh.lowF N D pre), .int .i64 (Sh.highF N D pre)]) ∧ Below w.heap.size w V)
    (fun _ _ _ => False)
    (OwnFrom.and (OwnFrom.and (OwnFrom.and (Own.from (boxed_own _ _ (fun _ => _)) _) (Own.from (boxS_own _ _ (fun _ => _)) _)) (Own.from (boxS_own _ _ (fun pre : List Sh.FaS => #[.int .i64 (Sh.lowF N D pre), .int .i64 (Sh.highF N D pre)])) _)) (ownFrom_below (Nat.le_refl _) (by omega)))
    (fun _ _ _ _ _ hs _ _ => hs)
    ⟨⟨⟨bG0, bR0⟩, bS0⟩, hBw⟩
    (fun x a' V => ∃ Bx, B3 < Bx ∧ BoxS V Bx 90 #[.int .i64 x.1.1, .int .i64 x.1.2] ∧ a' = { tmps := #[.agg #[.int .i64 al, .int .i64 ah, .int .i64 bl, .int .i64 bh, .slice A cs.length c, .int .i64 wrn], .func (.func g) #[] lb, .pointer (some ⟨w.heap.size, 0, none⟩), .pointer (some ⟨B1, 0, none⟩), .pointer (some ⟨B2, 0, none⟩), .pointer (some ⟨B3, 0, none⟩), .pointer (some ⟨Bx, 0, none⟩), undef, undef, .agg #[.int .i64 9223372036854775807, .int .i64 0], .agg #[.int .i64 al, .int .i64 ah, .int .i64 bl, .int .i64 bh, .slice A cs.length c, .int .i64 wrn], .func (.func 61) #[.agg #[.int .i64 al, .int .i64 ah, .int .i64 bl, .int .i64 bh, .slice A cs.length c, .int .i64 wrn]] #[], .agg #[.int .i64 x.1.1, .int .i64 x.1.2], undef, undef, undef, undef, undef, undef, undef, undef, undef, undef, undef, undef, undef, undef, undef, undef, undef, undef, undef, undef, undef, undef, undef, undef], defers := [] })
    (fun x a' _ X Y row hs hg hr => by obtain ⟨Bx, e1, e2, e3⟩ := hs; exact ⟨Bx, e1, boxS_own Bx 90 (fun (_ : Unit) => #[.int .i64 x.1.1, .int .i64 x.1.2]) () X Y row e2 hg (fun r e => (hr r e).2), e3⟩)
    ?assign ?body ?done ?stop
  case assign =>
    rintro l2 pre x V K ⟨⟨⟨bG, bR⟩, bS⟩, hB⟩ hK
    unfold encFa
    gi_wp2
    exact hK _ _ (Apart.alloc _ _) ⟨⟨⟨bG.alloc _, bR.alloc _⟩, bS.alloc _⟩, hB.alloc hB.size _⟩ ⟨V.heap.size, bS.lt, BoxS.new V _ _, rfl⟩
  case body =>
    rintro l2 pre x a' V ⟨⟨⟨bG, bR⟩, bS⟩, hB⟩ ⟨Bx, hBx, bX, rfl⟩ hlt
    have HB1 := Lib.hid (HB.out x V hB)
    have HA1 := Lib.hid (Sh.lowF_snoc N D pre x)
    have HA2 := Lib.hid (Sh.highF_snoc N D pre x)
    have hn := HN.out x
    have hd := HD.out x
    have g0 := bG.cell
    have x0 := bX.cell 0 rfl
    have x1 := bX.cell 1 rfl
    have t1 := Sh.tdiv_bd (b := D x) hn
    have t2 := Sh.tdiv_bd (b := D x) (a := N x + D x - 1) (M := 2000200000000000000) (by omega)
    generalize Sh.lowF N D pre = lo at *
    generalize Sh.highF N D pre = hi at *
    generalize N x = Nx at *
    generalize D x = Dx at *
    have hw1 : IntKind.i64.wrap (Nx.tdiv Dx) = Nx.tdiv Dx := IntWalk.i64_in _ (by omega)
    have hw2 : IntKind.i64.wrap (Nx + Dx) = Nx + Dx := IntWalk.i64_in _ (by omega)
    have hw3 : IntKind.i64.wrap (Nx + Dx - 1) = Nx + Dx - 1 := IntWalk.i64_in _ (by omega)
    have hw4 : IntKind.i64.wrap ((Nx + Dx - 1).tdiv Dx) = (Nx + Dx - 1).tdiv Dx := IntWalk.i64_in _ (by omega)
    have hdn : ¬ Dx = 0 := by omega
    clear hn hd t1 t2
    have hmo : Try.prog.follows .mixedOrders = true := by kernel_rfl
    gi_wp2
    refine ⟨trivial, (CallsIn.inRound l2 (callsIn_wide.2 HB1.out)).mono ?_⟩
    rintro e V2 ⟨rfl, hb2⟩
    have bG2 := boxed_below bG hb2
    have bR2 := bR.below hb2
    have bS2 := bS.below hb2
    have hA2 : Apart w.heap.size w5.heap.size V V2 := Apart.of_below hb2
    clear g0 x0 x1 bG bR bS bX hb2 HB1
    have c0 := bS2.cell 0 rfl
    have f0 := bS2.frozen 0
    have q0 : Below V2.heap.size V2 V2.drew := (Below.refl _ _).drew
    have KC : Hid (∀ V', Below V2.heap.size V2 V' → V'.cell? ⟨B3, 0, none⟩ = some (.int .i64 lo)) := fun V' h => (bS2.below h).cell 0 rfl
    gi_wp2
    refine wpIn_region_held (fun V' => Below V2.heap.size V2 V') 7 hmo ?_
    refine wpHeldIn_take (i := 0) (v := ?_) (plain_of (by kernel_rfl)) rfl (by kernel_rfl) (fun _ _ _ h => h) (yieldsSoIn_of (by kernel_rfl) ?_ (fun _ => rfl)) q0 ?_; rotate_left; focus (intro wq hw; clear hw; go_simp; try (with_reducible rfl))
    refine wpHeldIn_take (i := 1) (v := ?_) (plain_of (by kernel_rfl)) rfl (by kernel_rfl) (fun _ _ _ h => h) (yieldsSoIn_of (by kernel_rfl) ?_ (fun _ => rfl)) q0 ?_; rotate_left; focus (intro wq hw; have kq := KC.out wq hw; clear hw; go_simp; try (with_reducible rfl))
    refine wpHeldIn_take (i := 2) (v := ?_) (plain_of (by kernel_rfl)) rfl (by kernel_rfl) (fun _ _ _ h => h) (yieldsSoIn_of (by kernel_rfl) ?_ (fun _ => rfl)) q0 ?_; rotate_left; focus (intro wq hw; clear hw; go_simp; try (with_reducible rfl))
    refine wpHeldIn_take (i := 3) (v := ?_) (plain_of (by kernel_rfl)) rfl (by kernel_rfl) (fun _ _ _ h => h) (yieldsSoIn_of (by kernel_rfl) ?_ (fun _ => rfl)) q0 ?_; rotate_left; focus (intro wq hw; clear hw; go_simp; try (with_reducible rfl))
    refine wpHeldIn_take (i := 4) (v := ?_) (plain_of (by kernel_rfl)) rfl (by kernel_rfl) (fun _ _ _ h => h) (yieldsSoIn_of (by kernel_rfl) ?_ (fun _ => rfl)) q0 ?_; rotate_left; focus (intro wq hw; clear hw; go_simp; try (with_reducible rfl))
    refine wpHeldIn_take (i := 5) (v := ?_) (plain_of (by kernel_rfl)) rfl (by kernel_rfl) (fun _ _ _ h => h) (yieldsSoIn_of (by kernel_rfl) ?_ (fun _ => rfl)) q0 ?_; rotate_left; focus (intro wq hw; clear hw; go_simp; try (with_reducible rfl))
    refine wpHeldIn_take (i := 6) (v := ?_) (plain_of (by kernel_rfl)) rfl (by kernel_rfl) (fun _ _ _ h => h) (yieldsSoIn_of (by kernel_rfl) ?_ (fun _ => rfl)) q0 ?_; rotate_left; focus (intro wq hw; clear hw; go_simp; try (with_reducible rfl))
    refine wpHeldIn_last (by kernel_rfl) rfl (by kernel_rfl) (fun K2 hK2 => ?_)
    go_simp
    refine hK2 _ _ ?_
    refine wpHeldIn_done (by kernel_rfl) ?_ _
    have hl : (if Nx.tdiv Dx < lo then Nx.tdiv Dx else lo) = Sh.lowS lo (Nx.tdiv Dx) := rfl
    rw [hl]
    clear hl c0 f0 KC q0
    have bS3 : BoxS (V2.setCell ⟨B3, 0, none⟩ (.int .i64 (Sh.lowS lo (Nx.tdiv Dx)))).drew B3 23 #[.int .i64 (Sh.lowS lo (Nx.tdiv Dx)), .int .i64 hi] := (two_put bS2 _).1
    have bR3 : BoxS (V2.setCell ⟨B3, 0, none⟩ (.int .i64 (Sh.lowS lo (Nx.tdiv Dx)))).drew B2 23 #[.int .i64 0, .int .i64 0] := bR2.away (by omega) _ _
    have bG3 : Boxed (V2.setCell ⟨B3, 0, none⟩ (.int .i64 (Sh.lowS lo (Nx.tdiv Dx)))).drew B1 103 (.func (.func g) #[] lb) := boxed_away bG2 (by omega) _ _
    have hA3 := (hA2.trans (Apart.setCell V2 ⟨B3, 0, none⟩ (by simp; omega) (by simp; omega) (.int .i64 (Sh.lowS lo (Nx.tdiv Dx))))).trans (Apart.drew _)
    clear bS2 bR2 bG2 hA2
    generalize (V2.setCell ⟨B3, 0, none⟩ (.int .i64 (Sh.lowS lo (Nx.tdiv Dx)))).drew = V3 at *
    generalize Sh.lowS lo (Nx.tdiv Dx) = lo2 at *
    have c1 := bS3.cell 1 rfl
    have f1 := bS3.frozen 1
    have q0 : Below V3.heap.size V3 V3.drew := (Below.refl _ _).drew
    have KC : Hid (∀ V', Below V3.heap.size V3 V' → V'.cell? ⟨B3, 1, none⟩ = some (.int .i64 hi)) := fun V' h => (bS3.below h).cell 1 rfl
    gi_wp2
    refine wpIn_region_held (fun V' => Below V3.heap.size V3 V') 10 hmo ?_
    refine wpHeldIn_take (i := 0) (v := ?_) (plain_of (by kernel_rfl)) rfl (by kernel_rfl) (fun _ _ _ h => h) (yieldsSoIn_of (by kernel_rfl) ?_ (fun _ => rfl)) q0 ?_; rotate_left; focus (intro wq hw; clear hw; go_simp; try (with_reducible rfl))
    refine wpHeldIn_take (i := 1) (v := ?_) (plain_of (by kernel_rfl)) rfl (by kernel_rfl) (fun _ _ _ h => h) (yieldsSoIn_of (by kernel_rfl) ?_ (fun _ => rfl)) q0 ?_; rotate_left; focus (intro wq hw; have kq := KC.out wq hw; clear hw; go_simp; try (with_reducible rfl))
    refine wpHeldIn_take (i := 2) (v := ?_) (plain_of (by kernel_rfl)) rfl (by kernel_rfl) (fun _ _ _ h => h) (yieldsSoIn_of (by kernel_rfl) ?_ (fun _ => rfl)) q0 ?_; rotate_left; focus (intro wq hw; clear hw; go_simp; try (with_reducible rfl))
    refine wpHeldIn_take (i := 3) (v := ?_) (plain_of (by kernel_rfl)) rfl (by kernel_rfl) (fun _ _ _ h => h) (yieldsSoIn_of (by kernel_rfl) ?_ (fun _ => rfl)) q0 ?_; rotate_left; focus (intro wq hw; clear hw; go_simp; try (with_reducible rfl))
    refine wpHeldIn_take (i := 4) (v := ?_) (plain_of (by kernel_rfl)) rfl (by kernel_rfl) (fun _ _ _ h => h) (yieldsSoIn_of (by kernel_rfl) ?_ (fun _ => rfl)) q0 ?_; rotate_left; focus (intro wq hw; clear hw; go_simp; try (with_reducible rfl))
    refine wpHeldIn_take (i := 5) (v := ?_) (plain_of (by kernel_rfl)) rfl (by kernel_rfl) (fun _ _ _ h => h) (yieldsSoIn_of (by kernel_rfl) ?_ (fun _ => rfl)) q0 ?_; rotate_left; focus (intro wq hw; clear hw; go_simp; try (with_reducible rfl))
    refine wpHeldIn_take (i := 6) (v := ?_) (plain_of (by kernel_rfl)) rfl (by kernel_rfl) (fun _ _ _ h => h) (yieldsSoIn_of (by kernel_rfl) ?_ (fun _ => rfl)) q0 ?_; rotate_left; focus (intro wq hw; clear hw; go_simp; try (with_reducible rfl))
    refine wpHeldIn_take (i := 7) (v := ?_) (plain_of (by kernel_rfl)) rfl (by kernel_rfl) (fun _ _ _ h => h) (yieldsSoIn_of (by kernel_rfl) ?_ (fun _ => rfl)) q0 ?_; rotate_left; focus (intro wq hw; clear hw; go_simp; try (with_reducible rfl))
    refine wpHeldIn_take (i := 8) (v := ?_) (plain_of (by kernel_rfl)) rfl (by kernel_rfl) (fun _ _ _ h => h) (yieldsSoIn_of (by kernel_rfl) ?_ (fun _ => rfl)) q0 ?_; rotate_left; focus (intro wq hw; clear hw; go_simp; try (with_reducible rfl))
    refine wpHeldIn_take (i := 9) (v := ?_) (plain_of (by kernel_rfl)) rfl (by kernel_rfl) (fun _ _ _ h => h) (yieldsSoIn_of (by kernel_rfl) ?_ (fun _ => rfl)) q0 ?_; rotate_left; focus (intro wq hw; clear hw; go_simp; try (with_reducible rfl))
    refine wpHeldIn_last (by kernel_rfl) rfl (by kernel_rfl) (fun K3 hK3 => ?_)
    go_simp
    refine hK3 _ _ ?_
    refine wpHeldIn_done (by kernel_rfl) ?_ _
    have hl : ∀ q : Int, (if hi < q then q else hi) = Sh.highS hi q := fun q => rfl
    simp only [hl]
    have bS4 : BoxS (V3.setCell ⟨B3, 1, none⟩ (.int .i64 (Sh.highS hi ((Nx + Dx - 1).tdiv Dx)))).drew B3 23 #[.int .i64 lo2, .int .i64 (Sh.highS hi ((Nx + Dx - 1).tdiv Dx))] := (two_put bS3 _).2
    have bR4 : BoxS (V3.setCell ⟨B3, 1, none⟩ (.int .i64 (Sh.highS hi ((Nx + Dx - 1).tdiv Dx)))).drew B2 23 #[.int .i64 0, .int .i64 0] := bR3.away (by omega) _ _
    have bG4 : Boxed (V3.setCell ⟨B3, 1, none⟩ (.int .i64 (Sh.highS hi ((Nx + Dx - 1).tdiv Dx)))).drew B1 103 (.func (.func g) #[] lb) := boxed_away bG3 (by omega) _ _
    have hA4 := (hA3.trans (Apart.setCell V3 ⟨B3, 1, none⟩ (by simp; omega) (by simp; omega) (.int .i64 (Sh.highS hi ((Nx + Dx - 1).tdiv Dx))))).trans (Apart.drew _)
    clear KC q0 c1 f1
    gi_wp2
    exact ⟨hA4, ⟨⟨bG4, bR4⟩, by rw [HA1.out, HA2.out]; exact bS4⟩, hB.trans (hA4.below hB.size)⟩
  case done =>
    rintro D0 zs V hD0 rfl ⟨⟨⟨bG, bR⟩, bS⟩, hB⟩ hK
    generalize Sh.lowF N D zs = lo at *
    generalize Sh.highF N D zs = hi at *
    have c0 := bS.cell 0 rfl
    have c1 := bS.cell 1 rfl
    have r0 := bR.cell 0 rfl
    have r1 := bR.cell 1 rfl
    have f0 := bR.frozen 0
    have f1 := bR.frozen 1
    gi_wp2
    have bR4 := (two_put (two_put bR (.int .i64 lo)).1 (.int .i64 hi)).2
    have hA4 := (Apart.setCell (b := w.heap.size) (c := w5.heap.size) V ⟨B2, 0, none⟩ (by simp; omega) (by simp; omega) (.int .i64 lo)).trans (Apart.setCell _ ⟨B2, 1, none⟩ (by simp; omega) (by simp; omega) (.int .i64 hi))
    have hK4 := hA4.obj hK (.inr hD0)
    have hB4 := hB.trans (hA4.below hB.size)
    clear c0 c1 r0 r1 f0 f1
    generalize World.setCell (World.setCell V _ _) _ _ = V4 at *
    refine ⟨by simp, .inl ⟨_, _, rfl, run_takeDeferred hK4, ?_⟩⟩
    have bR5 : BoxS (V4.putObj D0 (.deferred none)) B2 23 #[.int .i64 lo, .int .i64 hi] := (World.putObj_heap_other (by omega)).trans bR4
    obtain ⟨r0, r1⟩ := boxS2 bR5
    exact ⟨.agg #[.int .i64 lo, .int .i64 hi], by simp [results, Try.f67, go_sem, r0, r1], rfl, hB4.trans (belowK_b (w := w) (Nat.le_refl _) V4 D0 _ _ (by omega) hK4 rfl rfl)⟩
  case stop =>
    rintro D0 cc pre V hD hpre h hK
    exact h.elim
end Go.Proofs.Ytgpmnkdagpcffaa
