/- Walks: elbows with the fewest moves, by the program. -/
import Derived.Test.YtmjcdggmofohcaaWlX
import Derived.Test.YtmjcdggmofohcaaWlY
import Derived.Test.YtmjcdggmofohcaaWlV
namespace Go.Proofs.Ytmjcdggmofohcaa
open Go.RowKit Go.Shelf
attribute [local go_sem] Oper.semAt_some
namespace Wl
theorem calmB_snoc : ∀ (l : List (List Int)) (b e : List Int), calmB b (l ++ [e]) = if movesV e < movesV (calmB b l) then e else calmB b l
  | [], b, e => rfl
  | x :: l, b, e => calmB_snoc l _ e
theorem calmV_snoc {l : List (List Int)} (h : l ≠ []) (e : List Int) : calmV (l ++ [e]) = if movesV e < movesV (calmV l) then e else calmV l := by
  match l, h with
  | x :: l, _ => exact calmB_snoc l x e
end Wl
theorem eql_nilP {P : Program} (w : World) (t e : TypeId) (a : Option Addr) (l c : Nat) (h : P.underlying t = some (.slice e)) : (binOp .eql t (.slice a l c) (.slice none 0 0)).run P w = .ok (.bool a.isNone) w := by
  have h1 : ∀ d : Nat, (Op.equalIn (d + 1) t (.slice a l c) (.slice none 0 0)).run P w = .ok a.isNone w := fun d => by cases a <;> simp [Op.equalIn, run_underlying h]
  have h2 : (Op.equal t (.slice a l c) (.slice none 0 0)).run P w = .ok a.isNone w := h1 9999
  simp [binOp, h2]
theorem eql_nilZ (w : World) (a : Option Addr) (l c : Nat) : (binOp .eql 35 (.slice a l c) (.slice none 0 0)).run Try.prog w = .ok (.bool a.isNone) w := eql_nilP w _ _ a l c Try.underlying35
/-- What lies in the box of the best elbows. -/
def CalmAt (cond : List Int → Prop) (V : World) (c₀ : Nat) (bv : Value) (pre : List Elb) : Prop :=
  (pre = [] ∧ bv = .slice none 0 0) ∨ (pre ≠ [] ∧ Row V c₀ bv (Wl.calmV (pre.map Elb.es)) ∧ cond (Wl.calmV (pre.map Elb.es)))
theorem calm_own (cond : List Int → Prop) (B0 Bb c₀ : Nat) (ty : TypeId) : OwnFrom B0 (fun (pre : List Elb) V => ∃ bv, BoxS V Bb ty #[bv] ∧ CalmAt cond V c₀ bv pre) := by
  rintro s X Y row ⟨bv, h1, h2⟩ hg hr
  refine ⟨bv, boxS_own Bb ty (fun (_ : Unit) => #[bv]) () X Y row h1 hg (fun r e => (hr r e).2), h2.elim .inl (fun h => .inr ⟨h.1, row_own (β := Unit) B0 c₀ bv _ () X Y row h.2.1 hg hr, h.2.2⟩)⟩
set_option maxRecDepth 100000 in
set_option maxHeartbeats 8000000 in
theorem calmestW_any (t : Wl.Trk) (ws : List Wl.Pt) (A Aw : Option Addr) (c cw : Nat) (ht : Wl.trkB t = true) (hw : Wl.ptsB ws = true) (hne : Wl.elbsL t ws ≠ []) (w : World) (hP : Prs w w.heap.size A t.ps) (hQ : Prs w w.heap.size Aw ws) :
    Calls Try.prog 69 #[.agg (mcV t A c Aw ws.length cw)] w (IntsPost (Wl.calmV (Wl.elbsL t ws)) w) := by
  have HSEQ : Hid (∀ W, Below w.heap.size w W → SeqFarP Try.prog (ElbPr t ws W) 64 #[.agg (mcV t A c Aw ws.length cw)] #[] encEl w.heap.size (fun xs => xs.map Elb.es = Wl.elbsL t ws) (fun pre => pre.map Elb.es <+: Wl.elbsL t ws) 20000000 W) := fun W hW => elbows_far t ws A Aw c cw ht hw w.heap.size W hW.size (hP.keep hW) (hQ.keep hW)
  have h8 := (Wl.pts_all hw).2
  have hn8 := (Wl.trk_parts ht).2.2
  have h0w : 0 < ws.length := by
    have := hw
    unfold Wl.ptsB inB at this
    simp only [Bool.and_eq_true, decide_eq_true_eq] at this
    omega
  have HMV : Hid (∀ (A' : Option Addr) (c' : Nat) (es : List Int), (es.length = ws.length ∧ ∀ p ∈ es, 0 ≤ p ∧ p < t.ps.length) → ∀ V, Ints V V.heap.size (.slice A' es.length c') es → Calls Try.prog 68 #[.agg (mcV t A c Aw ws.length cw), .slice A' es.length c'] V fun e w' => e = .returned (.int .i64 (Wl.movesV es)) ∧ Below V.heap.size V w') := fun A' c' es hx V hI => movesW_any t A Aw A' c ws.length cw c' es (fun e he => by have := hx.2 e he; unfold smI; omega) (by omega) V hI
  clear hP hQ ht hw h8 hn8
  generalize Wl.elbsL t ws = G at *
  obtain ⟨ps, cl, lo, hi⟩ := t
  unfold mcV at *
  dsimp only at *
  have hmo : Try.prog.follows .mixedOrders = true := by kernel_rfl
  obtain ⟨n, hn⟩ : ∃ n : Nat, 9 ≤ n := ⟨9, Nat.le_refl _⟩
  have h1 : 1 ≤ n := by omega
  refine (callsIn_wide (n := n)).1 ?_
  refine callsIn_of_wp_marks Try.func69 rfl trivial ?_ rfl
  simp only [Try.ntmps69, List.size_toArray, List.length_cons, List.length_nil, Nat.reduceAdd, Nat.reduceSub, Array.replicate_succ, Array.replicate_zero, List.push_toArray, List.append_toArray, List.nil_append, List.cons_append]
  gi_wp2
  have bM := (BoxS.new w 70 #[.slice A ps.length c, .int .i64 cl, .int .i64 lo, .int .i64 hi, .slice Aw ws.length cw]).alloc (.cells #[.slice none 0 0] 35)
  have bN := BoxS.new (w.alloc (.cells #[.slice A ps.length c, .int .i64 cl, .int .i64 lo, .int .i64 hi, .slice Aw ws.length cw] 70)) 35 #[.slice none 0 0]
  rw [World.size_alloc] at bN
  have hB1 : Below w.heap.size w ((w.alloc (.cells #[.slice A ps.length c, .int .i64 cl, .int .i64 lo, .int .i64 hi, .slice Aw ws.length cw] 70)).alloc (.cells #[.slice none 0 0] 35)) := by (repeat' (first | (with_reducible exact Below.refl _ _) | (with_reducible assumption) | (with_reducible refine Below.alloc ?_ ?_ _) | (with_reducible refine Below.drew ?_) | (with_reducible refine Below.setCell ?_ ?_ _) | go_size | (exact (by simp)) | omega))
  have hsz : ((w.alloc (.cells #[.slice A ps.length c, .int .i64 cl, .int .i64 lo, .int .i64 hi, .slice Aw ws.length cw] 70)).alloc (.cells #[.slice none 0 0] 35)).heap.size = w.heap.size + 2 := by simp
  obtain ⟨W0, hW0⟩ : ∃ W0, ((w.alloc (.cells #[.slice A ps.length c, .int .i64 cl, .int .i64 lo, .int .i64 hi, .slice Aw ws.length cw] 70)).alloc (.cells #[.slice none 0 0] 35)) = W0 := ⟨_, rfl⟩
  rw [hW0] at bM bN hB1 hsz
  try rw [hW0]
  clear hW0
  refine wpIn_farP (n₀ := w.heap.size) (gf := 64) (pb := #[.agg #[.slice A ps.length c, .int .i64 cl, .int .i64 lo, .int .i64 hi, .slice Aw ws.length cw]]) (lb := #[]) rfl (enters_of Try.func64 (by kernel_rfl) rfl)
    (HSEQ.out W0 hB1) (Below.refl _ _) (by omega) (fun _ => rfl)
    (fun (pre : List Elb) V => ((∃ bv, BoxS V (w.heap.size + 1) 35 #[bv] ∧ CalmAt (fun es => es.length = ws.length ∧ ∀ p ∈ es, 0 ≤ p ∧ p < (ps.length : Int)) V W0.heap.size bv pre) ∧ BoxS V w.heap.size 70 #[.slice A ps.length c, .int .i64 cl, .int .i64 lo, .int .i64 hi, .slice Aw ws.length cw]) ∧ Below w.heap.size w V)
    (fun _ _ _ => False)
    (OwnFrom.and (OwnFrom.and (calm_own _ _ _ _ _) (Own.from (boxS_own _ _ (fun _ => _)) _)) (ownFrom_below (Nat.le_refl _) (by omega)))
    (fun _ _ _ _ _ hs _ _ => hs)
    ⟨⟨⟨_, bN, .inl ⟨rfl, rfl⟩⟩, bM⟩, hB1⟩
    (fun x a' V => (Row V W0.heap.size (.slice x.A x.es.length x.c) x.es ∧ (x.es.length = ws.length ∧ ∀ p ∈ x.es, 0 ≤ p ∧ p < (ps.length : Int))) ∧ a' = { tmps := #[.agg #[.slice A ps.length c, .int .i64 cl, .int .i64 lo, .int .i64 hi, .slice Aw ws.length cw], .pointer (some ⟨w.heap.size, 0, none⟩), .slice none 0 0, .pointer (some ⟨w.heap.size + 1, 0, none⟩), .slice x.A x.es.length x.c, .agg #[.slice A ps.length c, .int .i64 cl, .int .i64 lo, .int .i64 hi, .slice Aw ws.length cw], .func (.func 64) #[.agg #[.slice A ps.length c, .int .i64 cl, .int .i64 lo, .int .i64 hi, .slice Aw ws.length cw]] #[], .slice x.A x.es.length x.c, undef, undef, undef, undef, undef, undef, undef, undef, undef, undef, undef, undef, undef], defers := [] })
    (fun x a' s X Y row hs hg hr => ⟨⟨row_own _ _ _ _ s X Y row hs.1.1 hg hr, hs.1.2⟩, hs.2⟩)
    ?assign ?body ?done ?stop
  case assign =>
    rintro l2 pre x V K hI hpr hK
    have HPR := Lib.hid hpr
    have HI := Lib.hid hI
    clear hpr hI
    unfold encEl
    gi_wp2
    exact hK _ _ (Apart.refl _ _ _) HI.out ⟨HPR.out, rfl⟩
  case body =>
    rintro l2 pre x a' V ⟨⟨⟨bv, bN, hcalm⟩, bM⟩, hB⟩ ⟨⟨hrow, hx⟩, rfl⟩ hlt
    have HR := Lib.hid hrow
    have HX := Lib.hid hx
    have q0 : Below V.heap.size V V.drew := (Below.refl _ _).drew
    have hBs := hB.size
    clear hrow hx
    have nF := bN.frozen 0
    have nL := bN.lt
    rcases hcalm with ⟨rfl, rfl⟩ | ⟨hp, hrb, hcb⟩
    · have KC : Hid (∀ V', Below V.heap.size V V' → V'.cell? ⟨w.heap.size + 1, 0, none⟩ = some (.slice none 0 0)) := fun V' h => (bN.below h).cell 0 rfl
      have nC := bN.cell 0 rfl
      have hEQ : ∀ W, (binOp .eql 35 (.slice none 0 0) (.slice none 0 0)).run Try.prog W = .ok (.bool true) W := fun W => eql_nilZ W none 0 0
      gi_wp2
      refine wpIn_region_held (fun V' => Below V.heap.size V V') 30 hmo ?_
      refine wpHeldIn_take (i := 0) (v := ?_) (plain_of (by kernel_rfl)) rfl (by kernel_rfl) (fun _ _ _ h => h) (yieldsSoIn_of (by kernel_rfl) ?_ (fun _ => rfl)) q0 ?_; rotate_left; focus (intro wq hw; have kq := KC.out wq hw; clear hw; go_simp; try (with_reducible rfl))
      refine wpHeldIn_take (i := 1) (v := ?_) (plain_of (by kernel_rfl)) rfl (by kernel_rfl) (fun _ _ _ h => h) (yieldsSoIn_of (by kernel_rfl) ?_ (fun _ => rfl)) q0 ?_; rotate_left; focus (intro wq hw; clear hw; go_simp; try (with_reducible rfl))
      refine wpHeldIn_take (i := 2) (v := ?_) (plain_of (by kernel_rfl)) rfl (by kernel_rfl) (fun _ _ _ h => h) (yieldsSoIn_of (by kernel_rfl) ?_ (fun _ => rfl)) q0 ?_; rotate_left; focus (intro wq hw; clear hw; go_simp; try (with_reducible rfl))
      refine wpHeldIn_take (i := 3) (plain_of (by kernel_rfl)) rfl (by kernel_rfl) (fun _ _ _ h => h) (yieldsSoIn_skip (by kernel_rfl) (fun _ => trivial)) q0 ?_
      refine wpHeldIn_take (i := 4) (plain_of (by kernel_rfl)) rfl (by kernel_rfl) (fun _ _ _ h => h) (yieldsSoIn_skip (by kernel_rfl) (fun _ => trivial)) q0 ?_
      refine wpHeldIn_take (i := 5) (plain_of (by kernel_rfl)) rfl (by kernel_rfl) (fun _ _ _ h => h) (yieldsSoIn_skip (by kernel_rfl) (fun _ => trivial)) q0 ?_
      refine wpHeldIn_take (i := 6) (plain_of (by kernel_rfl)) rfl (by kernel_rfl) (fun _ _ _ h => h) (yieldsSoIn_skip (by kernel_rfl) (fun _ => trivial)) q0 ?_
      refine wpHeldIn_take (i := 7) (plain_of (by kernel_rfl)) rfl (by kernel_rfl) (fun _ _ _ h => h) (yieldsSoIn_skip (by kernel_rfl) (fun _ => trivial)) q0 ?_
      refine wpHeldIn_take (i := 8) (plain_of (by kernel_rfl)) rfl (by kernel_rfl) (fun _ _ _ h => h) (yieldsSoIn_skip (by kernel_rfl) (fun _ => trivial)) q0 ?_
      refine wpHeldIn_take (i := 9) (plain_of (by kernel_rfl)) rfl (by kernel_rfl) (fun _ _ _ h => h) (yieldsSoIn_skip (by kernel_rfl) (fun _ => trivial)) q0 ?_
      refine wpHeldIn_take (i := 10) (v := ?_) (plain_of (by kernel_rfl)) rfl (by kernel_rfl) (fun _ _ _ h => h) (yieldsSoIn_of (by kernel_rfl) ?_ (fun _ => rfl)) q0 ?_; rotate_left; focus (intro wq hw; clear hw; go_simp; try (with_reducible rfl))
      refine wpHeldIn_done (by kernel_rfl) ?_ _
      go_simp
      have bN2 := bN.below q0
      have bM2 := bM.below q0
      have hB2 := hB.trans (q0.mono hBs)
      have hA2 : Apart w.heap.size W0.heap.size V V.drew := Apart.of_below q0
      have hR2 := HR.out.apart (Apart.of_below (b := w.heap.size) (c := W0.heap.size) q0)
      clear KC bN bM hB nC nF nL
      generalize World.drew V = V2 at *
      have nC := bN2.cell 0 rfl
      have nF := bN2.frozen 0
      have nL := bN2.lt
      gi_wp2
      have hS : Apart w.heap.size W0.heap.size V2 (V2.setCell ⟨w.heap.size + 1, 0, none⟩ (.slice x.A x.es.length x.c)) := Apart.setCell _ _ (by first | omega | (simp; done) | (simp; omega)) (by first | omega | (simp; done) | (simp; omega)) _
      exact ⟨hA2.trans hS, ⟨⟨_, bN2.put9 0 (.slice x.A x.es.length x.c), .inr ⟨by simp, hR2.apart hS, HX.out⟩⟩, bM2.away (by omega) _ _⟩, hB2.setCell (p := ⟨w.heap.size + 1, 0, none⟩) (by show w.heap.size ≤ w.heap.size + 1; omega) _⟩
    · have hpm : pre.map Elb.es ≠ [] := fun h => hp (List.map_eq_nil_iff.1 h)
      have hsn : Wl.calmV ((pre ++ [x]).map Elb.es) = if Wl.movesV x.es < Wl.movesV (Wl.calmV (pre.map Elb.es)) then x.es else Wl.calmV (pre.map Elb.es) := by rw [List.map_append]; exact Wl.calmV_snoc hpm x.es
      generalize Wl.calmV (pre.map Elb.es) = be at *
      have HSN := Lib.hid hsn
      rcases hrb with ⟨_, e⟩ | ⟨bb, cb, rfl, hl1, hl2, hl3, hl4⟩
      · subst e
        have := hcb.1
        simp at this
        omega
      have HRB : Hid (Row V W0.heap.size (.slice (some ⟨bb, 0, none⟩) be.length cb) be) := .inr ⟨bb, cb, rfl, hl1, hl2, hl3, hl4⟩
      have HCB := Lib.hid hcb
      have M1 : Hid (∀ V', Below V.heap.size V V' → Calls Try.prog 68 #[.agg #[.slice A ps.length c, .int .i64 cl, .int .i64 lo, .int .i64 hi, .slice Aw ws.length cw], .slice x.A x.es.length x.c] V' fun e w' => e = .returned (.int .i64 (Wl.movesV x.es)) ∧ Below V'.heap.size V' w') := fun V' h => HMV.out _ _ x.es HX.out V' ((HR.out.ints.keep h).more h.size)
      have M2 : Hid (∀ V', Below V.heap.size V V' → Calls Try.prog 68 #[.agg #[.slice A ps.length c, .int .i64 cl, .int .i64 lo, .int .i64 hi, .slice Aw ws.length cw], .slice (some ⟨bb, 0, none⟩) be.length cb] V' fun e w' => e = .returned (.int .i64 (Wl.movesV be)) ∧ Below V'.heap.size V' w') := fun V' h => HMV.out _ _ be HCB.out V' ((HRB.out.ints.keep h).more h.size)
      generalize Wl.movesV x.es = mx at *
      generalize Wl.movesV be = mb at *
      have KC : Hid (∀ V', Below V.heap.size V V' → V'.cell? ⟨w.heap.size + 1, 0, none⟩ = some (.slice (some ⟨bb, 0, none⟩) be.length cb) ∧ (V'.cell? ⟨w.heap.size, 0, none⟩ = some (.slice A ps.length c) ∧ V'.cell? ⟨w.heap.size, 1, none⟩ = some (.int .i64 cl) ∧ V'.cell? ⟨w.heap.size, 2, none⟩ = some (.int .i64 lo) ∧ V'.cell? ⟨w.heap.size, 3, none⟩ = some (.int .i64 hi) ∧ V'.cell? ⟨w.heap.size, 4, none⟩ = some (.slice Aw ws.length cw))) := fun V' h => by
        have b := bM.below h
        exact ⟨(bN.below h).cell 0 rfl, b.cell 0 rfl, b.cell 1 rfl, b.cell 2 rfl, b.cell 3 rfl, b.cell 4 rfl⟩
      clear hl1 hl2 hl3 hl4 hcb hsn hpm nF nL
      by_cases hlt2 : mx < mb
      · have hdc : decide (mx < mb) = true := decide_eq_true hlt2
        have HS2 : Hid (Wl.calmV ((pre ++ [x]).map Elb.es) = x.es) := by unfold Hid; rw [HSN.out, if_pos hlt2]
        have hEQ : ∀ W, (binOp .eql 35 (.slice (some ⟨bb, 0, none⟩) be.length cb) (.slice none 0 0)).run Try.prog W = .ok (.bool false) W := fun W => eql_nilZ W _ _ _
        gi_wp2
        refine wpIn_region_held (fun V' => Below V.heap.size V V') 30 hmo ?_
        refine wpHeldIn_take (i := 0) (v := ?_) (plain_of (by kernel_rfl)) rfl (by kernel_rfl) (fun _ _ _ h => h) (yieldsSoIn_of (by kernel_rfl) ?_ (fun _ => rfl)) q0 ?_; rotate_left; focus (intro wq hw; have kq := KC.out wq hw; clear hw; go_simp; try (with_reducible rfl))
        refine wpHeldIn_take (i := 1) (v := ?_) (plain_of (by kernel_rfl)) rfl (by kernel_rfl) (fun _ _ _ h => h) (yieldsSoIn_of (by kernel_rfl) ?_ (fun _ => rfl)) q0 ?_; rotate_left; focus (intro wq hw; clear hw; go_simp; try (with_reducible rfl))
        refine wpHeldIn_take (i := 2) (v := ?_) (plain_of (by kernel_rfl)) rfl (by kernel_rfl) (fun _ _ _ h => h) (yieldsSoIn_of (by kernel_rfl) ?_ (fun _ => rfl)) q0 ?_; rotate_left; focus (intro wq hw; clear hw; go_simp; try (with_reducible rfl))
        refine wpHeldIn_take (i := 3) (v := ?_) (plain_of (by kernel_rfl)) rfl (by kernel_rfl) (fun _ _ _ h => h) (yieldsSoIn_of (by kernel_rfl) ?_ (fun _ => rfl)) q0 ?_; rotate_left; focus (intro wq hw; have kq := KC.out wq hw; clear hw; go_simp; try (with_reducible rfl))
        refine wpHeldIn_take (i := 4) (v := ?_) (plain_of (by kernel_rfl)) rfl (by kernel_rfl) (fun _ _ _ h => h) (yieldsSoIn_of (by kernel_rfl) ?_ (fun _ => rfl)) q0 ?_; rotate_left; focus (intro wq hw; clear hw; go_simp; try (with_reducible rfl))
        refine wpHeldIn_take (i := 6) (v := ?_) (plain_of (by kernel_rfl)) rfl (by kernel_rfl) (fun _ _ _ h => h) (yieldsSoIn_of (by kernel_rfl) ?_ (fun _ => rfl)) q0 ?_; rotate_left; focus (intro wq hw; have kq := KC.out wq hw; clear hw; go_simp; try (with_reducible rfl))
        refine wpHeldIn_take (i := 7) (v := ?_) (plain_of (by kernel_rfl)) rfl (by kernel_rfl) (fun _ _ _ h => h) (yieldsSoIn_of (by kernel_rfl) ?_ (fun _ => rfl)) q0 ?_; rotate_left; focus (intro wq hw; have kq := KC.out wq hw; clear hw; go_simp; try (with_reducible rfl))
        refine wpHeldIn_one (i := 5) (by kernel_rfl) (by kernel_rfl) rfl (by kernel_rfl) (fun K1 hK1 => ?_)
        go_simp
        refine ⟨trivial, (CallsIn.inRound l2 (callsIn_wide.2 (M1.out _ q0))).mono ?_⟩
        rintro e V1 ⟨rfl, hb1⟩
        have q1 := q0.trans (hb1.mono q0.size)
        refine hK1 _ _ q1 ?_
        refine wpHeldIn_one (i := 8) (by kernel_rfl) (by kernel_rfl) rfl (by kernel_rfl) (fun K2 hK2 => ?_)
        go_simp
        refine ⟨trivial, (CallsIn.inRound l2 (callsIn_wide.2 (M2.out _ q1))).mono ?_⟩
        rintro e V2 ⟨rfl, hb2⟩
        have q2 := q1.trans (hb2.mono q1.size)
        refine hK2 _ _ q2 ?_
        refine wpHeldIn_take (i := 9) (v := ?_) (plain_of (by kernel_rfl)) rfl (by kernel_rfl) (fun _ _ _ h => h) (yieldsSoIn_of (by kernel_rfl) ?_ (fun _ => rfl)) q2 ?_; rotate_left; focus (intro wq hw; clear hw; go_simp; try (with_reducible rfl))
        refine wpHeldIn_take (i := 10) (v := ?_) (plain_of (by kernel_rfl)) rfl (by kernel_rfl) (fun _ _ _ h => h) (yieldsSoIn_of (by kernel_rfl) ?_ (fun _ => rfl)) q2 ?_; rotate_left; focus (intro wq hw; clear hw; go_simp; try (with_reducible rfl))
        refine wpHeldIn_done (by kernel_rfl) ?_ _
        go_simp
        have bN2 := bN.below q2
        have bM2 := bM.below q2
        have hB2 := hB.trans (q2.mono hBs)
        have hA2 : Apart w.heap.size W0.heap.size V V2 := Apart.of_below q2
        have hR2 := HR.out.apart (Apart.of_below (b := w.heap.size) (c := W0.heap.size) q2)
        have nC := bN2.cell 0 rfl
        have nF := bN2.frozen 0
        have nL := bN2.lt
        clear KC bN bM hB
        gi_wp2
        have hS : Apart w.heap.size W0.heap.size V2 (V2.setCell ⟨w.heap.size + 1, 0, none⟩ (.slice x.A x.es.length x.c)) := Apart.setCell _ _ (by first | omega | (simp; done) | (simp; omega)) (by first | omega | (simp; done) | (simp; omega)) _
        exact ⟨hA2.trans hS, ⟨⟨_, bN2.put9 0 (.slice x.A x.es.length x.c), .inr ⟨by simp, by rw [HS2.out]; exact hR2.apart hS, by rw [HS2.out]; exact HX.out⟩⟩, bM2.away (by omega) _ _⟩, hB2.setCell (p := ⟨w.heap.size + 1, 0, none⟩) (by show w.heap.size ≤ w.heap.size + 1; omega) _⟩
      · have hdc : decide (mx < mb) = false := decide_eq_false hlt2
        have HS2 : Hid (Wl.calmV ((pre ++ [x]).map Elb.es) = be) := by unfold Hid; rw [HSN.out, if_neg hlt2]
        have hEQ : ∀ W, (binOp .eql 35 (.slice (some ⟨bb, 0, none⟩) be.length cb) (.slice none 0 0)).run Try.prog W = .ok (.bool false) W := fun W => eql_nilZ W _ _ _
        gi_wp2
        refine wpIn_region_held (fun V' => Below V.heap.size V V') 30 hmo ?_
        refine wpHeldIn_take (i := 0) (v := ?_) (plain_of (by kernel_rfl)) rfl (by kernel_rfl) (fun _ _ _ h => h) (yieldsSoIn_of (by kernel_rfl) ?_ (fun _ => rfl)) q0 ?_; rotate_left; focus (intro wq hw; have kq := KC.out wq hw; clear hw; go_simp; try (with_reducible rfl))
        refine wpHeldIn_take (i := 1) (v := ?_) (plain_of (by kernel_rfl)) rfl (by kernel_rfl) (fun _ _ _ h => h) (yieldsSoIn_of (by kernel_rfl) ?_ (fun _ => rfl)) q0 ?_; rotate_left; focus (intro wq hw; clear hw; go_simp; try (with_reducible rfl))
        refine wpHeldIn_take (i := 2) (v := ?_) (plain_of (by kernel_rfl)) rfl (by kernel_rfl) (fun _ _ _ h => h) (yieldsSoIn_of (by kernel_rfl) ?_ (fun _ => rfl)) q0 ?_; rotate_left; focus (intro wq hw; clear hw; go_simp; try (with_reducible rfl))
        refine wpHeldIn_take (i := 3) (v := ?_) (plain_of (by kernel_rfl)) rfl (by kernel_rfl) (fun _ _ _ h => h) (yieldsSoIn_of (by kernel_rfl) ?_ (fun _ => rfl)) q0 ?_; rotate_left; focus (intro wq hw; have kq := KC.out wq hw; clear hw; go_simp; try (with_reducible rfl))
        refine wpHeldIn_take (i := 4) (v := ?_) (plain_of (by kernel_rfl)) rfl (by kernel_rfl) (fun _ _ _ h => h) (yieldsSoIn_of (by kernel_rfl) ?_ (fun _ => rfl)) q0 ?_; rotate_left; focus (intro wq hw; clear hw; go_simp; try (with_reducible rfl))
        refine wpHeldIn_take (i := 6) (v := ?_) (plain_of (by kernel_rfl)) rfl (by kernel_rfl) (fun _ _ _ h => h) (yieldsSoIn_of (by kernel_rfl) ?_ (fun _ => rfl)) q0 ?_; rotate_left; focus (intro wq hw; have kq := KC.out wq hw; clear hw; go_simp; try (with_reducible rfl))
        refine wpHeldIn_take (i := 7) (v := ?_) (plain_of (by kernel_rfl)) rfl (by kernel_rfl) (fun _ _ _ h => h) (yieldsSoIn_of (by kernel_rfl) ?_ (fun _ => rfl)) q0 ?_; rotate_left; focus (intro wq hw; have kq := KC.out wq hw; clear hw; go_simp; try (with_reducible rfl))
        refine wpHeldIn_one (i := 5) (by kernel_rfl) (by kernel_rfl) rfl (by kernel_rfl) (fun K1 hK1 => ?_)
        go_simp
        refine ⟨trivial, (CallsIn.inRound l2 (callsIn_wide.2 (M1.out _ q0))).mono ?_⟩
        rintro e V1 ⟨rfl, hb1⟩
        have q1 := q0.trans (hb1.mono q0.size)
        refine hK1 _ _ q1 ?_
        refine wpHeldIn_one (i := 8) (by kernel_rfl) (by kernel_rfl) rfl (by kernel_rfl) (fun K2 hK2 => ?_)
        go_simp
        refine ⟨trivial, (CallsIn.inRound l2 (callsIn_wide.2 (M2.out _ q1))).mono ?_⟩
        rintro e V2 ⟨rfl, hb2⟩
        have q2 := q1.trans (hb2.mono q1.size)
        refine hK2 _ _ q2 ?_
        refine wpHeldIn_take (i := 9) (v := ?_) (plain_of (by kernel_rfl)) rfl (by kernel_rfl) (fun _ _ _ h => h) (yieldsSoIn_of (by kernel_rfl) ?_ (fun _ => rfl)) q2 ?_; rotate_left; focus (intro wq hw; clear hw; go_simp; try (with_reducible rfl))
        refine wpHeldIn_take (i := 10) (v := ?_) (plain_of (by kernel_rfl)) rfl (by kernel_rfl) (fun _ _ _ h => h) (yieldsSoIn_of (by kernel_rfl) ?_ (fun _ => rfl)) q2 ?_; rotate_left; focus (intro wq hw; clear hw; go_simp; try (with_reducible rfl))
        refine wpHeldIn_done (by kernel_rfl) ?_ _
        go_simp
        have bN2 := bN.below q2
        have bM2 := bM.below q2
        have hB2 := hB.trans (q2.mono hBs)
        have hA2 : Apart w.heap.size W0.heap.size V V2 := Apart.of_below q2
        have hR2 := HRB.out.apart (Apart.of_below (b := w.heap.size) (c := W0.heap.size) q2)
        clear KC bN bM hB
        gi_wp2
        exact ⟨hA2, ⟨⟨_, bN2, .inr ⟨by simp, by rw [HS2.out]; exact hR2, by rw [HS2.out]; exact HCB.out⟩⟩, bM2⟩, hB2⟩
  case done =>
    rintro D zs V hD hzs ⟨⟨⟨bv, bN, hcalm⟩, bM⟩, hB⟩ hK
    rcases hcalm with ⟨rfl, _⟩ | ⟨_, hrb, _⟩
    · exact absurd hzs.symm hne
    rw [hzs] at hrb
    have HRB := Lib.hid hrb
    have nC := bN.cell 0 rfl
    clear hrb
    gi_wp2
    refine ⟨by simp, .inl ⟨_, _, rfl, run_takeDeferred hK, ?_⟩⟩
    refine ⟨_, results_tmp rfl _ _ _, _, rfl, ?_, hB.trans (belowK_b (w := w) (Nat.le_refl _) V D _ _ (by omega) hK rfl rfl)⟩
    exact ((row_own (β := Unit) W0.heap.size W0.heap.size bv _).putObj (s := ()) _ HRB.out (by omega) hK rfl).ints
  case stop =>
    rintro D0 cc pre V hD0 hpre h hK
    exact h.elim
set_option maxRecDepth 100000 in
set_option maxHeartbeats 8000000 in
theorem ElbowsW_err (t : Wl.Trk) (ws : List Wl.Pt) (A Aw : Option Addr) (c cw : Nat) (hl : t.ps.length ≤ 1000000000) (hlw : ws.length ≤ 1000000000) (w : World) (hP : Prs w w.heap.size A t.ps) (hQ : Prs w w.heap.size Aw ws) (h0 : Wl.setE t ws ≠ 0) :
    Calls Try.prog 35 #[.agg (trV t A c), .slice Aw ws.length cw] w (IntsEPost [] (Wl.setE t ws) w) := by
  have HC : Hid (∀ W, Below w.heap.size w W → Calls Try.prog 63 #[.agg (trV t A c), .slice Aw ws.length cw] W (McPost t A c Aw ws.length cw (Wl.setE t ws) W)) := fun W hW => setW_any t ws A Aw c cw hl hlw W (prs_keep hP hW) (prs_keep hQ hW)
  clear hP hQ hl hlw
  unfold McPost mcE at HC
  rw [if_neg h0] at HC
  generalize Wl.setE t ws = SE at *
  obtain ⟨ps, cl, lo, hi⟩ := t
  unfold trV at *
  dsimp only at *
  have hce : (SE == 0) = false := by simpa using h0
  have hcn : (SE != 0) = true := by simpa using h0
  go_enter Try.func35, Try.ntmps35
  go_wp2_with fail
  have hB1 : Below w.heap.size w (w.alloc (.cells #[.slice A ps.length c, .int .i64 cl, .int .i64 lo, .int .i64 hi] 26)) := by (repeat' (first | (with_reducible exact Below.refl _ _) | (with_reducible assumption) | (with_reducible refine Below.alloc ?_ ?_ _) | (with_reducible refine Below.drew ?_) | (with_reducible refine Below.setCell ?_ ?_ _) | go_size | (exact (by simp)) | omega))
  generalize World.alloc w _ = w1 at *
  refine (HC.out _ hB1).mono ?_
  rintro e w2 ⟨rfl, hb2⟩
  have hB2 := hB1.trans (hb2.mono hB1.size)
  go_wp2_with fail
  have hB3 : Below w.heap.size w (w2.alloc (.cells #[.slice none 0 0, .int .i64 0, .int .i64 0, .int .i64 0, .slice none 0 0] 70)) := hB2.alloc hB2.size _
  generalize World.alloc w2 _ = w3 at *
  try go_wp2_with fail
  go_returns
  exact ⟨_, rfl, .inl ⟨rfl, rfl⟩, hB3⟩
set_option maxRecDepth 100000 in
set_option maxHeartbeats 8000000 in
theorem ElbowsW_yes (t : Wl.Trk) (ws : List Wl.Pt) (A Aw : Option Addr) (c cw : Nat) (hl : t.ps.length ≤ 1000000000) (hlw : ws.length ≤ 1000000000) (w : World) (hP : Prs w w.heap.size A t.ps) (hQ : Prs w w.heap.size Aw ws) (h0 : Wl.setE t ws = 0) :
    Calls Try.prog 35 #[.agg (trV t A c), .slice Aw ws.length cw] w (IntsEPost (Wl.calmV (Wl.elbsL t ws)) 0 w) := by
  have HC : Hid (∀ W, Below w.heap.size w W → Calls Try.prog 63 #[.agg (trV t A c), .slice Aw ws.length cw] W (McPost t A c Aw ws.length cw 0 W)) := fun W hW => by rw [← h0]; exact setW_any t ws A Aw c cw hl hlw W (prs_keep hP hW) (prs_keep hQ hW)
  obtain ⟨⟨ht, hw⟩, hne⟩ := Wl.setE_yes h0
  have HCA : Hid (∀ W, Below w.heap.size w W → Calls Try.prog 69 #[.agg (mcV t A c Aw ws.length cw)] W (IntsPost (Wl.calmV (Wl.elbsL t ws)) W)) := fun W hW => calmestW_any t ws A Aw c cw ht hw hne W (prs_keep hP hW) (prs_keep hQ hW)

  clear hP hQ hl hlw h0 ht hw hne
  unfold McPost mcE at HC
  rw [if_pos rfl] at HC
  generalize Wl.calmV (Wl.elbsL t ws) = be at *
  obtain ⟨ps, cl, lo, hi⟩ := t
  unfold trV mcV at *
  dsimp only at *
  go_enter Try.func35, Try.ntmps35
  go_wp2_with fail
  have hB1 : Below w.heap.size w (w.alloc (.cells #[.slice A ps.length c, .int .i64 cl, .int .i64 lo, .int .i64 hi] 26)) := by (repeat' (first | (with_reducible exact Below.refl _ _) | (with_reducible assumption) | (with_reducible refine Below.alloc ?_ ?_ _) | (with_reducible refine Below.drew ?_) | (with_reducible refine Below.setCell ?_ ?_ _) | go_size | (exact (by simp)) | omega))
  generalize World.alloc w _ = w1 at *
  refine (HC.out _ hB1).mono ?_
  rintro e w2 ⟨rfl, hb2⟩
  have hB2 := hB1.trans (hb2.mono hB1.size)
  go_wp2_with fail
  have hB3 : Below w.heap.size w (w2.alloc (.cells #[.slice A ps.length c, .int .i64 cl, .int .i64 lo, .int .i64 hi, .slice Aw ws.length cw] 70)) := hB2.alloc hB2.size _
  generalize World.alloc w2 _ = w3 at *
  refine (HCA.out _ hB3).mono ?_
  rintro e w4 ⟨v, rfl, hI, hb4⟩
  have hB4 := hB3.trans (hb4.mono hB3.size)
  go_wp2_with fail
  go_returns
  exact ⟨_, rfl, hI, hB4⟩
theorem ElbowsW_any (t : Wl.Trk) (ws : List Wl.Pt) (A Aw : Option Addr) (c cw : Nat) (hl : t.ps.length ≤ 1000000000) (hlw : ws.length ≤ 1000000000) (w : World) (hP : Prs w w.heap.size A t.ps) (hQ : Prs w w.heap.size Aw ws) :
    Calls Try.prog 35 #[.agg (trV t A c), .slice Aw ws.length cw] w (IntsEPost (if Wl.setE t ws = 0 then Wl.calmV (Wl.elbsL t ws) else []) (Wl.setE t ws) w) := by
  by_cases h0 : Wl.setE t ws = 0
  · rw [if_pos h0, h0]
    exact ElbowsW_yes t ws A Aw c cw hl hlw w hP hQ h0
  · rw [if_neg h0]
    exact ElbowsW_err t ws A Aw c cw hl hlw w hP hQ h0
set_option maxRecDepth 100000 in
set_option maxHeartbeats 8000000 in
theorem LeastW_err (t : Wl.Trk) (ws : List Wl.Pt) (A Aw : Option Addr) (c cw : Nat) (hl : t.ps.length ≤ 1000000000) (hlw : ws.length ≤ 1000000000) (w : World) (hP : Prs w w.heap.size A t.ps) (hQ : Prs w w.heap.size Aw ws) (h0 : Wl.setE t ws ≠ 0) :
    Calls Try.prog 33 #[.agg (trV t A c), .slice Aw ws.length cw] w (TwoPost 0 (Wl.setE t ws) w) := by
  have HC : Hid (∀ W, Below w.heap.size w W → Calls Try.prog 63 #[.agg (trV t A c), .slice Aw ws.length cw] W (McPost t A c Aw ws.length cw (Wl.setE t ws) W)) := fun W hW => setW_any t ws A Aw c cw hl hlw W (prs_keep hP hW) (prs_keep hQ hW)
  clear hP hQ hl hlw
  unfold McPost mcE at HC
  rw [if_neg h0] at HC
  generalize Wl.setE t ws = SE at *
  obtain ⟨ps, cl, lo, hi⟩ := t
  unfold trV at *
  dsimp only at *
  have hce : (SE == 0) = false := by simpa using h0
  have hcn : (SE != 0) = true := by simpa using h0
  go_enter Try.func33, Try.ntmps33
  go_wp2_with fail
  have hB1 : Below w.heap.size w (w.alloc (.cells #[.slice A ps.length c, .int .i64 cl, .int .i64 lo, .int .i64 hi] 26)) := by (repeat' (first | (with_reducible exact Below.refl _ _) | (with_reducible assumption) | (with_reducible refine Below.alloc ?_ ?_ _) | (with_reducible refine Below.drew ?_) | (with_reducible refine Below.setCell ?_ ?_ _) | go_size | (exact (by simp)) | omega))
  generalize World.alloc w _ = w1 at *
  refine (HC.out _ hB1).mono ?_
  rintro e w2 ⟨rfl, hb2⟩
  have hB2 := hB1.trans (hb2.mono hB1.size)
  go_wp2_with fail
  have hB3 : Below w.heap.size w (w2.alloc (.cells #[.slice none 0 0, .int .i64 0, .int .i64 0, .int .i64 0, .slice none 0 0] 70)) := hB2.alloc hB2.size _
  generalize World.alloc w2 _ = w3 at *
  try go_wp2_with fail
  go_returns
  exact ⟨rfl, hB3⟩
set_option maxRecDepth 100000 in
set_option maxHeartbeats 8000000 in
theorem LeastW_yes (t : Wl.Trk) (ws : List Wl.Pt) (A Aw : Option Addr) (c cw : Nat) (hl : t.ps.length ≤ 1000000000) (hlw : ws.length ≤ 1000000000) (w : World) (hP : Prs w w.heap.size A t.ps) (hQ : Prs w w.heap.size Aw ws) (h0 : Wl.setE t ws = 0) :
    Calls Try.prog 33 #[.agg (trV t A c), .slice Aw ws.length cw] w (TwoPost (Wl.movesV (Wl.calmV (Wl.elbsL t ws))) 0 w) := by
  have HC : Hid (∀ W, Below w.heap.size w W → Calls Try.prog 63 #[.agg (trV t A c), .slice Aw ws.length cw] W (McPost t A c Aw ws.length cw 0 W)) := fun W hW => by rw [← h0]; exact setW_any t ws A Aw c cw hl hlw W (prs_keep hP hW) (prs_keep hQ hW)
  obtain ⟨⟨ht, hw⟩, hne⟩ := Wl.setE_yes h0
  have HCA : Hid (∀ W, Below w.heap.size w W → Calls Try.prog 69 #[.agg (mcV t A c Aw ws.length cw)] W (IntsPost (Wl.calmV (Wl.elbsL t ws)) W)) := fun W hW => calmestW_any t ws A Aw c cw ht hw hne W (prs_keep hP hW) (prs_keep hQ hW)
  have h8 := (Wl.pts_all hw).2
  have hn8 := (Wl.trk_parts ht).2.2
  have h0w : 0 < ws.length := by
    have := hw
    unfold Wl.ptsB inB at this
    simp only [Bool.and_eq_true, decide_eq_true_eq] at this
    omega
  have HMV : Hid (∀ (v : Value) V, Ints V V.heap.size v (Wl.calmV (Wl.elbsL t ws)) → Calls Try.prog 68 #[.agg (mcV t A c Aw ws.length cw), v] V fun e w' => e = .returned (.int .i64 (Wl.movesV (Wl.calmV (Wl.elbsL t ws)))) ∧ Below V.heap.size V w') := fun v V hI => by
    have hm := (Wl.mem_elbsL h0w).1 (Wl.calmV_spec hne).1
    obtain ⟨e1, e2, _⟩ := Wl.elbV_iff.1 hm
    obtain ⟨A', c', rfl⟩ := ints_form hI
    refine movesW_any t A Aw A' c ws.length cw c' _ (fun e he => ?_) (by omega) V hI
    obtain ⟨k, hk, rfl⟩ := List.getElem_of_mem he
    have := (Wl.mem_reachL.1 (Wl.fitB_mem.1 (e2 k hk))).1
    unfold Wl.esAt at this
    rw [List.getElem?_eq_getElem hk] at this
    simp only [Option.getD_some] at this
    unfold smI
    omega
  clear h8 hn8 h0w
  clear hP hQ hl hlw h0 ht hw hne
  unfold McPost mcE at HC
  rw [if_pos rfl] at HC
  generalize Wl.calmV (Wl.elbsL t ws) = be at *
  obtain ⟨ps, cl, lo, hi⟩ := t
  unfold trV mcV at *
  dsimp only at *
  go_enter Try.func33, Try.ntmps33
  go_wp2_with fail
  have hB1 : Below w.heap.size w (w.alloc (.cells #[.slice A ps.length c, .int .i64 cl, .int .i64 lo, .int .i64 hi] 26)) := by (repeat' (first | (with_reducible exact Below.refl _ _) | (with_reducible assumption) | (with_reducible refine Below.alloc ?_ ?_ _) | (with_reducible refine Below.drew ?_) | (with_reducible refine Below.setCell ?_ ?_ _) | go_size | (exact (by simp)) | omega))
  generalize World.alloc w _ = w1 at *
  refine (HC.out _ hB1).mono ?_
  rintro e w2 ⟨rfl, hb2⟩
  have hB2 := hB1.trans (hb2.mono hB1.size)
  go_wp2_with fail
  have bM := BoxS.new w2 70 #[.slice A ps.length c, .int .i64 cl, .int .i64 lo, .int .i64 hi, .slice Aw ws.length cw]
  have hB3 : Below w.heap.size w (w2.alloc (.cells #[.slice A ps.length c, .int .i64 cl, .int .i64 lo, .int .i64 hi, .slice Aw ws.length cw] 70)) := hB2.alloc hB2.size _
  generalize World.alloc w2 _ = w3 at *
  have q0 : Below w3.heap.size w3 w3.drew := (Below.refl _ _).drew
  have hmo : Try.prog.follows .mixedOrders = true := by kernel_rfl
  have KC : Hid (∀ V', Below w3.heap.size w3 V' → (V'.cell? ⟨w2.heap.size, 0, none⟩ = some (.slice A ps.length c) ∧ V'.cell? ⟨w2.heap.size, 1, none⟩ = some (.int .i64 cl) ∧ V'.cell? ⟨w2.heap.size, 2, none⟩ = some (.int .i64 lo) ∧ V'.cell? ⟨w2.heap.size, 3, none⟩ = some (.int .i64 hi) ∧ V'.cell? ⟨w2.heap.size, 4, none⟩ = some (.slice Aw ws.length cw))) := fun V' h => by
    have b := bM.below h
    exact ⟨b.cell 0 rfl, b.cell 1 rfl, b.cell 2 rfl, b.cell 3 rfl, b.cell 4 rfl⟩
  refine (wpIn_wide (n := 4)).1 ?_
  refine wpIn_region_held (fun V' => Below w3.heap.size w3 V') 30 hmo ?_
  refine wpHeldIn_take (i := 0) (v := ?_) (plain_of (by kernel_rfl)) rfl (by kernel_rfl) (fun _ _ _ h => h) (yieldsSoIn_of (by kernel_rfl) ?_ (fun _ => rfl)) q0 ?_; rotate_left; focus (intro wq hw; have kq := KC.out wq hw; clear hw; go_simp; try (with_reducible rfl))
  refine wpHeldIn_take (i := 1) (v := ?_) (plain_of (by kernel_rfl)) rfl (by kernel_rfl) (fun _ _ _ h => h) (yieldsSoIn_of (by kernel_rfl) ?_ (fun _ => rfl)) q0 ?_; rotate_left; focus (intro wq hw; have kq := KC.out wq hw; clear hw; go_simp; try (with_reducible rfl))
  refine wpHeldIn_one (i := 2) (by kernel_rfl) (by kernel_rfl) rfl (by kernel_rfl) (fun K1 hK1 => ?_)
  go_simp
  refine ⟨trivial, (callsIn_wide.2 (HCA.out _ (hB3.trans (q0.mono hB3.size)))).mono ?_⟩
  rintro e w4 ⟨v, rfl, hI, hb4⟩
  have q1 := q0.trans (hb4.mono q0.size)
  refine hK1 _ _ q1 ?_
  refine wpHeldIn_one (i := 3) (by kernel_rfl) (by kernel_rfl) rfl (by kernel_rfl) (fun K2 hK2 => ?_)
  go_simp
  refine ⟨trivial, (callsIn_wide.2 (HMV.out v _ hI.out)).mono ?_⟩
  rintro e w5 ⟨rfl, hb5⟩
  have q2 := q1.trans (hb5.mono q1.size)
  refine hK2 _ _ q2 ?_
  refine wpHeldIn_take (i := 4) (v := ?_) (plain_of (by kernel_rfl)) rfl (by kernel_rfl) (fun _ _ _ h => h) (yieldsSoIn_of (by kernel_rfl) ?_ (fun _ => rfl)) q2 ?_; rotate_left; focus (intro wq hw; clear hw; go_simp; try (with_reducible rfl))
  refine wpHeldIn_take (i := 5) (v := ?_) (plain_of (by kernel_rfl)) rfl (by kernel_rfl) (fun _ _ _ h => h) (yieldsSoIn_of (by kernel_rfl) ?_ (fun _ => rfl)) q2 ?_; rotate_left; focus (intro wq hw; clear hw; go_simp; try (with_reducible rfl))
  refine wpHeldIn_done (by kernel_rfl) ?_ _
  go_simp
  have hB5 := hB3.trans (q2.mono hB3.size)
  go_wp2_with fail
  go_returns
  exact ⟨rfl, hB5⟩
theorem LeastW_any (t : Wl.Trk) (ws : List Wl.Pt) (A Aw : Option Addr) (c cw : Nat) (hl : t.ps.length ≤ 1000000000) (hlw : ws.length ≤ 1000000000) (w : World) (hP : Prs w w.heap.size A t.ps) (hQ : Prs w w.heap.size Aw ws) :
    Calls Try.prog 33 #[.agg (trV t A c), .slice Aw ws.length cw] w (TwoPost (if Wl.setE t ws = 0 then Wl.movesV (Wl.calmV (Wl.elbsL t ws)) else 0) (Wl.setE t ws) w) := by
  by_cases h0 : Wl.setE t ws = 0
  · rw [if_pos h0, h0]
    exact LeastW_yes t ws A Aw c cw hl hlw w hP hQ h0
  · rw [if_neg h0]
    exact LeastW_err t ws A Aw c cw hl hlw w hP hQ h0
end Go.Proofs.Ytmjcdggmofohcaa
