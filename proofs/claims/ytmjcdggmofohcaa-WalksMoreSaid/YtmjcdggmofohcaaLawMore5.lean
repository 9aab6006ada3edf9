/- Walks: the law WalksMore (P5.14). -/
import Derived.Test.YtmjcdggmofohcaaOpW
import Derived.Deep.CutRange
import Derived.Test.YtmjcdggmofohcaaWk5
import Derived.Test.YtmjcdggmofohcaaMor5
import Derived.Test.YtmjcdggmofohcaaFewI
import Derived.Test.YtmjcdggmofohcaaMovC
import Derived.Test.YtmjcdggmofohcaaCpI
namespace Go.Proofs.Ytmjcdggmofohcaa
open Go.RowKit
theorem Has.putM {w : World} {NB : Nat} {L : List Thing} (h : Has w NB L) (i : Nat) {B : Nat} {t : TypeId} {vs : Array Value} (hi : L[i]? = some (.box B t vs)) (j : Nat) (v : Value) :
    Has (w.setCell ⟨B, j, none⟩ v) NB (L.set i (.box B t (vs.setIfInBounds j v))) := by
  have hb : BoxS w B t vs ∧ NB ≤ B := h.get i hi
  exact h.change i hi (row := some B) (grownBy_set w B j v) (fun g e => e) ⟨BoxS.put9 hb.1 j v, hb.2⟩ fun g hg => .inl hg
theorem Has.fourM {w : World} {NB : Nat} {L : List Thing} (h : Has w NB L) (i : Nat) {B : Nat} {t : TypeId} {a b c d : Value} (hi : L[i]? = some (.box B t #[a, b, c, d])) (u v x y : Value) :
    Has ((((w.setCell ⟨B, 0, none⟩ u).setCell ⟨B, 1, none⟩ v).setCell ⟨B, 2, none⟩ x).setCell ⟨B, 3, none⟩ y) NB (L.set i (.box B t #[u, v, x, y])) := by
  have hb : BoxS w B t #[a, b, c, d] ∧ NB ≤ B := h.get i hi
  refine h.change i hi (row := some B) (((grownBy_set w B 0 u).trans (grownBy_set _ B 1 v)).trans (grownBy_set _ B 2 x) |>.trans (grownBy_set _ B 3 y)) (fun g e => e) ⟨four_put hb.1 u v x y, hb.2⟩ fun g hg => .inl hg
theorem below_of_grownM {w w' : World} {row : Option Nat} {n : Nat} (h : w.grownBy w' row) (hn : n ≤ w.heap.size) (hr : ∀ g, row = some g → n ≤ g) : Below n w w' :=
  ⟨h.os, h.tape, h.output, h.size, fun k hk => h.block k (by omega) (fun e => by have := hr k e.symm; omega)⟩
/-- 'l = append(l, x)' on a row of points of the call's own. -/
theorem wpList_pushpt {ops : Array Oper} {rest : List Oper} {o : Oper} {a : Act} {Q : Exit → Act → World → Prop} {wr : World} (hgd : o.guard = none) (s y : Operand)
    (ho : o.op = .call { callee := .builtin .append, args := #[s, y], argTypes := #[22, 22] }) (g : Int × Int) (B : Nat) (v : Value) (n : Nat) (xs : List Value) (hs : a.eval s = v)
    (hx : a.eval y = .slice (some ⟨wr.heap.size, 0, none⟩) 1 1) (hown : wr.ownsRow B 28 2 v n xs) (hB : B ≤ wr.heap.size) (hn : n ≤ 100000)
    (h : ∀ v' w', w'.ownsRow B 28 2 v' (n + 1) (xs ++ flat [g]) → wr.grownBy w' v.ownBlock → (∀ k, v'.ownBlock = some k → v.ownBlock = some k ∨ wr.heap.size ≤ k) → wpList Try.prog ops Q rest (a.put o.dst v') w') :
    wpList Try.prog ops Q (o :: rest) a (wr.alloc (.cells #[.int .i64 g.1, .int .i64 g.2] 28)) := by
  obtain ⟨i0, hi0, hz0, hz1, hz2⟩ := info_parts4 point_info
  have hbox := BoxS.new wr 28 #[.int .i64 g.1, .int .i64 g.2]
  have hC : Prs (wr.alloc (.cells #[.int .i64 g.1, .int .i64 g.2] 28)) (wr.heap.size + 1) (some ⟨wr.heap.size, 0, none⟩) [g] := fun _ => ⟨wr.heap.size, 0, rfl, Nat.lt_succ_self _, fun k p hk => by
    rcases k with _ | k
    · obtain rfl : g = p := by simpa using hk
      exact ⟨hbox.cell 0 rfl, hbox.cell 1 rfl⟩
    · simp at hk⟩
  refine wpList_append_any _ hgd s y 22 ho B 28 i0 (.agg #[.int .i64 0, .int .i64 0]) 2 16 Try.underlying22 hi0 hz0 hz1 hz2 rfl (by decide) v n xs hs (hown.alloc _) (wr.heap.size + 1) (some ⟨wr.heap.size, 0, none⟩) 1 1 (flat [g]) hx hC.reads (flat_one [g]) (by simp only [maxLen]; omega) (by omega) (by simp; omega) ?_
  intro v' w' hown' hgr hat
  refine h v' w' hown' ((World.grownBy_alloc wr _ _).trans hgr) fun k hk => ?_
  rcases hat with e | e
  · exact .inl (e ▸ hk)
  · right
    rw [e] at hk
    injection hk with hk
    rw [← hk, World.size_alloc]
    omega
def cpV5 (n : Nat) (cl lo hi : Int) : Option (Option Addr × Nat) → Value
  | none => undef
  | some r => .agg #[.slice r.1 n r.2, .int .i64 cl, .int .i64 lo, .int .i64 hi]
def cpT5 (ps : List (Int × Int)) : Option (Option Addr × Nat) → Thing
  | none => .no
  | some r => .row (.slice r.1 ps.length r.2) 28 2 ps.length (flat ps)
def bxV5 : Option Nat → Value
  | none => undef
  | some B => .pointer (some ⟨B, 0, none⟩)
def bxT5 : Option Nat → Thing
  | none => .no
  | some B => .box B 26 #[.slice none 0 0, .int .i64 0, .int .i64 0, .int .i64 0]
namespace Wl
theorem trk_arm {t : Trk} (h : trkB t = true) : 0 ≤ t.lo ∧ t.lo ≤ t.hi ∧ t.hi ≤ 320000 := by
  unfold trkB at h
  simp only [Bool.and_eq_true, decide_eq_true_eq] at h
  obtain ⟨⟨_, h2⟩, h3⟩ := h
  unfold inB at h2
  simp only [Bool.and_eq_true, decide_eq_true_eq] at h2
  omega
theorem trk_wide {t : Trk} {lo hi : Int} (h : trkB t = true) (h1 : 0 ≤ lo) (h2 : lo ≤ hi) (h3 : hi ≤ 320000) : trkB ⟨t.ps, t.cl, lo, hi⟩ = true := by
  unfold trkB at h ⊢
  simp only [Bool.and_eq_true, decide_eq_true_eq] at h ⊢
  obtain ⟨⟨h4, _⟩, _⟩ := h
  refine ⟨⟨h4, ?_⟩, h3⟩
  unfold inB
  simp only [Bool.and_eq_true, decide_eq_true_eq]
  exact ⟨h1, h2⟩
theorem set_of {t : Trk} {ws : List Pt} (h : chkV t ws = 0) (hne : elbsL t ws ≠ []) : setE t ws = 0 := by
  unfold setE
  rw [if_pos h]
  cases he : elbsL t ws with
  | nil => exact absurd he hne
  | cons a l => rfl
end Wl
set_option maxRecDepth 100000 in
set_option maxHeartbeats 8000000 in
theorem Mo_early (t : Wl.Trk) (ws : List Wl.Pt) (xa xb xp xq : Int) (A Aw : Option Addr) (c cw : Nat) (w : World) (hP : Prs w w.heap.size A t.ps) (hQ : Prs w w.heap.size Aw ws) (h : Wl.readyB t ws = false ∨ Wl.readyB t ws = true ∧ (xa < 0 ∨ xb < 0 ∨ 320000 < xa ∨ 320000 < xb)) :
    Calls Try.prog 9 #[.agg (trV t A c), .slice Aw ws.length cw, .agg #[.int .i64 xa, .int .i64 xb, .int .i64 xp, .int .i64 xq]] w fun e w' => e = .returned (.bool true) ∧ Below w.heap.size w w' := by
  have HWK : Hid (∀ W, Calls Try.prog 12 #[] W fun e w' => e = .returned (.bool true) ∧ Below W.heap.size W w') := works5_any
  have HRD : Hid (∀ W, Below w.heap.size w W → Calls Try.prog 42 #[.agg (trV t A c), .slice Aw ws.length cw] W fun e w' => e = .returned (.bool (Wl.readyB t ws)) ∧ Below W.heap.size W w') := fun W hW => ready5_any t ws A Aw c cw W (prs_keep hP hW) (prs_keep hQ hW)
  clear hP hQ
  generalize Wl.readyB t ws = RB at *
  obtain ⟨ps, cl, lo, hi⟩ := t
  unfold trV at *
  dsimp only at *
  rcases h with h | ⟨h, h2⟩
  · subst h
    go_enter Try.func9, Try.ntmps9
    go_wp2_with fail
    have bT1 := (BoxS.new w 26 #[.slice A ps.length c, .int .i64 cl, .int .i64 lo, .int .i64 hi]).alloc (.cells #[.int .i64 xa, .int .i64 xb, .int .i64 xp, .int .i64 xq] 60)
    have bX1 := BoxS.new (w.alloc (.cells #[.slice A ps.length c, .int .i64 cl, .int .i64 lo, .int .i64 hi] 26)) 60 #[.int .i64 xa, .int .i64 xb, .int .i64 xp, .int .i64 xq]
    rw [World.size_alloc] at bX1
    have hB1 : Below w.heap.size w ((w.alloc (.cells #[.slice A ps.length c, .int .i64 cl, .int .i64 lo, .int .i64 hi] 26)).alloc (.cells #[.int .i64 xa, .int .i64 xb, .int .i64 xp, .int .i64 xq] 60)) := by (repeat' (first | (with_reducible exact Below.refl _ _) | (with_reducible assumption) | (with_reducible refine Below.alloc ?_ ?_ _) | (with_reducible refine Below.drew ?_) | (with_reducible refine Below.setCell ?_ ?_ _) | go_size | (exact (by simp)) | omega))
    generalize World.alloc (World.alloc w _) _ = w1 at *
    have ct0 : w1.cell? ⟨w.heap.size, 0, none⟩ = some (.slice A ps.length c) := bT1.cell 0 rfl
    have ct1 : w1.cell? ⟨w.heap.size, 1, none⟩ = some (.int .i64 cl) := bT1.cell 1 rfl
    have ct2 : w1.cell? ⟨w.heap.size, 2, none⟩ = some (.int .i64 lo) := bT1.cell 2 rfl
    have ct3 : w1.cell? ⟨w.heap.size, 3, none⟩ = some (.int .i64 hi) := bT1.cell 3 rfl
    have lT1 := bT1.lt
    have cx0 : w1.cell? ⟨w.heap.size + 1, 0, none⟩ = some (.int .i64 xa) := bX1.cell 0 rfl
    have cx1 : w1.cell? ⟨w.heap.size + 1, 1, none⟩ = some (.int .i64 xb) := bX1.cell 1 rfl
    have cx2 : w1.cell? ⟨w.heap.size + 1, 2, none⟩ = some (.int .i64 xp) := bX1.cell 2 rfl
    have cx3 : w1.cell? ⟨w.heap.size + 1, 3, none⟩ = some (.int .i64 xq) := bX1.cell 3 rfl
    have lX1 := bX1.lt
    try go_wp2_with fail
    refine (HRD.out _ hB1).mono ?_
    rintro e w2 ⟨rfl, hb2⟩
    have bT2 := bT1.below hb2
    have bX2 := bX1.below hb2
    have hB2 := hB1.trans (hb2.mono hB1.size)
    clear ct0 ct1 ct2 ct3 lT1 cx0 cx1 cx2 cx3 lX1 bT1 bX1 hB1 hb2
    have ct0 : w2.cell? ⟨w.heap.size, 0, none⟩ = some (.slice A ps.length c) := bT2.cell 0 rfl
    have ct1 : w2.cell? ⟨w.heap.size, 1, none⟩ = some (.int .i64 cl) := bT2.cell 1 rfl
    have ct2 : w2.cell? ⟨w.heap.size, 2, none⟩ = some (.int .i64 lo) := bT2.cell 2 rfl
    have ct3 : w2.cell? ⟨w.heap.size, 3, none⟩ = some (.int .i64 hi) := bT2.cell 3 rfl
    have lT2 := bT2.lt
    have cx0 : w2.cell? ⟨w.heap.size + 1, 0, none⟩ = some (.int .i64 xa) := bX2.cell 0 rfl
    have cx1 : w2.cell? ⟨w.heap.size + 1, 1, none⟩ = some (.int .i64 xb) := bX2.cell 1 rfl
    have cx2 : w2.cell? ⟨w.heap.size + 1, 2, none⟩ = some (.int .i64 xp) := bX2.cell 2 rfl
    have cx3 : w2.cell? ⟨w.heap.size + 1, 3, none⟩ = some (.int .i64 xq) := bX2.cell 3 rfl
    have lX2 := bX2.lt
    go_wp2_with fail
    refine (HWK.out _).mono ?_
    rintro e wz ⟨rfl, hbz⟩
    have hBz := hB2.trans (hbz.mono hB2.size)
    go_wp2_with fail
    go_returns
    exact ⟨rfl, hBz⟩
  · subst h
    by_cases g1 : xa < 0
    · have f1 : decide (xa < 0) = true := decide_eq_true g1
      clear h2 g1
      go_enter Try.func9, Try.ntmps9
      go_wp2_with fail
      have bT1 := (BoxS.new w 26 #[.slice A ps.length c, .int .i64 cl, .int .i64 lo, .int .i64 hi]).alloc (.cells #[.int .i64 xa, .int .i64 xb, .int .i64 xp, .int .i64 xq] 60)
      have bX1 := BoxS.new (w.alloc (.cells #[.slice A ps.length c, .int .i64 cl, .int .i64 lo, .int .i64 hi] 26)) 60 #[.int .i64 xa, .int .i64 xb, .int .i64 xp, .int .i64 xq]
      rw [World.size_alloc] at bX1
      have hB1 : Below w.heap.size w ((w.alloc (.cells #[.slice A ps.length c, .int .i64 cl, .int .i64 lo, .int .i64 hi] 26)).alloc (.cells #[.int .i64 xa, .int .i64 xb, .int .i64 xp, .int .i64 xq] 60)) := by (repeat' (first | (with_reducible exact Below.refl _ _) | (with_reducible assumption) | (with_reducible refine Below.alloc ?_ ?_ _) | (with_reducible refine Below.drew ?_) | (with_reducible refine Below.setCell ?_ ?_ _) | go_size | (exact (by simp)) | omega))
      generalize World.alloc (World.alloc w _) _ = w1 at *
      have ct0 : w1.cell? ⟨w.heap.size, 0, none⟩ = some (.slice A ps.length c) := bT1.cell 0 rfl
      have ct1 : w1.cell? ⟨w.heap.size, 1, none⟩ = some (.int .i64 cl) := bT1.cell 1 rfl
      have ct2 : w1.cell? ⟨w.heap.size, 2, none⟩ = some (.int .i64 lo) := bT1.cell 2 rfl
      have ct3 : w1.cell? ⟨w.heap.size, 3, none⟩ = some (.int .i64 hi) := bT1.cell 3 rfl
      have lT1 := bT1.lt
      have cx0 : w1.cell? ⟨w.heap.size + 1, 0, none⟩ = some (.int .i64 xa) := bX1.cell 0 rfl
      have cx1 : w1.cell? ⟨w.heap.size + 1, 1, none⟩ = some (.int .i64 xb) := bX1.cell 1 rfl
      have cx2 : w1.cell? ⟨w.heap.size + 1, 2, none⟩ = some (.int .i64 xp) := bX1.cell 2 rfl
      have cx3 : w1.cell? ⟨w.heap.size + 1, 3, none⟩ = some (.int .i64 xq) := bX1.cell 3 rfl
      have lX1 := bX1.lt
      try go_wp2_with fail
      refine (HRD.out _ hB1).mono ?_
      rintro e w2 ⟨rfl, hb2⟩
      have bT2 := bT1.below hb2
      have bX2 := bX1.below hb2
      have hB2 := hB1.trans (hb2.mono hB1.size)
      clear ct0 ct1 ct2 ct3 lT1 cx0 cx1 cx2 cx3 lX1 bT1 bX1 hB1 hb2
      have ct0 : w2.cell? ⟨w.heap.size, 0, none⟩ = some (.slice A ps.length c) := bT2.cell 0 rfl
      have ct1 : w2.cell? ⟨w.heap.size, 1, none⟩ = some (.int .i64 cl) := bT2.cell 1 rfl
      have ct2 : w2.cell? ⟨w.heap.size, 2, none⟩ = some (.int .i64 lo) := bT2.cell 2 rfl
      have ct3 : w2.cell? ⟨w.heap.size, 3, none⟩ = some (.int .i64 hi) := bT2.cell 3 rfl
      have lT2 := bT2.lt
      have cx0 : w2.cell? ⟨w.heap.size + 1, 0, none⟩ = some (.int .i64 xa) := bX2.cell 0 rfl
      have cx1 : w2.cell? ⟨w.heap.size + 1, 1, none⟩ = some (.int .i64 xb) := bX2.cell 1 rfl
      have cx2 : w2.cell? ⟨w.heap.size + 1, 2, none⟩ = some (.int .i64 xp) := bX2.cell 2 rfl
      have cx3 : w2.cell? ⟨w.heap.size + 1, 3, none⟩ = some (.int .i64 xq) := bX2.cell 3 rfl
      have lX2 := bX2.lt
      go_wp2_with fail
      refine (HWK.out _).mono ?_
      rintro e wz ⟨rfl, hbz⟩
      have hBz := hB2.trans (hbz.mono hB2.size)
      go_wp2_with fail
      go_returns
      exact ⟨rfl, hBz⟩
    · have f1 : decide (xa < 0) = false := decide_eq_false g1
      by_cases g2 : xb < 0
      · have f2 : decide (xb < 0) = true := decide_eq_true g2
        clear h2 g1 g2
        go_enter Try.func9, Try.ntmps9
        go_wp2_with fail
        have bT1 := (BoxS.new w 26 #[.slice A ps.length c, .int .i64 cl, .int .i64 lo, .int .i64 hi]).alloc (.cells #[.int .i64 xa, .int .i64 xb, .int .i64 xp, .int .i64 xq] 60)
        have bX1 := BoxS.new (w.alloc (.cells #[.slice A ps.length c, .int .i64 cl, .int .i64 lo, .int .i64 hi] 26)) 60 #[.int .i64 xa, .int .i64 xb, .int .i64 xp, .int .i64 xq]
        rw [World.size_alloc] at bX1
        have hB1 : Below w.heap.size w ((w.alloc (.cells #[.slice A ps.length c, .int .i64 cl, .int .i64 lo, .int .i64 hi] 26)).alloc (.cells #[.int .i64 xa, .int .i64 xb, .int .i64 xp, .int .i64 xq] 60)) := by (repeat' (first | (with_reducible exact Below.refl _ _) | (with_reducible assumption) | (with_reducible refine Below.alloc ?_ ?_ _) | (with_reducible refine Below.drew ?_) | (with_reducible refine Below.setCell ?_ ?_ _) | go_size | (exact (by simp)) | omega))
        generalize World.alloc (World.alloc w _) _ = w1 at *
        have ct0 : w1.cell? ⟨w.heap.size, 0, none⟩ = some (.slice A ps.length c) := bT1.cell 0 rfl
        have ct1 : w1.cell? ⟨w.heap.size, 1, none⟩ = some (.int .i64 cl) := bT1.cell 1 rfl
        have ct2 : w1.cell? ⟨w.heap.size, 2, none⟩ = some (.int .i64 lo) := bT1.cell 2 rfl
        have ct3 : w1.cell? ⟨w.heap.size, 3, none⟩ = some (.int .i64 hi) := bT1.cell 3 rfl
        have lT1 := bT1.lt
        have cx0 : w1.cell? ⟨w.heap.size + 1, 0, none⟩ = some (.int .i64 xa) := bX1.cell 0 rfl
        have cx1 : w1.cell? ⟨w.heap.size + 1, 1, none⟩ = some (.int .i64 xb) := bX1.cell 1 rfl
        have cx2 : w1.cell? ⟨w.heap.size + 1, 2, none⟩ = some (.int .i64 xp) := bX1.cell 2 rfl
        have cx3 : w1.cell? ⟨w.heap.size + 1, 3, none⟩ = some (.int .i64 xq) := bX1.cell 3 rfl
        have lX1 := bX1.lt
        try go_wp2_with fail
        refine (HRD.out _ hB1).mono ?_
        rintro e w2 ⟨rfl, hb2⟩
        have bT2 := bT1.below hb2
        have bX2 := bX1.below hb2
        have hB2 := hB1.trans (hb2.mono hB1.size)
        clear ct0 ct1 ct2 ct3 lT1 cx0 cx1 cx2 cx3 lX1 bT1 bX1 hB1 hb2
        have ct0 : w2.cell? ⟨w.heap.size, 0, none⟩ = some (.slice A ps.length c) := bT2.cell 0 rfl
        have ct1 : w2.cell? ⟨w.heap.size, 1, none⟩ = some (.int .i64 cl) := bT2.cell 1 rfl
        have ct2 : w2.cell? ⟨w.heap.size, 2, none⟩ = some (.int .i64 lo) := bT2.cell 2 rfl
        have ct3 : w2.cell? ⟨w.heap.size, 3, none⟩ = some (.int .i64 hi) := bT2.cell 3 rfl
        have lT2 := bT2.lt
        have cx0 : w2.cell? ⟨w.heap.size + 1, 0, none⟩ = some (.int .i64 xa) := bX2.cell 0 rfl
        have cx1 : w2.cell? ⟨w.heap.size + 1, 1, none⟩ = some (.int .i64 xb) := bX2.cell 1 rfl
        have cx2 : w2.cell? ⟨w.heap.size + 1, 2, none⟩ = some (.int .i64 xp) := bX2.cell 2 rfl
        have cx3 : w2.cell? ⟨w.heap.size + 1, 3, none⟩ = some (.int .i64 xq) := bX2.cell 3 rfl
        have lX2 := bX2.lt
        go_wp2_with fail
        refine (HWK.out _).mono ?_
        rintro e wz ⟨rfl, hbz⟩
        have hBz := hB2.trans (hbz.mono hB2.size)
        go_wp2_with fail
        go_returns
        exact ⟨rfl, hBz⟩
      · have f2 : decide (xb < 0) = false := decide_eq_false g2
        by_cases g3 : 320000 < xa
        · have f3 : decide (320000 < xa) = true := decide_eq_true g3
          clear h2 g1 g2 g3
          go_enter Try.func9, Try.ntmps9
          go_wp2_with fail
          have bT1 := (BoxS.new w 26 #[.slice A ps.length c, .int .i64 cl, .int .i64 lo, .int .i64 hi]).alloc (.cells #[.int .i64 xa, .int .i64 xb, .int .i64 xp, .int .i64 xq] 60)
          have bX1 := BoxS.new (w.alloc (.cells #[.slice A ps.length c, .int .i64 cl, .int .i64 lo, .int .i64 hi] 26)) 60 #[.int .i64 xa, .int .i64 xb, .int .i64 xp, .int .i64 xq]
          rw [World.size_alloc] at bX1
          have hB1 : Below w.heap.size w ((w.alloc (.cells #[.slice A ps.length c, .int .i64 cl, .int .i64 lo, .int .i64 hi] 26)).alloc (.cells #[.int .i64 xa, .int .i64 xb, .int .i64 xp, .int .i64 xq] 60)) := by (repeat' (first | (with_reducible exact Below.refl _ _) | (with_reducible assumption) | (with_reducible refine Below.alloc ?_ ?_ _) | (with_reducible refine Below.drew ?_) | (with_reducible refine Below.setCell ?_ ?_ _) | go_size | (exact (by simp)) | omega))
          generalize World.alloc (World.alloc w _) _ = w1 at *
          have ct0 : w1.cell? ⟨w.heap.size, 0, none⟩ = some (.slice A ps.length c) := bT1.cell 0 rfl
          have ct1 : w1.cell? ⟨w.heap.size, 1, none⟩ = some (.int .i64 cl) := bT1.cell 1 rfl
          have ct2 : w1.cell? ⟨w.heap.size, 2, none⟩ = some (.int .i64 lo) := bT1.cell 2 rfl
          have ct3 : w1.cell? ⟨w.heap.size, 3, none⟩ = some (.int .i64 hi) := bT1.cell 3 rfl
          have lT1 := bT1.lt
          have cx0 : w1.cell? ⟨w.heap.size + 1, 0, none⟩ = some (.int .i64 xa) := bX1.cell 0 rfl
          have cx1 : w1.cell? ⟨w.heap.size + 1, 1, none⟩ = some (.int .i64 xb) := bX1.cell 1 rfl
          have cx2 : w1.cell? ⟨w.heap.size + 1, 2, none⟩ = some (.int .i64 xp) := bX1.cell 2 rfl
          have cx3 : w1.cell? ⟨w.heap.size + 1, 3, none⟩ = some (.int .i64 xq) := bX1.cell 3 rfl
          have lX1 := bX1.lt
          try go_wp2_with fail
          refine (HRD.out _ hB1).mono ?_
          rintro e w2 ⟨rfl, hb2⟩
          have bT2 := bT1.below hb2
          have bX2 := bX1.below hb2
          have hB2 := hB1.trans (hb2.mono hB1.size)
          clear ct0 ct1 ct2 ct3 lT1 cx0 cx1 cx2 cx3 lX1 bT1 bX1 hB1 hb2
          have ct0 : w2.cell? ⟨w.heap.size, 0, none⟩ = some (.slice A ps.length c) := bT2.cell 0 rfl
          have ct1 : w2.cell? ⟨w.heap.size, 1, none⟩ = some (.int .i64 cl) := bT2.cell 1 rfl
          have ct2 : w2.cell? ⟨w.heap.size, 2, none⟩ = some (.int .i64 lo) := bT2.cell 2 rfl
          have ct3 : w2.cell? ⟨w.heap.size, 3, none⟩ = some (.int .i64 hi) := bT2.cell 3 rfl
          have lT2 := bT2.lt
          have cx0 : w2.cell? ⟨w.heap.size + 1, 0, none⟩ = some (.int .i64 xa) := bX2.cell 0 rfl
          have cx1 : w2.cell? ⟨w.heap.size + 1, 1, none⟩ = some (.int .i64 xb) := bX2.cell 1 rfl
          have cx2 : w2.cell? ⟨w.heap.size + 1, 2, none⟩ = some (.int .i64 xp) := bX2.cell 2 rfl
          have cx3 : w2.cell? ⟨w.heap.size + 1, 3, none⟩ = some (.int .i64 xq) := bX2.cell 3 rfl
          have lX2 := bX2.lt
          go_wp2_with fail
          refine (HWK.out _).mono ?_
          rintro e wz ⟨rfl, hbz⟩
          have hBz := hB2.trans (hbz.mono hB2.size)
          go_wp2_with fail
          go_returns
          exact ⟨rfl, hBz⟩
        · have f3 : decide (320000 < xa) = false := decide_eq_false g3
          have f4 : decide (320000 < xb) = true := decide_eq_true (by omega)
          clear h2 g1 g2 g3
          go_enter Try.func9, Try.ntmps9
          go_wp2_with fail
          have bT1 := (BoxS.new w 26 #[.slice A ps.length c, .int .i64 cl, .int .i64 lo, .int .i64 hi]).alloc (.cells #[.int .i64 xa, .int .i64 xb, .int .i64 xp, .int .i64 xq] 60)
          have bX1 := BoxS.new (w.alloc (.cells #[.slice A ps.length c, .int .i64 cl, .int .i64 lo, .int .i64 hi] 26)) 60 #[.int .i64 xa, .int .i64 xb, .int .i64 xp, .int .i64 xq]
          rw [World.size_alloc] at bX1
          have hB1 : Below w.heap.size w ((w.alloc (.cells #[.slice A ps.length c, .int .i64 cl, .int .i64 lo, .int .i64 hi] 26)).alloc (.cells #[.int .i64 xa, .int .i64 xb, .int .i64 xp, .int .i64 xq] 60)) := by (repeat' (first | (with_reducible exact Below.refl _ _) | (with_reducible assumption) | (with_reducible refine Below.alloc ?_ ?_ _) | (with_reducible refine Below.drew ?_) | (with_reducible refine Below.setCell ?_ ?_ _) | go_size | (exact (by simp)) | omega))
          generalize World.alloc (World.alloc w _) _ = w1 at *
          have ct0 : w1.cell? ⟨w.heap.size, 0, none⟩ = some (.slice A ps.length c) := bT1.cell 0 rfl
          have ct1 : w1.cell? ⟨w.heap.size, 1, none⟩ = some (.int .i64 cl) := bT1.cell 1 rfl
          have ct2 : w1.cell? ⟨w.heap.size, 2, none⟩ = some (.int .i64 lo) := bT1.cell 2 rfl
          have ct3 : w1.cell? ⟨w.heap.size, 3, none⟩ = some (.int .i64 hi) := bT1.cell 3 rfl
          have lT1 := bT1.lt
          have cx0 : w1.cell? ⟨w.heap.size + 1, 0, none⟩ = some (.int .i64 xa) := bX1.cell 0 rfl
          have cx1 : w1.cell? ⟨w.heap.size + 1, 1, none⟩ = some (.int .i64 xb) := bX1.cell 1 rfl
          have cx2 : w1.cell? ⟨w.heap.size + 1, 2, none⟩ = some (.int .i64 xp) := bX1.cell 2 rfl
          have cx3 : w1.cell? ⟨w.heap.size + 1, 3, none⟩ = some (.int .i64 xq) := bX1.cell 3 rfl
          have lX1 := bX1.lt
          try go_wp2_with fail
          refine (HRD.out _ hB1).mono ?_
          rintro e w2 ⟨rfl, hb2⟩
          have bT2 := bT1.below hb2
          have bX2 := bX1.below hb2
          have hB2 := hB1.trans (hb2.mono hB1.size)
          clear ct0 ct1 ct2 ct3 lT1 cx0 cx1 cx2 cx3 lX1 bT1 bX1 hB1 hb2
          have ct0 : w2.cell? ⟨w.heap.size, 0, none⟩ = some (.slice A ps.length c) := bT2.cell 0 rfl
          have ct1 : w2.cell? ⟨w.heap.size, 1, none⟩ = some (.int .i64 cl) := bT2.cell 1 rfl
          have ct2 : w2.cell? ⟨w.heap.size, 2, none⟩ = some (.int .i64 lo) := bT2.cell 2 rfl
          have ct3 : w2.cell? ⟨w.heap.size, 3, none⟩ = some (.int .i64 hi) := bT2.cell 3 rfl
          have lT2 := bT2.lt
          have cx0 : w2.cell? ⟨w.heap.size + 1, 0, none⟩ = some (.int .i64 xa) := bX2.cell 0 rfl
          have cx1 : w2.cell? ⟨w.heap.size + 1, 1, none⟩ = some (.int .i64 xb) := bX2.cell 1 rfl
          have cx2 : w2.cell? ⟨w.heap.size + 1, 2, none⟩ = some (.int .i64 xp) := bX2.cell 2 rfl
          have cx3 : w2.cell? ⟨w.heap.size + 1, 3, none⟩ = some (.int .i64 xq) := bX2.cell 3 rfl
          have lX2 := bX2.lt
          go_wp2_with fail
          refine (HWK.out _).mono ?_
          rintro e wz ⟨rfl, hbz⟩
          have hBz := hB2.trans (hbz.mono hB2.size)
          go_wp2_with fail
          go_returns
          exact ⟨rfl, hBz⟩
set_option maxRecDepth 100000 in
set_option maxHeartbeats 16000000 in
theorem Mo_short (t : Wl.Trk) (ws : List Wl.Pt) (xa xb xp xq : Int) (A Aw : Option Addr) (c cw : Nat) (w : World) (hP : Prs w w.heap.size A t.ps) (hQ : Prs w w.heap.size Aw ws) (h : Wl.readyB t ws = true) (h1 : 0 ≤ xa) (h2 : 0 ≤ xb) (h3 : xa ≤ 320000) (h4 : xb ≤ 320000) :
    Calls Try.prog 9 #[.agg (trV t A c), .slice Aw ws.length cw, .agg #[.int .i64 xa, .int .i64 xb, .int .i64 xp, .int .i64 xq]] w fun e w' => e = .returned (.bool true) ∧ Below w.heap.size w w' := by
  have HWK : Hid (∀ W, Calls Try.prog 12 #[] W fun e w' => e = .returned (.bool true) ∧ Below W.heap.size W w') := works5_any
  obtain ⟨l5, m5, hck⟩ := Wl.ready_lens h
  have HRD : Hid (∀ W, Below w.heap.size w W → Calls Try.prog 42 #[.agg (trV t A c), .slice Aw ws.length cw] W fun e w' => e = .returned (.bool true) ∧ Below W.heap.size W w') := fun W hW => by
    have := ready5_any t ws A Aw c cw W (prs_keep hP hW) (prs_keep hQ hW)
    rw [h] at this
    exact this
  have HMW : Hid (∀ W, Below w.heap.size w W → Calls Try.prog 29 #[.agg (trV t A c), .slice Aw ws.length cw] W (TwoPost (if Wl.setE t ws = 0 then ((Wl.elbsL t ws).length : Int) else 0) (Wl.setE t ws) W)) := fun W hW => ManyW_any t ws A Aw c cw (by omega) (by omega) W (prs_keep hP hW) (prs_keep hQ hW)
  have HST : Hid (∀ W, Below w.heap.size w W → Calls Try.prog 20 #[.agg (trV t A c), .slice Aw ws.length cw] W (IntsEPost (Wl.stkL t ws) 0 W)) := fun W hW => by
    have := StuckW_any t ws A Aw c cw (by omega) (by omega) W (prs_keep hP hW) (prs_keep hQ hW)
    rw [hck] at this
    exact this
  have HCP : Hid (∀ W, Below w.heap.size w W → Calls Try.prog 13 #[.agg (trV t A c)] W (Copy5Post t W)) := fun W hW => Copy5_own t A c (by omega) W (prs_keep hP hW)
  have HKN : Hid (∀ (e : Int) W, Calls Try.prog 38 #[.int .i64 e] W fun x w' => x = .returned (.bool (decide (e = 0) || decide (e = 3))) ∧ w' = W) := isKnown5_any
  obtain ⟨htr, hwv⟩ := Wl.chk_yes.1 hck
  have hw0 := Wl.pts_posM hwv
  have HSE : Hid (Wl.setE t ws = 0 ∨ Wl.setE t ws = 3) := by
    unfold Hid Wl.setE
    rw [if_pos hck]
    split
    · exact .inr rfl
    · exact .inl rfl
  have HSL : Hid ((Wl.stkL t ws).length ≤ ws.length) := by
    unfold Hid Wl.stkL
    rw [if_pos hck]
    exact Wl.stkTo_len t ws _
  have HSN : Hid (Wl.setE t ws = 0 → Wl.stkL t ws = []) := fun h0 => by
    unfold Wl.stkL
    rw [if_pos hck]
    exact Wl.stk_none (Wl.setE_yes h0).2 hw0 _ (Nat.le_refl _)
  have f1 : decide (xa < 0) = false := decide_eq_false (by omega)
  have f2 : decide (xb < 0) = false := decide_eq_false (by omega)
  have f3 : decide (320000 < xa) = false := decide_eq_false (by omega)
  have f4 : decide (320000 < xb) = false := decide_eq_false (by omega)
  obtain ⟨ar1, ar2, ar3⟩ := Wl.trk_arm htr
  have hn8 := (Wl.trk_parts htr).2.2.2
  obtain ⟨lo', hlo'⟩ : ∃ lo', (0 < t.lo - xa ∧ lo' = t.lo - xa) ∨ (t.lo - xa ≤ 0 ∧ lo' = 0) := by
    by_cases g : 0 < t.lo - xa
    · exact ⟨_, .inl ⟨g, rfl⟩⟩
    · exact ⟨_, .inr ⟨by omega, rfl⟩⟩
  obtain ⟨hi', hhi'⟩ : ∃ hi', (t.hi + xb < 320000 ∧ hi' = t.hi + xb) ∨ (320000 ≤ t.hi + xb ∧ hi' = 320000) := by
    by_cases g : t.hi + xb < 320000
    · exact ⟨_, .inl ⟨g, rfl⟩⟩
    · exact ⟨_, .inr ⟨by omega, rfl⟩⟩
  have hww : Wl.trkB ⟨t.ps, t.cl, lo', hi'⟩ = true := Wl.trk_wide htr (by omega) (by omega) (by omega)
  have hiw : Wl.Incl t ⟨t.ps, t.cl, lo', hi'⟩ ws := Wl.incl_wide (by omega) (by omega)
  have hwr1 : IntKind.i64.wrap (t.lo - xa) = t.lo - xa := IntWalk.i64_in _ (by omega)
  have hwr2 : IntKind.i64.wrap (t.hi + xb) = t.hi + xb := IntWalk.i64_in _ (by omega)
  unfold TwoPost at HMW
  unfold IntsEPost at HST
  unfold Copy5Post at HCP
  rcases HSE.out with hse | hse
  · skip
    have hs0 := (Wl.setE_yes hse).2
    have HHW : Hid (∀ (A' : Option Addr) (c' : Nat) (W : World), Below w.heap.size w W → Prs W W.heap.size A' t.ps → Calls Try.prog 46 #[.agg (trV t A c), .agg #[.slice A' t.ps.length c', .int .i64 t.cl, .int .i64 lo', .int .i64 hi'], .slice Aw ws.length cw] W fun e w' => e = .returned (.bool true) ∧ Below W.heap.size W w') := fun A' c' W hW h' =>
      holds5_any t ⟨t.ps, t.cl, lo', hi'⟩ ws A A' Aw c c' cw l5 l5 m5 hse (Wl.set_of (Wl.chk_yes.2 ⟨hww, hwv⟩) (Wl.incl_ne hw0 hiw hs0)) hiw W (prs_keep hP hW) h' (prs_keep hQ hW)
    have HRL : Hid (∀ (A' : Option Addr) (c' : Nat) (W : World), Below w.heap.size w W → Prs W W.heap.size A' (t.ps ++ [(xp, xq)]) → Calls Try.prog 42 #[.agg #[.slice A' (t.ps.length + 1) c', .int .i64 t.cl, .int .i64 t.lo, .int .i64 t.hi], .slice Aw ws.length cw] W fun e w' => e = .returned (.bool (Wl.readyB ⟨t.ps ++ [(xp, xq)], t.cl, t.lo, t.hi⟩ ws)) ∧ Below W.heap.size W w') := fun A' c' W hW h' => by
      have := ready5_any ⟨t.ps ++ [(xp, xq)], t.cl, t.lo, t.hi⟩ ws A' Aw c' cw W h' (prs_keep hQ hW)
      unfold trV at this
      rw [show (⟨t.ps ++ [(xp, xq)], t.cl, t.lo, t.hi⟩ : Wl.Trk).ps.length = t.ps.length + 1 by simp] at this
      exact this
    have HHL : Hid (Wl.readyB ⟨t.ps ++ [(xp, xq)], t.cl, t.lo, t.hi⟩ ws = true → t.cl ≠ 1 → ∀ (A' : Option Addr) (c' : Nat) (W : World), Below w.heap.size w W → Prs W W.heap.size A' (t.ps ++ [(xp, xq)]) → Calls Try.prog 46 #[.agg (trV t A c), .agg #[.slice A' (t.ps.length + 1) c', .int .i64 t.cl, .int .i64 t.lo, .int .i64 t.hi], .slice Aw ws.length cw] W fun e w' => e = .returned (.bool true) ∧ Below W.heap.size W w') := fun hr hc A' c' W hW h' => by
      obtain ⟨k1, k2, k3⟩ := Wl.ready_lens hr
      have hil : Wl.Incl t ⟨t.ps ++ [(xp, xq)], t.cl, t.lo, t.hi⟩ ws := Wl.incl_long hw0 hc
      have := holds5_any t ⟨t.ps ++ [(xp, xq)], t.cl, t.lo, t.hi⟩ ws A A' Aw c c' cw l5 k1 m5 hse (Wl.set_of k3 (Wl.incl_ne hw0 hil hs0)) hil W (prs_keep hP hW) h' (prs_keep hQ hW)
      unfold trV at this ⊢
      rw [show (⟨t.ps ++ [(xp, xq)], t.cl, t.lo, t.hi⟩ : Wl.Trk).ps.length = t.ps.length + 1 by simp] at this
      exact this
    generalize Wl.readyB ⟨t.ps ++ [(xp, xq)], t.cl, t.lo, t.hi⟩ ws = RL at *
    rw [hse] at HMW
    rw [if_pos rfl] at HMW
    rw [HSN.out hse] at HST
    generalize ((Wl.elbsL t ws).length : Int) = MV at *
    clear hP hQ h HSE HSL HSN hse hck htr hwv hw0 hww hiw hs0
    obtain ⟨ps, cl, lo, hi⟩ := t
    unfold trV at *
    dsimp only at *
    go_enter Try.func9, Try.ntmps9
    go_wp2_with fail
    have bT1 := (BoxS.new w 26 #[.slice A ps.length c, .int .i64 cl, .int .i64 lo, .int .i64 hi]).alloc (.cells #[.int .i64 xa, .int .i64 xb, .int .i64 xp, .int .i64 xq] 60)
    have bX1 := BoxS.new (w.alloc (.cells #[.slice A ps.length c, .int .i64 cl, .int .i64 lo, .int .i64 hi] 26)) 60 #[.int .i64 xa, .int .i64 xb, .int .i64 xp, .int .i64 xq]
    rw [World.size_alloc] at bX1
    have hB1 : Below w.heap.size w ((w.alloc (.cells #[.slice A ps.length c, .int .i64 cl, .int .i64 lo, .int .i64 hi] 26)).alloc (.cells #[.int .i64 xa, .int .i64 xb, .int .i64 xp, .int .i64 xq] 60)) := by (repeat' (first | (with_reducible exact Below.refl _ _) | (with_reducible assumption) | (with_reducible refine Below.alloc ?_ ?_ _) | (with_reducible refine Below.drew ?_) | (with_reducible refine Below.setCell ?_ ?_ _) | go_size | (exact (by simp)) | omega))
    generalize World.alloc (World.alloc w _) _ = w1 at *
    have ct0 : w1.cell? ⟨w.heap.size, 0, none⟩ = some (.slice A ps.length c) := bT1.cell 0 rfl
    have ct1 : w1.cell? ⟨w.heap.size, 1, none⟩ = some (.int .i64 cl) := bT1.cell 1 rfl
    have ct2 : w1.cell? ⟨w.heap.size, 2, none⟩ = some (.int .i64 lo) := bT1.cell 2 rfl
    have ct3 : w1.cell? ⟨w.heap.size, 3, none⟩ = some (.int .i64 hi) := bT1.cell 3 rfl
    have lT1 := bT1.lt
    have cx0 : w1.cell? ⟨w.heap.size + 1, 0, none⟩ = some (.int .i64 xa) := bX1.cell 0 rfl
    have cx1 : w1.cell? ⟨w.heap.size + 1, 1, none⟩ = some (.int .i64 xb) := bX1.cell 1 rfl
    have cx2 : w1.cell? ⟨w.heap.size + 1, 2, none⟩ = some (.int .i64 xp) := bX1.cell 2 rfl
    have cx3 : w1.cell? ⟨w.heap.size + 1, 3, none⟩ = some (.int .i64 xq) := bX1.cell 3 rfl
    have lX1 := bX1.lt
    try go_wp2_with fail
    refine (HRD.out _ hB1).mono ?_
    rintro e w2 ⟨rfl, hb2⟩
    have bT2 := bT1.below hb2
    have bX2 := bX1.below hb2
    have hB2 := hB1.trans (hb2.mono hB1.size)
    clear ct0 ct1 ct2 ct3 lT1 cx0 cx1 cx2 cx3 lX1 bT1 bX1 hB1 hb2
    have ct0 : w2.cell? ⟨w.heap.size, 0, none⟩ = some (.slice A ps.length c) := bT2.cell 0 rfl
    have ct1 : w2.cell? ⟨w.heap.size, 1, none⟩ = some (.int .i64 cl) := bT2.cell 1 rfl
    have ct2 : w2.cell? ⟨w.heap.size, 2, none⟩ = some (.int .i64 lo) := bT2.cell 2 rfl
    have ct3 : w2.cell? ⟨w.heap.size, 3, none⟩ = some (.int .i64 hi) := bT2.cell 3 rfl
    have lT2 := bT2.lt
    have cx0 : w2.cell? ⟨w.heap.size + 1, 0, none⟩ = some (.int .i64 xa) := bX2.cell 0 rfl
    have cx1 : w2.cell? ⟨w.heap.size + 1, 1, none⟩ = some (.int .i64 xb) := bX2.cell 1 rfl
    have cx2 : w2.cell? ⟨w.heap.size + 1, 2, none⟩ = some (.int .i64 xp) := bX2.cell 2 rfl
    have cx3 : w2.cell? ⟨w.heap.size + 1, 3, none⟩ = some (.int .i64 xq) := bX2.cell 3 rfl
    have lX2 := bX2.lt
    go_wp2_with fail
    refine (HMW.out _ hB2).mono ?_
    rintro e w3 ⟨rfl, hb3⟩
    have bT3 := bT2.below hb3
    have bX3 := bX2.below hb3
    have hB3 := hB2.trans (hb3.mono hB2.size)
    clear ct0 ct1 ct2 ct3 lT2 cx0 cx1 cx2 cx3 lX2 bT2 bX2 hB2 hb3
    have ct0 : w3.cell? ⟨w.heap.size, 0, none⟩ = some (.slice A ps.length c) := bT3.cell 0 rfl
    have ct1 : w3.cell? ⟨w.heap.size, 1, none⟩ = some (.int .i64 cl) := bT3.cell 1 rfl
    have ct2 : w3.cell? ⟨w.heap.size, 2, none⟩ = some (.int .i64 lo) := bT3.cell 2 rfl
    have ct3 : w3.cell? ⟨w.heap.size, 3, none⟩ = some (.int .i64 hi) := bT3.cell 3 rfl
    have lT3 := bT3.lt
    have cx0 : w3.cell? ⟨w.heap.size + 1, 0, none⟩ = some (.int .i64 xa) := bX3.cell 0 rfl
    have cx1 : w3.cell? ⟨w.heap.size + 1, 1, none⟩ = some (.int .i64 xb) := bX3.cell 1 rfl
    have cx2 : w3.cell? ⟨w.heap.size + 1, 2, none⟩ = some (.int .i64 xp) := bX3.cell 2 rfl
    have cx3 : w3.cell? ⟨w.heap.size + 1, 3, none⟩ = some (.int .i64 xq) := bX3.cell 3 rfl
    have lX3 := bX3.lt
    go_wp2_with fail
    refine (HST.out _ hB3).mono ?_
    rintro e w4 ⟨v4, rfl, hv4, hb4⟩
    obtain ⟨Asa, csa, rfl⟩ := ints_form hv4.out
    have bT4 := bT3.below hb4
    have bX4 := bX3.below hb4
    have hB4 := hB3.trans (hb4.mono hB3.size)
    clear ct0 ct1 ct2 ct3 lT3 cx0 cx1 cx2 cx3 lX3 bT3 bX3 hB3 hb4
    have sa4 : Hid (Ints w4 w4.heap.size (.slice Asa 0 csa) []) := hv4
    clear hv4
    have ct0 : w4.cell? ⟨w.heap.size, 0, none⟩ = some (.slice A ps.length c) := bT4.cell 0 rfl
    have ct1 : w4.cell? ⟨w.heap.size, 1, none⟩ = some (.int .i64 cl) := bT4.cell 1 rfl
    have ct2 : w4.cell? ⟨w.heap.size, 2, none⟩ = some (.int .i64 lo) := bT4.cell 2 rfl
    have ct3 : w4.cell? ⟨w.heap.size, 3, none⟩ = some (.int .i64 hi) := bT4.cell 3 rfl
    have lT4 := bT4.lt
    have cx0 : w4.cell? ⟨w.heap.size + 1, 0, none⟩ = some (.int .i64 xa) := bX4.cell 0 rfl
    have cx1 : w4.cell? ⟨w.heap.size + 1, 1, none⟩ = some (.int .i64 xb) := bX4.cell 1 rfl
    have cx2 : w4.cell? ⟨w.heap.size + 1, 2, none⟩ = some (.int .i64 xp) := bX4.cell 2 rfl
    have cx3 : w4.cell? ⟨w.heap.size + 1, 3, none⟩ = some (.int .i64 xq) := bX4.cell 3 rfl
    have lX4 := bX4.lt
    go_wp2_with fail
    refine (HKN.out _ _).mono ?_
    rintro e wq ⟨rfl, hq⟩
    have hq := hq.symm
    subst hq
    go_upto_region 7 with fail
    clear sa4
    refine (wpIn_wide (n := 4)).1 ?_
    have hmo : Try.prog.follows .mixedOrders = true := by kernel_rfl
    have q0 : Below w4.heap.size w4 w4.drew := (Below.refl _ _).drew
    have KC : Hid (∀ W', Below w4.heap.size w4 W' → W'.cell? ⟨w.heap.size, 0, none⟩ = some (.slice A ps.length c) ∧ W'.cell? ⟨w.heap.size, 1, none⟩ = some (.int .i64 cl) ∧ W'.cell? ⟨w.heap.size, 2, none⟩ = some (.int .i64 lo) ∧ W'.cell? ⟨w.heap.size, 3, none⟩ = some (.int .i64 hi)) := fun W' h => boxS4 (bT4.below h)
    obtain ⟨NB, hNB⟩ : ∃ n, n = w4.heap.size := ⟨_, rfl⟩
    have hle : NB ≤ w4.heap.size := Nat.le_of_eq hNB
    have hwN : w.heap.size ≤ NB := by rw [hNB]; exact hB4.size
    have hSN : w.heap.size < NB := by rw [hNB]; exact bT4.lt
    have hXN : w.heap.size + 1 < NB := by rw [hNB]; exact bX4.lt
    have HS : Hid (∀ W', Below NB w4 W' → BoxS W' w.heap.size 26 #[.slice A ps.length c, .int .i64 cl, .int .i64 lo, .int .i64 hi]) := fun W' h => bT4.below (by rw [hNB] at h; exact h)
    have HX : Hid (∀ W', Below NB w4 W' → BoxS W' (w.heap.size + 1) 60 #[.int .i64 xa, .int .i64 xb, .int .i64 xp, .int .i64 xq]) := fun W' h => bX4.below (by rw [hNB] at h; exact h)
    have HBW : Hid (∀ W', Below NB w4 W' → Below w.heap.size w W') := fun W' h => hB4.trans (h.mono hwN)
    rw [← hNB] at q0 KC
    refine wpIn_region_held (fun W' => Below NB w4 W') 60 hmo ?_
    refine wpHeldIn_take (i := 0) (v := ?_) (plain_of (by kernel_rfl)) rfl (by kernel_rfl) (fun _ _ _ h => h) (yieldsSoIn_of (by kernel_rfl) ?_ (fun _ => rfl)) q0 ?_; rotate_left; focus (intro wq hw; have kq := KC.out wq hw; clear hw; go_simp; try (with_reducible rfl))
    refine wpHeldIn_take (i := 2) (v := ?_) (plain_of (by kernel_rfl)) rfl (by kernel_rfl) (fun _ _ _ h => h) (yieldsSoIn_of (by kernel_rfl) ?_ (fun _ => rfl)) q0 ?_; rotate_left; focus (intro wq hw; have kq := KC.out wq hw; clear hw; go_simp; try (with_reducible rfl))
    clear ct0 ct1 ct2 ct3 lT4 cx0 cx1 cx2 cx3 lX4
    refine wpHeldIn_any [1, 3, 4, 5] [] (fun (a0 : Act) (s : Nat → Bool) (a : Act) (W : World) => ∃ (r1 r3 : Option (Option Addr × Nat)) (x4 x5 : Option Nat), s 1 = r1.isSome ∧ s 3 = r3.isSome ∧ s 4 = x4.isSome ∧ s 5 = x5.isSome ∧ a = ((((a0.put (some 74) (cpV5 ps.length cl lo hi r1)).put (some 76) (cpV5 ps.length cl lo hi r3)).put (some 11) (bxV5 x4)).put (some 12) (bxV5 x5)) ∧ Has W NB [cpT5 ps r1, cpT5 ps r3, bxT5 x4, bxT5 x5] ∧ Below NB w4 W) (done := #[true, true, true, true, true, true, false, false]) (f0 := 2) (by kernel_rfl) (by decide) (by kernel_rfl) (by kernel_rfl) (by kernel_rfl) ?_ ?_ ?_
    · refine ⟨none, none, none, none, rfl, rfl, rfl, rfl, by kernel_rfl, ⟨fun T hT => ?_, ?_⟩, q0⟩
      · simp [cpT5, bxT5] at hT
        subst hT
        trivial
      · simp [cpT5, bxT5, Thing.blk]
    · intro j o hj ho s a W1 hI hs _ K hK
      obtain ⟨r1, r3, x4, x5, e1, e3, e4, e5, rfl, hH, hBw⟩ := hI
      rcases (by simpa using hj : j = 1 ∨ j = 3 ∨ j = 4 ∨ j = 5) with rfl | rfl | rfl | rfl
      · obtain rfl := Option.some.inj ho
        obtain rfl : r1 = none := by cases r1 with | none => rfl | some _ => rw [hs] at e1; cases e1
        go_simp
        refine ⟨trivial, (callsIn_wide.2 (HCP.out _ (hB4.trans (hBw.mono hwN)))).mono ?_⟩
        rintro e w1 ⟨A1, c1, rfl, hO, hb⟩
        refine hK _ _ (hBw.trans (hb.mono (Nat.le_trans hle hBw.size))) ⟨some (A1, c1), r3, x4, x5, by simp [upd], by simpa [upd] using e3, by simpa [upd] using e4, by simpa [upd] using e5, by kernel_rfl, hH.fresh 0 rfl hb (Nat.le_refl _) hO.out (Nat.le_trans hle hBw.size), hBw.trans (hb.mono (Nat.le_trans hle hBw.size))⟩
      · obtain rfl := Option.some.inj ho
        obtain rfl : r3 = none := by cases r3 with | none => rfl | some _ => rw [hs] at e3; cases e3
        go_simp
        refine ⟨trivial, (callsIn_wide.2 (HCP.out _ (hB4.trans (hBw.mono hwN)))).mono ?_⟩
        rintro e w1 ⟨A1, c1, rfl, hO, hb⟩
        refine hK _ _ (hBw.trans (hb.mono (Nat.le_trans hle hBw.size))) ⟨r1, some (A1, c1), x4, x5, by simpa [upd] using e1, by simp [upd], by simpa [upd] using e4, by simpa [upd] using e5, by kernel_rfl, hH.fresh 1 rfl hb (Nat.le_refl _) hO.out (Nat.le_trans hle hBw.size), hBw.trans (hb.mono (Nat.le_trans hle hBw.size))⟩
      · obtain rfl := Option.some.inj ho
        obtain rfl : x4 = none := by cases x4 with | none => rfl | some _ => rw [hs] at e4; cases e4
        go_simp
        have hb : Below W1.heap.size W1 (W1.alloc (.cells #[.slice none 0 0, .int .i64 0, .int .i64 0, .int .i64 0] 26)) := (Below.refl _ _).alloc (Nat.le_refl _) _
        refine hK _ _ (hBw.trans (hb.mono (Nat.le_trans hle hBw.size))) ⟨r1, r3, some W1.heap.size, x5, by simpa [upd] using e1, by simpa [upd] using e3, by simp [upd], by simpa [upd] using e5, by kernel_rfl, hH.fresh 2 rfl hb (Nat.le_refl _) (show BoxS _ _ _ _ ∧ _ ≤ _ from ⟨BoxS.new W1 26 #[.slice none 0 0, .int .i64 0, .int .i64 0, .int .i64 0], Nat.le_refl _⟩) (Nat.le_trans hle hBw.size), hBw.trans (hb.mono (Nat.le_trans hle hBw.size))⟩
      · obtain rfl := Option.some.inj ho
        obtain rfl : x5 = none := by cases x5 with | none => rfl | some _ => rw [hs] at e5; cases e5
        go_simp
        have hb : Below W1.heap.size W1 (W1.alloc (.cells #[.slice none 0 0, .int .i64 0, .int .i64 0, .int .i64 0] 26)) := (Below.refl _ _).alloc (Nat.le_refl _) _
        refine hK _ _ (hBw.trans (hb.mono (Nat.le_trans hle hBw.size))) ⟨r1, r3, x4, some W1.heap.size, by simpa [upd] using e1, by simpa [upd] using e3, by simpa [upd] using e4, by simp [upd], by kernel_rfl, hH.fresh 3 rfl hb (Nat.le_refl _) (show BoxS _ _ _ _ ∧ _ ≤ _ from ⟨BoxS.new W1 26 #[.slice none 0 0, .int .i64 0, .int .i64 0, .int .i64 0], Nat.le_refl _⟩) (Nat.le_trans hle hBw.size), hBw.trans (hb.mono (Nat.le_trans hle hBw.size))⟩
    · intro s a W1 hall hI
      obtain ⟨r1, r3, x4, x5, e1, e3, e4, e5, rfl, hH, hBw⟩ := hI
      rw [hall 1 (by simp)] at e1
      rw [hall 3 (by simp)] at e3
      rw [hall 4 (by simp)] at e4
      rw [hall 5 (by simp)] at e5
      obtain ⟨⟨A3, c3⟩, rfl⟩ := Option.isSome_iff_exists.1 e1.symm
      obtain ⟨⟨A4, c4⟩, rfl⟩ := Option.isSome_iff_exists.1 e3.symm
      obtain ⟨BP, rfl⟩ := Option.isSome_iff_exists.1 e4.symm
      obtain ⟨BQ, rfl⟩ := Option.isSome_iff_exists.1 e5.symm
      clear e1 e3 e4 e5 hall HCP
      unfold cpV5 bxV5
      unfold cpT5 bxT5 at hH
      dsimp only at hH
      have hbx : BoxS W1 BP 26 #[.slice none 0 0, .int .i64 0, .int .i64 0, .int .i64 0] ∧ NB ≤ BP := hH.get 2 rfl
      obtain ⟨hbx, hNBx⟩ := hbx
      obtain ⟨o0, o1, o2, o3⟩ := boxS4 hbx
      have f0 := hbx.frozen 0
      have f1 := hbx.frozen 1
      have f2 := hbx.frozen 2
      have f3 := hbx.frozen 3
      refine wpHeldIn_one (i := 6) (by kernel_rfl) (by kernel_rfl) rfl (by kernel_rfl) (fun K' hK' => ?_)
      go_simp
      have qn : Below NB w4 ((((W1.setCell ⟨BP, 0, none⟩ (.slice A3 ps.length c3)).setCell ⟨BP, 1, none⟩ (.int .i64 cl)).setCell ⟨BP, 2, none⟩ (.int .i64 lo)).setCell ⟨BP, 3, none⟩ (.int .i64 hi)) := by (repeat' (first | (with_reducible exact Below.refl _ _) | (with_reducible assumption) | (with_reducible refine Below.alloc ?_ ?_ _) | (with_reducible refine Below.drew ?_) | (with_reducible refine Below.setCell ?_ ?_ _) | go_size | (exact (by simp)) | omega))
      refine hK' _ _ qn ?_
      clear hK' K' o0 o1 o2 o3 f0 f1 f2 f3 hbx hNBx hBw
      have hH2 : Has ((((W1.setCell ⟨BP, 0, none⟩ (.slice A3 ps.length c3)).setCell ⟨BP, 1, none⟩ (.int .i64 cl)).setCell ⟨BP, 2, none⟩ (.int .i64 lo)).setCell ⟨BP, 3, none⟩ (.int .i64 hi)) NB [.row (.slice A3 ps.length c3) 28 2 ps.length (flat ps), .row (.slice A4 ps.length c4) 28 2 ps.length (flat ps), .box BP 26 #[.slice A3 ps.length c3, .int .i64 cl, .int .i64 lo, .int .i64 hi], .box BQ 26 #[.slice none 0 0, .int .i64 0, .int .i64 0, .int .i64 0]] := hH.fourM 2 rfl (.slice A3 ps.length c3) (.int .i64 cl) (.int .i64 lo) (.int .i64 hi)
      have hH := hH2
      have hBw := qn
      clear hH2 qn
      generalize World.setCell (World.setCell (World.setCell (World.setCell W1 _ _) _ _) _ _) _ _ = W2 at *
      have hbx : BoxS W2 BQ 26 #[.slice none 0 0, .int .i64 0, .int .i64 0, .int .i64 0] ∧ NB ≤ BQ := hH.get 3 rfl
      obtain ⟨hbx, hNBx⟩ := hbx
      obtain ⟨o0, o1, o2, o3⟩ := boxS4 hbx
      have f0 := hbx.frozen 0
      have f1 := hbx.frozen 1
      have f2 := hbx.frozen 2
      have f3 := hbx.frozen 3
      refine wpHeldIn_one (i := 7) (by kernel_rfl) (by kernel_rfl) rfl (by kernel_rfl) (fun K' hK' => ?_)
      go_simp
      have qn : Below NB w4 ((((W2.setCell ⟨BQ, 0, none⟩ (.slice A4 ps.length c4)).setCell ⟨BQ, 1, none⟩ (.int .i64 cl)).setCell ⟨BQ, 2, none⟩ (.int .i64 lo)).setCell ⟨BQ, 3, none⟩ (.int .i64 hi)) := by (repeat' (first | (with_reducible exact Below.refl _ _) | (with_reducible assumption) | (with_reducible refine Below.alloc ?_ ?_ _) | (with_reducible refine Below.drew ?_) | (with_reducible refine Below.setCell ?_ ?_ _) | go_size | (exact (by simp)) | omega))
      refine hK' _ _ qn ?_
      clear hK' K' o0 o1 o2 o3 f0 f1 f2 f3 hbx hNBx hBw
      have hH2 : Has ((((W2.setCell ⟨BQ, 0, none⟩ (.slice A4 ps.length c4)).setCell ⟨BQ, 1, none⟩ (.int .i64 cl)).setCell ⟨BQ, 2, none⟩ (.int .i64 lo)).setCell ⟨BQ, 3, none⟩ (.int .i64 hi)) NB [.row (.slice A3 ps.length c3) 28 2 ps.length (flat ps), .row (.slice A4 ps.length c4) 28 2 ps.length (flat ps), .box BP 26 #[.slice A3 ps.length c3, .int .i64 cl, .int .i64 lo, .int .i64 hi], .box BQ 26 #[.slice A4 ps.length c4, .int .i64 cl, .int .i64 lo, .int .i64 hi]] := hH.fourM 3 rfl (.slice A4 ps.length c4) (.int .i64 cl) (.int .i64 lo) (.int .i64 hi)
      have hH := hH2
      have hBw := qn
      clear hH2 qn
      generalize World.setCell (World.setCell (World.setCell (World.setCell W2 _ _) _ _) _ _) _ _ = W3 at *
      refine wpHeldIn_done (by kernel_rfl) ?_ _
      go_simp
      obtain ⟨wz, rfl⟩ : ∃ w, w = W3 := ⟨_, rfl⟩
      have hBN7 : Below NB w4 wz := hBw
      have hNz : NB ≤ wz.heap.size := Nat.le_trans hle hBN7.size
      have bT7 := HS.out _ hBN7
      have bX7 := HX.out _ hBN7
      clear hBw KC q0 bT4 bX4 hB4
      have hPb : BoxS wz BP 26 #[.slice A3 ps.length c3, .int .i64 cl, .int .i64 lo, .int .i64 hi] ∧ NB ≤ BP := hH.get 2 rfl
      have hQb : BoxS wz BQ 26 #[.slice A4 ps.length c4, .int .i64 cl, .int .i64 lo, .int .i64 hi] ∧ NB ≤ BQ := hH.get 3 rfl
      have hNP := hPb.2
      have hNQ := hQb.2
      obtain ⟨s0, s1, s2, s3⟩ := boxS4 bT7
      obtain ⟨x0, x1, x2, x3⟩ := boxS4 bX7
      obtain ⟨p0, p1, p2, p3⟩ := boxS4 hPb.1
      have lT7 := bT7.lt
      have lX7 := bX7.lt
      have lP7 := hPb.1.lt
      have pf2 := hPb.1.frozen 2
      have pf3 := hPb.1.frozen 3
      go_upto_region 8 with fail
      go_cut [83] from 77 to 92 (fun a wx => wx = (wz.setCell ⟨BP, 2, none⟩ (.int .i64 lo')).setCell ⟨BP, 3, none⟩ (.int .i64 hi'))
      case first => as_aux_lemma =>
        rcases hlo' with ⟨g1, rfl⟩ | ⟨g1, rfl⟩ <;> rcases hhi' with ⟨g2, rfl⟩ | ⟨g2, rfl⟩
        all_goals go_wp2_with fail
        all_goals first
          | (exfalso; omega)
          | (go_meet; first | rfl | (congr 3 <;> omega))
      case rest =>
      subst hcut
      have hH8 : Has ((wz.setCell ⟨BP, 2, none⟩ (.int .i64 lo')).setCell ⟨BP, 3, none⟩ (.int .i64 hi')) NB [.row (.slice A3 ps.length c3) 28 2 ps.length (flat ps), .row (.slice A4 ps.length c4) 28 2 ps.length (flat ps), .box BP 26 #[.slice A3 ps.length c3, .int .i64 cl, .int .i64 lo', .int .i64 hi'], .box BQ 26 #[.slice A4 ps.length c4, .int .i64 cl, .int .i64 lo, .int .i64 hi]] := (hH.putM 2 rfl 2 (.int .i64 lo')).putM 2 rfl 3 (.int .i64 hi')
      have hB8 : Below NB w4 ((wz.setCell ⟨BP, 2, none⟩ (.int .i64 lo')).setCell ⟨BP, 3, none⟩ (.int .i64 hi')) := by have := hBN7; (repeat' (first | (with_reducible exact Below.refl _ _) | (with_reducible assumption) | (with_reducible refine Below.alloc ?_ ?_ _) | (with_reducible refine Below.drew ?_) | (with_reducible refine Below.setCell ?_ ?_ _) | go_size | (exact (by simp)) | omega))
      clear hPb hQb p0 p1 p2 p3 pf2 pf3 s0 s1 s2 s3 x0 x1 x2 x3 lT7 lX7 lP7 hBN7 hH hNz bT7 bX7 hlo' hhi' hwr1 hwr2
      generalize World.setCell (World.setCell wz _ _) _ _ = w8 at *
      have hNz : NB ≤ w8.heap.size := Nat.le_trans hle hB8.size
      have bX8 := HX.out _ hB8
      have hQb : BoxS w8 BQ 26 #[.slice A4 ps.length c4, .int .i64 cl, .int .i64 lo, .int .i64 hi] ∧ NB ≤ BQ := hH8.get 3 rfl
      obtain ⟨x0, x1, x2, x3⟩ := boxS4 bX8
      obtain ⟨p0, p1, p2, p3⟩ := boxS4 hQb.1
      have pf0 := hQb.1.frozen 0
      have lX8 := bX8.lt
      have lQ8 := hQb.1.lt
      have hrB : Hid (w8.ownsRow NB 28 2 (.slice A4 ps.length c4) ps.length (flat ps)) := hH8.get 1 rfl
      go_upto_region 10 with (at_builtin; go_must (refine wpList_pushpt rfl (.tmp 94) (.tmp 97) rfl (xp, xq) NB _ ps.length (flat ps) rfl rfl hrB.out hNz (by omega) ?_; intro v' w9 hown9 hgr9 hfr9; (obtain ⟨A6, c6, rfl⟩ := own_formP hown9); (have hH9 : Has w9 NB [.row (.slice A3 ps.length c3) 28 2 ps.length (flat ps), .row (.slice A6 (ps.length + 1) c6) 28 2 (ps.length + 1) (flat ps ++ flat [(xp, xq)]), .box BP 26 #[.slice A3 ps.length c3, .int .i64 cl, .int .i64 lo', .int .i64 hi'], .box BQ 26 #[.slice A4 ps.length c4, .int .i64 cl, .int .i64 lo, .int .i64 hi]] := hH8.change 1 rfl hgr9 (fun g e => e) hown9 hfr9); (have hB9 : Below NB w4 w9 := hB8.trans (below_of_grownM hgr9 hNz (fun g e => (Thing.lt (hH8.get 1 rfl) e).1))); clear hown9 hgr9 hfr9 p0 p1 p2 p3 pf0; (obtain ⟨p0, p1, p2, p3⟩ := boxS4 (hH9.get 3 rfl : BoxS w9 BQ 26 #[.slice A4 ps.length c4, .int .i64 cl, .int .i64 lo, .int .i64 hi] ∧ NB ≤ BQ).1); (have pf0 := (hH9.get 3 rfl : BoxS w9 BQ 26 #[.slice A4 ps.length c4, .int .i64 cl, .int .i64 lo, .int .i64 hi] ∧ NB ≤ BQ).1.frozen 0)))
      have hHn : Has (w9.setCell ⟨BQ, 0, none⟩ (.slice A6 (ps.length + 1) c6)) NB [.row (.slice A3 ps.length c3) 28 2 ps.length (flat ps), .row (.slice A6 (ps.length + 1) c6) 28 2 (ps.length + 1) (flat ps ++ flat [(xp, xq)]), .box BP 26 #[.slice A3 ps.length c3, .int .i64 cl, .int .i64 lo', .int .i64 hi'], .box BQ 26 #[.slice A6 (ps.length + 1) c6, .int .i64 cl, .int .i64 lo, .int .i64 hi]] := hH9.putM 3 rfl 0 (.slice A6 (ps.length + 1) c6)
      have hBn : Below NB w4 (w9.setCell ⟨BQ, 0, none⟩ (.slice A6 (ps.length + 1) c6)) := by have := hB9; (repeat' (first | (with_reducible exact Below.refl _ _) | (with_reducible assumption) | (with_reducible refine Below.alloc ?_ ?_ _) | (with_reducible refine Below.drew ?_) | (with_reducible refine Below.setCell ?_ ?_ _) | go_size | (exact (by simp)) | omega))
      clear hH9 hB9 p0 p1 p2 p3 pf0 hrB hH8 hQb x0 x1 x2 x3 lX8 lQ8 bX8 hNz hB8
      generalize World.setCell w9 _ _ = wy at *
      have bT9 := HS.out _ hBn
      have hBw9 := HBW.out _ hBn
      have bP9 : BoxS wy BP 26 #[.slice A3 ps.length c3, .int .i64 cl, .int .i64 lo', .int .i64 hi'] := (hHn.get 2 rfl : BoxS wy BP 26 #[.slice A3 ps.length c3, .int .i64 cl, .int .i64 lo', .int .i64 hi'] ∧ NB ≤ BP).1
      have bQ9 : BoxS wy BQ 26 #[.slice A6 (ps.length + 1) c6, .int .i64 cl, .int .i64 lo, .int .i64 hi] := (hHn.get 3 rfl : BoxS wy BQ 26 #[.slice A6 (ps.length + 1) c6, .int .i64 cl, .int .i64 lo, .int .i64 hi] ∧ NB ≤ BQ).1
      have hPa : Hid (Prs wy wy.heap.size A3 ps) := prsP_of_own (hHn.get 0 rfl : wy.ownsRow NB 28 2 (.slice A3 ps.length c3) ps.length (flat ps))
      have hPq : Hid (Prs wy wy.heap.size A6 (ps ++ [(xp, xq)])) := by
        have h := (hHn.get 1 rfl : wy.ownsRow NB 28 2 (.slice A6 (ps.length + 1) c6) (ps.length + 1) (flat ps ++ flat [(xp, xq)]))
        rw [← flat_append] at h
        have e : ps.length + 1 = (ps ++ [(xp, xq)]).length := by simp
        rw [e] at h
        exact prsP_of_own h
      clear hHn hBn HS HX HBW hNP hNQ hSN hXN hNB hle hwN
      obtain ⟨w10, rfl⟩ : ∃ w10, w10 = wy := ⟨_, rfl⟩
      have bT10 := bT9
      have bP10 := bP9
      have bQ10 := bQ9
      have hB10 := hBw9
      clear bT9 bP9 bQ9 hBw9
      have pa10 := hPa
      have pq10 := hPq
      clear hPa hPq
      have ct0 : w10.cell? ⟨w.heap.size, 0, none⟩ = some (.slice A ps.length c) := bT10.cell 0 rfl
      have ct1 : w10.cell? ⟨w.heap.size, 1, none⟩ = some (.int .i64 cl) := bT10.cell 1 rfl
      have ct2 : w10.cell? ⟨w.heap.size, 2, none⟩ = some (.int .i64 lo) := bT10.cell 2 rfl
      have ct3 : w10.cell? ⟨w.heap.size, 3, none⟩ = some (.int .i64 hi) := bT10.cell 3 rfl
      have lT10 := bT10.lt
      have cp0 : w10.cell? ⟨BP, 0, none⟩ = some (.slice A3 ps.length c3) := bP10.cell 0 rfl
      have cp1 : w10.cell? ⟨BP, 1, none⟩ = some (.int .i64 cl) := bP10.cell 1 rfl
      have cp2 : w10.cell? ⟨BP, 2, none⟩ = some (.int .i64 lo') := bP10.cell 2 rfl
      have cp3 : w10.cell? ⟨BP, 3, none⟩ = some (.int .i64 hi') := bP10.cell 3 rfl
      have lP10 := bP10.lt
      have cq0 : w10.cell? ⟨BQ, 0, none⟩ = some (.slice A6 (ps.length + 1) c6) := bQ10.cell 0 rfl
      have cq1 : w10.cell? ⟨BQ, 1, none⟩ = some (.int .i64 cl) := bQ10.cell 1 rfl
      have cq2 : w10.cell? ⟨BQ, 2, none⟩ = some (.int .i64 lo) := bQ10.cell 2 rfl
      have cq3 : w10.cell? ⟨BQ, 3, none⟩ = some (.int .i64 hi) := bQ10.cell 3 rfl
      have lQ10 := bQ10.lt
      by_cases hc1 : cl = 1
      · have hcb : (cl == 1) = true := by simpa using hc1
        clear HHL HRL hc1
        go_wp2_with fail
        refine (HHW.out _ _ _ hB10 pa10.out).mono ?_
        rintro e w11 ⟨rfl, hb11⟩
        have bT11 := bT10.below hb11
        have bP11 := bP10.below hb11
        have bQ11 := bQ10.below hb11
        have hB11 := hB10.trans (hb11.mono hB10.size)
        have pa11 : Hid (Prs w11 w11.heap.size A3 ps) := (pa10.out.keep hb11).wider hb11.size
        have pq11 : Hid (Prs w11 w11.heap.size A6 (ps ++ [(xp, xq)])) := (pq10.out.keep hb11).wider hb11.size
        clear ct0 ct1 ct2 ct3 lT10 cp0 cp1 cp2 cp3 lP10 cq0 cq1 cq2 cq3 lQ10 bT10 bP10 bQ10 pa10 pq10 hB10 hb11
        have ct0 : w11.cell? ⟨w.heap.size, 0, none⟩ = some (.slice A ps.length c) := bT11.cell 0 rfl
        have ct1 : w11.cell? ⟨w.heap.size, 1, none⟩ = some (.int .i64 cl) := bT11.cell 1 rfl
        have ct2 : w11.cell? ⟨w.heap.size, 2, none⟩ = some (.int .i64 lo) := bT11.cell 2 rfl
        have ct3 : w11.cell? ⟨w.heap.size, 3, none⟩ = some (.int .i64 hi) := bT11.cell 3 rfl
        have lT11 := bT11.lt
        have cp0 : w11.cell? ⟨BP, 0, none⟩ = some (.slice A3 ps.length c3) := bP11.cell 0 rfl
        have cp1 : w11.cell? ⟨BP, 1, none⟩ = some (.int .i64 cl) := bP11.cell 1 rfl
        have cp2 : w11.cell? ⟨BP, 2, none⟩ = some (.int .i64 lo') := bP11.cell 2 rfl
        have cp3 : w11.cell? ⟨BP, 3, none⟩ = some (.int .i64 hi') := bP11.cell 3 rfl
        have lP11 := bP11.lt
        have cq0 : w11.cell? ⟨BQ, 0, none⟩ = some (.slice A6 (ps.length + 1) c6) := bQ11.cell 0 rfl
        have cq1 : w11.cell? ⟨BQ, 1, none⟩ = some (.int .i64 cl) := bQ11.cell 1 rfl
        have cq2 : w11.cell? ⟨BQ, 2, none⟩ = some (.int .i64 lo) := bQ11.cell 2 rfl
        have cq3 : w11.cell? ⟨BQ, 3, none⟩ = some (.int .i64 hi) := bQ11.cell 3 rfl
        have lQ11 := bQ11.lt
        go_wp2_with fail
        refine (HWK.out _).mono ?_
        rintro e wz ⟨rfl, hbz⟩
        have hBz := hB11.trans (hbz.mono hB11.size)
        go_wp2_with fail
        go_returns
        exact ⟨rfl, hBz⟩
      · have hcb : (cl == 1) = false := by simpa using hc1
        cases RL
        · clear HHL hc1
          go_wp2_with fail
          refine (HHW.out _ _ _ hB10 pa10.out).mono ?_
          rintro e w11 ⟨rfl, hb11⟩
          have bT11 := bT10.below hb11
          have bP11 := bP10.below hb11
          have bQ11 := bQ10.below hb11
          have hB11 := hB10.trans (hb11.mono hB10.size)
          have pa11 : Hid (Prs w11 w11.heap.size A3 ps) := (pa10.out.keep hb11).wider hb11.size
          have pq11 : Hid (Prs w11 w11.heap.size A6 (ps ++ [(xp, xq)])) := (pq10.out.keep hb11).wider hb11.size
          clear ct0 ct1 ct2 ct3 lT10 cp0 cp1 cp2 cp3 lP10 cq0 cq1 cq2 cq3 lQ10 bT10 bP10 bQ10 pa10 pq10 hB10 hb11
          have ct0 : w11.cell? ⟨w.heap.size, 0, none⟩ = some (.slice A ps.length c) := bT11.cell 0 rfl
          have ct1 : w11.cell? ⟨w.heap.size, 1, none⟩ = some (.int .i64 cl) := bT11.cell 1 rfl
          have ct2 : w11.cell? ⟨w.heap.size, 2, none⟩ = some (.int .i64 lo) := bT11.cell 2 rfl
          have ct3 : w11.cell? ⟨w.heap.size, 3, none⟩ = some (.int .i64 hi) := bT11.cell 3 rfl
          have lT11 := bT11.lt
          have cp0 : w11.cell? ⟨BP, 0, none⟩ = some (.slice A3 ps.length c3) := bP11.cell 0 rfl
          have cp1 : w11.cell? ⟨BP, 1, none⟩ = some (.int .i64 cl) := bP11.cell 1 rfl
          have cp2 : w11.cell? ⟨BP, 2, none⟩ = some (.int .i64 lo') := bP11.cell 2 rfl
          have cp3 : w11.cell? ⟨BP, 3, none⟩ = some (.int .i64 hi') := bP11.cell 3 rfl
          have lP11 := bP11.lt
          have cq0 : w11.cell? ⟨BQ, 0, none⟩ = some (.slice A6 (ps.length + 1) c6) := bQ11.cell 0 rfl
          have cq1 : w11.cell? ⟨BQ, 1, none⟩ = some (.int .i64 cl) := bQ11.cell 1 rfl
          have cq2 : w11.cell? ⟨BQ, 2, none⟩ = some (.int .i64 lo) := bQ11.cell 2 rfl
          have cq3 : w11.cell? ⟨BQ, 3, none⟩ = some (.int .i64 hi) := bQ11.cell 3 rfl
          have lQ11 := bQ11.lt
          go_wp2_with fail
          refine (HRL.out _ _ _ hB11 pq11.out).mono ?_
          rintro e w12 ⟨rfl, hb12⟩
          have bT12 := bT11.below hb12
          have bP12 := bP11.below hb12
          have bQ12 := bQ11.below hb12
          have hB12 := hB11.trans (hb12.mono hB11.size)
          have pa12 : Hid (Prs w12 w12.heap.size A3 ps) := (pa11.out.keep hb12).wider hb12.size
          have pq12 : Hid (Prs w12 w12.heap.size A6 (ps ++ [(xp, xq)])) := (pq11.out.keep hb12).wider hb12.size
          clear ct0 ct1 ct2 ct3 lT11 cp0 cp1 cp2 cp3 lP11 cq0 cq1 cq2 cq3 lQ11 bT11 bP11 bQ11 pa11 pq11 hB11 hb12
          have ct0 : w12.cell? ⟨w.heap.size, 0, none⟩ = some (.slice A ps.length c) := bT12.cell 0 rfl
          have ct1 : w12.cell? ⟨w.heap.size, 1, none⟩ = some (.int .i64 cl) := bT12.cell 1 rfl
          have ct2 : w12.cell? ⟨w.heap.size, 2, none⟩ = some (.int .i64 lo) := bT12.cell 2 rfl
          have ct3 : w12.cell? ⟨w.heap.size, 3, none⟩ = some (.int .i64 hi) := bT12.cell 3 rfl
          have lT12 := bT12.lt
          have cp0 : w12.cell? ⟨BP, 0, none⟩ = some (.slice A3 ps.length c3) := bP12.cell 0 rfl
          have cp1 : w12.cell? ⟨BP, 1, none⟩ = some (.int .i64 cl) := bP12.cell 1 rfl
          have cp2 : w12.cell? ⟨BP, 2, none⟩ = some (.int .i64 lo') := bP12.cell 2 rfl
          have cp3 : w12.cell? ⟨BP, 3, none⟩ = some (.int .i64 hi') := bP12.cell 3 rfl
          have lP12 := bP12.lt
          have cq0 : w12.cell? ⟨BQ, 0, none⟩ = some (.slice A6 (ps.length + 1) c6) := bQ12.cell 0 rfl
          have cq1 : w12.cell? ⟨BQ, 1, none⟩ = some (.int .i64 cl) := bQ12.cell 1 rfl
          have cq2 : w12.cell? ⟨BQ, 2, none⟩ = some (.int .i64 lo) := bQ12.cell 2 rfl
          have cq3 : w12.cell? ⟨BQ, 3, none⟩ = some (.int .i64 hi) := bQ12.cell 3 rfl
          have lQ12 := bQ12.lt
          go_wp2_with fail
          refine (HWK.out _).mono ?_
          rintro e wz ⟨rfl, hbz⟩
          have hBz := hB12.trans (hbz.mono hB12.size)
          go_wp2_with fail
          go_returns
          exact ⟨rfl, hBz⟩
        · have HHL1 := Lib.hid (HHL.out rfl hc1)
          clear HHL hc1
          go_wp2_with fail
          refine (HHW.out _ _ _ hB10 pa10.out).mono ?_
          rintro e w11 ⟨rfl, hb11⟩
          have bT11 := bT10.below hb11
          have bP11 := bP10.below hb11
          have bQ11 := bQ10.below hb11
          have hB11 := hB10.trans (hb11.mono hB10.size)
          have pa11 : Hid (Prs w11 w11.heap.size A3 ps) := (pa10.out.keep hb11).wider hb11.size
          have pq11 : Hid (Prs w11 w11.heap.size A6 (ps ++ [(xp, xq)])) := (pq10.out.keep hb11).wider hb11.size
          clear ct0 ct1 ct2 ct3 lT10 cp0 cp1 cp2 cp3 lP10 cq0 cq1 cq2 cq3 lQ10 bT10 bP10 bQ10 pa10 pq10 hB10 hb11
          have ct0 : w11.cell? ⟨w.heap.size, 0, none⟩ = some (.slice A ps.length c) := bT11.cell 0 rfl
          have ct1 : w11.cell? ⟨w.heap.size, 1, none⟩ = some (.int .i64 cl) := bT11.cell 1 rfl
          have ct2 : w11.cell? ⟨w.heap.size, 2, none⟩ = some (.int .i64 lo) := bT11.cell 2 rfl
          have ct3 : w11.cell? ⟨w.heap.size, 3, none⟩ = some (.int .i64 hi) := bT11.cell 3 rfl
          have lT11 := bT11.lt
          have cp0 : w11.cell? ⟨BP, 0, none⟩ = some (.slice A3 ps.length c3) := bP11.cell 0 rfl
          have cp1 : w11.cell? ⟨BP, 1, none⟩ = some (.int .i64 cl) := bP11.cell 1 rfl
          have cp2 : w11.cell? ⟨BP, 2, none⟩ = some (.int .i64 lo') := bP11.cell 2 rfl
          have cp3 : w11.cell? ⟨BP, 3, none⟩ = some (.int .i64 hi') := bP11.cell 3 rfl
          have lP11 := bP11.lt
          have cq0 : w11.cell? ⟨BQ, 0, none⟩ = some (.slice A6 (ps.length + 1) c6) := bQ11.cell 0 rfl
          have cq1 : w11.cell? ⟨BQ, 1, none⟩ = some (.int .i64 cl) := bQ11.cell 1 rfl
          have cq2 : w11.cell? ⟨BQ, 2, none⟩ = some (.int .i64 lo) := bQ11.cell 2 rfl
          have cq3 : w11.cell? ⟨BQ, 3, none⟩ = some (.int .i64 hi) := bQ11.cell 3 rfl
          have lQ11 := bQ11.lt
          go_wp2_with fail
          refine (HRL.out _ _ _ hB11 pq11.out).mono ?_
          rintro e w12 ⟨rfl, hb12⟩
          have bT12 := bT11.below hb12
          have bP12 := bP11.below hb12
          have bQ12 := bQ11.below hb12
          have hB12 := hB11.trans (hb12.mono hB11.size)
          have pa12 : Hid (Prs w12 w12.heap.size A3 ps) := (pa11.out.keep hb12).wider hb12.size
          have pq12 : Hid (Prs w12 w12.heap.size A6 (ps ++ [(xp, xq)])) := (pq11.out.keep hb12).wider hb12.size
          clear ct0 ct1 ct2 ct3 lT11 cp0 cp1 cp2 cp3 lP11 cq0 cq1 cq2 cq3 lQ11 bT11 bP11 bQ11 pa11 pq11 hB11 hb12
          have ct0 : w12.cell? ⟨w.heap.size, 0, none⟩ = some (.slice A ps.length c) := bT12.cell 0 rfl
          have ct1 : w12.cell? ⟨w.heap.size, 1, none⟩ = some (.int .i64 cl) := bT12.cell 1 rfl
          have ct2 : w12.cell? ⟨w.heap.size, 2, none⟩ = some (.int .i64 lo) := bT12.cell 2 rfl
          have ct3 : w12.cell? ⟨w.heap.size, 3, none⟩ = some (.int .i64 hi) := bT12.cell 3 rfl
          have lT12 := bT12.lt
          have cp0 : w12.cell? ⟨BP, 0, none⟩ = some (.slice A3 ps.length c3) := bP12.cell 0 rfl
          have cp1 : w12.cell? ⟨BP, 1, none⟩ = some (.int .i64 cl) := bP12.cell 1 rfl
          have cp2 : w12.cell? ⟨BP, 2, none⟩ = some (.int .i64 lo') := bP12.cell 2 rfl
          have cp3 : w12.cell? ⟨BP, 3, none⟩ = some (.int .i64 hi') := bP12.cell 3 rfl
          have lP12 := bP12.lt
          have cq0 : w12.cell? ⟨BQ, 0, none⟩ = some (.slice A6 (ps.length + 1) c6) := bQ12.cell 0 rfl
          have cq1 : w12.cell? ⟨BQ, 1, none⟩ = some (.int .i64 cl) := bQ12.cell 1 rfl
          have cq2 : w12.cell? ⟨BQ, 2, none⟩ = some (.int .i64 lo) := bQ12.cell 2 rfl
          have cq3 : w12.cell? ⟨BQ, 3, none⟩ = some (.int .i64 hi) := bQ12.cell 3 rfl
          have lQ12 := bQ12.lt
          go_wp2_with fail
          refine (HHL1.out _ _ _ hB12 pq12.out).mono ?_
          rintro e w13 ⟨rfl, hb13⟩
          have bT13 := bT12.below hb13
          have bP13 := bP12.below hb13
          have bQ13 := bQ12.below hb13
          have hB13 := hB12.trans (hb13.mono hB12.size)
          have pa13 : Hid (Prs w13 w13.heap.size A3 ps) := (pa12.out.keep hb13).wider hb13.size
          have pq13 : Hid (Prs w13 w13.heap.size A6 (ps ++ [(xp, xq)])) := (pq12.out.keep hb13).wider hb13.size
          clear ct0 ct1 ct2 ct3 lT12 cp0 cp1 cp2 cp3 lP12 cq0 cq1 cq2 cq3 lQ12 bT12 bP12 bQ12 pa12 pq12 hB12 hb13
          have ct0 : w13.cell? ⟨w.heap.size, 0, none⟩ = some (.slice A ps.length c) := bT13.cell 0 rfl
          have ct1 : w13.cell? ⟨w.heap.size, 1, none⟩ = some (.int .i64 cl) := bT13.cell 1 rfl
          have ct2 : w13.cell? ⟨w.heap.size, 2, none⟩ = some (.int .i64 lo) := bT13.cell 2 rfl
          have ct3 : w13.cell? ⟨w.heap.size, 3, none⟩ = some (.int .i64 hi) := bT13.cell 3 rfl
          have lT13 := bT13.lt
          have cp0 : w13.cell? ⟨BP, 0, none⟩ = some (.slice A3 ps.length c3) := bP13.cell 0 rfl
          have cp1 : w13.cell? ⟨BP, 1, none⟩ = some (.int .i64 cl) := bP13.cell 1 rfl
          have cp2 : w13.cell? ⟨BP, 2, none⟩ = some (.int .i64 lo') := bP13.cell 2 rfl
          have cp3 : w13.cell? ⟨BP, 3, none⟩ = some (.int .i64 hi') := bP13.cell 3 rfl
          have lP13 := bP13.lt
          have cq0 : w13.cell? ⟨BQ, 0, none⟩ = some (.slice A6 (ps.length + 1) c6) := bQ13.cell 0 rfl
          have cq1 : w13.cell? ⟨BQ, 1, none⟩ = some (.int .i64 cl) := bQ13.cell 1 rfl
          have cq2 : w13.cell? ⟨BQ, 2, none⟩ = some (.int .i64 lo) := bQ13.cell 2 rfl
          have cq3 : w13.cell? ⟨BQ, 3, none⟩ = some (.int .i64 hi) := bQ13.cell 3 rfl
          have lQ13 := bQ13.lt
          go_wp2_with fail
          refine (HWK.out _).mono ?_
          rintro e wz ⟨rfl, hbz⟩
          have hBz := hB13.trans (hbz.mono hB13.size)
          go_wp2_with fail
          go_returns
          exact ⟨rfl, hBz⟩
  · by_cases hsl : Wl.stkL t ws = []
    · skip
      rw [hse] at HMW
      rw [if_neg (by decide)] at HMW
      rw [hsl] at HST
      clear hP hQ h HSE HSL HSN hse hck htr hwv hw0 hww hiw
      obtain ⟨ps, cl, lo, hi⟩ := t
      unfold trV at *
      dsimp only at *
      go_enter Try.func9, Try.ntmps9
      go_wp2_with fail
      have bT1 := (BoxS.new w 26 #[.slice A ps.length c, .int .i64 cl, .int .i64 lo, .int .i64 hi]).alloc (.cells #[.int .i64 xa, .int .i64 xb, .int .i64 xp, .int .i64 xq] 60)
      have bX1 := BoxS.new (w.alloc (.cells #[.slice A ps.length c, .int .i64 cl, .int .i64 lo, .int .i64 hi] 26)) 60 #[.int .i64 xa, .int .i64 xb, .int .i64 xp, .int .i64 xq]
      rw [World.size_alloc] at bX1
      have hB1 : Below w.heap.size w ((w.alloc (.cells #[.slice A ps.length c, .int .i64 cl, .int .i64 lo, .int .i64 hi] 26)).alloc (.cells #[.int .i64 xa, .int .i64 xb, .int .i64 xp, .int .i64 xq] 60)) := by (repeat' (first | (with_reducible exact Below.refl _ _) | (with_reducible assumption) | (with_reducible refine Below.alloc ?_ ?_ _) | (with_reducible refine Below.drew ?_) | (with_reducible refine Below.setCell ?_ ?_ _) | go_size | (exact (by simp)) | omega))
      generalize World.alloc (World.alloc w _) _ = w1 at *
      have ct0 : w1.cell? ⟨w.heap.size, 0, none⟩ = some (.slice A ps.length c) := bT1.cell 0 rfl
      have ct1 : w1.cell? ⟨w.heap.size, 1, none⟩ = some (.int .i64 cl) := bT1.cell 1 rfl
      have ct2 : w1.cell? ⟨w.heap.size, 2, none⟩ = some (.int .i64 lo) := bT1.cell 2 rfl
      have ct3 : w1.cell? ⟨w.heap.size, 3, none⟩ = some (.int .i64 hi) := bT1.cell 3 rfl
      have lT1 := bT1.lt
      have cx0 : w1.cell? ⟨w.heap.size + 1, 0, none⟩ = some (.int .i64 xa) := bX1.cell 0 rfl
      have cx1 : w1.cell? ⟨w.heap.size + 1, 1, none⟩ = some (.int .i64 xb) := bX1.cell 1 rfl
      have cx2 : w1.cell? ⟨w.heap.size + 1, 2, none⟩ = some (.int .i64 xp) := bX1.cell 2 rfl
      have cx3 : w1.cell? ⟨w.heap.size + 1, 3, none⟩ = some (.int .i64 xq) := bX1.cell 3 rfl
      have lX1 := bX1.lt
      try go_wp2_with fail
      refine (HRD.out _ hB1).mono ?_
      rintro e w2 ⟨rfl, hb2⟩
      have bT2 := bT1.below hb2
      have bX2 := bX1.below hb2
      have hB2 := hB1.trans (hb2.mono hB1.size)
      clear ct0 ct1 ct2 ct3 lT1 cx0 cx1 cx2 cx3 lX1 bT1 bX1 hB1 hb2
      have ct0 : w2.cell? ⟨w.heap.size, 0, none⟩ = some (.slice A ps.length c) := bT2.cell 0 rfl
      have ct1 : w2.cell? ⟨w.heap.size, 1, none⟩ = some (.int .i64 cl) := bT2.cell 1 rfl
      have ct2 : w2.cell? ⟨w.heap.size, 2, none⟩ = some (.int .i64 lo) := bT2.cell 2 rfl
      have ct3 : w2.cell? ⟨w.heap.size, 3, none⟩ = some (.int .i64 hi) := bT2.cell 3 rfl
      have lT2 := bT2.lt
      have cx0 : w2.cell? ⟨w.heap.size + 1, 0, none⟩ = some (.int .i64 xa) := bX2.cell 0 rfl
      have cx1 : w2.cell? ⟨w.heap.size + 1, 1, none⟩ = some (.int .i64 xb) := bX2.cell 1 rfl
      have cx2 : w2.cell? ⟨w.heap.size + 1, 2, none⟩ = some (.int .i64 xp) := bX2.cell 2 rfl
      have cx3 : w2.cell? ⟨w.heap.size + 1, 3, none⟩ = some (.int .i64 xq) := bX2.cell 3 rfl
      have lX2 := bX2.lt
      go_wp2_with fail
      refine (HMW.out _ hB2).mono ?_
      rintro e w3 ⟨rfl, hb3⟩
      have bT3 := bT2.below hb3
      have bX3 := bX2.below hb3
      have hB3 := hB2.trans (hb3.mono hB2.size)
      clear ct0 ct1 ct2 ct3 lT2 cx0 cx1 cx2 cx3 lX2 bT2 bX2 hB2 hb3
      have ct0 : w3.cell? ⟨w.heap.size, 0, none⟩ = some (.slice A ps.length c) := bT3.cell 0 rfl
      have ct1 : w3.cell? ⟨w.heap.size, 1, none⟩ = some (.int .i64 cl) := bT3.cell 1 rfl
      have ct2 : w3.cell? ⟨w.heap.size, 2, none⟩ = some (.int .i64 lo) := bT3.cell 2 rfl
      have ct3 : w3.cell? ⟨w.heap.size, 3, none⟩ = some (.int .i64 hi) := bT3.cell 3 rfl
      have lT3 := bT3.lt
      have cx0 : w3.cell? ⟨w.heap.size + 1, 0, none⟩ = some (.int .i64 xa) := bX3.cell 0 rfl
      have cx1 : w3.cell? ⟨w.heap.size + 1, 1, none⟩ = some (.int .i64 xb) := bX3.cell 1 rfl
      have cx2 : w3.cell? ⟨w.heap.size + 1, 2, none⟩ = some (.int .i64 xp) := bX3.cell 2 rfl
      have cx3 : w3.cell? ⟨w.heap.size + 1, 3, none⟩ = some (.int .i64 xq) := bX3.cell 3 rfl
      have lX3 := bX3.lt
      go_wp2_with fail
      refine (HST.out _ hB3).mono ?_
      rintro e w4 ⟨v4, rfl, hv4, hb4⟩
      obtain ⟨Asa, csa, rfl⟩ := ints_form hv4.out
      have bT4 := bT3.below hb4
      have bX4 := bX3.below hb4
      have hB4 := hB3.trans (hb4.mono hB3.size)
      clear ct0 ct1 ct2 ct3 lT3 cx0 cx1 cx2 cx3 lX3 bT3 bX3 hB3 hb4
      have sa4 : Hid (Ints w4 w4.heap.size (.slice Asa 0 csa) []) := hv4
      clear hv4
      have ct0 : w4.cell? ⟨w.heap.size, 0, none⟩ = some (.slice A ps.length c) := bT4.cell 0 rfl
      have ct1 : w4.cell? ⟨w.heap.size, 1, none⟩ = some (.int .i64 cl) := bT4.cell 1 rfl
      have ct2 : w4.cell? ⟨w.heap.size, 2, none⟩ = some (.int .i64 lo) := bT4.cell 2 rfl
      have ct3 : w4.cell? ⟨w.heap.size, 3, none⟩ = some (.int .i64 hi) := bT4.cell 3 rfl
      have lT4 := bT4.lt
      have cx0 : w4.cell? ⟨w.heap.size + 1, 0, none⟩ = some (.int .i64 xa) := bX4.cell 0 rfl
      have cx1 : w4.cell? ⟨w.heap.size + 1, 1, none⟩ = some (.int .i64 xb) := bX4.cell 1 rfl
      have cx2 : w4.cell? ⟨w.heap.size + 1, 2, none⟩ = some (.int .i64 xp) := bX4.cell 2 rfl
      have cx3 : w4.cell? ⟨w.heap.size + 1, 3, none⟩ = some (.int .i64 xq) := bX4.cell 3 rfl
      have lX4 := bX4.lt
      go_wp2_with fail
      refine (HKN.out _ _).mono ?_
      rintro e wq ⟨rfl, hq⟩
      have hq := hq.symm
      subst hq
      go_upto_region 7 with fail
      clear sa4
      refine (wpIn_wide (n := 4)).1 ?_
      have hmo : Try.prog.follows .mixedOrders = true := by kernel_rfl
      have q0 : Below w4.heap.size w4 w4.drew := (Below.refl _ _).drew
      have KC : Hid (∀ W', Below w4.heap.size w4 W' → W'.cell? ⟨w.heap.size, 0, none⟩ = some (.slice A ps.length c) ∧ W'.cell? ⟨w.heap.size, 1, none⟩ = some (.int .i64 cl) ∧ W'.cell? ⟨w.heap.size, 2, none⟩ = some (.int .i64 lo) ∧ W'.cell? ⟨w.heap.size, 3, none⟩ = some (.int .i64 hi)) := fun W' h => boxS4 (bT4.below h)
      obtain ⟨NB, hNB⟩ : ∃ n, n = w4.heap.size := ⟨_, rfl⟩
      have hle : NB ≤ w4.heap.size := Nat.le_of_eq hNB
      have hwN : w.heap.size ≤ NB := by rw [hNB]; exact hB4.size
      have hSN : w.heap.size < NB := by rw [hNB]; exact bT4.lt
      have hXN : w.heap.size + 1 < NB := by rw [hNB]; exact bX4.lt
      have HS : Hid (∀ W', Below NB w4 W' → BoxS W' w.heap.size 26 #[.slice A ps.length c, .int .i64 cl, .int .i64 lo, .int .i64 hi]) := fun W' h => bT4.below (by rw [hNB] at h; exact h)
      have HX : Hid (∀ W', Below NB w4 W' → BoxS W' (w.heap.size + 1) 60 #[.int .i64 xa, .int .i64 xb, .int .i64 xp, .int .i64 xq]) := fun W' h => bX4.below (by rw [hNB] at h; exact h)
      have HBW : Hid (∀ W', Below NB w4 W' → Below w.heap.size w W') := fun W' h => hB4.trans (h.mono hwN)
      rw [← hNB] at q0 KC
      refine wpIn_region_held (fun W' => Below NB w4 W') 60 hmo ?_
      refine wpHeldIn_take (i := 0) (v := ?_) (plain_of (by kernel_rfl)) rfl (by kernel_rfl) (fun _ _ _ h => h) (yieldsSoIn_of (by kernel_rfl) ?_ (fun _ => rfl)) q0 ?_; rotate_left; focus (intro wq hw; have kq := KC.out wq hw; clear hw; go_simp; try (with_reducible rfl))
      refine wpHeldIn_take (i := 2) (v := ?_) (plain_of (by kernel_rfl)) rfl (by kernel_rfl) (fun _ _ _ h => h) (yieldsSoIn_of (by kernel_rfl) ?_ (fun _ => rfl)) q0 ?_; rotate_left; focus (intro wq hw; have kq := KC.out wq hw; clear hw; go_simp; try (with_reducible rfl))
      clear ct0 ct1 ct2 ct3 lT4 cx0 cx1 cx2 cx3 lX4
      refine wpHeldIn_any [1, 3, 4, 5] [] (fun (a0 : Act) (s : Nat → Bool) (a : Act) (W : World) => ∃ (r1 r3 : Option (Option Addr × Nat)) (x4 x5 : Option Nat), s 1 = r1.isSome ∧ s 3 = r3.isSome ∧ s 4 = x4.isSome ∧ s 5 = x5.isSome ∧ a = ((((a0.put (some 74) (cpV5 ps.length cl lo hi r1)).put (some 76) (cpV5 ps.length cl lo hi r3)).put (some 11) (bxV5 x4)).put (some 12) (bxV5 x5)) ∧ Has W NB [cpT5 ps r1, cpT5 ps r3, bxT5 x4, bxT5 x5] ∧ Below NB w4 W) (done := #[true, true, true, true, true, true, false, false]) (f0 := 2) (by kernel_rfl) (by decide) (by kernel_rfl) (by kernel_rfl) (by kernel_rfl) ?_ ?_ ?_
      · refine ⟨none, none, none, none, rfl, rfl, rfl, rfl, by kernel_rfl, ⟨fun T hT => ?_, ?_⟩, q0⟩
        · simp [cpT5, bxT5] at hT
          subst hT
          trivial
        · simp [cpT5, bxT5, Thing.blk]
      · intro j o hj ho s a W1 hI hs _ K hK
        obtain ⟨r1, r3, x4, x5, e1, e3, e4, e5, rfl, hH, hBw⟩ := hI
        rcases (by simpa using hj : j = 1 ∨ j = 3 ∨ j = 4 ∨ j = 5) with rfl | rfl | rfl | rfl
        · obtain rfl := Option.some.inj ho
          obtain rfl : r1 = none := by cases r1 with | none => rfl | some _ => rw [hs] at e1; cases e1
          go_simp
          refine ⟨trivial, (callsIn_wide.2 (HCP.out _ (hB4.trans (hBw.mono hwN)))).mono ?_⟩
          rintro e w1 ⟨A1, c1, rfl, hO, hb⟩
          refine hK _ _ (hBw.trans (hb.mono (Nat.le_trans hle hBw.size))) ⟨some (A1, c1), r3, x4, x5, by simp [upd], by simpa [upd] using e3, by simpa [upd] using e4, by simpa [upd] using e5, by kernel_rfl, hH.fresh 0 rfl hb (Nat.le_refl _) hO.out (Nat.le_trans hle hBw.size), hBw.trans (hb.mono (Nat.le_trans hle hBw.size))⟩
        · obtain rfl := Option.some.inj ho
          obtain rfl : r3 = none := by cases r3 with | none => rfl | some _ => rw [hs] at e3; cases e3
          go_simp
          refine ⟨trivial, (callsIn_wide.2 (HCP.out _ (hB4.trans (hBw.mono hwN)))).mono ?_⟩
          rintro e w1 ⟨A1, c1, rfl, hO, hb⟩
          refine hK _ _ (hBw.trans (hb.mono (Nat.le_trans hle hBw.size))) ⟨r1, some (A1, c1), x4, x5, by simpa [upd] using e1, by simp [upd], by simpa [upd] using e4, by simpa [upd] using e5, by kernel_rfl, hH.fresh 1 rfl hb (Nat.le_refl _) hO.out (Nat.le_trans hle hBw.size), hBw.trans (hb.mono (Nat.le_trans hle hBw.size))⟩
        · obtain rfl := Option.some.inj ho
          obtain rfl : x4 = none := by cases x4 with | none => rfl | some _ => rw [hs] at e4; cases e4
          go_simp
          have hb : Below W1.heap.size W1 (W1.alloc (.cells #[.slice none 0 0, .int .i64 0, .int .i64 0, .int .i64 0] 26)) := (Below.refl _ _).alloc (Nat.le_refl _) _
          refine hK _ _ (hBw.trans (hb.mono (Nat.le_trans hle hBw.size))) ⟨r1, r3, some W1.heap.size, x5, by simpa [upd] using e1, by simpa [upd] using e3, by simp [upd], by simpa [upd] using e5, by kernel_rfl, hH.fresh 2 rfl hb (Nat.le_refl _) (show BoxS _ _ _ _ ∧ _ ≤ _ from ⟨BoxS.new W1 26 #[.slice none 0 0, .int .i64 0, .int .i64 0, .int .i64 0], Nat.le_refl _⟩) (Nat.le_trans hle hBw.size), hBw.trans (hb.mono (Nat.le_trans hle hBw.size))⟩
        · obtain rfl := Option.some.inj ho
          obtain rfl : x5 = none := by cases x5 with | none => rfl | some _ => rw [hs] at e5; cases e5
          go_simp
          have hb : Below W1.heap.size W1 (W1.alloc (.cells #[.slice none 0 0, .int .i64 0, .int .i64 0, .int .i64 0] 26)) := (Below.refl _ _).alloc (Nat.le_refl _) _
          refine hK _ _ (hBw.trans (hb.mono (Nat.le_trans hle hBw.size))) ⟨r1, r3, x4, some W1.heap.size, by simpa [upd] using e1, by simpa [upd] using e3, by simpa [upd] using e4, by simp [upd], by kernel_rfl, hH.fresh 3 rfl hb (Nat.le_refl _) (show BoxS _ _ _ _ ∧ _ ≤ _ from ⟨BoxS.new W1 26 #[.slice none 0 0, .int .i64 0, .int .i64 0, .int .i64 0], Nat.le_refl _⟩) (Nat.le_trans hle hBw.size), hBw.trans (hb.mono (Nat.le_trans hle hBw.size))⟩
      · intro s a W1 hall hI
        obtain ⟨r1, r3, x4, x5, e1, e3, e4, e5, rfl, hH, hBw⟩ := hI
        rw [hall 1 (by simp)] at e1
        rw [hall 3 (by simp)] at e3
        rw [hall 4 (by simp)] at e4
        rw [hall 5 (by simp)] at e5
        obtain ⟨⟨A3, c3⟩, rfl⟩ := Option.isSome_iff_exists.1 e1.symm
        obtain ⟨⟨A4, c4⟩, rfl⟩ := Option.isSome_iff_exists.1 e3.symm
        obtain ⟨BP, rfl⟩ := Option.isSome_iff_exists.1 e4.symm
        obtain ⟨BQ, rfl⟩ := Option.isSome_iff_exists.1 e5.symm
        clear e1 e3 e4 e5 hall HCP
        unfold cpV5 bxV5
        unfold cpT5 bxT5 at hH
        dsimp only at hH
        have hbx : BoxS W1 BP 26 #[.slice none 0 0, .int .i64 0, .int .i64 0, .int .i64 0] ∧ NB ≤ BP := hH.get 2 rfl
        obtain ⟨hbx, hNBx⟩ := hbx
        obtain ⟨o0, o1, o2, o3⟩ := boxS4 hbx
        have f0 := hbx.frozen 0
        have f1 := hbx.frozen 1
        have f2 := hbx.frozen 2
        have f3 := hbx.frozen 3
        refine wpHeldIn_one (i := 6) (by kernel_rfl) (by kernel_rfl) rfl (by kernel_rfl) (fun K' hK' => ?_)
        go_simp
        have qn : Below NB w4 ((((W1.setCell ⟨BP, 0, none⟩ (.slice A3 ps.length c3)).setCell ⟨BP, 1, none⟩ (.int .i64 cl)).setCell ⟨BP, 2, none⟩ (.int .i64 lo)).setCell ⟨BP, 3, none⟩ (.int .i64 hi)) := by (repeat' (first | (with_reducible exact Below.refl _ _) | (with_reducible assumption) | (with_reducible refine Below.alloc ?_ ?_ _) | (with_reducible refine Below.drew ?_) | (with_reducible refine Below.setCell ?_ ?_ _) | go_size | (exact (by simp)) | omega))
        refine hK' _ _ qn ?_
        clear hK' K' o0 o1 o2 o3 f0 f1 f2 f3 hbx hNBx hBw
        have hH2 : Has ((((W1.setCell ⟨BP, 0, none⟩ (.slice A3 ps.length c3)).setCell ⟨BP, 1, none⟩ (.int .i64 cl)).setCell ⟨BP, 2, none⟩ (.int .i64 lo)).setCell ⟨BP, 3, none⟩ (.int .i64 hi)) NB [.row (.slice A3 ps.length c3) 28 2 ps.length (flat ps), .row (.slice A4 ps.length c4) 28 2 ps.length (flat ps), .box BP 26 #[.slice A3 ps.length c3, .int .i64 cl, .int .i64 lo, .int .i64 hi], .box BQ 26 #[.slice none 0 0, .int .i64 0, .int .i64 0, .int .i64 0]] := hH.fourM 2 rfl (.slice A3 ps.length c3) (.int .i64 cl) (.int .i64 lo) (.int .i64 hi)
        have hH := hH2
        have hBw := qn
        clear hH2 qn
        generalize World.setCell (World.setCell (World.setCell (World.setCell W1 _ _) _ _) _ _) _ _ = W2 at *
        have hbx : BoxS W2 BQ 26 #[.slice none 0 0, .int .i64 0, .int .i64 0, .int .i64 0] ∧ NB ≤ BQ := hH.get 3 rfl
        obtain ⟨hbx, hNBx⟩ := hbx
        obtain ⟨o0, o1, o2, o3⟩ := boxS4 hbx
        have f0 := hbx.frozen 0
        have f1 := hbx.frozen 1
        have f2 := hbx.frozen 2
        have f3 := hbx.frozen 3
        refine wpHeldIn_one (i := 7) (by kernel_rfl) (by kernel_rfl) rfl (by kernel_rfl) (fun K' hK' => ?_)
        go_simp
        have qn : Below NB w4 ((((W2.setCell ⟨BQ, 0, none⟩ (.slice A4 ps.length c4)).setCell ⟨BQ, 1, none⟩ (.int .i64 cl)).setCell ⟨BQ, 2, none⟩ (.int .i64 lo)).setCell ⟨BQ, 3, none⟩ (.int .i64 hi)) := by (repeat' (first | (with_reducible exact Below.refl _ _) | (with_reducible assumption) | (with_reducible refine Below.alloc ?_ ?_ _) | (with_reducible refine Below.drew ?_) | (with_reducible refine Below.setCell ?_ ?_ _) | go_size | (exact (by simp)) | omega))
        refine hK' _ _ qn ?_
        clear hK' K' o0 o1 o2 o3 f0 f1 f2 f3 hbx hNBx hBw
        have hH2 : Has ((((W2.setCell ⟨BQ, 0, none⟩ (.slice A4 ps.length c4)).setCell ⟨BQ, 1, none⟩ (.int .i64 cl)).setCell ⟨BQ, 2, none⟩ (.int .i64 lo)).setCell ⟨BQ, 3, none⟩ (.int .i64 hi)) NB [.row (.slice A3 ps.length c3) 28 2 ps.length (flat ps), .row (.slice A4 ps.length c4) 28 2 ps.length (flat ps), .box BP 26 #[.slice A3 ps.length c3, .int .i64 cl, .int .i64 lo, .int .i64 hi], .box BQ 26 #[.slice A4 ps.length c4, .int .i64 cl, .int .i64 lo, .int .i64 hi]] := hH.fourM 3 rfl (.slice A4 ps.length c4) (.int .i64 cl) (.int .i64 lo) (.int .i64 hi)
        have hH := hH2
        have hBw := qn
        clear hH2 qn
        generalize World.setCell (World.setCell (World.setCell (World.setCell W2 _ _) _ _) _ _) _ _ = W3 at *
        refine wpHeldIn_done (by kernel_rfl) ?_ _
        go_simp
        obtain ⟨wz, rfl⟩ : ∃ w, w = W3 := ⟨_, rfl⟩
        have hBN7 : Below NB w4 wz := hBw
        have hNz : NB ≤ wz.heap.size := Nat.le_trans hle hBN7.size
        have bT7 := HS.out _ hBN7
        have bX7 := HX.out _ hBN7
        clear hBw KC q0 bT4 bX4 hB4
        have hPb : BoxS wz BP 26 #[.slice A3 ps.length c3, .int .i64 cl, .int .i64 lo, .int .i64 hi] ∧ NB ≤ BP := hH.get 2 rfl
        have hQb : BoxS wz BQ 26 #[.slice A4 ps.length c4, .int .i64 cl, .int .i64 lo, .int .i64 hi] ∧ NB ≤ BQ := hH.get 3 rfl
        have hNP := hPb.2
        have hNQ := hQb.2
        obtain ⟨s0, s1, s2, s3⟩ := boxS4 bT7
        obtain ⟨x0, x1, x2, x3⟩ := boxS4 bX7
        obtain ⟨p0, p1, p2, p3⟩ := boxS4 hPb.1
        have lT7 := bT7.lt
        have lX7 := bX7.lt
        have lP7 := hPb.1.lt
        have pf2 := hPb.1.frozen 2
        have pf3 := hPb.1.frozen 3
        go_upto_region 8 with fail
        go_cut [83] from 77 to 92 (fun a wx => wx = (wz.setCell ⟨BP, 2, none⟩ (.int .i64 lo')).setCell ⟨BP, 3, none⟩ (.int .i64 hi'))
        case first => as_aux_lemma =>
          rcases hlo' with ⟨g1, rfl⟩ | ⟨g1, rfl⟩ <;> rcases hhi' with ⟨g2, rfl⟩ | ⟨g2, rfl⟩
          all_goals go_wp2_with fail
          all_goals first
            | (exfalso; omega)
            | (go_meet; first | rfl | (congr 3 <;> omega))
        case rest =>
        subst hcut
        have hH8 : Has ((wz.setCell ⟨BP, 2, none⟩ (.int .i64 lo')).setCell ⟨BP, 3, none⟩ (.int .i64 hi')) NB [.row (.slice A3 ps.length c3) 28 2 ps.length (flat ps), .row (.slice A4 ps.length c4) 28 2 ps.length (flat ps), .box BP 26 #[.slice A3 ps.length c3, .int .i64 cl, .int .i64 lo', .int .i64 hi'], .box BQ 26 #[.slice A4 ps.length c4, .int .i64 cl, .int .i64 lo, .int .i64 hi]] := (hH.putM 2 rfl 2 (.int .i64 lo')).putM 2 rfl 3 (.int .i64 hi')
        have hB8 : Below NB w4 ((wz.setCell ⟨BP, 2, none⟩ (.int .i64 lo')).setCell ⟨BP, 3, none⟩ (.int .i64 hi')) := by have := hBN7; (repeat' (first | (with_reducible exact Below.refl _ _) | (with_reducible assumption) | (with_reducible refine Below.alloc ?_ ?_ _) | (with_reducible refine Below.drew ?_) | (with_reducible refine Below.setCell ?_ ?_ _) | go_size | (exact (by simp)) | omega))
        clear hPb hQb p0 p1 p2 p3 pf2 pf3 s0 s1 s2 s3 x0 x1 x2 x3 lT7 lX7 lP7 hBN7 hH hNz bT7 bX7 hlo' hhi' hwr1 hwr2
        generalize World.setCell (World.setCell wz _ _) _ _ = w8 at *
        have hNz : NB ≤ w8.heap.size := Nat.le_trans hle hB8.size
        have bX8 := HX.out _ hB8
        have hQb : BoxS w8 BQ 26 #[.slice A4 ps.length c4, .int .i64 cl, .int .i64 lo, .int .i64 hi] ∧ NB ≤ BQ := hH8.get 3 rfl
        obtain ⟨x0, x1, x2, x3⟩ := boxS4 bX8
        obtain ⟨p0, p1, p2, p3⟩ := boxS4 hQb.1
        have pf0 := hQb.1.frozen 0
        have lX8 := bX8.lt
        have lQ8 := hQb.1.lt
        have hrB : Hid (w8.ownsRow NB 28 2 (.slice A4 ps.length c4) ps.length (flat ps)) := hH8.get 1 rfl
        go_upto_region 10 with (at_builtin; go_must (refine wpList_pushpt rfl (.tmp 94) (.tmp 97) rfl (xp, xq) NB _ ps.length (flat ps) rfl rfl hrB.out hNz (by omega) ?_; intro v' w9 hown9 hgr9 hfr9; (obtain ⟨A6, c6, rfl⟩ := own_formP hown9); (have hH9 : Has w9 NB [.row (.slice A3 ps.length c3) 28 2 ps.length (flat ps), .row (.slice A6 (ps.length + 1) c6) 28 2 (ps.length + 1) (flat ps ++ flat [(xp, xq)]), .box BP 26 #[.slice A3 ps.length c3, .int .i64 cl, .int .i64 lo', .int .i64 hi'], .box BQ 26 #[.slice A4 ps.length c4, .int .i64 cl, .int .i64 lo, .int .i64 hi]] := hH8.change 1 rfl hgr9 (fun g e => e) hown9 hfr9); (have hB9 : Below NB w4 w9 := hB8.trans (below_of_grownM hgr9 hNz (fun g e => (Thing.lt (hH8.get 1 rfl) e).1))); clear hown9 hgr9 hfr9 p0 p1 p2 p3 pf0; (obtain ⟨p0, p1, p2, p3⟩ := boxS4 (hH9.get 3 rfl : BoxS w9 BQ 26 #[.slice A4 ps.length c4, .int .i64 cl, .int .i64 lo, .int .i64 hi] ∧ NB ≤ BQ).1); (have pf0 := (hH9.get 3 rfl : BoxS w9 BQ 26 #[.slice A4 ps.length c4, .int .i64 cl, .int .i64 lo, .int .i64 hi] ∧ NB ≤ BQ).1.frozen 0)))
        have hHn : Has (w9.setCell ⟨BQ, 0, none⟩ (.slice A6 (ps.length + 1) c6)) NB [.row (.slice A3 ps.length c3) 28 2 ps.length (flat ps), .row (.slice A6 (ps.length + 1) c6) 28 2 (ps.length + 1) (flat ps ++ flat [(xp, xq)]), .box BP 26 #[.slice A3 ps.length c3, .int .i64 cl, .int .i64 lo', .int .i64 hi'], .box BQ 26 #[.slice A6 (ps.length + 1) c6, .int .i64 cl, .int .i64 lo, .int .i64 hi]] := hH9.putM 3 rfl 0 (.slice A6 (ps.length + 1) c6)
        have hBn : Below NB w4 (w9.setCell ⟨BQ, 0, none⟩ (.slice A6 (ps.length + 1) c6)) := by have := hB9; (repeat' (first | (with_reducible exact Below.refl _ _) | (with_reducible assumption) | (with_reducible refine Below.alloc ?_ ?_ _) | (with_reducible refine Below.drew ?_) | (with_reducible refine Below.setCell ?_ ?_ _) | go_size | (exact (by simp)) | omega))
        clear hH9 hB9 p0 p1 p2 p3 pf0 hrB hH8 hQb x0 x1 x2 x3 lX8 lQ8 bX8 hNz hB8
        generalize World.setCell w9 _ _ = wy at *
        have bT9 := HS.out _ hBn
        have hBw9 := HBW.out _ hBn
        have bP9 : BoxS wy BP 26 #[.slice A3 ps.length c3, .int .i64 cl, .int .i64 lo', .int .i64 hi'] := (hHn.get 2 rfl : BoxS wy BP 26 #[.slice A3 ps.length c3, .int .i64 cl, .int .i64 lo', .int .i64 hi'] ∧ NB ≤ BP).1
        have bQ9 : BoxS wy BQ 26 #[.slice A6 (ps.length + 1) c6, .int .i64 cl, .int .i64 lo, .int .i64 hi] := (hHn.get 3 rfl : BoxS wy BQ 26 #[.slice A6 (ps.length + 1) c6, .int .i64 cl, .int .i64 lo, .int .i64 hi] ∧ NB ≤ BQ).1
        have hPa : Hid (Prs wy wy.heap.size A3 ps) := prsP_of_own (hHn.get 0 rfl : wy.ownsRow NB 28 2 (.slice A3 ps.length c3) ps.length (flat ps))
        have hPq : Hid (Prs wy wy.heap.size A6 (ps ++ [(xp, xq)])) := by
          have h := (hHn.get 1 rfl : wy.ownsRow NB 28 2 (.slice A6 (ps.length + 1) c6) (ps.length + 1) (flat ps ++ flat [(xp, xq)]))
          rw [← flat_append] at h
          have e : ps.length + 1 = (ps ++ [(xp, xq)]).length := by simp
          rw [e] at h
          exact prsP_of_own h
        clear hHn hBn HS HX HBW hNP hNQ hSN hXN hNB hle hwN
        obtain ⟨w10, rfl⟩ : ∃ w10, w10 = wy := ⟨_, rfl⟩
        have bT10 := bT9
        have bP10 := bP9
        have bQ10 := bQ9
        have hB10 := hBw9
        clear bT9 bP9 bQ9 hBw9
        have pa10 := hPa
        have pq10 := hPq
        clear hPa hPq
        have ct0 : w10.cell? ⟨w.heap.size, 0, none⟩ = some (.slice A ps.length c) := bT10.cell 0 rfl
        have ct1 : w10.cell? ⟨w.heap.size, 1, none⟩ = some (.int .i64 cl) := bT10.cell 1 rfl
        have ct2 : w10.cell? ⟨w.heap.size, 2, none⟩ = some (.int .i64 lo) := bT10.cell 2 rfl
        have ct3 : w10.cell? ⟨w.heap.size, 3, none⟩ = some (.int .i64 hi) := bT10.cell 3 rfl
        have lT10 := bT10.lt
        have cp0 : w10.cell? ⟨BP, 0, none⟩ = some (.slice A3 ps.length c3) := bP10.cell 0 rfl
        have cp1 : w10.cell? ⟨BP, 1, none⟩ = some (.int .i64 cl) := bP10.cell 1 rfl
        have cp2 : w10.cell? ⟨BP, 2, none⟩ = some (.int .i64 lo') := bP10.cell 2 rfl
        have cp3 : w10.cell? ⟨BP, 3, none⟩ = some (.int .i64 hi') := bP10.cell 3 rfl
        have lP10 := bP10.lt
        have cq0 : w10.cell? ⟨BQ, 0, none⟩ = some (.slice A6 (ps.length + 1) c6) := bQ10.cell 0 rfl
        have cq1 : w10.cell? ⟨BQ, 1, none⟩ = some (.int .i64 cl) := bQ10.cell 1 rfl
        have cq2 : w10.cell? ⟨BQ, 2, none⟩ = some (.int .i64 lo) := bQ10.cell 2 rfl
        have cq3 : w10.cell? ⟨BQ, 3, none⟩ = some (.int .i64 hi) := bQ10.cell 3 rfl
        have lQ10 := bQ10.lt
        go_wp2_with fail
        refine (HWK.out _).mono ?_
        rintro e wz ⟨rfl, hbz⟩
        have hBz := hB10.trans (hbz.mono hB10.size)
        go_wp2_with fail
        go_returns
        exact ⟨rfl, hBz⟩
    · skip
      rw [hse] at HMW
      rw [if_neg (by decide)] at HMW
      have hsp : 0 < (Wl.stkL t ws).length := by
        have := List.length_pos_iff.2 hsl
        omega
      have dd1 : decide (0 < ((Wl.stkL t ws).length : Int)) = true := decide_eq_true (by omega)
      have dd2 : decide (0 < (Wl.stkL t ws).length) = true := decide_eq_true (by omega)
      have dd3 : decide ((ws.length : Int) < ((Wl.stkL t ws).length : Int)) = false := decide_eq_false (by have := HSL.out; omega)
      have dd4 : decide (ws.length < (Wl.stkL t ws).length) = false := decide_eq_false (by have := HSL.out; omega)
      generalize Wl.stkL t ws = SL at *
      clear hsl hsp
      clear hP hQ h HSE HSL HSN hse hck htr hwv hw0 hww hiw
      obtain ⟨ps, cl, lo, hi⟩ := t
      unfold trV at *
      dsimp only at *
      go_enter Try.func9, Try.ntmps9
      go_wp2_with fail
      have bT1 := (BoxS.new w 26 #[.slice A ps.length c, .int .i64 cl, .int .i64 lo, .int .i64 hi]).alloc (.cells #[.int .i64 xa, .int .i64 xb, .int .i64 xp, .int .i64 xq] 60)
      have bX1 := BoxS.new (w.alloc (.cells #[.slice A ps.length c, .int .i64 cl, .int .i64 lo, .int .i64 hi] 26)) 60 #[.int .i64 xa, .int .i64 xb, .int .i64 xp, .int .i64 xq]
      rw [World.size_alloc] at bX1
      have hB1 : Below w.heap.size w ((w.alloc (.cells #[.slice A ps.length c, .int .i64 cl, .int .i64 lo, .int .i64 hi] 26)).alloc (.cells #[.int .i64 xa, .int .i64 xb, .int .i64 xp, .int .i64 xq] 60)) := by (repeat' (first | (with_reducible exact Below.refl _ _) | (with_reducible assumption) | (with_reducible refine Below.alloc ?_ ?_ _) | (with_reducible refine Below.drew ?_) | (with_reducible refine Below.setCell ?_ ?_ _) | go_size | (exact (by simp)) | omega))
      generalize World.alloc (World.alloc w _) _ = w1 at *
      have ct0 : w1.cell? ⟨w.heap.size, 0, none⟩ = some (.slice A ps.length c) := bT1.cell 0 rfl
      have ct1 : w1.cell? ⟨w.heap.size, 1, none⟩ = some (.int .i64 cl) := bT1.cell 1 rfl
      have ct2 : w1.cell? ⟨w.heap.size, 2, none⟩ = some (.int .i64 lo) := bT1.cell 2 rfl
      have ct3 : w1.cell? ⟨w.heap.size, 3, none⟩ = some (.int .i64 hi) := bT1.cell 3 rfl
      have lT1 := bT1.lt
      have cx0 : w1.cell? ⟨w.heap.size + 1, 0, none⟩ = some (.int .i64 xa) := bX1.cell 0 rfl
      have cx1 : w1.cell? ⟨w.heap.size + 1, 1, none⟩ = some (.int .i64 xb) := bX1.cell 1 rfl
      have cx2 : w1.cell? ⟨w.heap.size + 1, 2, none⟩ = some (.int .i64 xp) := bX1.cell 2 rfl
      have cx3 : w1.cell? ⟨w.heap.size + 1, 3, none⟩ = some (.int .i64 xq) := bX1.cell 3 rfl
      have lX1 := bX1.lt
      try go_wp2_with fail
      refine (HRD.out _ hB1).mono ?_
      rintro e w2 ⟨rfl, hb2⟩
      have bT2 := bT1.below hb2
      have bX2 := bX1.below hb2
      have hB2 := hB1.trans (hb2.mono hB1.size)
      clear ct0 ct1 ct2 ct3 lT1 cx0 cx1 cx2 cx3 lX1 bT1 bX1 hB1 hb2
      have ct0 : w2.cell? ⟨w.heap.size, 0, none⟩ = some (.slice A ps.length c) := bT2.cell 0 rfl
      have ct1 : w2.cell? ⟨w.heap.size, 1, none⟩ = some (.int .i64 cl) := bT2.cell 1 rfl
      have ct2 : w2.cell? ⟨w.heap.size, 2, none⟩ = some (.int .i64 lo) := bT2.cell 2 rfl
      have ct3 : w2.cell? ⟨w.heap.size, 3, none⟩ = some (.int .i64 hi) := bT2.cell 3 rfl
      have lT2 := bT2.lt
      have cx0 : w2.cell? ⟨w.heap.size + 1, 0, none⟩ = some (.int .i64 xa) := bX2.cell 0 rfl
      have cx1 : w2.cell? ⟨w.heap.size + 1, 1, none⟩ = some (.int .i64 xb) := bX2.cell 1 rfl
      have cx2 : w2.cell? ⟨w.heap.size + 1, 2, none⟩ = some (.int .i64 xp) := bX2.cell 2 rfl
      have cx3 : w2.cell? ⟨w.heap.size + 1, 3, none⟩ = some (.int .i64 xq) := bX2.cell 3 rfl
      have lX2 := bX2.lt
      go_wp2_with fail
      refine (HMW.out _ hB2).mono ?_
      rintro e w3 ⟨rfl, hb3⟩
      have bT3 := bT2.below hb3
      have bX3 := bX2.below hb3
      have hB3 := hB2.trans (hb3.mono hB2.size)
      clear ct0 ct1 ct2 ct3 lT2 cx0 cx1 cx2 cx3 lX2 bT2 bX2 hB2 hb3
      have ct0 : w3.cell? ⟨w.heap.size, 0, none⟩ = some (.slice A ps.length c) := bT3.cell 0 rfl
      have ct1 : w3.cell? ⟨w.heap.size, 1, none⟩ = some (.int .i64 cl) := bT3.cell 1 rfl
      have ct2 : w3.cell? ⟨w.heap.size, 2, none⟩ = some (.int .i64 lo) := bT3.cell 2 rfl
      have ct3 : w3.cell? ⟨w.heap.size, 3, none⟩ = some (.int .i64 hi) := bT3.cell 3 rfl
      have lT3 := bT3.lt
      have cx0 : w3.cell? ⟨w.heap.size + 1, 0, none⟩ = some (.int .i64 xa) := bX3.cell 0 rfl
      have cx1 : w3.cell? ⟨w.heap.size + 1, 1, none⟩ = some (.int .i64 xb) := bX3.cell 1 rfl
      have cx2 : w3.cell? ⟨w.heap.size + 1, 2, none⟩ = some (.int .i64 xp) := bX3.cell 2 rfl
      have cx3 : w3.cell? ⟨w.heap.size + 1, 3, none⟩ = some (.int .i64 xq) := bX3.cell 3 rfl
      have lX3 := bX3.lt
      go_wp2_with fail
      refine (HST.out _ hB3).mono ?_
      rintro e w4 ⟨v4, rfl, hv4, hb4⟩
      obtain ⟨Asa, csa, rfl⟩ := ints_form hv4.out
      have bT4 := bT3.below hb4
      have bX4 := bX3.below hb4
      have hB4 := hB3.trans (hb4.mono hB3.size)
      clear ct0 ct1 ct2 ct3 lT3 cx0 cx1 cx2 cx3 lX3 bT3 bX3 hB3 hb4
      have sa4 : Hid (Ints w4 w4.heap.size (.slice Asa SL.length csa) SL) := hv4
      clear hv4
      have ct0 : w4.cell? ⟨w.heap.size, 0, none⟩ = some (.slice A ps.length c) := bT4.cell 0 rfl
      have ct1 : w4.cell? ⟨w.heap.size, 1, none⟩ = some (.int .i64 cl) := bT4.cell 1 rfl
      have ct2 : w4.cell? ⟨w.heap.size, 2, none⟩ = some (.int .i64 lo) := bT4.cell 2 rfl
      have ct3 : w4.cell? ⟨w.heap.size, 3, none⟩ = some (.int .i64 hi) := bT4.cell 3 rfl
      have lT4 := bT4.lt
      have cx0 : w4.cell? ⟨w.heap.size + 1, 0, none⟩ = some (.int .i64 xa) := bX4.cell 0 rfl
      have cx1 : w4.cell? ⟨w.heap.size + 1, 1, none⟩ = some (.int .i64 xb) := bX4.cell 1 rfl
      have cx2 : w4.cell? ⟨w.heap.size + 1, 2, none⟩ = some (.int .i64 xp) := bX4.cell 2 rfl
      have cx3 : w4.cell? ⟨w.heap.size + 1, 3, none⟩ = some (.int .i64 xq) := bX4.cell 3 rfl
      have lX4 := bX4.lt
      go_wp2_with fail
      refine (HKN.out _ _).mono ?_
      rintro e wq ⟨rfl, hq⟩
      have hq := hq.symm
      subst hq
      go_upto_region 7 with fail
      clear sa4
      refine (wpIn_wide (n := 4)).1 ?_
      have hmo : Try.prog.follows .mixedOrders = true := by kernel_rfl
      have q0 : Below w4.heap.size w4 w4.drew := (Below.refl _ _).drew
      have KC : Hid (∀ W', Below w4.heap.size w4 W' → W'.cell? ⟨w.heap.size, 0, none⟩ = some (.slice A ps.length c) ∧ W'.cell? ⟨w.heap.size, 1, none⟩ = some (.int .i64 cl) ∧ W'.cell? ⟨w.heap.size, 2, none⟩ = some (.int .i64 lo) ∧ W'.cell? ⟨w.heap.size, 3, none⟩ = some (.int .i64 hi)) := fun W' h => boxS4 (bT4.below h)
      obtain ⟨NB, hNB⟩ : ∃ n, n = w4.heap.size := ⟨_, rfl⟩
      have hle : NB ≤ w4.heap.size := Nat.le_of_eq hNB
      have hwN : w.heap.size ≤ NB := by rw [hNB]; exact hB4.size
      have hSN : w.heap.size < NB := by rw [hNB]; exact bT4.lt
      have hXN : w.heap.size + 1 < NB := by rw [hNB]; exact bX4.lt
      have HS : Hid (∀ W', Below NB w4 W' → BoxS W' w.heap.size 26 #[.slice A ps.length c, .int .i64 cl, .int .i64 lo, .int .i64 hi]) := fun W' h => bT4.below (by rw [hNB] at h; exact h)
      have HX : Hid (∀ W', Below NB w4 W' → BoxS W' (w.heap.size + 1) 60 #[.int .i64 xa, .int .i64 xb, .int .i64 xp, .int .i64 xq]) := fun W' h => bX4.below (by rw [hNB] at h; exact h)
      have HBW : Hid (∀ W', Below NB w4 W' → Below w.heap.size w W') := fun W' h => hB4.trans (h.mono hwN)
      rw [← hNB] at q0 KC
      refine wpIn_region_held (fun W' => Below NB w4 W') 60 hmo ?_
      refine wpHeldIn_take (i := 0) (v := ?_) (plain_of (by kernel_rfl)) rfl (by kernel_rfl) (fun _ _ _ h => h) (yieldsSoIn_of (by kernel_rfl) ?_ (fun _ => rfl)) q0 ?_; rotate_left; focus (intro wq hw; have kq := KC.out wq hw; clear hw; go_simp; try (with_reducible rfl))
      refine wpHeldIn_take (i := 2) (v := ?_) (plain_of (by kernel_rfl)) rfl (by kernel_rfl) (fun _ _ _ h => h) (yieldsSoIn_of (by kernel_rfl) ?_ (fun _ => rfl)) q0 ?_; rotate_left; focus (intro wq hw; have kq := KC.out wq hw; clear hw; go_simp; try (with_reducible rfl))
      clear ct0 ct1 ct2 ct3 lT4 cx0 cx1 cx2 cx3 lX4
      refine wpHeldIn_any [1, 3, 4, 5] [] (fun (a0 : Act) (s : Nat → Bool) (a : Act) (W : World) => ∃ (r1 r3 : Option (Option Addr × Nat)) (x4 x5 : Option Nat), s 1 = r1.isSome ∧ s 3 = r3.isSome ∧ s 4 = x4.isSome ∧ s 5 = x5.isSome ∧ a = ((((a0.put (some 74) (cpV5 ps.length cl lo hi r1)).put (some 76) (cpV5 ps.length cl lo hi r3)).put (some 11) (bxV5 x4)).put (some 12) (bxV5 x5)) ∧ Has W NB [cpT5 ps r1, cpT5 ps r3, bxT5 x4, bxT5 x5] ∧ Below NB w4 W) (done := #[true, true, true, true, true, true, false, false]) (f0 := 2) (by kernel_rfl) (by decide) (by kernel_rfl) (by kernel_rfl) (by kernel_rfl) ?_ ?_ ?_
      · refine ⟨none, none, none, none, rfl, rfl, rfl, rfl, by kernel_rfl, ⟨fun T hT => ?_, ?_⟩, q0⟩
        · simp [cpT5, bxT5] at hT
          subst hT
          trivial
        · simp [cpT5, bxT5, Thing.blk]
      · intro j o hj ho s a W1 hI hs _ K hK
        obtain ⟨r1, r3, x4, x5, e1, e3, e4, e5, rfl, hH, hBw⟩ := hI
        rcases (by simpa using hj : j = 1 ∨ j = 3 ∨ j = 4 ∨ j = 5) with rfl | rfl | rfl | rfl
        · obtain rfl := Option.some.inj ho
          obtain rfl : r1 = none := by cases r1 with | none => rfl | some _ => rw [hs] at e1; cases e1
          go_simp
          refine ⟨trivial, (callsIn_wide.2 (HCP.out _ (hB4.trans (hBw.mono hwN)))).mono ?_⟩
          rintro e w1 ⟨A1, c1, rfl, hO, hb⟩
          refine hK _ _ (hBw.trans (hb.mono (Nat.le_trans hle hBw.size))) ⟨some (A1, c1), r3, x4, x5, by simp [upd], by simpa [upd] using e3, by simpa [upd] using e4, by simpa [upd] using e5, by kernel_rfl, hH.fresh 0 rfl hb (Nat.le_refl _) hO.out (Nat.le_trans hle hBw.size), hBw.trans (hb.mono (Nat.le_trans hle hBw.size))⟩
        · obtain rfl := Option.some.inj ho
          obtain rfl : r3 = none := by cases r3 with | none => rfl | some _ => rw [hs] at e3; cases e3
          go_simp
          refine ⟨trivial, (callsIn_wide.2 (HCP.out _ (hB4.trans (hBw.mono hwN)))).mono ?_⟩
          rintro e w1 ⟨A1, c1, rfl, hO, hb⟩
          refine hK _ _ (hBw.trans (hb.mono (Nat.le_trans hle hBw.size))) ⟨r1, some (A1, c1), x4, x5, by simpa [upd] using e1, by simp [upd], by simpa [upd] using e4, by simpa [upd] using e5, by kernel_rfl, hH.fresh 1 rfl hb (Nat.le_refl _) hO.out (Nat.le_trans hle hBw.size), hBw.trans (hb.mono (Nat.le_trans hle hBw.size))⟩
        · obtain rfl := Option.some.inj ho
          obtain rfl : x4 = none := by cases x4 with | none => rfl | some _ => rw [hs] at e4; cases e4
          go_simp
          have hb : Below W1.heap.size W1 (W1.alloc (.cells #[.slice none 0 0, .int .i64 0, .int .i64 0, .int .i64 0] 26)) := (Below.refl _ _).alloc (Nat.le_refl _) _
          refine hK _ _ (hBw.trans (hb.mono (Nat.le_trans hle hBw.size))) ⟨r1, r3, some W1.heap.size, x5, by simpa [upd] using e1, by simpa [upd] using e3, by simp [upd], by simpa [upd] using e5, by kernel_rfl, hH.fresh 2 rfl hb (Nat.le_refl _) (show BoxS _ _ _ _ ∧ _ ≤ _ from ⟨BoxS.new W1 26 #[.slice none 0 0, .int .i64 0, .int .i64 0, .int .i64 0], Nat.le_refl _⟩) (Nat.le_trans hle hBw.size), hBw.trans (hb.mono (Nat.le_trans hle hBw.size))⟩
        · obtain rfl := Option.some.inj ho
          obtain rfl : x5 = none := by cases x5 with | none => rfl | some _ => rw [hs] at e5; cases e5
          go_simp
          have hb : Below W1.heap.size W1 (W1.alloc (.cells #[.slice none 0 0, .int .i64 0, .int .i64 0, .int .i64 0] 26)) := (Below.refl _ _).alloc (Nat.le_refl _) _
          refine hK _ _ (hBw.trans (hb.mono (Nat.le_trans hle hBw.size))) ⟨r1, r3, x4, some W1.heap.size, by simpa [upd] using e1, by simpa [upd] using e3, by simpa [upd] using e4, by simp [upd], by kernel_rfl, hH.fresh 3 rfl hb (Nat.le_refl _) (show BoxS _ _ _ _ ∧ _ ≤ _ from ⟨BoxS.new W1 26 #[.slice none 0 0, .int .i64 0, .int .i64 0, .int .i64 0], Nat.le_refl _⟩) (Nat.le_trans hle hBw.size), hBw.trans (hb.mono (Nat.le_trans hle hBw.size))⟩
      · intro s a W1 hall hI
        obtain ⟨r1, r3, x4, x5, e1, e3, e4, e5, rfl, hH, hBw⟩ := hI
        rw [hall 1 (by simp)] at e1
        rw [hall 3 (by simp)] at e3
        rw [hall 4 (by simp)] at e4
        rw [hall 5 (by simp)] at e5
        obtain ⟨⟨A3, c3⟩, rfl⟩ := Option.isSome_iff_exists.1 e1.symm
        obtain ⟨⟨A4, c4⟩, rfl⟩ := Option.isSome_iff_exists.1 e3.symm
        obtain ⟨BP, rfl⟩ := Option.isSome_iff_exists.1 e4.symm
        obtain ⟨BQ, rfl⟩ := Option.isSome_iff_exists.1 e5.symm
        clear e1 e3 e4 e5 hall HCP
        unfold cpV5 bxV5
        unfold cpT5 bxT5 at hH
        dsimp only at hH
        have hbx : BoxS W1 BP 26 #[.slice none 0 0, .int .i64 0, .int .i64 0, .int .i64 0] ∧ NB ≤ BP := hH.get 2 rfl
        obtain ⟨hbx, hNBx⟩ := hbx
        obtain ⟨o0, o1, o2, o3⟩ := boxS4 hbx
        have f0 := hbx.frozen 0
        have f1 := hbx.frozen 1
        have f2 := hbx.frozen 2
        have f3 := hbx.frozen 3
        refine wpHeldIn_one (i := 6) (by kernel_rfl) (by kernel_rfl) rfl (by kernel_rfl) (fun K' hK' => ?_)
        go_simp
        have qn : Below NB w4 ((((W1.setCell ⟨BP, 0, none⟩ (.slice A3 ps.length c3)).setCell ⟨BP, 1, none⟩ (.int .i64 cl)).setCell ⟨BP, 2, none⟩ (.int .i64 lo)).setCell ⟨BP, 3, none⟩ (.int .i64 hi)) := by (repeat' (first | (with_reducible exact Below.refl _ _) | (with_reducible assumption) | (with_reducible refine Below.alloc ?_ ?_ _) | (with_reducible refine Below.drew ?_) | (with_reducible refine Below.setCell ?_ ?_ _) | go_size | (exact (by simp)) | omega))
        refine hK' _ _ qn ?_
        clear hK' K' o0 o1 o2 o3 f0 f1 f2 f3 hbx hNBx hBw
        have hH2 : Has ((((W1.setCell ⟨BP, 0, none⟩ (.slice A3 ps.length c3)).setCell ⟨BP, 1, none⟩ (.int .i64 cl)).setCell ⟨BP, 2, none⟩ (.int .i64 lo)).setCell ⟨BP, 3, none⟩ (.int .i64 hi)) NB [.row (.slice A3 ps.length c3) 28 2 ps.length (flat ps), .row (.slice A4 ps.length c4) 28 2 ps.length (flat ps), .box BP 26 #[.slice A3 ps.length c3, .int .i64 cl, .int .i64 lo, .int .i64 hi], .box BQ 26 #[.slice none 0 0, .int .i64 0, .int .i64 0, .int .i64 0]] := hH.fourM 2 rfl (.slice A3 ps.length c3) (.int .i64 cl) (.int .i64 lo) (.int .i64 hi)
        have hH := hH2
        have hBw := qn
        clear hH2 qn
        generalize World.setCell (World.setCell (World.setCell (World.setCell W1 _ _) _ _) _ _) _ _ = W2 at *
        have hbx : BoxS W2 BQ 26 #[.slice none 0 0, .int .i64 0, .int .i64 0, .int .i64 0] ∧ NB ≤ BQ := hH.get 3 rfl
        obtain ⟨hbx, hNBx⟩ := hbx
        obtain ⟨o0, o1, o2, o3⟩ := boxS4 hbx
        have f0 := hbx.frozen 0
        have f1 := hbx.frozen 1
        have f2 := hbx.frozen 2
        have f3 := hbx.frozen 3
        refine wpHeldIn_one (i := 7) (by kernel_rfl) (by kernel_rfl) rfl (by kernel_rfl) (fun K' hK' => ?_)
        go_simp
        have qn : Below NB w4 ((((W2.setCell ⟨BQ, 0, none⟩ (.slice A4 ps.length c4)).setCell ⟨BQ, 1, none⟩ (.int .i64 cl)).setCell ⟨BQ, 2, none⟩ (.int .i64 lo)).setCell ⟨BQ, 3, none⟩ (.int .i64 hi)) := by (repeat' (first | (with_reducible exact Below.refl _ _) | (with_reducible assumption) | (with_reducible refine Below.alloc ?_ ?_ _) | (with_reducible refine Below.drew ?_) | (with_reducible refine Below.setCell ?_ ?_ _) | go_size | (exact (by simp)) | omega))
        refine hK' _ _ qn ?_
        clear hK' K' o0 o1 o2 o3 f0 f1 f2 f3 hbx hNBx hBw
        have hH2 : Has ((((W2.setCell ⟨BQ, 0, none⟩ (.slice A4 ps.length c4)).setCell ⟨BQ, 1, none⟩ (.int .i64 cl)).setCell ⟨BQ, 2, none⟩ (.int .i64 lo)).setCell ⟨BQ, 3, none⟩ (.int .i64 hi)) NB [.row (.slice A3 ps.length c3) 28 2 ps.length (flat ps), .row (.slice A4 ps.length c4) 28 2 ps.length (flat ps), .box BP 26 #[.slice A3 ps.length c3, .int .i64 cl, .int .i64 lo, .int .i64 hi], .box BQ 26 #[.slice A4 ps.length c4, .int .i64 cl, .int .i64 lo, .int .i64 hi]] := hH.fourM 3 rfl (.slice A4 ps.length c4) (.int .i64 cl) (.int .i64 lo) (.int .i64 hi)
        have hH := hH2
        have hBw := qn
        clear hH2 qn
        generalize World.setCell (World.setCell (World.setCell (World.setCell W2 _ _) _ _) _ _) _ _ = W3 at *
        refine wpHeldIn_done (by kernel_rfl) ?_ _
        go_simp
        obtain ⟨wz, rfl⟩ : ∃ w, w = W3 := ⟨_, rfl⟩
        have hBN7 : Below NB w4 wz := hBw
        have hNz : NB ≤ wz.heap.size := Nat.le_trans hle hBN7.size
        have bT7 := HS.out _ hBN7
        have bX7 := HX.out _ hBN7
        clear hBw KC q0 bT4 bX4 hB4
        have hPb : BoxS wz BP 26 #[.slice A3 ps.length c3, .int .i64 cl, .int .i64 lo, .int .i64 hi] ∧ NB ≤ BP := hH.get 2 rfl
        have hQb : BoxS wz BQ 26 #[.slice A4 ps.length c4, .int .i64 cl, .int .i64 lo, .int .i64 hi] ∧ NB ≤ BQ := hH.get 3 rfl
        have hNP := hPb.2
        have hNQ := hQb.2
        obtain ⟨s0, s1, s2, s3⟩ := boxS4 bT7
        obtain ⟨x0, x1, x2, x3⟩ := boxS4 bX7
        obtain ⟨p0, p1, p2, p3⟩ := boxS4 hPb.1
        have lT7 := bT7.lt
        have lX7 := bX7.lt
        have lP7 := hPb.1.lt
        have pf2 := hPb.1.frozen 2
        have pf3 := hPb.1.frozen 3
        go_upto_region 8 with fail
        go_cut [83] from 77 to 92 (fun a wx => wx = (wz.setCell ⟨BP, 2, none⟩ (.int .i64 lo')).setCell ⟨BP, 3, none⟩ (.int .i64 hi'))
        case first => as_aux_lemma =>
          rcases hlo' with ⟨g1, rfl⟩ | ⟨g1, rfl⟩ <;> rcases hhi' with ⟨g2, rfl⟩ | ⟨g2, rfl⟩
          all_goals go_wp2_with fail
          all_goals first
            | (exfalso; omega)
            | (go_meet; first | rfl | (congr 3 <;> omega))
        case rest =>
        subst hcut
        have hH8 : Has ((wz.setCell ⟨BP, 2, none⟩ (.int .i64 lo')).setCell ⟨BP, 3, none⟩ (.int .i64 hi')) NB [.row (.slice A3 ps.length c3) 28 2 ps.length (flat ps), .row (.slice A4 ps.length c4) 28 2 ps.length (flat ps), .box BP 26 #[.slice A3 ps.length c3, .int .i64 cl, .int .i64 lo', .int .i64 hi'], .box BQ 26 #[.slice A4 ps.length c4, .int .i64 cl, .int .i64 lo, .int .i64 hi]] := (hH.putM 2 rfl 2 (.int .i64 lo')).putM 2 rfl 3 (.int .i64 hi')
        have hB8 : Below NB w4 ((wz.setCell ⟨BP, 2, none⟩ (.int .i64 lo')).setCell ⟨BP, 3, none⟩ (.int .i64 hi')) := by have := hBN7; (repeat' (first | (with_reducible exact Below.refl _ _) | (with_reducible assumption) | (with_reducible refine Below.alloc ?_ ?_ _) | (with_reducible refine Below.drew ?_) | (with_reducible refine Below.setCell ?_ ?_ _) | go_size | (exact (by simp)) | omega))
        clear hPb hQb p0 p1 p2 p3 pf2 pf3 s0 s1 s2 s3 x0 x1 x2 x3 lT7 lX7 lP7 hBN7 hH hNz bT7 bX7 hlo' hhi' hwr1 hwr2
        generalize World.setCell (World.setCell wz _ _) _ _ = w8 at *
        have hNz : NB ≤ w8.heap.size := Nat.le_trans hle hB8.size
        have bX8 := HX.out _ hB8
        have hQb : BoxS w8 BQ 26 #[.slice A4 ps.length c4, .int .i64 cl, .int .i64 lo, .int .i64 hi] ∧ NB ≤ BQ := hH8.get 3 rfl
        obtain ⟨x0, x1, x2, x3⟩ := boxS4 bX8
        obtain ⟨p0, p1, p2, p3⟩ := boxS4 hQb.1
        have pf0 := hQb.1.frozen 0
        have lX8 := bX8.lt
        have lQ8 := hQb.1.lt
        have hrB : Hid (w8.ownsRow NB 28 2 (.slice A4 ps.length c4) ps.length (flat ps)) := hH8.get 1 rfl
        go_upto_region 10 with (at_builtin; go_must (refine wpList_pushpt rfl (.tmp 94) (.tmp 97) rfl (xp, xq) NB _ ps.length (flat ps) rfl rfl hrB.out hNz (by omega) ?_; intro v' w9 hown9 hgr9 hfr9; (obtain ⟨A6, c6, rfl⟩ := own_formP hown9); (have hH9 : Has w9 NB [.row (.slice A3 ps.length c3) 28 2 ps.length (flat ps), .row (.slice A6 (ps.length + 1) c6) 28 2 (ps.length + 1) (flat ps ++ flat [(xp, xq)]), .box BP 26 #[.slice A3 ps.length c3, .int .i64 cl, .int .i64 lo', .int .i64 hi'], .box BQ 26 #[.slice A4 ps.length c4, .int .i64 cl, .int .i64 lo, .int .i64 hi]] := hH8.change 1 rfl hgr9 (fun g e => e) hown9 hfr9); (have hB9 : Below NB w4 w9 := hB8.trans (below_of_grownM hgr9 hNz (fun g e => (Thing.lt (hH8.get 1 rfl) e).1))); clear hown9 hgr9 hfr9 p0 p1 p2 p3 pf0; (obtain ⟨p0, p1, p2, p3⟩ := boxS4 (hH9.get 3 rfl : BoxS w9 BQ 26 #[.slice A4 ps.length c4, .int .i64 cl, .int .i64 lo, .int .i64 hi] ∧ NB ≤ BQ).1); (have pf0 := (hH9.get 3 rfl : BoxS w9 BQ 26 #[.slice A4 ps.length c4, .int .i64 cl, .int .i64 lo, .int .i64 hi] ∧ NB ≤ BQ).1.frozen 0)))
        have hHn : Has (w9.setCell ⟨BQ, 0, none⟩ (.slice A6 (ps.length + 1) c6)) NB [.row (.slice A3 ps.length c3) 28 2 ps.length (flat ps), .row (.slice A6 (ps.length + 1) c6) 28 2 (ps.length + 1) (flat ps ++ flat [(xp, xq)]), .box BP 26 #[.slice A3 ps.length c3, .int .i64 cl, .int .i64 lo', .int .i64 hi'], .box BQ 26 #[.slice A6 (ps.length + 1) c6, .int .i64 cl, .int .i64 lo, .int .i64 hi]] := hH9.putM 3 rfl 0 (.slice A6 (ps.length + 1) c6)
        have hBn : Below NB w4 (w9.setCell ⟨BQ, 0, none⟩ (.slice A6 (ps.length + 1) c6)) := by have := hB9; (repeat' (first | (with_reducible exact Below.refl _ _) | (with_reducible assumption) | (with_reducible refine Below.alloc ?_ ?_ _) | (with_reducible refine Below.drew ?_) | (with_reducible refine Below.setCell ?_ ?_ _) | go_size | (exact (by simp)) | omega))
        clear hH9 hB9 p0 p1 p2 p3 pf0 hrB hH8 hQb x0 x1 x2 x3 lX8 lQ8 bX8 hNz hB8
        generalize World.setCell w9 _ _ = wy at *
        have bT9 := HS.out _ hBn
        have hBw9 := HBW.out _ hBn
        have bP9 : BoxS wy BP 26 #[.slice A3 ps.length c3, .int .i64 cl, .int .i64 lo', .int .i64 hi'] := (hHn.get 2 rfl : BoxS wy BP 26 #[.slice A3 ps.length c3, .int .i64 cl, .int .i64 lo', .int .i64 hi'] ∧ NB ≤ BP).1
        have bQ9 : BoxS wy BQ 26 #[.slice A6 (ps.length + 1) c6, .int .i64 cl, .int .i64 lo, .int .i64 hi] := (hHn.get 3 rfl : BoxS wy BQ 26 #[.slice A6 (ps.length + 1) c6, .int .i64 cl, .int .i64 lo, .int .i64 hi] ∧ NB ≤ BQ).1
        have hPa : Hid (Prs wy wy.heap.size A3 ps) := prsP_of_own (hHn.get 0 rfl : wy.ownsRow NB 28 2 (.slice A3 ps.length c3) ps.length (flat ps))
        have hPq : Hid (Prs wy wy.heap.size A6 (ps ++ [(xp, xq)])) := by
          have h := (hHn.get 1 rfl : wy.ownsRow NB 28 2 (.slice A6 (ps.length + 1) c6) (ps.length + 1) (flat ps ++ flat [(xp, xq)]))
          rw [← flat_append] at h
          have e : ps.length + 1 = (ps ++ [(xp, xq)]).length := by simp
          rw [e] at h
          exact prsP_of_own h
        clear hHn hBn HS HX HBW hNP hNQ hSN hXN hNB hle hwN
        obtain ⟨w10, rfl⟩ : ∃ w10, w10 = wy := ⟨_, rfl⟩
        have bT10 := bT9
        have bP10 := bP9
        have bQ10 := bQ9
        have hB10 := hBw9
        clear bT9 bP9 bQ9 hBw9
        have pa10 := hPa
        have pq10 := hPq
        clear hPa hPq
        have ct0 : w10.cell? ⟨w.heap.size, 0, none⟩ = some (.slice A ps.length c) := bT10.cell 0 rfl
        have ct1 : w10.cell? ⟨w.heap.size, 1, none⟩ = some (.int .i64 cl) := bT10.cell 1 rfl
        have ct2 : w10.cell? ⟨w.heap.size, 2, none⟩ = some (.int .i64 lo) := bT10.cell 2 rfl
        have ct3 : w10.cell? ⟨w.heap.size, 3, none⟩ = some (.int .i64 hi) := bT10.cell 3 rfl
        have lT10 := bT10.lt
        have cp0 : w10.cell? ⟨BP, 0, none⟩ = some (.slice A3 ps.length c3) := bP10.cell 0 rfl
        have cp1 : w10.cell? ⟨BP, 1, none⟩ = some (.int .i64 cl) := bP10.cell 1 rfl
        have cp2 : w10.cell? ⟨BP, 2, none⟩ = some (.int .i64 lo') := bP10.cell 2 rfl
        have cp3 : w10.cell? ⟨BP, 3, none⟩ = some (.int .i64 hi') := bP10.cell 3 rfl
        have lP10 := bP10.lt
        have cq0 : w10.cell? ⟨BQ, 0, none⟩ = some (.slice A6 (ps.length + 1) c6) := bQ10.cell 0 rfl
        have cq1 : w10.cell? ⟨BQ, 1, none⟩ = some (.int .i64 cl) := bQ10.cell 1 rfl
        have cq2 : w10.cell? ⟨BQ, 2, none⟩ = some (.int .i64 lo) := bQ10.cell 2 rfl
        have cq3 : w10.cell? ⟨BQ, 3, none⟩ = some (.int .i64 hi) := bQ10.cell 3 rfl
        have lQ10 := bQ10.lt
        go_wp2_with fail
        refine (HWK.out _).mono ?_
        rintro e wz ⟨rfl, hbz⟩
        have hBz := hB10.trans (hbz.mono hB10.size)
        go_wp2_with fail
        go_returns
        exact ⟨rfl, hBz⟩
theorem lawMo_walk (t : Wl.Trk) (A : Option Addr) (c : Nat) (Aw : Option Addr) (cw : Nat) (ws : List (Int × Int)) (xa xb xp xq : Int) (w : World) (_h1 : t.ps.length ≤ maxLen) (hP : Prs w w.heap.size A t.ps) (_h2 : ws.length ≤ maxLen) (hQ : Prs w w.heap.size Aw ws) :
    Calls Try.prog 9 #[.agg (trV t A c), .slice Aw ws.length cw, .agg #[.int .i64 xa, .int .i64 xb, .int .i64 xp, .int .i64 xq]] w fun e w' => e = .returned (.bool true) ∧ Below w.heap.size w w' := by
  cases h : Wl.readyB t ws with
  | false => exact Mo_early t ws xa xb xp xq A Aw c cw w hP hQ (.inl h)
  | true =>
    by_cases g : xa < 0 ∨ xb < 0 ∨ 320000 < xa ∨ 320000 < xb
    · exact Mo_early t ws xa xb xp xq A Aw c cw w hP hQ (.inr ⟨h, g⟩)
    · exact Mo_short t ws xa xb xp xq A Aw c cw w hP hQ h (by omega) (by omega) (by omega) (by omega)

open Go.ChangeShapes Go.WideShapes Go.ChangeAt Go.RowKit Go.Joins Go.Deep
section
variable {H : Type} {enc : TypeId × Value → H} {w : World} {base : Nat} {spare : Nat → Bool} {held : Bool} {r : Reach} {b0 : Nat} {v : Value} {d : DataW H} {p : List MemPlace}
set_option maxRecDepth 100000 in
theorem trod_pt_cells {n : Nat} {c0 c1 : Value} {x : DataW H × List MemPlace} (h : DataW.trod enc Try.prog w base spare held n 28 [c0, c1] = some x) : ∃ a b : Int, c0 = .int .i64 a ∧ c1 = .int .i64 b := by
  obtain ⟨y0, y1, m, hx, _, h0, h1⟩ := trod_struct2 Try.underlying28 h
  obtain ⟨a, e0, rfl, wa⟩ := DataW.trod_int Try.underlying3 (by simpa using h0)
  obtain ⟨b, e1, rfl, wb⟩ := DataW.trod_int Try.underlying3 (by simpa using h1)
  rw [cells_int5] at e0 e1
  exact ⟨a, b, by simpa using e0, by simpa using e1⟩
set_option maxRecDepth 100000 in
theorem open_More5 (hv : Value.okWide Try.prog w r b0 60 v) (h : DataW.Trod enc Try.prog w base spare held 60 v d p) :
    ∃ xa xb xp xq : Int, v = .agg #[.int .i64 xa, .int .i64 xb, .int .i64 xp, .int .i64 xq] := by
  obtain ⟨cs, rfl, hsz⟩ := okWide_struct Try.underlying60 hv
  obtain ⟨l⟩ := cs
  match l, hsz.trans (by kernel_rfl : Try.prog.cellsOf 60 = 4) with
  | [c0, c1, c2, c3], _ =>
    obtain ⟨fuel, hf⟩ := h
    obtain ⟨xs, n, _, hx, _, hlen, hg⟩ := DataW.trod_struct Try.underlying60 hf
    match xs, hlen with
    | [y0, y1, y2], _ =>
      have g0 := hg 0 _ rfl
      have g1 := hg 1 _ rfl
      have g2 := hg 2 _ rfl
      simp [Value.cells, cells_int5, cells_pt5] at g0 g1 g2
      obtain ⟨xa, e1, rfl, _⟩ := DataW.trod_int Try.underlying3 g0
      obtain ⟨xb, e2, rfl, _⟩ := DataW.trod_int Try.underlying3 g1
      obtain ⟨xp, xq, rfl, rfl⟩ := trod_pt_cells g2
      simp at e1 e2
      subst e1 e2
      exact ⟨xa, xb, xp, xq, rfl⟩
end

open Go.ChangeShapes Go.WideShapes Go.ChangeAt Go.RowKit Go.Joins

set_option maxRecDepth 100000 in
theorem more5_lifted (os : Os) (started : os.Started) (H : Type) (enc : TypeId × Value → H) :
    ReturnsInHanded {} Try.checked os 9 .any (Rows.walksMoreSpec.pre6 enc Try.prog Try.f9 Rows.walksMoreRow.domain false) (Rows.walksMoreSpec.post enc Try.prog Try.f9 false true false false) := by
  refine returnsInHanded_of_change (C := Try.checked) own started (by kernel_rfl) Try.func9
    (ChangeSpec.witness6 (enc := enc) (C := Try.checked) false ⟨#[], #[.agg #[.slice none 0 0, .int .i64 0, .int .i64 0, .int .i64 0], .slice none 0 0, .agg #[.int .i64 0, .int .i64 0, .int .i64 0, .int .i64 0]], []⟩ 8 (by kernel_rfl) (by kernel_rfl) (by kernel_rfl) (by kernel_rfl)) ?_
  intro W base args ds gs before hval0 hW hcnd _
  have hval : ∀ (j : Nat) t v, Try.f9.params[j]? = some t → args[j]? = some v → Value.okWide Try.prog W .any base t v := hval0
  have hW' := hW
  obtain ⟨p, q, hA0, hV, rfl, hfz, hnd⟩ := hW
  have hA : DataW.TrodAll enc Try.prog W 0 (fun _ => true) true Try.f9.params.toList args.toList ds p := hA0
  rw [Try.params9] at hA hval
  obtain ⟨v0, v1, v2, d0, d1, d2, p0, p1, p2, rfl, rfl, rfl, h0, h1, h2⟩ := trodAll_three hA
  obtain ⟨rfl, rfl⟩ := trodVars_none hV
  obtain ⟨t, A, c, rfl, hg_t, hl_t⟩ := open_Track (hval 0 26 v0 rfl rfl) h0
  obtain ⟨Aw, cw, ws, rfl, hg_ws, hl_ws⟩ := open_prs Try.underlying22 Try.underlying28 (by kernel_rfl) (by kernel_rfl) (by kernel_rfl) (by kernel_rfl) (by kernel_rfl) Try.underlying3 Try.underlying3 (hval 1 22 v1 rfl rfl) h1
  obtain ⟨xa, xb, xp, xq, rfl⟩ := open_More5 (hval 2 60 v2 rfl rfl) h2
  refine (lawMo_walk t A c Aw cw ws xa xb xp xq W hl_t hg_t hl_ws hg_ws).mono fun e W' ⟨he, hb⟩ => ?_
  subst he
  exact ⟨_, rfl, law_post hW' rfl rfl (by intro t ht; have : t = 26 ∨ t = 22 ∨ t = 60 := (by rw [Try.params9] at ht; simpa using ht); rcases this with rfl | rfl | rfl <;> exact ⟨by kernel_rfl, of_decide_eq_true (by kernel_rfl)⟩) rfl rfl rfl hb⟩

theorem more5_holds : Rows.WalksMoreSaid :=
  OpenClaim.holds_of_wide 9 Try.f9 rfl rfl rfl rfl rfl rfl rfl ⟨rfl, rfl, rfl, rfl, rfl⟩ rfl rfl rfl rfl rfl (by kernel_rfl) Try.func9 (by kernel_rfl)
    (of_decide_eq_true (by kernel_rfl)) (by unfold Func.isWrapper; rw [if_neg (of_decide_eq_false (by kernel_rfl))]; exact ⟨rfl, rfl⟩)
    (fun os started H enc _ => more5_lifted os started H enc)
end Go.Proofs.Ytmjcdggmofohcaa
