/- Plain facts on polygons: what becomes of their sums and of their being valid where the corners are moved, made larger, begun elsewhere, turned around, or where X and Y are exchanged; where the centre lies. No program is named here. -/
import Derived.Test.YtkfnngcphcfbjaaArea
import Derived.Test.YtkfnngcphcfbjaaFrac
namespace Go.Proofs.Ytkfnngcphcfbjaa
namespace Geo
open Area (nxt sum_next nxt_lt nxt_val)
theorem tot_range (f : Pt × Pt → Int) (ps : List Pt) : tot f ps = ((List.range ps.length).map fun j => f (ptAt ps j, ptAt ps (nxt ps.length j))).sum := by
  unfold tot sidesL
  rw [List.map_map]
  rfl
theorem sumZ_add (f g : Nat → Int) (n : Nat) : ((List.range n).map fun j => f j + g j).sum = ((List.range n).map f).sum + ((List.range n).map g).sum := by
  induction n with
  | zero => rfl
  | succ n ih => rw [List.range_succ]; simp only [List.map_append, List.sum_append, List.map_cons, List.map_nil, List.sum_cons, List.sum_nil]; rw [ih]; omega
theorem sumZ_mul (c : Int) (f : Nat → Int) (n : Nat) : ((List.range n).map fun j => c * f j).sum = c * ((List.range n).map f).sum := by
  induction n with
  | zero => simp
  | succ n ih => rw [List.range_succ]; simp only [List.map_append, List.sum_append, List.map_cons, List.map_nil, List.sum_cons, List.sum_nil]; rw [ih]; grind
theorem sumZ_congr {f g : Nat → Int} {n : Nat} (h : ∀ j, j < n → f j = g j) : ((List.range n).map f).sum = ((List.range n).map g).sum := by
  rw [List.map_congr_left (fun j hj => h j (List.mem_range.1 hj))]
/-- A sum over the sides of changed corners, out of sums over the sides. -/
theorem tot_changed {ps qs : List Pt} (hl : qs.length = ps.length) (hn : 0 < ps.length) (g : Pt → Pt) (hq : ∀ j, j < ps.length → ptAt qs j = g (ptAt ps j)) (f f1 f2 f3 : Pt × Pt → Int) (c1 c2 c3 : Int) (G : Pt → Int)
    (h : ∀ a b : Pt, f (g a, g b) = c1 * f1 (a, b) + c2 * f2 (a, b) + c3 * f3 (a, b) + (G b - G a)) : tot f qs = c1 * tot f1 ps + c2 * tot f2 ps + c3 * tot f3 ps := by
  rw [tot_range, tot_range, tot_range, tot_range, hl]
  rw [sumZ_congr (g := fun j => c1 * f1 (ptAt ps j, ptAt ps (nxt ps.length j)) + c2 * f2 (ptAt ps j, ptAt ps (nxt ps.length j)) + c3 * f3 (ptAt ps j, ptAt ps (nxt ps.length j)) + (G (ptAt ps (nxt ps.length j)) - G (ptAt ps j))) (fun j hj => by rw [hq j hj, hq _ (nxt_lt hj), h])]
  rw [sumZ_add, sumZ_add, sumZ_add, sumZ_mul, sumZ_mul, sumZ_mul, sum_next (fun j => G (ptAt ps j)) hn, Int.add_zero]
theorem moved_fan {ps qs : List Pt} (hl : qs.length = ps.length) (hn : 0 < ps.length) {a b : Int} (hq : ∀ j, j < ps.length → ptAt qs j = ((ptAt ps j).1 + a, (ptAt ps j).2 + b)) : tot fanV qs = tot fanV ps := by
  have := tot_changed hl hn (fun p => (p.1 + a, p.2 + b)) hq fanV fanV fanV fanV 1 0 0 (fun p => a * p.2 - b * p.1) (fun p q => by unfold fanV turn; grind)
  omega
theorem moved_fx {ps qs : List Pt} (hl : qs.length = ps.length) (hn : 0 < ps.length) {a b : Int} (hq : ∀ j, j < ps.length → ptAt qs j = ((ptAt ps j).1 + a, (ptAt ps j).2 + b)) : tot fxV qs = tot fxV ps + 3 * a * tot fanV ps := by
  have := tot_changed hl hn (fun p => (p.1 + a, p.2 + b)) hq fxV fxV fanV fanV 1 (3 * a) 0 (fun p => fxV ((a, b), (p.1 + a, p.2 + b))) (fun p q => by unfold fxV fanV turn; grind)
  omega
theorem moved_fy {ps qs : List Pt} (hl : qs.length = ps.length) (hn : 0 < ps.length) {a b : Int} (hq : ∀ j, j < ps.length → ptAt qs j = ((ptAt ps j).1 + a, (ptAt ps j).2 + b)) : tot fyV qs = tot fyV ps + 3 * b * tot fanV ps := by
  have := tot_changed hl hn (fun p => (p.1 + a, p.2 + b)) hq fyV fyV fanV fanV 1 (3 * b) 0 (fun p => fyV ((a, b), (p.1 + a, p.2 + b))) (fun p q => by unfold fyV fanV turn; grind)
  omega
theorem moved_xx {ps qs : List Pt} (hl : qs.length = ps.length) (hn : 0 < ps.length) {a b : Int} (hq : ∀ j, j < ps.length → ptAt qs j = ((ptAt ps j).1 + a, (ptAt ps j).2 + b)) : tot xxV qs = tot xxV ps + 4 * a * tot fxV ps + 6 * a * a * tot fanV ps := by
  have := tot_changed hl hn (fun p => (p.1 + a, p.2 + b)) hq xxV xxV fxV fanV 1 (4 * a) (6 * a * a) (fun p => xxV ((a, b), (p.1 + a, p.2 + b))) (fun p q => by unfold xxV fxV fanV turn; grind)
  omega
theorem moved_yy {ps qs : List Pt} (hl : qs.length = ps.length) (hn : 0 < ps.length) {a b : Int} (hq : ∀ j, j < ps.length → ptAt qs j = ((ptAt ps j).1 + a, (ptAt ps j).2 + b)) : tot yyV qs = tot yyV ps + 4 * b * tot fyV ps + 6 * b * b * tot fanV ps := by
  have := tot_changed hl hn (fun p => (p.1 + a, p.2 + b)) hq yyV yyV fyV fanV 1 (4 * b) (6 * b * b) (fun p => yyV ((a, b), (p.1 + a, p.2 + b))) (fun p q => by unfold yyV fyV fanV turn; grind)
  omega
theorem moved_xy {ps qs : List Pt} (hl : qs.length = ps.length) (hn : 0 < ps.length) {a b : Int} (hq : ∀ j, j < ps.length → ptAt qs j = ((ptAt ps j).1 + a, (ptAt ps j).2 + b)) : tot xyV qs = tot xyV ps + 4 * b * tot fxV ps + 4 * a * tot fyV ps + 12 * a * b * tot fanV ps := by
  have h1 := tot_changed hl hn (fun p => (p.1 + a, p.2 + b)) hq (fun s => xyV s - 12 * a * b * fanV s) xyV fxV fyV 1 (4 * b) (4 * a) (fun p => xyV ((a, b), (p.1 + a, p.2 + b)) - 12 * a * b * fanV ((a, b), (p.1 + a, p.2 + b))) (fun p q => by unfold xyV fxV fyV fanV turn; grind)
  have h2 := tot_changed rfl (by omega : 0 < qs.length) (fun p => p) (fun j _ => rfl) (fun s => xyV s - 12 * a * b * fanV s) xyV fanV fanV 1 (-(12 * a * b)) 0 (fun _ => 0) (fun p q => by grind)
  rw [moved_fan hl hn hq] at h2
  have e : -(12 * a * b) * tot fanV ps = - (12 * a * b * tot fanV ps) := by grind
  omega
theorem larger_fan {ps qs : List Pt} (hl : qs.length = ps.length) (hn : 0 < ps.length) {k : Int} (hq : ∀ j, j < ps.length → ptAt qs j = (k * (ptAt ps j).1, k * (ptAt ps j).2)) : tot fanV qs = k * k * tot fanV ps := by
  have := tot_changed hl hn (fun p => (k * p.1, k * p.2)) hq fanV fanV fanV fanV (k * k) 0 0 (fun _ => 0) (fun p q => by unfold fanV turn; grind)
  omega
theorem larger_fx {ps qs : List Pt} (hl : qs.length = ps.length) (hn : 0 < ps.length) {k : Int} (hq : ∀ j, j < ps.length → ptAt qs j = (k * (ptAt ps j).1, k * (ptAt ps j).2)) : tot fxV qs = k * k * k * tot fxV ps := by
  have := tot_changed hl hn (fun p => (k * p.1, k * p.2)) hq fxV fxV fanV fanV (k * k * k) 0 0 (fun _ => 0) (fun p q => by unfold fxV fanV turn; grind)
  omega
theorem larger_fy {ps qs : List Pt} (hl : qs.length = ps.length) (hn : 0 < ps.length) {k : Int} (hq : ∀ j, j < ps.length → ptAt qs j = (k * (ptAt ps j).1, k * (ptAt ps j).2)) : tot fyV qs = k * k * k * tot fyV ps := by
  have := tot_changed hl hn (fun p => (k * p.1, k * p.2)) hq fyV fyV fanV fanV (k * k * k) 0 0 (fun _ => 0) (fun p q => by unfold fyV fanV turn; grind)
  omega
theorem larger_xx {ps qs : List Pt} (hl : qs.length = ps.length) (hn : 0 < ps.length) {k : Int} (hq : ∀ j, j < ps.length → ptAt qs j = (k * (ptAt ps j).1, k * (ptAt ps j).2)) : tot xxV qs = k * k * k * k * tot xxV ps := by
  have := tot_changed hl hn (fun p => (k * p.1, k * p.2)) hq xxV xxV fanV fanV (k * k * k * k) 0 0 (fun _ => 0) (fun p q => by unfold xxV fanV turn; grind)
  omega
theorem larger_xy {ps qs : List Pt} (hl : qs.length = ps.length) (hn : 0 < ps.length) {k : Int} (hq : ∀ j, j < ps.length → ptAt qs j = (k * (ptAt ps j).1, k * (ptAt ps j).2)) : tot xyV qs = k * k * k * k * tot xyV ps := by
  have := tot_changed hl hn (fun p => (k * p.1, k * p.2)) hq xyV xyV fanV fanV (k * k * k * k) 0 0 (fun _ => 0) (fun p q => by unfold xyV fanV turn; grind)
  omega
theorem larger_yy {ps qs : List Pt} (hl : qs.length = ps.length) (hn : 0 < ps.length) {k : Int} (hq : ∀ j, j < ps.length → ptAt qs j = (k * (ptAt ps j).1, k * (ptAt ps j).2)) : tot yyV qs = k * k * k * k * tot yyV ps := by
  have := tot_changed hl hn (fun p => (k * p.1, k * p.2)) hq yyV yyV fanV fanV (k * k * k * k) 0 0 (fun _ => 0) (fun p q => by unfold yyV fanV turn; grind)
  omega
def validP (ps : List Pt) : Prop := (3 ≤ ps.length ∧ ps.length ≤ 10) ∧ difP ps ∧ freeP ps
theorem ptAt_get {ps : List Pt} {k : Nat} (h : k < ps.length) : ptAt ps k = ps[k] := by unfold ptAt; rw [List.getElem?_eq_getElem h]; rfl
theorem turn_rev (a b c : Pt) : turn b a c = - turn a b c := by unfold turn; grind
theorem btw_rev (a b c : Int) : btwB c b a = btwB a b c := by unfold btwB; rw [Int.min_comm, Int.max_comm]
theorem onB_rev (a b p : Pt) : onB b a p = onB a b p := by
  unfold onB
  rw [turn_rev, btw_rev a.1 p.1 b.1, btw_rev a.2 p.2 b.2]
  congr 1
  exact decide_eq_decide.2 (by omega)
theorem passB_rev (a b p : Pt) : passB b a p = passB a b p := by
  unfold passB
  rw [onB_rev]
  cases decide (p ≠ a) <;> cases decide (p ≠ b) <;> simp
theorem partB_iff' (a b c d : Pt) : partB a b c d = true ↔ (turn a b c < 0 ∧ 0 < turn a b d) ∨ (0 < turn a b c ∧ turn a b d < 0) := by unfold partB; simp
theorem partB_rev (a b c d : Pt) : partB b a c d = partB a b c d := by
  rw [Bool.eq_iff_iff, partB_iff', partB_iff', turn_rev, turn_rev a b d]
  omega
theorem partB_rev2 (a b c d : Pt) : partB a b d c = partB a b c d := by
  rw [Bool.eq_iff_iff, partB_iff', partB_iff']
  omega
theorem badB_false {a b c d : Pt} : badB (a, b) (c, d) = false ↔ passB a b c = false ∧ ¬ (partB a b c d = true ∧ partB c d a b = true) := by
  unfold badB
  dsimp only
  cases passB a b c <;> cases partB a b c d <;> cases partB c d a b <;> simp
/-- The side that begins at a corner. -/
def sideAt (ps : List Pt) (i : Nat) : Pt × Pt := (ptAt ps i, ptAt ps (nxt ps.length i))
theorem difP_of {ps qs : List Pt} (σ : Nat → Nat) (g : Pt → Pt) (hl : qs.length = ps.length) (hq : ∀ j, j < ps.length → σ j < ps.length ∧ ptAt qs j = g (ptAt ps (σ j)))
    (hi : ∀ i j, i < ps.length → j < ps.length → σ i = σ j → i = j) (hg : ∀ p q, g p = g q → p = q) (hb : ∀ p, ptB p = true → ptB (g p) = true) (h : difP ps) : difP qs := by
  constructor
  · intro p hp
    obtain ⟨j, hj, rfl⟩ := List.mem_iff_getElem.1 hp
    rw [hl] at hj
    rw [← ptAt_get, (hq j hj).2]
    refine hb _ (h.1 _ ?_)
    rw [ptAt_get (hq j hj).1]
    exact List.getElem_mem _
  · refine List.pairwise_iff_getElem.2 ?_
    intro i j h1 h2 hij e
    rw [hl] at h1 h2
    rw [← ptAt_get, ← ptAt_get, (hq i h1).2, (hq j h2).2] at e
    have e2 := hg _ _ e
    rw [ptAt_get (hq i h1).1, ptAt_get (hq j h2).1] at e2
    have := (List.getElem_inj h.2).1 e2
    have := hi i j h1 h2 this
    omega
theorem free_pass {ps : List Pt} (h : freeP ps) {i v : Nat} (hi : i < ps.length) (hv : v < ps.length) : passB (sideAt ps i).1 (sideAt ps i).2 (ptAt ps v) = false :=
  (badB_false.1 (h i v hi hv)).1
theorem free_part {ps : List Pt} (h : freeP ps) {i k : Nat} (hi : i < ps.length) (hk : k < ps.length) : ¬ (partB (sideAt ps i).1 (sideAt ps i).2 (sideAt ps k).1 (sideAt ps k).2 = true ∧ partB (sideAt ps k).1 (sideAt ps k).2 (sideAt ps i).1 (sideAt ps i).2 = true) :=
  (badB_false.1 (h i k hi hk)).2
/-- Corners in another order, whose sides are the same, or the same backwards. -/
theorem valid_order {ps qs : List Pt} (σ τ : Nat → Nat) (hl : qs.length = ps.length) (hq : ∀ j, j < ps.length → σ j < ps.length ∧ ptAt qs j = ptAt ps (σ j)) (hi : ∀ i j, i < ps.length → j < ps.length → σ i = σ j → i = j)
    (hs : ∀ j, j < ps.length → τ j < ps.length ∧ (sideAt qs j = sideAt ps (τ j) ∨ sideAt qs j = ((sideAt ps (τ j)).2, (sideAt ps (τ j)).1))) (h : validP ps) : validP qs := by
  refine ⟨by rw [hl]; exact h.1, difP_of σ id hl hq hi (fun _ _ e => e) (fun _ e => e) h.2.1, ?_⟩
  intro i k hi' hk'
  rw [hl] at hi' hk'
  show badB (sideAt qs i) (sideAt qs k) = false
  have p1 : passB (sideAt qs i).1 (sideAt qs i).2 (ptAt qs k) = false := by
    rw [(hq k hk').2]
    rcases (hs i hi').2 with e | e
    · rw [e]; exact free_pass h.2.2 (hs i hi').1 (hq k hk').1
    · rw [e, passB_rev]; exact free_pass h.2.2 (hs i hi').1 (hq k hk').1
  have p2 : ¬ (partB (sideAt qs i).1 (sideAt qs i).2 (sideAt qs k).1 (sideAt qs k).2 = true ∧ partB (sideAt qs k).1 (sideAt qs k).2 (sideAt qs i).1 (sideAt qs i).2 = true) := by
    have := free_part h.2.2 (hs i hi').1 (hs k hk').1
    have g := partB_rev
    have g2 := partB_rev2
    rcases (hs i hi').2 with e | e <;> rcases (hs k hk').2 with f | f <;> rw [e, f]
    · exact this
    · rw [g2, g (sideAt ps (τ k)).1]; exact this
    · rw [g (sideAt ps (τ i)).1, g2 (sideAt ps (τ k)).1]; exact this
    · have g3 : ∀ a b c d, partB b a d c = partB a b c d := fun a b c d => by rw [partB_rev, partB_rev2]
      intro hh
      refine this ⟨?_, ?_⟩
      · rw [← g3]; exact hh.1
      · rw [← g3]; exact hh.2
  exact badB_false.2 ⟨p1, p2⟩
theorem shift_nxt {n i j : Nat} : (i + nxt n j) % n = nxt n ((i + j) % n) := by
  unfold nxt
  rw [Nat.add_mod_mod, Nat.mod_add_mod, Nat.add_assoc]
theorem rot_side {ps qs : List Pt} {i : Nat} (hl : qs.length = ps.length) (hq : ∀ j, j < ps.length → ptAt qs j = ptAt ps ((i + j) % ps.length)) {j : Nat} (hj : j < ps.length) : sideAt qs j = sideAt ps ((i + j) % ps.length) := by
  unfold sideAt
  rw [hl, hq j hj, hq _ (nxt_lt hj), shift_nxt]
theorem rot_valid {ps qs : List Pt} {i : Nat} (hl : qs.length = ps.length) (hq : ∀ j, j < ps.length → ptAt qs j = ptAt ps ((i + j) % ps.length)) (h : validP ps) : validP qs := by
  have h0 : 0 < ps.length := by have := h.1; omega
  have hm : ∀ j, (i + j) % ps.length < ps.length := fun j => Nat.mod_lt _ h0
  refine valid_order (fun j => (i + j) % ps.length) (fun j => (i + j) % ps.length) hl (fun j hj => ⟨hm j, hq j hj⟩) ?_ (fun j hj => ⟨hm j, Or.inl (rot_side hl hq hj)⟩) h
  intro a b ha hb e
  have e2 : (i + a) % ps.length = (i + b) % ps.length := e
  have d1 := Nat.div_add_mod (i + a) ps.length
  have d2 := Nat.div_add_mod (i + b) ps.length
  rw [e2] at d1
  generalize (i + b) % ps.length = r at *
  generalize (i + a) / ps.length = u at *
  generalize (i + b) / ps.length = v at *
  rcases Nat.lt_trichotomy u v with h1 | h1 | h1
  · have := Nat.mul_le_mul_left ps.length (show u + 1 ≤ v by omega)
    rw [Nat.mul_add] at this
    omega
  · subst h1; omega
  · have := Nat.mul_le_mul_left ps.length (show v + 1 ≤ u by omega)
    rw [Nat.mul_add] at this
    omega
theorem sumZ_rot (h : Nat → Int) {n : Nat} (hn : 0 < n) : ∀ i, ((List.range n).map fun j => h ((i + j) % n)).sum = ((List.range n).map h).sum
  | 0 => sumZ_congr (fun j hj => by rw [Nat.zero_add, Nat.mod_eq_of_lt hj])
  | i + 1 => by
    rw [← sumZ_rot h hn i]
    have := sum_next (fun j => h ((i + j) % n)) hn
    have e : ((List.range n).map fun j => h ((i + 1 + j) % n)).sum = ((List.range n).map fun j => h ((i + nxt n j) % n)).sum := sumZ_congr (fun j hj => by
      unfold nxt
      rw [Nat.add_mod_mod, Nat.add_assoc, Nat.add_comm 1 j])
    have e2 := sumZ_add (fun j => h ((i + nxt n j) % n) - h ((i + j) % n)) (fun j => h ((i + j) % n)) n
    rw [this] at e2
    rw [e]
    rw [show ((List.range n).map fun j => h ((i + nxt n j) % n)) = (List.range n).map fun j => h ((i + nxt n j) % n) - h ((i + j) % n) + h ((i + j) % n) from List.map_congr_left (fun j _ => by omega), e2]
    omega
theorem rot_tot {ps qs : List Pt} {i : Nat} (h0 : 0 < ps.length) (hl : qs.length = ps.length) (hq : ∀ j, j < ps.length → ptAt qs j = ptAt ps ((i + j) % ps.length)) (f : Pt × Pt → Int) : tot f qs = tot f ps := by
  rw [tot_range, tot_range, hl, ← sumZ_rot (fun j => f (ptAt ps j, ptAt ps (nxt ps.length j))) h0 i]
  refine sumZ_congr (fun j hj => ?_)
  have := rot_side hl hq hj
  unfold sideAt at this
  rw [hl] at this
  rw [this]
/-- The side before. -/
theorem rev_side {ps qs : List Pt} (h0 : 0 < ps.length) (hl : qs.length = ps.length) (hq : ∀ j, j < ps.length → ptAt qs j = ptAt ps (ps.length - 1 - j)) {j : Nat} (hj : j < ps.length) :
    sideAt qs j = ((sideAt ps ((ps.length - 1 - j + (ps.length - 1)) % ps.length)).2, (sideAt ps ((ps.length - 1 - j + (ps.length - 1)) % ps.length)).1) := by
  unfold sideAt
  rw [hl, hq j hj, hq _ (nxt_lt hj)]
  by_cases e : j + 1 = ps.length
  · rw [nxt_val hj, if_pos e, show ps.length - 1 - j = 0 by omega, Nat.zero_add, Nat.mod_eq_of_lt (show ps.length - 1 < ps.length by omega), nxt_val (show ps.length - 1 < ps.length by omega), if_pos (by omega)]
    rfl
  · rw [nxt_val hj, if_neg e, show ps.length - 1 - j + (ps.length - 1) = ps.length - 1 - (j + 1) + ps.length by omega, Nat.add_mod_right, Nat.mod_eq_of_lt (show ps.length - 1 - (j + 1) < ps.length by omega), nxt_val (show ps.length - 1 - (j + 1) < ps.length by omega), if_neg (by omega)]
    rw [show ps.length - 1 - (j + 1) + 1 = ps.length - 1 - j by omega]
theorem rev_valid {ps qs : List Pt} (hl : qs.length = ps.length) (hq : ∀ j, j < ps.length → ptAt qs j = ptAt ps (ps.length - 1 - j)) (h : validP ps) : validP qs := by
  have h0 : 0 < ps.length := by have := h.1; omega
  exact valid_order (fun j => ps.length - 1 - j) (fun j => (ps.length - 1 - j + (ps.length - 1)) % ps.length) hl (fun j hj => ⟨by omega, hq j hj⟩) (fun a b ha hb e => by have : ps.length - 1 - a = ps.length - 1 - b := e; omega)
    (fun j hj => ⟨Nat.mod_lt _ h0, Or.inr (rev_side h0 hl hq hj)⟩) h
theorem sumZ_first (g : Nat → Int) (n : Nat) : ((List.range (n + 1)).map g).sum = g 0 + ((List.range n).map fun j => g (j + 1)).sum := by
  rw [List.range_succ_eq_map, List.map_cons, List.sum_cons, List.map_map]
  rfl
theorem sumZ_rev (h : Nat → Int) : ∀ n, ((List.range n).map fun j => h (n - 1 - j)).sum = ((List.range n).map h).sum
  | 0 => rfl
  | n + 1 => by
    rw [sumZ_first, List.range_succ (n := n), List.map_append, List.sum_append]
    rw [sumZ_congr (g := fun j => h (n - 1 - j)) (fun j hj => by rw [show n + 1 - 1 - (j + 1) = n - 1 - j by omega]), sumZ_rev h n]
    simp
    omega
theorem rev_tot {ps qs : List Pt} (h0 : 0 < ps.length) (hl : qs.length = ps.length) (hq : ∀ j, j < ps.length → ptAt qs j = ptAt ps (ps.length - 1 - j)) (f : Pt × Pt → Int) (hf : ∀ a b, f (b, a) = - f (a, b)) : tot f qs = - tot f ps := by
  rw [tot_range, tot_range, hl]
  have e1 : ((List.range ps.length).map fun j => f (ptAt qs j, ptAt qs (nxt ps.length j))).sum = ((List.range ps.length).map fun j => (fun c => -1 * f (sideAt ps ((c + (ps.length - 1)) % ps.length))) (ps.length - 1 - j)).sum := sumZ_congr (fun j hj => by
    have h1 : f (ptAt qs j, ptAt qs (nxt ps.length j)) = f (sideAt qs j) := by unfold sideAt; rw [hl]
    rw [h1, rev_side h0 hl hq hj]
    show _ = -1 * f (sideAt ps ((ps.length - 1 - j + (ps.length - 1)) % ps.length))
    generalize sideAt ps ((ps.length - 1 - j + (ps.length - 1)) % ps.length) = z
    rw [hf z.1 z.2]
    show - f z = -1 * f z
    omega)
  rw [e1, sumZ_rev (fun c => -1 * f (sideAt ps ((c + (ps.length - 1)) % ps.length))) ps.length, sumZ_mul]
  have := sumZ_rot (fun c => f (sideAt ps c)) h0 (ps.length - 1)
  have e2 : ((List.range ps.length).map fun j => f (sideAt ps ((j + (ps.length - 1)) % ps.length))).sum = ((List.range ps.length).map fun j => f (sideAt ps ((ps.length - 1 + j) % ps.length))).sum := sumZ_congr (fun j _ => by rw [Nat.add_comm])
  rw [e2, this]
  unfold sideAt
  omega
/-- X and Y exchanged. -/
def swp (p : Pt) : Pt := (p.2, p.1)
theorem turn_swp (a b c : Pt) : turn (swp a) (swp b) (swp c) = - turn a b c := by unfold turn swp; grind
theorem swp_inj {p q : Pt} (h : swp p = swp q) : p = q := by
  unfold swp at h
  exact Prod.ext (congrArg Prod.snd h) (congrArg Prod.fst h)
theorem onB_swp (a b p : Pt) : onB (swp a) (swp b) (swp p) = onB a b p := by
  unfold onB
  rw [turn_swp, decide_eq_decide.2 (show - turn a b p = 0 ↔ turn a b p = 0 by omega), Bool.and_comm (btwB a.1 p.1 b.1)]
  rfl
theorem ne_swp (p q : Pt) : decide (swp p ≠ swp q) = decide (p ≠ q) := decide_eq_decide.2 ⟨fun h e => h (by rw [e]), fun h e => h (swp_inj e)⟩
theorem passB_swp (a b p : Pt) : passB (swp a) (swp b) (swp p) = passB a b p := by unfold passB; rw [onB_swp, ne_swp, ne_swp]
theorem partB_swp (a b c d : Pt) : partB (swp a) (swp b) (swp c) (swp d) = partB a b c d := by
  rw [Bool.eq_iff_iff, partB_iff', partB_iff', turn_swp, turn_swp]
  omega
theorem badB_swp (a b c d : Pt) : badB (swp a, swp b) (swp c, swp d) = badB (a, b) (c, d) := by
  unfold badB
  dsimp only
  rw [passB_swp, partB_swp, partB_swp]
theorem swp_valid {ps qs : List Pt} (hl : qs.length = ps.length) (hq : ∀ j, j < ps.length → ptAt qs j = swp (ptAt ps j)) (h : validP ps) : validP qs := by
  refine ⟨by rw [hl]; exact h.1, difP_of id swp hl (fun j hj => ⟨hj, hq j hj⟩) (fun _ _ _ _ e => e) (fun _ _ e => swp_inj e) ?_ h.2.1, ?_⟩
  · intro p hp
    unfold ptB at *
    rw [Bool.and_comm]
    exact hp
  · intro i k hi hk
    show badB (ptAt qs i, ptAt qs (nxt qs.length i)) (ptAt qs k, ptAt qs (nxt qs.length k)) = false
    rw [hl] at hi hk ⊢
    rw [hq i hi, hq k hk, hq _ (nxt_lt (n := ps.length) hi), hq _ (nxt_lt (n := ps.length) hk), badB_swp]
    exact h.2.2 i k hi hk
theorem map_ptAt {ps : List Pt} (g : Pt → Pt) {j : Nat} (hj : j < ps.length) : ptAt (ps.map g) j = g (ptAt ps j) := by
  unfold ptAt
  rw [List.getElem?_map, List.getElem?_eq_getElem hj]
  rfl
theorem valid_free {ps : List Pt} (h : validP ps) : Area.Free ps.length (ptAt ps) := by
  obtain ⟨⟨h3, h10⟩, ⟨hb, hnd⟩, hf⟩ := h
  refine ⟨h3, ?_, ?_, fun i k hi hk => hf i k hi hk⟩
  · intro i hi
    have hp := hb (ptAt ps i) (by rw [ptAt_get hi]; exact List.getElem_mem hi)
    unfold ptB inB at hp
    simp at hp
    omega
  · intro i j hi hj e
    rw [ptAt_get hi, ptAt_get hj] at e
    exact (List.getElem_inj hnd).1 e
theorem area_neP {ps : List Pt} (h : validP ps) : tot fanV ps ≠ 0 := by
  have := (valid_free h).area
  rw [tot_range]
  exact this
/-- The first moment lies strictly between three times the area times the least and the greatest X. -/
theorem between_x {ps : List Pt} (h : validP ps) {c d : Int} (hc : ∀ p ∈ ps, c ≤ p.1) (hd : ∀ p ∈ ps, p.1 ≤ d) :
    (tot fanV ps < 0 ∧ tot fxV ps < c * (3 * tot fanV ps) ∧ d * (3 * tot fanV ps) < tot fxV ps) ∨ (0 < tot fanV ps ∧ c * (3 * tot fanV ps) < tot fxV ps ∧ tot fxV ps < d * (3 * tot fanV ps)) := by
  have := (valid_free h).moment (c := c) (d := d) (fun i hi => hc _ (by rw [ptAt_get hi]; exact List.getElem_mem hi)) (fun i hi => hd _ (by rw [ptAt_get hi]; exact List.getElem_mem hi))
  have e1 : tot fanV ps = ((List.range ps.length).map fun j => turn (ptAt ps j) (ptAt ps (nxt ps.length j)) (0, 0)).sum := tot_range _ _
  have e2 : tot fxV ps = ((List.range ps.length).map fun j => turn (ptAt ps j) (ptAt ps (nxt ps.length j)) (0, 0) * ((ptAt ps j).1 + (ptAt ps (nxt ps.length j)).1)).sum := tot_range _ _
  simp only at this
  rw [← e1, ← e2] at this
  have e3 : ∀ u : Int, u * (3 * tot fanV ps) = 3 * u * tot fanV ps := fun u => by grind
  rw [e3, e3]
  exact this
theorem between_y {ps : List Pt} (h : validP ps) {c d : Int} (hc : ∀ p ∈ ps, c ≤ p.2) (hd : ∀ p ∈ ps, p.2 ≤ d) :
    (tot fanV ps < 0 ∧ tot fyV ps < c * (3 * tot fanV ps) ∧ d * (3 * tot fanV ps) < tot fyV ps) ∨ (0 < tot fanV ps ∧ c * (3 * tot fanV ps) < tot fyV ps ∧ tot fyV ps < d * (3 * tot fanV ps)) := by
  have h0 : 0 < ps.length := by have := h.1; omega
  have hl : (ps.map swp).length = ps.length := List.length_map _
  have hq : ∀ j, j < ps.length → ptAt (ps.map swp) j = swp (ptAt ps j) := fun j hj => map_ptAt swp hj
  have := between_x (swp_valid hl hq h) (c := c) (d := d) (fun p hp => by obtain ⟨q, hq, rfl⟩ := List.mem_map.1 hp; exact hc q hq) (fun p hp => by obtain ⟨q, hq, rfl⟩ := List.mem_map.1 hp; exact hd q hq)
  have e1 := tot_changed hl h0 swp hq fanV fanV fanV fanV (-1) 0 0 (fun _ => 0) (fun p q => by unfold fanV turn swp; grind)
  have e2 := tot_changed hl h0 swp hq fxV fyV fanV fanV (-1) 0 0 (fun _ => 0) (fun p q => by unfold fxV fyV fanV turn swp; grind)
  have e3 : tot fanV (ps.map swp) = - tot fanV ps := by omega
  have e4 : tot fxV (ps.map swp) = - tot fyV ps := by omega
  rw [e3, e4] at this
  have e5 : ∀ u : Int, u * (3 * - tot fanV ps) = - (u * (3 * tot fanV ps)) := fun u => by grind
  rw [e5, e5] at this
  omega
/-- A fraction in lowest terms lies where the fraction lies. -/
theorem low_mul (a : Int) {b : Int} (hb : b ≠ 0) : lowG a b ≠ 0 ∧ lowN a b * lowG a b = a ∧ lowD a b * lowG a b = b ∧ 0 < lowD a b := by
  have g0 : (0 : Int) < (Int.gcd a b : Int) := by
    have : 0 < Int.gcd a b := Int.gcd_pos_of_ne_zero_right _ hb
    omega
  have da : (Int.gcd a b : Int) ∣ a := Int.gcd_dvd_left ..
  have db : (Int.gcd a b : Int) ∣ b := Int.gcd_dvd_right ..
  unfold lowN lowD lowG
  by_cases h : b < 0
  · rw [if_pos h]
    refine ⟨by omega, Int.tdiv_mul_cancel (Int.neg_dvd.2 da), Int.tdiv_mul_cancel (Int.neg_dvd.2 db), ?_⟩
    have e := Int.tdiv_mul_cancel (Int.neg_dvd.2 db)
    generalize b.tdiv (-(Int.gcd a b : Int)) = q at *
    rcases Int.lt_or_le 0 q with h2 | h2
    · exact h2
    · have := Int.mul_nonneg (a := -q) (b := (Int.gcd a b : Int)) (by omega) (by omega)
      have e2 : q * -(Int.gcd a b : Int) = -q * (Int.gcd a b : Int) := by grind
      omega
  · rw [if_neg h]
    refine ⟨by omega, Int.tdiv_mul_cancel da, Int.tdiv_mul_cancel db, ?_⟩
    have e := Int.tdiv_mul_cancel db
    generalize b.tdiv (Int.gcd a b : Int) = q at *
    rcases Int.lt_or_le 0 q with h2 | h2
    · exact h2
    · have := Int.mul_nonneg (a := -q) (b := (Int.gcd a b : Int)) (by omega) (by omega)
      have e2 : -q * (Int.gcd a b : Int) = - (q * (Int.gcd a b : Int)) := by grind
      omega
theorem mul_lt_iff {g a b : Int} (hg : 0 < g) (h : a * g < b * g) : a < b := by
  rcases Int.lt_or_le a b with h2 | h2
  · exact h2
  · have := Int.mul_le_mul_of_nonneg_right h2 (Int.le_of_lt hg); omega
theorem low_between {a b c d : Int} (h : (b < 0 ∧ a < c * b ∧ d * b < a) ∨ (0 < b ∧ c * b < a ∧ a < d * b)) : 0 < lowD a b ∧ c * lowD a b < lowN a b ∧ lowN a b < d * lowD a b := by
  have hb : b ≠ 0 := by omega
  obtain ⟨g0, g1, g2, g3⟩ := low_mul a hb
  refine ⟨g3, ?_⟩
  generalize lowG a b = g at *
  generalize lowN a b = p at *
  generalize lowD a b = q at *
  subst g1 g2
  have e1 : c * (q * g) = (c * q) * g := by grind
  have e2 : d * (q * g) = (d * q) * g := by grind
  rw [e1, e2] at h
  rcases h with ⟨h1, h2, h3⟩ | ⟨h1, h2, h3⟩
  · have gn : 0 < -g := by
      rcases Int.lt_or_le g 0 with h | h
      · omega
      · have := Int.mul_nonneg (Int.le_of_lt g3) h; omega
    exact ⟨mul_lt_iff gn (by rw [Int.mul_neg, Int.mul_neg]; omega), mul_lt_iff gn (by rw [Int.mul_neg, Int.mul_neg]; omega)⟩
  · have gp : 0 < g := by
      rcases Int.lt_or_le 0 g with h | h
      · exact h
      · have := Int.mul_nonneg (Int.le_of_lt g3) (show 0 ≤ -g by omega)
        have e : q * -g = - (q * g) := by grind
        omega
    exact ⟨mul_lt_iff gp h2, mul_lt_iff gp h3⟩
theorem low_neg {a b : Int} (hb : b ≠ 0) : lowN (-a) (-b) = lowN a b ∧ lowD (-a) (-b) = lowD a b := by
  have e : lowG (-a) (-b) = - lowG a b := by
    unfold lowG
    rw [Int.neg_gcd, Int.gcd_neg]
    by_cases h : b < 0
    · rw [if_neg (by omega), if_pos h]; omega
    · rw [if_pos (by omega), if_neg h]
  unfold lowN lowD
  rw [e, Int.neg_tdiv, Int.tdiv_neg, Int.neg_tdiv, Int.tdiv_neg]
  omega
theorem tdiv_scale (u v : Int) {t : Int} (ht : t ≠ 0) : (u * t).tdiv (v * t) = u.tdiv v := by
  rcases Int.lt_or_lt_of_ne ht with h | h
  · rw [show u * t = -(u * -t) by grind, show v * t = -(v * -t) by grind, Int.neg_tdiv, Int.tdiv_neg, Int.neg_neg]
    exact Int.mul_tdiv_mul_of_pos_left _ _ (by omega)
  · exact Int.mul_tdiv_mul_of_pos_left _ _ h
/-- The lowest terms of what is k times as great. -/
theorem low_scale {a b k m : Int} (hb : b ≠ 0) (hk : 0 < k) (hm : 0 < m) : lowN (k * m * a) (m * b) = lowN (k * lowN a b) (lowD a b) ∧ lowD (k * m * a) (m * b) = lowD (k * lowN a b) (lowD a b) := by
  obtain ⟨g0, g1, g2, g3⟩ := low_mul a hb
  generalize lowN a b = p at *
  generalize lowD a b = q at *
  generalize lowG a b = g at *
  subst g1 g2
  -- both are k p / q, with the common factor m g
  have hmul : ∀ u v t : Int, v ≠ 0 → t ≠ 0 → lowN (u * t) (v * t) = lowN u v ∧ lowD (u * t) (v * t) = lowD u v := by
    intro u v t hv ht
    have hG : lowG (u * t) (v * t) = lowG u v * t := by
      unfold lowG
      rw [Int.gcd_mul_right]
      rcases Int.lt_or_lt_of_ne ht with h | h
      · have e : ((Int.gcd u v * t.natAbs : Nat) : Int) = - ((Int.gcd u v : Int) * t) := by
          rw [Int.natCast_mul, show ((t.natAbs : Nat) : Int) = -t by omega]; grind
        rw [e]
        by_cases h2 : v < 0
        · rw [if_pos h2, if_neg (by have := Int.mul_pos_of_neg_of_neg h2 h; omega)]; grind
        · have : v * t < 0 := Int.mul_neg_of_pos_of_neg (by omega) h
          rw [if_neg h2, if_pos this]; grind
      · have e : ((Int.gcd u v * t.natAbs : Nat) : Int) = (Int.gcd u v : Int) * t := by
          rw [Int.natCast_mul, show ((t.natAbs : Nat) : Int) = t by omega]
        rw [e]
        by_cases h2 : v < 0
        · have : v * t < 0 := Int.mul_neg_of_neg_of_pos h2 h
          rw [if_pos h2, if_pos this]; grind
        · have := Int.mul_nonneg (a := v) (b := t) (by omega) (by omega)
          rw [if_neg h2, if_neg (by omega)]
    unfold lowN lowD
    rw [hG, tdiv_scale u _ ht, tdiv_scale v _ ht]
    exact ⟨rfl, rfl⟩
  have := hmul (k * p) q (m * g) (by omega) (by intro e; rcases Int.mul_eq_zero.1 e with h | h <;> omega)
  rw [show k * m * (p * g) = k * p * (m * g) by grind, show m * (q * g) = q * (m * g) by grind]
  exact this

theorem validP_iff {ps : List Pt} : validB ps = true ↔ validP ps := validB_iff ps
end Geo
end Go.Proofs.Ytkfnngcphcfbjaa
