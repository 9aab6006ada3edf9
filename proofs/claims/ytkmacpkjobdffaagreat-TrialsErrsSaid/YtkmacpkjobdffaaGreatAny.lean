/- Operations of a region that may come in any order: an invariant that says of each of them what holds once it has come; and things in memory that lie apart. No program in it. -/
import Derived.Test.YtkmacpkjobdffaaGreatFence
import Derived.Test.YtkmacpkjobdffaaGreatLoops
import Derived.Laws.OwnMore
import Derived.Maps.AppendAt
import Derived.OwnWalk
import Derived.OneCell
import Derived.Below
namespace Go.Proofs.YtkmacpkjobdffaaGreat
open Go.RowKit
def upd (s : Nat → Bool) (j k : Nat) : Bool := k == j || s k
def marked (pre : Array Bool) (J : List Nat) (s : Nat → Bool) : Array Bool := pre.mapIdx fun i b => if J.contains i then s i else b
theorem marked_upd {pre : Array Bool} {J : List Nat} {s : Nat → Bool} {j : Nat} (hj : j ∈ J) : (marked pre J s).setIfInBounds j true = marked pre J (upd s j) := by
  apply Array.ext_getElem?
  intro i
  rw [Array.getElem?_setIfInBounds]
  unfold marked
  rw [Array.getElem?_mapIdx, Array.getElem?_mapIdx, Array.size_mapIdx]
  by_cases h : j = i
  · subst h
    rw [if_pos rfl]
    by_cases hlt : j < pre.size
    · rw [if_pos hlt, Array.getElem?_eq_getElem hlt]
      simp [upd, hj]
    · rw [if_neg hlt, Array.getElem?_eq_none (by omega)]
      rfl
  · have h' : (i == j) = false := by simpa using fun e => h e.symm
    rw [if_neg h]
    simp [upd, h']
theorem marked_congr {pre : Array Bool} {J : List Nat} {s s' : Nat → Bool} (h : ∀ j ∈ J, s j = s' j) : marked pre J s = marked pre J s' := by
  unfold marked
  congr 1
  funext i b
  cases hc : J.contains i with
  | false => rfl
  | true => exact h i (by simpa using hc)
def subs : List Nat → List (List Nat)
  | [] => [[]]
  | j :: J => subs J ++ (subs J).map (j :: ·)
theorem filter_subs (s : Nat → Bool) : ∀ J : List Nat, J.filter s ∈ subs J
  | [] => by simp [subs]
  | j :: J => by
    have ih := filter_subs s J
    unfold subs
    rw [List.mem_append]
    cases h : s j with
    | false => left; rw [List.filter_cons_of_neg (by simp [h])]; exact ih
    | true => right; rw [List.filter_cons_of_pos h]; exact List.mem_map.2 ⟨_, ih, rfl⟩
/-- The checks on the order: whatever of J has come, only what is of J may come next, no number c, each behind what D says; and something may, until all of J has come. -/
def anyB (md : Region.Mode) (ops : Array Oper) (c : Nat) (J : List Nat) (D : List (Nat × Nat)) (pre : Array Bool) : Bool :=
  J.all (fun j => (!pre.getD j true) && match ops[j]? with | some o => o.guard.isNone | none => false) &&
  reachedB md ops pre && (subs J).all fun L => !reachedB md ops (marked pre J L.contains) ||
    (J.all L.contains || ((Region.ready md ops (marked pre J L.contains)).all (fun i => J.contains i && (!(i == c) && D.all fun d => !(d.2 == i) || L.contains d.1)) &&
      !(Region.ready md ops (marked pre J L.contains)).isEmpty))
theorem reachedB_of {md : Region.Mode} {ops : Array Oper} {listed : Array Bool} (h : Reached md ops listed) : reachedB md ops listed = true := by
  unfold reachedB
  rw [List.all_eq_true]
  intro k _
  cases hl : listed.getD k false with
  | false => rfl
  | true =>
    cases ho : ops[k]? with
    | none => rfl
    | some o =>
      simp only [Bool.not_true, Bool.false_or, Array.all_eq_true_iff_forall_mem]
      intro e he
      cases hb : Region.binds md e with
      | false => rfl
      | true => simpa using h k o ho hl e he hb
theorem count_upd {s : Nat → Bool} {i : Nat} : ∀ {J : List Nat}, J.Nodup → i ∈ J → s i = false → (J.filter fun j => !s j).length = (J.filter fun j => !upd s i j).length + 1
  | j :: J, hn, hi, hs => by
    rw [List.nodup_cons] at hn
    by_cases h : j = i
    · subst h
      have e : (J.filter fun k => !upd s j k) = J.filter fun k => !s k := List.filter_congr fun k hk => by
        have : (k == j) = false := by simpa using fun e : k = j => hn.1 (e ▸ hk)
        simp [upd, this]
      rw [List.filter_cons_of_pos (by simp [hs]), List.filter_cons_of_neg (by simp [upd]), e, List.length_cons]
    · have hi' : i ∈ J := by
        rcases List.mem_cons.1 hi with e | e
        · exact absurd e.symm h
        · exact e
      have ih := count_upd hn.2 hi' hs
      have e : (!upd s i j) = !s j := by simp [upd, h]
      cases hj : s j with
      | true => rw [List.filter_cons_of_neg (by simp [hj]), List.filter_cons_of_neg (by simp [e, hj])]; exact ih
      | false => rw [List.filter_cons_of_pos (by simp [hj]), List.filter_cons_of_pos (by simp [e, hj]), List.length_cons, List.length_cons, ih]
section
variable {F : Fence} {n : Nat} {P : Program} {ops : Array Oper} {Q : Exit → Act → World → Prop} {md : Region.Mode} {S : World → Prop} {c : Nat}
theorem wpHeldIn_any (J : List Nat) (D : List (Nat × Nat)) (I : Act → (Nat → Bool) → Act → World → Prop) {pre done : Array Bool} {a0 : Act} {w0 : World} {fuel f0 : Nat}
    (hf : fuel = J.length + f0) (hJ : J.Nodup) (hchk : anyB md ops c J D pre = true) (hdone : marked pre J (fun _ => true) = done)
    (hpre : marked pre J (fun _ => false) = pre)
    (h0 : I a0 (fun _ => false) a0 w0)
    (hstep : ∀ j o, j ∈ J → ops[j]? = some o → ∀ s a w, I a0 s a w → s j = false → (∀ i, (i, j) ∈ D → s i = true) → ∀ K : Act → World → Prop, (∀ a' w', S w' → I a0 (upd s j) a' w' → K a' w') → Oper.wpIn F n P o a w K Q)
    (hend : ∀ s a w, (∀ j ∈ J, s j = true) → I a0 s a w → wpHeldIn F n P md ops Q S c f0 done a w) :
    wpHeldIn F n P md ops Q S c fuel pre a0 w0 := by
  unfold anyB at hchk
  rw [Bool.and_eq_true, Bool.and_eq_true, List.all_eq_true, List.all_eq_true] at hchk
  obtain ⟨⟨hg, hrc⟩, hr⟩ := hchk
  have hcon : ∀ (s : Nat → Bool) (k : Nat), (∀ j ∈ J, (J.filter s).contains j = s j) := fun s k j hj => by
    cases h : s j with
    | true => simpa using ⟨hj, h⟩
    | false => simpa using fun _ => h
  have main : ∀ (k : Nat) (s : Nat → Bool) (a : Act) (w : World), Reached md ops (marked pre J s) → I a0 s a w → (J.filter fun j => !s j).length = k → wpHeldIn F n P md ops Q S c (k + f0) (marked pre J s) a w := by
    intro k
    induction k with
    | zero =>
      intro s a w hre hI hk
      have hall : ∀ j ∈ J, s j = true := fun j hj => by
        cases h : s j with
        | true => rfl
        | false =>
          have : j ∈ J.filter fun j => !s j := List.mem_filter.2 ⟨hj, by simp [h]⟩
          rw [List.length_eq_zero_iff.1 hk] at this
          cases this
      rw [Nat.zero_add, marked_congr (s' := fun _ => true) hall, hdone]
      exact hend s a w hall hI
    | succ k ih =>
      intro s a w hre hI hk
      have hL := hr _ (filter_subs s J)
      have hnall : J.all (J.filter s).contains = false := by
        rw [Bool.eq_false_iff]
        intro hall
        rw [List.all_eq_true] at hall
        have : J.filter (fun j => !s j) = [] := List.filter_eq_nil_iff.2 fun j hj => by
          have := hall j hj
          rw [hcon s 0 j hj] at this
          simp [this]
        rw [this] at hk
        cases hk
      rw [marked_congr (s' := s) (hcon s 0), reachedB_of hre, hnall, Bool.not_true, Bool.false_or, Bool.false_or, Bool.and_eq_true, List.all_eq_true] at hL
      obtain ⟨hL1, hL2⟩ := hL
      rw [Nat.succ_add]
      refine ⟨fun h0 => ?_, fun i hi => ?_⟩
      · rw [h0] at hL2
        cases hL2
      · have h1 := hL1 i hi
        simp only [Bool.and_eq_true, List.all_eq_true] at h1
        obtain ⟨hiJ, hic, hD⟩ := h1
        have hiJ' : i ∈ J := by simpa using hiJ
        have hic' : i ≠ c := by simpa using hic
        rw [if_neg hic']
        obtain ⟨hl, o, ho, hafter⟩ := mem_ready.1 hi
        have hsz : i < pre.size := by
          have := hg i hiJ'
          rw [Bool.and_eq_true] at this
          by_cases hlt : i < pre.size
          · exact hlt
          · have h2 := this.1
            rw [Array.getD_eq_getD_getElem?, Array.getElem?_eq_none (by omega)] at h2
            simp at h2
        have hsi : s i = false := by
          rw [Array.getD_eq_getD_getElem?, Array.getElem?_eq_getElem (by simpa [marked] using hsz)] at hl
          unfold marked at hl
          rw [Array.getElem_mapIdx] at hl
          simpa [hiJ'] using hl
        have hgo : o.guard = none := by
          have := hg i hiJ'
          rw [Bool.and_eq_true, ho] at this
          simpa using this.2
        have hdep : ∀ d, (d, i) ∈ D → s d = true := fun d hd => by
          have := hD _ hd
          simp only [beq_self_eq_true, Bool.not_true, Bool.false_or] at this
          have hm : d ∈ J.filter s := by simpa using this
          exact (List.mem_filter.1 hm).2
        unfold wpOpIn
        simp only [ho]
        rw [if_pos (show Region.wanted o (yielded ops a.tmps) = true by unfold Region.wanted; rw [hgo])]
        refine hstep i o hiJ' ho s a w hI hsi hdep _ fun a' w' hS' hI' => ⟨hS', ?_⟩
        rw [marked_upd hiJ']
        exact ih _ a' w' (by rw [← marked_upd hiJ']; exact hre.step hi) hI' (by have := count_upd hJ hiJ' hsi; omega)
  subst hf
  have := main J.length (fun _ => false) a0 w0 (by rw [hpre]; exact reached_of hrc) h0 (by simp)
  rw [hpre] at this
  exact this
end
/-- A thing in memory that the call has made: a block of cells, or a row that is its own. -/
inductive Thing where
  | no
  | box (B : Nat) (t : TypeId) (vs : Array Value)
  | row (v : Value) (e : TypeId) (size n : Nat) (xs : List Value)
def Thing.blk : Thing → Option Nat
  | .no => none
  | .box B _ _ => some B
  | .row v _ _ _ _ => v.ownBlock
def Thing.In (w : World) (NB : Nat) : Thing → Prop
  | .no => True
  | .box B t vs => BoxS w B t vs ∧ NB ≤ B
  | .row v e size n xs => w.ownsRow NB e size v n xs
theorem Thing.lt {w : World} {NB : Nat} {T : Thing} (h : T.In w NB) {g : Nat} (hg : T.blk = some g) : NB ≤ g ∧ g < w.heap.size := by
  cases T with
  | no => cases hg
  | box B t vs => injection hg with e; subst e; exact ⟨h.2, h.1.lt⟩
  | row v e size n xs => exact World.ownsRow.lt h g hg
theorem Thing.kept {w w' : World} {NB : Nat} {T : Thing} (h : T.In w NB) {row : Option Nat} (hg : w.grownBy w' row) (hne : ∀ g, T.blk = some g → row ≠ some g) : T.In w' NB := by
  cases T with
  | no => trivial
  | box B t vs =>
    refine ⟨?_, h.2⟩
    have := hg.block B h.1.lt (fun e => hne B rfl e.symm)
    show w'.heap[B]? = _
    rw [this]
    exact h.1
  | row v e size n xs =>
    refine World.ownsRow.kept h hg ?_
    cases hb : v.ownBlock with
    | none => exact .inl rfl
    | some g => exact .inr fun e => hne g hb e.symm
theorem grown_of_below {w w' : World} {n : Nat} (h : Below n w w') (hn : w.heap.size ≤ n) : w.grownBy w' none := ⟨h.os, h.tape, h.output, h.size, fun k hk _ => h.block k (by omega)⟩
def Has (w : World) (NB : Nat) (L : List Thing) : Prop := (∀ T ∈ L, T.In w NB) ∧ L.Pairwise fun a b => ∀ g, a.blk = some g → b.blk ≠ some g
theorem Has.get {w : World} {NB : Nat} {L : List Thing} (h : Has w NB L) (i : Nat) {T : Thing} (hi : L[i]? = some T) : T.In w NB := h.1 T (List.mem_of_getElem? hi)
theorem Has.below {w w' : World} {NB : Nat} {L : List Thing} (h : Has w NB L) {n : Nat} (hb : Below n w w') (hn : w.heap.size ≤ n) : Has w' NB L :=
  ⟨fun T hT => Thing.kept (h.1 T hT) (grown_of_below hb hn) (fun g _ e => by cases e), h.2⟩
theorem pairwise_set {α : Type} {R : α → α → Prop} (hsym : ∀ a b, R a b → R b a) : ∀ {L : List α} (i : Nat) (x : α), L.Pairwise R → (∀ k y, L[k]? = some y → k ≠ i → R y x) → (L.set i x).Pairwise R
  | [], _, _, _, _ => by simp
  | y :: L, 0, x, h, hx => by
    rw [List.pairwise_cons] at h
    rw [List.set_cons_zero, List.pairwise_cons]
    refine ⟨fun z hz => ?_, h.2⟩
    obtain ⟨k, hk⟩ := List.mem_iff_getElem?.1 hz
    exact hsym _ _ (hx (k + 1) z (by simpa using hk) (by omega))
  | y :: L, i + 1, x, h, hx => by
    rw [List.pairwise_cons] at h
    rw [List.set_cons_succ, List.pairwise_cons]
    refine ⟨fun z hz => ?_, pairwise_set hsym i x h.2 fun k z hk hne => hx (k + 1) z (by simpa using hk) (by omega)⟩
    rcases List.mem_or_eq_of_mem_set hz with hm | rfl
    · exact h.1 z hm
    · exact hx 0 y rfl (by omega)
theorem pairwise_get {α : Type} {R : α → α → Prop} (hsym : ∀ a b, R a b → R b a) {L : List α} (h : L.Pairwise R) {i k : Nat} {x y : α} (hi : L[i]? = some x) (hk : L[k]? = some y) (hne : i ≠ k) : R x y := by
  obtain ⟨h1, rfl⟩ := List.getElem?_eq_some_iff.1 hi
  obtain ⟨h2, rfl⟩ := List.getElem?_eq_some_iff.1 hk
  rcases Nat.lt_or_gt_of_ne hne with hlt | hlt
  · exact List.pairwise_iff_getElem.1 h i k h1 h2 hlt
  · exact hsym _ _ (List.pairwise_iff_getElem.1 h k i h2 h1 hlt)
theorem apart_sym (a b : Thing) (h : ∀ g, a.blk = some g → b.blk ≠ some g) : ∀ g, b.blk = some g → a.blk ≠ some g := fun g h1 h2 => h g h2 h1
/-- One of the things turns; the others stay. -/
theorem Has.change {w w' : World} {NB : Nat} {L : List Thing} (h : Has w NB L) (i : Nat) {T : Thing} (hi : L[i]? = some T) {row : Option Nat} (hg : w.grownBy w' row) (hrow : ∀ g, row = some g → T.blk = some g) {T' : Thing} (hT : T'.In w' NB)
    (hnew : ∀ g, T'.blk = some g → T.blk = some g ∨ w.heap.size ≤ g) : Has w' NB (L.set i T') := by
  have hap : ∀ k y, L[k]? = some y → k ≠ i → ∀ g, y.blk = some g → T'.blk ≠ some g := fun k y hk hne g hy he => by
    rcases hnew g he with e | e
    · exact pairwise_get apart_sym h.2 hk hi hne g hy e
    · have := (Thing.lt (h.get k hk) hy).2
      omega
  refine ⟨fun U hU => ?_, pairwise_set apart_sym i T' h.2 hap⟩
  obtain ⟨k, hk⟩ := List.mem_iff_getElem?.1 hU
  by_cases hki : i = k
  · subst hki
    rw [List.getElem?_set_self (List.getElem?_eq_some_iff.1 hi).1] at hk
    cases hk
    exact hT
  · rw [List.getElem?_set_ne hki] at hk
    refine Thing.kept (h.get k hk) hg fun g hb e => ?_
    exact pairwise_get apart_sym h.2 hk hi (fun e => hki e.symm) g hb (hrow g e)
theorem Has.fresh {w w' : World} {NB : Nat} {L : List Thing} (h : Has w NB L) (i : Nat) (hi : L[i]? = some .no) {n : Nat} (hb : Below n w w') (hn : w.heap.size ≤ n) {T' : Thing} (hT : T'.In w' w.heap.size) (hNB : NB ≤ w.heap.size) : Has w' NB (L.set i T') := by
  refine h.change i hi (grown_of_below hb hn) (fun g e => by cases e) ?_ fun g hg => .inr (Thing.lt hT hg).1
  cases T' with
  | no => trivial
  | box B t vs => exact ⟨hT.1, Nat.le_trans hNB hT.2⟩
  | row v e size m xs =>
    obtain ⟨h1, h2⟩ := hT
    refine ⟨h1, ?_⟩
    rcases h2 with h2 | ⟨g, cap, cur, a1, a2, a3⟩
    · exact .inl h2
    · exact .inr ⟨g, cap, cur, a1, Nat.le_trans hNB a2, a3⟩
theorem grownBy_set (w : World) (B i : Nat) (v : Value) : w.grownBy (w.setCell ⟨B, i, none⟩ v) (some B) :=
  ⟨rfl, rfl, rfl, by show _ ≤ (w.heap.modify B _).size; rw [Array.size_modify]; exact Nat.le_refl _, fun k _ hne => by
    show (w.heap.modify B _)[k]? = _
    rw [Array.getElem?_modify, if_neg (fun e => hne (by rw [e]))]⟩
end Go.Proofs.YtkmacpkjobdffaaGreat
