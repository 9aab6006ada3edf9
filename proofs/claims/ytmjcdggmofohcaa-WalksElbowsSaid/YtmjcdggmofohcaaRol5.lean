/- Walks: the sweeps of all elbows, ascending, by the reference. -/
import Derived.Test.YtmjcdggmofohcaaWlR
import Derived.Test.YtmjcdggmofohcaaFence
import Derived.Test.YtmjcdggmofohcaaLoops
import Derived.Laws.OwnMore
import Derived.Maps.AppendAt
import Derived.OwnWalk
import Derived.OneCell
import Derived.Below
import Derived.Test.YtmjcdggmofohcaaCpI
import Derived.Test.YtmjcdggmofohcaaSw5
import Derived.Test.YtmjcdggmofohcaaWlW
namespace Go.Proofs.Ytmjcdggmofohcaa
namespace Wl
/-- All elbows that begin with some places, of which some are missing, as the reference lists them. -/
def allL (t : Trk) (ws : List Pt) : Nat → List Int → List (List Int)
  | 0, pl => if elbV t ws pl then [pl] else []
  | k + 1, pl => (reachL t (ptAt ws pl.length)).flatMap fun p => allL t ws k (pl ++ [p])
def chn (t : Trk) (pl : List Int) : Prop := ∀ i, 0 < i → i < pl.length → nearB t (esAt pl (i - 1)) (esAt pl i) = true
theorem flatMap_eq {α β : Type} {f g : α → List β} : ∀ {l : List α}, (∀ x ∈ l, f x = g x) → l.flatMap f = l.flatMap g
  | [], _ => rfl
  | x :: l, h => by
    rw [List.flatMap_cons, List.flatMap_cons, h x List.mem_cons_self, flatMap_eq (fun y hy => h y (List.mem_cons_of_mem _ hy))]
theorem mem_allL {t : Trk} {ws : List Pt} {es : List Int} : ∀ (k : Nat) (pl : List Int), es ∈ allL t ws k pl → elbV t ws es = true ∧ ∃ ex, es = pl ++ ex
  | 0, pl, h => by
    have h' : es ∈ (if elbV t ws pl = true then [pl] else []) := h
    split at h'
    · rename_i he
      rw [List.mem_singleton] at h'
      subst h'
      exact ⟨he, [], by simp⟩
    · cases h'
  | k + 1, pl, h => by
    have h' : es ∈ (reachL t (ptAt ws pl.length)).flatMap fun p => allL t ws k (pl ++ [p]) := h
    obtain ⟨p, _, h2⟩ := List.mem_flatMap.1 h'
    obtain ⟨h3, ex, e⟩ := mem_allL k (pl ++ [p]) h2
    exact ⟨h3, [p] ++ ex, by rw [e, List.append_assoc]⟩
theorem allL_goL {t : Trk} {ws : List Pt} (h0 : 0 < ws.length) : ∀ (k : Nat) (pl : List Int), pl.length + k = ws.length → (∀ i, i < pl.length → fitB t ws pl i = true) → chn t pl → allL t ws k pl = goL t ws k pl
  | 0, pl, hl, hf, hc => by
    show (if elbV t ws pl = true then [pl] else []) = (if nearB t (lastV pl) (esAt pl 0) = true then [pl] else [])
    have : elbV t ws pl = true ↔ nearB t (lastV pl) (esAt pl 0) = true := by
      rw [elbV_iff]
      constructor
      · rintro ⟨_, _, hn⟩
        have := hn (pl.length - 1) (by omega)
        rw [show pl.length - 1 + 1 = pl.length by omega, Nat.mod_self] at this
        exact this
      · intro hn
        refine ⟨by omega, hf, fun k hk => ?_⟩
        by_cases hk1 : k + 1 = pl.length
        · rw [hk1, Nat.mod_self]
          have e : k = pl.length - 1 := by omega
          rw [e]
          exact hn
        · rw [Nat.mod_eq_of_lt (show k + 1 < pl.length by omega)]
          exact hc (k + 1) (by omega) (by omega)
    by_cases he : elbV t ws pl = true
    · rw [if_pos he, if_pos (this.1 he)]
    · rw [if_neg he, if_neg (fun h => he (this.2 h))]
  | k + 1, pl, hl, hf, hc => by
    show ((reachL t (ptAt ws pl.length)).flatMap fun p => allL t ws k (pl ++ [p])) = ((reachL t (ptAt ws pl.length)).flatMap fun p => if 0 < pl.length ∧ nearB t (lastV pl) p = false then [] else goL t ws k (pl ++ [p]))
    refine flatMap_eq (fun p hp => ?_)
    split
    · rename_i hb
      refine List.eq_nil_iff_forall_not_mem.2 (fun es hes => ?_)
      obtain ⟨hv, ex, e⟩ := mem_allL k (pl ++ [p]) hes
      obtain ⟨hel, _, hn⟩ := elbV_iff.1 hv
      have hlen : pl.length < es.length := by rw [e]; simp
      have := hn (pl.length - 1) (by omega)
      rw [show pl.length - 1 + 1 = pl.length by omega, Nat.mod_eq_of_lt hlen] at this
      rw [e, esAt_new pl ex p, List.append_assoc, esAt_app _ _ _ (by omega)] at this
      have h2 := hb.2
      unfold lastV at h2
      rw [h2] at this
      cases this
    · rename_i hb
      refine allL_goL h0 k (pl ++ [p]) (by simp; omega) (fun i hi => ?_) (fun i h1 h2 => ?_)
      · by_cases hi2 : i = pl.length
        · subst hi2
          rw [fitB_mem]
          have := esAt_new pl [] p
          rw [List.append_nil] at this
          rw [this]
          exact hp
        · have hi3 : i < pl.length := by simp at hi; omega
          have := hf i hi3
          rw [fitB_mem] at this ⊢
          rw [esAt_app _ _ _ hi3]
          exact this
      · by_cases hi2 : i = pl.length
        · subst hi2
          have := esAt_new pl [] p
          rw [List.append_nil] at this
          rw [this, esAt_app _ _ _ (by omega)]
          cases hbb : nearB t (lastV pl) p with
          | true => exact hbb
          | false => exact absurd ⟨h1, hbb⟩ hb
        · have hi3 : i < pl.length := by simp at h2; omega
          rw [esAt_app _ _ _ hi3, esAt_app _ _ _ (by omega)]
          exact hc i h1 hi3
theorem allL_elbsL {t : Trk} {ws : List Pt} (h0 : 0 < ws.length) : allL t ws ws.length [] = elbsL t ws :=
  allL_goL h0 ws.length [] (by simp) (fun i hi => by simp at hi) (fun i _ hi => by simp at hi)
/-- What the reference does with a further sweep. -/
def refIns (n : Int) (out : List Int) : List Int := if n ∈ out then out else out.filter (fun x => decide (x < n)) ++ n :: out.filter (fun x => !decide (x < n))
theorem refIns_eq {n : Int} {out : List Int} (h : asc out) : refIns n out = insA n out := by
  refine asc_one ?_ (asc_insA h) (fun x => ?_)
  · unfold refIns
    split
    · exact h
    · rename_i hn
      unfold asc
      rw [List.pairwise_append]
      refine ⟨h.filter _, List.pairwise_cons.2 ⟨fun y hy => ?_, h.filter _⟩, fun a ha b hb => ?_⟩
      · rw [List.mem_filter] at hy
        have h2 := hy.2
        simp only [Bool.not_eq_true', decide_eq_false_iff_not] at h2
        have : y ≠ n := fun e => hn (e ▸ hy.1)
        omega
      · rw [List.mem_filter] at ha
        have ha2 := ha.2
        simp only [decide_eq_true_eq] at ha2
        rcases List.mem_cons.1 hb with rfl | hb
        · exact ha2
        · rw [List.mem_filter] at hb
          have h2 := hb.2
          simp only [Bool.not_eq_true', decide_eq_false_iff_not] at h2
          omega
  · rw [mem_insA]
    unfold refIns
    split
    · rename_i hn
      exact ⟨.inr, fun h => h.elim (fun e => e ▸ hn) id⟩
    · rw [List.mem_append, List.mem_cons, List.mem_filter, List.mem_filter]
      simp only [decide_eq_true_eq, Bool.not_eq_true', decide_eq_false_iff_not]
      constructor
      · rintro (h | h | h)
        · exact .inr h.1
        · exact .inl h
        · exact .inr h.1
      · rintro (h | h)
        · exact .inr (.inl h)
        · by_cases hx : x < n
          · exact .inl ⟨h, hx⟩
          · exact .inr (.inr ⟨h, hx⟩)
/-- The sweeps of the first elbows, ascending. -/
def rollTo (t : Trk) (ws : List Pt) (l : List (List Int)) (k : Nat) : List Int := ascOf ((l.take k).map (sweepV t ws))
theorem ascOf_snoc (l : List Int) (n : Int) : ascOf (l ++ [n]) = insA n (ascOf l) := by
  unfold ascOf
  rw [List.foldl_append]
  rfl
theorem rollTo_succ {t : Trk} {ws : List Pt} {l : List (List Int)} {k : Nat} {es : List Int} (h : l[k]? = some es) : rollTo t ws l (k + 1) = refIns (sweepV t ws es) (rollTo t ws l k) := by
  rw [refIns_eq (show asc (rollTo t ws l k) from asc_ascOf _)]
  unfold rollTo
  have hk := (List.getElem?_eq_some_iff.1 h).1
  have e := (List.getElem?_eq_some_iff.1 h).2
  rw [List.take_succ_eq_append_getElem hk, e, List.map_append, List.map_singleton, ascOf_snoc]
/-- The fewest moves of the first elbows. -/
def leastTo (m : Int) (l : List (List Int)) : Nat → Int
  | 0 => m
  | k + 1 => min (leastTo m l k) (movesV ((l[k]?).getD []))
theorem mvTo_bd (es : List Int) : ∀ k : Nat, 0 ≤ mvTo es k ∧ mvTo es k ≤ k
  | 0 => by simp [mvTo]
  | k + 1 => by
    have ih := mvTo_bd es k
    show 0 ≤ mvTo es k + _ ∧ mvTo es k + _ ≤ ((k + 1 : Nat) : Int)
    split <;> omega
theorem leastTo_le (m : Int) (l : List (List Int)) : ∀ k : Nat, leastTo m l k ≤ m ∧ ∀ i, i < k → leastTo m l k ≤ movesV ((l[i]?).getD [])
  | 0 => ⟨Int.le_refl _, fun i hi => by omega⟩
  | k + 1 => by
    obtain ⟨h1, h2⟩ := leastTo_le m l k
    have e : leastTo m l (k + 1) = min (leastTo m l k) (movesV ((l[k]?).getD [])) := rfl
    rw [e]
    refine ⟨by omega, fun i hi => ?_⟩
    by_cases hik : i = k
    · subst hik; omega
    · have := h2 i (by omega); omega
theorem leastTo_is (m : Int) (l : List (List Int)) : ∀ k : Nat, leastTo m l k = m ∨ ∃ i, i < k ∧ leastTo m l k = movesV ((l[i]?).getD [])
  | 0 => .inl rfl
  | k + 1 => by
    have e : leastTo m l (k + 1) = min (leastTo m l k) (movesV ((l[k]?).getD [])) := rfl
    rcases leastTo_is m l k with h | ⟨i, hi, h⟩
    · by_cases hh : leastTo m l k ≤ movesV ((l[k]?).getD [])
      · exact .inl (by omega)
      · exact .inr ⟨k, by omega, by omega⟩
    · by_cases hh : leastTo m l k ≤ movesV ((l[k]?).getD [])
      · exact .inr ⟨i, by omega, by omega⟩
      · exact .inr ⟨k, by omega, by omega⟩
theorem leastTo_eq {m : Int} {l : List (List Int)} (hne : l ≠ []) (hm : ∀ es ∈ l, movesV es ≤ m) : leastTo m l l.length = movesV (calmV l) := by
  obtain ⟨c1, c2⟩ := calmV_spec hne
  obtain ⟨h1, h2⟩ := leastTo_le m l l.length
  have g : ∀ i, i < l.length → (l[i]?).getD [] ∈ l := fun i hi => by
    rw [List.getElem?_eq_getElem hi]
    exact List.getElem_mem hi
  have a : leastTo m l l.length ≤ movesV (calmV l) := by
    obtain ⟨i, hi, e⟩ := List.getElem_of_mem c1
    have := h2 i hi
    rw [List.getElem?_eq_getElem hi, Option.getD_some, e] at this
    exact this
  have b : movesV (calmV l) ≤ leastTo m l l.length := by
    rcases leastTo_is m l l.length with h | ⟨i, hi, h⟩
    · have := hm _ c1; omega
    · rw [h]; exact c2 _ (g i hi)
  omega
end Wl
end Go.Proofs.Ytmjcdggmofohcaa
namespace Go.Proofs.Ytmjcdggmofohcaa
open Go.RowKit
def upd (s : Nat → Bool) (j k : Nat) : Bool := k == j || s k
def marked (pre : Array Bool) (J : List Nat) (s : Nat → Bool) : Array Bool := pre.mapIdx fun i b => if J.contains i then s i else b
theorem marked_upd {pre : Array Bool} {J : List Nat} {s : Nat → Bool} {j : Nat} (hj : j ∈ J) : (marked pre J s).setIfInBounds j true = marked pre J (upd s j) := by
  apply Array.ext_getElem?
  intro i
  rw [Array.getElem?_setIfInBounds]
  unfold marked
  rw [Array.getElem?_mapIdx, Array.getElem?_mapIdx, Array.size_mapIdx]
  by_cases h : j = i
  · subst h
    rw [if_pos rfl]
    by_cases hlt : j < pre.size
    · rw [if_pos hlt, Array.getElem?_eq_getElem hlt]
      simp [upd, hj]
    · rw [if_neg hlt, Array.getElem?_eq_none (by omega)]
      rfl
  · have h' : (i == j) = false := by simpa using fun e => h e.symm
    rw [if_neg h]
    simp [upd, h']
theorem marked_congr {pre : Array Bool} {J : List Nat} {s s' : Nat → Bool} (h : ∀ j ∈ J, s j = s' j) : marked pre J s = marked pre J s' := by
  unfold marked
  congr 1
  funext i b
  cases hc : J.contains i with
  | false => rfl
  | true => exact h i (by simpa using hc)
def subs : List Nat → List (List Nat)
  | [] => [[]]
  | j :: J => subs J ++ (subs J).map (j :: ·)
theorem filter_subs (s : Nat → Bool) : ∀ J : List Nat, J.filter s ∈ subs J
  | [] => by simp [subs]
  | j :: J => by
    have ih := filter_subs s J
    unfold subs
    rw [List.mem_append]
    cases h : s j with
    | false => left; rw [List.filter_cons_of_neg (by simp [h])]; exact ih
    | true => right; rw [List.filter_cons_of_pos h]; exact List.mem_map.2 ⟨_, ih, rfl⟩
/-- The checks on the order: whatever of J has come, only what is of J may come next, no number c, each behind what D says; and something may, until all of J has come. -/
def anyB (md : Region.Mode) (ops : Array Oper) (c : Nat) (J : List Nat) (D : List (Nat × Nat)) (pre : Array Bool) : Bool :=
  J.all (fun j => (!pre.getD j true) && match ops[j]? with | some o => o.guard.isNone | none => false) &&
  reachedB md ops pre && (subs J).all fun L => !reachedB md ops (marked pre J L.contains) ||
    (J.all L.contains || ((Region.ready md ops (marked pre J L.contains)).all (fun i => J.contains i && (!(i == c) && D.all fun d => !(d.2 == i) || L.contains d.1)) &&
      !(Region.ready md ops (marked pre J L.contains)).isEmpty))
theorem reachedB_of {md : Region.Mode} {ops : Array Oper} {listed : Array Bool} (h : Reached md ops listed) : reachedB md ops listed = true := by
  unfold reachedB
  rw [List.all_eq_true]
  intro k _
  cases hl : listed.getD k false with
  | false => rfl
  | true =>
    cases ho : ops[k]? with
    | none => rfl
    | some o =>
      simp only [Bool.not_true, Bool.false_or, Array.all_eq_true_iff_forall_mem]
      intro e he
      cases hb : Region.binds md e with
      | false => rfl
      | true => simpa using h k o ho hl e he hb
theorem count_upd {s : Nat → Bool} {i : Nat} : ∀ {J : List Nat}, J.Nodup → i ∈ J → s i = false → (J.filter fun j => !s j).length = (J.filter fun j => !upd s i j).length + 1
  | j :: J, hn, hi, hs => by
    rw [List.nodup_cons] at hn
    by_cases h : j = i
    · subst h
      have e : (J.filter fun k => !upd s j k) = J.filter fun k => !s k := List.filter_congr fun k hk => by
        have : (k == j) = false := by simpa using fun e : k = j => hn.1 (e ▸ hk)
        simp [upd, this]
      rw [List.filter_cons_of_pos (by simp [hs]), List.filter_cons_of_neg (by simp [upd]), e, List.length_cons]
    · have hi' : i ∈ J := by
        rcases List.mem_cons.1 hi with e | e
        · exact absurd e.symm h
        · exact e
      have ih := count_upd hn.2 hi' hs
      have e : (!upd s i j) = !s j := by simp [upd, h]
      cases hj : s j with
      | true => rw [List.filter_cons_of_neg (by simp [hj]), List.filter_cons_of_neg (by simp [e, hj])]; exact ih
      | false => rw [List.filter_cons_of_pos (by simp [hj]), List.filter_cons_of_pos (by simp [e, hj]), List.length_cons, List.length_cons, ih]
section
variable {F : Fence} {n : Nat} {P : Program} {ops : Array Oper} {Q : Exit → Act → World → Prop} {md : Region.Mode} {S : World → Prop} {c : Nat}
theorem wpHeldIn_any (J : List Nat) (D : List (Nat × Nat)) (I : Act → (Nat → Bool) → Act → World → Prop) {pre done : Array Bool} {a0 : Act} {w0 : World} {fuel f0 : Nat}
    (hf : fuel = J.length + f0) (hJ : J.Nodup) (hchk : anyB md ops c J D pre = true) (hdone : marked pre J (fun _ => true) = done)
    (hpre : marked pre J (fun _ => false) = pre)
    (h0 : I a0 (fun _ => false) a0 w0)
    (hstep : ∀ j o, j ∈ J → ops[j]? = some o → ∀ s a w, I a0 s a w → s j = false → (∀ i, (i, j) ∈ D → s i = true) → ∀ K : Act → World → Prop, (∀ a' w', S w' → I a0 (upd s j) a' w' → K a' w') → Oper.wpIn F n P o a w K Q)
    (hend : ∀ s a w, (∀ j ∈ J, s j = true) → I a0 s a w → wpHeldIn F n P md ops Q S c f0 done a w) :
    wpHeldIn F n P md ops Q S c fuel pre a0 w0 := by
  unfold anyB at hchk
  rw [Bool.and_eq_true, Bool.and_eq_true, List.all_eq_true, List.all_eq_true] at hchk
  obtain ⟨⟨hg, hrc⟩, hr⟩ := hchk
  have hcon : ∀ (s : Nat → Bool) (k : Nat), (∀ j ∈ J, (J.filter s).contains j = s j) := fun s k j hj => by
    cases h : s j with
    | true => simpa using ⟨hj, h⟩
    | false => simpa using fun _ => h
  have main : ∀ (k : Nat) (s : Nat → Bool) (a : Act) (w : World), Reached md ops (marked pre J s) → I a0 s a w → (J.filter fun j => !s j).length = k → wpHeldIn F n P md ops Q S c (k + f0) (marked pre J s) a w := by
    intro k
    induction k with
    | zero =>
      intro s a w hre hI hk
      have hall : ∀ j ∈ J, s j = true := fun j hj => by
        cases h : s j with
        | true => rfl
        | false =>
          have : j ∈ J.filter fun j => !s j := List.mem_filter.2 ⟨hj, by simp [h]⟩
          rw [List.length_eq_zero_iff.1 hk] at this
          cases this
      rw [Nat.zero_add, marked_congr (s' := fun _ => true) hall, hdone]
      exact hend s a w hall hI
    | succ k ih =>
      intro s a w hre hI hk
      have hL := hr _ (filter_subs s J)
      have hnall : J.all (J.filter s).contains = false := by
        rw [Bool.eq_false_iff]
        intro hall
        rw [List.all_eq_true] at hall
        have : J.filter (fun j => !s j) = [] := List.filter_eq_nil_iff.2 fun j hj => by
          have := hall j hj
          rw [hcon s 0 j hj] at this
          simp [this]
        rw [this] at hk
        cases hk
      rw [marked_congr (s' := s) (hcon s 0), reachedB_of hre, hnall, Bool.not_true, Bool.false_or, Bool.false_or, Bool.and_eq_true, List.all_eq_true] at hL
      obtain ⟨hL1, hL2⟩ := hL
      rw [Nat.succ_add]
      refine ⟨fun h0 => ?_, fun i hi => ?_⟩
      · rw [h0] at hL2
        cases hL2
      · have h1 := hL1 i hi
        simp only [Bool.and_eq_true, List.all_eq_true] at h1
        obtain ⟨hiJ, hic, hD⟩ := h1
        have hiJ' : i ∈ J := by simpa using hiJ
        have hic' : i ≠ c := by simpa using hic
        rw [if_neg hic']
        obtain ⟨hl, o, ho, hafter⟩ := mem_ready.1 hi
        have hsz : i < pre.size := by
          have := hg i hiJ'
          rw [Bool.and_eq_true] at this
          by_cases hlt : i < pre.size
          · exact hlt
          · have h2 := this.1
            rw [Array.getD_eq_getD_getElem?, Array.getElem?_eq_none (by omega)] at h2
            simp at h2
        have hsi : s i = false := by
          rw [Array.getD_eq_getD_getElem?, Array.getElem?_eq_getElem (by simpa [marked] using hsz)] at hl
          unfold marked at hl
          rw [Array.getElem_mapIdx] at hl
          simpa [hiJ'] using hl
        have hgo : o.guard = none := by
          have := hg i hiJ'
          rw [Bool.and_eq_true, ho] at this
          simpa using this.2
        have hdep : ∀ d, (d, i) ∈ D → s d = true := fun d hd => by
          have := hD _ hd
          simp only [beq_self_eq_true, Bool.not_true, Bool.false_or] at this
          have hm : d ∈ J.filter s := by simpa using this
          exact (List.mem_filter.1 hm).2
        unfold wpOpIn
        simp only [ho]
        rw [if_pos (show Region.wanted o (yielded ops a.tmps) = true by unfold Region.wanted; rw [hgo])]
        refine hstep i o hiJ' ho s a w hI hsi hdep _ fun a' w' hS' hI' => ⟨hS', ?_⟩
        rw [marked_upd hiJ']
        exact ih _ a' w' (by rw [← marked_upd hiJ']; exact hre.step hi) hI' (by have := count_upd hJ hiJ' hsi; omega)
  subst hf
  have := main J.length (fun _ => false) a0 w0 (by rw [hpre]; exact reached_of hrc) h0 (by simp)
  rw [hpre] at this
  exact this
end
/-- A thing in memory that the call has made: a block of cells, or a row that is its own. -/
inductive Thing where
  | no
  | box (B : Nat) (t : TypeId) (vs : Array Value)
  | row (v : Value) (e : TypeId) (size n : Nat) (xs : List Value)
def Thing.blk : Thing → Option Nat
  | .no => none
  | .box B _ _ => some B
  | .row v _ _ _ _ => v.ownBlock
def Thing.In (w : World) (NB : Nat) : Thing → Prop
  | .no => True
  | .box B t vs => BoxS w B t vs ∧ NB ≤ B
  | .row v e size n xs => w.ownsRow NB e size v n xs
theorem Thing.lt {w : World} {NB : Nat} {T : Thing} (h : T.In w NB) {g : Nat} (hg : T.blk = some g) : NB ≤ g ∧ g < w.heap.size := by
  cases T with
  | no => cases hg
  | box B t vs => injection hg with e; subst e; exact ⟨h.2, h.1.lt⟩
  | row v e size n xs => exact World.ownsRow.lt h g hg
theorem Thing.kept {w w' : World} {NB : Nat} {T : Thing} (h : T.In w NB) {row : Option Nat} (hg : w.grownBy w' row) (hne : ∀ g, T.blk = some g → row ≠ some g) : T.In w' NB := by
  cases T with
  | no => trivial
  | box B t vs =>
    refine ⟨?_, h.2⟩
    have := hg.block B h.1.lt (fun e => hne B rfl e.symm)
    show w'.heap[B]? = _
    rw [this]
    exact h.1
  | row v e size n xs =>
    refine World.ownsRow.kept h hg ?_
    cases hb : v.ownBlock with
    | none => exact .inl rfl
    | some g => exact .inr fun e => hne g hb e.symm
theorem grown_of_below {w w' : World} {n : Nat} (h : Below n w w') (hn : w.heap.size ≤ n) : w.grownBy w' none := ⟨h.os, h.tape, h.output, h.size, fun k hk _ => h.block k (by omega)⟩
def Has (w : World) (NB : Nat) (L : List Thing) : Prop := (∀ T ∈ L, T.In w NB) ∧ L.Pairwise fun a b => ∀ g, a.blk = some g → b.blk ≠ some g
theorem Has.get {w : World} {NB : Nat} {L : List Thing} (h : Has w NB L) (i : Nat) {T : Thing} (hi : L[i]? = some T) : T.In w NB := h.1 T (List.mem_of_getElem? hi)
theorem Has.below {w w' : World} {NB : Nat} {L : List Thing} (h : Has w NB L) {n : Nat} (hb : Below n w w') (hn : w.heap.size ≤ n) : Has w' NB L :=
  ⟨fun T hT => Thing.kept (h.1 T hT) (grown_of_below hb hn) (fun g _ e => by cases e), h.2⟩
theorem pairwise_set {α : Type} {R : α → α → Prop} (hsym : ∀ a b, R a b → R b a) : ∀ {L : List α} (i : Nat) (x : α), L.Pairwise R → (∀ k y, L[k]? = some y → k ≠ i → R y x) → (L.set i x).Pairwise R
  | [], _, _, _, _ => by simp
  | y :: L, 0, x, h, hx => by
    rw [List.pairwise_cons] at h
    rw [List.set_cons_zero, List.pairwise_cons]
    refine ⟨fun z hz => ?_, h.2⟩
    obtain ⟨k, hk⟩ := List.mem_iff_getElem?.1 hz
    exact hsym _ _ (hx (k + 1) z (by simpa using hk) (by omega))
  | y :: L, i + 1, x, h, hx => by
    rw [List.pairwise_cons] at h
    rw [List.set_cons_succ, List.pairwise_cons]
    refine ⟨fun z hz => ?_, pairwise_set hsym i x h.2 fun k z hk hne => hx (k + 1) z (by simpa using hk) (by omega)⟩
    rcases List.mem_or_eq_of_mem_set hz with hm | rfl
    · exact h.1 z hm
    · exact hx 0 y rfl (by omega)
theorem pairwise_get {α : Type} {R : α → α → Prop} (hsym : ∀ a b, R a b → R b a) {L : List α} (h : L.Pairwise R) {i k : Nat} {x y : α} (hi : L[i]? = some x) (hk : L[k]? = some y) (hne : i ≠ k) : R x y := by
  obtain ⟨h1, rfl⟩ := List.getElem?_eq_some_iff.1 hi
  obtain ⟨h2, rfl⟩ := List.getElem?_eq_some_iff.1 hk
  rcases Nat.lt_or_gt_of_ne hne with hlt | hlt
  · exact List.pairwise_iff_getElem.1 h i k h1 h2 hlt
  · exact hsym _ _ (List.pairwise_iff_getElem.1 h k i h2 h1 hlt)
theorem apart_sym (a b : Thing) (h : ∀ g, a.blk = some g → b.blk ≠ some g) : ∀ g, b.blk = some g → a.blk ≠ some g := fun g h1 h2 => h g h2 h1
/-- One of the things turns; the others stay. -/
theorem Has.change {w w' : World} {NB : Nat} {L : List Thing} (h : Has w NB L) (i : Nat) {T : Thing} (hi : L[i]? = some T) {row : Option Nat} (hg : w.grownBy w' row) (hrow : ∀ g, row = some g → T.blk = some g) {T' : Thing} (hT : T'.In w' NB)
    (hnew : ∀ g, T'.blk = some g → T.blk = some g ∨ w.heap.size ≤ g) : Has w' NB (L.set i T') := by
  have hap : ∀ k y, L[k]? = some y → k ≠ i → ∀ g, y.blk = some g → T'.blk ≠ some g := fun k y hk hne g hy he => by
    rcases hnew g he with e | e
    · exact pairwise_get apart_sym h.2 hk hi hne g hy e
    · have := (Thing.lt (h.get k hk) hy).2
      omega
  refine ⟨fun U hU => ?_, pairwise_set apart_sym i T' h.2 hap⟩
  obtain ⟨k, hk⟩ := List.mem_iff_getElem?.1 hU
  by_cases hki : i = k
  · subst hki
    rw [List.getElem?_set_self (List.getElem?_eq_some_iff.1 hi).1] at hk
    cases hk
    exact hT
  · rw [List.getElem?_set_ne hki] at hk
    refine Thing.kept (h.get k hk) hg fun g hb e => ?_
    exact pairwise_get apart_sym h.2 hk hi (fun e => hki e.symm) g hb (hrow g e)
theorem Has.fresh {w w' : World} {NB : Nat} {L : List Thing} (h : Has w NB L) (i : Nat) (hi : L[i]? = some .no) {n : Nat} (hb : Below n w w') (hn : w.heap.size ≤ n) {T' : Thing} (hT : T'.In w' w.heap.size) (hNB : NB ≤ w.heap.size) : Has w' NB (L.set i T') := by
  refine h.change i hi (grown_of_below hb hn) (fun g e => by cases e) ?_ fun g hg => .inr (Thing.lt hT hg).1
  cases T' with
  | no => trivial
  | box B t vs => exact ⟨hT.1, Nat.le_trans hNB hT.2⟩
  | row v e size m xs =>
    obtain ⟨h1, h2⟩ := hT
    refine ⟨h1, ?_⟩
    rcases h2 with h2 | ⟨g, cap, cur, a1, a2, a3⟩
    · exact .inl h2
    · exact .inr ⟨g, cap, cur, a1, Nat.le_trans hNB a2, a3⟩
theorem grownBy_set (w : World) (B i : Nat) (v : Value) : w.grownBy (w.setCell ⟨B, i, none⟩ v) (some B) :=
  ⟨rfl, rfl, rfl, by show _ ≤ (w.heap.modify B _).size; rw [Array.size_modify]; exact Nat.le_refl _, fun k _ hne => by
    show (w.heap.modify B _)[k]? = _
    rw [Array.getElem?_modify, if_neg (fun e => hne (by rw [e]))]⟩
end Go.Proofs.Ytmjcdggmofohcaa
namespace Go.Proofs.Ytmjcdggmofohcaa
open Go.RowKit
section
variable {F : Fence} {n : Nat} {P : Program} (w : World)
theorem wpIn_append_any {o : Oper} {a : Act} {K : Act → World → Prop} {Q : Exit → Act → World → Prop} (s x : Operand) (t : TypeId)
    (ho : o.op = .call { callee := .builtin .append, args := #[s, x], argTypes := #[t, t] })
    (base : Nat) (e : TypeId) (i : TypeInfo) (z : Value) (size bytes : Nat) (ht : P.underlying t = some (.slice e)) (hi : P.info? e = some i) (hz : i.zero = some z)
    (hsize : i.size = size) (hby : i.bytes = bytes) (hzs : z.cells.size = size) (hsz : 0 < size)
    (v : Value) (m0 : Nat) (xs : List Value) (hs : a.eval s = v) (hown : w.ownsRow base e size v m0 xs)
    (B : Nat) (A : Option Addr) (m c : Nat) (news : List Value) (hx : a.eval x = .slice A m c) (hr : Reads w B size A m news) (h1 : ∀ u ∈ news, u.oneCell' = true)
    (h63 : m0 + m ≤ maxLen) (hbytes : (m0 + m) * bytes ≤ 140737488355328) (hbase : base ≤ w.heap.size)
    (h : ∀ v' w', w'.ownsRow base e size v' (m0 + m) (xs ++ news) → w.grownBy w' v.ownBlock → (v'.ownBlock = v.ownBlock ∨ v'.ownBlock = some w.heap.size) → K (a.put o.dst v') w') : o.wpIn F n P a w K Q := by
  obtain ⟨v', w', hrun, h2, h3, h4⟩ := run_append_any (P := P) w base t o.type e i z size bytes ht hi hz hsize hby hzs hsz v m0 xs hown B A m c news hr h1 h63 hbytes hbase
  unfold Oper.wpIn
  refine ⟨fun f hf => ?_, ?_⟩
  · unfold Oper.about at hf
    rw [ho] at hf
    simp [resolve, Sem.run_pure] at hf
    cases hf
  · rw [Oper.semAt_eq _ _ _ (fun c hc => by rw [ho] at hc; cases hc)]
    unfold execOp
    simp only [ho, resolve, invoke, builtin, Sem.run_bind, Sem.run_pure, Result.andThen_ok, List.map_toArray, List.map_cons, List.map_nil, hs, hx, hrun]
    exact h v' w' h2 h3 h4
end
theorem put_ne {a : Act} {d t : Nat} (h : t ≠ d) (v : Value) : (a.put (some d) v).eval (.tmp t) = a.eval (.tmp t) := by
  show (a.tmps.setIfInBounds d v).getD t undef = a.tmps.getD t undef
  simp only [Array.getD_eq_getD_getElem?]
  rw [Array.getElem?_setIfInBounds_ne (fun e => h e.symm)]
theorem put_eq {a : Act} {d : Nat} (h : d < a.tmps.size) (v : Value) : (a.put (some d) v).eval (.tmp d) = v := by
  show (a.tmps.setIfInBounds d v).getD d undef = v
  simp only [Array.getD_eq_getD_getElem?]
  rw [Array.getElem?_setIfInBounds_self_of_lt h]
  rfl
theorem put_size (a : Act) (d : Nat) (v : Value) : (a.put (some d) v).tmps.size = a.tmps.size := Array.size_setIfInBounds ..
theorem put_comm {a : Act} {d e : Nat} (h : d ≠ e) (u v : Value) : (a.put (some d) u).put (some e) v = (a.put (some e) v).put (some d) u := by
  show ({ a with tmps := (a.tmps.setIfInBounds d u).setIfInBounds e v } : Act) = { a with tmps := (a.tmps.setIfInBounds e v).setIfInBounds d u }
  rw [Array.setIfInBounds_comm _ _ h]
/-- A slot that is filled once its operation has come. -/
def putIf (b : Bool) (d : Nat) (v : Value) (a : Act) : Act := if b then a.put (some d) v else a
theorem putIf_ne {a : Act} {d t : Nat} (h : t ≠ d) (b : Bool) (v : Value) : (putIf b d v a).eval (.tmp t) = a.eval (.tmp t) := by
  cases b
  · rfl
  · exact put_ne h v
theorem putIf_size (a : Act) (b : Bool) (d : Nat) (v : Value) : (putIf b d v a).tmps.size = a.tmps.size := by
  cases b
  · rfl
  · exact put_size a d v
theorem putIf_put {a : Act} {d e : Nat} (h : d ≠ e) (b : Bool) (u v : Value) : (putIf b d u a).put (some e) v = putIf b d u (a.put (some e) v) := by
  cases b
  · rfl
  · exact put_comm h u v
theorem one_int (k : Int) : ∀ u ∈ [Value.int .i64 k], u.oneCell' = true := fun u hu => by
  obtain rfl : u = .int .i64 k := by simpa using hu
  rfl
theorem ints_one9 (l : List Int) : ∀ u ∈ l.map (Value.int .i64), u.oneCell' = true := fun u hu => by
  obtain ⟨x, _, rfl⟩ := List.mem_map.1 hu
  rfl
theorem reads1 {w : World} {B : Nat} {k : Int} (h : BoxS w B 3 #[.int .i64 k]) : Reads w w.heap.size 1 (some ⟨B, 0, none⟩) 1 [.int .i64 k] :=
  ⟨rfl, fun _ => ⟨_, rfl, h.lt, fun j u hu => by
    rcases j with _ | j
    · obtain rfl : Value.int .i64 k = u := by simpa using hu
      exact h.cell 0 rfl
    · simp at hu⟩⟩
theorem run_build0 (W : World) : (Instr.buildSlice 35 0 #[]).run Try.prog W = .ok (.slice (some ⟨W.heap.size, 0, none⟩) 0 0) (W.alloc (.cells #[] 3)) := by kernel_rfl
theorem run_build1 (a : Int) (W : World) : (Instr.buildSlice 35 1 #[(0, .int .i64 a)]).run Try.prog W = .ok (.slice (some ⟨W.heap.size, 0, none⟩) 1 1) (W.alloc (.cells #[.int .i64 a] 3)) := by kernel_rfl
section
variable {F : Fence} {n : Nat} {o : Oper} {a : Act} {K : Act → World → Prop} {Q : Exit → Act → World → Prop} {wr : World}
theorem wpIn_build0 (ho : o.op = .buildSlice 35 0 #[]) (h : K (a.put o.dst (.slice (some ⟨wr.heap.size, 0, none⟩) 0 0)) (wr.alloc (.cells #[] 3))) : o.wpIn F n Try.prog a wr K Q := by
  refine ⟨fun f hf => ?_, ?_⟩
  · unfold Oper.about at hf
    rw [ho] at hf
    cases hf
  · rw [Oper.semAt_eq _ _ _ (fun c hc => by rw [ho] at hc; cases hc)]
    unfold execOp
    simp only [ho, List.map_toArray, List.map_nil, Sem.run_bind, run_build0, Result.andThen_ok, Sem.run_pure]
    exact h
theorem wpIn_build1 (x : Operand) (ho : o.op = .buildSlice 35 1 #[(0, x)]) (k : Int) (hx : a.eval x = .int .i64 k)
    (h : K (a.put o.dst (.slice (some ⟨wr.heap.size, 0, none⟩) 1 1)) (wr.alloc (.cells #[.int .i64 k] 3))) : o.wpIn F n Try.prog a wr K Q := by
  refine ⟨fun f hf => ?_, ?_⟩
  · unfold Oper.about at hf
    rw [ho] at hf
    cases hf
  · rw [Oper.semAt_eq _ _ _ (fun c hc => by rw [ho] at hc; cases hc)]
    unfold execOp
    simp only [ho, List.map_toArray, List.map_cons, List.map_nil, hx, Sem.run_bind, run_build1, Result.andThen_ok, Sem.run_pure]
    exact h
theorem wpIn_appw (s y : Operand) (ho : o.op = .call { callee := .builtin .append, args := #[s, y], argTypes := #[35, 35] }) (B : Nat) (v : Value) (m : Nat) (xs : List Value) (hs : a.eval s = v) (hown : wr.ownsRow B 3 1 v m xs)
    (A : Option Addr) (m2 c2 : Nat) (news : List Value) (hx : a.eval y = .slice A m2 c2) (hr : Reads wr wr.heap.size 1 A m2 news) (h1 : ∀ u ∈ news, u.oneCell' = true) (hm : m + m2 ≤ 10000000) (hB : B ≤ wr.heap.size)
    (h : ∀ A' c' w', w'.ownsRow B 3 1 (.slice A' (m + m2) c') (m + m2) (xs ++ news) → wr.grownBy w' v.ownBlock → (Value.ownBlock (.slice A' (m + m2) c') = v.ownBlock ∨ Value.ownBlock (.slice A' (m + m2) c') = some wr.heap.size) → K (a.put o.dst (.slice A' (m + m2) c')) w') : o.wpIn F n Try.prog a wr K Q := by
  obtain ⟨i0, hi0, hz0, hz1, hz2⟩ := info_parts1w int_info3
  refine wpIn_append_any wr s y 35 ho B 3 i0 (.int .i64 0) 1 8 Try.underlying35 hi0 hz0 hz1 hz2 rfl (by decide) v m xs hs hown wr.heap.size A m2 c2 news hx hr h1 (by simp only [maxLen]; omega) (by omega) hB ?_
  intro v' w' h2 h3 h4
  obtain ⟨A', c', rfl⟩ := owni_form h2
  exact h A' c' w' h2 h3 h4
end
def cpT (b1 b3 : Bool) (u1 u3 : Value) (ws : List Int) : Thing := if b3 then .row u3 3 1 ws.length (ws.map (Value.int .i64)) else if b1 then .row u1 3 1 0 [] else .no
def nwT (b5 : Bool) (B : Nat) (k : Int) : Thing := if b5 then .box B 3 #[.int .i64 k] else .no
/-- What holds after some of the four operations. -/
def pushI (i1 i3 i5 i6 d1 d3 d5 d6 : Nat) (ws : List Int) (k : Int) (w0 : World) (a : Act) (s : Nat → Bool) (a' : Act) (w' : World) : Prop :=
  ∃ (u1 u3 u6 : Value) (B : Nat), a' = putIf (s i6) d6 u6 (putIf (s i5) d5 (.slice (some ⟨B, 0, none⟩) 1 1) (putIf (s i3) d3 u3 (putIf (s i1) d1 u1 a))) ∧ Below w0.heap.size w0 w' ∧ ((s i3 = true → s i1 = true) ∧ (s i6 = true → s i3 = true ∧ s i5 = true)) ∧
    (s i6 = true → ∃ A' c', u6 = .slice A' (ws.length + 1) c' ∧ w'.ownsRow w0.heap.size 3 1 (.slice A' (ws.length + 1) c') (ws.length + 1) ((ws ++ [k]).map (Value.int .i64))) ∧ (s i6 = false → Has w' w0.heap.size [cpT (s i1) (s i3) u1 u3 ws, nwT (s i5) B k])
theorem has_none (w : World) (NB : Nat) : Has w NB [.no, .no] := ⟨fun T hT => by
  have : T = .no := by simpa using hT
  subst this; trivial, by simp [Thing.blk]⟩
section
variable {F : Fence} {n : Nat} {ops : Array Oper} {Q : Exit → Act → World → Prop} {md : Region.Mode} {c : Nat}
theorem wpHeldIn_pushi (i1 i3 i5 i6 d1 d3 d5 d6 t3 t5 : Nat) {o1 o3 o5 o6 : Oper} {pre done : Array Bool} {a0 : Act} {w0 wb : World} {fuel f0 : Nat} {A : Option Addr} {cc : Nat} {ws : List Int} (k : Int) (hf : fuel = 4 + f0)
    (g1 : ops[i1]? = some o1) (g3 : ops[i3]? = some o3) (g5 : ops[i5]? = some o5) (g6 : ops[i6]? = some o6)
    (e1 : o1.op = .buildSlice 35 0 #[]) (e3 : o3.op = .call { callee := .builtin .append, args := #[.tmp d1, .tmp t3], argTypes := #[35, 35] })
    (e5 : o5.op = .buildSlice 35 1 #[(0, .tmp t5)]) (e6 : o6.op = .call { callee := .builtin .append, args := #[.tmp d3, .tmp d5], argTypes := #[35, 35] })
    (p1 : o1.dst = some d1) (p3 : o3.dst = some d3) (p5 : o5.dst = some d5) (p6 : o6.dst = some d6)
    (hchk : anyB md ops c [i1, i3, i5, i6] [(i1, i3), (i3, i6), (i5, i6)] pre = true) (hdone : marked pre [i1, i3, i5, i6] (fun _ => true) = done) (hpre : marked pre [i1, i3, i5, i6] (fun _ => false) = pre)
    (hJ : [i1, i3, i5, i6].Nodup) (hd : [d1, d3, d5, d6, t3, t5].Nodup) (hsz : d1 < a0.tmps.size ∧ d3 < a0.tmps.size ∧ d5 < a0.tmps.size)
    (hx3 : a0.eval (.tmp t3) = .slice A ws.length cc) (hx5 : a0.eval (.tmp t5) = .int .i64 k) (hW : GIn w0 w0.heap.size A cc ws) (hl : ws.length ≤ 1000000) (hb0 : Below wb.heap.size wb w0)
    (hend : ∀ v1 v3 v5 A' c' w', w'.ownsRow w0.heap.size 3 1 (.slice A' (ws.length + 1) c') (ws.length + 1) ((ws ++ [k]).map (Value.int .i64)) → Below wb.heap.size wb w' →
      wpHeldIn F n Try.prog md ops Q (fun W' => Below wb.heap.size wb W') c f0 done ((((a0.put (some d1) v1).put (some d3) v3).put (some d5) v5).put (some d6) (.slice A' (ws.length + 1) c')) w') :
    wpHeldIn F n Try.prog md ops Q (fun W' => Below wb.heap.size wb W') c fuel pre a0 w0 := by
  have hJ' := hJ
  simp only [List.nodup_cons, List.mem_cons, List.not_mem_nil, or_false, not_or, not_false_eq_true, List.nodup_nil, and_true] at hJ hd
  obtain ⟨⟨j13, j15, j16⟩, ⟨j35, j36⟩, j56⟩ := hJ
  obtain ⟨⟨d13, d15, d16, d1t, d1u⟩, ⟨d35, d36, d3t, d3u⟩, ⟨d56, d5t, d5u⟩, ⟨d6t, d6u⟩, _⟩ := hd
  have b13 : (i1 == i3) = false := beq_eq_false_iff_ne.2 j13
  have b31 : (i3 == i1) = false := beq_eq_false_iff_ne.2 (Ne.symm j13)
  have b15 : (i1 == i5) = false := beq_eq_false_iff_ne.2 j15
  have b51 : (i5 == i1) = false := beq_eq_false_iff_ne.2 (Ne.symm j15)
  have b16 : (i1 == i6) = false := beq_eq_false_iff_ne.2 j16
  have b61 : (i6 == i1) = false := beq_eq_false_iff_ne.2 (Ne.symm j16)
  have b35 : (i3 == i5) = false := beq_eq_false_iff_ne.2 j35
  have b53 : (i5 == i3) = false := beq_eq_false_iff_ne.2 (Ne.symm j35)
  have b36 : (i3 == i6) = false := beq_eq_false_iff_ne.2 j36
  have b63 : (i6 == i3) = false := beq_eq_false_iff_ne.2 (Ne.symm j36)
  have b56 : (i5 == i6) = false := beq_eq_false_iff_ne.2 j56
  have b65 : (i6 == i5) = false := beq_eq_false_iff_ne.2 (Ne.symm j56)
  refine wpHeldIn_any [i1, i3, i5, i6] [(i1, i3), (i3, i6), (i5, i6)] (pushI i1 i3 i5 i6 d1 d3 d5 d6 ws k w0) (f0 := f0) hf hJ' hchk hdone hpre ?_ ?_ ?_
  · exact ⟨undef, undef, undef, 0, rfl, Below.refl _ _, ⟨fun h => h, fun h => ⟨h, h⟩⟩, (fun h => by cases h), fun _ => has_none _ _⟩
  · intro j o hj ho s a w hI hsj hdep K hK
    obtain ⟨u1, u3, u6, B, rfl, hB, ⟨hi3, hi6⟩, h6, hH⟩ := hI
    have hBw : Below wb.heap.size wb w := hb0.trans (hB.mono hb0.size)
    simp only [List.mem_cons, List.not_mem_nil, or_false] at hj
    rcases hj with rfl | rfl | rfl | rfl
    · -- the empty slice
      rw [g1] at ho
      cases ho
      have s3 : s i3 = false := by
        cases h : s i3
        · rfl
        · rw [hi3 h] at hsj; cases hsj
      have s6 : s i6 = false := by
        cases h : s i6
        · rfl
        · have := (hi6 h).1; rw [s3] at this; cases this
      have hHw := hH s6
      refine wpIn_build0 e1 (hK _ _ (hBw.alloc hBw.size _) ?_)
      rw [p1]
      refine ⟨.slice (some ⟨w.heap.size, 0, none⟩) 0 0, u3, u6, B, ?_, hB.alloc hB.size _, ⟨fun h => ?_, fun h => ?_⟩, fun h => ?_, fun _ => ?_⟩
      · simp only [upd, BEq.rfl, b31, b51, b61, Bool.true_or, Bool.false_or, s3, s6, hsj]
        show (putIf (s i5) d5 _ a0).put (some d1) _ = putIf (s i5) d5 _ (a0.put (some d1) _)
        exact putIf_put (Ne.symm d15) _ _ _
      · simp [upd]
      · simp only [upd, b61, Bool.false_or, s6] at h; cases h
      · simp only [upd, b61, Bool.false_or, s6] at h; cases h
      · have := hHw.fresh 0 (by simp [cpT, s3, hsj]) (w' := w.alloc (.cells #[] 3)) (n := w.heap.size) ((Below.refl _ _).alloc (Nat.le_refl _) _) (Nat.le_refl _) (T' := .row (.slice (some ⟨w.heap.size, 0, none⟩) 0 0) 3 1 0 []) (World.ownsRow_made w #[] 0 (Nat.le_refl _) (by simp [maxLen]) rfl) hB.size
        simpa [upd, cpT, nwT, b31, b51, s3] using this
    · -- the copy
      rw [g3] at ho
      cases ho
      have s1 : s i1 = true := hdep i1 (by simp)
      have s6 : s i6 = false := by
        cases h : s i6
        · rfl
        · have := (hi6 h).1; rw [hsj] at this; cases this
      have hHw := hH s6
      have hrow : w.ownsRow w0.heap.size 3 1 u1 0 [] := by
        have := hHw.get 0 rfl
        simpa [cpT, hsj, s1, Thing.In] using this
      rw [s6, hsj, s1]
      refine wpIn_appw (.tmp d1) (.tmp t3) e3 w0.heap.size u1 0 [] ?_ hrow A ws.length cc (ws.map (Value.int .i64)) ?_ ((hW.keep hB).wider hB.size).reads (ints_one9 ws) (by omega) hB.size ?_
      · show (putIf (s i5) d5 _ (a0.put (some d1) u1)).eval (.tmp d1) = u1
        rw [putIf_ne d15, put_eq hsz.1]
      · show (putIf (s i5) d5 _ (a0.put (some d1) u1)).eval (.tmp t3) = _
        rw [putIf_ne (Ne.symm d5t), put_ne (Ne.symm d1t)]
        exact hx3
      intro A' c' w' h2 h3 h4
      have hB' : Below w0.heap.size w0 w' := hB.grown h3 hB.size (fun j hj => (hrow.lt j hj).1)
      rw [p3]
      refine hK _ _ (hb0.trans (hB'.mono hb0.size)) ?_
      simp only [Nat.zero_add, List.nil_append] at h2 h4 ⊢
      refine ⟨u1, .slice A' ws.length c', u6, B, ?_, hB', ⟨fun h => ?_, fun h => ?_⟩, fun h => ?_, fun _ => ?_⟩
      · simp only [upd, BEq.rfl, b13, b53, b63, Bool.true_or, Bool.false_or, s1, s6]
        show (putIf (s i5) d5 _ (a0.put (some d1) u1)).put (some d3) _ = putIf (s i5) d5 _ ((a0.put (some d1) u1).put (some d3) _)
        exact putIf_put (Ne.symm d35) _ _ _
      · simp only [upd, b13, Bool.false_or, s1]
      · simp only [upd, b63, Bool.false_or, s6] at h; cases h
      · simp only [upd, b63, Bool.false_or, s6] at h; cases h
      · have := hHw.change 0 (T := .row u1 3 1 0 []) (by simp [cpT, hsj, s1]) h3 (fun g h => h) (T' := .row (.slice A' ws.length c') 3 1 ws.length (ws.map (Value.int .i64))) h2 (fun g hg => by
          rcases h4 with h4 | h4
          · exact .inl (show u1.ownBlock = some g from h4.symm.trans hg)
          · refine .inr ?_
            have e : Thing.blk (.row (.slice A' ws.length c') 3 1 ws.length (ws.map (Value.int .i64))) = some w.heap.size := h4
            rw [e] at hg
            injection hg with hg
            omega)
        simpa [upd, cpT, nwT, b13, b53, s1] using this
    · -- the slice of one
      rw [g5] at ho
      cases ho
      have s6 : s i6 = false := by
        cases h : s i6
        · rfl
        · have := (hi6 h).2; rw [hsj] at this; cases this
      have hHw := hH s6
      rw [s6, hsj]
      refine wpIn_build1 (.tmp t5) e5 k ?_ (hK _ _ (hBw.alloc hBw.size _) ?_)
      · show (putIf (s i3) d3 _ (putIf (s i1) d1 u1 a0)).eval (.tmp t5) = _
        rw [putIf_ne (Ne.symm d3u), putIf_ne (Ne.symm d1u)]
        exact hx5
      rw [p5]
      refine ⟨u1, u3, u6, w.heap.size, ?_, hB.alloc hB.size _, ⟨fun h => ?_, fun h => ?_⟩, fun h => ?_, fun _ => ?_⟩
      · simp only [upd, BEq.rfl, b15, b35, b65, Bool.true_or, Bool.false_or, s6]
        rfl
      · simp only [upd, b15, b35, Bool.false_or] at h ⊢
        exact hi3 h
      · simp only [upd, b65, Bool.false_or, s6] at h; cases h
      · simp only [upd, b65, Bool.false_or, s6] at h; cases h
      · have := hHw.fresh 1 (by simp [nwT, hsj]) (w' := w.alloc (.cells #[.int .i64 k] 3)) (n := w.heap.size) ((Below.refl _ _).alloc (Nat.le_refl _) _) (Nat.le_refl _) (T' := .box w.heap.size 3 #[.int .i64 k]) ⟨BoxS.new w _ _, Nat.le_refl _⟩ hB.size
        simpa [upd, cpT, nwT, b15, b35] using this
    · -- one more walk
      rw [g6] at ho
      cases ho
      have s3 : s i3 = true := hdep i3 (by simp)
      have s5 : s i5 = true := hdep i5 (by simp)
      have s1 := hi3 s3
      have hHw := hH hsj
      have hrow : w.ownsRow w0.heap.size 3 1 u3 ws.length (ws.map (Value.int .i64)) := by
        have := hHw.get 0 rfl
        simpa [cpT, s3, Thing.In] using this
      have hbx : BoxS w B 3 #[.int .i64 k] := by
        have := hHw.get 1 rfl
        simp only [nwT, s5, Thing.In, if_true] at this
        exact this.1
      rw [hsj, s5, s3, s1]
      refine wpIn_appw (.tmp d3) (.tmp d5) e6 w0.heap.size u3 ws.length (ws.map (Value.int .i64)) ?_ hrow (some ⟨B, 0, none⟩) 1 1 [.int .i64 k] ?_ (reads1 hbx) (one_int k) (by omega) hB.size ?_
      · show (((a0.put (some d1) u1).put (some d3) u3).put (some d5) _).eval (.tmp d3) = u3
        rw [put_ne d35, put_eq (by rw [put_size]; exact hsz.2.1)]
      · show (((a0.put (some d1) u1).put (some d3) u3).put (some d5) _).eval (.tmp d5) = _
        rw [put_eq (by rw [put_size, put_size]; exact hsz.2.2)]
      intro A' c' w' h2 h3 h4
      have hB' : Below w0.heap.size w0 w' := hB.grown h3 hB.size (fun j hj => (hrow.lt j hj).1)
      rw [p6]
      refine hK _ _ (hb0.trans (hB'.mono hb0.size)) ?_
      refine ⟨u1, u3, .slice A' (ws.length + 1) c', B, ?_, hB', ⟨fun _ => ?_, fun _ => ⟨?_, ?_⟩⟩, fun _ => ⟨A', c', rfl, ?_⟩, fun h => ?_⟩
      · simp only [upd, BEq.rfl, b16, b36, b56, Bool.true_or, Bool.false_or, s1, s3, s5]
        rfl
      · simp only [upd, b16, Bool.false_or, s1]
      · simp only [upd, b36, Bool.false_or, s3]
      · simp only [upd, b56, Bool.false_or, s5]
      · rw [List.map_append]
        exact h2
      · simp only [upd, BEq.rfl, Bool.true_or] at h; cases h
  · intro s a w hall hI
    obtain ⟨u1, u3, u6, B, rfl, hB, _, h6, _⟩ := hI
    have s1 := hall i1 (by simp)
    have s3 := hall i3 (by simp)
    have s5 := hall i5 (by simp)
    have s6 := hall i6 (by simp)
    obtain ⟨A', c', rfl, hk⟩ := h6 s6
    rw [s1, s3, s5, s6]
    exact hend u1 u3 (.slice (some ⟨B, 0, none⟩) 1 1) A' c' w hk (hb0.trans (hB.mono hb0.size))
end
/-- A row of numbers that some call has made. -/
def IRow (w : World) (u : Value) (es : List Int) : Prop := w.ownsRow 0 3 1 u es.length (es.map (Value.int .i64))
theorem IRow.ints {w : World} {u : Value} {es : List Int} (h : IRow w u es) : Ints w w.heap.size u es := Ints.of_own h
theorem IRow.keep {w w' : World} {u : Value} {es : List Int} (h : IRow w u es) (hb : Below w.heap.size w w') : IRow w' u es := owni_below h hb
theorem IRow.of {w : World} {B : Nat} {u : Value} {es : List Int} (h : w.ownsRow B 3 1 u es.length (es.map (Value.int .i64))) : IRow w u es := ownsRow_base h (Nat.zero_le _)
theorem IRow.apart {w w' : World} {u v : Value} {es : List Int} {B n : Nat} {xs : List Value} (h : IRow w u es) (hv : w.ownsRow B 35 1 v n xs) (hg : w.grownBy w' v.ownBlock) : IRow w' u es := by
  refine World.ownsRow.kept h hg ?_
  rcases h.2 with ⟨rfl, _⟩ | ⟨g, cap, cur, rfl, _, hg1, _⟩
  · exact .inl rfl
  · refine .inr (fun e => ?_)
    rcases hv.2 with ⟨rfl, _⟩ | ⟨g', cap', cur', rfl, _, hg2, _⟩
    · cases e
    · have e2 : g = g' := by injection e
      subst e2
      rw [hg1] at hg2
      injection hg2 with hg2
      injection hg2 with _ ht
      exact absurd ht (by decide)
/-- Rows of numbers, in a row of the call's own. -/
def OwnL (w : World) (B : Nat) (v : Value) (L : List (List Int)) : Prop := ∃ xs : List Value, w.ownsRow B 35 1 v L.length xs ∧ ∀ (i : Nat) (es : List Int), L[i]? = some es → ∃ u, xs[i]? = some u ∧ IRow w u es
/-- A slice of rows of numbers reads as a list of lists. -/
def RdL (w : World) (B : Nat) (A : Option Addr) (L : List (List Int)) : Prop := ∃ xs : List Value, Reads w B 1 A L.length xs ∧ (∀ u ∈ xs, u.oneCell' = true) ∧ ∀ (i : Nat) (es : List Int), L[i]? = some es → ∃ u, xs[i]? = some u ∧ IRow w u es
theorem OwnL.nil (w : World) (B : Nat) : OwnL w B (.slice none 0 0) [] := ⟨[], World.ownsRow_nil _ _ _ _, fun i es h => by simp at h⟩
theorem OwnL.keep {w w' : World} {B : Nat} {v : Value} {L : List (List Int)} (h : OwnL w B v L) (hb : Below w.heap.size w w') : OwnL w' B v L := by
  obtain ⟨xs, h1, h2⟩ := h
  refine ⟨xs, h1.kept (row := none) ⟨hb.os, hb.tape, hb.output, hb.size, fun k hk _ => hb.block k hk⟩ (by cases hv : v.ownBlock <;> simp), fun i es hi => ?_⟩
  obtain ⟨u, hu, hI⟩ := h2 i es hi
  exact ⟨u, hu, hI.keep hb⟩
theorem OwnL.less {w : World} {B B' : Nat} {v : Value} {L : List (List Int)} (h : OwnL w B v L) (hB : B' ≤ B) : OwnL w B' v L := by
  obtain ⟨xs, h1, h2⟩ := h
  exact ⟨xs, ownsRow_base h1 hB, h2⟩
theorem OwnL.form {w : World} {B : Nat} {v : Value} {L : List (List Int)} (h : OwnL w B v L) : ∃ A c, v = .slice A L.length c := by
  obtain ⟨xs, h1, _⟩ := h
  exact owni_form h1
theorem ints_cell {w : World} {B : Nat} {u : Value} {es : List Int} (h : Ints w B u es) : u.oneCell' = true := by
  obtain ⟨A, c, rfl⟩ := ints_form h
  rfl
theorem OwnL.read {w : World} {B : Nat} {A : Option Addr} {c : Nat} {L : List (List Int)} (h : OwnL w B (.slice A L.length c) L) : RdL w w.heap.size A L := by
  obtain ⟨xs, h1, h2⟩ := h
  refine ⟨xs, Reads.of_own h1, fun u hu => ?_, h2⟩
  obtain ⟨i, hi, rfl⟩ := List.getElem_of_mem hu
  have hl : i < L.length := by have := h1.1; omega
  obtain ⟨u, hu, hI⟩ := h2 i L[i] (List.getElem?_eq_getElem hl)
  rw [List.getElem?_eq_getElem hi] at hu
  injection hu with hu
  rw [hu]
  exact ints_cell hI.ints
theorem RdL.keep {w w' : World} {A : Option Addr} {L : List (List Int)} (h : RdL w w.heap.size A L) (hb : Below w.heap.size w w') : RdL w' w'.heap.size A L := by
  obtain ⟨xs, h1, h2, h3⟩ := h
  refine ⟨xs, ⟨h1.1, fun hn => ?_⟩, h2, fun i es hi => ?_⟩
  · obtain ⟨ad, e, hlt, hc⟩ := h1.2 hn
    exact ⟨ad, e, Nat.lt_of_lt_of_le hlt hb.size, fun j u hu => (hb.cell (by rw [block_of_add]; exact hlt)).trans (hc j u hu)⟩
  · obtain ⟨u, hu, hI⟩ := h3 i es hi
    exact ⟨u, hu, hI.keep hb⟩
theorem rows_info : (Try.prog.info? 35).map (fun i => (i.zero, i.size, i.bytes)) = some (some (.slice none 0 0), 1, 24) := by kernel_rfl
section
variable {F : Fence} {n : Nat} {o : Oper} {a : Act} {K : Act → World → Prop} {Q : Exit → Act → World → Prop} {wr : World}
/-- 'out = append(out, l...)' for rows of numbers, in a held region. -/
theorem wpIn_appl (s y : Operand) (ho : o.op = .call { callee := .builtin .append, args := #[s, y], argTypes := #[80, 80] }) (B : Nat) (v : Value) (L : List (List Int)) (hs : a.eval s = v) (hown : OwnL wr B v L)
    (A : Option Addr) (c2 : Nat) (N : List (List Int)) (hx : a.eval y = .slice A N.length c2) (hr : RdL wr wr.heap.size A N) (hm : L.length + N.length ≤ 1000000000) (hB : B ≤ wr.heap.size)
    (h : ∀ v' w', OwnL w' B v' (L ++ N) → Below B wr w' → K (a.put o.dst v') w') : o.wpIn F n Try.prog a wr K Q := by
  obtain ⟨i0, hi0, hz0, hz1, hz2⟩ := info_parts1w rows_info
  obtain ⟨xs, h1, h2⟩ := hown
  obtain ⟨ys, g1, g2, g3⟩ := hr
  refine wpIn_append_any wr s y 80 ho B 35 i0 (.slice none 0 0) 1 24 Try.underlying80 hi0 hz0 hz1 hz2 rfl (by decide) v L.length xs hs h1 wr.heap.size A N.length c2 ys hx g1 g2 (by simp only [maxLen]; omega) (by omega) hB ?_
  intro v' w' k1 k2 k3
  have hb : Below B wr w' := (Below.refl B wr).grown k2 hB (fun j hj => (h1.lt j hj).1)
  exact h v' w' ⟨xs ++ ys, by rw [List.length_append]; exact k1, fun i es hi => by
    have l1 := h1.1
    by_cases hl : i < L.length
    · rw [List.getElem?_append_left hl] at hi
      obtain ⟨u, hu, hI⟩ := h2 i es hi
      exact ⟨u, by rw [List.getElem?_append_left (by omega)]; exact hu, hI.apart h1 k2⟩
    · rw [List.getElem?_append_right (by omega)] at hi
      obtain ⟨u, hu, hI⟩ := g3 _ es hi
      exact ⟨u, by rw [List.getElem?_append_right (by omega), show i - xs.length = i - L.length by omega]; exact hu, hI.apart h1 k2⟩⟩ hb
end
end Go.Proofs.Ytmjcdggmofohcaa
namespace Go.Proofs.Ytmjcdggmofohcaa
open Go.RowKit
namespace Wl
theorem flat_len {α β : Type} {f : α → List β} {M : Nat} : ∀ {l : List α}, (∀ x ∈ l, (f x).length ≤ M) → (l.flatMap f).length ≤ l.length * M
  | [], _ => by simp
  | x :: l, h => by
    rw [List.flatMap_cons, List.length_append, List.length_cons, Nat.succ_mul]
    have := h x List.mem_cons_self
    have := flat_len (f := f) (M := M) (l := l) (fun y hy => h y (List.mem_cons_of_mem _ hy))
    omega
theorem allL_len {t : Trk} {ws : List Pt} (h8 : t.ps.length ≤ 8) : ∀ (k : Nat) (pl : List Int), (allL t ws k pl).length ≤ 8 ^ k
  | 0, pl => by
    show (if elbV t ws pl = true then [pl] else []).length ≤ 1
    split <;> simp
  | k + 1, pl => by
    show ((reachL t (ptAt ws pl.length)).flatMap fun p => allL t ws k (pl ++ [p])).length ≤ 8 ^ (k + 1)
    have h1 := flat_len (f := fun p => allL t ws k (pl ++ [p])) (M := 8 ^ k) (l := reachL t (ptAt ws pl.length)) (fun x _ => allL_len h8 k _)
    have h2 := reachL_len t (ptAt ws pl.length)
    have h3 : (reachL t (ptAt ws pl.length)).length * 8 ^ k ≤ 8 * 8 ^ k := Nat.mul_le_mul_right _ (by omega)
    rw [Nat.pow_succ, Nat.mul_comm (8 ^ k) 8]
    omega
/-- The elbows behind the first places. -/
def lvTo (t : Trk) (ws : List Pt) (k : Nat) (pl : List Int) (j : Nat) : List (List Int) := (reTo t (ptAt ws pl.length) j).flatMap fun p => allL t ws k (pl ++ [p])
theorem lvTo_succ (t : Trk) (ws : List Pt) (k : Nat) (pl : List Int) (j : Nat) : lvTo t ws k pl (j + 1) = if reachB t (j : Int) (ptAt ws pl.length) then lvTo t ws k pl j ++ allL t ws k (pl ++ [(j : Int)]) else lvTo t ws k pl j := by
  unfold lvTo
  show (if reachB t (j : Int) (ptAt ws pl.length) then reTo t (ptAt ws pl.length) j ++ [(j : Int)] else reTo t (ptAt ws pl.length) j).flatMap _ = _
  split
  · rw [List.flatMap_append, List.flatMap_cons, List.flatMap_nil, List.append_nil]
  · rfl
theorem lvTo_all (t : Trk) (ws : List Pt) (k : Nat) (pl : List Int) : lvTo t ws k pl t.ps.length = allL t ws (k + 1) pl := by
  unfold lvTo
  rw [reTo_eq]
  rfl
theorem lvTo_len {t : Trk} {ws : List Pt} (h8 : t.ps.length ≤ 8) (k : Nat) (pl : List Int) (j : Nat) : (lvTo t ws k pl j).length ≤ j * 8 ^ k := by
  unfold lvTo
  refine Nat.le_trans (flat_len (M := 8 ^ k) (fun x _ => allL_len h8 k _)) (Nat.mul_le_mul_right _ (reTo_len t _ j))
end Wl
def OwnLPost (L : List (List Int)) (w : World) (e : Ending) (w' : World) : Prop := ∃ v, e = .returned v ∧ Hid (OwnL w' w.heap.size v L) ∧ Below w.heap.size w w'
theorem ownL_one {w : World} {B : Nat} {u : Value} {es : List Int} (hB : B ≤ w.heap.size) (h : IRow w u es) : OwnL (w.alloc (.cells #[u] 35)) B (.slice (some ⟨w.heap.size, 0, none⟩) 1 1) [es] := by
  refine ⟨[u], ⟨rfl, .inr ⟨w.heap.size, 1, #[u], rfl, hB, BoxS.new w _ _, Nat.le_refl _, by simp [maxLen], rfl, rfl⟩⟩, fun i fs hi => ?_⟩
  rcases i with _ | i
  · obtain rfl : es = fs := by simpa using hi
    exact ⟨u, rfl, h.keep ((Below.refl _ _).alloc (Nat.le_refl _) _)⟩
  · simp at hi
set_option maxRecDepth 100000 in
set_option maxHeartbeats 8000000 in
theorem all5_zero (t : Wl.Trk) (ws : List Wl.Pt) (A Aw : Option Addr) (c cw : Nat) (ht : Wl.trkB t = true) (hw : Wl.ptsB ws = true) (hlw : ws.length ≤ 1000000000) (pl : List Int) (A' : Option Addr) (c' : Nat) (w : World) (hlen : pl.length = ws.length) (hP : Prs w w.heap.size A t.ps) (hQ : Prs w w.heap.size Aw ws) (hE : IRow w (.slice A' pl.length c') pl) :
    Calls Try.prog 88 #[.agg (trV t A c), .slice Aw ws.length cw, .slice A' pl.length c'] w (OwnLPost (Wl.allL t ws 0 pl) w) := by
  have HA : Hid (∀ W, Below w.heap.size w W → Calls Try.prog 36 #[.agg (trV t A c), .slice Aw ws.length cw, .slice A' pl.length c'] W fun e w' => e = .returned (.bool (Wl.elbV t ws pl)) ∧ Below W.heap.size W w') := fun W hW =>
    AreElbows5_all9 t ws pl A Aw A' c cw c' ht hw (by omega) hlw W (prs_keep hP hW) (prs_keep hQ hW) (fun _ => (hE.ints.keep hW).more hW.size)
  have HR0 : Hid (Wl.allL t ws 0 pl = if Wl.elbV t ws pl = true then [pl] else []) := rfl
  have hlb : ((pl.length : Int) == (ws.length : Int)) = true := by simp; omega
  have HE := Lib.hid hE
  clear hP hQ hE ht hw hlen hlw
  generalize Wl.allL t ws 0 pl = R at *
  generalize Wl.elbV t ws pl = EB at *
  obtain ⟨ps, cl, lo, hi⟩ := t
  unfold trV at *
  dsimp only at *
  cases EB
  · have HR : Hid (R = []) := HR0.out
    clear HR0
    go_enter Try.func88, Try.ntmps88
    go_wp2_with fail
    have bS1 := BoxS.new w 26 #[.slice A ps.length c, .int .i64 cl, .int .i64 lo, .int .i64 hi]
    have hB1 : Below w.heap.size w (w.alloc (.cells #[.slice A ps.length c, .int .i64 cl, .int .i64 lo, .int .i64 hi] 26)) := by (repeat' (first | (with_reducible exact Below.refl _ _) | (with_reducible assumption) | (with_reducible refine Below.alloc ?_ ?_ _) | (with_reducible refine Below.drew ?_) | (with_reducible refine Below.setCell ?_ ?_ _) | go_size | (exact (by simp)) | omega))
    generalize World.alloc w _ = w1 at *
    obtain ⟨s0, s1, s2, s3⟩ := boxS4 bS1
    have lS := bS1.lt
    try go_wp2_with fail
    refine (HA.out _ hB1).mono ?_
    rintro e w2 ⟨rfl, hb2⟩
    have hB2 := hB1.trans (hb2.mono hB1.size)
    clear s0 s1 s2 s3 lS
    go_wp2_with fail
    go_returns
    exact ⟨_, rfl, by rw [HR.out]; exact OwnL.nil _ _, hB2⟩
  · have HR : Hid (R = [pl]) := HR0.out
    clear HR0
    go_enter Try.func88, Try.ntmps88
    go_wp2_with fail
    have bS1 := BoxS.new w 26 #[.slice A ps.length c, .int .i64 cl, .int .i64 lo, .int .i64 hi]
    have hB1 : Below w.heap.size w (w.alloc (.cells #[.slice A ps.length c, .int .i64 cl, .int .i64 lo, .int .i64 hi] 26)) := by (repeat' (first | (with_reducible exact Below.refl _ _) | (with_reducible assumption) | (with_reducible refine Below.alloc ?_ ?_ _) | (with_reducible refine Below.drew ?_) | (with_reducible refine Below.setCell ?_ ?_ _) | go_size | (exact (by simp)) | omega))
    generalize World.alloc w _ = w1 at *
    obtain ⟨s0, s1, s2, s3⟩ := boxS4 bS1
    have lS := bS1.lt
    try go_wp2_with fail
    refine (HA.out _ hB1).mono ?_
    rintro e w2 ⟨rfl, hb2⟩
    have hB2 := hB1.trans (hb2.mono hB1.size)
    have HE2 := Lib.hid (HE.out.keep hB2)
    clear s0 s1 s2 s3 lS HE
    go_wp2_with fail
    go_returns
    exact ⟨_, rfl, by rw [HR.out]; exact ownL_one hB2.size HE2.out, hB2.alloc hB2.size _⟩
set_option maxRecDepth 100000 in
set_option maxHeartbeats 16000000 in
theorem all5_succ (t : Wl.Trk) (ws : List Wl.Pt) (A Aw : Option Addr) (c cw : Nat) (ht : Wl.trkB t = true) (hw : Wl.ptsB ws = true) (k : Nat) (pl : List Int) (A' : Option Addr) (c' : Nat) (w : World) (hlen : pl.length + (k + 1) = ws.length) (hP : Prs w w.heap.size A t.ps) (hQ : Prs w w.heap.size Aw ws) (hE : IRow w (.slice A' pl.length c') pl)
    (IH : ∀ (p : Int) (A2 : Option Addr) (c2 : Nat) (W : World), Prs W W.heap.size A t.ps → Prs W W.heap.size Aw ws → IRow W (.slice A2 (pl.length + 1) c2) (pl ++ [p]) → Calls Try.prog 88 #[.agg (trV t A c), .slice Aw ws.length cw, .slice A2 (pl.length + 1) c2] W (OwnLPost (Wl.allL t ws k (pl ++ [p])) W)) :
    Calls Try.prog 88 #[.agg (trV t A c), .slice Aw ws.length cw, .slice A' pl.length c'] w (OwnLPost (Wl.allL t ws (k + 1) pl) w) := by
  obtain ⟨hp8, hc3, hn8⟩ := Wl.trk_parts ht
  have hw8 := (Wl.pts_all hw).2
  have hkl : pl.length < ws.length := by omega
  have hk8 : (8 : Nat) ^ k ≤ 8 ^ 8 := Nat.pow_le_pow_right (by decide) (by omega)
  have hsa : Geo.sm (Wl.ptAt ws pl.length) := Wl.pts_sm hw hkl
  have HRE : Hid (∀ (p : Nat), p < t.ps.length → ∀ W, Below w.heap.size w W → Calls Try.prog 71 #[.agg (trV t A c), .int .i64 (p : Nat), .agg #[.int .i64 (Wl.ptAt ws pl.length).1, .int .i64 (Wl.ptAt ws pl.length).2]] W fun e w' => e = .returned (.bool (Wl.reachB t p (Wl.ptAt ws pl.length))) ∧ Below W.heap.size W w') := fun p hp W hW => Reaches5_any t A c p _ hp (Wl.pts_sm hp8 hp) hsa W (prs_keep hP hW) (by omega)
  have HIH : Hid (∀ (p : Int) (A2 : Option Addr) (c2 : Nat) (W : World), Below w.heap.size w W → IRow W (.slice A2 (pl.length + 1) c2) (pl ++ [p]) → Calls Try.prog 88 #[.agg (trV t A c), .slice Aw ws.length cw, .slice A2 (pl.length + 1) c2] W (OwnLPost (Wl.allL t ws k (pl ++ [p])) W)) := fun p A2 c2 W hW h => IH p A2 c2 W (prs_keep hP hW) (prs_keep hQ hW) h
  have HL : Hid (∀ (j : Nat) (p : Int), j ≤ 8 → (Wl.lvTo t ws k pl j).length + (Wl.allL t ws k (pl ++ [p])).length ≤ 1000000000) := fun j p hj => by
    have h1 := Wl.lvTo_len (ws := ws) hn8.2 k pl j
    have h2 := Wl.allL_len (ws := ws) hn8.2 k (pl ++ [p])
    have h3 : j * 8 ^ k ≤ 8 * 8 ^ k := Nat.mul_le_mul_right _ hj
    have h4 : (8 : Nat) ^ 8 = 16777216 := by decide
    omega
  have H0 : Hid (Wl.lvTo t ws k pl 0 = []) := rfl
  have HS0 : Hid (∀ j : Nat, Wl.lvTo t ws k pl (j + 1) = if Wl.reachB t (j : Int) (Wl.ptAt ws pl.length) then Wl.lvTo t ws k pl j ++ Wl.allL t ws k (pl ++ [(j : Int)]) else Wl.lvTo t ws k pl j) := Wl.lvTo_succ t ws k pl
  have HALL : Hid (Wl.lvTo t ws k pl t.ps.length = Wl.allL t ws (k + 1) pl) := Wl.lvTo_all t ws k pl
  have hwk : ws[pl.length]? = some (Wl.ptAt ws pl.length) := by unfold Wl.ptAt; rw [List.getElem?_eq_getElem hkl]; rfl
  obtain ⟨bw, ow, hAw, hbw, hcw⟩ := hQ (by omega)
  obtain ⟨y0, y1⟩ := hcw _ _ hwk
  have HE := Lib.hid (show GIn w w.heap.size A' c' pl from fun _ => hE.ints)
  clear hP hQ hE IH hk8 hwk hcw hsa hc3 hp8 ht hw
  generalize Wl.lvTo t ws k pl = LT at *
  generalize Wl.allL t ws (k + 1) pl = R at *
  generalize hAK : (fun p : Int => Wl.allL t ws k (pl ++ [p])) = AK at *
  have HAK : ∀ p : Int, Wl.allL t ws k (pl ++ [p]) = AK p := fun p => by rw [← hAK]
  simp only [HAK] at HIH HS0 HL
  generalize hRB : (fun p : Int => Wl.reachB t p (Wl.ptAt ws pl.length)) = RB at *
  have HRB : ∀ p : Int, Wl.reachB t p (Wl.ptAt ws pl.length) = RB p := fun p => by rw [← hRB]
  simp only [HRB] at HRE HS0
  clear hAK HAK hRB HRB
  generalize Wl.ptAt ws pl.length = a at *
  obtain ⟨a1, a2⟩ := a
  obtain ⟨ps, cl, lo, hi⟩ := t
  unfold trV at *
  dsimp only at *
  subst hAw
  have hmo : Try.prog.follows .mixedOrders = true := by kernel_rfl
  have hlb : ((pl.length : Int) == (ws.length : Int)) = false := by simp; omega
  have d1 : decide ((pl.length : Int) < 0) = false := decide_eq_false (by omega)
  have d2 : decide ((ws.length : Int) ≤ (pl.length : Int)) = false := decide_eq_false (by omega)
  have d3 : decide (ws.length ≤ pl.length) = false := decide_eq_false (by omega)
  have hlp : pl.length ≤ 1000000 := by omega
  clear hlen hw8
  go_enter Try.func88, Try.ntmps88
  go_wp2_with fail
  have bM := BoxS.new w 26 #[.slice A ps.length c, .int .i64 cl, .int .i64 lo, .int .i64 hi]
  have hBb : Below w.heap.size w (w.alloc (.cells #[.slice A ps.length c, .int .i64 cl, .int .i64 lo, .int .i64 hi] 26)) := by (repeat' (first | (with_reducible exact Below.refl _ _) | (with_reducible assumption) | (with_reducible refine Below.alloc ?_ ?_ _) | (with_reducible refine Below.drew ?_) | (with_reducible refine Below.setCell ?_ ?_ _) | go_size | (exact (by simp)) | omega))
  generalize World.alloc w _ = wb at *
  try go_wp2_with fail
  go_loopg [7, 8] ps.length (fun g x7 x8 wx => ∃ j : Nat, Hid (j + g = ps.length) ∧ (j : Int) ≤ ps.length ∧ x8 = .int .i64 (j : Int) ∧ Below wb.heap.size wb wx ∧ Hid (OwnL wx wb.heap.size x7 (LT j)))
  case atStart => exact ⟨0, by simp [Hid], by omega, rfl, Below.refl _ _, by unfold Hid; rw [H0.out]; exact OwnL.nil _ _⟩
  case round =>
    obtain ⟨j, hj, hj1, rfl, hbb, hown⟩ := hrel
    have hj0 := Int.natCast_nonneg j
    have bM1 := bM.below hbb
    have hBr := hBb.trans (hbb.mono hBb.size)
    have s0 := bM1.cell 0 rfl
    have lM := bM1.lt
    by_cases hlt : (j : Int) < ps.length
    · have hjn : j < ps.length := by omega
      have HS := Lib.hid (HS0.out j)
      have hln := Lib.hid (HL.out j (j : Int) (by omega))
      have HR1 := Lib.hid (fun W (hW : Below wr.heap.size wr W) => HRE.out j hjn W (hBr.trans (hW.mono hBr.size)))
      have HI1 := Lib.hid (fun A2 c2 W (hW : Below wr.heap.size wr W) => HIH.out (j : Int) A2 c2 W (hBr.trans (hW.mono hBr.size)))
      have hw1 : IntKind.i64.wrap ((j : Int) + 1) = (j : Int) + 1 := IntWalk.i64_in _ (by omega)
      have q0 : Below wr.heap.size wr wr.drew := (Below.refl _ _).drew
      have KC : Hid (∀ W', Below wr.heap.size wr W' → (W'.cell? ⟨w.heap.size, 0, none⟩ = some (.slice A ps.length c) ∧ W'.cell? ⟨w.heap.size, 1, none⟩ = some (.int .i64 cl) ∧ W'.cell? ⟨w.heap.size, 2, none⟩ = some (.int .i64 lo) ∧ W'.cell? ⟨w.heap.size, 3, none⟩ = some (.int .i64 hi)) ∧ W'.cell? ⟨bw, ow + pl.length * 2, none⟩ = some (.int .i64 a1) ∧ W'.cell? ⟨bw, ow + pl.length * 2 + 1, none⟩ = some (.int .i64 a2)) := fun W' h => by
        have h2 := hBr.trans (h.mono hBr.size)
        exact ⟨boxS4 (bM1.below h), (h2.cell (p := ⟨bw, _, none⟩) hbw).trans y0, (h2.cell (p := ⟨bw, _, none⟩) hbw).trans y1⟩
      clear HS0 HL HRE HIH
      cases hb : RB (j : Int) with
      | true =>
        rw [hb] at HR1
        have HS2 : Hid (LT (j + 1) = LT j ++ AK (j : Int)) := by unfold Hid; rw [HS.out, if_pos hb]
        clear hb HS
        generalize LT j = L at *
        generalize AK (j : Int) = N at *
        go_wp2_with fail
        clear s0 lM
        refine (wpIn_wide (n := 4)).1 ?_
        refine wpIn_region_held (fun W' => Below wr.heap.size wr W') 30 hmo ?_
        refine wpHeldIn_take (i := 0) (v := ?_) (plain_of (by kernel_rfl)) rfl (by kernel_rfl) (fun _ _ _ h => h) (yieldsSoIn_of (by kernel_rfl) ?_ (fun _ => rfl)) q0 ?_; rotate_left; focus (intro wq hw; have kq := KC.out wq hw; clear hw; go_simp; try (with_reducible rfl))
        refine wpHeldIn_take (i := 1) (v := ?_) (plain_of (by kernel_rfl)) rfl (by kernel_rfl) (fun _ _ _ h => h) (yieldsSoIn_of (by kernel_rfl) ?_ (fun _ => rfl)) q0 ?_; rotate_left; focus (intro wq hw; clear hw; go_simp; try (with_reducible rfl))
        refine wpHeldIn_take (i := 2) (v := ?_) (plain_of (by kernel_rfl)) rfl (by kernel_rfl) (fun _ _ _ h => h) (yieldsSoIn_of (by kernel_rfl) ?_ (fun _ => rfl)) q0 ?_; rotate_left; focus (intro wq hw; clear hw; go_simp; try (with_reducible rfl))
        refine wpHeldIn_take (i := 3) (v := ?_) (plain_of (by kernel_rfl)) rfl (by kernel_rfl) (fun _ _ _ h => h) (yieldsSoIn_of (by kernel_rfl) ?_ (fun _ => rfl)) q0 ?_; rotate_left; focus (intro wq hw; clear hw; go_simp; try (with_reducible rfl))
        refine wpHeldIn_take (i := 4) (v := ?_) (plain_of (by kernel_rfl)) rfl (by kernel_rfl) (fun _ _ _ h => h) (yieldsSoIn_of (by kernel_rfl) ?_ (fun _ => rfl)) q0 ?_; rotate_left; focus (intro wq hw; clear hw; go_simp; try (with_reducible rfl))
        refine wpHeldIn_take (i := 5) (v := ?_) (plain_of (by kernel_rfl)) rfl (by kernel_rfl) (fun _ _ _ h => h) (yieldsSoIn_of (by kernel_rfl) ?_ (fun _ => rfl)) q0 ?_; rotate_left; focus (intro wq hw; clear hw; go_simp; try (with_reducible rfl))
        refine wpHeldIn_take (i := 6) (v := ?_) (plain_of (by kernel_rfl)) rfl (by kernel_rfl) (fun _ _ _ h => h) (yieldsSoIn_of (by kernel_rfl) ?_ (fun _ => rfl)) q0 ?_; rotate_left; focus (intro wq hw; have kq := KC.out wq hw; clear hw; go_simp; try (with_reducible rfl))
        refine wpHeldIn_one (i := 7) (by kernel_rfl) (by kernel_rfl) rfl (by kernel_rfl) (fun K1 hK1 => ?_)
        go_simp
        refine ⟨trivial, (callsIn_wide.2 (HR1.out _ q0)).mono ?_⟩
        rintro e w2 ⟨rfl, hb2⟩
        have q2 := q0.trans (hb2.mono q0.size)
        refine hK1 _ _ q2 ?_
        refine wpHeldIn_done (by kernel_rfl) ?_ _
        go_simp

        go_upto_region 10 with fail
        have q3 : Below wr.heap.size wr w2.drew := q2.drew
        have hE3 : GIn w2.drew w2.drew.heap.size A' c' pl := (HE.out.keep (hBr.trans (q3.mono hBr.size))).wider (hBr.trans (q3.mono hBr.size)).size
        refine (wpIn_wide (n := 4)).1 ?_
        refine wpIn_region_held (fun W' => Below wr.heap.size wr W') 10 hmo ?_
        refine wpHeldIn_take (i := 0) (v := ?_) (plain_of (by kernel_rfl)) rfl (by kernel_rfl) (fun _ _ _ h => h) (yieldsSoIn_of (by kernel_rfl) ?_ (fun _ => rfl)) q3 ?_; rotate_left; focus (intro wq hw; clear hw; go_simp; try (with_reducible rfl))
        refine wpHeldIn_take (i := 1) (v := ?_) (plain_of (by kernel_rfl)) rfl (by kernel_rfl) (fun _ _ _ h => h) (yieldsSoIn_of (by kernel_rfl) ?_ (fun _ => rfl)) q3 ?_; rotate_left; focus (intro wq hw; have kq := KC.out wq hw; clear hw; go_simp; try (with_reducible rfl))
        refine wpHeldIn_take (i := 2) (v := ?_) (plain_of (by kernel_rfl)) rfl (by kernel_rfl) (fun _ _ _ h => h) (yieldsSoIn_of (by kernel_rfl) ?_ (fun _ => rfl)) q3 ?_; rotate_left; focus (intro wq hw; clear hw; go_simp; try (with_reducible rfl))
        refine wpHeldIn_take (i := 4) (v := ?_) (plain_of (by kernel_rfl)) rfl (by kernel_rfl) (fun _ _ _ h => h) (yieldsSoIn_of (by kernel_rfl) ?_ (fun _ => rfl)) q3 ?_; rotate_left; focus (intro wq hw; clear hw; go_simp; try (with_reducible rfl))
        refine wpHeldIn_take (i := 6) (v := ?_) (plain_of (by kernel_rfl)) rfl (by kernel_rfl) (fun _ _ _ h => h) (yieldsSoIn_of (by kernel_rfl) ?_ (fun _ => rfl)) q3 ?_; rotate_left; focus (intro wq hw; clear hw; go_simp; try (with_reducible rfl))

        refine wpHeldIn_pushi 3 5 7 8 38 40 42 43 39 41 (f0 := 3) (j : Int) rfl rfl rfl rfl rfl rfl rfl rfl rfl rfl rfl rfl rfl (by kernel_rfl) rfl (by kernel_rfl) (by decide) (by decide) ⟨of_decide_eq_true (by kernel_rfl), of_decide_eq_true (by kernel_rfl), of_decide_eq_true (by kernel_rfl)⟩ rfl rfl hE3 hlp q3 ?_
        intro u91 u92 u93 AP cP w7 hkP q8
        have hkQ : IRow w7 (.slice AP (pl.length + 1) cP) (pl ++ [(j : Int)]) := by
          refine IRow.of (B := w2.drew.heap.size) ?_
          rw [List.length_append, List.length_singleton]
          exact hkP
        go_simp

        refine wpHeldIn_one (i := 9) (by kernel_rfl) (by kernel_rfl) rfl (by kernel_rfl) (fun K3 hK3 => ?_)
        go_simp
        refine ⟨trivial, (callsIn_wide.2 (HI1.out _ _ _ q8 hkQ)).mono ?_⟩
        rintro e w8 ⟨v8, rfl, hO8, hb8⟩
        obtain ⟨A8, c8, rfl⟩ := hO8.out.form
        have q9 := q8.trans (hb8.mono q8.size)
        refine hK3 _ _ q9 ?_
        have hO9 := hown.out.keep q9

        refine wpHeldIn_last (by kernel_rfl) rfl (by kernel_rfl) (fun K6 hK6 => ?_)
        refine wpIn_appl (.tmp 35) (.tmp 44) rfl wb.heap.size u7 L rfl hO9 A8 c8 N rfl hO8.out.read hln.out (by have := (hbb.trans (q9.mono hbb.size)).size; exact this) ?_
        intro v' w9 hown9 hb9
        refine hK6 _ _ ?_
        refine wpHeldIn_take (i := 11) (v := ?_) (plain_of (by kernel_rfl)) rfl (by kernel_rfl) (fun _ _ _ h => h) (yieldsSoIn_of (by kernel_rfl) ?_ (fun _ => rfl)) trivial ?_; rotate_left; focus (intro w _; go_simp; try (with_reducible rfl))
        refine wpHeldIn_done (by kernel_rfl) ?_ _
        go_simp
        have hbz : Below wb.heap.size wb w9 := (hbb.trans (q9.mono hbb.size)).trans hb9
        have HO9 := Lib.hid hown9
        clear hown9 hb9 hO9 hO8 hb8 hkP hkQ hE3 q9 q8 q3 q2 q0 KC hK6 hK3 hown bM1 hBr hbb

        go_wp2_with fail
        obtain ⟨g', hg'⟩ : ∃ g', gk = g' + 1 := ⟨gk - 1, by have := hj.out; omega⟩
        go_roundg g'
        case measure => omega
        case rel => exact ⟨j + 1, by have := hj.out; simp only [Hid]; omega, by omega, by go_num, hbz, by rw [HS2.out]; exact HO9.out⟩
      | false =>
        rw [hb] at HR1
        have HS2 : Hid (LT (j + 1) = LT j) := by unfold Hid; rw [HS.out, hb]; rfl
        clear hb HS
        generalize LT j = L at *
        go_wp2_with fail
        clear s0 lM
        refine (wpIn_wide (n := 4)).1 ?_
        refine wpIn_region_held (fun W' => Below wr.heap.size wr W') 30 hmo ?_
        refine wpHeldIn_take (i := 0) (v := ?_) (plain_of (by kernel_rfl)) rfl (by kernel_rfl) (fun _ _ _ h => h) (yieldsSoIn_of (by kernel_rfl) ?_ (fun _ => rfl)) q0 ?_; rotate_left; focus (intro wq hw; have kq := KC.out wq hw; clear hw; go_simp; try (with_reducible rfl))
        refine wpHeldIn_take (i := 1) (v := ?_) (plain_of (by kernel_rfl)) rfl (by kernel_rfl) (fun _ _ _ h => h) (yieldsSoIn_of (by kernel_rfl) ?_ (fun _ => rfl)) q0 ?_; rotate_left; focus (intro wq hw; clear hw; go_simp; try (with_reducible rfl))
        refine wpHeldIn_take (i := 2) (v := ?_) (plain_of (by kernel_rfl)) rfl (by kernel_rfl) (fun _ _ _ h => h) (yieldsSoIn_of (by kernel_rfl) ?_ (fun _ => rfl)) q0 ?_; rotate_left; focus (intro wq hw; clear hw; go_simp; try (with_reducible rfl))
        refine wpHeldIn_take (i := 3) (v := ?_) (plain_of (by kernel_rfl)) rfl (by kernel_rfl) (fun _ _ _ h => h) (yieldsSoIn_of (by kernel_rfl) ?_ (fun _ => rfl)) q0 ?_; rotate_left; focus (intro wq hw; clear hw; go_simp; try (with_reducible rfl))
        refine wpHeldIn_take (i := 4) (v := ?_) (plain_of (by kernel_rfl)) rfl (by kernel_rfl) (fun _ _ _ h => h) (yieldsSoIn_of (by kernel_rfl) ?_ (fun _ => rfl)) q0 ?_; rotate_left; focus (intro wq hw; clear hw; go_simp; try (with_reducible rfl))
        refine wpHeldIn_take (i := 5) (v := ?_) (plain_of (by kernel_rfl)) rfl (by kernel_rfl) (fun _ _ _ h => h) (yieldsSoIn_of (by kernel_rfl) ?_ (fun _ => rfl)) q0 ?_; rotate_left; focus (intro wq hw; clear hw; go_simp; try (with_reducible rfl))
        refine wpHeldIn_take (i := 6) (v := ?_) (plain_of (by kernel_rfl)) rfl (by kernel_rfl) (fun _ _ _ h => h) (yieldsSoIn_of (by kernel_rfl) ?_ (fun _ => rfl)) q0 ?_; rotate_left; focus (intro wq hw; have kq := KC.out wq hw; clear hw; go_simp; try (with_reducible rfl))
        refine wpHeldIn_one (i := 7) (by kernel_rfl) (by kernel_rfl) rfl (by kernel_rfl) (fun K1 hK1 => ?_)
        go_simp
        refine ⟨trivial, (callsIn_wide.2 (HR1.out _ q0)).mono ?_⟩
        rintro e w2 ⟨rfl, hb2⟩
        have q2 := q0.trans (hb2.mono q0.size)
        refine hK1 _ _ q2 ?_
        refine wpHeldIn_done (by kernel_rfl) ?_ _
        go_simp
        have HO2 := Lib.hid (hown.out.keep q2)
        have hbz := hbb.trans (q2.mono hbb.size)
        clear KC q0 q2 hown hbb hBr bM1
        go_wp2_with fail
        obtain ⟨g', hg'⟩ : ∃ g', gk = g' + 1 := ⟨gk - 1, by have := hj.out; omega⟩
        go_roundg g'
        case measure => omega
        case rel => exact ⟨j + 1, by have := hj.out; simp only [Hid]; omega, by omega, by go_num, hbz, by rw [HS2.out]; exact HO2.out⟩
    · have ej : j = ps.length := by omega
      have HO : Hid (OwnL wr w.heap.size u7 R) := by
        have h := hown.out
        rw [ej, HALL.out] at h
        exact h.less hBb.size
      clear hown ej bM1
      go_wp2_with fail
      go_returns
      exact ⟨_, rfl, HO, hBr⟩
theorem all5_any (t : Wl.Trk) (ws : List Wl.Pt) (A Aw : Option Addr) (c cw : Nat) (ht : Wl.trkB t = true) (hw : Wl.ptsB ws = true) : ∀ (k : Nat) (pl : List Int) (A' : Option Addr) (c' : Nat) (w : World), pl.length + k = ws.length → Prs w w.heap.size A t.ps → Prs w w.heap.size Aw ws → IRow w (.slice A' pl.length c') pl →
    Calls Try.prog 88 #[.agg (trV t A c), .slice Aw ws.length cw, .slice A' pl.length c'] w (OwnLPost (Wl.allL t ws k pl) w)
  | 0, pl, A', c', w, hk, hP, hQ, hE => all5_zero t ws A Aw c cw ht hw (by have := (Wl.pts_all hw).2; omega) pl A' c' w (by omega) hP hQ hE
  | k + 1, pl, A', c', w, hk, hP, hQ, hE => all5_succ t ws A Aw c cw ht hw k pl A' c' w hk hP hQ hE (fun p A2 c2 W h1 h2 h3 => by
      have := all5_any t ws A Aw c cw ht hw k (pl ++ [p]) A2 c2 W (by rw [List.length_append, List.length_singleton]; omega) h1 h2 (by rw [List.length_append, List.length_singleton]; exact h3)
      rw [List.length_append, List.length_singleton] at this
      exact this)
end Go.Proofs.Ytmjcdggmofohcaa
namespace Go.Proofs.Ytmjcdggmofohcaa
open Go.RowKit
namespace Wl
def knL (t : Trk) (ws : List Pt) : List (List Int) := if chkV t ws = 0 then elbsL t ws else []
theorem knL_len {t : Trk} {ws : List Pt} : (if setE t ws = 0 then ((elbsL t ws).length : Int) else 0) = ((knL t ws).length : Int) := by
  unfold setE knL
  by_cases h : chkV t ws = 0
  · rw [if_pos h, if_pos h]
    cases he : elbsL t ws with
    | nil => rfl
    | cons a l => rfl
  · rw [if_neg h, if_neg h, if_neg h]
    rfl
theorem knL_ws {t : Trk} {ws : List Pt} {es : List Int} (h : es ∈ knL t ws) : (trkB t = true ∧ ptsB ws = true) ∧ elbV t ws es = true := by
  unfold knL at h
  split at h
  · rename_i hc
    have h1 := chk_yes.1 hc
    exact ⟨h1, (mem_elbsL (pts_pos h1.2)).1 h⟩
  · cases h
theorem least5 {t : Trk} {ws : List Pt} : (if setE t ws = 0 then movesV (calmV (elbsL t ws)) else 0) = (if setE t ws = 0 then leastTo (ws.length : Nat) (knL t ws) (knL t ws).length else 0) := by
  by_cases h : setE t ws = 0
  · rw [if_pos h, if_pos h]
    obtain ⟨h1, h2⟩ := setE_yes h
    have hk : knL t ws = elbsL t ws := by unfold knL; rw [if_pos (chk_yes.2 h1)]
    rw [hk]
    refine (leastTo_eq h2 (fun es he => ?_)).symm
    have := (elbV_iff.1 ((mem_elbsL (pts_pos h1.2)).1 he)).1
    rw [← this]
    exact (mvTo_bd es es.length).2
  · rw [if_neg h, if_neg h]
end Wl
theorem OwnL.at {w : World} {B : Nat} {A : Option Addr} {n c : Nat} {L : List (List Int)} (h : OwnL w B (.slice A n c) L) {k : Nat} {es : List Int} (hk : L[k]? = some es) : ∃ g A' c', A = some ⟨g, 0, none⟩ ∧ B ≤ g ∧ g < w.heap.size ∧ w.cell? ⟨g, k, none⟩ = some (.slice A' es.length c') ∧ IRow w (.slice A' es.length c') es := by
  obtain ⟨xs, h1, h2⟩ := h
  have hkl : k < L.length := (List.getElem?_eq_some_iff.1 hk).1
  obtain ⟨u, hu, hI⟩ := h2 k es hk
  obtain ⟨A', c', rfl⟩ := ints_form hI.ints
  obtain ⟨g, cap, hv, hBg, hg⟩ := h1.form (by omega)
  have hA : A = some ⟨g, 0, none⟩ := by injection hv
  subst hA
  refine ⟨g, A', c', rfl, hBg, hg, ?_, hI⟩
  have := h1.cells (g := g) rfl k _ hu
  rw [Addr.add_lit, Nat.zero_add] at this
  exact this
def KnPost5 (L : List (List Int)) (x : Int) (w : World) (e : Ending) (w' : World) : Prop := ∃ A c, e = .returned (.tuple #[.slice A L.length c, .int .i64 x]) ∧ Hid (OwnL w' w.heap.size (.slice A L.length c) L) ∧ Below w.heap.size w w'
set_option maxRecDepth 100000 in
set_option maxHeartbeats 8000000 in
theorem known5_any (t : Wl.Trk) (ws : List Wl.Pt) (A Aw : Option Addr) (c cw : Nat) (hl : t.ps.length ≤ 1000000000) (hlw : ws.length ≤ 1000000000) (w : World) (hP : Prs w w.heap.size A t.ps) (hQ : Prs w w.heap.size Aw ws) :
    Calls Try.prog 65 #[.agg (trV t A c), .slice Aw ws.length cw] w (KnPost5 (Wl.knL t ws) (Wl.setE t ws) w) := by
  have HC : Hid (∀ W, Below w.heap.size w W → Calls Try.prog 15 #[.agg (trV t A c), .slice Aw ws.length cw] W (ErrPost (Wl.chkV t ws) W)) := fun W hW => Check5_any t ws A Aw c cw hl hlw W (prs_keep hP hW) (prs_keep hQ hW)
  have HA : Hid (Wl.chkV t ws = 0 → ∀ W, Below w.heap.size w W → Calls Try.prog 88 #[.agg (trV t A c), .slice Aw ws.length cw, .slice none 0 0] W (OwnLPost (Wl.elbsL t ws) W)) := fun h W hW => by
    obtain ⟨h1, h2⟩ := Wl.chk_yes.1 h
    have := all5_any t ws A Aw c cw h1 h2 ws.length [] none 0 W (by simp) (prs_keep hP hW) (prs_keep hQ hW) (World.ownsRow_nil _ _ _ _)
    rw [Wl.allL_elbsL (Wl.pts_pos h2)] at this
    exact this
  have HS : Hid (Wl.setE t ws = if Wl.chkV t ws = 0 then (if (Wl.elbsL t ws).isEmpty then 3 else 0) else Wl.chkV t ws) := rfl
  have HK : Hid (Wl.knL t ws = if Wl.chkV t ws = 0 then Wl.elbsL t ws else []) := rfl
  clear hP hQ hl hlw
  unfold ErrPost at HC
  generalize Wl.knL t ws = KL at *
  generalize Wl.setE t ws = SE at *
  generalize Wl.chkV t ws = CE at *
  generalize Wl.elbsL t ws = EL at *
  obtain ⟨ps, cl, lo, hi⟩ := t
  unfold trV at *
  dsimp only at *
  by_cases hce : CE = 0
  · subst hce
    have HA' := Lib.hid (HA.out rfl)
    have HK' : Hid (KL = EL) := HK.out
    clear HA HK
    go_enter Try.func65, Try.ntmps65
    go_wp2_with fail
    have bS1 := BoxS.new w 26 #[.slice A ps.length c, .int .i64 cl, .int .i64 lo, .int .i64 hi]
    have hB1 : Below w.heap.size w (w.alloc (.cells #[.slice A ps.length c, .int .i64 cl, .int .i64 lo, .int .i64 hi] 26)) := by (repeat' (first | (with_reducible exact Below.refl _ _) | (with_reducible assumption) | (with_reducible refine Below.alloc ?_ ?_ _) | (with_reducible refine Below.drew ?_) | (with_reducible refine Below.setCell ?_ ?_ _) | go_size | (exact (by simp)) | omega))
    generalize World.alloc w _ = w1 at *
    obtain ⟨s0, s1, s2, s3⟩ := boxS4 bS1
    have lS := bS1.lt
    try go_wp2_with fail
    refine (HC.out _ hB1).mono ?_
    rintro e w2 ⟨rfl, hb2⟩
    have hB2 := hB1.trans (hb2.mono hB1.size)
    have bS2 := bS1.below hb2
    clear s0 s1 s2 s3 lS bS1 hb2
    obtain ⟨s0, s1, s2, s3⟩ := boxS4 bS2
    have lS := bS2.lt
    go_wp2_with fail
    refine (HA'.out _ hB2).mono ?_
    rintro e w3 ⟨v3, rfl, hO3, hb3⟩
    obtain ⟨A3, c3, rfl⟩ := hO3.out.form
    have hB3 := hB2.trans (hb3.mono hB2.size)
    have HO : Hid (OwnL w3 w.heap.size (.slice A3 EL.length c3) EL) := hO3.out.less hB2.size
    clear s0 s1 s2 s3 lS bS2 hb3 hO3 hB1 hB2 HC HA'
    cases EL with
    | nil =>
      have HR : Hid (SE = 3) := HS.out
      have h0 : ((0 : Int) == 0) = true := rfl
      clear HS
      simp only [List.length_nil] at HO ⊢
      go_wp2_with fail
      go_returns
      refine ⟨none, 0, ?_, ?_, hB3⟩
      · rw [HR.out, HK'.out]; rfl
      · rw [HK'.out]; exact OwnL.nil _ _
    | cons x l =>
      have HR : Hid (SE = 0) := HS.out
      have hn : (((x :: l).length : Int) == 0) = false := by simp; omega
      clear HS
      generalize x :: l = EL at *
      go_wp2_with fail
      go_returns
      refine ⟨A3, c3, ?_, ?_, hB3⟩
      · rw [HR.out, HK'.out]; rfl
      · rw [HK'.out]; exact HO.out
  · have HR : Hid (SE = CE) := by unfold Hid; rw [HS.out, if_neg hce]
    have HK' : Hid (KL = []) := by unfold Hid; rw [HK.out, if_neg hce]
    have hcb : (CE != 0) = true := by simpa using hce
    clear HA HK HS hce
    go_enter Try.func65, Try.ntmps65
    go_wp2_with fail
    have bS1 := BoxS.new w 26 #[.slice A ps.length c, .int .i64 cl, .int .i64 lo, .int .i64 hi]
    have hB1 : Below w.heap.size w (w.alloc (.cells #[.slice A ps.length c, .int .i64 cl, .int .i64 lo, .int .i64 hi] 26)) := by (repeat' (first | (with_reducible exact Below.refl _ _) | (with_reducible assumption) | (with_reducible refine Below.alloc ?_ ?_ _) | (with_reducible refine Below.drew ?_) | (with_reducible refine Below.setCell ?_ ?_ _) | go_size | (exact (by simp)) | omega))
    generalize World.alloc w _ = w1 at *
    obtain ⟨s0, s1, s2, s3⟩ := boxS4 bS1
    have lS := bS1.lt
    try go_wp2_with fail
    refine (HC.out _ hB1).mono ?_
    rintro e w2 ⟨rfl, hb2⟩
    have hB2 := hB1.trans (hb2.mono hB1.size)
    clear s0 s1 s2 s3 lS bS1 hb2
    go_wp2_with fail
    go_returns
    refine ⟨none, 0, ?_, ?_, hB2⟩
    · rw [HR.out, HK'.out]; rfl
    · rw [HK'.out]; exact OwnL.nil _ _
set_option maxRecDepth 100000 in
set_option maxHeartbeats 8000000 in
theorem Many5_any (t : Wl.Trk) (ws : List Wl.Pt) (A Aw : Option Addr) (c cw : Nat) (hl : t.ps.length ≤ 1000000000) (hlw : ws.length ≤ 1000000000) (w : World) (hP : Prs w w.heap.size A t.ps) (hQ : Prs w w.heap.size Aw ws) :
    Calls Try.prog 30 #[.agg (trV t A c), .slice Aw ws.length cw] w (TwoPost (if Wl.setE t ws = 0 then ((Wl.elbsL t ws).length : Int) else 0) (Wl.setE t ws) w) := by
  have HK : Hid (∀ W, Below w.heap.size w W → Calls Try.prog 65 #[.agg (trV t A c), .slice Aw ws.length cw] W (KnPost5 (Wl.knL t ws) (Wl.setE t ws) W)) := fun W hW => known5_any t ws A Aw c cw hl hlw W (prs_keep hP hW) (prs_keep hQ hW)
  rw [Wl.knL_len]
  clear hP hQ hl hlw
  generalize Wl.knL t ws = KL at *
  generalize Wl.setE t ws = SE at *
  obtain ⟨ps, cl, lo, hi⟩ := t
  unfold trV at *
  dsimp only at *
  go_enter Try.func30, Try.ntmps30
  go_wp2_with fail
  have bS1 := BoxS.new w 26 #[.slice A ps.length c, .int .i64 cl, .int .i64 lo, .int .i64 hi]
  have hB1 : Below w.heap.size w (w.alloc (.cells #[.slice A ps.length c, .int .i64 cl, .int .i64 lo, .int .i64 hi] 26)) := by (repeat' (first | (with_reducible exact Below.refl _ _) | (with_reducible assumption) | (with_reducible refine Below.alloc ?_ ?_ _) | (with_reducible refine Below.drew ?_) | (with_reducible refine Below.setCell ?_ ?_ _) | go_size | (exact (by simp)) | omega))
  generalize World.alloc w _ = w1 at *
  obtain ⟨s0, s1, s2, s3⟩ := boxS4 bS1
  have lS := bS1.lt
  try go_wp2_with fail
  refine (HK.out _ hB1).mono ?_
  rintro e w2 ⟨A2, c2, rfl, hO2, hb2⟩
  have hB2 := hB1.trans (hb2.mono hB1.size)
  clear s0 s1 s2 s3 lS bS1 hb2 hO2
  go_wp2_with fail
  go_returns
  exact ⟨rfl, hB2⟩
set_option maxRecDepth 100000 in
set_option maxHeartbeats 8000000 in
theorem Least5_any (t : Wl.Trk) (ws : List Wl.Pt) (A Aw : Option Addr) (c cw : Nat) (hl : t.ps.length ≤ 1000000000) (hlw : ws.length ≤ 1000000000) (w : World) (hP : Prs w w.heap.size A t.ps) (hQ : Prs w w.heap.size Aw ws) :
    Calls Try.prog 34 #[.agg (trV t A c), .slice Aw ws.length cw] w (TwoPost (if Wl.setE t ws = 0 then Wl.movesV (Wl.calmV (Wl.elbsL t ws)) else 0) (Wl.setE t ws) w) := by
  have HK : Hid (∀ W, Below w.heap.size w W → Calls Try.prog 65 #[.agg (trV t A c), .slice Aw ws.length cw] W (KnPost5 (Wl.knL t ws) (Wl.setE t ws) W)) := fun W hW => known5_any t ws A Aw c cw hl hlw W (prs_keep hP hW) (prs_keep hQ hW)
  have HEL : Hid (∀ (k : Nat) (es : List Int), (Wl.knL t ws)[k]? = some es → es.length ≤ 1000000) := fun k es h => by
    obtain ⟨h1, h2⟩ := Wl.knL_ws (List.mem_of_getElem? h)
    have h3 := (Wl.elbV_iff.1 h2).1
    have h4 := (Wl.pts_all h1.2).2
    omega
  have HLS : Hid (∀ (k : Nat) (es : List Int), (Wl.knL t ws)[k]? = some es → Wl.leastTo (ws.length : Nat) (Wl.knL t ws) (k + 1) = min (Wl.leastTo (ws.length : Nat) (Wl.knL t ws) k) (Wl.movesV es)) := fun k es h => by
    show min _ (Wl.movesV (((Wl.knL t ws)[k]?).getD [])) = _
    rw [h]; rfl
  have HL0 : Hid (Wl.leastTo (ws.length : Nat) (Wl.knL t ws) 0 = (ws.length : Nat)) := rfl
  have HKL : Hid ((Wl.knL t ws).length ≤ 1000000000) := by
    unfold Hid Wl.knL
    split
    · rename_i hc
      obtain ⟨h1, h2⟩ := Wl.chk_yes.1 hc
      have h3 := Wl.allL_len (ws := ws) (Wl.trk_parts h1).2.2.2 ws.length []
      rw [Wl.allL_elbsL (Wl.pts_pos h2)] at h3
      have h4 : (8 : Nat) ^ ws.length ≤ 8 ^ 8 := Nat.pow_le_pow_right (by decide) (Wl.pts_all h2).2
      have h5 : (8 : Nat) ^ 8 = 16777216 := by decide
      omega
    · simp
  rw [Wl.least5]
  clear hP hQ hl
  generalize Wl.leastTo (ws.length : Nat) (Wl.knL t ws) = LT at *
  generalize Wl.knL t ws = KL at *
  generalize Wl.setE t ws = SE at *
  obtain ⟨PV, hPV⟩ : ∃ PV, PV = (if SE = 0 then LT KL.length else 0) := ⟨_, rfl⟩
  rw [← hPV]
  have HPV := Lib.hid hPV
  clear hPV
  obtain ⟨ps, cl, lo, hi⟩ := t
  unfold trV at *
  dsimp only at *
  go_enter Try.func34, Try.ntmps34
  go_wp2_with fail
  have bS1 := BoxS.new w 26 #[.slice A ps.length c, .int .i64 cl, .int .i64 lo, .int .i64 hi]
  have hB1 : Below w.heap.size w (w.alloc (.cells #[.slice A ps.length c, .int .i64 cl, .int .i64 lo, .int .i64 hi] 26)) := by (repeat' (first | (with_reducible exact Below.refl _ _) | (with_reducible assumption) | (with_reducible refine Below.alloc ?_ ?_ _) | (with_reducible refine Below.drew ?_) | (with_reducible refine Below.setCell ?_ ?_ _) | go_size | (exact (by simp)) | omega))
  generalize World.alloc w _ = w1 at *
  obtain ⟨s0, s1, s2, s3⟩ := boxS4 bS1
  have lS := bS1.lt
  try go_wp2_with fail
  refine (HK.out _ hB1).mono ?_
  rintro e w2 ⟨A2, c2, rfl, hO2, hb2⟩
  have hB2 := hB1.trans (hb2.mono hB1.size)
  clear s0 s1 s2 s3 lS bS1 hb2 HK hB1
  go_wp2_with fail
  go_loopg [8, 9] KL.length (fun g x8 x9 wx => ∃ k : Nat, Hid (k + g = KL.length) ∧ (k : Int) ≤ KL.length ∧ x9 = .int .i64 (k : Int) ∧ x8 = .int .i64 (LT k) ∧ Below w2.heap.size w2 wx)
  case atStart => exact ⟨0, by simp [Hid], by omega, rfl, by rw [HL0.out], Below.refl _ _⟩
  case round =>
    obtain ⟨k, hk, hk1, rfl, rfl, hbb⟩ := hrel
    have hk0 := Int.natCast_nonneg k
    have hB3 := hB2.trans (hbb.mono hB2.size)
    have hkl := HKL.out
    by_cases hlt : (k : Int) < KL.length
    · have hkn : k < KL.length := by omega
      obtain ⟨es, hes⟩ : ∃ es, KL[k]? = some es := ⟨_, List.getElem?_eq_getElem hkn⟩
      obtain ⟨g, A4, c4, rfl, _, hg, hcell, hI⟩ := hO2.out.at hes
      have HI := Lib.hid ((hI.keep hbb).ints)
      have hc9 := (hbb.cell (p := ⟨g, k, none⟩) hg).trans hcell
      have HM := Lib.hid (fun W (hW : Below wr.heap.size wr W) => Moves5_any A4 c4 es (HEL.out k es hes) W ((HI.out.keep hW).more hW.size))
      have HS := Lib.hid (HLS.out k es hes)
      have hw1 : IntKind.i64.wrap ((k : Int) + 1) = (k : Int) + 1 := IntWalk.i64_in _ (by omega)
      have e1 : decide ((k : Int) < 0) = false := decide_eq_false (by omega)
      have e2 : decide ((KL.length : Int) ≤ (k : Int)) = false := decide_eq_false (by omega)
      have e4 : decide (KL.length ≤ k) = false := decide_eq_false (by omega)
      have hg9 : g < wr.heap.size := by have := hbb.size; omega
      clear hcell hI HI hes HLS HEL
      generalize Wl.movesV es = m at *
      by_cases hm : LT k ≤ m
      · have HS2 : Hid (LT (k + 1) = LT k) := by unfold Hid; rw [HS.out]; omega
        clear HS
        go_wp2_with fail
        refine (HM.out _ (Below.refl _ _)).mono ?_
        rintro e w5 ⟨rfl, hb5⟩
        have hbz := hbb.trans (hb5.mono hbb.size)
        clear hc9 hg9 hb5 HM hB3
        go_wp2_with fail
        all_goals first
          | (exfalso; omega)
          | (obtain ⟨g', hg'⟩ : ∃ g', gk = g' + 1 := ⟨gk - 1, by have := hk.out; omega⟩
             go_roundg g'
             case measure => omega
             case rel => exact ⟨k + 1, by have := hk.out; simp only [Hid]; omega, by omega, by go_num, by rw [HS2.out]; try (simp; try omega), hbz⟩)
      · have HS2 : Hid (LT (k + 1) = m) := by unfold Hid; rw [HS.out]; omega
        clear HS
        go_wp2_with fail
        refine (HM.out _ (Below.refl _ _)).mono ?_
        rintro e w5 ⟨rfl, hb5⟩
        have hbz := hbb.trans (hb5.mono hbb.size)
        clear hc9 hg9 hb5 HM hB3
        go_wp2_with fail
        all_goals first
          | (exfalso; omega)
          | (obtain ⟨g', hg'⟩ : ∃ g', gk = g' + 1 := ⟨gk - 1, by have := hk.out; omega⟩
             go_roundg g'
             case measure => omega
             case rel => exact ⟨k + 1, by have := hk.out; simp only [Hid]; omega, by omega, by go_num, by rw [HS2.out]; try (simp; try omega), hbz⟩)
    · have ek : k = KL.length := by omega
      subst ek
      by_cases hse : SE = 0
      · subst hse
        have HR : Hid (PV = LT KL.length) := HPV.out
        clear HPV
        go_wp2_with fail
        go_returns
        exact ⟨by rw [HR.out]; rfl, hB3⟩
      · have hsb : (SE != 0) = true := by simpa using hse
        have HR : Hid (PV = 0) := by unfold Hid; rw [HPV.out, if_neg hse]
        clear hse HPV
        go_wp2_with fail
        go_returns
        exact ⟨by rw [HR.out]; rfl, hB3⟩
end Go.Proofs.Ytmjcdggmofohcaa
namespace Go.Proofs.Ytmjcdggmofohcaa
open Go.RowKit
abbrev rowT (v : Value) (xs : List Int) : Thing := .row v 3 1 xs.length (xs.map (Value.int .i64))
theorem Has.row {w : World} {NB : Nat} {L : List Thing} (h : Has w NB L) (i : Nat) {v : Value} {xs : List Int} (hi : L[i]? = some (rowT v xs)) : w.ownsRow NB 3 1 v xs.length (xs.map (Value.int .i64)) := h.get i hi
theorem Has.one {w : World} {NB : Nat} {L : List Thing} (h : Has w NB L) (i : Nat) {T : Thing} (hi : L[i]? = some T) : Has w NB [T] :=
  ⟨fun U hU => by obtain rfl : U = T := by simpa using hU
                  exact h.get i hi, List.pairwise_singleton _ _⟩
theorem Has.three {w : World} {NB : Nat} {T : Thing} (h : Has w NB [T]) : Has w NB [T, rowT (.slice none 0 0) [], rowT (.slice none 0 0) []] := by
  have hn : (rowT (.slice none 0 0) []).In w NB := World.ownsRow_nil _ _ _ _
  refine ⟨fun U hU => ?_, ?_⟩
  · simp only [List.mem_cons, List.not_mem_nil, or_false] at hU
    rcases hU with rfl | rfl | rfl
    · exact h.1 _ (by simp)
    · exact hn
    · exact hn
  · refine List.pairwise_cons.2 ⟨fun U hU g _ e => ?_, List.pairwise_cons.2 ⟨fun U _ g e => (by cases e), List.pairwise_singleton _ _⟩⟩
    simp only [List.mem_cons, List.not_mem_nil, or_false] at hU
    rcases hU with rfl | rfl <;> cases e
/-- 'out = append(out, x)' on one of several rows that lie apart. -/
theorem wpList_pushh {ops : Array Oper} {rest : List Oper} {o : Oper} {a : Act} {Q : Exit → Act → World → Prop} {wr : World} (hgd : o.guard = none) (s y : Operand)
    (ho : o.op = .call { callee := .builtin .append, args := #[s, y], argTypes := #[35, 35] }) (x : Int) (NB : Nat) (Ts : List Thing) (i : Nat) (v : Value) (xs : List Int) (hs : a.eval s = v)
    (hx : a.eval y = .slice (some ⟨wr.heap.size, 0, none⟩) 1 1) (hH : Has wr NB Ts) (hi : Ts[i]? = some (rowT v xs)) (hB : NB ≤ wr.heap.size) (hn : xs.length ≤ 1000000)
    (h : ∀ A' c' w', Has w' NB (Ts.set i (rowT (.slice A' (xs.length + 1) c') (xs ++ [x]))) → Below NB wr w' → wpList Try.prog ops Q rest (a.put o.dst (.slice A' (xs.length + 1) c')) w') :
    wpList Try.prog ops Q (o :: rest) a (wr.alloc (.cells #[.int .i64 x] 3)) := by
  obtain ⟨i0, hi0, hz0, hz1, hz2⟩ := info_parts1w int_info3
  have hH1 : Has (wr.alloc (.cells #[.int .i64 x] 3)) NB Ts := hH.below (n := wr.heap.size) ((Below.refl _ _).alloc (Nat.le_refl _) _) (Nat.le_refl _)
  have hrow := hH1.row i hi
  refine wpList_append_any _ hgd s y 35 ho NB 3 i0 (.int .i64 0) 1 8 Try.underlying35 hi0 hz0 hz1 hz2 rfl (by decide) v xs.length (xs.map (Value.int .i64)) hs hrow (wr.heap.size + 1) (some ⟨wr.heap.size, 0, none⟩) 1 1 [.int .i64 x] hx ?_ ?_ ?_ ?_ ?_ ?_
  · refine ⟨rfl, fun _ => ⟨_, rfl, by simp, fun j u hu => ?_⟩⟩
    rcases j with _ | j
    · have hu' : u = .int .i64 x := by simpa using hu.symm
      subst hu'
      show (wr.alloc _).cell? ⟨wr.heap.size, 0, none⟩ = _
      go_cell
    · simp at hu
  · intro u hu
    simp at hu
    subst hu
    rfl
  · simp only [maxLen]; omega
  · omega
  · simp; omega
  · intro v' w' hown' hg hat
    have el : (xs ++ [x]).length = xs.length + 1 := by simp
    have em : (xs ++ [x]).map (Value.int .i64) = xs.map (Value.int .i64) ++ [.int .i64 x] := by simp
    obtain ⟨A', c', rfl⟩ := owni_form hown'
    have hT : (rowT (.slice A' (xs.length + 1) c') (xs ++ [x])).In w' NB := by
      show w'.ownsRow NB 3 1 _ _ _
      rw [el, em]
      exact hown'
    exact h A' c' w' (hH1.change i hi hg (fun g hg => hg) hT (fun g hg => by
      rcases hat with e | e
      · exact .inl (e.symm.trans hg)
      · refine .inr ?_
        have hg' : Value.ownBlock (.slice A' (xs.length + 1) c') = some g := hg
        rw [e] at hg'
        injection hg' with hg'
        omega)) (((Below.refl NB wr).alloc hB _).grown hg (by simp; omega) (fun j hj => (hrow.lt j hj).1))
/-- 'append(a, b...)' of two of several rows that lie apart. -/
theorem wpList_apph {ops : Array Oper} {rest : List Oper} {o : Oper} {a : Act} {Q : Exit → Act → World → Prop} {wr : World} (hgd : o.guard = none) (s y : Operand)
    (ho : o.op = .call { callee := .builtin .append, args := #[s, y], argTypes := #[35, 35] }) (NB : Nat) (Ts : List Thing) (i j : Nat) (v : Value) (xs : List Int) (m : Nat) (hm : m = xs.length) (A2 : Option Addr) (c2 : Nat) (ys : List Int) (hs : a.eval s = v)
    (hx : a.eval y = .slice A2 ys.length c2) (hH : Has wr NB Ts) (hi : Ts[i]? = some (rowT v xs)) (hj : Ts[j]? = some (rowT (.slice A2 ys.length c2) ys)) (hB : NB ≤ wr.heap.size) (hn : xs.length + ys.length ≤ 1000000)
    (h : ∀ A' c' w', Has w' NB (Ts.set i (rowT (.slice A' (m + ys.length) c') (xs ++ ys))) → Below NB wr w' → wpList Try.prog ops Q rest (a.put o.dst (.slice A' (m + ys.length) c')) w') :
    wpList Try.prog ops Q (o :: rest) a wr := by
  obtain ⟨i0, hi0, hz0, hz1, hz2⟩ := info_parts1w int_info3
  have hrow := hH.row i hi
  have hrow2 := hH.row j hj
  refine wpList_append_any _ hgd s y 35 ho NB 3 i0 (.int .i64 0) 1 8 Try.underlying35 hi0 hz0 hz1 hz2 rfl (by decide) v xs.length (xs.map (Value.int .i64)) hs hrow wr.heap.size A2 ys.length c2 (ys.map (Value.int .i64)) hx (Reads.of_own hrow2) (ints_one9 ys) (by simp only [maxLen]; omega) (by omega) hB ?_
  intro v' w' hown' hg hat
  subst hm
  have el : (xs ++ ys).length = xs.length + ys.length := by simp
  have em : (xs ++ ys).map (Value.int .i64) = xs.map (Value.int .i64) ++ ys.map (Value.int .i64) := by simp
  obtain ⟨A', c', rfl⟩ := owni_form hown'
  have hT : (rowT (.slice A' (xs.length + ys.length) c') (xs ++ ys)).In w' NB := by
    show w'.ownsRow NB 3 1 _ _ _
    rw [el, em]
    exact hown'
  exact h A' c' w' (hH.change i hi hg (fun g hg => hg) hT (fun g hg => by
    rcases hat with e | e
    · exact .inl (e.symm.trans hg)
    · refine .inr ?_
      have hg' : Value.ownBlock (.slice A' (xs.length + ys.length) c') = some g := hg
      rw [e] at hg'
      injection hg' with hg'
      omega)) ((Below.refl NB wr).grown hg hB (fun k hk => (hrow.lt k hk).1))
namespace Wl
theorem memTo_succ {out : List Int} {n x : Int} {j : Nat} (h : out[j]? = some x) : (decide (n ∈ out.take (j + 1)) = (decide (n ∈ out.take j) || decide (x = n))) := by
  have hj := (List.getElem?_eq_some_iff.1 h).1
  have e := (List.getElem?_eq_some_iff.1 h).2
  rw [List.take_succ_eq_append_getElem hj, e, ← Bool.decide_or]
  refine decide_eq_decide.2 ?_
  rw [List.mem_append, List.mem_singleton]
  exact ⟨fun h => h.imp id Eq.symm, fun h => h.imp id Eq.symm⟩
theorem lowTo_succ {out : List Int} {n x : Int} {j : Nat} (h : out[j]? = some x) : (out.take (j + 1)).filter (fun x => decide (x < n)) = if x < n then (out.take j).filter (fun x => decide (x < n)) ++ [x] else (out.take j).filter (fun x => decide (x < n)) := by
  have hj := (List.getElem?_eq_some_iff.1 h).1
  have e := (List.getElem?_eq_some_iff.1 h).2
  rw [List.take_succ_eq_append_getElem hj, e, List.filter_append]
  by_cases hx : x < n
  · rw [if_pos hx, List.filter_cons_of_pos (by simpa using hx)]; rfl
  · rw [if_neg hx, List.filter_cons_of_neg (by simpa using hx)]; simp
theorem topTo_succ {out : List Int} {n x : Int} {j : Nat} (h : out[j]? = some x) : (out.take (j + 1)).filter (fun x => !decide (x < n)) = if x < n then (out.take j).filter (fun x => !decide (x < n)) else (out.take j).filter (fun x => !decide (x < n)) ++ [x] := by
  have hj := (List.getElem?_eq_some_iff.1 h).1
  have e := (List.getElem?_eq_some_iff.1 h).2
  rw [List.take_succ_eq_append_getElem hj, e, List.filter_append]
  by_cases hx : x < n
  · rw [if_pos hx, List.filter_cons_of_neg (by simpa using hx)]; simp
  · rw [if_neg hx, List.filter_cons_of_pos (by simpa using hx)]; rfl
theorem filter_two (f : Int → Bool) : ∀ l : List Int, (l.filter f).length + (l.filter fun x => !f x).length = l.length
  | [] => rfl
  | x :: l => by
    have ih := filter_two f l
    cases h : f x with
    | true => rw [List.filter_cons_of_pos (by simp [h]), List.filter_cons_of_neg (by simp [h]), List.length_cons, List.length_cons]; omega
    | false => rw [List.filter_cons_of_neg (by simp [h]), List.filter_cons_of_pos (by simp [h]), List.length_cons, List.length_cons]; omega
theorem rollTo_len {t : Trk} {ws : List Pt} {l : List (List Int)} : ∀ k, k ≤ l.length → (rollTo t ws l k).length ≤ k
  | 0, _ => by simp [rollTo, ascOf]
  | k + 1, h => by
    have ih := rollTo_len (t := t) (ws := ws) (l := l) k (by omega)
    rw [rollTo_succ (List.getElem?_eq_getElem (show k < l.length by omega))]
    unfold refIns
    split
    · omega
    · rename_i hn
      have h1 : (List.filter (fun x => decide (x < sweepV t ws l[k])) (rollTo t ws l k)).length + (List.filter (fun x => !decide (x < sweepV t ws l[k])) (rollTo t ws l k)).length = (rollTo t ws l k).length := by
        exact filter_two _ _
      rw [List.length_append, List.length_cons]
      omega
end Wl
set_option maxRecDepth 100000 in
set_option maxHeartbeats 16000000 in
theorem Rolls5_any (t : Wl.Trk) (ws : List Wl.Pt) (A Aw : Option Addr) (c cw : Nat) (hl : t.ps.length ≤ 1000000000) (hlw : ws.length ≤ 1000000000) (hkl : (Wl.knL t ws).length ≤ 100000) (w : World) (hP : Prs w w.heap.size A t.ps) (hQ : Prs w w.heap.size Aw ws) :
    Calls Try.prog 32 #[.agg (trV t A c), .slice Aw ws.length cw] w (IntsEPost (if Wl.setE t ws = 0 then Wl.rollsL t ws else []) (Wl.setE t ws) w) := by
  have HK : Hid (∀ W, Below w.heap.size w W → Calls Try.prog 65 #[.agg (trV t A c), .slice Aw ws.length cw] W (KnPost5 (Wl.knL t ws) (Wl.setE t ws) W)) := fun W hW => known5_any t ws A Aw c cw hl hlw W (prs_keep hP hW) (prs_keep hQ hW)
  have HSW : Hid (∀ (k : Nat) (es : List Int), (Wl.knL t ws)[k]? = some es → ∀ (A' : Option Addr) (c' : Nat) (W : World), Below w.heap.size w W → Ints W W.heap.size (.slice A' es.length c') es → Calls Try.prog 60 #[.agg (trV t A c), .slice Aw ws.length cw, .slice A' es.length c'] W fun e w' => e = .returned (.int .i64 (Wl.sweepV t ws es)) ∧ Below W.heap.size W w') := fun k es h A' c' W hW hE => by
    obtain ⟨⟨h1, h2⟩, h3⟩ := Wl.knL_ws (List.mem_of_getElem? h)
    obtain ⟨e1, e2, e3⟩ := Wl.elbV_iff.1 h3
    exact SweepOf5_any t ws es A Aw A' c cw c' (Wl.trk_sm h1) (fun k hk => Wl.pts_sm h2 hk) (fun k hk => (Wl.mem_reachL.1 (Wl.fitB_mem.1 (e2 k hk))).1) hl e1 (Wl.pts_all h2).2 W (prs_keep hP hW) (prs_keep hQ hW) hE
  have HRS0 : Hid (∀ (k : Nat) (es : List Int), (Wl.knL t ws)[k]? = some es → Wl.rollTo t ws (Wl.knL t ws) (k + 1) = Wl.refIns (Wl.sweepV t ws es) (Wl.rollTo t ws (Wl.knL t ws) k)) := fun k es h => Wl.rollTo_succ h
  have HRL : Hid (∀ k, k ≤ (Wl.knL t ws).length → (Wl.rollTo t ws (Wl.knL t ws) k).length ≤ k) := Wl.rollTo_len
  have HR0 : Hid (Wl.rollTo t ws (Wl.knL t ws) 0 = []) := rfl
  have HRA : Hid ((if Wl.setE t ws = 0 then Wl.rollsL t ws else []) = Wl.rollTo t ws (Wl.knL t ws) (Wl.knL t ws).length) := by
    unfold Hid Wl.rollTo
    rw [List.take_length]
    by_cases h : Wl.setE t ws = 0
    · rw [if_pos h]
      unfold Wl.knL
      rw [if_pos (Wl.chk_yes.2 (Wl.setE_yes h).1)]
      rfl
    · rw [if_neg h]
      have : Wl.knL t ws = [] := by
        unfold Wl.setE at h
        unfold Wl.knL
        split at h
        · rename_i hc
          rw [if_pos hc]
          cases he : Wl.elbsL t ws with
          | nil => rfl
          | cons a l => rw [he] at h; exact absurd rfl h
        · rename_i hc
          rw [if_neg hc]
      rw [this]
      rfl
  have HKL := Lib.hid hkl
  clear hP hQ hl hlw hkl
  rw [HRA.out]
  clear HRA
  generalize hsv : Wl.sweepV t ws = SV at *
  generalize Wl.rollTo t ws (Wl.knL t ws) = RT at *
  generalize Wl.knL t ws = KL at *
  generalize Wl.setE t ws = SE at *
  clear hsv
  obtain ⟨ps, cl, lo, hi⟩ := t
  unfold trV at *
  dsimp only at *
  have hmo : Try.prog.follows .mixedOrders = true := by kernel_rfl
  go_enter Try.func32, Try.ntmps32
  go_wp2_with fail
  have bS1 := BoxS.new w 26 #[.slice A ps.length c, .int .i64 cl, .int .i64 lo, .int .i64 hi]
  have hB1 : Below w.heap.size w (w.alloc (.cells #[.slice A ps.length c, .int .i64 cl, .int .i64 lo, .int .i64 hi] 26)) := by (repeat' (first | (with_reducible exact Below.refl _ _) | (with_reducible assumption) | (with_reducible refine Below.alloc ?_ ?_ _) | (with_reducible refine Below.drew ?_) | (with_reducible refine Below.setCell ?_ ?_ _) | go_size | (exact (by simp)) | omega))
  generalize World.alloc w _ = w1 at *
  obtain ⟨s0, s1, s2, s3⟩ := boxS4 bS1
  have lS := bS1.lt
  try go_wp2_with fail
  refine (HK.out _ hB1).mono ?_
  rintro e w2 ⟨AL, cL, rfl, hO2, hb2⟩
  have hB2 := hB1.trans (hb2.mono hB1.size)
  have bS2 := bS1.below hb2
  clear s0 s1 s2 s3 lS bS1 hb2 HK hB1
  obtain ⟨NB, hNB⟩ : ∃ NB, NB = w2.heap.size := ⟨_, rfl⟩
  go_wp2_with fail
  go_loopg [8, 9, 10, 11, 12, 13, 14] KL.length (fun g x8 x9 x10 x11 x12 x13 x14 wx => ∃ (k : Nat) (A8 : Option Addr) (c8 : Nat), Hid (k + g = KL.length) ∧ (k : Int) ≤ KL.length ∧ x9 = .int .i64 (k : Int) ∧ x8 = .slice A8 (RT k).length c8 ∧ Below NB w2 wx ∧ Has wx NB [rowT (.slice A8 (RT k).length c8) (RT k)])
  case atStart =>
    refine ⟨0, none, 0, by simp [Hid], by omega, rfl, by rw [HR0.out]; rfl, Below.refl _ _, ?_⟩
    rw [HR0.out]
    exact ⟨fun U hU => by
      obtain rfl : U = _ := by simpa using hU
      exact World.ownsRow_nil _ _ _ _, List.pairwise_singleton _ _⟩
  case round =>
    obtain ⟨k, A8, c8, hk, hk1, rfl, rfl, hbb, hHas0⟩ := hrel
    have hk0 := Int.natCast_nonneg k
    have hbb2 : Below w2.heap.size w2 wr := by rw [← hNB]; exact hbb
    have hB3 := hB2.trans (hbb2.mono hB2.size)
    have bS3 := bS2.below hbb2
    have hkl := HKL.out
    by_cases hlt : (k : Int) < KL.length
    · have hkn : k < KL.length := by omega
      obtain ⟨es, hes⟩ : ∃ es, KL[k]? = some es := ⟨_, List.getElem?_eq_getElem hkn⟩
      obtain ⟨g, A4, c4, rfl, _, hg, hcell, hI⟩ := hO2.out.at hes
      have HI := Lib.hid ((hI.keep hbb2).ints)
      have hc9 := (hbb2.cell (p := ⟨g, k, none⟩) hg).trans hcell
      have HSW1 := Lib.hid (fun W (hW : Below wr.heap.size wr W) => HSW.out k es hes A4 c4 W (hB3.trans (hW.mono hB3.size)) ((HI.out.keep hW).more hW.size))
      have HRS := Lib.hid (HRS0.out k es hes)
      have hlr := HRL.out k (by omega)
      have hw1 : IntKind.i64.wrap ((k : Int) + 1) = (k : Int) + 1 := IntWalk.i64_in _ (by omega)
      have e1 : decide ((k : Int) < 0) = false := decide_eq_false (by omega)
      have e2 : decide ((KL.length : Int) ≤ (k : Int)) = false := decide_eq_false (by omega)
      have e4 : decide (KL.length ≤ k) = false := decide_eq_false (by omega)
      have hg9 : g < wr.heap.size := by have := hbb2.size; omega
      have q0 : Below wr.heap.size wr wr.drew := (Below.refl _ _).drew
      have KC : Hid (∀ W', Below wr.heap.size wr W' → (W'.cell? ⟨w.heap.size, 0, none⟩ = some (.slice A ps.length c) ∧ W'.cell? ⟨w.heap.size, 1, none⟩ = some (.int .i64 cl) ∧ W'.cell? ⟨w.heap.size, 2, none⟩ = some (.int .i64 lo) ∧ W'.cell? ⟨w.heap.size, 3, none⟩ = some (.int .i64 hi)) ∧ W'.cell? ⟨g, k, none⟩ = some (.slice A4 es.length c4)) := fun W' h => ⟨boxS4 (bS3.below h), (h.cell (p := ⟨g, k, none⟩) hg9).trans hc9⟩
      clear hcell hI HI hes HSW HRS0 hc9 hg9 HRL
      generalize SV es = n at *
      generalize hout : RT k = out at *
      clear hout
      go_wp2_with fail
      refine (wpIn_wide (n := 4)).1 ?_
      refine wpIn_region_held (fun W' => Below wr.heap.size wr W') 30 hmo ?_
      refine wpHeldIn_take (i := 0) (v := ?_) (plain_of (by kernel_rfl)) rfl (by kernel_rfl) (fun _ _ _ h => h) (yieldsSoIn_of (by kernel_rfl) ?_ (fun _ => rfl)) q0 ?_; rotate_left; focus (intro wq hw; have kq := KC.out wq hw; clear hw; go_simp; try (with_reducible rfl))
      refine wpHeldIn_take (i := 1) (v := ?_) (plain_of (by kernel_rfl)) rfl (by kernel_rfl) (fun _ _ _ h => h) (yieldsSoIn_of (by kernel_rfl) ?_ (fun _ => rfl)) q0 ?_; rotate_left; focus (intro wq hw; clear hw; go_simp; try (with_reducible rfl))
      refine wpHeldIn_take (i := 2) (v := ?_) (plain_of (by kernel_rfl)) rfl (by kernel_rfl) (fun _ _ _ h => h) (yieldsSoIn_of (by kernel_rfl) ?_ (fun _ => rfl)) q0 ?_; rotate_left; focus (intro wq hw; clear hw; go_simp; try (with_reducible rfl))
      refine wpHeldIn_take (i := 3) (v := ?_) (plain_of (by kernel_rfl)) rfl (by kernel_rfl) (fun _ _ _ h => h) (yieldsSoIn_of (by kernel_rfl) ?_ (fun _ => rfl)) q0 ?_; rotate_left; focus (intro wq hw; clear hw; go_simp; try (with_reducible rfl))
      refine wpHeldIn_take (i := 4) (v := ?_) (plain_of (by kernel_rfl)) rfl (by kernel_rfl) (fun _ _ _ h => h) (yieldsSoIn_of (by kernel_rfl) ?_ (fun _ => rfl)) q0 ?_; rotate_left; focus (intro wq hw; clear hw; go_simp; try (with_reducible rfl))
      refine wpHeldIn_take (i := 5) (v := ?_) (plain_of (by kernel_rfl)) rfl (by kernel_rfl) (fun _ _ _ h => h) (yieldsSoIn_of (by kernel_rfl) ?_ (fun _ => rfl)) q0 ?_; rotate_left; focus (intro wq hw; have kq := KC.out wq hw; clear hw; go_simp; try (with_reducible rfl))
      refine wpHeldIn_one (i := 6) (by kernel_rfl) (by kernel_rfl) rfl (by kernel_rfl) (fun K1 hK1 => ?_)
      go_simp
      refine ⟨trivial, (callsIn_wide.2 (HSW1.out _ q0)).mono ?_⟩
      rintro e w5 ⟨rfl, hb5⟩
      have q2 := q0.trans (hb5.mono q0.size)
      refine hK1 _ _ q2 ?_
      refine wpHeldIn_take (i := 7) (v := ?_) (plain_of (by kernel_rfl)) rfl (by kernel_rfl) (fun _ _ _ h => h) (yieldsSoIn_of (by kernel_rfl) ?_ (fun _ => rfl)) q2 ?_; rotate_left; focus (intro wq hw; clear hw; go_simp; try (with_reducible rfl))
      refine wpHeldIn_done (by kernel_rfl) ?_ _
      go_simp
      have hbz0 : Below NB w2 w5 := by have h2 := q2.mono (show NB ≤ wr.heap.size by have := hbb2.size; omega); exact hbb.trans h2
      have hHas1 := (hHas0.below q2 (Nat.le_refl _)).three
      have HMS0 : Hid (∀ (j : Nat) (x : Int), out[j]? = some x → (decide (n ∈ out.take (j + 1)) = (decide (n ∈ out.take j) || decide (x = n)))) := fun j x h => Wl.memTo_succ h
      have HFS0 : Hid (∀ (j : Nat) (x : Int), out[j]? = some x → (out.take (j + 1)).filter (fun x => decide (x < n)) = if x < n then (out.take j).filter (fun x => decide (x < n)) ++ [x] else (out.take j).filter (fun x => decide (x < n))) := fun j x h => Wl.lowTo_succ h
      have HHS0 : Hid (∀ (j : Nat) (x : Int), out[j]? = some x → (out.take (j + 1)).filter (fun x => !decide (x < n)) = if x < n then (out.take j).filter (fun x => !decide (x < n)) else (out.take j).filter (fun x => !decide (x < n)) ++ [x]) := fun j x h => Wl.topTo_succ h
      have HLF : Hid (∀ j, ((out.take j).filter (fun x => decide (x < n))).length ≤ 100000) := fun j => by
        have h1 := List.length_filter_le (fun x => decide (x < n)) (out.take j)
        have h2 : (out.take j).length ≤ out.length := by rw [List.length_take]; omega
        omega
      have HLH : Hid (∀ j, ((out.take j).filter (fun x => !decide (x < n))).length ≤ 100000) := fun j => by
        have h1 := List.length_filter_le (fun x => !decide (x < n)) (out.take j)
        have h2 : (out.take j).length ≤ out.length := by rw [List.length_take]; omega
        omega
      have HMA : Hid (decide (n ∈ out.take out.length) = decide (n ∈ out)) := by unfold Hid; rw [List.take_length]
      have HFA : Hid ((out.take out.length).filter (fun x => decide (x < n)) = out.filter (fun x => decide (x < n))) := by unfold Hid; rw [List.take_length]
      have HHA : Hid ((out.take out.length).filter (fun x => !decide (x < n)) = out.filter (fun x => !decide (x < n))) := by unfold Hid; rw [List.take_length]
      have HM0 : Hid (decide (n ∈ out.take 0) = false) := by unfold Hid; simp
      have HF0 : Hid ((out.take 0).filter (fun x => decide (x < n)) = []) := by unfold Hid; simp
      have HH0 : Hid ((out.take 0).filter (fun x => !decide (x < n)) = []) := by unfold Hid; simp
      generalize hMB : (fun j : Nat => decide (n ∈ out.take j)) = MB at *
      have hMB' : ∀ j : Nat, decide (n ∈ out.take j) = MB j := fun j => by rw [← hMB]
      generalize hBF : (fun j : Nat => (out.take j).filter (fun x => decide (x < n))) = BF at *
      have hBF' : ∀ j : Nat, (out.take j).filter (fun x => decide (x < n)) = BF j := fun j => by rw [← hBF]
      generalize hBH : (fun j : Nat => (out.take j).filter (fun x => !decide (x < n))) = BH at *
      have hBH' : ∀ j : Nat, (out.take j).filter (fun x => !decide (x < n)) = BH j := fun j => by rw [← hBH]
      simp only [hMB'] at HMS0 HMA HM0
      simp only [hBF'] at HFS0 HLF HFA HF0
      simp only [hBH'] at HHS0 HLH HHA HH0
      clear hMB hBF hBH hMB' hBF' hBH' KC q0 q2 hb5 hHas0 hK1 HSW1 bS3 hB3 hbb2 hbb
      go_wp2_with fail
      obtain ⟨gko, rfl⟩ : ∃ gko, gko = gk := ⟨_, rfl⟩
      obtain ⟨wq, rfl⟩ : ∃ wq, wq = wr := ⟨_, rfl⟩
      go_loopg [11, 12, 13, 14] out.length (fun g x11 x12 x13 x14 wx => ∃ (j : Nat) (A1 : Option Addr) (c1 : Nat) (A2 : Option Addr) (c2 : Nat), Hid (j + g = out.length) ∧ (j : Int) ≤ out.length ∧ x14 = .int .i64 (j : Int) ∧ x13 = .bool (MB j) ∧ x11 = .slice A1 (BF j).length c1 ∧ x12 = .slice A2 (BH j).length c2 ∧ Below NB w2 wx ∧ Has wx NB [rowT (.slice A8 out.length c8) out, rowT (.slice A1 (BF j).length c1) (BF j), rowT (.slice A2 (BH j).length c2) (BH j)])
      case atStart =>
        refine ⟨0, none, 0, none, 0, by simp [Hid], by omega, rfl, by rw [HM0.out], by rw [HF0.out]; rfl, by rw [HH0.out]; rfl, hbz0, ?_⟩
        rw [HF0.out, HH0.out]
        exact hHas1
      case round =>
        clear hHas1 hbz0
        obtain ⟨j, A1, c1, A2, c2, hj, hj1, rfl, rfl, rfl, rfl, hbb, hHas⟩ := hrel
        have hj0 := Int.natCast_nonneg j
        by_cases hlt : (j : Int) < out.length
        · have hjn : j < out.length := by omega
          obtain ⟨x, hx⟩ : ∃ x, out[j]? = some x := ⟨_, List.getElem?_eq_getElem hjn⟩
          have HMS := Lib.hid (HMS0.out j x hx)
          have HFS := Lib.hid (HFS0.out j x hx)
          have HHS := Lib.hid (HHS0.out j x hx)
          have hlF := HLF.out j
          have hlH := HLH.out j
          have hI := Ints.of_own (hHas.row 0 rfl)
          have HH := Lib.hid hHas
          rcases hI with ⟨_, e⟩ | ⟨b, off, cap, e, hb, hc⟩
          · subst e; simp at hjn
          · injection e with eA _ ec
            subst eA ec
            have d0 := hc j x hx
            have hw3 : IntKind.i64.wrap ((j : Int) + 1) = (j : Int) + 1 := IntWalk.i64_in _ (by omega)
            have e1 : decide ((j : Int) < 0) = false := decide_eq_false (by omega)
            have e2 : decide ((out.length : Int) ≤ (j : Int)) = false := decide_eq_false (by omega)
            have e4 : decide (out.length ≤ j) = false := decide_eq_false (by omega)
            clear hc hx hHas
            cases hm : MB j with
            | true =>
              by_cases hxl : x < n
              · skip
                have HM1 : Hid (MB j = true) := hm
                have HM2 : Hid (MB (j + 1) = true) := by unfold Hid; rw [HMS.out, hm]; rfl
                have HF2 : Hid (BF (j + 1) = BF j ++ [x]) := by unfold Hid; rw [HFS.out, if_pos hxl]
                have HH2 : Hid (BH (j + 1) = BH j) := by unfold Hid; rw [HHS.out, if_pos hxl]
                clear HMS HFS HHS HM1 hm
                go_wp2_with (at_builtin; go_must (refine wpList_pushh rfl (.tmp 55) (.tmp 60) rfl x NB _ 1 _ (BF j) rfl rfl HH.out rfl (by have := hbb.size; omega) (by have := hlF; omega) ?_; intro A7 c7 w7 hH7 hb7))
                have hbz := hbb.trans hb7
                have HH7 := Lib.hid hH7
                clear hH7 hb7 HH
                obtain ⟨g', hg'⟩ : ∃ g', gk = g' + 1 := ⟨gk - 1, by have := hj.out; omega⟩
                go_roundg g'
                case measure => omega
                case rel =>
                  refine ⟨j + 1, A7, c7, A2, c2, by have := hj.out; simp only [Hid]; omega, by omega, by go_num, by rw [HM2.out], by rw [HF2.out, List.length_append, List.length_singleton], by rw [HH2.out], hbz, ?_⟩
                  rw [HF2.out, HH2.out, show (BF j ++ [x]).length = (BF j).length + 1 by simp]
                  exact HH7.out
              · skip
                have HM1 : Hid (MB j = true) := hm
                have HM2 : Hid (MB (j + 1) = true) := by unfold Hid; rw [HMS.out, hm]; rfl
                have HF2 : Hid (BF (j + 1) = BF j) := by unfold Hid; rw [HFS.out, if_neg hxl]
                have HH2 : Hid (BH (j + 1) = BH j ++ [x]) := by unfold Hid; rw [HHS.out, if_neg hxl]
                clear HMS HFS HHS HM1 hm
                go_wp2_with (at_builtin; go_must (refine wpList_pushh rfl (.tmp 62) (.tmp 67) rfl x NB _ 2 _ (BH j) rfl rfl HH.out rfl (by have := hbb.size; omega) (by have := hlH; omega) ?_; intro A7 c7 w7 hH7 hb7))
                have hbz := hbb.trans hb7
                have HH7 := Lib.hid hH7
                clear hH7 hb7 HH
                obtain ⟨g', hg'⟩ : ∃ g', gk = g' + 1 := ⟨gk - 1, by have := hj.out; omega⟩
                go_roundg g'
                case measure => omega
                case rel =>
                  refine ⟨j + 1, A1, c1, A7, c7, by have := hj.out; simp only [Hid]; omega, by omega, by go_num, by rw [HM2.out], by rw [HF2.out], by rw [HH2.out, List.length_append, List.length_singleton], hbz, ?_⟩
                  rw [HF2.out, HH2.out, show (BH j ++ [x]).length = (BH j).length + 1 by simp]
                  exact HH7.out
            | false =>
              by_cases hxe : x = n
              · have hxl : ¬ x < n := by omega
                have HM1 : Hid (MB j = false) := hm
                have hbq : (x == n) = true := by simpa using hxe
                have HM2 : Hid (MB (j + 1) = true) := by unfold Hid; rw [HMS.out, hm, decide_eq_true hxe]; rfl
                have HF2 : Hid (BF (j + 1) = BF j) := by unfold Hid; rw [HFS.out, if_neg hxl]
                have HH2 : Hid (BH (j + 1) = BH j ++ [x]) := by unfold Hid; rw [HHS.out, if_neg hxl]
                clear HMS HFS HHS HM1 hm hxe
                go_wp2_with (at_builtin; go_must (refine wpList_pushh rfl (.tmp 62) (.tmp 67) rfl x NB _ 2 _ (BH j) rfl rfl HH.out rfl (by have := hbb.size; omega) (by have := hlH; omega) ?_; intro A7 c7 w7 hH7 hb7))
                have hbz := hbb.trans hb7
                have HH7 := Lib.hid hH7
                clear hH7 hb7 HH
                obtain ⟨g', hg'⟩ : ∃ g', gk = g' + 1 := ⟨gk - 1, by have := hj.out; omega⟩
                go_roundg g'
                case measure => omega
                case rel =>
                  refine ⟨j + 1, A1, c1, A7, c7, by have := hj.out; simp only [Hid]; omega, by omega, by go_num, by rw [HM2.out], by rw [HF2.out], by rw [HH2.out, List.length_append, List.length_singleton], hbz, ?_⟩
                  rw [HF2.out, HH2.out, show (BH j ++ [x]).length = (BH j).length + 1 by simp]
                  exact HH7.out
              · by_cases hxl : x < n
                · skip
                  have HM1 : Hid (MB j = false) := hm
                  have hbq : (x == n) = false := by simpa using hxe
                  have HM2 : Hid (MB (j + 1) = false) := by unfold Hid; rw [HMS.out, hm, decide_eq_false hxe]; rfl
                  have HF2 : Hid (BF (j + 1) = BF j ++ [x]) := by unfold Hid; rw [HFS.out, if_pos hxl]
                  have HH2 : Hid (BH (j + 1) = BH j) := by unfold Hid; rw [HHS.out, if_pos hxl]
                  clear HMS HFS HHS HM1 hm hxe
                  go_wp2_with (at_builtin; go_must (refine wpList_pushh rfl (.tmp 55) (.tmp 60) rfl x NB _ 1 _ (BF j) rfl rfl HH.out rfl (by have := hbb.size; omega) (by have := hlF; omega) ?_; intro A7 c7 w7 hH7 hb7))
                  have hbz := hbb.trans hb7
                  have HH7 := Lib.hid hH7
                  clear hH7 hb7 HH
                  obtain ⟨g', hg'⟩ : ∃ g', gk = g' + 1 := ⟨gk - 1, by have := hj.out; omega⟩
                  go_roundg g'
                  case measure => omega
                  case rel =>
                    refine ⟨j + 1, A7, c7, A2, c2, by have := hj.out; simp only [Hid]; omega, by omega, by go_num, by rw [HM2.out], by rw [HF2.out, List.length_append, List.length_singleton], by rw [HH2.out], hbz, ?_⟩
                    rw [HF2.out, HH2.out, show (BF j ++ [x]).length = (BF j).length + 1 by simp]
                    exact HH7.out
                · skip
                  have HM1 : Hid (MB j = false) := hm
                  have hbq : (x == n) = false := by simpa using hxe
                  have HM2 : Hid (MB (j + 1) = false) := by unfold Hid; rw [HMS.out, hm, decide_eq_false hxe]; rfl
                  have HF2 : Hid (BF (j + 1) = BF j) := by unfold Hid; rw [HFS.out, if_neg hxl]
                  have HH2 : Hid (BH (j + 1) = BH j ++ [x]) := by unfold Hid; rw [HHS.out, if_neg hxl]
                  clear HMS HFS HHS HM1 hm hxe
                  go_wp2_with (at_builtin; go_must (refine wpList_pushh rfl (.tmp 62) (.tmp 67) rfl x NB _ 2 _ (BH j) rfl rfl HH.out rfl (by have := hbb.size; omega) (by have := hlH; omega) ?_; intro A7 c7 w7 hH7 hb7))
                  have hbz := hbb.trans hb7
                  have HH7 := Lib.hid hH7
                  clear hH7 hb7 HH
                  obtain ⟨g', hg'⟩ : ∃ g', gk = g' + 1 := ⟨gk - 1, by have := hj.out; omega⟩
                  go_roundg g'
                  case measure => omega
                  case rel =>
                    refine ⟨j + 1, A1, c1, A7, c7, by have := hj.out; simp only [Hid]; omega, by omega, by go_num, by rw [HM2.out], by rw [HF2.out], by rw [HH2.out, List.length_append, List.length_singleton], hbz, ?_⟩
                    rw [HF2.out, HH2.out, show (BH j ++ [x]).length = (BH j).length + 1 by simp]
                    exact HH7.out
        · have ej : j = out.length := by omega
          have HMF : Hid (MB j = decide (n ∈ out)) := by rw [ej]; exact HMA.out
          have hFO : BF j = out.filter (fun x => decide (x < n)) := by rw [ej]; exact HFA.out
          have hHO : BH j = out.filter (fun x => !decide (x < n)) := by rw [ej]; exact HHA.out
          have hlF := HLF.out j
          have hlH := HLH.out j
          have hHas2 := hHas
          by_cases hin : n ∈ out
          · have hm : MB j = true := by rw [HMF.out]; exact decide_eq_true hin
            have HR2 : Hid (RT (k + 1) = out) := by unfold Hid; rw [HRS.out]; unfold Wl.refIns; rw [if_pos hin]
            have HH := Lib.hid (hHas2.one 0 rfl)
            simp only [hm]
            clear HMF hm hin hHas hHas2 HRS ej hFO hHO
            go_wp2_with fail
            obtain ⟨g', hg'⟩ : ∃ g', gko = g' + 1 := ⟨gko - 1, by have := hk.out; omega⟩
            go_roundg g'
            case measure => omega
            case rel => exact ⟨k + 1, A8, c8, by have := hk.out; simp only [Hid]; omega, by omega, by go_num, by rw [HR2.out], hbb, by rw [HR2.out]; exact HH.out⟩
          · have hm : MB j = false := by rw [HMF.out]; exact decide_eq_false hin
            have HR2 : Hid (RT (k + 1) = (BF j ++ [n]) ++ BH j) := by unfold Hid; rw [HRS.out, hFO, hHO]; unfold Wl.refIns; rw [if_neg hin, List.append_assoc]; rfl
            have HH := Lib.hid hHas2
            have hlq : (BF j ++ [n]).length + (BH j).length ≤ 1000000 := by simp; omega
            simp only [hm]
            clear HMF hm hin hHas hHas2 HRS ej hFO hHO
            generalize BF j = bf at *
            generalize BH j = bh at *
            go_wp2_with (at_builtin; first | (refine wpList_pushh rfl (.tmp 71) (.tmp 73) rfl n NB _ 1 _ bf rfl rfl HH.out rfl (by have := hbb.size; omega) (by omega) ?_; intro A7 c7 w7 hH7 hb7) | go_must (refine wpList_apph rfl (.tmp 74) (.tmp 75) rfl NB _ 1 2 (.slice A7 (bf.length + 1) c7) (bf ++ [n]) (bf.length + 1) (by simp) A2 c2 bh rfl rfl hH7 rfl rfl (by have := (hbb.trans hb7).size; omega) hlq ?_; intro A9 c9 w9 hH9 hb9))
            have hbz := (hbb.trans hb7).trans hb9
            have HH9 := Lib.hid (hH9.one 1 rfl)
            clear hH9 hb9 hH7 hb7 HH
            obtain ⟨g', hg'⟩ : ∃ g', gko = g' + 1 := ⟨gko - 1, by have := hk.out; omega⟩
            go_roundg g'
            case measure => omega
            case rel => exact ⟨k + 1, A9, c9, by have := hk.out; simp only [Hid]; omega, by omega, by go_num, by rw [HR2.out]; simp only [List.length_append, List.length_singleton], hbz, by rw [HR2.out, show (bf ++ [n] ++ bh).length = bf.length + 1 + bh.length by simp; omega]; exact HH9.out⟩
    · have ek : k = KL.length := by omega
      subst ek
      have HI := Lib.hid (Ints.of_own (hHas0.row 0 rfl))
      clear hHas0 hbb bS3
      go_wp2_with fail
      go_returns
      exact ⟨_, rfl, HI.out, hB3⟩
end Go.Proofs.Ytmjcdggmofohcaa
