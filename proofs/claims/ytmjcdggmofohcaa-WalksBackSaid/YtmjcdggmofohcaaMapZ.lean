/- A map whose keys are numbers, and its keys sorted: no package is named here. -/
import Derived.Test.YtmjcdggmofohcaaShelf
import Derived.Test.YtmjcdggmofohcaaWlR
import Derived.Test.YtmjcdggmofohcaaFarP
import Derived.Maps.OwnIn
namespace Go.Proofs.Ytmjcdggmofohcaa
open Go.RowKit Go.Shelf Go.Maps Go.Sort
attribute [local go_sem] Oper.semAt_some
theorem wpIn_mapUpdate_at {H : Type} {F : Fence} {nF : Nat} {P : Program} (w : World) {o : Oper} {a : Act} {K' : Act → World → Prop} {Q : Exit → Act → World → Prop} (m x v : Operand) (t : TypeId) (hop : o.op = Op.mapUpdate t m x v)
    (k e : TypeId) (K : Keyed P k) (ht : P.underlying t = some (.map k e)) (R : Value → Option (DataW H × List MemPlace)) (b n : Nat) (D : DataW H)
    (hm : a.eval m = .map (some b)) (hown : w.ownsMap P k R b n D) (hn : n < maxLen) (key val : Value) (kl : Lit) (hx : a.eval x = key) (hv : a.eval v = val) (hkey : keyOf P k key = some kl)
    (d : DataW H) (ps : List MemPlace) (hval : R val = some (d, ps))
    (hK : ∀ w', w'.ownsMap P k R b (n + 1) (D.put kl d) → w.grownBy w' (some b) → K' (a.put o.dst undef) w') : o.wpIn F nF P a w K' Q := by
  obtain ⟨w', hrun, r1, r2⟩ := hown.update K ht hn hkey hval
  unfold Oper.wpIn
  refine ⟨by simp [Oper.about, hop], ?_⟩
  rw [Oper.semAt_plain F _ _ (by rw [hop]; intro c hc'; cases hc')]
  simp [execOp, hop, hm, hx, hv, hrun, Result.andThen]
  exact hK w' r1 r2
theorem wf_mid {x : Int} (h : -1000000000 ≤ x ∧ x ≤ 1000000000) : (Lit.int .i64 x).wf = true := by
  exact WalkArith.wf_i64 (by omega)
theorem sorts_any (m : Nat) : AnyZI.SortsIn Try.prog Try.sortedA_ren Fence.wide m :=
  ⟨fun blk off cap ss W hH hblk hsz => callsIn_wide.2 (AnyM.slices_Sort_int Try.sortA blk off cap ss W hH hblk hsz),
   fun p cap W => callsIn_wide.2 (AnyM.slices_Sort_int_none Try.sortA p cap W)⟩
theorem keys_call (mb : Option Nat) (W : World) : Calls Try.prog 67 #[.map mb] W fun e w' => e = .returned (.func (.func 91) #[] #[.pointer (some ⟨W.heap.size, 0, none⟩)]) ∧ w' = W.alloc (.cells #[.map mb] 83) :=
  (callsIn_wide (n := 5)).1 (AnyZI.keys_in Try.keysA Fence.wide 5 trivial rfl mb W)
/-- What a sorted row of a map's keys is. -/
def KeysPost (L : List Int) (w : World) (e : Ending) (w' : World) : Prop := ∃ v : Value, e = .returned v ∧ w'.ownsRow w.heap.size 3 1 v L.length (L.map encZ) ∧ (v = .slice none 0 0 ↔ L = []) ∧ Below w.heap.size w w'
set_option maxHeartbeats 1000000 in
theorem sorted_call {H : Type} (b nn : Nat) (D0 : DataW H) (R : Value → Option (DataW H × List MemPlace)) (w : World) (hown : w.ownsMap Try.prog 3 R b nn D0) (hmax : Maps.size D0 ≤ maxLen) (hbytes : Maps.size D0 * 8 ≤ 140737488355328) :
    Calls Try.prog 66 #[.func (.func 91) #[] #[.pointer (some ⟨w.heap.size, 0, none⟩)]] (w.alloc (.cells #[.map (some b)] 83)) (KeysPost ((intKeys D0).mergeSort (fun x y => decide (x ≤ y))) (w.alloc (.cells #[.map (some b)] 83))) := by
  have hbl := hown.lt
  have hseq : SeqGives Fence.wide 2 Try.prog 91 #[.pointer (some ⟨w.heap.size, 0, none⟩)] encZ (fun ss => ss.Perm (intKeys D0)) (Maps.size D0) (w.alloc (.cells #[.map (some b)] 83)) :=
    AnyZI.keys_gives (ρ := Try.keysA_ren) { Try.keysA with } Fence.wide _ trivial rfl (by omega) w.heap.size b nn D0 _ (by simp) (by simp) (by
      obtain ⟨es, clock, hb, Ft, hs, hD⟩ := hown
      exact ⟨es, clock, (Below.heap_alloc _ _ b hbl).trans hb, Ft, hs, hD⟩)
  have cS := AnyZI.sorted_in Try.sortedA Fence.wide 5 trivial trivial trivial trivial rfl (by omega) (sorts_any _) (enters_of Try.func90 (by kernel_rfl) rfl) 91 #[.pointer (some ⟨w.heap.size, 0, none⟩)] trivial (enters_of Try.func91 (by kernel_rfl) rfl) _ _ hmax hbytes _ hseq
  change CallsIn _ _ Try.prog 66 _ _ _ at cS
  refine ((callsIn_wide (n := 5)).1 cS).mono ?_
  rintro e w' ⟨v, ss, rfl, hS, hrow, hnil, hb⟩
  have hm : ss.mergeSort (fun x y => decide (x ≤ y)) = (intKeys D0).mergeSort (fun x y => decide (x ≤ y)) := by
    refine List.Perm.eq_of_pairwise (le := fun x y : Int => decide (x ≤ y) = true) ?_ (List.pairwise_mergeSort ?_ ?_ _) (List.pairwise_mergeSort ?_ ?_ _) ?_
    · intro a b _ _ h1 h2; simp at h1 h2; omega
    · intro a b c h1 h2; simp at *; omega
    · intro a b; simp; omega
    · intro a b c h1 h2; simp at *; omega
    · intro a b; simp; omega
    · exact ((List.mergeSort_perm _ _).trans hS).trans (List.mergeSort_perm _ _).symm
  refine ⟨v, rfl, ?_, ?_, hb⟩
  · rw [← hm, List.length_mergeSort]; exact hrow
  · rw [hnil, ← hm]
    constructor
    · rintro rfl; simp
    · intro h; have := congrArg List.length h; rw [List.length_mergeSort] at this; exact List.length_eq_zero_iff.1 this
theorem ownsMap_below {H : Type} {P : Program} {k : TypeId} {R : Value → Option (DataW H × List MemPlace)} {b n : Nat} {D : DataW H} {W W' : World} (h : W.ownsMap P k R b n D) (hb : Below W.heap.size W W') : W'.ownsMap P k R b n D := by
  obtain ⟨es, clock, h1, h2⟩ := h
  exact ⟨es, clock, heap_below hb h1, h2⟩
theorem ownsRow_put {w : World} {base base' : Nat} {e : TypeId} {size : Nat} {v : Value} {n : Nat} {xs : List Value} (h : w.ownsRow base e size v n xs) {D : Nat} (o : Obj) (hD : D < base) (hb : base' ≤ base) : (w.putObj D o).ownsRow base' e size v n xs := by
  obtain ⟨h1, h2⟩ := h
  refine ⟨h1, ?_⟩
  rcases h2 with h2 | ⟨g, cap, cur, a1, a2, a3, a4⟩
  · exact .inl h2
  · exact .inr ⟨g, cap, cur, a1, Nat.le_trans hb a2, (World.putObj_heap_other (by omega)).trans a3, a4⟩
namespace Wl
/-- A map's keys are numbers. -/
def IntK (D : DataW Empty) : Prop := ∃ es, D = .map es ∧ ∀ p ∈ es, ∃ x, p.1 = .int .i64 x
theorem intK_put {D : DataW Empty} (h : IntK D) (x : Int) (d : DataW Empty) : IntK (D.put (.int .i64 x) d) := by
  obtain ⟨es, rfl, hp⟩ := h
  refine ⟨_, rfl, fun p hp' => ?_⟩
  have := (WideShapes.insert_perm (Lit.int .i64 x, d) _).mem_iff.1 hp'
  rcases List.mem_cons.1 this with rfl | hm
  · exact ⟨x, rfl⟩
  · exact hp p (List.mem_filter.1 hm).1
/-- The map of some numbers. -/
def mapZ (L : List Int) : DataW Empty := L.foldl (fun D x => D.put (.int .i64 x) (.lit (.bool true))) (.map [])
theorem mapZ_snoc (L : List Int) (x : Int) : mapZ (L ++ [x]) = (mapZ L).put (.int .i64 x) (.lit (.bool true)) := by unfold mapZ; rw [List.foldl_append]; rfl
theorem intK_map (L : List Int) : IntK (mapZ L) := by
  have key : ∀ (L : List Int) (D : DataW Empty), IntK D → IntK (L.foldl (fun D x => D.put (.int .i64 x) (.lit (.bool true))) D) := by
    intro L
    induction L with
    | nil => exact fun D h => h
    | cons x l ih => exact fun D h => ih _ (intK_put h _ _)
  exact key L _ ⟨[], rfl, fun p hp => by cases hp⟩
theorem mapZ_set (L : List Int) : mapZ L = setOf (.lit (.bool true)) (L.map fun x => .int .i64 x) := by
  unfold mapZ setOf
  rw [List.foldl_map]
theorem litsZ (L : List Int) : ∀ x ∈ (L.map fun x => Lit.int .i64 x), WideAt.IsKeyLit x := by
  intro x hx
  rw [List.mem_map] at hx
  obtain ⟨f, _, rfl⟩ := hx
  trivial
/-- The sorted keys are the numbers, ascending, each once. -/
theorem keys_asc (L : List Int) : (intKeys (mapZ L)).mergeSort (fun x y => decide (x ≤ y)) = ascOf L := by
  have hR : asc (ascOf L) := asc_ascOf L
  have ht : Tidy (mapZ L) := by rw [mapZ_set]; exact tidy_setOf _ _ (litsZ L)
  obtain ⟨es, he, hk⟩ := intK_map L
  obtain ⟨es2, he2, hp⟩ := ht
  have hes : es2 = es := by rw [he] at he2; injection he2 with h; exact h.symm
  subst hes
  have hnd : (ascOf L).Nodup := hR.imp (fun h => by omega)
  have hhas : ∀ x, x ∈ ascOf L ↔ has (.map es2) (.int .i64 x) = true := by
    intro x
    rw [mem_ascOf, ← he, mapZ_set]
    unfold setOf
    rw [has_fold _ _ _ _ ⟨[], rfl⟩ (litsZ L)]
    have h0 : has (DataW.map ([] : List (Lit × DataW Empty))) (.int .i64 x) = false := rfl
    rw [h0, Bool.false_or, List.any_map, List.any_eq_true]
    constructor
    · rintro h
      exact ⟨x, h, by simp [Lit.sameKey]⟩
    · rintro ⟨f, hf, h⟩
      have : f = x := by simpa [Lit.sameKey] using h
      exact this ▸ hf
  have hperm := perm_intKeys hp hk hnd hhas
  have h1 := mergeSort_of_perm_i hperm
  rw [List.mergeSort_of_pairwise (hR.imp (fun h => by simp only [leI, decide_eq_true_eq]; omega))] at h1
  rw [he]
  exact h1.symm
end Wl
end Go.Proofs.Ytmjcdggmofohcaa
