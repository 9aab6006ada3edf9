/- Sheets: the map of all factors of a direction, laid by a loop over all truths. -/
import Derived.Test.YtgpmnkdagpcffaaShL
import Derived.Maps.OwnIn
import Derived.Test.YtgpmnkdagpcffaaShelf
namespace Go.Proofs.Ytgpmnkdagpcffaa
open Go.RowKit Go.Shelf Go.Maps
attribute [local go_sem] Oper.semAt_some
theorem wpIn_mapUpdate_at {H : Type} {F : Fence} {nF : Nat} {P : Program} (w : World) {o : Oper} {a : Act} {K' : Act → World → Prop} {Q : Exit → Act → World → Prop} (m x v : Operand) (t : TypeId) (hop : o.op = Op.mapUpdate t m x v)
    (k e : TypeId) (K : Keyed P k) (ht : P.underlying t = some (.map k e)) (R : Value → Option (DataW H × List MemPlace)) (b n : Nat) (D : DataW H)
    (hm : a.eval m = .map (some b)) (hown : w.ownsMap P k R b n D) (hn : n < maxLen) (key val : Value) (kl : Lit) (hx : a.eval x = key) (hv : a.eval v = val) (hkey : keyOf P k key = some kl)
    (d : DataW H) (ps : List MemPlace) (hval : R val = some (d, ps))
    (hK : ∀ w', w'.ownsMap P k R b (n + 1) (D.put kl d) → w.grownBy w' (some b) → K' (a.put o.dst undef) w') : o.wpIn F nF P a w K' Q := by
  obtain ⟨w', hrun, r1, r2⟩ := hown.update K ht hn hkey hval
  unfold Oper.wpIn
  refine ⟨by simp [Oper.about, hop], ?_⟩
  rw [Oper.semAt_plain F _ _ (by rw [hop]; intro c hc'; cases hc')]
  simp [execOp, hop, hm, hx, hv, hrun, Result.andThen]
  exact hK w' r1 r2
theorem wf_small {x : Int} (h : -1000000 ≤ x ∧ x ≤ 1000000) : (Lit.int .i64 x).wf = true := by
  exact WalkArith.wf_i64 (by omega)
namespace Sh
/-- The map that reads the factors of a direction. -/
def mapD {H : Type} (way : Int) (L : List FaS) : DataW H := L.foldl (fun D x => D.put (.int .i64 (ofV x.1 way)) (.lit (.bool true))) (.map [])
theorem mapD_snoc {H : Type} (way : Int) (L : List FaS) (x : FaS) : mapD (H := H) way (L ++ [x]) = (mapD way L).put (.int .i64 (ofV x.1 way)) (.lit (.bool true)) := by unfold mapD; rw [List.foldl_append]; rfl
theorem ofV_bd (x : FaS) (way : Int) : -1000000 ≤ ofV x.1 way ∧ ofV x.1 way ≤ 1000000 := by
  obtain ⟨f, h1, h2⟩ := x
  unfold ofV
  dsimp only
  split <;> omega
end Sh
end Go.Proofs.Ytgpmnkdagpcffaa

namespace Go.Proofs.Ytgpmnkdagpcffaa
open Go.RowKit Go.Shelf Go.Maps Go.Sort
attribute [local go_sem] Oper.semAt_some
theorem sorts_any (m : Nat) : AnyZI.SortsIn Try.prog Try.sortedA_ren Fence.wide m :=
  ⟨fun blk off cap ss W hH hblk hsz => callsIn_wide.2 (AnyM.slices_Sort_int Try.sortA blk off cap ss W hH hblk hsz),
   fun p cap W => callsIn_wide.2 (AnyM.slices_Sort_int_none Try.sortA p cap W)⟩
theorem keys_call (mb : Option Nat) (W : World) : Calls Try.prog 66 #[.map mb] W fun e w' => e = .returned (.func (.func 121) #[] #[.pointer (some ⟨W.heap.size, 0, none⟩)]) ∧ w' = W.alloc (.cells #[.map mb] 95) :=
  (callsIn_wide (n := 5)).1 (AnyZI.keys_in Try.keysA Fence.wide 5 trivial rfl mb W)
/-- What a sorted row of a map's keys is. -/
def KeysPost (L : List Int) (w : World) (e : Ending) (w' : World) : Prop := ∃ v : Value, e = .returned v ∧ w'.ownsRow w.heap.size 3 1 v L.length (L.map encZ) ∧ (v = .slice none 0 0 ↔ L = []) ∧ Below w.heap.size w w'
set_option maxHeartbeats 1000000 in
theorem sorted_call {H : Type} (b nn : Nat) (D0 : DataW H) (R : Value → Option (DataW H × List MemPlace)) (w : World) (hown : w.ownsMap Try.prog 3 R b nn D0) (hmax : Maps.size D0 ≤ maxLen) (hbytes : Maps.size D0 * 8 ≤ 140737488355328) :
    Calls Try.prog 65 #[.func (.func 121) #[] #[.pointer (some ⟨w.heap.size, 0, none⟩)]] (w.alloc (.cells #[.map (some b)] 95)) (KeysPost ((intKeys D0).mergeSort (fun x y => decide (x ≤ y))) (w.alloc (.cells #[.map (some b)] 95))) := by
  have hbl := hown.lt
  have hseq : SeqGives Fence.wide 2 Try.prog 121 #[.pointer (some ⟨w.heap.size, 0, none⟩)] encZ (fun ss => ss.Perm (intKeys D0)) (Maps.size D0) (w.alloc (.cells #[.map (some b)] 95)) :=
    AnyZI.keys_gives (ρ := Try.keysA_ren) { Try.keysA with } Fence.wide _ trivial rfl (by omega) w.heap.size b nn D0 _ (by simp) (by simp) (by
      obtain ⟨es, clock, hb, Ft, hs, hD⟩ := hown
      exact ⟨es, clock, (Below.heap_alloc _ _ b hbl).trans hb, Ft, hs, hD⟩)
  have cS := AnyZI.sorted_in Try.sortedA Fence.wide 5 trivial trivial trivial trivial rfl (by omega) (sorts_any _) (enters_of Try.func120 (by kernel_rfl) rfl) 121 #[.pointer (some ⟨w.heap.size, 0, none⟩)] trivial (enters_of Try.func121 (by kernel_rfl) rfl) _ _ hmax hbytes _ hseq
  change CallsIn _ _ Try.prog 65 _ _ _ at cS
  refine ((callsIn_wide (n := 5)).1 cS).mono ?_
  rintro e w' ⟨v, ss, rfl, hS, hrow, hnil, hb⟩
  have hm : ss.mergeSort (fun x y => decide (x ≤ y)) = (intKeys D0).mergeSort (fun x y => decide (x ≤ y)) := by
    refine List.Perm.eq_of_pairwise (le := fun x y : Int => decide (x ≤ y) = true) ?_ (List.pairwise_mergeSort ?_ ?_ _) (List.pairwise_mergeSort ?_ ?_ _) ?_
    · intro a b _ _ h1 h2; simp at h1 h2; omega
    · intro a b c h1 h2; simp at *; omega
    · intro a b; simp; omega
    · intro a b c h1 h2; simp at *; omega
    · intro a b; simp; omega
    · exact ((List.mergeSort_perm _ _).trans hS).trans (List.mergeSort_perm _ _).symm
  refine ⟨v, rfl, ?_, ?_, hb⟩
  · rw [← hm, List.length_mergeSort]; exact hrow
  · rw [hnil, ← hm]
    constructor
    · rintro rfl; simp
    · intro h; have := congrArg List.length h; rw [List.length_mergeSort] at this; exact List.length_eq_zero_iff.1 this
namespace Sh
/-- The factors that a direction can have, sorted. -/
def facL (way : Int) (L : List FaS) : List Int := (intKeys (mapD (H := Empty) way L)).mergeSort (fun x y => decide (x ≤ y))
end Sh
end Go.Proofs.Ytgpmnkdagpcffaa
