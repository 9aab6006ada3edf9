/- A loop over an iterator that may itself be a loop over an iterator: all that a loop's body turns lies between two blocks. No program is named here. -/
import Derived.RangeFuncNested
import Derived.RangeFuncBound
import Derived.RangeFuncCalls
import Derived.RangeFuncLeaves
import Derived.Shelf.Abstract
import Derived.Shelf.RegionOpen
import Derived.WalkKit
import Derived.OwnWalkIn
import Derived.TacticsInMore
import Derived.LoopNIn
import Derived.LoopIn
namespace Go.Proofs.YtkmacpkjobdffaaGreat
open Go.RowKit

/-- All blocks but those from b up to c lie as they lay. -/
structure Apart (b c : Nat) (W W' : World) : Prop where
  os : W'.os = W.os
  tape : W'.tape = W.tape
  output : W'.output = W.output
  size : W.heap.size ≤ W'.heap.size
  block : ∀ k, k < W.heap.size → (k < b ∨ c ≤ k) → W'.heap[k]? = W.heap[k]?
namespace Apart
theorem refl (b c : Nat) (W : World) : Apart b c W W := ⟨rfl, rfl, rfl, Nat.le_refl _, fun _ _ _ => rfl⟩
theorem trans {b c : Nat} {X Y Z : World} (h : Apart b c X Y) (k : Apart b c Y Z) : Apart b c X Z :=
  ⟨k.os.trans h.os, k.tape.trans h.tape, k.output.trans h.output, Nat.le_trans h.size k.size, fun i hi hb => (k.block i (by have := h.size; omega) hb).trans (h.block i hi hb)⟩
theorem of_below {b c : Nat} {W W' : World} (h : Below W.heap.size W W') : Apart b c W W' := ⟨h.os, h.tape, h.output, h.size, fun k hk _ => h.block k hk⟩
theorem below {b c : Nat} {W W' : World} (h : Apart b c W W') (hb : b ≤ W.heap.size) : Below b W W' := ⟨h.os, h.tape, h.output, h.size, fun k hk => h.block k (by omega) (.inl hk)⟩
theorem wider {b c b' c' : Nat} {W W' : World} (h : Apart b c W W') (hb : b' ≤ b) (hc : c ≤ c') : Apart b' c' W W' := ⟨h.os, h.tape, h.output, h.size, fun k hk hh => h.block k hk (by omega)⟩
theorem alloc {b c : Nat} (W : World) (o : Obj) : Apart b c W (W.alloc o) := ⟨rfl, rfl, rfl, by simp, fun k hk _ => Below.heap_alloc W o k hk⟩
theorem drew {b c : Nat} (W : World) : Apart b c W W.drew := ⟨rfl, rfl, rfl, Nat.le_refl _, fun _ _ _ => rfl⟩
theorem setCell {b c : Nat} (W : World) (p : Addr) (h1 : b ≤ p.block) (h2 : p.block < c) (v : Value) : Apart b c W (W.setCell p v) :=
  ⟨rfl, rfl, rfl, by simp [World.setCell], fun k _ hh => Below.heap_setCell W p v k (by omega)⟩
theorem putObj {b c l : Nat} (W : World) (h1 : b ≤ l) (h2 : l < c) (o : Obj) : Apart b c W (W.putObj l o) :=
  ⟨rfl, rfl, rfl, by simp, fun k _ hh => World.putObj_heap_other (by omega)⟩
theorem grown {b c : Nat} {W W' : World} {row : Option Nat} (hg : W.grownBy W' row) (hr : ∀ k, row = some k → b ≤ k ∧ k < c) : Apart b c W W' :=
  ⟨hg.os, hg.tape, hg.output, hg.size, fun k hk hh => hg.block k hk (fun e => by have := hr k e.symm; omega)⟩
theorem keepsFrom {b c : Nat} {W W' : World} (h : Apart b c W W') : KeepsFrom c W W' :=
  ⟨h.size, fun k _ hk ho _ => (h.block k (Array.getElem?_eq_some_iff.1 ho).1 (.inr hk)).trans ho⟩
theorem obj {b c : Nat} {W W' : World} (h : Apart b c W W') {k : Nat} {o : Obj} (ho : W.heap[k]? = some o) (hk : k < b ∨ c ≤ k) : W'.heap[k]? = some o :=
  (h.block k (Array.getElem?_eq_some_iff.1 ho).1 hk).trans ho
end Apart

theorem far_room {F : Fence} (hd : F.depth = none) (k : Nat) : F.room k := fun d h => by rw [hd] at h; cases h
theorem round_depth {F : Fence} (hd : F.depth = none) {m : Nat} (m' : Nat) {P : Program} {l : Nat} {f : FuncId} {tmps : Array Value} {assign body : Code} {w : World} {R : Ending → World → Prop}
    (h : RoundIn F m P l f tmps assign body w R) : RoundIn F m' P l f tmps assign body w R := ⟨h.1, fun c cs _ => h.2 c cs (far_room hd _)⟩

/-- What one round hands back to the iterator. -/
def farYield {α : Type} (n₀ c₀ : Nat) (J Jx : List α → World → Prop) (pre : List α) (x : α) (W : World) : Ending → World → Prop := fun e W' =>
  (e = .returned (.bool true) ∧ J (pre ++ [x]) W' ∧ Apart n₀ c₀ W W') ∨ (e = .returned (.bool false) ∧ Jx (pre ++ [x]) W' ∧ Apart n₀ c₀ W W')

/-- An iterator's contract: whatever a round turns lies from n₀ up to the heap's size where the iterator was called; the caller's invariants abide the turn of any block that is no cells and was laid since then. -/
def SeqFar {α : Type} (P : Program) (g : Nat) (pb lb : Array Value) (encs : α → Array Value) (n₀ : Nat) (S Sp : List α → Prop) (N : Nat) (w : World) : Prop :=
  ∀ (l : Nat) (J Jx : List α → World → Prop) (W : World), Below w.heap.size w W → OwnFrom W.heap.size J → OwnFrom W.heap.size Jx →
    (∀ m pre x W1, J pre W1 → pre.length < N → YieldAt Fence.wide m P l (encs x) W1 (farYield n₀ W.heap.size J Jx pre x W1)) →
    J [] W →
    Calls P g (pb ++ #[.func (.yield l) #[] #[]] ++ lb) W fun e W' => (∃ v, e = .returned v) ∧ ((∃ xs, S xs ∧ J xs W') ∨ (∃ pre, Sp pre ∧ Jx pre W'))

/-- How the body of a loop may be left. -/
def farPost {α : Type} (n₀ c₀ : Nat) (I : List α → World → Prop) (Ix : Code → List α → World → Prop) (xs : List α) (W : World) : Exit → Act → World → Prop
  | .normal, _, W' => Apart n₀ c₀ W W' ∧ I xs W'
  | .ret, _, W' => Apart n₀ c₀ W W' ∧ Ix .ret xs W'
  | .exit id, _, W' => Apart n₀ c₀ W W' ∧ Ix (.exit id) xs W'
  | .goto t, _, W' => Apart n₀ c₀ W W' ∧ Ix (.goto t) xs W'
  | .panic _, _, _ => False
  | .outgrown, _, _ => False

section
variable {P : Program} {n : Nat}
/-- The record of a loop. -/
def farRec (fn : FuncId) (tmps : Array Value) (ps : Array Tmp) (assign body : Code) (d : Nat) (st : LoopState) (pe : Option Code) : Loop :=
  { state := st, pending := pe, fn, tmps, params := ps, assign, body, defers := d }
theorem far_end {fn : FuncId} {tmps : Array Value} {ps : Array Tmp} {assign body : Code} {d l : Nat} {n₀ c₀ : Nat} {W W' : World} (jump : Option Code) (hl : W.heap[l]? = some (.loop (farRec fn tmps ps assign body d .busy none)))
    (h : Apart n₀ c₀ W W') (hc : c₀ ≤ l) :
    (Instr.endRound l jump).run P W' = .ok (.bool jump.isNone) (W'.putObj l (.loop (farRec fn tmps ps assign body d (if jump.isNone then .ready else .done) jump))) ∧ W'.heap[l]? = some (.loop (farRec fn tmps ps assign body d .busy none)) := by
  have hl' := h.obj hl (.inr hc)
  exact ⟨run_endRound (P := P) jump hl', hl'⟩

set_option maxHeartbeats 1000000 in
/-- The law of the loop. -/
theorem wpIn_far {α : Type} {g : Operand} {ps : Array Tmp} {assign body : Code} {Q : Exit → Act → World → Prop} {a : Act} {w : World}
    {gf : Nat} {pb lb : Array Value} (hg : a.eval g = .func (.func gf) pb lb) (eg : ∀ args w, (callFunc gf args).run P w = .ok (.enter gf args) w)
    {encs : α → Array Value} {n₀ : Nat} {S Sp : List α → Prop} {N : Nat} {w0 : World} (hseq : SeqFar P gf pb lb encs n₀ S Sp N w0) (hb0 : Below w0.heap.size w0 w) (hn0 : n₀ ≤ w.heap.size) (hps : ∀ x, (encs x).size = ps.size)
    (I : List α → World → Prop) (Ix : Code → List α → World → Prop) (hI : OwnFrom w.heap.size I) (hIx : ∀ c, OwnFrom w.heap.size (Ix c)) (h0 : I [] w)
    (Ax : α → Act → World → Prop) (hAx : ∀ x a', OwnFrom w.heap.size (fun (_ : Unit) W => Ax x a' W))
    (hassign : ∀ (l : Nat) (pre : List α) (x : α) (W : World) (K : Act → World → Prop), I pre W → (∀ a' W', Apart n₀ w.heap.size W W' → I pre W' → Ax x a' W' → K a' W') →
      assign.wpIn (Fence.wide.inRound l) 8 P (Exit.then K (fun _ _ _ => False)) { tmps := (ps.zip (encs x)).foldl (fun t (p, v) => t.setIfInBounds p v) a.tmps, defers := [] } W)
    (hbody : ∀ (l : Nat) (pre : List α) (x : α) (a' : Act) (W : World), I pre W → Ax x a' W → pre.length < N → body.wpIn (Fence.wide.inRound l) 8 P (farPost n₀ w.heap.size I Ix (pre ++ [x]) W) a' W)
    (hdone : ∀ (D : Nat) (xs : List α) (W : World), w.heap.size ≤ D → S xs → I xs W → W.heap[D]? = some (.deferred (some [])) → Q .normal { a with defers := { target := .collected D, args := #[] } :: a.defers } W)
    (hstop : ∀ (D : Nat) (c : Code) (pre : List α) (W : World), w.heap.size ≤ D → Sp pre → Ix c pre W → W.heap[D]? = some (.deferred (some [])) → c.wpIn Fence.wide n P Q { a with defers := { target := .collected D, args := #[] } :: a.defers } W) :
    (Code.rangeFunc g ps assign body).wpIn Fence.wide n P Q a w := by
  refine wpIn_rangeFunc fun fn hfn => ?_
  have s1 : (w.alloc (.deferred (some []))).heap.size = w.heap.size + 1 := by simp
  obtain ⟨W1, hW1⟩ : ∃ W1, W1 = (w.alloc (.deferred (some []))).alloc (.loop (farRec fn a.tmps ps assign body w.heap.size .ready none)) := ⟨_, rfl⟩
  have sW : W1.heap.size = w.heap.size + 2 := by rw [hW1]; simp
  have r1 : W1.heap[w.heap.size + 1]? = some (.loop (farRec fn a.tmps ps assign body w.heap.size .ready none)) := by
    have := World.alloc_heap_new (w.alloc (.deferred (some []))) (.loop (farRec fn a.tmps ps assign body w.heap.size .ready none))
    rw [s1] at this
    rw [hW1]; exact this
  have d1 : W1.heap[w.heap.size]? = some (.deferred (some [])) := by
    rw [hW1]; exact (Below.heap_alloc _ _ _ (by simp)).trans (World.alloc_heap_new w _)
  have i1 : I [] W1 := by rw [hW1]; exact hI.alloc _ (hI.alloc _ h0)
  have b1 : Below w0.heap.size w0 W1 := by rw [hW1]; exact (hb0.alloc hb0.size _).alloc (by have := hb0.size; simp; omega) _
  refine ⟨w.heap.size + 1, [{ target := .collected w.heap.size, args := #[] }], W1, { target := .fn (.func gf) lb, args := pb ++ #[.func (.yield (w.heap.size + 1)) #[] #[]] }, W1, gf,
    pb ++ #[.func (.yield (w.heap.size + 1)) #[] #[]] ++ lb, W1, ?enter, ?res, fun _ _ => trivial, ?inv, fun h => by simp [Fence.wide] at h, ?calls⟩
  case enter => rw [hW1]; exact run_enterLoop_outer _ _ _ _ _
  case res =>
    simp only [resolve, hg]
    simp [go_sem]
  case inv => simp [invoke, go_sem, eg]
  case calls =>
    have own : ∀ {X Y : World} {row : Option Nat} {k : Nat} {o : Obj}, X.grownBy Y row → (∀ r, row = some r → W1.heap.size ≤ r ∧ ∃ o : Obj, X.heap[r]? = some o ∧ o.isCells = false) → k < W1.heap.size → X.heap[k]? = some o → Y.heap[k]? = some o := by
      intro X Y row k o hgr hr hk ho
      refine (hgr.block k (Array.getElem?_eq_some_iff.1 ho).1 (fun e => ?_)).trans ho
      have := (hr k e.symm).1
      omega
    have low : ∀ {X : World} {row : Option Nat}, (∀ r, row = some r → W1.heap.size ≤ r ∧ ∃ o : Obj, X.heap[r]? = some o ∧ o.isCells = false) → (∀ r, row = some r → w.heap.size ≤ r ∧ ∃ o : Obj, X.heap[r]? = some o ∧ o.isCells = false) :=
      fun h r e => ⟨by have := (h r e).1; omega, (h r e).2⟩
    refine callsIn_wide.2 ((hseq (w.heap.size + 1)
      (fun pre W => I pre W ∧ W.heap[w.heap.size + 1]? = some (.loop (farRec fn a.tmps ps assign body w.heap.size .ready none)) ∧ W.heap[w.heap.size]? = some (.deferred (some [])))
      (fun pre W => ∃ c, Ix c pre W ∧ W.heap[w.heap.size + 1]? = some (.loop (farRec fn a.tmps ps assign body w.heap.size .done (some c))) ∧ W.heap[w.heap.size]? = some (.deferred (some [])))
      W1 b1 ?ownJ ?ownX ?round ⟨i1, r1, d1⟩).mono ?after)
    case ownJ => exact fun s X Y row hs hgr hr => ⟨hI s X Y row hs.1 hgr (low hr), own hgr hr (by omega) hs.2.1, own hgr hr (by omega) hs.2.2⟩
    case ownX =>
      rintro s X Y row ⟨c, hc, hl, hd⟩ hgr hr
      exact ⟨c, hIx c s X Y row hc hgr (low hr), own hgr hr (by omega) hl, own hgr hr (by omega) hd⟩
    case round =>
      rintro m pre x W ⟨hi, hl, hd⟩ hlen
      refine ⟨fn, _, assign, body, run_yield (P := P) (args := encs x) hl (hps x), round_depth rfl m (roundIn_of_wpIn (n := 8) trivial (hassign _ pre x W _ hi ?_))⟩
      intro a' Wa hka hia hax
      have hla := hka.obj hl (.inr (by omega))
      have hda := hka.obj hd (.inr (Nat.le_refl _))
      have hlt := (Array.getElem?_eq_some_iff.1 hla).1
      refine ⟨_, run_beginRound hla rfl, ?_⟩
      have hl2 : (Wa.putObj (w.heap.size + 1) (.loop (farRec fn a.tmps ps assign body w.heap.size .busy none))).heap[w.heap.size + 1]? = some (.loop (farRec fn a.tmps ps assign body w.heap.size .busy none)) := World.putObj_heap_same hlt
      have hd2 : (Wa.putObj (w.heap.size + 1) (.loop (farRec fn a.tmps ps assign body w.heap.size .busy none))).heap[w.heap.size]? = some (.deferred (some [])) := (World.putObj_heap_other (by omega)).trans hda
      have k0 : Apart n₀ W1.heap.size W (Wa.putObj (w.heap.size + 1) (.loop (farRec fn a.tmps ps assign body w.heap.size .busy none))) := (hka.wider (Nat.le_refl _) (by omega)).trans (Apart.putObj _ (by omega) (by omega) _)
      refine wpIn_mono (hbody _ pre x a' _ (hI.putObj _ hia (by omega) hla rfl) ((hAx x a').putObj (s := ()) _ hax (by omega) hla rfl) hlen) ?_
      have fin : ∀ (jump : Option Code) (W3 : World), Apart n₀ w.heap.size (Wa.putObj (w.heap.size + 1) (.loop (farRec fn a.tmps ps assign body w.heap.size .busy none))) W3 →
          (Instr.endRound (w.heap.size + 1) jump).run P W3 = .ok (.bool jump.isNone) (W3.putObj (w.heap.size + 1) (.loop (farRec fn a.tmps ps assign body w.heap.size (if jump.isNone then .ready else .done) jump))) ∧
          W3.heap[w.heap.size + 1]? = some (.loop (farRec fn a.tmps ps assign body w.heap.size .busy none)) ∧
          (W3.putObj (w.heap.size + 1) (.loop (farRec fn a.tmps ps assign body w.heap.size (if jump.isNone then .ready else .done) jump))).heap[w.heap.size + 1]? = some (.loop (farRec fn a.tmps ps assign body w.heap.size (if jump.isNone then .ready else .done) jump)) ∧
          (W3.putObj (w.heap.size + 1) (.loop (farRec fn a.tmps ps assign body w.heap.size (if jump.isNone then .ready else .done) jump))).heap[w.heap.size]? = some (.deferred (some [])) ∧
          Apart n₀ W1.heap.size W (W3.putObj (w.heap.size + 1) (.loop (farRec fn a.tmps ps assign body w.heap.size (if jump.isNone then .ready else .done) jump))) := fun jump W3 hk3 => by
        obtain ⟨e1, e2⟩ := far_end (P := P) jump hl2 hk3 (by omega)
        exact ⟨e1, e2, World.putObj_heap_same (Array.getElem?_eq_some_iff.1 e2).1, (World.putObj_heap_other (by omega)).trans (hk3.obj hd2 (.inr (Nat.le_refl _))), k0.trans ((hk3.wider (Nat.le_refl _) (by omega)).trans (Apart.putObj _ (by omega) (by omega) _))⟩
      rintro e a3 W3 hp
      cases e with
      | normal =>
        obtain ⟨hk3, hi3⟩ := hp
        obtain ⟨e1, e2, e3, e4, e5⟩ := fin none W3 hk3
        exact ⟨_, _, e1, .inl ⟨rfl, ⟨hI.putObj _ hi3 (by omega) e2 rfl, e3, e4⟩, e5⟩⟩
      | ret =>
        obtain ⟨hk3, hi3⟩ := hp
        obtain ⟨e1, e2, e3, e4, e5⟩ := fin (some .ret) W3 hk3
        exact ⟨_, _, e1, .inr ⟨rfl, ⟨.ret, (hIx _).putObj _ hi3 (by omega) e2 rfl, e3, e4⟩, e5⟩⟩
      | exit id =>
        obtain ⟨hk3, hi3⟩ := hp
        obtain ⟨e1, e2, e3, e4, e5⟩ := fin (some (.exit id)) W3 hk3
        exact ⟨_, _, e1, .inr ⟨rfl, ⟨.exit id, (hIx _).putObj _ hi3 (by omega) e2 rfl, e3, e4⟩, e5⟩⟩
      | goto t =>
        obtain ⟨hk3, hi3⟩ := hp
        obtain ⟨e1, e2, e3, e4, e5⟩ := fin (some (.goto t)) W3 hk3
        exact ⟨_, _, e1, .inr ⟨rfl, ⟨.goto t, (hIx _).putObj _ hi3 (by omega) e2 rfl, e3, e4⟩, e5⟩⟩
      | panic ch => exact hp.elim
      | outgrown => exact hp.elim
    case after =>
      rintro e W2 ⟨⟨v, rfl⟩, (⟨xs, hS, hi, hl, hd⟩ | ⟨pre, hSp, c, hi, hl, hd⟩)⟩
      · exact ⟨none, _, run_endLoop (P := P) hl (by simp [farRec]), hdone _ xs _ (Nat.le_refl _) hS (hI.putObj _ hi (by omega) hl rfl) ((World.putObj_heap_other (by omega)).trans hd)⟩
      · exact ⟨some c, _, run_endLoop (P := P) hl (by simp [farRec]), hstop _ c pre _ (Nat.le_refl _) hSp ((hIx c).putObj _ hi (by omega) hl rfl) ((World.putObj_heap_other (by omega)).trans hd)⟩
end
end Go.Proofs.YtkmacpkjobdffaaGreat
