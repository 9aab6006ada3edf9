/- A loop over an iterator that tells something of each value that it yields (a row of numbers that lies in memory): the law of Far with such a fact. No program is named here. -/
import Derived.Test.YtkmacpkjobdffaaGreatFar
import Derived.Test.YtkmacpkjobdffaaGreatLoops
namespace Go.Proofs.YtkmacpkjobdffaaGreat
open Go.RowKit
theorem ownFrom_at {β : Type} {B : Nat} {I : β → World → Prop} (h : OwnFrom B I) {s : β} {W W' : World} (hs : I s W) (hb : Below W.heap.size W W') : I s W' :=
  h s W W' none hs ⟨hb.os, hb.tape, hb.output, hb.size, fun k hk _ => hb.block k hk⟩ (fun r e => by cases e)
theorem ownFrom_le {β : Type} {B B' : Nat} {I : β → World → Prop} (h : OwnFrom B I) (hB : B ≤ B') : OwnFrom B' I := fun s X Y row hs hg hr => h s X Y row hs hg (fun r e => ⟨Nat.le_trans hB (hr r e).1, (hr r e).2⟩)
theorem ownFrom_map {β γ : Type} {B : Nat} {I : γ → World → Prop} (h : OwnFrom B I) (g : β → γ) : OwnFrom B (fun s W => I (g s) W) := fun s X Y row hs hg hr => h (g s) X Y row hs hg hr
theorem ownFrom_size {β : Type} (B m : Nat) : OwnFrom B (fun (_ : β) W => m ≤ W.heap.size) := fun _ _ _ _ hs hg _ => Nat.le_trans hs hg.size
theorem Apart.boxS {b c : Nat} {W W' : World} (h : Apart b c W W') {B : Nat} {t : TypeId} {vs : Array Value} (hv : BoxS W B t vs) (hB : B < b ∨ c ≤ B) : BoxS W' B t vs := h.obj hv hB
theorem Apart.boxed {b c : Nat} {W W' : World} (h : Apart b c W W') {B : Nat} {t : TypeId} {v : Value} (hv : Boxed W B t v) (hB : B < b ∨ c ≤ B) : Boxed W' B t v := h.obj hv hB
/-- An iterator's contract: whatever a round turns lies from n₀ up to the heap's size where the iterator was called; the caller's invariants abide the turn of any block that is no cells and was laid since then. -/
def SeqFarP {α : Type} (P : Program) (Pr : α → World → Prop) (g : Nat) (pb lb : Array Value) (encs : α → Array Value) (n₀ : Nat) (S Sp : List α → Prop) (N : Nat) (w : World) : Prop :=
  ∀ (l : Nat) (J Jx : List α → World → Prop) (W : World), Below w.heap.size w W → OwnFrom W.heap.size J → OwnFrom W.heap.size Jx →
    (∀ m pre x W1, J pre W1 → pre.length < N → Pr x W1 → YieldAt Fence.wide m P l (encs x) W1 (farYield n₀ W.heap.size J Jx pre x W1)) →
    J [] W →
    Calls P g (pb ++ #[.func (.yield l) #[] #[]] ++ lb) W fun e W' => (∃ v, e = .returned v) ∧ ((∃ xs, S xs ∧ J xs W') ∨ (∃ pre, Sp pre ∧ Jx pre W'))

section
variable {P : Program} {n : Nat}
set_option maxHeartbeats 1000000 in
/-- The law of the loop. -/
theorem wpIn_farP {α : Type} {g : Operand} {ps : Array Tmp} {assign body : Code} {Q : Exit → Act → World → Prop} {a : Act} {w : World}
    {gf : Nat} {pb lb : Array Value} (hg : a.eval g = .func (.func gf) pb lb) (eg : ∀ args w, (callFunc gf args).run P w = .ok (.enter gf args) w)
    {encs : α → Array Value} {n₀ : Nat} {Pr : α → World → Prop} {S Sp : List α → Prop} {N : Nat} {w0 : World} (hseq : SeqFarP P Pr gf pb lb encs n₀ S Sp N w0) (hb0 : Below w0.heap.size w0 w) (hn0 : n₀ ≤ w.heap.size) (hps : ∀ x, (encs x).size = ps.size)
    (I : List α → World → Prop) (Ix : Code → List α → World → Prop) (hI : OwnFrom w.heap.size I) (hIx : ∀ c, OwnFrom w.heap.size (Ix c)) (h0 : I [] w)
    (Ax : α → Act → World → Prop) (hAx : ∀ x a', OwnFrom w.heap.size (fun (_ : Unit) W => Ax x a' W))
    (hassign : ∀ (l : Nat) (pre : List α) (x : α) (W : World) (K : Act → World → Prop), I pre W → Pr x W → (∀ a' W', Apart n₀ w.heap.size W W' → I pre W' → Ax x a' W' → K a' W') →
      assign.wpIn (Fence.wide.inRound l) 8 P (Exit.then K (fun _ _ _ => False)) { tmps := (ps.zip (encs x)).foldl (fun t (p, v) => t.setIfInBounds p v) a.tmps, defers := [] } W)
    (hbody : ∀ (l : Nat) (pre : List α) (x : α) (a' : Act) (W : World), I pre W → Ax x a' W → pre.length < N → body.wpIn (Fence.wide.inRound l) 8 P (farPost n₀ w.heap.size I Ix (pre ++ [x]) W) a' W)
    (hdone : ∀ (D : Nat) (xs : List α) (W : World), w.heap.size ≤ D → S xs → I xs W → W.heap[D]? = some (.deferred (some [])) → Q .normal { a with defers := { target := .collected D, args := #[] } :: a.defers } W)
    (hstop : ∀ (D : Nat) (c : Code) (pre : List α) (W : World), w.heap.size ≤ D → Sp pre → Ix c pre W → W.heap[D]? = some (.deferred (some [])) → c.wpIn Fence.wide n P Q { a with defers := { target := .collected D, args := #[] } :: a.defers } W) :
    (Code.rangeFunc g ps assign body).wpIn Fence.wide n P Q a w := by
  refine wpIn_rangeFunc fun fn hfn => ?_
  have s1 : (w.alloc (.deferred (some []))).heap.size = w.heap.size + 1 := by simp
  obtain ⟨W1, hW1⟩ : ∃ W1, W1 = (w.alloc (.deferred (some []))).alloc (.loop (farRec fn a.tmps ps assign body w.heap.size .ready none)) := ⟨_, rfl⟩
  have sW : W1.heap.size = w.heap.size + 2 := by rw [hW1]; simp
  have r1 : W1.heap[w.heap.size + 1]? = some (.loop (farRec fn a.tmps ps assign body w.heap.size .ready none)) := by
    have := World.alloc_heap_new (w.alloc (.deferred (some []))) (.loop (farRec fn a.tmps ps assign body w.heap.size .ready none))
    rw [s1] at this
    rw [hW1]; exact this
  have d1 : W1.heap[w.heap.size]? = some (.deferred (some [])) := by
    rw [hW1]; exact (Below.heap_alloc _ _ _ (by simp)).trans (World.alloc_heap_new w _)
  have i1 : I [] W1 := by rw [hW1]; exact hI.alloc _ (hI.alloc _ h0)
  have b1 : Below w0.heap.size w0 W1 := by rw [hW1]; exact (hb0.alloc hb0.size _).alloc (by have := hb0.size; simp; omega) _
  refine ⟨w.heap.size + 1, [{ target := .collected w.heap.size, args := #[] }], W1, { target := .fn (.func gf) lb, args := pb ++ #[.func (.yield (w.heap.size + 1)) #[] #[]] }, W1, gf,
    pb ++ #[.func (.yield (w.heap.size + 1)) #[] #[]] ++ lb, W1, ?enter, ?res, fun _ _ => trivial, ?inv, fun h => by simp [Fence.wide] at h, ?calls⟩
  case enter => rw [hW1]; exact run_enterLoop_outer _ _ _ _ _
  case res =>
    simp only [resolve, hg]
    simp [go_sem]
  case inv => simp [invoke, go_sem, eg]
  case calls =>
    have own : ∀ {X Y : World} {row : Option Nat} {k : Nat} {o : Obj}, X.grownBy Y row → (∀ r, row = some r → W1.heap.size ≤ r ∧ ∃ o : Obj, X.heap[r]? = some o ∧ o.isCells = false) → k < W1.heap.size → X.heap[k]? = some o → Y.heap[k]? = some o := by
      intro X Y row k o hgr hr hk ho
      refine (hgr.block k (Array.getElem?_eq_some_iff.1 ho).1 (fun e => ?_)).trans ho
      have := (hr k e.symm).1
      omega
    have low : ∀ {X : World} {row : Option Nat}, (∀ r, row = some r → W1.heap.size ≤ r ∧ ∃ o : Obj, X.heap[r]? = some o ∧ o.isCells = false) → (∀ r, row = some r → w.heap.size ≤ r ∧ ∃ o : Obj, X.heap[r]? = some o ∧ o.isCells = false) :=
      fun h r e => ⟨by have := (h r e).1; omega, (h r e).2⟩
    refine callsIn_wide.2 ((hseq (w.heap.size + 1)
      (fun pre W => I pre W ∧ W.heap[w.heap.size + 1]? = some (.loop (farRec fn a.tmps ps assign body w.heap.size .ready none)) ∧ W.heap[w.heap.size]? = some (.deferred (some [])))
      (fun pre W => ∃ c, Ix c pre W ∧ W.heap[w.heap.size + 1]? = some (.loop (farRec fn a.tmps ps assign body w.heap.size .done (some c))) ∧ W.heap[w.heap.size]? = some (.deferred (some [])))
      W1 b1 ?ownJ ?ownX ?round ⟨i1, r1, d1⟩).mono ?after)
    case ownJ => exact fun s X Y row hs hgr hr => ⟨hI s X Y row hs.1 hgr (low hr), own hgr hr (by omega) hs.2.1, own hgr hr (by omega) hs.2.2⟩
    case ownX =>
      rintro s X Y row ⟨c, hc, hl, hd⟩ hgr hr
      exact ⟨c, hIx c s X Y row hc hgr (low hr), own hgr hr (by omega) hl, own hgr hr (by omega) hd⟩
    case round =>
      rintro m pre x W ⟨hi, hl, hd⟩ hlen hpr
      refine ⟨fn, _, assign, body, run_yield (P := P) (args := encs x) hl (hps x), round_depth rfl m (roundIn_of_wpIn (n := 8) trivial (hassign _ pre x W _ hi hpr ?_))⟩
      intro a' Wa hka hia hax
      have hla := hka.obj hl (.inr (by omega))
      have hda := hka.obj hd (.inr (Nat.le_refl _))
      have hlt := (Array.getElem?_eq_some_iff.1 hla).1
      refine ⟨_, run_beginRound hla rfl, ?_⟩
      have hl2 : (Wa.putObj (w.heap.size + 1) (.loop (farRec fn a.tmps ps assign body w.heap.size .busy none))).heap[w.heap.size + 1]? = some (.loop (farRec fn a.tmps ps assign body w.heap.size .busy none)) := World.putObj_heap_same hlt
      have hd2 : (Wa.putObj (w.heap.size + 1) (.loop (farRec fn a.tmps ps assign body w.heap.size .busy none))).heap[w.heap.size]? = some (.deferred (some [])) := (World.putObj_heap_other (by omega)).trans hda
      have k0 : Apart n₀ W1.heap.size W (Wa.putObj (w.heap.size + 1) (.loop (farRec fn a.tmps ps assign body w.heap.size .busy none))) := (hka.wider (Nat.le_refl _) (by omega)).trans (Apart.putObj _ (by omega) (by omega) _)
      refine wpIn_mono (hbody _ pre x a' _ (hI.putObj _ hia (by omega) hla rfl) ((hAx x a').putObj (s := ()) _ hax (by omega) hla rfl) hlen) ?_
      have fin : ∀ (jump : Option Code) (W3 : World), Apart n₀ w.heap.size (Wa.putObj (w.heap.size + 1) (.loop (farRec fn a.tmps ps assign body w.heap.size .busy none))) W3 →
          (Instr.endRound (w.heap.size + 1) jump).run P W3 = .ok (.bool jump.isNone) (W3.putObj (w.heap.size + 1) (.loop (farRec fn a.tmps ps assign body w.heap.size (if jump.isNone then .ready else .done) jump))) ∧
          W3.heap[w.heap.size + 1]? = some (.loop (farRec fn a.tmps ps assign body w.heap.size .busy none)) ∧
          (W3.putObj (w.heap.size + 1) (.loop (farRec fn a.tmps ps assign body w.heap.size (if jump.isNone then .ready else .done) jump))).heap[w.heap.size + 1]? = some (.loop (farRec fn a.tmps ps assign body w.heap.size (if jump.isNone then .ready else .done) jump)) ∧
          (W3.putObj (w.heap.size + 1) (.loop (farRec fn a.tmps ps assign body w.heap.size (if jump.isNone then .ready else .done) jump))).heap[w.heap.size]? = some (.deferred (some [])) ∧
          Apart n₀ W1.heap.size W (W3.putObj (w.heap.size + 1) (.loop (farRec fn a.tmps ps assign body w.heap.size (if jump.isNone then .ready else .done) jump))) := fun jump W3 hk3 => by
        obtain ⟨e1, e2⟩ := far_end (P := P) jump hl2 hk3 (by omega)
        exact ⟨e1, e2, World.putObj_heap_same (Array.getElem?_eq_some_iff.1 e2).1, (World.putObj_heap_other (by omega)).trans (hk3.obj hd2 (.inr (Nat.le_refl _))), k0.trans ((hk3.wider (Nat.le_refl _) (by omega)).trans (Apart.putObj _ (by omega) (by omega) _))⟩
      rintro e a3 W3 hp
      cases e with
      | normal =>
        obtain ⟨hk3, hi3⟩ := hp
        obtain ⟨e1, e2, e3, e4, e5⟩ := fin none W3 hk3
        exact ⟨_, _, e1, .inl ⟨rfl, ⟨hI.putObj _ hi3 (by omega) e2 rfl, e3, e4⟩, e5⟩⟩
      | ret =>
        obtain ⟨hk3, hi3⟩ := hp
        obtain ⟨e1, e2, e3, e4, e5⟩ := fin (some .ret) W3 hk3
        exact ⟨_, _, e1, .inr ⟨rfl, ⟨.ret, (hIx _).putObj _ hi3 (by omega) e2 rfl, e3, e4⟩, e5⟩⟩
      | exit id =>
        obtain ⟨hk3, hi3⟩ := hp
        obtain ⟨e1, e2, e3, e4, e5⟩ := fin (some (.exit id)) W3 hk3
        exact ⟨_, _, e1, .inr ⟨rfl, ⟨.exit id, (hIx _).putObj _ hi3 (by omega) e2 rfl, e3, e4⟩, e5⟩⟩
      | goto t =>
        obtain ⟨hk3, hi3⟩ := hp
        obtain ⟨e1, e2, e3, e4, e5⟩ := fin (some (.goto t)) W3 hk3
        exact ⟨_, _, e1, .inr ⟨rfl, ⟨.goto t, (hIx _).putObj _ hi3 (by omega) e2 rfl, e3, e4⟩, e5⟩⟩
      | panic ch => exact hp.elim
      | outgrown => exact hp.elim
    case after =>
      rintro e W2 ⟨⟨v, rfl⟩, (⟨xs, hS, hi, hl, hd⟩ | ⟨pre, hSp, c, hi, hl, hd⟩)⟩
      · exact ⟨none, _, run_endLoop (P := P) hl (by simp [farRec]), hdone _ xs _ (Nat.le_refl _) hS (hI.putObj _ hi (by omega) hl rfl) ((World.putObj_heap_other (by omega)).trans hd)⟩
      · exact ⟨some c, _, run_endLoop (P := P) hl (by simp [farRec]), hstop _ c pre _ (Nat.le_refl _) hSp ((hIx c).putObj _ hi (by omega) hl rfl) ((World.putObj_heap_other (by omega)).trans hd)⟩
end
end Go.Proofs.YtkmacpkjobdffaaGreat
