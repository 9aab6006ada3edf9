/- Texts of this proof, one behind the other: Loops, Fence, IntsB, Iter, Total. Each says its own conditions. -/
import Derived.Test.YtmjcdggmofohcaaGreatMh01
import Derived.Test.YtmjcdggmofohcaaGreatMh03
import Derived.RangeFuncNested
import Derived.RangeFuncLeaves
import Derived.Shelf.Abstract
import Derived.WalkKit
import Derived.OrdersIn
import Derived.OrdersHeld
import Derived.TacticsIn
import Derived.Laws.OwnMore
import Derived.Sort.LoopGhostIn
import Derived.Sort.CutIn
import Derived.RangeFuncBound
import Derived.RangeFuncCalls
import Derived.Shelf.RegionOpen
import Derived.OwnWalkIn
import Derived.TacticsInMore
import Derived.LoopNIn
import Derived.LoopIn
import Derived.Stop.RegionWithIn
namespace Go.Proofs.YtmjcdggmofohcaaGreat
open Go.RowKit

theorem heap_below {W W' : World} (h : Below W.heap.size W W') {k : Nat} {o : Obj} (hk : W.heap[k]? = some o) : W'.heap[k]? = some o :=
  (h.block k (Array.getElem?_eq_some_iff.1 hk).1).trans hk
theorem keepsFrom_below {W W' : World} (B : Nat) (h : Below W.heap.size W W') : KeepsFrom B W W' := ⟨h.size, fun _ _ _ hk _ => heap_below h hk⟩
theorem boxed_below {W W' : World} {B : Nat} {t : TypeId} {v : Value} (hv : Boxed W B t v) (h : Below W.heap.size W W') : Boxed W' B t v := heap_below h hv
theorem below_of_le {B : Nat} {W W' : World} (h : Below W.heap.size W W') (hB : B ≤ W.heap.size) : Below B W W' := h.mono hB

/-- Block B holds a struct's cells. -/
def BoxS (W : World) (B : Nat) (t : TypeId) (vs : Array Value) : Prop := W.heap[B]? = some (.cells vs t (0, 0))
theorem BoxS.lt {W : World} {B : Nat} {t : TypeId} {vs : Array Value} (h : BoxS W B t vs) : B < W.heap.size := (Array.getElem?_eq_some_iff.1 h).1
theorem BoxS.cell {W : World} {B : Nat} {t : TypeId} {vs : Array Value} (h : BoxS W B t vs) (i : Nat) {v : Value} (hi : vs[i]? = some v) : W.cell? ⟨B, i, none⟩ = some v := by simp [World.cell?, show W.heap[B]? = _ from h, hi]
theorem BoxS.frozen {W : World} {B : Nat} {t : TypeId} {vs : Array Value} (h : BoxS W B t vs) (i : Nat) : W.frozen? ⟨B, i, none⟩ = false := by simp [World.frozen?, show W.heap[B]? = _ from h]
theorem boxS4 {W : World} {B : Nat} {t : TypeId} {a b c d : Value} (h : BoxS W B t #[a, b, c, d]) : W.cell? ⟨B, 0, none⟩ = some a ∧ W.cell? ⟨B, 1, none⟩ = some b ∧ W.cell? ⟨B, 2, none⟩ = some c ∧ W.cell? ⟨B, 3, none⟩ = some d := ⟨h.cell 0 rfl, h.cell 1 rfl, h.cell 2 rfl, h.cell 3 rfl⟩
theorem boxS2 {W : World} {B : Nat} {t : TypeId} {a b : Value} (h : BoxS W B t #[a, b]) : W.cell? ⟨B, 0, none⟩ = some a ∧ W.cell? ⟨B, 1, none⟩ = some b := ⟨h.cell 0 rfl, h.cell 1 rfl⟩
theorem BoxS.new (W : World) (t : TypeId) (vs : Array Value) : BoxS (W.alloc (.cells vs t)) W.heap.size t vs := World.alloc_heap_new W _
theorem BoxS.kept {W W' : World} {row : Option Nat} {B : Nat} {t : TypeId} {vs : Array Value} (h : BoxS W B t vs) (hg : W.grownBy W' row) (hne : some B ≠ row) : BoxS W' B t vs := (hg.block B h.lt hne).trans h
theorem BoxS.alloc {W : World} {B : Nat} {t : TypeId} {vs : Array Value} (h : BoxS W B t vs) (o : Obj) : BoxS (W.alloc o) B t vs := h.kept (World.grownBy_alloc W o none) (by simp)
theorem BoxS.below {W W' : World} {B : Nat} {t : TypeId} {vs : Array Value} (hv : BoxS W B t vs) (h : Below W.heap.size W W') : BoxS W' B t vs := heap_below h hv
theorem BoxS.drew {W : World} {B : Nat} {t : TypeId} {vs : Array Value} (h : BoxS W B t vs) : BoxS W.drew B t vs := h
theorem BoxS.other {W : World} {B B' : Nat} {t : TypeId} {vs : Array Value} (h : BoxS W B t vs) (hne : B ≠ B') (u : Value) : BoxS (W.setCell ⟨B', 0, none⟩ u) B t vs := h.kept (grownBy_setCell' W B' u) (fun e => hne (by cases e; rfl))
theorem boxS_own {β : Type} (B : Nat) (t : TypeId) (f : β → Array Value) : Own (fun s W => BoxS W B t (f s)) := fun s X Y row hs hg hrow =>
  hs.kept hg (fun e' => by obtain ⟨o, ho, hc⟩ := hrow B e'.symm; rw [show X.heap[B]? = _ from hs] at ho; cases ho; cases hc)
theorem boxed_drew {W : World} {B : Nat} {t : TypeId} {v : Value} (h : Boxed W B t v) : Boxed W.drew B t v := h
end Go.Proofs.YtmjcdggmofohcaaGreat
namespace Go.Proofs.YtmjcdggmofohcaaGreat

section
variable {F : Fence} {n : Nat} {P : Program} {ops : Array Oper} {Q : Exit → Act → World → Prop} {md : Region.Mode} {S : World → Prop} {c : Nat}

/-- It yields in every world that keeps S, and is about to make no call. -/
def YieldsSoIn (F : Fence) (P : Program) (ops : Array Oper) (S : World → Prop) (o : Oper) (v : Value) (a : Act) : Prop :=
  (YieldsIf P ops S o v a ∨ (Region.wanted o (yielded ops a.tmps) = true ∧ ∃ f args, (∀ w, S w → (execOp a.eval o).run P w = .ok (.enter f args) w) ∧ F.depth.isSome = false ∧ ∀ m w, S w → CallsIn F m P f args w fun e w' => e = .returned v ∧ w' = w)) ∧
  ∀ w f, o.about P w a.eval = some f → F.fn f

theorem yieldsSoIn_of {o : Oper} {v : Value} {a : Act} (hw : Region.wanted o (yielded ops a.tmps) = true) (hv : ∀ w, S w → (execOp a.eval o).run P w = .ok (.value v) w) (hb : ∀ w, o.about P w a.eval = none) : YieldsSoIn F P ops S o v a :=
  ⟨.inl (.inl ⟨hw, hv⟩), fun w f h => by rw [hb w] at h; cases h⟩
/-- What its guard leaves out. -/
theorem yieldsSoIn_skip {o : Oper} {a : Act} (hw : Region.wanted o (yielded ops a.tmps) = false) (hF : ∀ f, F.fn f) : YieldsSoIn F P ops S o undef a :=
  ⟨.inl (.inr ⟨hw, rfl⟩), fun _ f _ => hF f⟩
/-- A call that leaves the world as it is. -/
theorem yieldsSoIn_call {o : Oper} {v : Value} {a : Act} {f : FuncId} {args : Array Value} (hw : Region.wanted o (yielded ops a.tmps) = true) (hr : ∀ w, S w → (execOp a.eval o).run P w = .ok (.enter f args) w) (hd : F.depth.isSome = false) (hF : ∀ f, F.fn f)
    (hc : ∀ m w, S w → CallsIn F m P f args w fun e w' => e = .returned v ∧ w' = w) : YieldsSoIn F P ops S o v a :=
  ⟨.inr ⟨hw, f, args, hr, hd, hc⟩, fun _ f _ => hF f⟩

/-- No operation of the region is a defer statement: each is carried out in a round as anywhere. -/
def noDefer (ops : Array Oper) : Bool := ops.all fun o => match o.op with | .defer .. => false | _ => true
def Plain (F : Fence) (ops : Array Oper) : Prop := ∀ (j : Nat) (o : Oper), ops[j]? = some o → ∀ ρ, o.semAt F.round ρ = execOp ρ o
theorem plain_none (hro : F.round = none) : Plain F ops := fun _ o _ ρ => by rw [hro]; rfl
theorem plain_of (h : noDefer ops = true) : Plain F ops := fun j o ho ρ => by
  cases hr : F.round with
  | none => rfl
  | some l =>
    refine Oper.semAt_some l ρ o (fun cc heq => ?_)
    have := Array.all_eq_true_iff_forall_mem.1 h o (Array.mem_of_getElem? ho)
    simp [heq] at this

theorem YieldsSoIn.op {i : Nat} {o : Oper} {v : Value} {a : Act} (hpl : Plain F ops) (hi : ops[i]? = some o) (hy : YieldsSoIn F P ops S o v a)
    {K : Act → World → Prop} {w : World} (hS : S w) (h : K (a.put o.dst v) w) : wpOpIn F n P ops Q i K a w := by
  unfold Go.wpOpIn
  simp only [hi]
  have hab : ∀ f, o.about P w a.eval = some f → F.fn f := fun f hf => hy.2 w f hf
  rcases hy.1 with (⟨hw, hv⟩ | ⟨hw, rfl⟩) | ⟨hw, f, args, hr, hd, hc⟩
  · simp only [hw, if_true, Oper.wpIn, hpl _ _ hi, hv w hS, Oper.uponIn]; exact ⟨hab, h⟩
  · simp only [hw, Bool.false_eq_true, if_false]; exact ⟨hab, h⟩
  · simp only [hw, if_true, Oper.wpIn, hpl _ _ hi, hr w hS, Oper.uponIn]
    refine ⟨hab, fun hh => (by rw [hd] at hh; cases hh), (hc _ w hS).mono ?_⟩
    rintro e w' ⟨rfl, rfl⟩
    exact h

theorem YieldsSoIn.of_same {o : Oper} {v : Value} {a a' : Act} (hy : YieldsSoIn F P ops S o v a) (he : execOp a'.eval o = execOp a.eval o)
    (hw : Region.wanted o (yielded ops a'.tmps) = Region.wanted o (yielded ops a.tmps)) (hb : ∀ w, o.about P w a'.eval = o.about P w a.eval) : YieldsSoIn F P ops S o v a' :=
  ⟨hy.1.imp (fun h => h.of_same he hw) (fun ⟨h1, f, args, h2, h3⟩ => ⟨by rw [hw]; exact h1, f, args, fun w hS => by rw [he]; exact h2 w hS, h3⟩), fun w f h => hy.2 w f (by rw [← hb w]; exact h)⟩

theorem wpOpIn_putSo {j : Nat} {oi oj : Oper} {v : Value} (hpl : Plain F ops) (hj : ops[j]? = some oj) (hap : oi.apart ops oj = true)
    (hsi : ∀ cs b, oi.op ≠ .select cs b) (hsj : ∀ cs b, oj.op ≠ .select cs b)
    (hQ : ∀ c a w, Q (.panic c) (a.put oi.dst v) w → Q (.panic c) a w) {K : Act → World → Prop} {a : Act} {w : World}
    (hy : YieldsSoIn F P ops S oi v a) (h : wpOpIn F n P ops Q j K (a.put oi.dst v) w) :
    wpOpIn F n P ops Q j (fun a' w' => YieldsSoIn F P ops S oi v a' ∧ K (a'.put oi.dst v) w') a w := by
  obtain ⟨h1, h2, h3⟩ := Oper.apart_spec hap
  have hplj := hpl _ _ hj
  have keep : ∀ (a : Act), YieldsSoIn F P ops S oi v a → ∀ u, YieldsSoIn F P ops S oi v (a.put oj.dst u) := fun a hy u =>
    hy.of_same (execOp_put oi hsi a oj.dst u h3) (wanted_put oi a oj.dst u h3) (fun w => about_put oi w a oj.dst u h3)
  have keepD : ∀ d, YieldsSoIn F P ops S oi v { a with defers := d :: a.defers } := fun d => hy.of_same rfl rfl (fun _ => rfl)
  unfold wpOpIn at *
  simp only [hj] at *
  rw [wanted_put oj a oi.dst v h1, about_put oj w a oi.dst v h1] at h
  split
  · rename_i hw
    simp only [hw, if_true] at h
    unfold Oper.wpIn at *
    rw [about_put oj w a oi.dst v h1] at h
    refine ⟨h.1, ?_⟩
    have h := h.2
    rw [hplj, execOp_put oj hsj a oi.dst v h1] at h
    rw [hplj]
    generalize (execOp a.eval oj).run P w = r at *
    cases r with
    | ok x w' =>
      cases x <;> simp only [Oper.uponIn] at h ⊢
      case value u => exact ⟨keep a hy u, by rw [← Act.put_comm a v u h2]; exact h⟩
      case skip => exact ⟨keep a hy _, by rw [← Act.put_comm a v undef h2]; exact h⟩
      case defer d =>
        refine ⟨keep _ (keepD d) _, ?_⟩
        rw [← Act.put_comm _ v undef h2, ← Act.put_defers]
        exact h
      case enter f args =>
        refine ⟨h.1, CallsIn.mono h.2 fun e w'' he => ?_⟩
        cases e with
        | returned u => exact ⟨keep a hy u, by rw [← Act.put_comm a v u h2]; exact he⟩
        | panicked c => exact hQ _ _ _ he
        | outgrown => exact he
      case row row args => exact ⟨h.1, RowsIn.mono h.2 fun u w'' he => ⟨keep a hy u, by rw [← Act.put_comm a v u h2]; exact he⟩⟩
      case round l f tmps assign body =>
        refine ⟨h.1, RoundIn.mono h.2 fun e w'' he => ?_⟩
        cases e with
        | returned u => exact ⟨keep a hy u, by rw [← Act.put_comm a v u h2]; exact he⟩
        | panicked c => exact hQ _ _ _ he
        | outgrown => exact he
    | halt x w' =>
      cases x <;> simp only [Oper.uponIn] at h ⊢
      case panic u => exact hQ _ _ _ h
  · rename_i hw
    simp only [hw] at h
    exact ⟨h.1, keep a hy _, by rw [← Act.put_comm a v undef h2]; exact h.2⟩

/-- Whatever order is picked from here on; S holds behind each operation that is carried out, but for number c, behind which nothing is asked of the world. -/
def wpHeldIn (F : Fence) (n : Nat) (P : Program) (md : Region.Mode) (ops : Array Oper) (Q : Exit → Act → World → Prop) (S : World → Prop) (c : Nat) : Nat → Array Bool → Act → World → Prop
  | 0, listed, a, w => Region.ready md ops listed = [] ∧ Q .normal a w
  | fuel + 1, listed, a, w =>
    (Region.ready md ops listed = [] → Q .normal a w) ∧
    ∀ i ∈ Region.ready md ops listed, if i = c then wpOpIn F n P ops Q i (wpAnyIn F n P md ops Q fuel (listed.setIfInBounds i true)) a w
      else wpOpIn F n P ops Q i (fun a' w' => S w' ∧ wpHeldIn F n P md ops Q S c fuel (listed.setIfInBounds i true) a' w') a w

theorem wpAnyIn_of_held : ∀ (fuel : Nat) (listed : Array Bool) (a : Act) (w : World), wpHeldIn F n P md ops Q S c fuel listed a w → wpAnyIn F n P md ops Q fuel listed a w
  | 0, _, _, _, h => h
  | fuel + 1, _, _, _, h => ⟨h.1, fun i hi => by
      have := h.2 i hi
      split at this
      · exact this
      · exact wpOpIn_mono (fun a' w' h' => wpAnyIn_of_held fuel _ a' w' h'.2) this⟩

/-- What must have come up before number c: what it waits for, and what that waits for. -/
def ahead (md : Region.Mode) (ops : Array Oper) : Nat → Nat → List Nat
  | 0, _ => []
  | f + 1, c => match ops[c]? with
    | none => []
    | some o => (o.after.toList.filter (Region.binds md)).flatMap fun e => e.on :: ahead md ops f e.on
def needs (md : Region.Mode) (ops : Array Oper) (c i : Nat) : Bool := (ops[c]?).isNone || (ahead md ops ops.size c).contains i
/-- What has come up did not come up before what it waits for. -/
def Reached (md : Region.Mode) (ops : Array Oper) (listed : Array Bool) : Prop := ∀ (k : Nat) (o : Oper), ops[k]? = some o → listed.getD k false = true → ∀ e ∈ o.after, Region.binds md e = true → listed.getD e.on false = true
def reachedB (md : Region.Mode) (ops : Array Oper) (listed : Array Bool) : Bool := (List.range ops.size).all fun k => !listed.getD k false || match ops[k]? with
  | none => true
  | some o => o.after.all fun e => !Region.binds md e || listed.getD e.on false
theorem reached_of {listed : Array Bool} (h : reachedB md ops listed = true) : Reached md ops listed := by
  intro k o ho hk e he hb
  unfold reachedB at h
  rw [List.all_eq_true] at h
  have h1 := h k (List.mem_range.2 (Array.getElem?_eq_some_iff.1 ho).1)
  simp only [ho, hk, Bool.not_true, Bool.false_or] at h1
  have h2 := Array.all_eq_true_iff_forall_mem.1 h1 e he
  simpa [hb] using h2
theorem Reached.step {listed : Array Bool} (h : Reached md ops listed) {j : Nat} (hj : j ∈ Region.ready md ops listed) : Reached md ops (listed.setIfInBounds j true) := by
  intro k o ho hk e he hb
  by_cases hjk : j = k
  · subst hjk
    obtain ⟨_, oj, hoj, hall⟩ := mem_ready.1 hj
    rw [ho] at hoj
    cases hoj
    exact getD_set_true (hall e he hb)
  · rw [getD_set_ne false hjk] at hk
    exact getD_set_true (h k o ho hk e he hb)
theorem ahead_listed {listed : Array Bool} (h : Reached md ops listed) : ∀ (f c : Nat) (o : Oper), ops[c]? = some o → (∀ e ∈ o.after, Region.binds md e = true → listed.getD e.on false = true) → ∀ i ∈ ahead md ops f c, listed.getD i false = true := by
  intro f
  induction f with
  | zero => intro c o _ _ i hi; simp [ahead] at hi
  | succ f ih =>
    intro c o ho hall i hi
    simp only [ahead, ho, List.mem_flatMap, List.mem_filter, Array.mem_toList_iff] at hi
    obtain ⟨e, ⟨he, hb⟩, hi⟩ := hi
    rcases List.mem_cons.1 hi with rfl | hi
    · exact hall e he hb
    · cases hoe : ops[e.on]? with
      | none => cases f <;> simp [ahead, hoe] at hi
      | some oe => exact ih e.on oe hoe (fun e' he' hb' => h e.on oe hoe (hall e he hb) e' he' hb') i hi
theorem not_before {listed : Array Bool} (h : Reached md ops listed) {i : Nat} (hn : needs md ops c i = true) (hi : listed.getD i true = false) : c ∉ Region.ready md ops listed := by
  intro hc
  obtain ⟨_, o, ho, hall⟩ := mem_ready.1 hc
  unfold needs at hn
  simp only [ho, Option.isNone_some, Bool.false_or] at hn
  have h1 := ahead_listed h _ c o ho hall i (by simpa using hn)
  rcases Nat.lt_or_ge i listed.size with h' | h'
  · simp [h'] at h1 hi; rw [hi] at h1; cases h1
  · simp [Array.getElem?_eq_none h'] at h1

theorem wpHeldIn_first {i : Nat} {oi : Oper} {v : Value} (hpl : Plain F ops) (hi : ops[i]? = some oi) (hsel : ∀ (j : Nat) (o : Oper) cs b, ops[j]? = some o → o.op ≠ .select cs b)
    (hQ : ∀ c a w, Q (.panic c) (a.put oi.dst v) w → Q (.panic c) a w) (hn : needs md ops c i = true) :
    ∀ (fuel : Nat) (listed : Array Bool) (a : Act) (w : World), Reached md ops listed →
      (∀ j oj, ops[j]? = some oj → j ≠ i → listed.getD j true = false → (∀ e ∈ oj.after, Region.binds md e = true → e.on ≠ i) → oi.apart ops oj = true) →
      i ∈ Region.ready md ops listed → YieldsSoIn F P ops S oi v a → S w →
      wpHeldIn F n P md ops Q S c fuel (listed.setIfInBounds i true) (a.put oi.dst v) w → wpHeldIn F n P md ops Q S c (fuel + 1) listed a w := by
  intro fuel
  induction fuel with
  | zero =>
    intro listed a w hR _ hr hy hS H
    refine ⟨fun h => (by rw [h] at hr; cases hr), fun j hj => ?_⟩
    have hjc : ¬ j = c := fun e => not_before hR hn (mem_ready.1 hr).1 (e ▸ hj)
    rw [if_neg hjc]
    by_cases hji : j = i
    · subst hji; exact hy.op hpl hi hS ⟨hS, H⟩
    · have := ready_mono hj hji
      rw [H.1] at this
      cases this
  | succ fuel ih =>
    intro listed a w hR hfree hr hy hS H
    refine ⟨fun h => (by rw [h] at hr; cases hr), fun j hj => ?_⟩
    have hjc : ¬ j = c := fun e => not_before hR hn (mem_ready.1 hr).1 (e ▸ hj)
    rw [if_neg hjc]
    by_cases hji : j = i
    · subst hji; exact hy.op hpl hi hS ⟨hS, H⟩
    · have h1 := H.2 j (ready_mono hj hji)
      rw [if_neg hjc] at h1
      obtain ⟨hjun, oj, hoj, hall⟩ := mem_ready.1 hj
      have hnot : ∀ e ∈ oj.after, Region.binds md e = true → e.on ≠ i := fun e he hb heq => by
        have h1 := hall e he hb
        have h0 := (mem_ready.1 hr).1
        rw [heq] at h1
        rcases Nat.lt_or_ge i listed.size with h' | h'
        · simp [h'] at h0 h1; rw [h0] at h1; cases h1
        · simp [Array.getElem?_eq_none h'] at h1
      have h2 := wpOpIn_putSo hpl hoj (hfree j oj hoj hji hjun hnot) (fun cs b => hsel i oi cs b hi) (fun cs b => hsel j oj cs b hoj) hQ hy h1
      have hfree' : ∀ k ok, ops[k]? = some ok → k ≠ i → (listed.setIfInBounds j true).getD k true = false →
          (∀ e ∈ ok.after, Region.binds md e = true → e.on ≠ i) → oi.apart ops ok = true := fun k ok hk hki hun hno => by
        refine hfree k ok hk hki ?_ hno
        by_cases hjk : j = k
        · subst hjk; exact hjun
        · rw [getD_set_ne true hjk] at hun; exact hun
      refine wpOpIn_mono (fun a' w' h3 => ⟨h3.2.1, ih (listed.setIfInBounds j true) a' w' (hR.step hj) hfree' (ready_mono hr (Ne.symm hji)) h3.1 h3.2.1 ?_⟩) h2
      rw [Array.setIfInBounds_comm _ _ hji]
      exact h3.2.2

/-- The side conditions of a take, all of them closed facts of the text. -/
def mayTake (md : Region.Mode) (ops : Array Oper) (c : Nat) (listed : Array Bool) (i : Nat) : Bool :=
  Region.noSelect ops && (Region.free md ops listed i && ((Region.ready md ops listed).contains i && (needs md ops c i && reachedB md ops listed)))

/-- Take number i first. -/
theorem wpHeldIn_take {i : Nat} {oi : Oper} {v : Value} {fuel : Nat} {listed : Array Bool} {a : Act} {w : World} (hpl : Plain F ops) (hi : ops[i]? = some oi)
    (hm : mayTake md ops c listed i = true)
    (hQ : ∀ c a w, Q (.panic c) (a.put oi.dst v) w → Q (.panic c) a w) (hy : YieldsSoIn F P ops S oi v a) (hS : S w)
    (h : wpHeldIn F n P md ops Q S c fuel (listed.setIfInBounds i true) (a.put oi.dst v) w) : wpHeldIn F n P md ops Q S c (fuel + 1) listed a w := by
  unfold mayTake at hm
  simp only [Bool.and_eq_true] at hm
  obtain ⟨hs, hf, hr, hn, hR⟩ := hm
  exact wpHeldIn_first hpl hi (Region.noSelect_spec hs) hQ hn fuel listed a w (reached_of hR) (Region.free_spec hi hf) (by simpa using hr) hy hS h

/-- What its guard leaves out, of a slot that holds nothing: the frame is as it was. -/
theorem wpHeldIn_skip {i : Nat} {oi : Oper} {fuel : Nat} {listed : Array Bool} {a : Act} {w : World} (hpl : Plain F ops) (hi : ops[i]? = some oi)
    (hm : mayTake md ops c listed i = true) (hw : Region.wanted oi (yielded ops a.tmps) = false) (hF : ∀ f, F.fn f) (hu : a.put oi.dst undef = a)
    (hQ : ∀ c a w, Q (.panic c) (a.put oi.dst undef) w → Q (.panic c) a w) (hS : S w)
    (h : wpHeldIn F n P md ops Q S c fuel (listed.setIfInBounds i true) a w) : wpHeldIn F n P md ops Q S c (fuel + 1) listed a w :=
  wpHeldIn_take hpl hi hm hQ (yieldsSoIn_skip hw hF) hS (by rw [hu]; exact h)

/-- One alone may come up. -/
theorem wpHeldIn_one {i : Nat} {o : Oper} {fuel : Nat} {listed : Array Bool} {a : Act} {w : World} (hr : Region.ready md ops listed = [i]) (hic : (i == c) = false) (ho : ops[i]? = some o)
    (hw : Region.wanted o (yielded ops a.tmps) = true)
    (h : ∀ K' : Act → World → Prop, (∀ a w, S w → wpHeldIn F n P md ops Q S c fuel (listed.setIfInBounds i true) a w → K' a w) → Oper.wpIn F n P o a w K' Q) : wpHeldIn F n P md ops Q S c (fuel + 1) listed a w :=
  ⟨fun h0 => (by rw [hr] at h0; cases h0), by
    rw [hr]
    intro j hj
    obtain rfl : j = i := by simpa using hj
    rw [if_neg (by simpa using hic)]
    unfold wpOpIn
    rw [ho]
    simp only [hw, if_true]
    exact h _ (fun a w h1 h2 => ⟨h1, h2⟩)⟩

/-- Two may come up. -/
theorem wpHeldIn_two {i j : Nat} {oi oj : Oper} {fuel : Nat} {listed : Array Bool} {a : Act} {w : World} (hr : Region.ready md ops listed = [i, j]) (hic : (i == c) = false) (hjc : (j == c) = false) (hoi : ops[i]? = some oi) (hoj : ops[j]? = some oj)
    (hwi : Region.wanted oi (yielded ops a.tmps) = true) (hwj : Region.wanted oj (yielded ops a.tmps) = true)
    (h1 : ∀ K' : Act → World → Prop, (∀ a w, S w → wpHeldIn F n P md ops Q S c fuel (listed.setIfInBounds i true) a w → K' a w) → Oper.wpIn F n P oi a w K' Q)
    (h2 : ∀ K' : Act → World → Prop, (∀ a w, S w → wpHeldIn F n P md ops Q S c fuel (listed.setIfInBounds j true) a w → K' a w) → Oper.wpIn F n P oj a w K' Q) : wpHeldIn F n P md ops Q S c (fuel + 1) listed a w :=
  ⟨fun h0 => (by rw [hr] at h0; cases h0), by
    rw [hr]
    intro k hk
    have hk' : k = i ∨ k = j := by simpa using hk
    rcases hk' with rfl | rfl
    · rw [if_neg (by simpa using hic)]
      unfold wpOpIn
      rw [hoi]
      simp only [hwi, if_true]
      exact h1 _ (fun a w h1 h2 => ⟨h1, h2⟩)
    · rw [if_neg (by simpa using hjc)]
      unfold wpOpIn
      rw [hoj]
      simp only [hwj, if_true]
      exact h2 _ (fun a w h1 h2 => ⟨h1, h2⟩)⟩

/-- Number c comes up, alone: behind it nothing is held any more. -/
theorem wpHeldIn_last {o : Oper} {fuel : Nat} {listed : Array Bool} {a : Act} {w : World} (hr : Region.ready md ops listed = [c]) (ho : ops[c]? = some o)
    (hw : Region.wanted o (yielded ops a.tmps) = true)
    (h : ∀ K' : Act → World → Prop, (∀ a w, wpHeldIn F n P md ops Q (fun _ => True) ops.size fuel (listed.setIfInBounds c true) a w → K' a w) → Oper.wpIn F n P o a w K' Q) : wpHeldIn F n P md ops Q S c (fuel + 1) listed a w :=
  ⟨fun h0 => (by rw [hr] at h0; cases h0), by
    rw [hr]
    intro j hj
    obtain rfl : j = c := by simpa using hj
    rw [if_pos rfl]
    unfold wpOpIn
    rw [ho]
    simp only [hw, if_true]
    exact h _ (fun a w h1 => wpAnyIn_of_held _ _ _ _ h1)⟩

theorem wpHeldIn_done {listed : Array Bool} {a : Act} {w : World} (hr : Region.ready md ops listed = []) (h : Q .normal a w) :
    ∀ fuel, wpHeldIn F n P md ops Q S c fuel listed a w
  | 0 => ⟨hr, h⟩
  | _ + 1 => ⟨fun _ => h, by rw [hr]; simp⟩

/-- The beginning: a region that draws its order, behind the draw. -/
theorem wpIn_region_held {id : Nat} {a : Act} {w : World} (S : World → Prop) (c : Nat) (hm : P.follows .mixedOrders = true)
    (h : wpHeldIn F n P .any ops Q S c ops.size (Array.replicate ops.size false) a w.drew) : (Code.region id ops true).wpIn F n P Q a w :=
  wpIn_region_any hm (wpAnyIn_of_held _ _ _ _ h)

end
end Go.Proofs.YtmjcdggmofohcaaGreat

namespace Go.Proofs.YtmjcdggmofohcaaGreat

section
variable {F : Fence} {n : Nat} {P : Program} {ops : Array Oper} {Q : Exit → Act → World → Prop} {md : Region.Mode} {S : World → Prop} {c : Nat}
/-- Three may come up. -/
theorem wpHeldIn_three {i j k : Nat} {oi oj ok : Oper} {fuel : Nat} {listed : Array Bool} {a : Act} {w : World} (hr : Region.ready md ops listed = [i, j, k]) (hic : (i == c) = false) (hjc : (j == c) = false) (hkc : (k == c) = false) (hoi : ops[i]? = some oi) (hoj : ops[j]? = some oj) (hok : ops[k]? = some ok)
    (hwi : Region.wanted oi (yielded ops a.tmps) = true) (hwj : Region.wanted oj (yielded ops a.tmps) = true) (hwk : Region.wanted ok (yielded ops a.tmps) = true)
    (h1 : ∀ K' : Act → World → Prop, (∀ a w, S w → wpHeldIn F n P md ops Q S c fuel (listed.setIfInBounds i true) a w → K' a w) → Oper.wpIn F n P oi a w K' Q)
    (h2 : ∀ K' : Act → World → Prop, (∀ a w, S w → wpHeldIn F n P md ops Q S c fuel (listed.setIfInBounds j true) a w → K' a w) → Oper.wpIn F n P oj a w K' Q)
    (h3 : ∀ K' : Act → World → Prop, (∀ a w, S w → wpHeldIn F n P md ops Q S c fuel (listed.setIfInBounds k true) a w → K' a w) → Oper.wpIn F n P ok a w K' Q) : wpHeldIn F n P md ops Q S c (fuel + 1) listed a w :=
  ⟨fun h0 => (by rw [hr] at h0; cases h0), by
    rw [hr]
    intro m hm
    have hm' : m = i ∨ m = j ∨ m = k := by simpa using hm
    rcases hm' with rfl | rfl | rfl
    · rw [if_neg (by simpa using hic)]
      unfold wpOpIn
      rw [hoi]
      simp only [hwi, if_true]
      exact h1 _ (fun a w h1 h2 => ⟨h1, h2⟩)
    · rw [if_neg (by simpa using hjc)]
      unfold wpOpIn
      rw [hoj]
      simp only [hwj, if_true]
      exact h2 _ (fun a w h1 h2 => ⟨h1, h2⟩)
    · rw [if_neg (by simpa using hkc)]
      unfold wpOpIn
      rw [hok]
      simp only [hwk, if_true]
      exact h3 _ (fun a w h1 h2 => ⟨h1, h2⟩)⟩

end
end Go.Proofs.YtmjcdggmofohcaaGreat
namespace Go.Proofs.YtmjcdggmofohcaaGreat
open Go.RowKit
/-- A slice of numbers reads as a list. -/
def Ints (w : World) (B : Nat) (v : Value) (xs : List Int) : Prop :=
  (v = .slice none 0 0 ∧ xs = []) ∨ ∃ b off cap, v = .slice (some ⟨b, off, none⟩) xs.length cap ∧ b < B ∧ ∀ (k : Nat) (x : Int), xs[k]? = some x → w.cell? ⟨b, off + k, none⟩ = some (.int .i64 x)
theorem Ints.keep {w w' : World} {B : Nat} {v : Value} {xs : List Int} (h : Ints w B v xs) (hb : Below B w w') : Ints w' B v xs := by
  rcases h with h | ⟨b, off, cap, e, hB, hc⟩
  · exact .inl h
  · exact .inr ⟨b, off, cap, e, hB, fun k x hx => (hb.cell (p := ⟨b, _, none⟩) hB).trans (hc k x hx)⟩
theorem Ints.more {w : World} {B B' : Nat} {v : Value} {xs : List Int} (h : Ints w B v xs) (hB : B ≤ B') : Ints w B' v xs := by
  rcases h with h | ⟨b, off, cap, e, hb, hc⟩
  · exact .inl h
  · exact .inr ⟨b, off, cap, e, by omega, hc⟩
theorem Ints.of_own {w : World} {B : Nat} {v : Value} {xs : List Int} (h : w.ownsRow B 3 1 v xs.length (xs.map (Value.int .i64))) : Ints w w.heap.size v xs := by
  rcases h.2 with ⟨e, h0⟩ | ⟨g, cap, cur, e, hb, hg, _⟩
  · exact .inl ⟨e, List.eq_nil_of_length_eq_zero h0⟩
  · refine .inr ⟨g, 0, cap, e, ?_, fun k x hx => ?_⟩
    · rcases Nat.lt_or_ge g w.heap.size with h | h
      · exact h
      · rw [Array.getElem?_eq_none h] at hg; cases hg
    · have hk : k < xs.length := (List.getElem?_eq_some_iff.1 hx).1
      subst e
      rw [Nat.zero_add, h.cellAt k (by omega), List.getElem?_map, hx]
      rfl

def ErrPost (v : Int) (w : World) (e : Ending) (w' : World) : Prop := e = .returned (.int .i64 v) ∧ Below w.heap.size w w'
def TwoPost (v x : Int) (w : World) (e : Ending) (w' : World) : Prop := e = .returned (.tuple #[.int .i64 v, .int .i64 x]) ∧ Below w.heap.size w w'
def IntsEPost (L : List Int) (x : Int) (w : World) (e : Ending) (w' : World) : Prop := ∃ v : Value, e = .returned (.tuple #[v, .int .i64 x]) ∧ Hid (Ints w' w'.heap.size v L) ∧ Below w.heap.size w w'
def IntsPost (L : List Int) (w : World) (e : Ending) (w' : World) : Prop := ∃ v : Value, e = .returned v ∧ Hid (Ints w' w'.heap.size v L) ∧ Below w.heap.size w w'
theorem ints_form {w : World} {B : Nat} {v : Value} {xs : List Int} (h : Ints w B v xs) : ∃ A c, v = .slice A xs.length c := by
  rcases h with ⟨rfl, rfl⟩ | ⟨b, off, cap, rfl, _⟩
  · exact ⟨none, 0, rfl⟩
  · exact ⟨_, cap, rfl⟩

set_option maxHeartbeats 1000000 in
theorem int_info3 : (Tryz.prog.info? 3).map (fun i => (i.zero, i.size, i.bytes)) = some (some (.int .i64 0), 1, 8) := by kernel_rfl
theorem owni_nil (w : World) (B : Nat) : w.ownsRow B 3 1 (.slice none 0 0) ([] : List Int).length (([] : List Int).map (Value.int .i64)) := ⟨by simp, .inl ⟨rfl, rfl⟩⟩
theorem owni_below {w w' : World} {B : Nat} {v : Value} {n : Nat} {xs : List Value} (h : w.ownsRow B 3 1 v n xs) (hb : Below w.heap.size w w') : w'.ownsRow B 3 1 v n xs :=
  h.kept (row := none) ⟨hb.os, hb.tape, hb.output, hb.size, fun k hk _ => hb.block k hk⟩ (by cases hv : v.ownBlock <;> simp)
theorem info_parts1w {o : Option TypeInfo} {z : Option Value} {n b : Nat} (h : o.map (fun i => (i.zero, i.size, i.bytes)) = some (z, n, b)) : ∃ i, o = some i ∧ i.zero = z ∧ i.size = n ∧ i.bytes = b := by
  cases o with
  | none => cases h
  | some i => simp at h; exact ⟨i, rfl, h.1, h.2.1, h.2.2⟩
/-- 'out = append(out, x)' on a row of the call's own. -/
theorem wpList_pushi {ops : Array Oper} {rest : List Oper} {o : Oper} {a : Act} {Q : Exit → Act → World → Prop} {wr : World} (hgd : o.guard = none) (s y : Operand)
    (ho : o.op = .call { callee := .builtin .append, args := #[s, y], argTypes := #[27, 27] }) (x : Int) (B : Nat) (v : Value) (n : Nat) (xs : List Value) (hs : a.eval s = v)
    (hx : a.eval y = .slice (some ⟨wr.heap.size, 0, none⟩) 1 1) (hown : wr.ownsRow B 3 1 v n xs) (hB : B ≤ wr.heap.size) (hn : n ≤ 100000)
    (h : ∀ v' w', w'.ownsRow B 3 1 v' (n + 1) (xs ++ [.int .i64 x]) → Below B wr w' → wpList Tryz.prog ops Q rest (a.put o.dst v') w') :
    wpList Tryz.prog ops Q (o :: rest) a (wr.alloc (.cells #[.int .i64 x] 3)) := by
  obtain ⟨i0, hi0, hz0, hz1, hz2⟩ := info_parts1w int_info3
  refine wpList_append_any _ hgd s y 27 ho B 3 i0 (.int .i64 0) 1 8 Tryz.underlying27 hi0 hz0 hz1 hz2 rfl (by decide) v n xs hs (hown.alloc _) (wr.heap.size + 1) (some ⟨wr.heap.size, 0, none⟩) 1 1 [.int .i64 x] hx ?_ ?_ ?_ ?_ ?_ ?_
  · refine ⟨rfl, fun _ => ⟨_, rfl, by simp, fun j u hu => ?_⟩⟩
    rcases j with _ | j
    · have hu' : u = .int .i64 x := by simpa using hu.symm
      subst hu'
      show (wr.alloc _).cell? ⟨wr.heap.size, 0, none⟩ = _
      go_cell
    · simp at hu
  · intro u hu
    simp at hu
    subst hu
    rfl
  · simp only [maxLen]; omega
  · omega
  · simp; omega
  · intro v' w' hown' hg _
    exact h v' w' hown' (((Below.refl B wr).alloc hB _).grown hg (by simp; omega) (fun j hj => (hown.lt j hj).1))
theorem owni_form {w : World} {B : Nat} {e : TypeId} {v : Value} {n : Nat} {xs : List Value} (h : w.ownsRow B e 1 v n xs) : ∃ A c, v = .slice A n c := by
  rcases h.2 with ⟨rfl, rfl⟩ | ⟨g, cap, cur, rfl, _⟩
  · exact ⟨none, 0, rfl⟩
  · exact ⟨some ⟨g, 0, none⟩, cap, rfl⟩
theorem BoxS.put9 {W : World} {B : Nat} {t : TypeId} {vs : Array Value} (h : BoxS W B t vs) (i : Nat) (v : Value) : BoxS (W.setCell ⟨B, i, none⟩ v) B t (vs.setIfInBounds i v) := by
  obtain ⟨hlt, hk⟩ := Array.getElem?_eq_some_iff.1 h
  show (W.heap.modify B _)[B]? = _
  rw [Array.getElem?_eq_getElem (by rw [Array.size_modify]; exact hlt), Array.getElem_modify_self, hk]
  rfl
theorem BoxS.put1 {W : World} {B : Nat} {t : TypeId} {a : Value} (h : BoxS W B t #[a]) (v : Value) : BoxS (W.setCell ⟨B, 0, none⟩ v) B t #[v] := h.put9 0 v
theorem BoxS.away {W : World} {B B' : Nat} {t : TypeId} {vs : Array Value} (h : BoxS W B t vs) (hne : B ≠ B') (i : Nat) (v : Value) : BoxS (W.setCell ⟨B', i, none⟩ v) B t vs := (Below.heap_setCell _ _ _ B hne).trans h
end Go.Proofs.YtmjcdggmofohcaaGreat
namespace Go.Proofs.YtmjcdggmofohcaaGreat
open Go.RowKit Go.Shelf
attribute [local go_sem] Oper.semAt_some

/-- A side: both its ends are small enough to be reckoned with. -/
abbrev Side := { s : (Int × Int) × (Int × Int) // Geo.sm s.1 ∧ Geo.sm s.2 }
def encSide (s : Side) : Value := .agg #[.int .i64 s.1.1.1, .int .i64 s.1.1.2, .int .i64 s.1.2.1, .int .i64 s.1.2.2]
theorem sm_getD {ps : List (Int × Int)} (h : ∀ p ∈ ps, Geo.sm p) (k : Nat) : Geo.sm (ps[k]?.getD (0, 0)) := by
  cases e : ps[k]? with
  | none => simp [Geo.sm]
  | some p => exact h p (List.mem_of_getElem? e)
def sideAt (ps : List (Int × Int)) (h : ∀ p ∈ ps, Geo.sm p) (k : Nat) : Side := ⟨(ps[k]?.getD (0, 0), ps[(k + 1) % ps.length]?.getD (0, 0)), sm_getD h _, sm_getD h _⟩
def sidesTo (ps : List (Int × Int)) (h : ∀ p ∈ ps, Geo.sm p) (k : Nat) : List Side := (List.range k).map (sideAt ps h)
theorem sidesTo_succ (ps : List (Int × Int)) (h : ∀ p ∈ ps, Geo.sm p) (k : Nat) : sidesTo ps h (k + 1) = sidesTo ps h k ++ [sideAt ps h k] := by
  unfold sidesTo
  rw [List.range_succ, List.map_append]
  rfl
theorem enc_at {ps : List (Int × Int)} {h : ∀ p ∈ ps, Geo.sm p} {k : Nat} {p q : Int × Int} (hp : ps[k]? = some p) (hq : ps[(k + 1) % ps.length]? = some q) : encSide (sideAt ps h k) = .agg #[.int .i64 p.1, .int .i64 p.2, .int .i64 q.1, .int .i64 q.2] := by
  unfold encSide sideAt
  simp [hp, hq]

/-- What a round that goes on keeps: what lay below n₀, and the box of the polygon. -/
def KpS (n₀ Bs : Nat) (W W' : World) : Prop := Below n₀ W W' ∧ ∀ o, W.heap[Bs]? = some o → W'.heap[Bs]? = some o
theorem KpS.trans {n₀ Bs : Nat} {X Y Z : World} (h : KpS n₀ Bs X Y) (k : KpS n₀ Bs Y Z) : KpS n₀ Bs X Z := ⟨h.1.trans k.1, fun o ho => k.2 o (h.2 o ho)⟩
theorem KpS.refl (n₀ Bs : Nat) (W : World) : KpS n₀ Bs W W := ⟨Below.refl _ _, fun _ h => h⟩
theorem KpS.alloc {n₀ Bs : Nat} (W : World) (h : n₀ ≤ W.heap.size) (o : Obj) : KpS n₀ Bs W (W.alloc o) := ⟨(Below.refl _ _).alloc h _, fun _ ho => (Below.heap_alloc W _ Bs (Array.getElem?_eq_some_iff.1 ho).1).trans ho⟩
theorem KpS.of_below {n₀ Bs : Nat} {W W' : World} (h : Below W.heap.size W W') (hn : n₀ ≤ W.heap.size) : KpS n₀ Bs W W' := ⟨h.mono hn, fun _ ho => heap_below h ho⟩
theorem KpS.drew {n₀ Bs : Nat} (W : World) : KpS n₀ Bs W W.drew := ⟨(Below.refl _ _).drew, fun _ ho => ho⟩
theorem KpS.setCell {n₀ Bs B : Nat} (W : World) (h : n₀ ≤ B) (hne : Bs ≠ B) (v : Value) : KpS n₀ Bs W (W.setCell ⟨B, 0, none⟩ v) := ⟨(Below.refl _ _).setCell (p := ⟨B, 0, none⟩) h v, fun _ ho => (Below.heap_setCell _ _ _ Bs hne).trans ho⟩
theorem KpS.putObj {n₀ Bs l : Nat} (W : World) (h : n₀ ≤ l) (hne : Bs ≠ l) (o : Obj) : KpS n₀ Bs W (W.putObj l o) := ⟨⟨rfl, rfl, rfl, by simp [World.putObj], fun k hk => World.putObj_heap_other (by omega)⟩, fun _ ho => (World.putObj_heap_other hne).trans ho⟩

theorem two_ways {e : Ending} {A B : Prop} (h : (e = .returned (.bool true) ∧ A) ∨ (e = .returned (.bool false) ∧ B)) : ∃ b : Bool, e = .returned (.bool b) ∧ (match b with | true => A | false => B) := by
  rcases h with ⟨rfl, h⟩ | ⟨rfl, h⟩
  · exact ⟨true, rfl, h⟩
  · exact ⟨false, rfl, h⟩

set_option maxRecDepth 100000 in
set_option maxHeartbeats 4000000 in
/-- The closure of sides: for every loop body that keeps what lay below n₀. -/
theorem sides1_in (F : Fence) (n : Nat) (hF : F.fn 75) (hro : F.round = none) (hn : 1 ≤ n) (l Bs n₀ : Nat) (A : Option Addr) (c : Nat) (ps : List (Int × Int)) (hps : ∀ p ∈ ps, Geo.sm p) (hlen : ps.length ≤ 100) (J Jx : List Side → World → Prop)
    (hY : ∀ pre x W, J pre W → pre.length < ps.length → YieldAt F (n - 1) Tryz.prog l #[encSide x] W fun e W' =>
      (e = .returned (.bool true) ∧ J (pre ++ [x]) W' ∧ KpS n₀ Bs W W') ∨ (e = .returned (.bool false) ∧ Jx (pre ++ [x]) W'))
    (W : World) (hJ : AbidesFrom W.heap.size J) (hBs : Boxed W Bs 22 (.slice A ps.length c)) (hn0 : n₀ ≤ W.heap.size) (hP : Prs W n₀ A ps) (h0 : J [] W) :
    CallsIn F n Tryz.prog 75 #[.func (.yield l) #[] #[], .pointer (some ⟨Bs, 0, none⟩)] W fun e W' => (∃ v, e = .returned v) ∧
      ((∃ ys, ys = sidesTo ps hps ps.length ∧ J ys W') ∨ (∃ pre, (∃ k, k ≤ ps.length ∧ pre = sidesTo ps hps k) ∧ Jx pre W')) := by
  refine callsIn_of_wp Tryz.func75 rfl hF ?_ hro
  have hBc := hBs.cell
  simp only [Tryz.ntmps75, List.size_toArray, List.length_cons, List.length_nil, Nat.reduceAdd, Nat.reduceSub, Array.replicate_succ, Array.replicate_zero, List.push_toArray, List.append_toArray, List.nil_append, List.cons_append]
  gi_wp2
  gi_loopw [7] (fun i wr => ∃ k : Nat, (k : Int) ≤ ps.length ∧ i = .int .i64 k ∧ KpS n₀ Bs W wr ∧ W.heap.size ≤ wr.heap.size ∧ J (sidesTo ps hps k) wr) (fun i _ => (ps.length - intOf i).toNat)
  case atStart => exact ⟨0, by omega, rfl, KpS.refl _ _ _, Nat.le_refl _, h0⟩
  case round =>
    obtain ⟨k, hk, rfl, hB, hsz, hJs⟩ := hrel
    have hk0 := Int.natCast_nonneg k
    by_cases hlt : (k : Int) < ps.length
    · have hkl : k < ps.length := by omega
      have hpk : ps[k]? = some ps[k] := List.getElem?_eq_getElem hkl
      have hm : (k + 1) % ps.length < ps.length := Nat.mod_lt _ (by omega)
      have hqk : ps[(k + 1) % ps.length]? = some ps[(k + 1) % ps.length] := List.getElem?_eq_getElem hm
      obtain ⟨b, off, rfl, hb, hc⟩ := hP (by omega)
      have d0 := (hB.1.cell (p := ⟨b, off + k * 2, none⟩) hb).trans (hc k _ hpk).1
      have d1 := (hB.1.cell (p := ⟨b, off + k * 2 + 1, none⟩) hb).trans (hc k _ hpk).2
      have d2 := (hB.1.cell (p := ⟨b, off + (k + 1) % ps.length * 2, none⟩) hb).trans (hc _ _ hqk).1
      have d3 := (hB.1.cell (p := ⟨b, off + (k + 1) % ps.length * 2 + 1, none⟩) hb).trans (hc _ _ hqk).2
      have hBs4 : Boxed wr Bs 22 (.slice (some ⟨b, off, none⟩) ps.length c) := hB.2 _ hBs
      have d4 := hBs4.cell
      have hbr : b < wr.heap.size := by omega
      have hBr : Bs < wr.heap.size := hBs4.lt
      clear hBs4
      have HE := enc_at (h := hps) hpk hqk
      have hr1 : ((k : Int) + 1) % (ps.length : Int) = (((k + 1) % ps.length : Nat) : Int) := by rw [Int.natCast_emod]; rfl
      have hr2 : ((k : Int) + 1).tmod (ps.length : Int) = (((k + 1) % ps.length : Nat) : Int) := by rw [Int.tmod_eq_emod_of_nonneg (by omega)]; exact hr1
      have hss := sidesTo_succ ps hps k
      have hpl : (sidesTo ps hps k).length < ps.length := by unfold sidesTo; simp; omega
      generalize sideAt ps hps k = sd at *
      generalize (k + 1) % ps.length = r at *
      generalize hpe : ps[k] = p at *
      generalize hqe : ps[r] = q at *
      have hw1 : IntKind.i64.wrap ((k : Int) + 1) = (k : Int) + 1 := IntWalk.i64_in _ (by omega)
      have hw2 : IntKind.i64.wrap (r : Int) = (r : Int) := IntWalk.i64_in _ (by omega)
      have hne : ¬ (ps.length : Int) = 0 := by omega
      have hne2 : ¬ ps.length = 0 := by omega
      have hne3 : ¬ ps = [] := by intro e; subst e; simp at hne2
      have hr0 : (0 : Int) ≤ (r : Int) := Int.natCast_nonneg r
      have hrl : (r : Int) < (ps.length : Int) := by omega
      obtain ⟨fn, tmps, assign, body, hy, hR⟩ := hY (sidesTo ps hps k) sd ((wr.alloc (.cells #[.int .i64 p.1, .int .i64 p.2] 53)).drew) (hJ _ _ _ none hJs ((World.grownBy_alloc wr _ none).trans ⟨rfl, rfl, rfl, Nat.le_refl _, fun _ _ _ => rfl⟩) (fun r e => by cases e)) hpl
      rw [HE] at hy
      have HSS := Lib.hid hss
      have hk2 : KpS n₀ Bs wr ((wr.alloc (.cells #[.int .i64 p.1, .int .i64 p.2] 53)).drew) := (KpS.alloc _ (by omega) _).trans (KpS.drew _)
      have HR := Lib.hid hR
      clear hpe hqe hpk hqk hss HE hR hm hJs hY
      gi_wp2
      have hmo : Tryz.prog.follows .mixedOrders = true := by kernel_rfl
      refine wpIn_region_held (fun W => W = (wr.alloc (.cells #[.int .i64 p.1, .int .i64 p.2] 53)).drew) 11 hmo ?_
      refine wpHeldIn_take (i := 0) (v := ?_) (plain_of (by kernel_rfl)) rfl (by kernel_rfl) (fun _ _ _ h => h) (yieldsSoIn_of (by kernel_rfl) ?_ (fun _ => rfl)) rfl ?_; rotate_left; focus (intro w hw; cases hw; go_simp; try (with_reducible rfl))
      refine wpHeldIn_take (i := 1) (v := ?_) (plain_of (by kernel_rfl)) rfl (by kernel_rfl) (fun _ _ _ h => h) (yieldsSoIn_of (by kernel_rfl) ?_ (fun _ => rfl)) rfl ?_; rotate_left; focus (intro w hw; cases hw; go_simp; try (with_reducible rfl))
      refine wpHeldIn_take (i := 2) (v := ?_) (plain_of (by kernel_rfl)) rfl (by kernel_rfl) (fun _ _ _ h => h) (yieldsSoIn_of (by kernel_rfl) ?_ (fun _ => rfl)) rfl ?_; rotate_left; focus (intro w hw; cases hw; go_simp; try (with_reducible rfl))
      refine wpHeldIn_take (i := 3) (v := ?_) (plain_of (by kernel_rfl)) rfl (by kernel_rfl) (fun _ _ _ h => h) (yieldsSoIn_of (by kernel_rfl) ?_ (fun _ => rfl)) rfl ?_; rotate_left; focus (intro w hw; cases hw; go_simp; try (with_reducible rfl))
      refine wpHeldIn_take (i := 4) (v := ?_) (plain_of (by kernel_rfl)) rfl (by kernel_rfl) (fun _ _ _ h => h) (yieldsSoIn_of (by kernel_rfl) ?_ (fun _ => rfl)) rfl ?_; rotate_left; focus (intro w hw; cases hw; go_simp; try (with_reducible rfl))
      refine wpHeldIn_take (i := 5) (v := ?_) (plain_of (by kernel_rfl)) rfl (by kernel_rfl) (fun _ _ _ h => h) (yieldsSoIn_of (by kernel_rfl) ?_ (fun _ => rfl)) rfl ?_; rotate_left; focus (intro w hw; cases hw; go_simp; try (with_reducible rfl))
      refine wpHeldIn_take (i := 6) (v := ?_) (plain_of (by kernel_rfl)) rfl (by kernel_rfl) (fun _ _ _ h => h) (yieldsSoIn_of (by kernel_rfl) ?_ (fun _ => rfl)) rfl ?_; rotate_left; focus (intro w hw; cases hw; go_simp; try (with_reducible rfl))
      refine wpHeldIn_take (i := 7) (v := ?_) (plain_of (by kernel_rfl)) rfl (by kernel_rfl) (fun _ _ _ h => h) (yieldsSoIn_of (by kernel_rfl) ?_ (fun _ => rfl)) rfl ?_; rotate_left; focus (intro w hw; cases hw; go_simp; try (with_reducible rfl))
      refine wpHeldIn_take (i := 8) (v := ?_) (plain_of (by kernel_rfl)) rfl (by kernel_rfl) (fun _ _ _ h => h) (yieldsSoIn_of (by kernel_rfl) ?_ (fun _ => rfl)) rfl ?_; rotate_left; focus (intro w hw; cases hw; go_simp; try (with_reducible rfl))
      refine wpHeldIn_take (i := 9) (v := ?_) (plain_of (by kernel_rfl)) rfl (by kernel_rfl) (fun _ _ _ h => h) (yieldsSoIn_of (by kernel_rfl) ?_ (fun _ => rfl)) rfl ?_; rotate_left; focus (intro w hw; cases hw; go_simp; try (with_reducible rfl))
      refine wpHeldIn_take (i := 10) (v := ?_) (plain_of (by kernel_rfl)) rfl (by kernel_rfl) (fun _ _ _ h => h) (yieldsSoIn_of (by kernel_rfl) ?_ (fun _ => rfl)) rfl ?_; rotate_left; focus (intro w hw; cases hw; go_simp; try (with_reducible rfl))
      refine wpHeldIn_last (by kernel_rfl) rfl (by rfl) (fun K' hK' => ?_)
      go_simp
      refine HR.out.mono ?_
      rintro e W3 (⟨rfl, hJ3, hk3⟩ | ⟨rfl, hJx3⟩)
      · refine hK' _ _ ?_
        refine wpHeldIn_take (i := 12) (v := ?_) (plain_of (by kernel_rfl)) rfl (by kernel_rfl) (fun _ _ _ h => h) (yieldsSoIn_of (by kernel_rfl) ?_ (fun _ => rfl)) trivial ?_; rotate_left; focus (intro w _; go_simp; try (with_reducible rfl))
        refine wpHeldIn_done (by kernel_rfl) ?_ _
        gi_wp2
        go_roundw
        case rel => exact ⟨k + 1, by omega, by go_num, hB.trans (hk2.trans hk3), by have := hk2.1.size; have := hk3.1.size; omega, by rw [HSS.out]; exact hJ3⟩
        case measure => simp [intOf]; omega
      · refine hK' _ _ ?_
        refine wpHeldIn_take (i := 12) (v := ?_) (plain_of (by kernel_rfl)) rfl (by kernel_rfl) (fun _ _ _ h => h) (yieldsSoIn_of (by kernel_rfl) ?_ (fun _ => rfl)) trivial ?_; rotate_left; focus (intro w _; go_simp; try (with_reducible rfl))
        refine wpHeldIn_done (by kernel_rfl) ?_ _
        gi_wp2
        refine bodyPost_ret (results_none rfl _ _ _) rfl ?_
        exact ⟨⟨_, rfl⟩, .inr ⟨_, ⟨k + 1, by omega, HSS.out.symm⟩, hJx3⟩⟩
    · obtain rfl : k = ps.length := by omega
      gi_wp2
      go_end0
      exact ⟨⟨_, rfl⟩, .inl hJs⟩
end Go.Proofs.YtmjcdggmofohcaaGreat
namespace Go.Proofs.YtmjcdggmofohcaaGreat
open Go.RowKit Go.Shelf
attribute [local go_sem] Oper.semAt_some

set_option maxHeartbeats 1000000 in
theorem sides_in (F : Fence) (n : Nat) (hF : F.fn 50) (hro : F.round = none) (A : Option Addr) (k c : Nat) (w : World) :
    CallsIn F n Tryz.prog 50 #[.slice A k c] w fun e w' => e = .returned (.func (.func 75) #[] #[.pointer (some ⟨w.heap.size, 0, none⟩)]) ∧ w' = w.alloc (.cells #[.slice A k c] 22) := by
  refine callsIn_of_wp Tryz.func50 rfl hF ?_ hro
  simp only [Tryz.ntmps50, List.size_toArray, List.length_cons, List.length_nil, Nat.reduceAdd, Nat.reduceSub, Array.replicate_succ, Array.replicate_zero, List.push_toArray, List.append_toArray, List.nil_append, List.cons_append]
  gi_wp2
  go_ret
  exact ⟨rfl, rfl⟩

/-- What sides hands back yields all sides, in order; or a part of them, where a round has said 'no more'. -/
theorem sides_stops (F : Fence) (n : Nat) (hF : F.fn 75) (hro : F.round = none) (hn : 1 ≤ n) (Bs n₀ : Nat) (A : Option Addr) (c : Nat) (ps : List (Int × Int)) (hps : ∀ p ∈ ps, Geo.sm p) (hlen : ps.length ≤ 100) (w : World)
    (hBs : Boxed w Bs 22 (.slice A ps.length c)) (hn0 : n₀ ≤ w.heap.size) (hP : Prs w n₀ A ps) :
    SeqStopsK F n Tryz.prog 75 #[.pointer (some ⟨Bs, 0, none⟩)] (fun x : Side => #[encSide x]) (KpS n₀ Bs) (fun ys => ys = sidesTo ps hps ps.length) (fun pre => ∃ k, k ≤ ps.length ∧ pre = sidesTo ps hps k) ps.length w := fun l J Jx W hW hJ _ hY h0 =>
  sides1_in F n hF hro hn l Bs n₀ A c ps hps hlen J Jx hY W hJ (boxed_below hBs hW) (Nat.le_trans hn0 hW.size) (hP.keep (hW.mono hn0)) h0

def sumOf (val : Side → Int) (l : List Side) : Int := (l.map val).sum
theorem sumOf_snoc (val : Side → Int) (l : List Side) (x : Side) : sumOf val (l ++ [x]) = sumOf val l + val x := by simp [sumOf]
theorem sumOf_bd {val : Side → Int} {M : Int} (h : ∀ x, -M ≤ val x ∧ val x ≤ M) (l : List Side) : -(M * l.length) ≤ sumOf val l ∧ sumOf val l ≤ M * l.length := by
  induction l with
  | nil => simp [sumOf]
  | cons x l ih =>
    have hx := h x
    have e1 : sumOf val (x :: l) = val x + sumOf val l := by simp [sumOf]
    have e2 : M * ((x :: l).length : Int) = M + M * (l.length : Int) := by rw [List.length_cons]; push_cast; rw [Int.mul_add]; omega
    rw [e1, e2]
    omega
theorem sidesTo_len (ps : List (Int × Int)) (h : ∀ p ∈ ps, Geo.sm p) (k : Nat) : (sidesTo ps h k).length = k := by unfold sidesTo; simp

set_option maxRecDepth 100000 in
set_option maxHeartbeats 4000000 in
theorem total_in (n : Nat) (hn : 6 ≤ n) (A : Option Addr) (c : Nat) (ps : List (Int × Int)) (hps : ∀ p ∈ ps, Geo.sm p) (hlen : ps.length ≤ 100) (g : Nat) (val : Side → Int) (hval : ∀ x, -1000000000000000 ≤ val x ∧ val x ≤ 1000000000000000)
    (eg : ∀ args W, (callFunc g args).run Tryz.prog W = .ok (.enter g args) W)
    (hg : ∀ x m W, CallsIn Fence.wide m Tryz.prog g #[encSide x] W fun e W' => e = .returned (.int .i64 (val x)) ∧ Below W.heap.size W W') (w : World) (hP : Prs w w.heap.size A ps) :
    CallsIn Fence.wide n Tryz.prog 53 #[.slice A ps.length c, .func (.func g) #[] #[]] w fun e w' => e = .returned (.int .i64 (sumOf val (sidesTo ps hps ps.length))) ∧ Below w.heap.size w w' := by
  have h1 : 1 ≤ n := by omega
  have HG := Lib.hid hg
  have HV := Lib.hid hval
  have HP := Lib.hid hP
  clear hg hval hP
  refine callsIn_of_wp_marks Tryz.func53 rfl trivial ?_ rfl
  simp only [Tryz.ntmps53, List.size_toArray, List.length_cons, List.length_nil, Nat.reduceAdd, Nat.reduceSub, Array.replicate_succ, Array.replicate_zero, List.push_toArray, List.append_toArray, List.nil_append, List.cons_append]
  gi_wp2_with (refine ⟨trivial, ?_⟩; gi_at_call 50; refine (sides_in Fence.wide (n - 1) trivial rfl _ _ _ _).mono ?_; rintro e w' ⟨rfl, rfl⟩)
  have bG := ((Boxed.new w 108 (.func (.func g) #[] #[])).alloc (.cells #[.int .i64 0] 3)).alloc (.cells #[.slice A ps.length c] 22)
  have bR := (Boxed.new (w.alloc (.cells #[.func (.func g) #[] #[]] 108)) 3 (.int .i64 0)).alloc (.cells #[.slice A ps.length c] 22)
  have bA := Boxed.new ((w.alloc (.cells #[.func (.func g) #[] #[]] 108)).alloc (.cells #[.int .i64 0] 3)) 22 (.slice A ps.length c)
  simp only [World.size_alloc] at bR bA
  have hB0 : Below w.heap.size w (((w.alloc (.cells #[.func (.func g) #[] #[]] 108)).alloc (.cells #[.int .i64 0] 3)).alloc (.cells #[.slice A ps.length c] 22)) := (((Below.refl _ w).alloc (Nat.le_refl _) _).alloc (by simp) _).alloc (by simp; omega) _
  have hsz : (((w.alloc (.cells #[.func (.func g) #[] #[]] 108)).alloc (.cells #[.int .i64 0] 3)).alloc (.cells #[.slice A ps.length c] 22)).heap.size = w.heap.size + 3 := by simp
  obtain ⟨W0, hW0⟩ : ∃ W0, ((w.alloc (.cells #[.func (.func g) #[] #[]] 108)).alloc (.cells #[.int .i64 0] 3)).alloc (.cells #[.slice A ps.length c] 22) = W0 := ⟨_, rfl⟩
  rw [hW0] at bG bR bA hB0 hsz ⊢
  clear hW0
  have hP1 : Prs W0 w.heap.size A ps := HP.out.keep hB0
  refine wpIn_rangeFunc_ownH rfl h1 (gf := 75) (lb := #[.pointer (some ⟨w.heap.size + 1 + 1, 0, none⟩)]) rfl trivial (enters_of Tryz.func75 (by kernel_rfl) rfl)
    (sides_stops Fence.wide (n - 1) trivial rfl (by omega) (w.heap.size + 1 + 1) w.heap.size A c ps hps hlen W0 bA (by omega) hP1) KpS.trans (fun W l o o' hl _ _ _ => KpS.putObj W (by omega) (by omega) o') (Below.refl _ _) (fun _ => rfl)
    (fun pre W => (Boxed W (w.heap.size + 1) 3 (.int .i64 (sumOf val pre)) ∧ Boxed W w.heap.size 108 (.func (.func g) #[] #[])) ∧ Below w.heap.size w W)
    (fun _ _ _ => False)
    (OwnFrom.and (OwnFrom.and (Own.from (boxed_own _ _ _) _) (Own.from (boxed_own _ _ _) _)) (ownFrom_below (Nat.le_refl _) (by omega)))
    (fun _ _ _ _ _ hs _ _ => hs)
    ⟨⟨bR, bG⟩, hB0⟩
    (fun x a' W => ∃ Bx, w.heap.size + 1 < Bx ∧ BoxS W Bx 105 #[.int .i64 x.1.1.1, .int .i64 x.1.1.2, .int .i64 x.1.2.1, .int .i64 x.1.2.2] ∧ a' = { tmps := #[.slice A ps.length c, .func (.func g) #[] #[], undef, .pointer (some ⟨w.heap.size, 0, none⟩), .int .i64 0, .pointer (some ⟨w.heap.size + 1, 0, none⟩), .pointer (some ⟨Bx, 0, none⟩), .slice A ps.length c, .func (.func 75) #[] #[.pointer (some ⟨w.heap.size + 1 + 1, 0, none⟩)], encSide x, undef, undef, undef, undef, undef, undef], defers := [] })
    (fun x a' _ X Y row hs hg hr => by obtain ⟨Bx, e1, e2, e3⟩ := hs; exact ⟨Bx, e1, boxS_own Bx 105 (fun (_ : Unit) => #[.int .i64 x.1.1.1, .int .i64 x.1.1.2, .int .i64 x.1.2.1, .int .i64 x.1.2.2]) () X Y row e2 hg (fun r e => (hr r e).2), e3⟩)
    ?assign ?body ?done ?stop
  case assign =>
    rintro l pre x W K ⟨⟨bR1, bG1⟩, hB1⟩ hK
    unfold encSide
    gi_wp2
    exact hK _ _ ((KeepsOthers.alloc _ _).from _) (KpS.alloc W hB1.size _) ⟨⟨bR1.alloc _, bG1.alloc _⟩, hB1.alloc hB1.size _⟩ ⟨W.heap.size, bR1.lt, BoxS.new W _ _, rfl⟩
  case body =>
    rintro l pre x a' W hl ⟨r, hr⟩ ⟨⟨bR1, bG1⟩, hB1⟩ ⟨Bx, hBx, bX, rfl⟩ hlt
    have h1' : 1 ≤ n - 1 - 1 := by omega
    obtain ⟨v1, v2⟩ := sumOf_bd HV.out pre
    obtain ⟨v3, v4⟩ := HV.out x
    have hsn := Lib.hid (sumOf_snoc val pre x)
    generalize sumOf val pre = s0 at *
    have hgx := fun m W => HG.out x m W
    have HGX := Lib.hid hgx
    clear hgx
    generalize val x = vx at *
    have hmo : Tryz.prog.follows .mixedOrders = true := by kernel_rfl
    have hsW := hB1.size
    gi_wp2
    refine wpIn_region_held (fun W' => Below W.heap.size W W') 5 hmo ?_
    have q0 : Below W.heap.size W W.drew := (Below.refl _ _).drew
    have c1 : ∀ W', Below W.heap.size W W' → W'.cell? ⟨w.heap.size + 1, 0, none⟩ = some (.int .i64 s0) := fun W' h => (boxed_below bR1 h).cell
    have c2 : ∀ W', Below W.heap.size W W' → W'.cell? ⟨w.heap.size, 0, none⟩ = some (.func (.func g) #[] #[]) := fun W' h => (boxed_below bG1 h).cell
    have c3 : ∀ W', Below W.heap.size W W' → W'.cell? ⟨Bx, 0, none⟩ = some (.int .i64 x.1.1.1) ∧ W'.cell? ⟨Bx, 1, none⟩ = some (.int .i64 x.1.1.2) ∧ W'.cell? ⟨Bx, 2, none⟩ = some (.int .i64 x.1.2.1) ∧ W'.cell? ⟨Bx, 3, none⟩ = some (.int .i64 x.1.2.2) := fun W' h => ⟨(bX.below h).cell 0 rfl, (bX.below h).cell 1 rfl, (bX.below h).cell 2 rfl, (bX.below h).cell 3 rfl⟩
    have C1 := Lib.hid c1
    have C2 := Lib.hid c2
    have C3 := Lib.hid c3
    clear c1 c2 c3
    refine wpHeldIn_take (i := 0) (v := ?_) (plain_of (by kernel_rfl)) rfl (by kernel_rfl) (fun _ _ _ h => h) (yieldsSoIn_of (by rfl) ?_ (fun _ => rfl)) q0 ?_
    rotate_left
    · intro wq hw; have k := C1.out _ hw; clear hw; go_simp; try (with_reducible rfl)
    refine wpHeldIn_take (i := 1) (v := ?_) (plain_of (by kernel_rfl)) rfl (by kernel_rfl) (fun _ _ _ h => h) (yieldsSoIn_of (by rfl) ?_ (fun _ => rfl)) q0 ?_
    rotate_left
    · intro wq hw; have k := C2.out _ hw; clear hw; go_simp; try (with_reducible rfl)
    refine wpHeldIn_take (i := 2) (v := ?_) (plain_of (by kernel_rfl)) rfl (by kernel_rfl) (fun _ _ _ h => h) (yieldsSoIn_of (by rfl) ?_ (fun _ => rfl)) q0 ?_
    rotate_left
    · intro wq hw; obtain ⟨k1, k2, k3, k4⟩ := C3.out _ hw; clear hw; go_simp; try (with_reducible rfl)
    refine wpHeldIn_one (i := 3) (by kernel_rfl) (by kernel_rfl) rfl (by rfl) (fun K' hK' => ?_)
    go_simp
    refine ⟨trivial, (CallsIn.inRound l (HGX.out _ _)).mono ?_⟩
    rintro e w1 ⟨rfl, hb1⟩
    have q1 : Below W.heap.size W w1 := q0.trans hb1
    have bR2 := boxed_below bR1 q1
    have k1 := bR2.cell
    have k2 := bR2.frozen
    refine hK' _ _ q1 ?_
    refine wpHeldIn_take (i := 4) (v := ?_) (plain_of (by kernel_rfl)) rfl (by kernel_rfl) (fun _ _ _ h => h) (yieldsSoIn_of (by rfl) ?_ (fun _ => rfl)) q1 ?_
    rotate_left
    · intro wq hw; clear hw; go_simp; try (with_reducible rfl)
    refine wpHeldIn_last (by kernel_rfl) rfl (by rfl) (fun K2 hK2 => ?_)
    go_simp
    refine hK2 _ _ ?_
    refine wpHeldIn_done (by kernel_rfl) ?_ _
    gi_wp2
    have hwr : IntKind.i64.wrap (s0 + vx) = s0 + vx := IntWalk.i64_in _ (by omega)
    exact ⟨(keepsFrom_below _ q1).trans ((KeepsOthers.setCell _ _ _).from _), (KpS.of_below q1 hsW).trans (KpS.setCell _ (by omega) (by omega) _), ⟨by rw [hsn.out, hwr]; exact bR2.set _, Boxed.other (boxed_below bG1 q1) (by omega) _⟩, (hB1.trans (q1.mono hsW)).setCell (p := ⟨w.heap.size + 1, 0, none⟩) (by simp) _⟩
  case done =>
    rintro D zs W hD rfl ⟨⟨bR1, bG1⟩, hB1⟩ hK
    have cR := bR1.cell
    have fR := bR1.frozen
    gi_wp2
    refine ⟨by simp, .inl ⟨_, _, rfl, run_takeDeferred hK, ?_⟩⟩
    exact ⟨_, results_tmp rfl _ _ _, rfl, hB1.trans (belowK_b (w := w) (Nat.le_refl _) W D _ _ (by omega) hK rfl rfl)⟩
  case stop =>
    rintro D c pre W hD hpre h hK
    exact h.elim
end Go.Proofs.YtmjcdggmofohcaaGreat
