/- A load may be taken first inside a fence, where nobody in the region writes its cell: what it yields in every world that keeps what the region has to keep. -/
import Derived.OrdersIn
import Derived.OrdersHeld
import Derived.TacticsIn
namespace Go.Proofs.YtkmacpkjobdffaaGreat

section
variable {F : Fence} {n : Nat} {P : Program} {ops : Array Oper} {Q : Exit → Act → World → Prop} {md : Region.Mode} {S : World → Prop} {c : Nat}

/-- It yields in every world that keeps S, and is about to make no call. -/
def YieldsSoIn (F : Fence) (P : Program) (ops : Array Oper) (S : World → Prop) (o : Oper) (v : Value) (a : Act) : Prop :=
  (YieldsIf P ops S o v a ∨ (Region.wanted o (yielded ops a.tmps) = true ∧ ∃ f args, (∀ w, S w → (execOp a.eval o).run P w = .ok (.enter f args) w) ∧ F.depth.isSome = false ∧ ∀ m w, S w → CallsIn F m P f args w fun e w' => e = .returned v ∧ w' = w)) ∧
  ∀ w f, o.about P w a.eval = some f → F.fn f

theorem yieldsSoIn_of {o : Oper} {v : Value} {a : Act} (hw : Region.wanted o (yielded ops a.tmps) = true) (hv : ∀ w, S w → (execOp a.eval o).run P w = .ok (.value v) w) (hb : ∀ w, o.about P w a.eval = none) : YieldsSoIn F P ops S o v a :=
  ⟨.inl (.inl ⟨hw, hv⟩), fun w f h => by rw [hb w] at h; cases h⟩
/-- What its guard leaves out. -/
theorem yieldsSoIn_skip {o : Oper} {a : Act} (hw : Region.wanted o (yielded ops a.tmps) = false) (hF : ∀ f, F.fn f) : YieldsSoIn F P ops S o undef a :=
  ⟨.inl (.inr ⟨hw, rfl⟩), fun _ f _ => hF f⟩
/-- A call that leaves the world as it is. -/
theorem yieldsSoIn_call {o : Oper} {v : Value} {a : Act} {f : FuncId} {args : Array Value} (hw : Region.wanted o (yielded ops a.tmps) = true) (hr : ∀ w, S w → (execOp a.eval o).run P w = .ok (.enter f args) w) (hd : F.depth.isSome = false) (hF : ∀ f, F.fn f)
    (hc : ∀ m w, S w → CallsIn F m P f args w fun e w' => e = .returned v ∧ w' = w) : YieldsSoIn F P ops S o v a :=
  ⟨.inr ⟨hw, f, args, hr, hd, hc⟩, fun _ f _ => hF f⟩

/-- No operation of the region is a defer statement: each is carried out in a round as anywhere. -/
def noDefer (ops : Array Oper) : Bool := ops.all fun o => match o.op with | .defer .. => false | _ => true
def Plain (F : Fence) (ops : Array Oper) : Prop := ∀ (j : Nat) (o : Oper), ops[j]? = some o → ∀ ρ, o.semAt F.round ρ = execOp ρ o
theorem plain_none (hro : F.round = none) : Plain F ops := fun _ o _ ρ => by rw [hro]; rfl
theorem plain_of (h : noDefer ops = true) : Plain F ops := fun j o ho ρ => by
  cases hr : F.round with
  | none => rfl
  | some l =>
    refine Oper.semAt_some l ρ o (fun cc heq => ?_)
    have := Array.all_eq_true_iff_forall_mem.1 h o (Array.mem_of_getElem? ho)
    simp [heq] at this

theorem YieldsSoIn.op {i : Nat} {o : Oper} {v : Value} {a : Act} (hpl : Plain F ops) (hi : ops[i]? = some o) (hy : YieldsSoIn F P ops S o v a)
    {K : Act → World → Prop} {w : World} (hS : S w) (h : K (a.put o.dst v) w) : wpOpIn F n P ops Q i K a w := by
  unfold Go.wpOpIn
  simp only [hi]
  have hab : ∀ f, o.about P w a.eval = some f → F.fn f := fun f hf => hy.2 w f hf
  rcases hy.1 with (⟨hw, hv⟩ | ⟨hw, rfl⟩) | ⟨hw, f, args, hr, hd, hc⟩
  · simp only [hw, if_true, Oper.wpIn, hpl _ _ hi, hv w hS, Oper.uponIn]; exact ⟨hab, h⟩
  · simp only [hw, Bool.false_eq_true, if_false]; exact ⟨hab, h⟩
  · simp only [hw, if_true, Oper.wpIn, hpl _ _ hi, hr w hS, Oper.uponIn]
    refine ⟨hab, fun hh => (by rw [hd] at hh; cases hh), (hc _ w hS).mono ?_⟩
    rintro e w' ⟨rfl, rfl⟩
    exact h

theorem YieldsSoIn.of_same {o : Oper} {v : Value} {a a' : Act} (hy : YieldsSoIn F P ops S o v a) (he : execOp a'.eval o = execOp a.eval o)
    (hw : Region.wanted o (yielded ops a'.tmps) = Region.wanted o (yielded ops a.tmps)) (hb : ∀ w, o.about P w a'.eval = o.about P w a.eval) : YieldsSoIn F P ops S o v a' :=
  ⟨hy.1.imp (fun h => h.of_same he hw) (fun ⟨h1, f, args, h2, h3⟩ => ⟨by rw [hw]; exact h1, f, args, fun w hS => by rw [he]; exact h2 w hS, h3⟩), fun w f h => hy.2 w f (by rw [← hb w]; exact h)⟩

theorem wpOpIn_putSo {j : Nat} {oi oj : Oper} {v : Value} (hpl : Plain F ops) (hj : ops[j]? = some oj) (hap : oi.apart ops oj = true)
    (hsi : ∀ cs b, oi.op ≠ .select cs b) (hsj : ∀ cs b, oj.op ≠ .select cs b)
    (hQ : ∀ c a w, Q (.panic c) (a.put oi.dst v) w → Q (.panic c) a w) {K : Act → World → Prop} {a : Act} {w : World}
    (hy : YieldsSoIn F P ops S oi v a) (h : wpOpIn F n P ops Q j K (a.put oi.dst v) w) :
    wpOpIn F n P ops Q j (fun a' w' => YieldsSoIn F P ops S oi v a' ∧ K (a'.put oi.dst v) w') a w := by
  obtain ⟨h1, h2, h3⟩ := Oper.apart_spec hap
  have hplj := hpl _ _ hj
  have keep : ∀ (a : Act), YieldsSoIn F P ops S oi v a → ∀ u, YieldsSoIn F P ops S oi v (a.put oj.dst u) := fun a hy u =>
    hy.of_same (execOp_put oi hsi a oj.dst u h3) (wanted_put oi a oj.dst u h3) (fun w => about_put oi w a oj.dst u h3)
  have keepD : ∀ d, YieldsSoIn F P ops S oi v { a with defers := d :: a.defers } := fun d => hy.of_same rfl rfl (fun _ => rfl)
  unfold wpOpIn at *
  simp only [hj] at *
  rw [wanted_put oj a oi.dst v h1, about_put oj w a oi.dst v h1] at h
  split
  · rename_i hw
    simp only [hw, if_true] at h
    unfold Oper.wpIn at *
    rw [about_put oj w a oi.dst v h1] at h
    refine ⟨h.1, ?_⟩
    have h := h.2
    rw [hplj, execOp_put oj hsj a oi.dst v h1] at h
    rw [hplj]
    generalize (execOp a.eval oj).run P w = r at *
    cases r with
    | ok x w' =>
      cases x <;> simp only [Oper.uponIn] at h ⊢
      case value u => exact ⟨keep a hy u, by rw [← Act.put_comm a v u h2]; exact h⟩
      case skip => exact ⟨keep a hy _, by rw [← Act.put_comm a v undef h2]; exact h⟩
      case defer d =>
        refine ⟨keep _ (keepD d) _, ?_⟩
        rw [← Act.put_comm _ v undef h2, ← Act.put_defers]
        exact h
      case enter f args =>
        refine ⟨h.1, CallsIn.mono h.2 fun e w'' he => ?_⟩
        cases e with
        | returned u => exact ⟨keep a hy u, by rw [← Act.put_comm a v u h2]; exact he⟩
        | panicked c => exact hQ _ _ _ he
        | outgrown => exact he
      case row row args => exact ⟨h.1, RowsIn.mono h.2 fun u w'' he => ⟨keep a hy u, by rw [← Act.put_comm a v u h2]; exact he⟩⟩
      case round l f tmps assign body =>
        refine ⟨h.1, RoundIn.mono h.2 fun e w'' he => ?_⟩
        cases e with
        | returned u => exact ⟨keep a hy u, by rw [← Act.put_comm a v u h2]; exact he⟩
        | panicked c => exact hQ _ _ _ he
        | outgrown => exact he
    | halt x w' =>
      cases x <;> simp only [Oper.uponIn] at h ⊢
      case panic u => exact hQ _ _ _ h
  · rename_i hw
    simp only [hw] at h
    exact ⟨h.1, keep a hy _, by rw [← Act.put_comm a v undef h2]; exact h.2⟩

/-- Whatever order is picked from here on; S holds behind each operation that is carried out, but for number c, behind which nothing is asked of the world. -/
def wpHeldIn (F : Fence) (n : Nat) (P : Program) (md : Region.Mode) (ops : Array Oper) (Q : Exit → Act → World → Prop) (S : World → Prop) (c : Nat) : Nat → Array Bool → Act → World → Prop
  | 0, listed, a, w => Region.ready md ops listed = [] ∧ Q .normal a w
  | fuel + 1, listed, a, w =>
    (Region.ready md ops listed = [] → Q .normal a w) ∧
    ∀ i ∈ Region.ready md ops listed, if i = c then wpOpIn F n P ops Q i (wpAnyIn F n P md ops Q fuel (listed.setIfInBounds i true)) a w
      else wpOpIn F n P ops Q i (fun a' w' => S w' ∧ wpHeldIn F n P md ops Q S c fuel (listed.setIfInBounds i true) a' w') a w

theorem wpAnyIn_of_held : ∀ (fuel : Nat) (listed : Array Bool) (a : Act) (w : World), wpHeldIn F n P md ops Q S c fuel listed a w → wpAnyIn F n P md ops Q fuel listed a w
  | 0, _, _, _, h => h
  | fuel + 1, _, _, _, h => ⟨h.1, fun i hi => by
      have := h.2 i hi
      split at this
      · exact this
      · exact wpOpIn_mono (fun a' w' h' => wpAnyIn_of_held fuel _ a' w' h'.2) this⟩

/-- What must have come up before number c: what it waits for, and what that waits for. -/
def ahead (md : Region.Mode) (ops : Array Oper) : Nat → Nat → List Nat
  | 0, _ => []
  | f + 1, c => match ops[c]? with
    | none => []
    | some o => (o.after.toList.filter (Region.binds md)).flatMap fun e => e.on :: ahead md ops f e.on
def needs (md : Region.Mode) (ops : Array Oper) (c i : Nat) : Bool := (ops[c]?).isNone || (ahead md ops ops.size c).contains i
/-- What has come up did not come up before what it waits for. -/
def Reached (md : Region.Mode) (ops : Array Oper) (listed : Array Bool) : Prop := ∀ (k : Nat) (o : Oper), ops[k]? = some o → listed.getD k false = true → ∀ e ∈ o.after, Region.binds md e = true → listed.getD e.on false = true
def reachedB (md : Region.Mode) (ops : Array Oper) (listed : Array Bool) : Bool := (List.range ops.size).all fun k => !listed.getD k false || match ops[k]? with
  | none => true
  | some o => o.after.all fun e => !Region.binds md e || listed.getD e.on false
theorem reached_of {listed : Array Bool} (h : reachedB md ops listed = true) : Reached md ops listed := by
  intro k o ho hk e he hb
  unfold reachedB at h
  rw [List.all_eq_true] at h
  have h1 := h k (List.mem_range.2 (Array.getElem?_eq_some_iff.1 ho).1)
  simp only [ho, hk, Bool.not_true, Bool.false_or] at h1
  have h2 := Array.all_eq_true_iff_forall_mem.1 h1 e he
  simpa [hb] using h2
theorem Reached.step {listed : Array Bool} (h : Reached md ops listed) {j : Nat} (hj : j ∈ Region.ready md ops listed) : Reached md ops (listed.setIfInBounds j true) := by
  intro k o ho hk e he hb
  by_cases hjk : j = k
  · subst hjk
    obtain ⟨_, oj, hoj, hall⟩ := mem_ready.1 hj
    rw [ho] at hoj
    cases hoj
    exact getD_set_true (hall e he hb)
  · rw [getD_set_ne false hjk] at hk
    exact getD_set_true (h k o ho hk e he hb)
theorem ahead_listed {listed : Array Bool} (h : Reached md ops listed) : ∀ (f c : Nat) (o : Oper), ops[c]? = some o → (∀ e ∈ o.after, Region.binds md e = true → listed.getD e.on false = true) → ∀ i ∈ ahead md ops f c, listed.getD i false = true := by
  intro f
  induction f with
  | zero => intro c o _ _ i hi; simp [ahead] at hi
  | succ f ih =>
    intro c o ho hall i hi
    simp only [ahead, ho, List.mem_flatMap, List.mem_filter, Array.mem_toList_iff] at hi
    obtain ⟨e, ⟨he, hb⟩, hi⟩ := hi
    rcases List.mem_cons.1 hi with rfl | hi
    · exact hall e he hb
    · cases hoe : ops[e.on]? with
      | none => cases f <;> simp [ahead, hoe] at hi
      | some oe => exact ih e.on oe hoe (fun e' he' hb' => h e.on oe hoe (hall e he hb) e' he' hb') i hi
theorem not_before {listed : Array Bool} (h : Reached md ops listed) {i : Nat} (hn : needs md ops c i = true) (hi : listed.getD i true = false) : c ∉ Region.ready md ops listed := by
  intro hc
  obtain ⟨_, o, ho, hall⟩ := mem_ready.1 hc
  unfold needs at hn
  simp only [ho, Option.isNone_some, Bool.false_or] at hn
  have h1 := ahead_listed h _ c o ho hall i (by simpa using hn)
  rcases Nat.lt_or_ge i listed.size with h' | h'
  · simp [h'] at h1 hi; rw [hi] at h1; cases h1
  · simp [Array.getElem?_eq_none h'] at h1

theorem wpHeldIn_first {i : Nat} {oi : Oper} {v : Value} (hpl : Plain F ops) (hi : ops[i]? = some oi) (hsel : ∀ (j : Nat) (o : Oper) cs b, ops[j]? = some o → o.op ≠ .select cs b)
    (hQ : ∀ c a w, Q (.panic c) (a.put oi.dst v) w → Q (.panic c) a w) (hn : needs md ops c i = true) :
    ∀ (fuel : Nat) (listed : Array Bool) (a : Act) (w : World), Reached md ops listed →
      (∀ j oj, ops[j]? = some oj → j ≠ i → listed.getD j true = false → (∀ e ∈ oj.after, Region.binds md e = true → e.on ≠ i) → oi.apart ops oj = true) →
      i ∈ Region.ready md ops listed → YieldsSoIn F P ops S oi v a → S w →
      wpHeldIn F n P md ops Q S c fuel (listed.setIfInBounds i true) (a.put oi.dst v) w → wpHeldIn F n P md ops Q S c (fuel + 1) listed a w := by
  intro fuel
  induction fuel with
  | zero =>
    intro listed a w hR _ hr hy hS H
    refine ⟨fun h => (by rw [h] at hr; cases hr), fun j hj => ?_⟩
    have hjc : ¬ j = c := fun e => not_before hR hn (mem_ready.1 hr).1 (e ▸ hj)
    rw [if_neg hjc]
    by_cases hji : j = i
    · subst hji; exact hy.op hpl hi hS ⟨hS, H⟩
    · have := ready_mono hj hji
      rw [H.1] at this
      cases this
  | succ fuel ih =>
    intro listed a w hR hfree hr hy hS H
    refine ⟨fun h => (by rw [h] at hr; cases hr), fun j hj => ?_⟩
    have hjc : ¬ j = c := fun e => not_before hR hn (mem_ready.1 hr).1 (e ▸ hj)
    rw [if_neg hjc]
    by_cases hji : j = i
    · subst hji; exact hy.op hpl hi hS ⟨hS, H⟩
    · have h1 := H.2 j (ready_mono hj hji)
      rw [if_neg hjc] at h1
      obtain ⟨hjun, oj, hoj, hall⟩ := mem_ready.1 hj
      have hnot : ∀ e ∈ oj.after, Region.binds md e = true → e.on ≠ i := fun e he hb heq => by
        have h1 := hall e he hb
        have h0 := (mem_ready.1 hr).1
        rw [heq] at h1
        rcases Nat.lt_or_ge i listed.size with h' | h'
        · simp [h'] at h0 h1; rw [h0] at h1; cases h1
        · simp [Array.getElem?_eq_none h'] at h1
      have h2 := wpOpIn_putSo hpl hoj (hfree j oj hoj hji hjun hnot) (fun cs b => hsel i oi cs b hi) (fun cs b => hsel j oj cs b hoj) hQ hy h1
      have hfree' : ∀ k ok, ops[k]? = some ok → k ≠ i → (listed.setIfInBounds j true).getD k true = false →
          (∀ e ∈ ok.after, Region.binds md e = true → e.on ≠ i) → oi.apart ops ok = true := fun k ok hk hki hun hno => by
        refine hfree k ok hk hki ?_ hno
        by_cases hjk : j = k
        · subst hjk; exact hjun
        · rw [getD_set_ne true hjk] at hun; exact hun
      refine wpOpIn_mono (fun a' w' h3 => ⟨h3.2.1, ih (listed.setIfInBounds j true) a' w' (hR.step hj) hfree' (ready_mono hr (Ne.symm hji)) h3.1 h3.2.1 ?_⟩) h2
      rw [Array.setIfInBounds_comm _ _ hji]
      exact h3.2.2

/-- The side conditions of a take, all of them closed facts of the text. -/
def mayTake (md : Region.Mode) (ops : Array Oper) (c : Nat) (listed : Array Bool) (i : Nat) : Bool :=
  Region.noSelect ops && (Region.free md ops listed i && ((Region.ready md ops listed).contains i && (needs md ops c i && reachedB md ops listed)))

/-- Take number i first. -/
theorem wpHeldIn_take {i : Nat} {oi : Oper} {v : Value} {fuel : Nat} {listed : Array Bool} {a : Act} {w : World} (hpl : Plain F ops) (hi : ops[i]? = some oi)
    (hm : mayTake md ops c listed i = true)
    (hQ : ∀ c a w, Q (.panic c) (a.put oi.dst v) w → Q (.panic c) a w) (hy : YieldsSoIn F P ops S oi v a) (hS : S w)
    (h : wpHeldIn F n P md ops Q S c fuel (listed.setIfInBounds i true) (a.put oi.dst v) w) : wpHeldIn F n P md ops Q S c (fuel + 1) listed a w := by
  unfold mayTake at hm
  simp only [Bool.and_eq_true] at hm
  obtain ⟨hs, hf, hr, hn, hR⟩ := hm
  exact wpHeldIn_first hpl hi (Region.noSelect_spec hs) hQ hn fuel listed a w (reached_of hR) (Region.free_spec hi hf) (by simpa using hr) hy hS h

/-- What its guard leaves out, of a slot that holds nothing: the frame is as it was. -/
theorem wpHeldIn_skip {i : Nat} {oi : Oper} {fuel : Nat} {listed : Array Bool} {a : Act} {w : World} (hpl : Plain F ops) (hi : ops[i]? = some oi)
    (hm : mayTake md ops c listed i = true) (hw : Region.wanted oi (yielded ops a.tmps) = false) (hF : ∀ f, F.fn f) (hu : a.put oi.dst undef = a)
    (hQ : ∀ c a w, Q (.panic c) (a.put oi.dst undef) w → Q (.panic c) a w) (hS : S w)
    (h : wpHeldIn F n P md ops Q S c fuel (listed.setIfInBounds i true) a w) : wpHeldIn F n P md ops Q S c (fuel + 1) listed a w :=
  wpHeldIn_take hpl hi hm hQ (yieldsSoIn_skip hw hF) hS (by rw [hu]; exact h)

/-- One alone may come up. -/
theorem wpHeldIn_one {i : Nat} {o : Oper} {fuel : Nat} {listed : Array Bool} {a : Act} {w : World} (hr : Region.ready md ops listed = [i]) (hic : (i == c) = false) (ho : ops[i]? = some o)
    (hw : Region.wanted o (yielded ops a.tmps) = true)
    (h : ∀ K' : Act → World → Prop, (∀ a w, S w → wpHeldIn F n P md ops Q S c fuel (listed.setIfInBounds i true) a w → K' a w) → Oper.wpIn F n P o a w K' Q) : wpHeldIn F n P md ops Q S c (fuel + 1) listed a w :=
  ⟨fun h0 => (by rw [hr] at h0; cases h0), by
    rw [hr]
    intro j hj
    obtain rfl : j = i := by simpa using hj
    rw [if_neg (by simpa using hic)]
    unfold wpOpIn
    rw [ho]
    simp only [hw, if_true]
    exact h _ (fun a w h1 h2 => ⟨h1, h2⟩)⟩

/-- Two may come up. -/
theorem wpHeldIn_two {i j : Nat} {oi oj : Oper} {fuel : Nat} {listed : Array Bool} {a : Act} {w : World} (hr : Region.ready md ops listed = [i, j]) (hic : (i == c) = false) (hjc : (j == c) = false) (hoi : ops[i]? = some oi) (hoj : ops[j]? = some oj)
    (hwi : Region.wanted oi (yielded ops a.tmps) = true) (hwj : Region.wanted oj (yielded ops a.tmps) = true)
    (h1 : ∀ K' : Act → World → Prop, (∀ a w, S w → wpHeldIn F n P md ops Q S c fuel (listed.setIfInBounds i true) a w → K' a w) → Oper.wpIn F n P oi a w K' Q)
    (h2 : ∀ K' : Act → World → Prop, (∀ a w, S w → wpHeldIn F n P md ops Q S c fuel (listed.setIfInBounds j true) a w → K' a w) → Oper.wpIn F n P oj a w K' Q) : wpHeldIn F n P md ops Q S c (fuel + 1) listed a w :=
  ⟨fun h0 => (by rw [hr] at h0; cases h0), by
    rw [hr]
    intro k hk
    have hk' : k = i ∨ k = j := by simpa using hk
    rcases hk' with rfl | rfl
    · rw [if_neg (by simpa using hic)]
      unfold wpOpIn
      rw [hoi]
      simp only [hwi, if_true]
      exact h1 _ (fun a w h1 h2 => ⟨h1, h2⟩)
    · rw [if_neg (by simpa using hjc)]
      unfold wpOpIn
      rw [hoj]
      simp only [hwj, if_true]
      exact h2 _ (fun a w h1 h2 => ⟨h1, h2⟩)⟩

/-- Number c comes up, alone: behind it nothing is held any more. -/
theorem wpHeldIn_last {o : Oper} {fuel : Nat} {listed : Array Bool} {a : Act} {w : World} (hr : Region.ready md ops listed = [c]) (ho : ops[c]? = some o)
    (hw : Region.wanted o (yielded ops a.tmps) = true)
    (h : ∀ K' : Act → World → Prop, (∀ a w, wpHeldIn F n P md ops Q (fun _ => True) ops.size fuel (listed.setIfInBounds c true) a w → K' a w) → Oper.wpIn F n P o a w K' Q) : wpHeldIn F n P md ops Q S c (fuel + 1) listed a w :=
  ⟨fun h0 => (by rw [hr] at h0; cases h0), by
    rw [hr]
    intro j hj
    obtain rfl : j = c := by simpa using hj
    rw [if_pos rfl]
    unfold wpOpIn
    rw [ho]
    simp only [hw, if_true]
    exact h _ (fun a w h1 => wpAnyIn_of_held _ _ _ _ h1)⟩

theorem wpHeldIn_done {listed : Array Bool} {a : Act} {w : World} (hr : Region.ready md ops listed = []) (h : Q .normal a w) :
    ∀ fuel, wpHeldIn F n P md ops Q S c fuel listed a w
  | 0 => ⟨hr, h⟩
  | _ + 1 => ⟨fun _ => h, by rw [hr]; simp⟩

/-- The beginning: a region that draws its order, behind the draw. -/
theorem wpIn_region_held {id : Nat} {a : Act} {w : World} (S : World → Prop) (c : Nat) (hm : P.follows .mixedOrders = true)
    (h : wpHeldIn F n P .any ops Q S c ops.size (Array.replicate ops.size false) a w.drew) : (Code.region id ops true).wpIn F n P Q a w :=
  wpIn_region_any hm (wpAnyIn_of_held _ _ _ _ h)

end
end Go.Proofs.YtkmacpkjobdffaaGreat

namespace Go.Proofs.YtkmacpkjobdffaaGreat

section
variable {F : Fence} {n : Nat} {P : Program} {ops : Array Oper} {Q : Exit → Act → World → Prop} {md : Region.Mode} {S : World → Prop} {c : Nat}
/-- Three may come up. -/
theorem wpHeldIn_three {i j k : Nat} {oi oj ok : Oper} {fuel : Nat} {listed : Array Bool} {a : Act} {w : World} (hr : Region.ready md ops listed = [i, j, k]) (hic : (i == c) = false) (hjc : (j == c) = false) (hkc : (k == c) = false) (hoi : ops[i]? = some oi) (hoj : ops[j]? = some oj) (hok : ops[k]? = some ok)
    (hwi : Region.wanted oi (yielded ops a.tmps) = true) (hwj : Region.wanted oj (yielded ops a.tmps) = true) (hwk : Region.wanted ok (yielded ops a.tmps) = true)
    (h1 : ∀ K' : Act → World → Prop, (∀ a w, S w → wpHeldIn F n P md ops Q S c fuel (listed.setIfInBounds i true) a w → K' a w) → Oper.wpIn F n P oi a w K' Q)
    (h2 : ∀ K' : Act → World → Prop, (∀ a w, S w → wpHeldIn F n P md ops Q S c fuel (listed.setIfInBounds j true) a w → K' a w) → Oper.wpIn F n P oj a w K' Q)
    (h3 : ∀ K' : Act → World → Prop, (∀ a w, S w → wpHeldIn F n P md ops Q S c fuel (listed.setIfInBounds k true) a w → K' a w) → Oper.wpIn F n P ok a w K' Q) : wpHeldIn F n P md ops Q S c (fuel + 1) listed a w :=
  ⟨fun h0 => (by rw [hr] at h0; cases h0), by
    rw [hr]
    intro m hm
    have hm' : m = i ∨ m = j ∨ m = k := by simpa using hm
    rcases hm' with rfl | rfl | rfl
    · rw [if_neg (by simpa using hic)]
      unfold wpOpIn
      rw [hoi]
      simp only [hwi, if_true]
      exact h1 _ (fun a w h1 h2 => ⟨h1, h2⟩)
    · rw [if_neg (by simpa using hjc)]
      unfold wpOpIn
      rw [hoj]
      simp only [hwj, if_true]
      exact h2 _ (fun a w h1 h2 => ⟨h1, h2⟩)
    · rw [if_neg (by simpa using hkc)]
      unfold wpOpIn
      rw [hok]
      simp only [hwk, if_true]
      exact h3 _ (fun a w h1 h2 => ⟨h1, h2⟩)⟩

end
end Go.Proofs.YtkmacpkjobdffaaGreat
